/-
  Pipes: absolute values, drops, what makes a pipe valid, and the codes of both sides.
-/
import Derived.Test.YtdaedgdglammhaaW4
import Derived.Test.YtdaedgdglammhaaB2
namespace Go.Proofs.Ytdaedgdglammhaa
open Go.ChangeShapes Go.WideShapes Go.ChangeAt Go.RowKit


theorem l00Max_any (a b : Int) (w : World) : Calls Try.prog 95 #[.int .i64 a, .int .i64 b] w fun e w' => e = .returned (.int .i64 (max a b)) ∧ w = w' := by
  have H : Hid (b < a → max a b = a) := Lib.hid (by omega)
  have H2 : Hid (¬ b < a → max a b = b) := Lib.hid (by omega)
  generalize max a b = m at *
  by_cases h : b < a
  · have e := H.out h
    subst e
    go_enter Try.func95, Try.ntmps95
    go_wp2
    go_ret
    exact ⟨rfl, rfl⟩
  · have e := H2.out h
    subst e
    have h' : decide (m < a) = false := by simpa using h
    go_enter Try.func95, Try.ntmps95
    go_wp2
    go_ret
    exact ⟨rfl, rfl⟩

theorem l00Min_any (a b : Int) (w : World) : Calls Try.prog 104 #[.int .i64 a, .int .i64 b] w fun e w' => e = .returned (.int .i64 (min a b)) ∧ w = w' := by
  have H : Hid (a < b → min a b = a) := Lib.hid (by omega)
  have H2 : Hid (¬ a < b → min a b = b) := Lib.hid (by omega)
  generalize min a b = m at *
  by_cases h : a < b
  · have e := H.out h
    subst e
    go_enter Try.func104, Try.ntmps104
    go_wp2
    go_ret
    exact ⟨rfl, rfl⟩
  · have e := H2.out h
    subst e
    have h' : decide (a < m) = false := by simpa using h
    go_enter Try.func104, Try.ntmps104
    go_wp2
    go_ret
    exact ⟨rfl, rfl⟩

/-- a pipe in memory -/
def PipeAt (w : World) (b : Nat) (id : ByteArray) (f t L d s : Int) : Prop :=
  w.cell? ⟨b, 0, none⟩ = some (.string id) ∧ w.cell? ⟨b, 1, none⟩ = some (.int .i64 f) ∧ w.cell? ⟨b, 2, none⟩ = some (.int .i64 t) ∧ w.cell? ⟨b, 3, none⟩ = some (.int .i64 L) ∧ w.cell? ⟨b, 4, none⟩ = some (.int .i64 d) ∧ w.cell? ⟨b, 5, none⟩ = some (.int .i64 s)
theorem PipeAt.lies {w : World} {b : Nat} {id : ByteArray} {f t L d s : Int} (h : PipeAt w b id f t L d s) : b < w.heap.size := World.block_lt_of_cell? _ _ h.1
theorem PipeAt.next {w w' : World} {b : Nat} {id : ByteArray} {f t L d s : Int} (h : PipeAt w b id f t L d s) (hb : Below w.heap.size w w') : PipeAt w' b id f t L d s := by
  have l := h.lies
  exact ⟨(hb.cell (p := ⟨b, 0, none⟩) l).trans h.1, (hb.cell (p := ⟨b, 1, none⟩) l).trans h.2.1, (hb.cell (p := ⟨b, 2, none⟩) l).trans h.2.2.1, (hb.cell (p := ⟨b, 3, none⟩) l).trans h.2.2.2.1, (hb.cell (p := ⟨b, 4, none⟩) l).trans h.2.2.2.2.1, (hb.cell (p := ⟨b, 5, none⟩) l).trans h.2.2.2.2.2⟩
theorem PipeAt.new (w : World) (id : ByteArray) (f t L d s : Int) (T : TypeId) : PipeAt (w.alloc (.cells #[.string id, .int .i64 f, .int .i64 t, .int .i64 L, .int .i64 d, .int .i64 s] T)) w.heap.size id f t L d s := by
  unfold PipeAt
  simp
theorem PipeAt.alloc {w : World} {b : Nat} {id : ByteArray} {f t L d s : Int} (h : PipeAt w b id f t L d s) (o : Obj) : PipeAt (w.alloc o) b id f t L d s := h.next (bal (Below.refl _ _) o)
theorem PipeAt.draw {w : World} {b : Nat} {id : ByteArray} {f t L d s : Int} (h : PipeAt w b id f t L d s) (n : Nat) : PipeAt (w.drewN n) b id f t L d s := h

/-- what makes a pipe valid -/
def okP (id : ByteArray) (f t L d s : Int) : Bool := nameL id.data.toList && (inB f 0 15 && (inB t 0 15 && (!decide (f = t) && (inB L 1 10000 && (inB d 20 1000 && inB s 0 5000)))))

theorem l03Ok_any (b : Nat) (id : ByteArray) (f t L d s : Int) (w : World) (hp : PipeAt w b id f t L d s) (hs : id.size ≤ maxLen) :
    Calls Try.prog 146 #[.pointer (some ⟨b, 0, none⟩)] w fun e w' => e = .returned (.bool (okP id f t L d s)) ∧ Drawn w w' := by
  obtain ⟨p0, p1, p2, p3, p4, p5⟩ := hp
  by_cases h0 : nameL id.data.toList = true
  · skip
    by_cases h1 : inB f 0 15 = true
    · skip
      by_cases h2 : inB t 0 15 = true
      · skip
        by_cases h3 : f = t
        · have h3' : (f == t) = true := by simpa using h3
          have h3n : (f != t) = false := by simpa using h3
          have hv : okP id f t L d s = false := by unfold okP; simp [h3]
          rw [hv]
          clear hv
          have H3 := Lib.hid h3
          clear h3
          go_enter Try.func146, Try.ntmps146
          go_wp2
          go_quiet ((first | (go_at_call 138; exact quiet_same (l01Name_any _ _ hs)) | (go_at_call 65; exact quiet_same (in_any _ _ _ _))))
          go_wp2
          go_ret
          exact ⟨rfl, ⟨_, rfl⟩⟩
        · have h3' : (f == t) = false := by simpa using h3
          have h3n : (f != t) = true := by simpa using h3
          by_cases h4 : inB L 1 10000 = true
          · skip
            by_cases h5 : inB d 20 1000 = true
            · skip
              by_cases h6 : inB s 0 5000 = true
              · skip
                have hv : okP id f t L d s = true := by unfold okP; simp [*]
                rw [hv]
                clear hv
                go_enter Try.func146, Try.ntmps146
                go_wp2
                go_quiet ((first | (go_at_call 138; exact quiet_same (l01Name_any _ _ hs)) | (go_at_call 65; exact quiet_same (in_any _ _ _ _))))
                go_wp2_with ((go_at_call 65; refine (in_any _ _ _ _).mono ?_; rintro e w' ⟨rfl, rfl⟩))
                go_ret
                exact ⟨rfl, ⟨_, rfl⟩⟩
              · have h6' : inB s 0 5000 = false := by simpa using h6
                have hv : okP id f t L d s = false := by unfold okP; simp [*]
                rw [hv]
                clear hv
                go_enter Try.func146, Try.ntmps146
                go_wp2
                go_quiet ((first | (go_at_call 138; exact quiet_same (l01Name_any _ _ hs)) | (go_at_call 65; exact quiet_same (in_any _ _ _ _))))
                go_wp2_with ((go_at_call 65; refine (in_any _ _ _ _).mono ?_; rintro e w' ⟨rfl, rfl⟩))
                go_ret
                exact ⟨rfl, ⟨_, rfl⟩⟩
            · have h5' : inB d 20 1000 = false := by simpa using h5
              have hv : okP id f t L d s = false := by unfold okP; simp [*]
              rw [hv]
              clear hv
              go_enter Try.func146, Try.ntmps146
              go_wp2
              go_quiet ((first | (go_at_call 138; exact quiet_same (l01Name_any _ _ hs)) | (go_at_call 65; exact quiet_same (in_any _ _ _ _))))
              go_wp2_with ((go_at_call 65; refine (in_any _ _ _ _).mono ?_; rintro e w' ⟨rfl, rfl⟩))
              go_ret
              exact ⟨rfl, ⟨_, rfl⟩⟩
          · have h4' : inB L 1 10000 = false := by simpa using h4
            have hv : okP id f t L d s = false := by unfold okP; simp [*]
            rw [hv]
            clear hv
            go_enter Try.func146, Try.ntmps146
            go_wp2
            go_quiet ((first | (go_at_call 138; exact quiet_same (l01Name_any _ _ hs)) | (go_at_call 65; exact quiet_same (in_any _ _ _ _))))
            go_wp2_with ((go_at_call 65; refine (in_any _ _ _ _).mono ?_; rintro e w' ⟨rfl, rfl⟩))
            go_ret
            exact ⟨rfl, ⟨_, rfl⟩⟩
      · have h2' : inB t 0 15 = false := by simpa using h2
        have hv : okP id f t L d s = false := by unfold okP; simp [*]
        rw [hv]
        clear hv
        go_enter Try.func146, Try.ntmps146
        go_wp2
        go_quiet ((first | (go_at_call 138; exact quiet_same (l01Name_any _ _ hs)) | (go_at_call 65; exact quiet_same (in_any _ _ _ _))))
        go_wp2
        go_ret
        exact ⟨rfl, ⟨_, rfl⟩⟩
    · have h1' : inB f 0 15 = false := by simpa using h1
      have hv : okP id f t L d s = false := by unfold okP; simp [*]
      rw [hv]
      clear hv
      go_enter Try.func146, Try.ntmps146
      go_wp2
      go_quiet ((first | (go_at_call 138; exact quiet_same (l01Name_any _ _ hs)) | (go_at_call 65; exact quiet_same (in_any _ _ _ _))))
      go_wp2
      go_ret
      exact ⟨rfl, ⟨_, rfl⟩⟩
  · have h0' : nameL id.data.toList = false := by simpa using h0
    have hv : okP id f t L d s = false := by unfold okP; simp [*]
    rw [hv]
    clear hv
    go_enter Try.func146, Try.ntmps146
    go_wp2
    go_quiet ((first | (go_at_call 138; exact quiet_same (l01Name_any _ _ hs)) | (go_at_call 65; exact quiet_same (in_any _ _ _ _))))
    go_wp2
    go_ret
    exact ⟨rfl, ⟨_, rfl⟩⟩

end Go.Proofs.Ytdaedgdglammhaa
