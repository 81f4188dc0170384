/-
  Pipes: absolute values, drops, what makes a pipe valid, and the codes of both sides.
-/
import Derived.Test.YthmnfobhgeamiaaW4
import Derived.Test.YthmnfobhgeamiaaB2
namespace Go.Proofs.Ythmnfobhgeamiaa
open Go.ChangeShapes Go.WideShapes Go.ChangeAt Go.RowKit


theorem absolute_any (n : Int) (w : World) (h0 : -9223372036854775807 ≤ n) (h1 : n ≤ 9223372036854775807) :
    Calls Try.prog 69 #[.int .i64 n] w fun e w' => e = .returned (.int .i64 (absI n)) ∧ w = w' := by
  have H := Lib.hid (absI_max n)
  go_enter Try.func69, Try.ntmps69
  go_wp2
  all_goals go_ret
  all_goals exact ⟨ret_int (by have := H.out; omega), rfl⟩

theorem l00Max_any (a b : Int) (w : World) : Calls Try.prog 92 #[.int .i64 a, .int .i64 b] w fun e w' => e = .returned (.int .i64 (max a b)) ∧ w = w' := by
  have H : Hid (b < a → max a b = a) := Lib.hid (by omega)
  have H2 : Hid (¬ b < a → max a b = b) := Lib.hid (by omega)
  generalize max a b = m at *
  by_cases h : b < a
  · have e := H.out h
    subst e
    go_enter Try.func92, Try.ntmps92
    go_wp2
    go_ret
    exact ⟨rfl, rfl⟩
  · have e := H2.out h
    subst e
    have h' : decide (m < a) = false := by simpa using h
    go_enter Try.func92, Try.ntmps92
    go_wp2
    go_ret
    exact ⟨rfl, rfl⟩

theorem l03Abs_any (n : Int) (w : World) (h0 : -9223372036854775807 ≤ n) (h1 : n ≤ 9223372036854775807) :
    Calls Try.prog 82 #[.int .i64 n] w fun e w' => e = .returned (.int .i64 (absI n)) ∧ w = w' := by
  have H := Lib.hid (absI_max n)
  go_enter Try.func82, Try.ntmps82
  go_wp2_with ((go_at_call 92; refine (l00Max_any _ _ _).mono ?_; rintro e w' ⟨rfl, rfl⟩))
  go_ret
  exact ⟨ret_int H.out, rfl⟩

/-- a pipe in memory -/
def PipeAt (w : World) (b : Nat) (id : ByteArray) (f t L d s : Int) : Prop :=
  w.cell? ⟨b, 0, none⟩ = some (.string id) ∧ w.cell? ⟨b, 1, none⟩ = some (.int .i64 f) ∧ w.cell? ⟨b, 2, none⟩ = some (.int .i64 t) ∧ w.cell? ⟨b, 3, none⟩ = some (.int .i64 L) ∧ w.cell? ⟨b, 4, none⟩ = some (.int .i64 d) ∧ w.cell? ⟨b, 5, none⟩ = some (.int .i64 s)
theorem PipeAt.lies {w : World} {b : Nat} {id : ByteArray} {f t L d s : Int} (h : PipeAt w b id f t L d s) : b < w.heap.size := World.block_lt_of_cell? _ _ h.1
theorem PipeAt.next {w w' : World} {b : Nat} {id : ByteArray} {f t L d s : Int} (h : PipeAt w b id f t L d s) (hb : Below w.heap.size w w') : PipeAt w' b id f t L d s := by
  have l := h.lies
  exact ⟨(hb.cell (p := ⟨b, 0, none⟩) l).trans h.1, (hb.cell (p := ⟨b, 1, none⟩) l).trans h.2.1, (hb.cell (p := ⟨b, 2, none⟩) l).trans h.2.2.1, (hb.cell (p := ⟨b, 3, none⟩) l).trans h.2.2.2.1, (hb.cell (p := ⟨b, 4, none⟩) l).trans h.2.2.2.2.1, (hb.cell (p := ⟨b, 5, none⟩) l).trans h.2.2.2.2.2⟩
theorem PipeAt.new (w : World) (id : ByteArray) (f t L d s : Int) (T : TypeId) : PipeAt (w.alloc (.cells #[.string id, .int .i64 f, .int .i64 t, .int .i64 L, .int .i64 d, .int .i64 s] T)) w.heap.size id f t L d s := by
  unfold PipeAt
  simp
theorem PipeAt.alloc {w : World} {b : Nat} {id : ByteArray} {f t L d s : Int} (h : PipeAt w b id f t L d s) (o : Obj) : PipeAt (w.alloc o) b id f t L d s := h.next (bal (Below.refl _ _) o)
theorem PipeAt.draw {w : World} {b : Nat} {id : ByteArray} {f t L d s : Int} (h : PipeAt w b id f t L d s) (n : Nat) : PipeAt (w.drewN n) b id f t L d s := h

theorem drop_any (id : ByteArray) (f t L d s : Int) (q : Int) (w : World) (l0 : 0 ≤ L) (l1 : L ≤ 10000) (d0 : 20 ≤ d) (d1 : d ≤ 1000) (q0 : -100000 ≤ q) (q1 : q ≤ 100000) :
    Calls Try.prog 68 #[.agg #[.string id, .int .i64 f, .int .i64 t, .int .i64 L, .int .i64 d, .int .i64 s], .int .i64 q] w fun e w' => e = .returned (.int .i64 (dropI L d q)) ∧ Below w.heap.size w w' := by
  have k := drop_num L q l0 l1 q0 q1
  have kd := pow5_bd d d0 d1
  have ka := absI_bd q 100000 q0 q1
  have kn := nearI_lim (L * 16200 * q * absI q) (d * d * d * d * d) 1620000000000000000 k.2.2.1 k.2.2.2 kd.2.2.2.1
  have e1 : IntKind.i64.wrap (L * 16200) = L * 16200 := IntWalk.i64_in _ (by omega)
  have e2 : IntKind.i64.wrap (L * 16200 * q) = L * 16200 * q := IntWalk.i64_in _ (by omega)
  have e3 : IntKind.i64.wrap (L * 16200 * q * absI q) = L * 16200 * q * absI q := IntWalk.i64_in _ (by omega)
  have e4 : IntKind.i64.wrap (d * d) = d * d := IntWalk.i64_in _ (by omega)
  have e5 : IntKind.i64.wrap (d * d * d) = d * d * d := IntWalk.i64_in _ (by omega)
  have e6 : IntKind.i64.wrap (d * d * d * d) = d * d * d * d := IntWalk.i64_in _ (by omega)
  have e7 : IntKind.i64.wrap (d * d * d * d * d) = d * d * d * d * d := IntWalk.i64_in _ (by omega)
  have HN := Lib.hid (fun wx => nearest_any (L * 16200 * q * absI q) (d * d * d * d * d) wx (by omega) (by omega) (by omega) (by omega) (by omega))
  have HA := Lib.hid (fun wx => absolute_any q wx (by omega) (by omega))
  unfold dropI
  clear k kd ka kn l0 l1 d0 d1 q0 q1
  obtain ⟨p0, p1, p2, p3, p4, p5⟩ := PipeAt.new w id f t L d s 33
  go_enter Try.func68, Try.ntmps68
  go_wp2
  go_quiet ((first | (go_at_call 69; exact quiet_same (HA.out _)) | (go_at_call 60; exact quiet_drawn (HN.out _))))
  go_wp2
  go_ret
  exact ⟨rfl, below_drewN (bal (Below.refl _ _) _) _⟩

theorem l03Raw_any (b : Nat) (id : ByteArray) (f t L d s : Int) (D q : Int) (w : World) (hp : PipeAt w b id f t L d s) (l0 : 0 ≤ L) (l1 : L ≤ 10000) (d0 : 20 ≤ D) (d1 : D ≤ 1000) (q0 : -100000 ≤ q) (q1 : q ≤ 100000) :
    Calls Try.prog 81 #[.pointer (some ⟨b, 0, none⟩), .int .i64 D, .int .i64 q] w fun e w' => e = .returned (.int .i64 (dropI L D q)) ∧ Drawn w w' := by
  have k := drop_num L q l0 l1 q0 q1
  have kd := pow5_bd D d0 d1
  have ka := absI_bd q 100000 q0 q1
  have kn := nearI_lim (L * 16200 * q * absI q) (D * D * D * D * D) 1620000000000000000 k.2.2.1 k.2.2.2 kd.2.2.2.1
  have e1 : IntKind.i64.wrap (L * 16200) = L * 16200 := IntWalk.i64_in _ (by omega)
  have e2 : IntKind.i64.wrap (L * 16200 * q) = L * 16200 * q := IntWalk.i64_in _ (by omega)
  have e3 : IntKind.i64.wrap (L * 16200 * q * absI q) = L * 16200 * q * absI q := IntWalk.i64_in _ (by omega)
  have e4 : IntKind.i64.wrap (D * D) = D * D := IntWalk.i64_in _ (by omega)
  have e5 : IntKind.i64.wrap (D * D * D) = D * D * D := IntWalk.i64_in _ (by omega)
  have e6 : IntKind.i64.wrap (D * D * D * D) = D * D * D * D := IntWalk.i64_in _ (by omega)
  have e7 : IntKind.i64.wrap (D * D * D * D * D) = D * D * D * D * D := IntWalk.i64_in _ (by omega)
  have HN := Lib.hid (fun wx => l01Div_any (L * 16200 * q * absI q) (D * D * D * D * D) wx (by omega) (by omega) (by omega) (by omega) (by omega))
  have HA := Lib.hid (fun wx => l03Abs_any q wx (by omega) (by omega))
  unfold dropI
  clear k kd ka kn l0 l1 d0 d1 q0 q1
  obtain ⟨p0, p1, p2, p3, p4, p5⟩ := hp
  go_enter Try.func81, Try.ntmps81
  go_wp2
  go_quiet ((first | (go_at_call 82; exact quiet_same (HA.out _)) | (go_at_call 58; exact quiet_same (HN.out _))))
  go_wp2
  go_ret
  exact ⟨rfl, ⟨_, rfl⟩⟩

/-- what makes a pipe valid -/
def okP (id : ByteArray) (f t L d s : Int) : Bool := nameL id.data.toList && (inB f 0 15 && (inB t 0 15 && (!decide (f = t) && (inB L 1 10000 && (inB d 20 1000 && inB s 0 5000)))))

theorem l03Ok_any (b : Nat) (id : ByteArray) (f t L d s : Int) (w : World) (hp : PipeAt w b id f t L d s) (hs : id.size ≤ maxLen) :
    Calls Try.prog 70 #[.pointer (some ⟨b, 0, none⟩)] w fun e w' => e = .returned (.bool (okP id f t L d s)) ∧ Drawn w w' := by
  obtain ⟨p0, p1, p2, p3, p4, p5⟩ := hp
  by_cases h0 : nameL id.data.toList = true
  · skip
    by_cases h1 : inB f 0 15 = true
    · skip
      by_cases h2 : inB t 0 15 = true
      · skip
        by_cases h3 : f = t
        · have h3' : (f == t) = true := by simpa using h3
          have h3n : (f != t) = false := by simpa using h3
          have hv : okP id f t L d s = false := by unfold okP; simp [h3]
          rw [hv]
          clear hv
          have H3 := Lib.hid h3
          clear h3
          go_enter Try.func70, Try.ntmps70
          go_wp2
          go_quiet ((first | (go_at_call 84; exact quiet_same (l01Name_any _ _ hs)) | (go_at_call 53; exact quiet_same (in_any _ _ _ _))))
          go_wp2
          go_ret
          exact ⟨rfl, ⟨_, rfl⟩⟩
        · have h3' : (f == t) = false := by simpa using h3
          have h3n : (f != t) = true := by simpa using h3
          by_cases h4 : inB L 1 10000 = true
          · skip
            by_cases h5 : inB d 20 1000 = true
            · skip
              by_cases h6 : inB s 0 5000 = true
              · skip
                have hv : okP id f t L d s = true := by unfold okP; simp [*]
                rw [hv]
                clear hv
                go_enter Try.func70, Try.ntmps70
                go_wp2
                go_quiet ((first | (go_at_call 84; exact quiet_same (l01Name_any _ _ hs)) | (go_at_call 53; exact quiet_same (in_any _ _ _ _))))
                go_wp2_with ((go_at_call 53; refine (in_any _ _ _ _).mono ?_; rintro e w' ⟨rfl, rfl⟩))
                go_ret
                exact ⟨rfl, ⟨_, rfl⟩⟩
              · have h6' : inB s 0 5000 = false := by simpa using h6
                have hv : okP id f t L d s = false := by unfold okP; simp [*]
                rw [hv]
                clear hv
                go_enter Try.func70, Try.ntmps70
                go_wp2
                go_quiet ((first | (go_at_call 84; exact quiet_same (l01Name_any _ _ hs)) | (go_at_call 53; exact quiet_same (in_any _ _ _ _))))
                go_wp2_with ((go_at_call 53; refine (in_any _ _ _ _).mono ?_; rintro e w' ⟨rfl, rfl⟩))
                go_ret
                exact ⟨rfl, ⟨_, rfl⟩⟩
            · have h5' : inB d 20 1000 = false := by simpa using h5
              have hv : okP id f t L d s = false := by unfold okP; simp [*]
              rw [hv]
              clear hv
              go_enter Try.func70, Try.ntmps70
              go_wp2
              go_quiet ((first | (go_at_call 84; exact quiet_same (l01Name_any _ _ hs)) | (go_at_call 53; exact quiet_same (in_any _ _ _ _))))
              go_wp2_with ((go_at_call 53; refine (in_any _ _ _ _).mono ?_; rintro e w' ⟨rfl, rfl⟩))
              go_ret
              exact ⟨rfl, ⟨_, rfl⟩⟩
          · have h4' : inB L 1 10000 = false := by simpa using h4
            have hv : okP id f t L d s = false := by unfold okP; simp [*]
            rw [hv]
            clear hv
            go_enter Try.func70, Try.ntmps70
            go_wp2
            go_quiet ((first | (go_at_call 84; exact quiet_same (l01Name_any _ _ hs)) | (go_at_call 53; exact quiet_same (in_any _ _ _ _))))
            go_wp2_with ((go_at_call 53; refine (in_any _ _ _ _).mono ?_; rintro e w' ⟨rfl, rfl⟩))
            go_ret
            exact ⟨rfl, ⟨_, rfl⟩⟩
      · have h2' : inB t 0 15 = false := by simpa using h2
        have hv : okP id f t L d s = false := by unfold okP; simp [*]
        rw [hv]
        clear hv
        go_enter Try.func70, Try.ntmps70
        go_wp2
        go_quiet ((first | (go_at_call 84; exact quiet_same (l01Name_any _ _ hs)) | (go_at_call 53; exact quiet_same (in_any _ _ _ _))))
        go_wp2
        go_ret
        exact ⟨rfl, ⟨_, rfl⟩⟩
    · have h1' : inB f 0 15 = false := by simpa using h1
      have hv : okP id f t L d s = false := by unfold okP; simp [*]
      rw [hv]
      clear hv
      go_enter Try.func70, Try.ntmps70
      go_wp2
      go_quiet ((first | (go_at_call 84; exact quiet_same (l01Name_any _ _ hs)) | (go_at_call 53; exact quiet_same (in_any _ _ _ _))))
      go_wp2
      go_ret
      exact ⟨rfl, ⟨_, rfl⟩⟩
  · have h0' : nameL id.data.toList = false := by simpa using h0
    have hv : okP id f t L d s = false := by unfold okP; simp [*]
    rw [hv]
    clear hv
    go_enter Try.func70, Try.ntmps70
    go_wp2
    go_quiet ((first | (go_at_call 84; exact quiet_same (l01Name_any _ _ hs)) | (go_at_call 53; exact quiet_same (in_any _ _ _ _))))
    go_wp2
    go_ret
    exact ⟨rfl, ⟨_, rfl⟩⟩

end Go.Proofs.Ythmnfobhgeamiaa
