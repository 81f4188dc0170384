/-
  Marks in pipes and networks, written and found again.
-/
import Derived.Test.YtdaedgdglammhaaH6
import Derived.Test.YtdaedgdglammhaaM1
import Derived.Deep.RegionHeld3
namespace Go.Proofs.Ytdaedgdglammhaa
open Go.ChangeShapes Go.WideShapes Go.ChangeAt Go.RowKit
set_option maxRecDepth 100000
set_option linter.unusedVariables false

/-- a pipe of six marks from K on -/
def markPp (K : Int) : Pp := ⟨mText K, K + 1, K + 1 + 1, K + 1 + 1 + 1, K + 1 + 1 + 1 + 1, K + 1 + 1 + 1 + 1 + 1⟩
/-- so many pipes of marks -/
def marksPp (k : Int) (n : Nat) : List Pp := (List.range n).map fun (i : Nat) => markPp (k + 6 * (i : Int))
theorem marksPp_length (k : Int) (n : Nat) : (marksPp k n).length = n := by simp [marksPp]
theorem marksPp_at (k : Int) (n i : Nat) (h : i < n) : (marksPp k n)[i]? = some (markPp (k + 6 * (i : Int))) := by simp [marksPp, h]

theorem markPipes_any (A : Option Addr) (c n : Nat) (base : Nat) (xs : List Value) (k : Int) (w : World) (hk0 : 0 ≤ k) (hk1 : k + 6 * n ≤ 9223372036854775000)
    (hown : w.ownsRow base 89 6 (.slice A n c) n xs) :
    Calls Try.prog 75 #[.slice A n c, .int .i64 k] w
      fun e w' => e = .returned (.int .i64 (k + 6 * n)) ∧ w'.ownsRow base 89 6 (.slice A n c) n (rowsP (marksPp k n)) ∧ w.grownBy w' (Value.ownBlock (.slice A n c)) := by
  have hlen := hown.1
  have Hlen : Hid (xs.length = (marksPp k n).length * 6) := Lib.hid (by rw [marksPp_length]; exact hlen)
  clear hlen
  by_cases h0 : 0 < n
  · obtain ⟨g, rfl⟩ : ∃ g, A = some ⟨g, 0, none⟩ := by
      rcases hown.2 with ⟨hv, hn⟩ | ⟨g, cap, cur, hv, _⟩
      · omega
      · injection hv with hA; exact ⟨g, hA⟩
    have hgl : g < w.heap.size := (hown.lt g rfl).2
    go_enter Try.func75, Try.ntmps75
    go_wp2
    go_loopw [1, 5] (fun m i wr => ∃ j : Nat, j ≤ n ∧ i = .int .i64 j ∧ m = .int .i64 (k + 6 * j) ∧ wr.ownsRow base 89 6 (.slice (some ⟨g, 0, none⟩) n c) n (fillP (marksPp k n) j xs) ∧ w.grownBy wr (some g)) (fun _ i _ => n - (intOf i).toNat)
    case atStart => exact ⟨0, by omega, rfl, by simp, by rw [fillP_zero]; exact hown, grown_refl _ _⟩
    case round =>
      obtain ⟨j, hj, rfl, rfl, hro, hgr⟩ := hrel
      by_cases hlt : j < n
      · have hK0 : 0 ≤ k + 6 * (j : Int) := by omega
        have hK1 : k + 6 * (j : Int) + 6 ≤ 9223372036854775000 := by omega
        have hKs : k + 6 * (j : Int) + 1 + 1 + 1 + 1 + 1 + 1 = k + 6 * ((j + 1 : Nat) : Int) := by omega
        have HKs := Lib.hid hKs
        have hmk := marksPp_at k n j hlt
        generalize k + 6 * (j : Int) = K at *
        have HMK := Lib.hid hmk
        clear hKs hmk
        go_wp2_with fail
        refine (markText_any K _ (by omega)).mono ?_
        rintro e w1 ⟨rfl, hbt⟩
        have hgr1 := grown_below hgr hbt
        have hro1 := owns6_below hro hbt (Nat.le_refl _)
        clear hro hgr hbt
        obtain ⟨y0, hy0⟩ := fillP_at (marksPp k n) j xs (by rw [marksPp_length]; exact hlt) Hlen.out 0 (by omega)
        obtain ⟨y1, hy1⟩ := fillP_at (marksPp k n) j xs (by rw [marksPp_length]; exact hlt) Hlen.out 1 (by omega)
        obtain ⟨y2, hy2⟩ := fillP_at (marksPp k n) j xs (by rw [marksPp_length]; exact hlt) Hlen.out 2 (by omega)
        obtain ⟨y3, hy3⟩ := fillP_at (marksPp k n) j xs (by rw [marksPp_length]; exact hlt) Hlen.out 3 (by omega)
        obtain ⟨y4, hy4⟩ := fillP_at (marksPp k n) j xs (by rw [marksPp_length]; exact hlt) Hlen.out 4 (by omega)
        obtain ⟨y5, hy5⟩ := fillP_at (marksPp k n) j xs (by rw [marksPp_length]; exact hlt) Hlen.out 5 (by omega)
        have c0 := (hro1.cellAt (j * 6) (by omega)).trans hy0
        have c1 := (hro1.cellAt (j * 6 + 1) (by omega)).trans hy1
        have c2 := (hro1.cellAt (j * 6 + 2) (by omega)).trans hy2
        have c3 := (hro1.cellAt (j * 6 + 3) (by omega)).trans hy3
        have c4 := (hro1.cellAt (j * 6 + 4) (by omega)).trans hy4
        have c5 := (hro1.cellAt (j * 6 + 5) (by omega)).trans hy5
        have f0 := hro1.frozenAt (j * 6)
        have f1 := hro1.frozenAt (j * 6 + 1)
        have f2 := hro1.frozenAt (j * 6 + 2)
        have f3 := hro1.frozenAt (j * 6 + 3)
        have f4 := hro1.frozenAt (j * 6 + 4)
        have f5 := hro1.frozenAt (j * 6 + 5)
        have hst := ((((((hro1.stored (j * 6) (.string (mText K))).1.stored (j * 6 + 1) (.int .i64 (K + 1))).1.stored (j * 6 + 2) (.int .i64 (K + 1 + 1))).1.stored (j * 6 + 3) (.int .i64 (K + 1 + 1 + 1))).1.stored (j * 6 + 4) (.int .i64 (K + 1 + 1 + 1 + 1))).1.stored (j * 6 + 5) (.int .i64 (K + 1 + 1 + 1 + 1 + 1))).1
        have hfs := fillP_set (marksPp k n) j xs _ HMK.out Hlen.out
        unfold markPp at hfs
        dsimp only at hfs
        rw [hfs] at hst
        have Hst := Lib.hid hst
        clear hst hfs hro1 hy0 hy1 hy2 hy3 hy4 hy5
        go_wp2
        go_roundw
        case rel => exact ⟨j + 1, by omega, by go_num, by rw [← HKs.out], Hst.out, grown_set (grown_set (grown_set (grown_set (grown_set (grown_set hgr1 _ _ _) _ _ _) _ _ _) _ _ _) _ _ _) _ _ _⟩
        case measure => simp [intOf]; omega
      · have e : j = n := by omega
        subst e
        have hfa := fillP_all (marksPp k j) xs Hlen.out
        rw [marksPp_length] at hfa
        rw [hfa] at hro
        clear hfa
        go_wp2
        go_ret
        exact ⟨rfl, hro, hgr⟩
  · have e : n = 0 := by omega
    subst e
    have hx : xs = [] := List.length_eq_zero_iff.1 (by rw [Hlen.out]; rfl)
    subst hx
    go_enter Try.func75, Try.ntmps75
    go_wp2
    go_loopw [1, 5] (fun m i wr => m = .int .i64 k ∧ i = .int .i64 0 ∧ w = wr) (fun _ _ _ => 0)
    case atStart => exact ⟨rfl, rfl, rfl⟩
    case round =>
      obtain ⟨rfl, rfl, rfl⟩ := hrel
      go_wp2
      go_ret
      exact ⟨by simp, hown, grown_refl _ _⟩

theorem heldPipes_any (A : Option Addr) (c n : Nat) (k : Int) (w : World) (hk0 : 0 ≤ k) (hk1 : k + 6 * n ≤ 9223372036854775000) (hA : CellsAt w A (rowsP (marksPp k n))) :
    Calls Try.prog 76 #[.slice A n c, .int .i64 k] w fun e w' => e = .returned (.int .i64 (k + 6 * n)) ∧ Below w.heap.size w w' := by
  have HA := Lib.hid hA
  clear hA
  go_enter Try.func76, Try.ntmps76
  go_wp2
  go_loopw [1, 5] (fun m i wr => ∃ j : Nat, j ≤ n ∧ i = .int .i64 j ∧ m = .int .i64 (k + 6 * j) ∧ Below w.heap.size w wr) (fun _ i _ => n - (intOf i).toNat)
  case atStart => exact ⟨0, by omega, rfl, by simp, Below.refl _ _⟩
  case round =>
    obtain ⟨j, hj, rfl, rfl, hb⟩ := hrel
    by_cases hlt : j < n
    · obtain ⟨b, off, rfl, hrow⟩ := pipe_at (HA.out.next hb) (by rw [marksPp_length]; omega)
      have P0 := hrow j _ (marksPp_at k n j hlt)
      have hK0 : 0 ≤ k + 6 * (j : Int) := by omega
      have hK1 : k + 6 * (j : Int) + 6 ≤ 9223372036854775000 := by omega
      have hKs : k + 6 * (j : Int) + 1 + 1 + 1 + 1 + 1 + 1 = k + 6 * ((j + 1 : Nat) : Int) := by omega
      have HKs := Lib.hid hKs
      clear hrow hKs
      generalize k + 6 * (j : Int) = K at *
      have hb1 : Below w.heap.size w wr.drew := below_drewN hb 1
      have P : PipeO wr.drew b (off + j * 6) (markPp K) := P0
      have ⟨p0, p1, p2, p3, p4, p5⟩ := P
      simp only [markPp] at p0 p1 p2 p3 p4 p5
      clear P0 hb
      go_wp2_with fail
      go_region_held3 (fun w' => w'.cell? ⟨b, off + j * 6, none⟩ = some (.string (mText K))) (exact p0) ((go_at_call 128; refine (markText_any K _ (by omega)).mono ?_; rintro e w' ⟨rfl, hb'⟩; have hb2 := bnext hb1 hb'; have P := P.next hb'; have ⟨p0, p1, p2, p3, p4, p5⟩ := P; simp only [markPp] at p0 p1 p2 p3 p4 p5))
      go_wp2
      go_roundw
      case rel => exact ⟨j + 1, by omega, by go_num, by rw [← HKs.out], hb2⟩
      case measure => simp [intOf]; omega
    · have e : j = n := by omega
      subst e
      go_wp2
      go_ret
      exact ⟨rfl, hb⟩

theorem grown_after {w a b : World} {row : Option Nat} (k : Below w.heap.size w a) (g : a.grownBy b row) : w.grownBy b row :=
  ⟨g.os.trans k.os, g.tape.trans k.tape, g.output.trans k.output, Nat.le_trans k.size g.size, fun i hi hne => (g.block i (Nat.lt_of_lt_of_le hi k.size) hne).trans (k.block i hi)⟩
theorem owns_apart {w : World} {base base' : Nat} {E E' : TypeId} {s s' : Nat} {A B : Option Addr} {n c m d : Nat} {xs ys : List Value} (hA : w.ownsRow base E s (.slice A n c) n xs) (hB : w.ownsRow base' E' s' (.slice B m d) m ys) (hE : E ≠ E') :
    Value.ownBlock (.slice B m d) = none ∨ Value.ownBlock (.slice B m d) ≠ Value.ownBlock (.slice A n c) := by
  rcases hB.2 with ⟨hv, _⟩ | ⟨g, cap, cur, hv, _, hg, _⟩
  · left
    rw [hv]; rfl
  · right
    rw [hv]
    rcases hA.2 with ⟨hv', _⟩ | ⟨g', cap', cur', hv', _, hg', _⟩
    · rw [hv']; simp [Value.ownBlock]
    · rw [hv']
      intro e
      have e : g = g' := by simpa [Value.ownBlock] using e
      subst e
      rw [hg] at hg'
      injection hg' with h1
      injection h1 with _ h2
      exact hE h2.symm
theorem NetAt.grown {w w' : World} {b : Nat} {A : Option Addr} {n c : Nat} {B : Option Addr} {m d : Nat} {row : Option Nat} (h : NetAt w b A n c B m d) (g : w.grownBy w' row) (hne : some b ≠ row) : NetAt w' b A n c B m d :=
  ⟨g.cell (a := ⟨b, 0, none⟩) h.1 hne, g.cell (a := ⟨b, 1, none⟩) h.2 hne⟩
theorem owns_not {w : World} {base : Nat} {E : TypeId} {s : Nat} {v : Value} {n : Nat} {xs : List Value} (h : w.ownsRow base E s v n xs) (b : Nat) (hb : w.heap.size ≤ b) : some b ≠ v.ownBlock := fun e => by
  have := (h.lt b e.symm).2
  omega
/-- what a call that writes into two slices of its own leaves: all else is as it was -/
def TwoGrown (w w' : World) (A B : Option Addr) (n c m d : Nat) : Prop := ∃ wm, w.grownBy wm (Value.ownBlock (.slice A n c)) ∧ wm.grownBy w' (Value.ownBlock (.slice B m d))
theorem markNet_any (A B : Option Addr) (n c m d : Nat) (base : Nat) (xs ys : List Value) (k : Int) (w : World) (hk0 : 0 ≤ k) (hk1 : k + n + 6 * m ≤ 9223372036854775000)
    (hA : w.ownsRow base 2 1 (.slice A n c) n xs) (hB : w.ownsRow base 89 6 (.slice B m d) m ys) :
    Calls Try.prog 27 #[.agg #[.slice A n c, .slice B m d], .int .i64 k] w
      fun e w' => e = .returned (.int .i64 (k + n + 6 * m)) ∧ w'.ownsRow base 2 1 (.slice A n c) n (marksI k n) ∧ w'.ownsRow base 89 6 (.slice B m d) m (rowsP (marksPp (k + n) m)) ∧ TwoGrown w w' A B n c m d := by
  have HA := Lib.hid hA
  have HB := Lib.hid hB
  clear hA hB
  have b1 : Below w.heap.size w (w.alloc (.cells #[.slice A n c, .slice B m d] 38)) := bal (Below.refl _ _) _
  have hN := NetAt.new w A n c B m d 38
  have ⟨n0, n1⟩ := hN
  have HA1 := Lib.hid (owns_below HA.out b1 (Nat.le_refl _))
  have HB1 := Lib.hid (owns6_below HB.out b1 (Nat.le_refl _))
  have hlA := owns_lies HA.out
  go_enter Try.func27, Try.ntmps27
  go_wp2_with fail
  refine (markInts_any A c n base xs k _ hk0 (by omega) HA1.out).mono ?_
  rintro e w1 ⟨rfl, o1, g1⟩
  have hap := owns_apart HA1.out HB1.out (by decide)
  have hB2 := HB1.out.kept g1 hap
  have hN1 := hN.grown g1 (fun e => owns_not HA.out w.heap.size (Nat.le_refl _) e)
  have hG := grown_after b1 g1
  have hne : ∀ k, Value.ownBlock (.slice A n c) = some k → some k ≠ Value.ownBlock (.slice B m d) := fun k hk e => by
    rcases hap with h | h
    · rw [h] at e; cases e
    · exact h (by rw [hk, e])
  clear n0 n1 g1 hN
  have ⟨n0, n1⟩ := hN1
  have hk2 : 0 ≤ k + (n : Int) := by omega
  go_wp2_with fail
  refine (markPipes_any B d m base ys (k + n) _ hk2 (by omega) hB2).mono ?_
  rintro e w2 ⟨rfl, o2, g2⟩
  have o3 := o1.kept g2 (by
    cases h : Value.ownBlock (.slice A n c) with
    | none => exact .inl rfl
    | some k => exact .inr (hne k h))
  go_wp2
  go_ret
  exact ⟨rfl, o3, o2, ⟨w1, hG, g2⟩⟩
theorem heldNet_any (A B : Option Addr) (n c m d : Nat) (k : Int) (w : World) (hk0 : 0 ≤ k) (hk1 : k + n + 6 * m ≤ 9223372036854775000) (hn : n ≤ maxLen) (hA : CellsAt w A (marksI k n)) (hB : CellsAt w B (rowsP (marksPp (k + n) m))) :
    Calls Try.prog 29 #[.agg #[.slice A n c, .slice B m d], .int .i64 k] w fun e w' => e = .returned (.int .i64 (k + n + 6 * m)) ∧ Below w.heap.size w w' := by
  have b1 : Below w.heap.size w (w.alloc (.cells #[.slice A n c, .slice B m d] 38)) := bal (Below.refl _ _) _
  have hN := NetAt.new w A n c B m d 38
  have ⟨n0, n1⟩ := hN
  have HA := Lib.hid (hA.next b1)
  have HB := Lib.hid hB
  clear hA hB
  go_enter Try.func29, Try.ntmps29
  go_wp2_with fail
  refine (heldInts_any A c n k _ hk0 (by omega) hn HA.out).mono ?_
  rintro e w1 ⟨rfl, ⟨q, rfl⟩⟩
  have hb1 := below_drewN b1 q
  have h1 : ¬ k + (n : Int) < 0 := by omega
  have h2 : 0 ≤ k + (n : Int) := by omega
  go_wp2_with fail
  refine (heldPipes_any B d m (k + n) _ h2 (by omega) (HB.out.next hb1)).mono ?_
  rintro e w2 ⟨rfl, hb2⟩
  have h3 : ¬ k + (n : Int) + 6 * (m : Int) < 0 := by omega
  go_wp2
  go_ret
  exact ⟨rfl, bnext hb1 hb2⟩

end Go.Proofs.Ytdaedgdglammhaa
