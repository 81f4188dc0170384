/-
  Numbers made of steps; the least and the greatest of numbers; RangeOf: both sides.
-/
import Derived.Test.YtkbkmpcdidhagacWa3
namespace Go.Proofs.Ytkbkmpcdidhagac
open Go.ChangeShapes Go.WideShapes Go.ChangeAt Go.RowKit Go.Shelf

set_option maxRecDepth 100000
set_option linter.unusedVariables false

theorem convSpI_any (g : Nat) (f : Sp → Int) (A : Option Addr) (n c : Nat) (xs : List Sp) (w : World) (eg : ∀ args w, (callFunc g args).run Try.prog w = .ok (.enter g args) w)
    (hf : ∀ (wr : World) (x : Sp), Calls Try.prog g #[.agg #[.int .i64 x.t, .int .i64 x.d]] wr fun e w' => e = .returned (.int .i64 (f x)) ∧ Below wr.heap.size wr w')
    (h : SpsOk w A n xs) :
    Calls Try.prog 96 #[.slice A n c, .func (.func g) #[] #[]] w (RetRow 2 (intsV (xs.map f)) w) := by
  have hn := h.2
  obtain rfl := h.1.1
  have HB := Lib.hid h.cells
  have HF := Lib.hid hf
  have hM : xs.length ≤ maxLen := by unfold maxLen; omega
  have hm : xs.length ≤ 9223372036854775807 := by omega
  obtain ⟨i0, hi, hz0, hz1, hz2⟩ := info_parts infoI64
  clear h hf
  go_enter Try.func96, Try.ntmps96
  go_wp2_with (refine wpList_make_full _ rfl _ _ _ rfl w.heap.size 2 i0 (.int .i64 0) 1 Try.underlying39 hi hz0 hz1 _ _ _ _ xs.length rfl rfl rfl rfl (by rw [hz2]; omega) hM (Nat.le_refl _) ?_; intro w1 hown hgrow)
  have hb1 := Below.grown (Below.refl w.heap.size w) hgrow (Nat.le_refl _) (fun k hk => by cases hk)
  have hl1 := owns_len hown
  generalize (madeCells (Value.int IntKind.i64 0).cells (xs.length * 1)).toList = us at *
  have HX := Lib.hid hl1
  clear hl1
  go_loopw [13] (fun i wr => ∃ j : Nat, j ≤ xs.length ∧ i = .int .i64 j ∧ wr.ownsRow w.heap.size 2 1 (.slice (some ⟨w.heap.size, 0, none⟩) xs.length xs.length) xs.length (fillV (fun j => (intsV (xs.map f)).getD j default) j us) ∧ Below w.heap.size w wr) (fun i _ => xs.length - (intOf i).toNat)
  case atStart => exact ⟨0, Nat.zero_le _, rfl, hown, hb1⟩
  case round =>
    obtain ⟨j, hj, rfl, hro, hb⟩ := hrel
    by_cases hlt : j < xs.length
    · obtain ⟨b, off, rfl, hrow⟩ := SpO.at (HB.out.next hb) (by omega)
      have hp := spAt_some xs j hlt
      have ⟨p0, p1⟩ := hrow j _ hp
      have hgd : (intsV (xs.map f)).getD j default = .int .i64 (f (spAt xs j)) := by
        rw [List.getD, intsV_at _ _ (by rw [List.length_map]; exact hlt), List.getElem_map, show xs[j] = spAt xs j from Option.some.inj ((List.getElem?_eq_getElem hlt).symm.trans hp)]; rfl
      have HG := Lib.hid hgd
      generalize spAt xs j = x at *
      clear hp hrow hgd
      have hC := HF.out
      go_wp2_with (
        (go_at_fn g; refine (hC _ x).mono ?_; rintro e w2 ⟨rfl, hbt⟩
         have hba : Below wr.heap.size wr (wr.alloc (.cells #[.int .i64 x.t, .int .i64 x.d] 61)) := bal (Below.refl _ _) _
         have hbt2 := bnext hba hbt
         have hb2 := bnext hb hbt2
         have hro1 := owns_below hro hbt2 (Nat.le_refl _)
         clear p0 p1 hro hb hbt hC hba hbt2
         have hc1 := hro1.cellAt j (by omega)
         have hf1 := hro1.frozenAt j
         rw [fillV_get, List.getElem?_eq_getElem (by rw [HX.out]; exact hlt)] at hc1
         have hst := hro1.stored j (.int .i64 (f x))
         have hfs := fillV_set (fun j => (intsV (xs.map f)).getD j default) us j (by rw [HX.out]; exact hlt)
         rw [HG.out] at hfs
         rw [hfs] at hst
         have Hst := Lib.hid hst
         clear hst hfs hro1))
      go_roundw
      case rel => exact ⟨j + 1, by omega, by go_num, Hst.out.1, hb2.setCell (Nat.le_refl _) _⟩
      case measure => simp [intOf]; omega
    · obtain rfl : j = xs.length := by omega
      have hfa := fillV_all (fun k => (intsV (xs.map f)).getD k default) xs.length us HX.out
      have hru : (List.range xs.length).map (fun k => (intsV (xs.map f)).getD k default) = intsV (xs.map f) := by
        refine List.ext_getElem (by rw [List.length_map, List.length_range, intsV_length, List.length_map]) fun k h1 h2 => ?_
        simp [List.getD, h2]
      have hfin := retRow_mk (vs := intsV (xs.map f)) (w := w) rfl hro (hfa.trans hru) hb
      have HF9 := Lib.hid hfin
      clear hfin hfa hru hro
      go_wp2
      go_ret
      exact HF9.out

/-- the least, the greatest of the first k + 1 numbers -/
def loTo (zs : List Int) : Nat → Int
  | 0 => zs.getD 0 0
  | k + 1 => min (loTo zs k) (zs.getD (k + 1) 0)
def hiTo (zs : List Int) : Nat → Int
  | 0 => zs.getD 0 0
  | k + 1 => max (hiTo zs k) (zs.getD (k + 1) 0)
theorem degs_getD (xs : List Sp) (k : Nat) : (xs.map Sp.d).getD k 0 = (spAt xs k).d := by
  unfold spAt
  rw [List.getD, List.getD, List.getElem?_map]
  cases xs[k]? <;> rfl
theorem least_any (A : Option Addr) (c : Nat) (zs : List Int) (w : World) (h0 : 0 < zs.length) (hn : zs.length ≤ 1048576) (hA : CellsAt w A (intsV zs)) :
    Calls Try.prog 98 #[.slice A zs.length c] w fun e w' => e = .returned (.int .i64 (loTo zs (zs.length - 1))) ∧ Drawn w w' := by
  obtain ⟨b, o, rfl, h1⟩ := hA (by rw [intsV_length]; exact h0)
  have hat : ∀ k, k < zs.length → w.cell? ⟨b, o + k, none⟩ = some (.int .i64 (zs.getD k 0)) := fun k hk => by
    rw [h1 k (by rw [intsV_length]; exact hk), intsV_at _ _ hk, List.getD, List.getElem?_eq_getElem hk]; rfl
  have HAT := Lib.hid hat
  have g0 := hat 0 h0
  rw [Nat.add_zero] at g0
  have HS0 : Hid (loTo zs 0 = zs.getD 0 0) := Lib.hid rfl
  clear h1 hat hA
  generalize zs.getD 0 0 = z0 at *
  have h2 : ¬ (zs.length : Int) < 1 := by omega
  go_enter Try.func98, Try.ntmps98
  go_wp2
  go_loopw [3, 4] (fun v i wr => ∃ q : Nat, 1 ≤ q ∧ q ≤ zs.length ∧ i = .int .i64 q ∧ (∃ z : Int, v = .int .i64 z ∧ Hid (z = loTo zs (q - 1))) ∧ Drawn w wr) (fun _ i _ => zs.length - (intOf i).toNat)
  case atStart => exact ⟨1, by omega, by omega, rfl, ⟨z0, rfl, Lib.hid HS0.out.symm⟩, Drawn.rfl' _⟩
  case round =>
    obtain ⟨q, hq1, hq, rfl, ⟨z, rfl, HZ⟩, ⟨nr, rfl⟩⟩ := hrel
    by_cases hlt : q < zs.length
    · have g1 := HAT.out q hlt
      have HS : Hid (loTo zs q = min (loTo zs (q - 1)) (zs.getD q 0)) := Lib.hid (by
        obtain ⟨r, rfl⟩ : ∃ r, q = r + 1 := ⟨q - 1, by omega⟩
        rfl)
      generalize zs.getD q 0 = zq at *
      go_wp2
      go_roundw
      case rel => exact ⟨q + 1, by omega, by omega, by go_num, ⟨_, rfl, Lib.hid (by rw [Nat.add_sub_cancel, HS.out, ← HZ.out]; rw [Int.min_def]; (repeat split) <;> omega)⟩, ⟨_, rfl⟩⟩
      case measure => simp [intOf]; omega
    · have e : q = zs.length := by omega
      subst e
      go_wp2
      go_ret
      exact ⟨by rw [HZ.out]; rfl, ⟨_, rfl⟩⟩
theorem greatest_any (A : Option Addr) (c : Nat) (zs : List Int) (w : World) (h0 : 0 < zs.length) (hn : zs.length ≤ 1048576) (hA : CellsAt w A (intsV zs)) :
    Calls Try.prog 99 #[.slice A zs.length c] w fun e w' => e = .returned (.int .i64 (hiTo zs (zs.length - 1))) ∧ Drawn w w' := by
  obtain ⟨b, o, rfl, h1⟩ := hA (by rw [intsV_length]; exact h0)
  have hat : ∀ k, k < zs.length → w.cell? ⟨b, o + k, none⟩ = some (.int .i64 (zs.getD k 0)) := fun k hk => by
    rw [h1 k (by rw [intsV_length]; exact hk), intsV_at _ _ hk, List.getD, List.getElem?_eq_getElem hk]; rfl
  have HAT := Lib.hid hat
  have g0 := hat 0 h0
  rw [Nat.add_zero] at g0
  have HS0 : Hid (hiTo zs 0 = zs.getD 0 0) := Lib.hid rfl
  clear h1 hat hA
  generalize zs.getD 0 0 = z0 at *
  have h2 : ¬ (zs.length : Int) < 1 := by omega
  go_enter Try.func99, Try.ntmps99
  go_wp2
  go_loopw [3, 4] (fun v i wr => ∃ q : Nat, 1 ≤ q ∧ q ≤ zs.length ∧ i = .int .i64 q ∧ (∃ z : Int, v = .int .i64 z ∧ Hid (z = hiTo zs (q - 1))) ∧ Drawn w wr) (fun _ i _ => zs.length - (intOf i).toNat)
  case atStart => exact ⟨1, by omega, by omega, rfl, ⟨z0, rfl, Lib.hid HS0.out.symm⟩, Drawn.rfl' _⟩
  case round =>
    obtain ⟨q, hq1, hq, rfl, ⟨z, rfl, HZ⟩, ⟨nr, rfl⟩⟩ := hrel
    by_cases hlt : q < zs.length
    · have g1 := HAT.out q hlt
      have HS : Hid (hiTo zs q = max (hiTo zs (q - 1)) (zs.getD q 0)) := Lib.hid (by
        obtain ⟨r, rfl⟩ : ∃ r, q = r + 1 := ⟨q - 1, by omega⟩
        rfl)
      generalize zs.getD q 0 = zq at *
      go_wp2
      go_roundw
      case rel => exact ⟨q + 1, by omega, by omega, by go_num, ⟨_, rfl, Lib.hid (by rw [Nat.add_sub_cancel, HS.out, ← HZ.out]; rw [Int.max_def]; (repeat split) <;> omega)⟩, ⟨_, rfl⟩⟩
      case measure => simp [intOf]; omega
    · have e : q = zs.length := by omega
      subst e
      go_wp2
      go_ret
      exact ⟨by rw [HZ.out]; rfl, ⟨_, rfl⟩⟩
def rangeOfR0 (xs : List Sp) : Int := if okW xs = true then loTo (xs.map Sp.d) (xs.length - 1) else 0
def rangeOfR1 (xs : List Sp) : Int := if okW xs = true then hiTo (xs.map Sp.d) (xs.length - 1) else 0
def rangeOfR2 (xs : List Sp) : Int := if okW xs = true then 0 else 1
theorem specRangeOf_ds (A : Option Addr) (n c : Nat) (xs : List Sp) (w : World) (h : SpsOk w A n xs) :
    Calls Try.prog 45 #[.slice A n c] w fun e w' => e = .returned (.tuple #[.int .i64 (rangeOfR0 xs), .int .i64 (rangeOfR1 xs), .int .i64 (rangeOfR2 xs)]) ∧ Below w.heap.size w w' := by
  have HO := Lib.hid (l09Ok_any A n c xs w h)
  have HH := Lib.hid h
  clear h
  by_cases ho : okW xs = true
  rotate_left
  · have ho' : okW xs = false := by simpa only [Bool.not_eq_true] using ho
    have HV : Hid (rangeOfR0 xs = 0 ∧ rangeOfR1 xs = 0 ∧ rangeOfR2 xs = 1) := Lib.hid ⟨by unfold rangeOfR0; rw [if_neg ho], by unfold rangeOfR1; rw [if_neg ho], by unfold rangeOfR2; rw [if_neg ho]⟩
    rw [ho'] at HO
    clear ho ho'
    go_enter Try.func45, Try.ntmps45
    go_wp2_with fail
    refine HO.out.mono ?_
    rintro e w1 ⟨rfl, ⟨k, rfl⟩⟩
    go_wp2
    go_ret3
    exact ⟨by rw [HV.out.1, HV.out.2.1, HV.out.2.2]; rfl, below_drewN (Below.refl _ _) _⟩
  have HV : Hid (rangeOfR0 xs = loTo (xs.map Sp.d) (xs.length - 1) ∧ rangeOfR1 xs = hiTo (xs.map Sp.d) (xs.length - 1) ∧ rangeOfR2 xs = 0) := Lib.hid ⟨by unfold rangeOfR0; rw [if_pos ho], by unfold rangeOfR1; rw [if_pos ho], by unfold rangeOfR2; rw [if_pos ho]⟩
  rw [ho] at HO
  have h0 : 0 < xs.length := by have := (okW_parts ho).1; omega
  have hn := HH.out.2
  obtain rfl := HH.out.1.1
  obtain ⟨b, o, rfl, hrow⟩ := SpO.at HH.out.cells h0
  have HR := Lib.hid hrow
  have ⟨p0, p1⟩ := hrow 0 _ (spAt_some xs 0 h0)
  rw [Nat.zero_mul, Nat.add_zero] at p0 p1
  have HD0 : Hid (loTo (xs.map Sp.d) 0 = (spAt xs 0).d ∧ hiTo (xs.map Sp.d) 0 = (spAt xs 0).d) := Lib.hid ⟨degs_getD xs 0, degs_getD xs 0⟩
  generalize (spAt xs 0).d = d0 at *
  generalize (spAt xs 0).t = t0 at *
  clear ho hrow
  go_enter Try.func45, Try.ntmps45
  go_wp2_with fail
  refine HO.out.mono ?_
  rintro e w1 ⟨rfl, ⟨k, rfl⟩⟩
  go_wp2
  go_loopw [5, 6, 7] (fun v u i wr => ∃ q : Nat, 1 ≤ q ∧ q ≤ xs.length ∧ i = .int .i64 q ∧ (∃ z y : Int, v = .int .i64 z ∧ u = .int .i64 y ∧ Hid (z = loTo (xs.map Sp.d) (q - 1) ∧ y = hiTo (xs.map Sp.d) (q - 1))) ∧ Drawn w wr) (fun _ _ i _ => xs.length - (intOf i).toNat)
  case atStart => exact ⟨1, by omega, by omega, rfl, ⟨d0, d0, rfl, rfl, Lib.hid ⟨HD0.out.1.symm, HD0.out.2.symm⟩⟩, ⟨_, rfl⟩⟩
  case round =>
    obtain ⟨q, hq1, hq, rfl, ⟨z, y, rfl, rfl, HZ⟩, ⟨nr, rfl⟩⟩ := hrel
    by_cases hlt : q < xs.length
    · have ⟨q0, q1⟩ := HR.out q _ (spAt_some xs q hlt)
      have HS : Hid (loTo (xs.map Sp.d) q = min (loTo (xs.map Sp.d) (q - 1)) (spAt xs q).d ∧ hiTo (xs.map Sp.d) q = max (hiTo (xs.map Sp.d) (q - 1)) (spAt xs q).d) := Lib.hid (by
        obtain ⟨r, rfl⟩ : ∃ r, q = r + 1 := ⟨q - 1, by omega⟩
        rw [← degs_getD]
        exact ⟨rfl, rfl⟩)
      generalize (spAt xs q).d = dq at *
      generalize (spAt xs q).t = tq at *
      have HMn := Lib.hid (fun wx => l00Min_any z dq wx)
      have HMx := Lib.hid (fun wx => l00Max_any y dq wx)
      have HS2 : Hid (min z dq = loTo (xs.map Sp.d) q ∧ max y dq = hiTo (xs.map Sp.d) q) := Lib.hid ⟨by rw [HS.out.1, ← HZ.out.1], by rw [HS.out.2, ← HZ.out.2]⟩
      generalize min z dq = z2 at *
      generalize max y dq = y2 at *
      go_wp2_with fail
      refine (HMn.out _).mono ?_
      rintro e w2 ⟨rfl, rfl⟩
      go_wp2_with fail
      refine (HMx.out _).mono ?_
      rintro e w2 ⟨rfl, rfl⟩
      go_wp2
      go_roundw
      case rel => exact ⟨q + 1, by omega, by omega, by go_num, ⟨_, _, rfl, rfl, HS2⟩, ⟨_, rfl⟩⟩
      case measure => simp [intOf]; omega
    · have e : q = xs.length := by omega
      subst e
      go_wp2
      go_ret3
      exact ⟨by rw [HV.out.1, HV.out.2.1, HV.out.2.2, HZ.out.1, HZ.out.2]; rfl, below_drewN (Below.refl _ _) _⟩
theorem degOf_any (x : Sp) (w : World) :
    Calls Try.prog 97 #[.agg #[.int .i64 x.t, .int .i64 x.d]] w fun e w' => e = .returned (.int .i64 x.d) ∧ Below w.heap.size w w' := by
  have hb : Below w.heap.size w (w.alloc (.cells #[.int .i64 x.t, .int .i64 x.d] 61)) := bal (Below.refl _ _) _
  have ⟨n0, n1⟩ := SpO.new w x 61
  go_enter Try.func97, Try.ntmps97
  go_wp2
  go_ret
  exact ⟨rfl, hb⟩
theorem implRangeOf_ds (A : Option Addr) (n c : Nat) (xs : List Sp) (w : World) (h : SpsOk w A n xs) :
    Calls Try.prog 46 #[.slice A n c] w fun e w' => e = .returned (.tuple #[.int .i64 (rangeOfR0 xs), .int .i64 (rangeOfR1 xs), .int .i64 (rangeOfR2 xs)]) ∧ Below w.heap.size w w' := by
  have eg : ∀ args w, (callFunc 97 args).run Try.prog w = .ok (.enter 97 args) w := enters_of Try.func97 (by kernel_rfl) rfl
  have HO := Lib.hid (implVW_any A n c xs w h)
  have HH := Lib.hid h
  have HCV := Lib.hid (fun (wx : World) (hb : Below w.heap.size w wx) => convSpI_any 97 Sp.d A n c xs wx eg (fun wr x => degOf_any x wr) (h.go hb))
  have hn := h.2
  have hl := h.1.1
  clear h eg
  by_cases ho : okW xs = true
  rotate_left
  · have ho' : okW xs = false := by simpa only [Bool.not_eq_true] using ho
    have HV : Hid (rangeOfR0 xs = 0 ∧ rangeOfR1 xs = 0 ∧ rangeOfR2 xs = 1) := Lib.hid ⟨by unfold rangeOfR0; rw [if_neg ho], by unfold rangeOfR1; rw [if_neg ho], by unfold rangeOfR2; rw [if_neg ho]⟩
    rw [ho'] at HO
    clear ho ho'
    go_enter Try.func46, Try.ntmps46
    go_wp2_with fail
    refine HO.out.mono ?_
    rintro e w1 ⟨rfl, hb⟩
    go_wp2
    go_ret3
    exact ⟨by rw [HV.out.1, HV.out.2.1, HV.out.2.2]; rfl, hb⟩
  have HV : Hid (rangeOfR0 xs = loTo (xs.map Sp.d) ((xs.map Sp.d).length - 1) ∧ rangeOfR1 xs = hiTo (xs.map Sp.d) ((xs.map Sp.d).length - 1) ∧ rangeOfR2 xs = 0) := Lib.hid ⟨by unfold rangeOfR0; rw [if_pos ho, List.length_map], by unfold rangeOfR1; rw [if_pos ho, List.length_map], by unfold rangeOfR2; rw [if_pos ho]⟩
  rw [ho] at HO
  have h0 : 0 < (xs.map Sp.d).length := by have := (okW_parts ho).1; rw [List.length_map]; omega
  have h1 : (xs.map Sp.d).length ≤ 1048576 := by rw [List.length_map]; omega
  generalize xs.map Sp.d = zs at *
  clear ho
  go_enter Try.func46, Try.ntmps46
  go_wp2_with fail
  refine HO.out.mono ?_
  rintro e w1 ⟨rfl, hb⟩
  go_wp2_with fail
  refine (HCV.out _ hb).mono ?_
  rintro e w2 hq
  obtain ⟨T, td, rfl, hown, hb2⟩ := retInts_of hq
  have hb := bnext hb hb2
  have hc := owns_cells hown
  clear hq hown hb2
  have HMn := Lib.hid (fun k => least_any T td zs (w2.drewN k) h0 h1 hc)
  have HMx := Lib.hid (fun k => greatest_any T td zs (w2.drewN k) h0 h1 hc)
  go_wp2_with fail
  refine (HMn.out 0).mono ?_
  rintro e w3 ⟨rfl, ⟨k3, rfl⟩⟩
  have hk3 : (w2.drewN 0).drewN k3 = w2.drewN (0 + k3) := World.drewN_drewN ..
  rw [hk3]
  clear hk3
  go_wp2_with fail
  refine (HMx.out _).mono ?_
  rintro e w4 ⟨rfl, ⟨k4, rfl⟩⟩
  go_wp2
  go_ret3
  exact ⟨by rw [HV.out.1, HV.out.2.1, HV.out.2.2]; rfl, below_drewN hb _⟩
end Go.Proofs.Ytkbkmpcdidhagac
