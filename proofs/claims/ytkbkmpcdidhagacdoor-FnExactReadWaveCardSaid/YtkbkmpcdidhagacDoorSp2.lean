/-
  The laws' own helpers over Step and lists of them: how great one is, a copy, whether two are the same.
-/
import Derived.Test.YtkbkmpcdidhagacDoorSp0
import Derived.Test.YtkbkmpcdidhagacDoorGs
import Derived.Deep.RegionHeld3
namespace Go.Proofs.YtkbkmpcdidhagacDoor
open Go.ChangeShapes Go.WideShapes Go.ChangeAt Go.RowKit
set_option linter.unusedVariables false
set_option linter.unusedSimpArgs false
set_option maxRecDepth 100000
set_option linter.unusedVariables false

theorem infoSp : (Tryd.prog.info? 35).map (fun i => (i.zero, i.size, i.bytes)) = some (some (.agg #[.int .i64 0, .int .i64 0]), 2, 16) := by kernel_rfl
theorem szSps_any (A : Option Addr) (n c : Nat) (xs : List Sp) (m : Int) (w : World) (m0 : 0 ≤ m) (m1 : m ≤ 1048576) (h : SpsIn w A n xs) :
    Calls Tryd.prog 5 #[.slice A n c, .int .i64 m] w (SzR n m w) := by
  have hm : (n : Int) ≤ 9223372036854775807 := by have := h.2.1; unfold maxLen at this; omega
  clear h
  by_cases h1 : m - n < 0
  · go_enter Tryd.func5, Tryd.ntmps5
    go_wp2
    go_ret
    exact ⟨-1, rfl, .inl rfl, Below.refl _ _⟩
  · have h1' : 0 ≤ m - n := by omega
    go_enter Tryd.func5, Tryd.ntmps5
    go_wp2
    go_ret
    exact ⟨_, rfl, .inr ⟨h1', Int.le_refl _⟩, Below.refl _ _⟩
theorem toSp_any (x : Sp) (w : World) :
    Calls Tryd.prog 16 #[.agg #[.int .i64 x.t, .int .i64 x.d]] w fun e w' => e = .returned (.agg #[.int .i64 x.t, .int .i64 x.d]) ∧ Below w.heap.size w w' := by
  go_enter Tryd.func16, Tryd.ntmps16
  go_wp2
  exact bodyPost_ret (results_cell_row Tryd.results16 _ _ (w.heap.size + 1) 35 _ (0, 0) _ rfl (by
    refine ((bal (Below.refl _ _) _).block _ (by simp)).trans ?_
    rw [show w.heap.size + 1 = (w.alloc (.cells #[.int .i64 x.t, .int .i64 x.d] 37)).heap.size from (World.size_alloc _ _).symm]
    exact heap_alloc_new _ _) Tryd.underlying35 rfl (by kernel_rfl)) rfl ⟨rfl, bal (bal (bal (Below.refl _ _) _) _) _⟩
theorem eqSp_same (x : Sp) (w : World) :
    Calls Tryd.prog 21 #[.agg #[.int .i64 x.t, .int .i64 x.d], .agg #[.int .i64 x.t, .int .i64 x.d]] w fun e w' => e = .returned (.bool true) ∧ Below w.heap.size w w' := by
  have e0 : (x.t != x.t) = false := by simp
  have e1 : (x.d != x.d) = false := by simp
  go_enter Tryd.func21, Tryd.ntmps21
  go_wp2
  go_ret
  exact ⟨rfl, bal (bal (Below.refl _ _) _) _⟩
/-- a call that returns a new slice of them -/
def RetSps (xs : List Sp) (w : World) (e : Ending) (w' : World) : Prop :=
  ∃ A c, e = .returned (.slice A xs.length c) ∧ w'.ownsRow w.heap.size 35 2 (.slice A xs.length c) xs.length (rowsF Sp.cs xs) ∧ Below w.heap.size w w'
theorem toSps_any (A : Option Addr) (n c : Nat) (xs : List Sp) (w : World) (hn : n ≤ 1048576) (h : SpsIn w A n xs) :
    Calls Tryd.prog 7 #[.slice A n c] w (RetSps xs w) := by
  obtain ⟨hl, hM, hA, hid⟩ := h
  subst hl
  obtain ⟨i0, hi, hz0, hz1, hz2⟩ := info_parts infoSp
  have hm : xs.length ≤ 9223372036854775807 := by omega
  clear hid
  go_enter Tryd.func7, Tryd.ntmps7
  go_wp2_with (refine wpList_make_full _ rfl _ _ _ rfl w.heap.size 35 i0 (.agg #[.int .i64 0, .int .i64 0]) 2 Tryd.underlying25 hi hz0 hz1 _ _ _ _ xs.length rfl rfl rfl rfl (by rw [hz2]; omega) hM (Nat.le_refl _) ?_; intro w1 hown hgrow)
  have hb1 := Below.grown (Below.refl w.heap.size w) hgrow (Nat.le_refl _) (fun k hk => by cases hk)
  have hl1 := hown.1
  generalize (madeCells (Value.agg #[.int .i64 0, .int .i64 0]).cells (xs.length * 2)).toList = us at *
  have HX := Lib.hid hl1
  have HA := Lib.hid hA
  clear hl1 hA
  go_loopw [4] (fun i wr => ∃ k : Nat, k ≤ xs.length ∧ i = .int .i64 k ∧ wr.ownsRow w.heap.size 35 2 (.slice (some ⟨w.heap.size, 0, none⟩) xs.length xs.length) xs.length (fillF Sp.cs 2 (xs.take k) us) ∧ Below w.heap.size w wr) (fun i _ => xs.length - (intOf i).toNat)
  case atStart => exact ⟨0, Nat.zero_le _, rfl, by rw [List.take_zero, fillF_nil]; exact hown, hb1⟩
  case round =>
    obtain ⟨k, hk, rfl, hro, hb⟩ := hrel
    by_cases hlt : k < xs.length
    · obtain ⟨b, off, rfl, hrow⟩ := SpO.at (HA.out.next hb) (by omega)
      have hp := List.getElem?_eq_getElem hlt
      obtain ⟨p0, p1⟩ := hrow k _ hp
      have hT : Hid (xs.take (k + 1) = xs.take k ++ [xs[k]]) := Lib.hid (by rw [List.take_add_one, hp]; rfl)
      generalize xs[k] = p at *
      clear hp hrow
      go_wp2_with fail
      refine (toSp_any p _).mono ?_
      rintro e w1 ⟨rfl, hbt⟩
      have hb2 := bnext hb hbt
      have hro1 := hro.kept (row := none) ⟨hbt.os, hbt.tape, hbt.output, hbt.size, fun k hk _ => hbt.block k hk⟩ (.inr (by simp [Value.ownBlock]))
      clear p0 p1 hro hb hbt
      have hkl : (xs.take k).length = k := by rw [List.length_take]; omega
      have hbig : (xs.take k).length * 2 + 2 ≤ us.length := by rw [HX.out, hkl]; omega
      obtain ⟨u0, hu0⟩ := fillF_at Sp.csL (xs.take k) us hbig 0 (by omega)
      obtain ⟨u1, hu1⟩ := fillF_at Sp.csL (xs.take k) us hbig 1 (by omega)
      rw [hkl] at hu0 hu1
      have c0 := (hro1.cellAt (k * 2) (by omega)).trans hu0
      have c1 := (hro1.cellAt (k * 2 + 1) (by omega)).trans hu1
      have f0 := hro1.frozenAt (k * 2)
      have f1 := hro1.frozenAt (k * 2 + 1)
      have hst := ((hro1.stored (k * 2) (.int .i64 p.t)).1.stored (k * 2 + 1) (.int .i64 p.d)).1
      have hfs := fillF_set Sp.csL (xs.take k) us p hbig
      rw [hkl] at hfs
      rw [show (((fillF Sp.cs 2 (xs.take k) us).set (k * 2) (.int .i64 p.t)).set (k * 2 + 1) (.int .i64 p.d)) = _ from hfs, ← hT.out] at hst
      have Hst := Lib.hid hst
      clear hst hro1 hbig hkl hfs hu0 hu1
      go_wp2
      go_roundw
      case rel => exact ⟨k + 1, by omega, by go_num, Hst.out, ((hb2.setCell (Nat.le_refl _) _).setCell (Nat.le_refl _) _)⟩
      case measure => simp [intOf]; omega
    · obtain rfl : k = xs.length := by omega
      rw [List.take_length, fillF_all Sp.csL xs us HX.out] at hro
      go_wp2
      go_ret
      exact ⟨_, _, rfl, hro, hb⟩
theorem eqSps_same (A B : Option Addr) (c d : Nat) (xs : List Sp) (w : World) (hx : xs.length ≤ maxLen)
    (hA : CellsAt w A (rowsF Sp.cs xs)) (hB : CellsAt w B (rowsF Sp.cs xs)) :
    Calls Tryd.prog 9 #[.slice A xs.length c, .slice B xs.length d] w fun e w' => e = .returned (.bool true) ∧ Below w.heap.size w w' := by
  have hm : xs.length ≤ 9223372036854775807 := by unfold maxLen at hx; omega
  have HA := Lib.hid hA
  have HB := Lib.hid hB
  clear hA hB
  go_enter Tryd.func9, Tryd.ntmps9
  go_wp2
  go_loopw [5] (fun i wr => ∃ k : Nat, k ≤ xs.length ∧ i = .int .i64 k ∧ Below w.heap.size w wr) (fun i _ => xs.length - (intOf i).toNat)
  case atStart => exact ⟨0, Nat.zero_le _, rfl, Below.refl _ _⟩
  case round =>
    obtain ⟨k, hk, rfl, hb⟩ := hrel
    by_cases hlt : k < xs.length
    · obtain ⟨b1, o1, rfl, hr1⟩ := SpO.at (HA.out.next hb) (by omega)
      obtain ⟨b2, o2, rfl, hr2⟩ := SpO.at (HB.out.next hb) (by omega)
      have hp := List.getElem?_eq_getElem hlt
      have P := hr1 k _ hp
      have Q := hr2 k _ hp
      generalize xs[k] = p at *
      clear hp hr1 hr2
      have hb1 : Below w.heap.size w wr.drew := below_drewN hb 1
      have P1 : SpO wr.drew b1 (o1 + k * 2) p := P
      have Q1 : SpO wr.drew b2 (o2 + k * 2) p := Q
      have ⟨p0, p1⟩ := P1
      have ⟨q0, q1⟩ := Q1
      clear P Q hb
      go_wp2
      go_region_held3 (fun w' => w'.cell? ⟨b1, o1 + k * 2, none⟩ = some (.int .i64 p.t) ∧ w'.cell? ⟨b1, o1 + k * 2 + 1, none⟩ = some (.int .i64 p.d) ∧ w'.cell? ⟨b2, o2 + k * 2, none⟩ = some (.int .i64 p.t) ∧ w'.cell? ⟨b2, o2 + k * 2 + 1, none⟩ = some (.int .i64 p.d)) (exact ⟨p0, p1, q0, q1⟩) ((go_at_call 21; refine (eqSp_same _ _).mono ?_; rintro e w' ⟨rfl, hb'⟩; have hb := bnext hb1 hb'; have P := P1.next hb'; have Q := Q1.next hb'; have ⟨p0, p1⟩ := P; have ⟨q0, q1⟩ := Q))
      go_wp2
      go_roundw
      case rel => exact ⟨k + 1, by omega, by go_num, hb⟩
      case measure => simp [intOf]; omega
    · go_wp2
      go_ret
      exact ⟨rfl, hb⟩
theorem copySps (A : Option Addr) (n c : Nat) (xs : List Sp) (w : World) (h : SpsOk w A n xs) :
    Calls Tryd.prog 7 #[.slice A n c] w fun e w' => ∃ A' c', e = .returned (.slice A' n c') ∧ w'.ownsRow w.heap.size 35 2 (.slice A' n c') n (rowsF Sp.cs xs) ∧ SpsOk w' A' n xs ∧ Below w.heap.size w w' := by
  obtain ⟨hI, hn⟩ := h
  have hl := hI.1
  refine (toSps_any A n c xs w hn hI).mono ?_
  rintro e w' ⟨A', c', rfl, ho, hb⟩
  rw [hl] at ho
  exact ⟨A', c', by rw [hl], ho, ⟨⟨hl, hI.2.1, rowsF_owned ho, hI.2.2.2⟩, hn⟩, hb⟩
theorem sameSps (A B : Option Addr) (n c d : Nat) (xs : List Sp) (w : World) (hn : xs.length = n) (hm : n ≤ maxLen) (hx : CellsAt w A (rowsF Sp.cs xs)) (hy : CellsAt w B (rowsF Sp.cs xs)) :
    Calls Tryd.prog 9 #[.slice A n c, .slice B n d] w fun e w' => e = .returned (.bool true) ∧ Below w.heap.size w w' := by
  subst hn
  exact eqSps_same A B c d xs w hm hx hy
end Go.Proofs.YtkbkmpcdidhagacDoor
