/-
  The surplus of each node, of the program; the least and the greatest number of a list, and where it first stands.
-/
import Derived.Test.YtdaedgdglammhaaBo1
import Derived.Test.YtdaedgdglammhaaKa1
import Derived.Lib.MinMax
namespace Go.Proofs.Ytdaedgdglammhaa
open Go.ChangeShapes Go.WideShapes Go.ChangeAt Go.RowKit Go.Shelf

set_option linter.unusedVariables false
set_option maxRecDepth 100000
set_option maxHeartbeats 4000000
/-- by how much the pressure of a node is greater than that of its steam -/
def surF (zs ds : List Int) (k : Nat) : Int := zs.getD k 0 - stmI (ds.getD k 0)
def surL (zs ds : List Int) : List Int := (List.range zs.length).map (surF zs ds)
theorem surL_length (zs ds : List Int) : (surL zs ds).length = zs.length := by unfold surL; rw [List.length_map, List.length_range]
theorem surL_at (zs ds : List Int) (k : Nat) (h : k < zs.length) : (surL zs ds)[k]'(by rw [surL_length]; exact h) = surF zs ds k := by unfold surL; rw [List.getElem_map, List.getElem_range]
theorem allIn_one' {lo hi : Int} {zs : List Int} (h : allIn lo hi zs = true) {k : Nat} (hk : k < zs.length) : lo ≤ zs.getD k 0 ∧ zs.getD k 0 ≤ hi := by
  unfold allIn at h
  have := List.all_eq_true.1 h (zs.getD k 0) (by rw [List.getD_eq_getElem?_getD, List.getElem?_eq_getElem hk]; exact List.getElem_mem hk)
  simpa using this
theorem surpluses_any (P D : Option Addr) (pc dc : Nat) (zs ds : List Int) (w : World) (hP : CellsAt w P (intsV zs)) (hD : CellsAt w D (intsV ds)) (hn : zs.length ≤ 1048576) (hl : zs.length = ds.length) (hz : prB zs = true) (hd : waB ds = true) :
    Calls Try.prog 89 #[.slice P zs.length pc, .slice D ds.length dc] w (RetRow 2 (intsV (surL zs ds)) w) := by
  have HP := Lib.hid hP
  have HD := Lib.hid hD
  have HZ := Lib.hid hz
  have HW := Lib.hid hd
  have HLEN := Lib.hid hl
  have hlc : (ds.length : Int) = (zs.length : Int) := by omega
  have hM : zs.length ≤ maxLen := by unfold maxLen; omega
  have hm : zs.length ≤ 9223372036854775807 := by omega
  obtain ⟨i0, hi, hz0, hz1, hz2⟩ := info_parts infoI64
  clear hP hD hz hd hl
  go_enter Try.func89, Try.ntmps89
  go_wp2_with (refine wpList_make_full _ rfl _ _ _ rfl w.heap.size 2 i0 (.int .i64 0) 1 Try.underlying31 hi hz0 hz1 _ _ _ _ zs.length rfl rfl rfl rfl (by rw [hz2]; omega) hM (Nat.le_refl _) ?_; intro w1 hown hgrow)
  have hb1 := Below.grown (Below.refl w.heap.size w) hgrow (Nat.le_refl _) (fun k hk => by cases hk)
  have hl1 := owns_len hown
  generalize (madeCells (Value.int IntKind.i64 0).cells (zs.length * 1)).toList = us at *
  have HX := Lib.hid hl1
  clear hl1
  go_loopw [13] (fun i wr => ∃ j : Nat, j ≤ zs.length ∧ i = .int .i64 j ∧ wr.ownsRow w.heap.size 2 1 (.slice (some ⟨w.heap.size, 0, none⟩) zs.length zs.length) zs.length (fillV (fun j => (intsV (surL zs ds)).getD j default) j us) ∧ Below w.heap.size w wr) (fun i _ => zs.length - (intOf i).toNat)
  case atStart => exact ⟨0, Nat.zero_le _, rfl, hown, hb1⟩
  case round =>
    obtain ⟨j, hj, rfl, hro, hb⟩ := hrel
    by_cases hlt : j < zs.length
    · obtain ⟨bp, op, rfl, q0⟩ := intsCell (HP.out.next hb) hlt
      obtain ⟨bd, od, rfl, q1⟩ := intsCell (HD.out.next hb) (show j < ds.length by rw [← HLEN.out]; exact hlt)
      have hgd : (intsV (surL zs ds)).getD j default = .int .i64 (surF zs ds j) := by
        rw [List.getD, intsV_at _ _ (by rw [surL_length]; exact hlt), surL_at zs ds j hlt]; rfl
      have HG := Lib.hid hgd
      have z0 := allIn_one' HZ.out hlt
      have d0 := allIn_one' HW.out (show j < ds.length by rw [← HLEN.out]; exact hlt)
      have HC := Lib.hid (fun W => surplus_any (zs.getD j 0) (ds.getD j 0) W z0.1 z0.2 d0.1 d0.2)
      have hk1 : (j : Int) < ((zs.length : Nat) : Int) := by omega
      have hk2 : (j : Int) < ((ds.length : Nat) : Int) := by omega
      change Hid (∀ W, Calls _ _ _ _ fun e w' => e = .returned (.int .i64 (surF zs ds j)) ∧ _) at HC
      generalize surF zs ds j = y at *
      generalize zs.getD j 0 = zv at *
      generalize ds.getD j 0 = dv at *
      clear hgd z0 d0
      go_wp2_with (
        (go_at_call 83; refine (HC.out _).mono ?_; rintro e w2 ⟨rfl, hbt⟩
         have hb2 := bnext hb hbt
         have hro1 := owns_below hro hbt (Nat.le_refl _)
         clear hro hb HC hbt
         have hc1 := hro1.cellAt j (by omega)
         have hf1 := hro1.frozenAt j
         rw [fillV_get, List.getElem?_eq_getElem (by rw [HX.out]; exact hlt)] at hc1
         have hst := hro1.stored j (.int .i64 y)
         have hfs := fillV_set (fun j => (intsV (surL zs ds)).getD j default) us j (by rw [HX.out]; exact hlt)
         rw [HG.out] at hfs
         rw [hfs] at hst
         have Hst := Lib.hid hst
         clear hst hfs hro1))
      go_roundw
      case rel => exact ⟨j + 1, by omega, by go_num, Hst.out.1, hb2.setCell (Nat.le_refl _) _⟩
      case measure => simp [intOf]; omega
    · obtain rfl : j = zs.length := by omega
      have hfa := fillV_all (fun k => (intsV (surL zs ds)).getD k default) zs.length us HX.out
      have hru : (List.range zs.length).map (fun k => (intsV (surL zs ds)).getD k default) = intsV (surL zs ds) := by
        refine List.ext_getElem (by rw [List.length_map, List.length_range, intsV_length, surL_length]) fun k h1 h2 => ?_
        rw [List.getElem_map, List.getElem_range, List.getD_eq_getElem?_getD, List.getElem?_eq_getElem h2]; rfl
      have hfin := retRow_mk (vs := intsV (surL zs ds)) (w := w) rfl hro (hfa.trans hru) hb
      have HF9 := Lib.hid hfin
      clear hfin hfa hru hro
      go_wp2
      go_ret
      exact HF9.out

/-- the least and the greatest number of a list up to a place, and where the least one first stands -/
def minTo (f : Nat → Int) : Nat → Int
  | 0 => f 0
  | k + 1 => min (minTo f k) (f (k + 1))
def maxTo (f : Nat → Int) : Nat → Int
  | 0 => f 0
  | k + 1 => max (maxTo f k) (f (k + 1))
def argTo (f : Nat → Int) : Nat → Nat
  | 0 => 0
  | k + 1 => if f (k + 1) < f (argTo f k) then k + 1 else argTo f k
theorem argTo_le (f : Nat → Int) (k : Nat) : argTo f k ≤ k := by
  induction k with
  | zero => exact Nat.le_refl _
  | succ k ih => unfold argTo; split <;> omega
theorem argTo_min (f : Nat → Int) (k : Nat) : f (argTo f k) = minTo f k := by
  induction k with
  | zero => rfl
  | succ k ih => unfold argTo minTo; split <;> omega
theorem minTo_le (f : Nat → Int) (k j : Nat) (h : j ≤ k) : minTo f k ≤ f j := by
  induction k with
  | zero => have : j = 0 := by omega
            subst this; exact Int.le_refl _
  | succ k ih =>
    unfold minTo
    by_cases e : j = k + 1
    · subst e; omega
    · have := ih (by omega); omega
theorem argTo_first (f : Nat → Int) (k j : Nat) (h : j < argTo f k) : minTo f k < f j := by
  induction k with
  | zero => exact absurd h (Nat.not_lt_zero _)
  | succ k ih =>
    rw [← argTo_min]
    have m := argTo_min f k
    unfold argTo at h ⊢
    split at h
    · next hh =>
      rw [if_pos hh]
      have := minTo_le f k j (by omega)
      omega
    · next hh =>
      rw [if_neg hh]
      have := ih h
      omega
theorem maxTo_ge (f : Nat → Int) (k j : Nat) (h : j ≤ k) : f j ≤ maxTo f k := by
  induction k with
  | zero => have : j = 0 := by omega
            subst this; exact Int.le_refl _
  | succ k ih =>
    unfold maxTo
    by_cases e : j = k + 1
    · subst e; omega
    · have := ih (by omega); omega
theorem minTo_bd {f : Nat → Int} {lo hi : Int} {k : Nat} (h : ∀ j, j ≤ k → lo ≤ f j ∧ f j ≤ hi) : lo ≤ minTo f k ∧ minTo f k ≤ hi := by
  rw [← argTo_min]
  exact h _ (argTo_le f k)
theorem maxTo_bd {f : Nat → Int} {lo hi : Int} {k : Nat} (h : ∀ j, j ≤ k → lo ≤ f j ∧ f j ≤ hi) : lo ≤ maxTo f k ∧ maxTo f k ≤ hi := by
  induction k with
  | zero => exact h 0 (Nat.le_refl _)
  | succ k ih =>
    have := ih (fun j hj => h j (by omega))
    have := h (k + 1) (Nat.le_refl _)
    unfold maxTo
    omega
theorem slicesMin_any (A : Option Addr) (c : Nat) (zs : List Int) (w : World) (h : CellsAt w A (intsV zs)) (h0 : 0 < zs.length) (hn : zs.length ≤ 1048576) :
    Calls Try.prog 91 #[.slice A zs.length c] w fun e w' => e = .returned (.int .i64 (minTo (fun k => zs.getD k 0) (zs.length - 1))) ∧ Below w.heap.size w w' := by
  have HB := Lib.hid h
  obtain ⟨b, o, rfl, q0⟩ := intsCell h h0
  have hpos : (0 : Int) < ((zs.length : Nat) : Int) := by omega
  have hone : decide (((zs.length : Nat) : Int) < 1) = false := decide_eq_false (by omega)
  have q0 : w.cell? ⟨b, o, none⟩ = some (.int .i64 (zs.getD 0 0)) := q0
  have hx0 : zs.getD 0 0 = minTo (fun k => zs.getD k 0) (1 - 1) := rfl
  generalize zs.getD 0 0 = x0 at q0 hx0
  have HX0 := Lib.hid hx0
  clear hx0
  clear h
  go_enter Try.func91, Try.ntmps91
  go_wp2_with fail
  go_loopw [3, 4] (fun v i wr => ∃ k : Nat, 1 ≤ k ∧ k ≤ zs.length ∧ i = .int .i64 k ∧ v = .int .i64 (minTo (fun k => zs.getD k 0) (k - 1)) ∧ Below w.heap.size w wr) (fun _ i _ => zs.length - (intOf i).toNat)
  case atStart => exact ⟨1, Nat.le_refl _, by omega, rfl, by rw [HX0.out], Below.refl _ _⟩
  case round =>
    obtain ⟨k, k0, hk, rfl, rfl, hb⟩ := hrel
    by_cases hlt : k < zs.length
    · obtain ⟨b', o', e', q1⟩ := intsCell (HB.out.next hb) hlt
      obtain ⟨rfl, rfl⟩ : b' = b ∧ o' = o := by simp at e'; exact ⟨e'.1.symm, e'.2.symm⟩
      have hS : Hid (min (minTo (fun k => zs.getD k 0) (k - 1)) (zs.getD k 0) = minTo (fun k => zs.getD k 0) (k + 1 - 1)) := Lib.hid (by
        obtain ⟨j, rfl⟩ : ∃ j, k = j + 1 := ⟨k - 1, by omega⟩
        rfl)
      have hk1 : (k : Int) < ((zs.length : Nat) : Int) := by omega
      generalize minTo (fun k => zs.getD k 0) (k - 1) = m at *
      generalize zs.getD k 0 = x at *
      go_wp2
      go_roundw
      case rel => exact ⟨k + 1, by omega, by omega, by go_num, by rw [hS.out], hb⟩
      case measure => simp [intOf]; omega
    · have he : k = zs.length := by omega
      subst he
      go_wp2
      go_ret
      exact ⟨rfl, hb⟩

theorem slicesMax_any (A : Option Addr) (c : Nat) (zs : List Int) (w : World) (h : CellsAt w A (intsV zs)) (h0 : 0 < zs.length) (hn : zs.length ≤ 1048576) :
    Calls Try.prog 100 #[.slice A zs.length c] w fun e w' => e = .returned (.int .i64 (maxTo (fun k => zs.getD k 0) (zs.length - 1))) ∧ Below w.heap.size w w' := by
  have HB := Lib.hid h
  obtain ⟨b, o, rfl, q0⟩ := intsCell h h0
  have hpos : (0 : Int) < ((zs.length : Nat) : Int) := by omega
  have hone : decide (((zs.length : Nat) : Int) < 1) = false := decide_eq_false (by omega)
  have q0 : w.cell? ⟨b, o, none⟩ = some (.int .i64 (zs.getD 0 0)) := q0
  have hx0 : zs.getD 0 0 = maxTo (fun k => zs.getD k 0) (1 - 1) := rfl
  generalize zs.getD 0 0 = x0 at q0 hx0
  have HX0 := Lib.hid hx0
  clear hx0
  clear h
  go_enter Try.func100, Try.ntmps100
  go_wp2_with fail
  go_loopw [3, 4] (fun v i wr => ∃ k : Nat, 1 ≤ k ∧ k ≤ zs.length ∧ i = .int .i64 k ∧ v = .int .i64 (maxTo (fun k => zs.getD k 0) (k - 1)) ∧ Below w.heap.size w wr) (fun _ i _ => zs.length - (intOf i).toNat)
  case atStart => exact ⟨1, Nat.le_refl _, by omega, rfl, by rw [HX0.out], Below.refl _ _⟩
  case round =>
    obtain ⟨k, k0, hk, rfl, rfl, hb⟩ := hrel
    by_cases hlt : k < zs.length
    · obtain ⟨b', o', e', q1⟩ := intsCell (HB.out.next hb) hlt
      obtain ⟨rfl, rfl⟩ : b' = b ∧ o' = o := by simp at e'; exact ⟨e'.1.symm, e'.2.symm⟩
      have hS : Hid (max (maxTo (fun k => zs.getD k 0) (k - 1)) (zs.getD k 0) = maxTo (fun k => zs.getD k 0) (k + 1 - 1)) := Lib.hid (by
        obtain ⟨j, rfl⟩ : ∃ j, k = j + 1 := ⟨k - 1, by omega⟩
        rfl)
      have hk1 : (k : Int) < ((zs.length : Nat) : Int) := by omega
      generalize maxTo (fun k => zs.getD k 0) (k - 1) = m at *
      generalize zs.getD k 0 = x at *
      go_wp2
      go_roundw
      case rel => exact ⟨k + 1, by omega, by omega, by go_num, by rw [hS.out], hb⟩
      case measure => simp [intOf]; omega
    · have he : k = zs.length := by omega
      subst he
      go_wp2
      go_ret
      exact ⟨rfl, hb⟩

theorem slicesIndex_any (A : Option Addr) (c : Nat) (zs : List Int) (v : Int) (r : Nat) (w : World) (h : CellsAt w A (intsV zs)) (hr : r < zs.length) (hv : zs.getD r 0 = v) (hf : ∀ j, j < r → zs.getD j 0 ≠ v) (hn : zs.length ≤ 1048576) :
    Calls Try.prog 92 #[.slice A zs.length c, .int .i64 v] w fun e w' => e = .returned (.int .i64 r) ∧ Below w.heap.size w w' := by
  have HB := Lib.hid h
  have HV := Lib.hid hv
  have HF := Lib.hid hf
  clear h hv hf
  go_enter Try.func92, Try.ntmps92
  go_wp2_with fail
  go_loopw [8] (fun i wr => ∃ k : Nat, k ≤ r ∧ i = .int .i64 k ∧ Below w.heap.size w wr) (fun i _ => zs.length - (intOf i).toNat)
  case atStart => exact ⟨0, Nat.zero_le _, rfl, Below.refl _ _⟩
  case round =>
    obtain ⟨k, hk, rfl, hb⟩ := hrel
    obtain ⟨b, o, rfl, q1⟩ := intsCell (HB.out.next hb) (show k < zs.length by omega)
    have hk1 : (k : Int) < ((zs.length : Nat) : Int) := by omega
    by_cases hlt : k < r
    · have f1 : (v == zs.getD k 0) = false := beq_eq_false_iff_ne.2 (fun e => HF.out k hlt e.symm)
      generalize zs.getD k 0 = x at *
      go_wp2
      go_roundw
      case rel => exact ⟨k + 1, by omega, by go_num, hb⟩
      case measure => simp [intOf]; omega
    · have he : k = r := by omega
      subst he
      have f1 : (v == zs.getD k 0) = true := by rw [HV.out]; simp
      generalize zs.getD k 0 = x at *
      go_wp2
      go_ret
      exact ⟨rfl, hb⟩

end Go.Proofs.Ytdaedgdglammhaa
