/-
  The laws' own helpers over slices of numbers: a copy, equal slices, marks written and found again.
-/
import Derived.Test.YtdaedgdglammhabM1
import Derived.OwnWalk
namespace Go.Proofs.Ytdaedgdglammhab
open Go.ChangeShapes Go.WideShapes Go.ChangeAt Go.RowKit

/-- numbers as cells -/
def intsV (l : List Int) : List Value := l.map (Value.int .i64)
theorem intsV_length (l : List Int) : (intsV l).length = l.length := by simp [intsV]
theorem intsV_at (l : List Int) (k : Nat) (h : k < l.length) : (intsV l)[k]? = some (Value.int .i64 l[k]) := by simp [intsV, h]
theorem intsV_snoc (l : List Int) (n : Int) : intsV (l ++ [n]) = intsV l ++ [Value.int .i64 n] := by simp [intsV]
theorem CellsAt.lies {w : World} {b off : Nat} {vs : List Value} (h : CellsAt w (some ⟨b, off, none⟩) vs) (h0 : 0 < vs.length) : b < w.heap.size := by
  obtain ⟨b', o', e, hc⟩ := h h0
  injection e with e
  injection e with e1 e2
  subst e1; subst e2
  have := hc 0 h0
  rw [List.getElem?_eq_getElem h0] at this
  exact World.block_lt_of_cell? _ _ this
theorem CellsAt.next {w w' : World} {A : Option Addr} {vs : List Value} (h : CellsAt w A vs) (hb : Below w.heap.size w w') : CellsAt w' A vs := by
  intro h0
  obtain ⟨b, off, rfl, hc⟩ := h h0
  have hl := CellsAt.lies h h0
  exact ⟨b, off, rfl, fun j hj => (hb.cell (p := ⟨b, off + j, none⟩) hl).trans (hc j hj)⟩
theorem CellsAt.drewN {w : World} {A : Option Addr} {vs : List Value} (h : CellsAt w A vs) (k : Nat) : CellsAt (w.drewN k) A vs := h
theorem infoI64 : (Try.prog.info? 2).map (fun i => (i.zero, i.size, i.bytes)) = some (some (.int .i64 0), 1, 8) := by kernel_rfl

/-- a slice that is an argument: its numbers -/
def SliceIn (k : IntKind) (w : World) (A : Option Addr) (n : Nat) (zs : List Int) : Prop :=
  zs.length = n ∧ n ≤ maxLen ∧ CellsAt w A (zs.map (Value.int k)) ∧ ∀ z ∈ zs, (Lit.int k z).wf = true
theorem SliceIn.nil (k : IntKind) (w : World) : SliceIn k w none 0 [] := ⟨rfl, Nat.zero_le _, CellsAt.nil _ _, fun _ h => by cases h⟩
theorem SliceIn.row {k : IntKind} {w : World} {a : Addr} {len cap : Nat} {zs : List Int} (hl : len ≤ cap) (hm : cap ≤ maxLen) (hz : zs.length = cap)
    (hc : ∀ i, i < zs.length → w.cell? (a.add i) = some (.int k (zs.getD i 0))) (hw : ∀ n ∈ zs, (Lit.int k n).wf = true) : SliceIn k w (some a) len (zs.take len) := by
  refine ⟨by rw [List.length_take]; omega, by omega, fun h0 => ?_, fun z h => hw z (List.mem_of_mem_take h)⟩
  rw [List.length_map, List.length_take] at h0
  obtain ⟨b, off, rfl, hj⟩ := ints_at hc (by omega)
  refine ⟨b, off, rfl, fun j hjl => ?_⟩
  rw [List.length_map, List.length_take] at hjl
  rw [hj j (by omega)]
  simp [List.getD, show j < zs.length by omega, show j < len by omega]

theorem toInts_any (A : Option Addr) (c n : Nat) (zs : List Int) (w : World) (hz : zs.length = n) (hn : n ≤ 1048576) (hA : CellsAt w A (intsV zs)) :
    Calls Try.prog 32 #[.slice A n c] w (RetRow 2 (intsV zs) w) := by
  have hm : n ≤ 9223372036854775807 := by omega
  have hM : n ≤ maxLen := by unfold maxLen; omega
  obtain ⟨i0, hi, hz0, hz1, hz2⟩ := info_parts infoI64
  have HL := Lib.hid hz
  clear hz
  go_enter Try.func32, Try.ntmps32
  go_wp2_with (refine wpList_make_full _ rfl _ _ _ rfl w.heap.size 2 i0 (.int .i64 0) 1 Try.underlying37 hi hz0 hz1 _ _ _ _ n rfl rfl rfl rfl (by rw [hz2]; omega) hM (Nat.le_refl _) ?_; intro w1 hown hgrow)
  have hb1 := Below.grown (Below.refl w.heap.size w) hgrow (Nat.le_refl _) (fun k hk => by cases hk)
  have hl1 := owns_len hown
  generalize (madeCells (Value.int IntKind.i64 0).cells (n * 1)).toList = xs at *
  have HX := Lib.hid hl1
  clear hl1
  have hrow : Hid (∀ j, j < n → ∃ x, zs[j]? = some x ∧ (intsV zs)[j]? = some (.int .i64 x)) := Lib.hid fun j hj => ⟨zs[j]'(by rw [HL.out]; exact hj), by simp [HL.out, hj], by rw [intsV_at _ _ (by rw [HL.out]; exact hj)]⟩
  go_loopw [4] (fun i wr => ∃ j : Nat, j ≤ n ∧ i = .int .i64 j ∧ wr.ownsRow w.heap.size 2 1 (.slice (some ⟨w.heap.size, 0, none⟩) n n) n (fillV (fun j => (intsV zs).getD j default) j xs) ∧ Below w.heap.size w wr) (fun i _ => n - (intOf i).toNat)
  case atStart => exact ⟨0, Nat.zero_le _, rfl, hown, hb1⟩
  case round =>
    obtain ⟨j, hj, rfl, hro, hb⟩ := hrel
    by_cases hlt : j < n
    · obtain ⟨b, o, rfl, h1⟩ := hA (by rw [intsV_length, HL.out]; omega)
      obtain ⟨x, hx1, hx2⟩ := hrow.out j hlt
      have hlb := CellsAt.lies hA (by rw [intsV_length, HL.out]; omega)
      have g1 : wr.cell? ⟨b, o + j, none⟩ = some (.int .i64 x) := by
        rw [hb.cell (p := ⟨b, o + j, none⟩) hlb, h1 j (by rw [intsV_length, HL.out]; exact hlt), hx2]
      have hc1 := hro.cellAt j (by omega)
      have hf1 := hro.frozenAt j
      rw [fillV_get, List.getElem?_eq_getElem (by rw [HX.out]; exact hlt)] at hc1
      have hst := hro.stored j (.int .i64 x)
      have hfs := fillV_set (fun j => (intsV zs).getD j default) xs j (by rw [HX.out]; exact hlt)
      have hgd : (intsV zs).getD j default = .int .i64 x := by rw [List.getD, hx2]; rfl
      rw [hgd] at hfs
      rw [hfs] at hst
      have Hst := Lib.hid hst
      clear hst hfs hgd hx1 hx2 h1 hA
      go_wp2
      go_roundw
      case rel => exact ⟨j + 1, by omega, by go_num, Hst.out.1, hb.setCell (Nat.le_refl _) _⟩
      case measure => simp [intOf]; omega
    · have e : j = n := by omega
      subst e
      have hfa := fillV_all (fun k => (intsV zs).getD k default) j xs HX.out
      have hru : (List.range j).map (fun k => (intsV zs).getD k default) = intsV zs := by
        refine List.ext_getElem (by rw [List.length_map, List.length_range, intsV_length, HL.out]) fun k h1 h2 => ?_
        simp [List.getD, h2]
      have Hu := Lib.hid (hfa.trans hru)
      clear hfa hru
      go_wp2
      go_ret
      exact retRow_mk rfl hro Hu.out hb

theorem eqInts_same (A B : Option Addr) (c d : Nat) (xs : List Int) (w : World) (hx : xs.length ≤ maxLen)
    (hA : CellsAt w A (intsV xs)) (hB : CellsAt w B (intsV xs)) :
    Calls Try.prog 34 #[.slice A xs.length c, .slice B xs.length d] w fun e w' => e = .returned (.bool true) ∧ Drawn w w' := by
  have hm : xs.length ≤ 9223372036854775807 := by unfold maxLen at hx; omega
  by_cases h0 : 0 < xs.length
  · obtain ⟨b1, o1, rfl, h1⟩ := hA (by rw [intsV_length]; exact h0)
    obtain ⟨b2, o2, rfl, h2⟩ := hB (by rw [intsV_length]; exact h0)
    go_enter Try.func34, Try.ntmps34
    go_wp2
    go_loopw [5] (fun i wr => ∃ k : Nat, k ≤ xs.length ∧ i = .int .i64 k ∧ Drawn w wr) (fun i _ => xs.length - (intOf i).toNat)
    case atStart => exact ⟨0, Nat.zero_le _, rfl, Drawn.rfl' _⟩
    case round =>
      obtain ⟨k, hk, rfl, ⟨n, rfl⟩⟩ := hrel
      by_cases hlt : k < xs.length
      · have g1 : w.cell? ⟨b1, o1 + k, none⟩ = some (.int .i64 xs[k]) := by rw [h1 k (by rw [intsV_length]; exact hlt), intsV_at _ _ hlt]
        have g2 : w.cell? ⟨b2, o2 + k, none⟩ = some (.int .i64 xs[k]) := by rw [h2 k (by rw [intsV_length]; exact hlt), intsV_at _ _ hlt]
        generalize xs[k] = x at *
        clear h1 h2 hA hB
        go_wp2
        go_quiet (fail)
        go_wp2
        go_roundw
        case rel => exact ⟨k + 1, by omega, by go_num, ⟨_, rfl⟩⟩
        case measure => simp [intOf]; omega
      · go_wp2
        go_ret
        exact ⟨rfl, ⟨_, rfl⟩⟩
  · go_enter Try.func34, Try.ntmps34
    go_wp2
    go_loopw [5] (fun i wr => i = .int .i64 0 ∧ w = wr) (fun _ _ => 0)
    case atStart => exact ⟨rfl, rfl⟩
    case round =>
      obtain ⟨rfl, rfl⟩ := hrel
      go_wp2
      go_ret
      exact ⟨rfl, Drawn.rfl' _⟩

/-- the i-th mark from k on -/
def markIAt (k : Int) (i : Nat) : Value := Value.int .i64 (k + (i : Int))
/-- so many marks, from k on -/
def marksI (k : Int) (n : Nat) : List Value := (List.range n).map (markIAt k)
theorem marksI_length (k : Int) (n : Nat) : (marksI k n).length = n := by simp [marksI]
theorem marksI_at (k : Int) (n i : Nat) (h : i < n) : (marksI k n)[i]? = some (Value.int .i64 (k + (i : Int))) := by simp [marksI, markIAt, h]

theorem markInts_any (A : Option Addr) (c n : Nat) (base : Nat) (xs : List Value) (k : Int) (w : World) (hk0 : 0 ≤ k) (hk1 : k + n ≤ 9223372036854775807)
    (hown : w.ownsRow base 2 1 (.slice A n c) n xs) :
    Calls Try.prog 38 #[.slice A n c, .int .i64 k] w
      fun e w' => e = .returned (.int .i64 (k + n)) ∧ w'.ownsRow base 2 1 (.slice A n c) n (marksI k n) ∧ w.grownBy w' (Value.ownBlock (.slice A n c)) := by
  have hlen := owns_len hown
  by_cases h0 : 0 < n
  · obtain ⟨g, rfl⟩ : ∃ g, A = some ⟨g, 0, none⟩ := by
      rcases hown.2 with ⟨hv, hn⟩ | ⟨g, cap, cur, hv, _⟩
      · omega
      · injection hv with hA; exact ⟨g, hA⟩
    have Hlen := Lib.hid hlen
    clear hlen
    go_enter Try.func38, Try.ntmps38
    go_wp2
    go_loopw [1, 5] (fun m i wr => ∃ j : Nat, j ≤ n ∧ i = .int .i64 j ∧ m = .int .i64 (k + j) ∧ wr.ownsRow base 2 1 (.slice (some ⟨g, 0, none⟩) n c) n (fillV (markIAt k) j xs) ∧ w.grownBy wr (some g)) (fun _ i _ => n - (intOf i).toNat)
    case atStart => exact ⟨0, by omega, rfl, by simp, hown, grown_refl _ _⟩
    case round =>
      obtain ⟨j, hj, rfl, rfl, hro, hgr⟩ := hrel
      by_cases hlt : j < n
      · have hc1 := hro.cellAt j (by omega)
        have hf1 := hro.frozenAt j
        rw [fillV_get, List.getElem?_eq_getElem (by rw [Hlen.out]; exact hlt)] at hc1
        have hst := hro.stored j (markIAt k j)
        rw [fillV_set _ _ _ (by rw [Hlen.out]; exact hlt)] at hst
        have Hst := Lib.hid hst
        clear hst
        go_wp2
        go_roundw
        case rel => exact ⟨j + 1, by omega, by go_num, by go_num, Hst.out.1, grown_set hgr _ _ _⟩
        case measure => simp [intOf]; omega
      · have e : j = n := by omega
        subst e
        have hfa := fillV_all (markIAt k) j xs Hlen.out
        rw [hfa] at hro
        clear hfa
        go_wp2
        go_ret
        exact ⟨rfl, hro, hgr⟩
  · have e : n = 0 := by omega
    subst e
    have hx : xs = [] := List.length_eq_zero_iff.1 hlen
    subst hx
    go_enter Try.func38, Try.ntmps38
    go_wp2
    go_loopw [1, 5] (fun m i wr => m = .int .i64 k ∧ i = .int .i64 0 ∧ w = wr) (fun _ _ _ => 0)
    case atStart => exact ⟨rfl, rfl, rfl⟩
    case round =>
      obtain ⟨rfl, rfl, rfl⟩ := hrel
      go_wp2
      go_ret
      exact ⟨by simp, hown, grown_refl _ _⟩

theorem heldInts_any (A : Option Addr) (c n : Nat) (k : Int) (w : World) (hk0 : 0 ≤ k) (hk1 : k + n ≤ 9223372036854775807) (hx : n ≤ maxLen)
    (hA : CellsAt w A (marksI k n)) :
    Calls Try.prog 39 #[.slice A n c, .int .i64 k] w
      fun e w' => e = .returned (.int .i64 (k + n)) ∧ Drawn w w' := by
  by_cases h0 : 0 < n
  · obtain ⟨b, o, rfl, h1⟩ := hA (by rw [marksI_length]; exact h0)
    go_enter Try.func39, Try.ntmps39
    go_wp2
    go_loopw [1, 5] (fun m i wr => ∃ j : Nat, j ≤ n ∧ i = .int .i64 j ∧ m = .int .i64 (k + j) ∧ Drawn w wr) (fun _ i _ => n - (intOf i).toNat)
    case atStart => exact ⟨0, by omega, rfl, by simp, Drawn.rfl' _⟩
    case round =>
      obtain ⟨j, hj, rfl, rfl, ⟨m, rfl⟩⟩ := hrel
      by_cases hlt : j < n
      · have g1 : w.cell? ⟨b, o + j, none⟩ = some (.int .i64 (k + (j : Int))) := by
          rw [h1 j (by rw [marksI_length]; exact hlt), marksI_at _ _ _ hlt]
        clear h1 hA
        go_wp2
        go_roundw
        case rel => exact ⟨j + 1, by omega, by go_num, by go_num, ⟨_, rfl⟩⟩
        case measure => simp [intOf]; omega
      · have e : j = n := by omega
        subst e
        go_wp2
        go_ret
        exact ⟨rfl, ⟨_, rfl⟩⟩
  · have e : n = 0 := by omega
    subst e
    go_enter Try.func39, Try.ntmps39
    go_wp2
    go_loopw [1, 5] (fun m i wr => m = .int .i64 k ∧ i = .int .i64 0 ∧ w = wr) (fun _ _ _ => 0)
    case atStart => exact ⟨rfl, rfl, rfl⟩
    case round =>
      obtain ⟨rfl, rfl, rfl⟩ := hrel
      go_wp2
      go_ret
      exact ⟨by simp, Drawn.rfl' _⟩

/-- a call that returns a new slice of the numbers xs -/
def RetInts (xs : List Int) (w : World) (e : Ending) (w' : World) : Prop :=
  ∃ A c, e = .returned (.slice A xs.length c) ∧ w'.ownsRow w.heap.size 2 1 (.slice A xs.length c) xs.length (intsV xs) ∧ Below w.heap.size w w'
theorem retInts_of {xs : List Int} {w w' : World} {e : Ending} (h : RetRow 2 (intsV xs) w e w') : RetInts xs w e w' := by
  obtain ⟨A, c, he, ho, hb⟩ := h
  rw [intsV_length] at he ho
  exact ⟨A, c, he, ho, hb⟩
end Go.Proofs.Ytdaedgdglammhab
