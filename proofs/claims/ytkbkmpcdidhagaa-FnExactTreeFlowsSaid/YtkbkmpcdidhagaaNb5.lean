/-
  A stream finds what leads to each node: explore, newStream.
-/
import Derived.Test.YtkbkmpcdidhagaaNb4
import Derived.Deep.RegionHeld3
import Derived.Deep.DeepCutAuto
namespace Go.Proofs.Ytkbkmpcdidhagaa
open Go.ChangeShapes Go.WideShapes Go.ChangeAt Go.RowKit
set_option maxRecDepth 100000
set_option linter.unusedVariables false

theorem rowsL_at (ps : List Pp) (v : Int) (l : List (Int × Int)) : ∀ (k : Nat) (e : Int × Int), l[k]? = some e → ∀ j, j < 9 → (rowsL ps v l)[k * 9 + j]? = (legCs ps e.1 e.2 v)[j]? := by
  induction l with
  | nil => intro k e h; simp at h
  | cons a r ih =>
    intro k e h j hj
    have hl : (legCs ps a.1 a.2 v).length = 9 := rfl
    have hc : rowsL ps v (a :: r) = legCs ps a.1 a.2 v ++ rowsL ps v r := by unfold rowsL; rw [List.flatMap_cons]
    rw [hc]
    cases k with
    | zero =>
      obtain rfl : a = e := by simpa using h
      rw [List.getElem?_append_left (by omega)]
      simp
    | succ k =>
      rw [List.getElem?_append_right (by omega), hl, show (k + 1) * 9 + j - 9 = k * 9 + j by omega]
      exact ih k e (by simpa using h) j hj
/-- a leg in memory, from an offset on -/
def LegAt (w : World) (b o : Nat) (ps : List Pp) (st nd v : Int) : Prop :=
  ∀ j, j < 9 → w.cell? ⟨b, o + j, none⟩ = (legCs ps st nd v)[j]?
theorem legs_at {w : World} {base : Nat} {A : Option Addr} {c : Nat} {ps : List Pp} {v : Int} {l : List (Int × Int)} (h : w.ownsRow base 156 9 (.slice A l.length c) l.length (rowsL ps v l)) (h0 : 0 < l.length) :
    ∃ g, A = some ⟨g, 0, none⟩ ∧ base ≤ g ∧ g < w.heap.size ∧ ∀ k e, l[k]? = some e → LegAt w g (k * 9) ps e.1 e.2 v := by
  obtain ⟨g, cap, e, hb, hg⟩ := World.ownsRow.form h h0
  cases e
  refine ⟨g, rfl, hb, hg, fun k e hk j hj => ?_⟩
  have hl := (List.getElem?_eq_some_iff.1 hk).1
  rw [h.cellAt (k * 9 + j) (by omega)]
  exact rowsL_at ps v l k e hk j hj
/-- what stays while a stream's map grows -/
theorem GridAt.grown {w w' : World} {b mb : Nat} {A : Option Addr} {n c : Nat} {B : Option Addr} {m d : Nat} {cl : Nat → Bool} (h : GridAt w b A n c B m d cl) (hg : w.grownBy w' (some mb)) (hne : b ≠ mb) : GridAt w' b A n c B m d cl :=
  h.keep (hg.block b h.1.lies (fun e => hne (by simpa using e)))
def FreeOf (mb : Nat) (A : Option Addr) (vs : List Value) : Prop := 0 < vs.length → ∀ b off, A = some ⟨b, off, none⟩ → b ≠ mb
theorem CellsAt.grownBy {w w' : World} {mb : Nat} {A : Option Addr} {vs : List Value} (h : CellsAt w A vs) (hg : w.grownBy w' (some mb)) (hf : FreeOf mb A vs) : CellsAt w' A vs := by
  intro hp
  obtain ⟨b, off, rfl, hc⟩ := h hp
  refine ⟨b, off, rfl, fun j hj => ?_⟩
  have hl := hc j hj
  rw [List.getElem?_eq_getElem hj] at hl
  have hlt := World.block_lt_of_cell? _ _ hl
  exact (World.cell?_of_block (a := ⟨b, off + j, none⟩) (hg.block b hlt (fun e => hf hp b off rfl (by simpa using e)))).trans (hc j hj)
theorem grown_of_below {w w' : World} (h : Below w.heap.size w w') (row : Option Nat) : w.grownBy w' row := ⟨h.os, h.tape, h.output, h.size, fun k hk _ => h.block k hk⟩
/-- the nodes beyond a node are known -/
def RetExplored (gb mb mn f : Nat) (ps : List Pp) (Y : List Int) (src v : Int) (n : Nat) (M : Int → Prop) (w : World) (e : Ending) (w' : World) : Prop :=
  e = .returned (.tuple #[]) ∧ w.grownBy w' (some mb) ∧ ∃ (mn' : Nat) (D' : DataW Unit) (M' : Int → Prop), w'.ownsMap Try.prog 2 (legR ps Y src n) mb mn' D' ∧ mn' ≤ mn + capF f ∧ MapOk D' M' ∧ (∀ x, M x → M' x) ∧ ∀ x : Int, 0 ≤ x → x < n → Under ps Y src v x → M' x
set_option maxHeartbeats 2000000 in
theorem explore_any (gb mb : Nat) (F : Option Addr) (fl fc : Nat) (src : Int) (A B : Option Addr) (n c d : Nat) (ps : List Pp) (O Y : List Int) (R : Rooted ps n src O Y) (hj : Joins n ps) (s0 : 0 ≤ src) (s1 : src < n) (hm : ps.length ≤ 15) (hn : n ≤ 16) (hgm : gb ≠ mb) (hfB : FreeOf mb B (rowsP ps)) :
    ∀ (f : Nat) (v : Int) (mn : Nat) (D : DataW Unit) (M : Int → Prop) (w : World), 0 ≤ v → v < n → n ≤ pos O v + f → GridAt w gb A n c B ps.length d noneClosed → CellsAt w B (rowsP ps) → MapOk D M → M v → w.ownsMap Try.prog 2 (legR ps Y src n) mb mn D → mn + capF f < 9223372036854775807 →
    Calls Try.prog 125 #[.agg #[.pointer (some ⟨gb, 0, none⟩), .int .i64 src, .slice F fl fc, .map (some mb)], .int .i64 v] w (RetExplored gb mb mn f ps Y src v n M w)
  | 0, v, mn, D, M, w, v0, v1, hf, _, _, _, _, _, _ => by
    have := pos_lt (R.all v v0 v1)
    have := R.ok.short
    omega
  | f + 1, v, mn, D, M, w, v0, v1, hf, hG, hB, hD, hv, ho, hcap => by
    have hL := R.legs hj s0 s1
    have HIH := Lib.hid (explore_any gb mb F fl fc src A B n c d ps O Y R hj s0 s1 hm hn hgm hfB f)
    have HCH := Lib.hid (fun wx (hbx : Below w.heap.size w wx) => children_any gb mb mn F fl fc src v A B n c d ps Y D M wx (hG.next hbx) (hB.next hbx) (by omega) hL hn hD hv v0 v1 (ownsMap_below ho hbx))
    have HK := Lib.hid (fun e he => R.kid hj v0 v1 (e := e) he)
    have HLK := Lib.hid (fun e he => legOf_kid R hj v0 v1 (e := e) he)
    have HU := Lib.hid (fun k x h0 h1 h => R.under_kid hj v k x h0 h1 h)
    have hks := kids_short ps Y src v
    generalize kids ps Y src v = l at *
    have hcf : capF (f + 1) = 15 * (1 + capF f) := rfl
    rw [hcf] at hcap
    go_enter Try.func125, Try.ntmps125
    have hbA : Below w.heap.size w (w.alloc (.cells #[.pointer (some ⟨gb, 0, none⟩), .int .i64 src, .slice F fl fc, .map (some mb)] 86)) := bal (Below.refl _ _) _
    have hS := StreamAt.new w gb mb src F fl fc 86
    have hmbw := ho.lt
    have ho1 := ownsMap_below ho hbA
    have HG0 := Lib.hid hG
    have HB0 := Lib.hid hB
    have HD0 := Lib.hid hD
    have HV0 := Lib.hid hv
    clear hG hB hD hv ho
    go_wp2_with fail
    refine (HCH.out _ hbA).mono ?_
    rintro e w1 ⟨A1, c1, rfl, oL, hb1⟩
    have hS := hS.next hb1
    have ho1 := ownsMap_below ho1 hb1
    have hb := bnext hbA hb1
    have hsz : w.heap.size + 1 ≤ w1.heap.size := by have := hb1.size; simp at this; exact this
    have HOL := Lib.hid oL
    have HS := Lib.hid hS
    have HO1 := Lib.hid ho1
    have HB1 := Lib.hid hb
    clear HCH hbA hb1 oL hS ho1 hb
    go_wp2_with fail
    go_loopw [10] (fun i wr => ∃ (k mn' : Nat) (D' : DataW Unit) (M' : Int → Prop), k ≤ l.length ∧ i = .int .i64 k ∧ wr.ownsMap Try.prog 2 (legR ps Y src n) mb mn' D' ∧ mn' ≤ mn + k * (1 + capF f) ∧ MapOk D' M' ∧ (∀ x, M x → M' x) ∧ (∀ j e, j < k → l[j]? = some e → M' e.2 ∧ ∀ x : Int, 0 ≤ x → x < n → Under ps Y src e.2 x → M' x) ∧ w1.grownBy wr (some mb)) (fun i _ => l.length - (intOf i).toNat)
    case atStart => exact ⟨0, mn, D, M, Nat.zero_le _, rfl, HO1.out, by omega, HD0.out, fun x h => h, fun j e h => by omega, grown_refl _ _⟩
    case round =>
      obtain ⟨k, mn', D', M', hk, rfl, ho, hmn, hD, hMM, hdone, hg⟩ := hrel
      have HG1 := Lib.hid hg
      have HDN := Lib.hid hdone
      have HMM := Lib.hid hMM
      have HD1 := Lib.hid hD
      clear hdone hMM hD
      by_cases hlt : k < l.length
      · obtain ⟨g, rfl, hg0, hg1, hleg⟩ := legs_at HOL.out (by omega)
        have hx := List.getElem?_eq_getElem hlt
        have hLA := hleg k _ hx
        have hmem := List.getElem_mem hlt
        have HX := Lib.hid hx
        have hke := HK.out _ hmem
        have hlk := HLK.out _ hmem
        generalize hE : l[k] = ee at *
        obtain ⟨st, nd⟩ := ee
        clear hE hleg hx hmem
        simp only at hke hlk hLA
        obtain ⟨k1, k2, k3, k4, k5⟩ := hke
        have hgm' : g ≠ mb := by have h2 : w.heap.size + 1 ≤ g := (by simpa using hg0); omega
        have hcell : ∀ j, j < 9 → wr.cell? ⟨g, k * 9 + j, none⟩ = (legCs ps st nd v)[j]? := fun j hj => (World.cell?_of_block (a := ⟨g, k * 9 + j, none⟩) (hg.block g hg1 (fun e => hgm' (by simpa using e)))).trans (hLA j hj)
        have l0 : wr.cell? ⟨g, k * 9, none⟩ = some (.int .i64 st) := hcell 0 (by omega)
        have l1 : wr.cell? ⟨g, k * 9 + 1, none⟩ = some (.int .i64 nd) := hcell 1 (by omega)
        have l2 : wr.cell? ⟨g, k * 9 + 2, none⟩ = some (.string (pipeE ps st).id) := hcell 2 (by omega)
        have l3 : wr.cell? ⟨g, k * 9 + 3, none⟩ = some (.int .i64 (pipeE ps st).f) := hcell 3 (by omega)
        have l4 : wr.cell? ⟨g, k * 9 + 4, none⟩ = some (.int .i64 (pipeE ps st).t) := hcell 4 (by omega)
        have l5 : wr.cell? ⟨g, k * 9 + 5, none⟩ = some (.int .i64 (pipeE ps st).L) := hcell 5 (by omega)
        have l6 : wr.cell? ⟨g, k * 9 + 6, none⟩ = some (.int .i64 (pipeE ps st).d) := hcell 6 (by omega)
        have l7 : wr.cell? ⟨g, k * 9 + 7, none⟩ = some (.int .i64 (pipeE ps st).s) := hcell 7 (by omega)
        have l8 : wr.cell? ⟨g, k * 9 + 8, none⟩ = some (.int .i64 v) := hcell 8 (by omega)
        have HLGV := Lib.hid hlk
        clear hcell hLA hlk
        unfold legV legCs at HLGV
        generalize pipeE ps st = p at *
        have hval : legR ps Y src n (.agg #[.int .i64 st, .int .i64 nd, .string p.id, .int .i64 p.f, .int .i64 p.t, .int .i64 p.L, .int .i64 p.d, .int .i64 p.s, .int .i64 v]) = some (.lit (.int .i64 nd), []) := by
          have e : legOf ps Y src nd = .agg #[.int .i64 st, .int .i64 nd, .string p.id, .int .i64 p.f, .int .i64 p.t, .int .i64 p.L, .int .i64 p.d, .int .i64 p.s, .int .i64 v] := HLGV.out
          rw [← e]
          exact legR_of hL ⟨by omega, k4.2⟩
        have hal := bal (Below.refl wr.heap.size wr) (.cells #[.int .i64 st, .int .i64 nd, .string p.id, .int .i64 p.f, .int .i64 p.t, .int .i64 p.L, .int .i64 p.d, .int .i64 p.s, .int .i64 v] 156)
        have hSr := (HS.out.keep (hg.block w.heap.size (by omega) (fun e => by have e : w.heap.size = mb := (by simpa using e); omega))).next hal
        have hoa := ownsMap_below ho hal
        have hkey : keyOf Try.prog 2 (.int .i64 nd) = some (nodeKey nd) := keyI64 (by omega)
        have ⟨s0', s1', s2', s3'⟩ := hSr
        have hsr := hg.size
        have hmul : (k + 1) * (1 + capF f) ≤ 15 * (1 + capF f) := Nat.mul_le_mul_right _ (by omega)
        have hmul2 : (k + 1) * (1 + capF f) = k * (1 + capF f) + (1 + capF f) := Nat.succ_mul _ _
        have HMUL := Lib.hid (And.intro hmul hmul2)
        have hmn1 : mn' < maxLen := by unfold maxLen; omega
        have HVAL := Lib.hid hval
        clear hval hmul hmul2
        go_wp2_with (first
          | (at_mapUpdate; go_must (refine wpList_mapUpdate_own _ rfl _ _ _ 84 rfl 2 156 (Maps.int_keyed Try.underlying2) Try.underlying84 _ mb mn' D' rfl hoa hmn1 _ _ _ rfl rfl hkey (.lit (.int .i64 nd)) [] HVAL.out ?_; intro w2 ho2 hg2; have hmbr : wr.heap.size ≠ mb := (by omega); have hS2 := hSr.keep (hg2.block w.heap.size (by simp; omega) (fun e => by have e : w.heap.size = mb := (by simpa using e); omega)); have ⟨s0', s1', s2', s3'⟩ := hS2; have hc1 := (World.cell?_of_block (a := ⟨wr.heap.size, 1, none⟩) (hg2.block wr.heap.size (by simp) (fun e => hmbr (by simpa using e)))).trans ((cell_of_row _ wr.heap.size 1 _ _ _ (heap_alloc_new wr (.cells #[.int .i64 st, .int .i64 nd, .string p.id, .int .i64 p.f, .int .i64 p.t, .int .i64 p.L, .int .i64 p.d, .int .i64 p.s, .int .i64 v] 156))).trans (show _ = some (.int .i64 nd) from rfl))))
          | (go_at_call 125; go_must (have hgA : w1.grownBy w2 (some mb) := (hg.trans (grown_of_below hal _)).trans hg2; have hgW : w.grownBy w2 (some mb) := (grown_of_below HB1.out _).trans hgA; refine (HIH.out nd (mn' + 1) _ (fun x => x = nd ∨ M' x) w2 (by omega) (by omega) (by omega) (HG0.out.grown hgW hgm) (HB0.out.grownBy hgW hfB) (HD1.out.put nd) (.inl rfl) ho2 (by have := HMUL.out; omega)).mono ?_; rintro e w3 ⟨rfl, hg3, mn3, D3, M3, ho3, hmn3, hD3, hMM3, hU3⟩)))
        go_roundw
        case rel =>
          refine ⟨k + 1, mn3, D3, M3, by omega, by go_num, ho3, by have := HMUL.out.2; omega, hD3, fun x h => hMM3 x (.inr (HMM.out x h)), fun j e hj he => ?_, hgA.trans hg3⟩
          by_cases hjk : j = k
          · subst hjk
            rw [HX.out] at he
            obtain rfl : (st, nd) = e := by simpa using he
            exact ⟨hMM3 _ (.inl rfl), hU3⟩
          · have := HDN.out j e (by omega) he
            exact ⟨hMM3 _ (.inr this.1), fun x h0 h1 hu => hMM3 _ (.inr (this.2 x h0 h1 hu))⟩
        case measure => simp [intOf]; omega
      · obtain rfl : k = l.length := by omega
        have hfin : l.length * (1 + capF f) ≤ 15 * (1 + capF f) := Nat.mul_le_mul_right _ (by omega)
        have HFIN : Hid (mn' ≤ mn + capF (f + 1)) := Lib.hid (by rw [hcf]; omega)
        go_wp2
        go_end0
        refine ⟨rfl, (grown_of_below HB1.out _).trans hg, mn', D', M', ho, HFIN.out, HD1.out, HMM.out, fun x x0 x1 hu => ?_⟩
        obtain ⟨j, hu⟩ := hu
        obtain ⟨e, he, hc⟩ := HU.out j x x0 x1 hu
        obtain ⟨i, hi⟩ := List.mem_iff_getElem?.1 he
        have := HDN.out i e (List.getElem?_eq_some_iff.1 hi).1 hi
        rcases hc with rfl | hc
        · exact this.1
        · exact this.2 x x0 x1 hc
/-- a box of four cells, not frozen -/
def Box4 (w : World) (b : Nat) (v0 v1 v2 v3 : Value) : Prop :=
  (w.cell? ⟨b, 0, none⟩ = some v0 ∧ w.cell? ⟨b, 1, none⟩ = some v1 ∧ w.cell? ⟨b, 2, none⟩ = some v2 ∧ w.cell? ⟨b, 3, none⟩ = some v3) ∧ w.frozen? ⟨b, 0, none⟩ = false ∧ w.frozen? ⟨b, 1, none⟩ = false ∧ w.frozen? ⟨b, 2, none⟩ = false ∧ w.frozen? ⟨b, 3, none⟩ = false
theorem Box4.keep {w w' : World} {b : Nat} {v0 v1 v2 v3 : Value} (h : Box4 w b v0 v1 v2 v3) (k : w'.heap[b]? = w.heap[b]?) : Box4 w' b v0 v1 v2 v3 :=
  ⟨⟨(World.cell?_of_block (a := ⟨b, 0, none⟩) k).trans h.1.1, (World.cell?_of_block (a := ⟨b, 1, none⟩) k).trans h.1.2.1, (World.cell?_of_block (a := ⟨b, 2, none⟩) k).trans h.1.2.2.1, (World.cell?_of_block (a := ⟨b, 3, none⟩) k).trans h.1.2.2.2⟩, (World.frozen?_of_block (a := ⟨b, 0, none⟩) k).trans h.2.1, (World.frozen?_of_block (a := ⟨b, 1, none⟩) k).trans h.2.2.1, (World.frozen?_of_block (a := ⟨b, 2, none⟩) k).trans h.2.2.2.1, (World.frozen?_of_block (a := ⟨b, 3, none⟩) k).trans h.2.2.2.2⟩
theorem Box4.lies {w : World} {b : Nat} {v0 v1 v2 v3 : Value} (h : Box4 w b v0 v1 v2 v3) : b < w.heap.size := World.block_lt_of_cell? _ _ h.1.1
theorem Box4.grown {w w' : World} {b q : Nat} {v0 v1 v2 v3 : Value} (h : Box4 w b v0 v1 v2 v3) (hg : w.grownBy w' (some q)) (hne : b ≠ q) : Box4 w' b v0 v1 v2 v3 :=
  h.keep (hg.block b h.lies (fun e => hne (by simpa using e)))
theorem Box4.next {w w' : World} {b : Nat} {v0 v1 v2 v3 : Value} (h : Box4 w b v0 v1 v2 v3) (hb : Below w.heap.size w w') : Box4 w' b v0 v1 v2 v3 := by
  have hlt := World.block_lt_of_cell? _ _ h.1.1
  have k := hb.block b hlt
  exact ⟨⟨cellNext h.1.1 hb, cellNext h.1.2.1 hb, cellNext h.1.2.2.1 hb, cellNext h.1.2.2.2 hb⟩, (World.frozen?_of_block (a := ⟨b, 0, none⟩) k).trans h.2.1, (World.frozen?_of_block (a := ⟨b, 1, none⟩) k).trans h.2.2.1, (World.frozen?_of_block (a := ⟨b, 2, none⟩) k).trans h.2.2.2.1, (World.frozen?_of_block (a := ⟨b, 3, none⟩) k).trans h.2.2.2.2⟩
theorem Box4.new (w : World) (v0 v1 v2 v3 : Value) (T : TypeId) (b : Nat) (hb : b = w.heap.size) : Box4 (w.alloc (.cells #[v0, v1, v2, v3] T)) b v0 v1 v2 v3 := by
  subst hb
  have hh := heap_alloc_new w (.cells #[v0, v1, v2, v3] T)
  exact ⟨⟨(cell_of_row _ w.heap.size 0 _ _ _ hh).trans rfl, (cell_of_row _ w.heap.size 1 _ _ _ hh).trans rfl, (cell_of_row _ w.heap.size 2 _ _ _ hh).trans rfl, (cell_of_row _ w.heap.size 3 _ _ _ hh).trans rfl⟩, frozen_new9 _ _ _ _, frozen_new9 _ _ _ _, frozen_new9 _ _ _ _, frozen_new9 _ _ _ _⟩
theorem cell_set4 {w : World} {b o q : Nat} {u v0 v1 v2 v3 : Value} (h : w.cell? ⟨q, o, none⟩ = some u) (hne : q ≠ b) : ((((w.setCell ⟨b, 0, none⟩ v0).setCell ⟨b, 1, none⟩ v1).setCell ⟨b, 2, none⟩ v2).setCell ⟨b, 3, none⟩ v3).cell? ⟨q, o, none⟩ = some u :=
  cell_set_other (cell_set_other (cell_set_other (cell_set_other h (.inl hne)) (.inl hne)) (.inl hne)) (.inl hne)
theorem mapHintL (n : Int) (w : World) : (Instr.makeMap 84 (some (.int .i64 n))).run Try.prog w = .ok (.map (some w.heap.size)) (w.alloc (.map #[] 0)) := by rfl
/-- a stream's box, its grid and its empty map -/
def RetCut (ps : List Pp) (Y : List Int) (src : Int) (A B : Option Addr) (n c d : Nat) (F : Option Addr) (fl fc : Nat) (w : World) (s7 : Value) (wx : World) : Prop :=
  ∃ sb gb mb : Nat, s7 = .pointer (some ⟨sb, 0, none⟩) ∧ Hid (StreamAt wx sb gb mb src F fl fc ∧ GridAt wx gb A n c B ps.length d noneClosed ∧ wx.ownsMap Try.prog 2 (legR ps Y src n) mb 0 (.map []) ∧ Box4 wx (w.heap.size + 1) (.pointer none) (.int .i64 0) (.slice none 0 0) (.map none)) ∧ w.heap.size + 2 ≤ sb ∧ w.heap.size + 2 ≤ gb ∧ w.heap.size + 2 ≤ mb ∧ gb ≠ mb ∧ sb ≠ mb ∧ Below w.heap.size w wx
theorem cutNew {ps : List Pp} {Y : List Int} {src : Int} {A B : Option Addr} {n c d : Nat} {F : Option Addr} {fl fc : Nat} {w w2 : World} {gb mb : Nat} {T : TypeId} (sb : Nat) (hsb : sb = w2.heap.size) (hG : GridAt w2 gb A n c B ps.length d noneClosed) (hM : w2.ownsMap Try.prog 2 (legR ps Y src n) mb 0 (.map [])) (hb : Below w.heap.size w w2) (h1 : w.heap.size + 2 ≤ gb) (h2 : w.heap.size + 2 ≤ mb) (hne : gb ≠ mb) (hR : Box4 w2 (w.heap.size + 1) (.pointer none) (.int .i64 0) (.slice none 0 0) (.map none)) (hz : w.heap.size + 2 ≤ w2.heap.size) :
    RetCut ps Y src A B n c d F fl fc w (.pointer (some ⟨sb, 0, none⟩)) (w2.alloc (.cells #[.pointer (some ⟨gb, 0, none⟩), .int .i64 src, .slice F fl fc, .map (some mb)] T)) := by
  subst hsb
  have hal := bal (Below.refl w2.heap.size w2) (.cells #[.pointer (some ⟨gb, 0, none⟩), .int .i64 src, .slice F fl fc, .map (some mb)] T)
  exact ⟨_, gb, mb, rfl, Lib.hid ⟨StreamAt.new w2 gb mb src F fl fc T, hG.next hal, ownsMap_below hM hal, hR.next hal⟩, hz, h1, h2, hne, by have := hM.lt; omega, bal hb _⟩
theorem cutMap {ps : List Pp} {Y : List Int} {src : Int} {A B : Option Addr} {n c d : Nat} {F : Option Addr} {fl fc : Nat} {w w1 : World} {gb mb : Nat} {T : TypeId} (hmb : mb = w1.heap.size + 1) (hG : GridAt w1 gb A n c B ps.length d noneClosed) (hb : Below w.heap.size w w1) (h1 : w.heap.size + 2 ≤ gb) (hR : Box4 w1 (w.heap.size + 1) (.pointer none) (.int .i64 0) (.slice none 0 0) (.map none)) (hz : w.heap.size + 2 ≤ w1.heap.size) :
    RetCut ps Y src A B n c d F fl fc w (.pointer (some ⟨w1.heap.size, 0, none⟩)) ((w1.alloc (.cells #[.pointer (some ⟨gb, 0, none⟩), .int .i64 src, .slice F fl fc, .map (some mb)] T)).alloc (.map #[] 0)) := by
  subst hmb
  have hal := bal (Below.refl w1.heap.size w1) (.cells #[.pointer (some ⟨gb, 0, none⟩), .int .i64 src, .slice F fl fc, .map (some (w1.heap.size + 1))] T)
  have hal2 := bal (Below.refl (w1.alloc (.cells #[.pointer (some ⟨gb, 0, none⟩), .int .i64 src, .slice F fl fc, .map (some (w1.heap.size + 1))] T)).heap.size (w1.alloc (.cells #[.pointer (some ⟨gb, 0, none⟩), .int .i64 src, .slice F fl fc, .map (some (w1.heap.size + 1))] T))) (.map #[] 0)
  have hM := World.ownsMap_made (w1.alloc (.cells #[.pointer (some ⟨gb, 0, none⟩), .int .i64 src, .slice F fl fc, .map (some (w1.heap.size + 1))] T)) Try.prog 2 (legR ps Y src n)
  rw [World.size_alloc] at hM
  have hlt := hG.1.lies
  exact ⟨_, gb, _, rfl, Lib.hid ⟨(StreamAt.new w1 gb _ src F fl fc T).next hal2, (hG.next hal).next hal2, hM, (hR.next hal).next hal2⟩, hz, h1, by omega, by omega, by omega, bal (bal hb _) _⟩
theorem cutSet {ps : List Pp} {Y : List Int} {src : Int} {A B : Option Addr} {n c d : Nat} {F : Option Addr} {fl fc : Nat} {w w2 : World} {sb gb mb : Nat} {v0 v1 v2 v3 : Value} (hZ : Box4 w2 sb v0 v1 v2 v3) (hG : GridAt w2 gb A n c B ps.length d noneClosed) (hM : w2.ownsMap Try.prog 2 (legR ps Y src n) mb 0 (.map [])) (hb : Below w.heap.size w w2) (h0 : w.heap.size + 2 ≤ sb) (h1 : w.heap.size + 2 ≤ gb) (h2 : w.heap.size + 2 ≤ mb) (hne : gb ≠ mb) (hs : sb ≠ gb) (hsm : sb ≠ mb) (hR : Box4 w2 (w.heap.size + 1) (.pointer none) (.int .i64 0) (.slice none 0 0) (.map none)) :
    RetCut ps Y src A B n c d F fl fc w (.pointer (some ⟨sb, 0, none⟩)) ((((w2.setCell ⟨sb, 0, none⟩ (.pointer (some ⟨gb, 0, none⟩))).setCell ⟨sb, 1, none⟩ (.int .i64 src)).setCell ⟨sb, 2, none⟩ (.slice F fl fc)).setCell ⟨sb, 3, none⟩ (.map (some mb))) := by
  have hg := grown_set (grown_set (grown_set (grown_set (grown_refl w2 (some sb)) 0 none (.pointer (some ⟨gb, 0, none⟩))) 1 none (.int .i64 src)) 2 none (.slice F fl fc)) 3 none (.map (some mb))
  have hkk : ∀ k, some sb = some k → w.heap.size ≤ k := fun k hk => by cases hk; omega
  refine ⟨sb, gb, mb, rfl, Lib.hid ⟨⟨?_, ?_, ?_, ?_⟩, hG.grown hg (fun e => hs e.symm), hM.kept hg (fun e => hsm (by simpa using e.symm)), hR.grown hg (by omega)⟩, h0, h1, h2, hne, hsm, hb.grown hg hb.size hkk⟩
  · exact cell_set_other (cell_set_other (cell_set_other (World.cell?_setCell_same _ _ _ hZ.1.1) (.inr (by omega))) (.inr (by omega))) (.inr (by omega))
  · exact cell_set_other (cell_set_other (World.cell?_setCell_same _ _ _ (cell_set_other hZ.1.2.1 (.inr (by omega)))) (.inr (by omega))) (.inr (by omega))
  · exact cell_set_other (World.cell?_setCell_same _ _ _ (cell_set_other (cell_set_other hZ.1.2.2.1 (.inr (by omega))) (.inr (by omega)))) (.inr (by omega))
  · exact World.cell?_setCell_same _ _ _ (cell_set_other (cell_set_other (cell_set_other hZ.1.2.2.2 (.inr (by omega))) (.inr (by omega))) (.inr (by omega)))
/-- the stream of a tree -/
def RetStream (ps : List Pp) (Y : List Int) (src : Int) (A B : Option Addr) (n c d : Nat) (F : Option Addr) (fl fc : Nat) (w : World) (e : Ending) (w' : World) : Prop :=
  ∃ (gb mb mn : Nat) (D : DataW Unit) (M : Int → Prop), e = .returned (.agg #[.pointer (some ⟨gb, 0, none⟩), .int .i64 src, .slice F fl fc, .map (some mb)]) ∧ GridAt w' gb A n c B ps.length d noneClosed ∧ w'.ownsMap Try.prog 2 (legR ps Y src n) mb mn D ∧ MapOk D M ∧ (∀ x : Int, 0 ≤ x → x < n → M x) ∧ w.heap.size ≤ gb ∧ w.heap.size ≤ mb ∧ gb ≠ mb ∧ Below w.heap.size w w'
/-- a stream and a number read as results -/
theorem results_stream2 {fn : Func} {p u : Tmp} (h : fn.results = #[.cell p 86, .tmp u]) (tmps : Array Value) (w : World) (g : Nat) (v0 v1 v2 v3 : Value) (hp : tmps.getD p undef = .pointer (some ⟨g, 0, none⟩)) (h0 : w.cell? ⟨g, 0, none⟩ = some v0) (h1 : w.cell? ⟨g, 1, none⟩ = some v1) (h2 : w.cell? ⟨g, 2, none⟩ = some v2) (h3 : w.cell? ⟨g, 3, none⟩ = some v3) :
    (results fn tmps).run Try.prog w = .ok (.tuple #[.agg #[v0, v1, v2, v3], tmps.getD u undef]) w := by
  have hp' : tmps[p]?.getD undef = .pointer (some ⟨g, 0, none⟩) := by simpa using hp
  have hr : w.rangeAt g 0 [v0, v1, v2, v3] := fun j v hj => by
    match j, hj with
    | 0, hj => cases hj; exact h0
    | 1, hj => cases hj; exact h1
    | 2, hj => cases hj; exact h2
    | 3, hj => cases hj; exact h3
  have hl := run_loadVar_mid (P := Try.prog) w g 0 86 _ _ hr Try.underlying86 rfl (by kernel_rfl)
  rw [results_cell_tmp h]
  simp [hp', asAddr, hl, Result.andThen]
theorem set4_cells {w2 : World} {sb : Nat} {v0 v1 v2 v3 u0 u1 u2 u3 : Value} (hZ : Box4 w2 sb v0 v1 v2 v3) (c : World) (hc : c = (((w2.setCell ⟨sb, 0, none⟩ u0).setCell ⟨sb, 1, none⟩ u1).setCell ⟨sb, 2, none⟩ u2).setCell ⟨sb, 3, none⟩ u3) :
    c.cell? ⟨sb, 0, none⟩ = some u0 ∧ c.cell? ⟨sb, 1, none⟩ = some u1 ∧ c.cell? ⟨sb, 2, none⟩ = some u2 ∧ c.cell? ⟨sb, 3, none⟩ = some u3 ∧ w2.grownBy c (some sb) := by
  subst hc
  refine ⟨?_, ?_, ?_, ?_, grown_set (grown_set (grown_set (grown_set (grown_refl w2 (some sb)) 0 none u0) 1 none u1) 2 none u2) 3 none u3⟩
  · exact cell_set_other (cell_set_other (cell_set_other (World.cell?_setCell_same _ _ _ hZ.1.1) (.inr (by omega))) (.inr (by omega))) (.inr (by omega))
  · exact cell_set_other (cell_set_other (World.cell?_setCell_same _ _ _ (cell_set_other hZ.1.2.1 (.inr (by omega)))) (.inr (by omega))) (.inr (by omega))
  · exact cell_set_other (World.cell?_setCell_same _ _ _ (cell_set_other (cell_set_other hZ.1.2.2.1 (.inr (by omega))) (.inr (by omega)))) (.inr (by omega))
  · exact World.cell?_setCell_same _ _ _ (cell_set_other (cell_set_other (cell_set_other hZ.1.2.2.2 (.inr (by omega))) (.inr (by omega))) (.inr (by omega)))
theorem Box4.set4 {w2 : World} {sb : Nat} {v0 v1 v2 v3 u0 u1 u2 u3 : Value} (hZ : Box4 w2 sb v0 v1 v2 v3) (c : World) (hc : c = (((w2.setCell ⟨sb, 0, none⟩ u0).setCell ⟨sb, 1, none⟩ u1).setCell ⟨sb, 2, none⟩ u2).setCell ⟨sb, 3, none⟩ u3) : Box4 c sb u0 u1 u2 u3 := by
  obtain ⟨k0, k1, k2, k3, _⟩ := set4_cells hZ c hc
  subst hc
  refine ⟨⟨k0, k1, k2, k3⟩, ?_, ?_, ?_, ?_⟩ <;> simp only [World.frozen?_setCell]
  · exact hZ.2.1
  · exact hZ.2.2.1
  · exact hZ.2.2.2.1
  · exact hZ.2.2.2.2
/-- a stream read as the result -/
theorem results_stream {fn : Func} {p : Tmp} (h : fn.results = #[.cell p 86]) (tmps : Array Value) (w : World) (g : Nat) (v0 v1 v2 v3 : Value) (hp : tmps.getD p undef = .pointer (some ⟨g, 0, none⟩)) (h0 : w.cell? ⟨g, 0, none⟩ = some v0) (h1 : w.cell? ⟨g, 1, none⟩ = some v1) (h2 : w.cell? ⟨g, 2, none⟩ = some v2) (h3 : w.cell? ⟨g, 3, none⟩ = some v3) :
    (results fn tmps).run Try.prog w = .ok (.agg #[v0, v1, v2, v3]) w := by
  have hp' : tmps[p]?.getD undef = .pointer (some ⟨g, 0, none⟩) := by simpa using hp
  have hr : w.rangeAt g 0 [v0, v1, v2, v3] := fun j v hj => by
    match j, hj with
    | 0, hj => cases hj; exact h0
    | 1, hj => cases hj; exact h1
    | 2, hj => cases hj; exact h2
    | 3, hj => cases hj; exact h3
  have hl := run_loadVar_mid (P := Try.prog) w g 0 86 _ _ hr Try.underlying86 rfl (by kernel_rfl)
  simp [results, h, hp', asAddr, hl]
end Go.Proofs.Ytkbkmpcdidhagaa
