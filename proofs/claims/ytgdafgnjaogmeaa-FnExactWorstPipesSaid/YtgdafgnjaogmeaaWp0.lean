import Derived.Test.YtgdafgnjaogmeaaRk7
import Derived.Test.YtgdafgnjaogmeaaKa1
/-
  The indices of the greatest values: the program.
-/
namespace Go.Proofs.Ytgdafgnjaogmeaa
open Go.ChangeShapes Go.WideShapes Go.ChangeAt Go.RowKit Go.Shelf Go.Sort
set_option linter.unusedSimpArgs false
set_option maxRecDepth 100000
set_option maxHeartbeats 3200000
set_option linter.unusedVariables false


theorem owns_shrink {w : World} {base g n cap : Nat} {E : TypeId} {vs : List Value} (h : w.ownsRow base E 1 (.slice (some ⟨g, 0, none⟩) n cap) n vs) (k : Nat) (hk : k ≤ n) : w.ownsRow base E 1 (.slice (some ⟨g, 0, none⟩) k cap) k (vs.take k) := by
  refine ⟨by rw [List.length_take, owns_len h]; omega, .inr ?_⟩
  rcases h.2 with ⟨h0, _⟩ | ⟨g', cap', cur, hv, hb, hg, h1, h2, h3, ht⟩
  · cases h0
  · cases hv
    refine ⟨g, cap, cur, rfl, hb, hg, by omega, h2, h3, ?_⟩
    rw [← ht, List.take_take, Nat.mul_one, Nat.mul_one, Nat.min_eq_left hk]
theorem rank_mem {l : List Int} {x : Int} (h : x ∈ rankI l) : ∃ q : Nat, x = q ∧ q < l.length := by
  obtain ⟨j, hj, rfl⟩ := List.getElem_of_mem h
  have hjl : j < l.length := by rw [rankI_length] at hj; exact hj
  obtain ⟨q, hq, hql⟩ := rankI_at l j hjl
  rw [List.getElem?_eq_getElem hj] at hq
  exact ⟨q, Option.some.inj hq, hql⟩
theorem sortG_any (base g k cap : Nat) (hs : List Int) (W : World) (hk : hs.length = k) (hn : k ≤ 1048576) (hown : W.ownsRow base 3 1 (.slice (some ⟨g, 0, none⟩) k cap) k (intsV hs)) :
    Calls Try.prog 132 #[.slice (some ⟨g, 0, none⟩) k cap] W fun e w' => e = .returned (.tuple #[]) ∧ w'.ownsRow base 3 1 (.slice (some ⟨g, 0, none⟩) k cap) k (intsV (hs.mergeSort fun x y => decide (x ≤ y))) ∧ W.grownBy w' (some g) := by
  obtain ⟨g', cap', cur, hvv, hbase, hg, h1, h2, h3, htake⟩ : ∃ g' cap' cur, Value.slice (some ⟨g, 0, none⟩) k cap = .slice (some ⟨g', 0, none⟩) k cap' ∧ base ≤ g' ∧ W.heap[g']? = some (.cells cur 3 (0, 0)) ∧ k ≤ cap' ∧ cap' ≤ maxLen ∧ cur.size = cap' * 1 ∧ cur.toList.take (k * 1) = intsV hs := by
    rcases hown.2 with ⟨h0, _⟩ | h
    · cases h0
    · exact h
  cases hvv
  have hgl : g < W.heap.size := by
    rcases Nat.lt_or_ge g W.heap.size with h | h
    · exact h
    · rw [Array.getElem?_eq_none h] at hg; cases hg
  have hH := holds_of_blockI (ss := hs) hg (by rw [hk]; simpa [intsV] using htake)
  have hS := AnyM.slices_Sort_int Try.sortI g 0 cap hs W hH hgl (by omega)
  change Calls Try.prog 132 _ _ _ at hS
  rw [hk] at hS
  refine hS.mono ?_
  rintro e w' ⟨rfl, n, os, rfl⟩
  have hl : (hs.mergeSort fun x y => decide (x ≤ y)).length = hs.length := List.length_mergeSort _
  have h := ownsRow_sortedI (w := W) (base := base) (g := g) (cap := cap) (n := n) (e := 3) (os := os) (cur := cur) (ss := hs) (ts := hs.mergeSort fun x y => decide (x ≤ y)) hl hbase hg (by rw [hk]; exact h1) h2 h3
  rw [hk] at h
  exact ⟨rfl, h, grownBy_sortedI _⟩
theorem place1_any (x : Int) (w : World) (h0 : 0 ≤ x) (h1 : x ≤ 1048576) : Calls Try.prog 134 #[.int .i64 x] w fun e w' => e = .returned (.int .i64 x) ∧ Below w.heap.size w w' := by
  have hb : Below w.heap.size w w := Below.refl _ _
  go_enter Try.func134, Try.ntmps134
  go_wp2
  go_ret
  exact ⟨rfl, hb⟩

theorem convPlace_any (A : Option Addr) (c0 : Nat) (ps : List Int) (w : World)  (hn : ps.length ≤ 1048576) (hB : CellsAt w A (intsV ps))
    (hf : ∀ (wr : World) (x : Int), x ∈ ps → Below w.heap.size w wr → Calls Try.prog 134 #[.int .i64 x] wr fun e w' => e = .returned (.int .i64 ((fun v : Int => v) x)) ∧ Below wr.heap.size wr w') :
    Calls Try.prog 133 #[.slice A ps.length c0, .func (.func 134) #[] #[]] w (RetRow 2 (intsV (ps.map ((fun v : Int => v)))) w) := by
  have HB := Lib.hid hB
  have HF := Lib.hid hf
  have hM : ps.length ≤ maxLen := by unfold maxLen; omega
  have hm : ps.length ≤ 9223372036854775807 := by omega
  obtain ⟨i0, hi, hz0, hz1, hz2⟩ := info_parts infoI64
  clear hB hf
  go_enter Try.func133, Try.ntmps133
  go_wp2_with (refine wpList_make_full _ rfl _ _ _ rfl w.heap.size 2 i0 (.int .i64 0) 1 Try.underlying32 hi hz0 hz1 _ _ _ _ ps.length rfl rfl rfl rfl (by rw [hz2]; omega) hM (Nat.le_refl _) ?_; intro w1 hown hgrow)
  have hb1 := Below.grown (Below.refl w.heap.size w) hgrow (Nat.le_refl _) (fun k hk => by cases hk)
  have hl1 := owns_len hown
  generalize (madeCells (Value.int IntKind.i64 0).cells (ps.length * 1)).toList = us at *
  have HX := Lib.hid hl1
  clear hl1
  go_loopw [13] (fun i wr => ∃ j : Nat, j ≤ ps.length ∧ i = .int .i64 j ∧ wr.ownsRow w.heap.size 2 1 (.slice (some ⟨w.heap.size, 0, none⟩) ps.length ps.length) ps.length (fillV (fun j => (intsV (ps.map ((fun v : Int => v)))).getD j default) j us) ∧ Below w.heap.size w wr) (fun i _ => ps.length - (intOf i).toNat)
  case atStart => exact ⟨0, Nat.zero_le _, rfl, hown, hb1⟩
  case round =>
    obtain ⟨j, hj, rfl, hro, hb⟩ := hrel
    by_cases hlt : j < ps.length
    ·
      obtain ⟨b, off, rfl, hrow⟩ := (HB.out.next hb) (by rw [intsV_length]; omega)
      have hp := List.getElem?_eq_getElem hlt
      have p0 := hrow j (by rw [intsV_length]; exact hlt)
      rw [intsV_at _ _ hlt] at p0
      have hgd : (intsV (ps.map ((fun v : Int => v)))).getD j default = .int .i64 (((fun v : Int => v)) ps[j]) := by
        rw [List.getD, intsV_at _ _ (by rw [List.length_map]; exact hlt), List.getElem_map]; rfl
      have HG := Lib.hid hgd
      have HC := Lib.hid (fun wx (hbx : Below w.heap.size w wx) => HF.out wx ps[j] (List.mem_of_getElem? hp) hbx)
      generalize ps[j] = x at *
      clear hp hrow hgd
      go_wp2_with (
        (go_at_call 134; refine (HC.out _ (hb)).mono ?_; rintro e w2 ⟨rfl, hbt⟩
         have hbt2 := hbt
         have hb2 := bnext hb hbt2
         have hro1 := owns_below hro hbt2 (Nat.le_refl _)
         clear p0 hro hb hbt HC hbt2
         have hc1 := hro1.cellAt j (by omega)
         have hf1 := hro1.frozenAt j
         rw [fillV_get, List.getElem?_eq_getElem (by rw [HX.out]; exact hlt)] at hc1
         have hst := hro1.stored j (.int .i64 (((fun v : Int => v)) x))
         have hfs := fillV_set (fun j => (intsV (ps.map ((fun v : Int => v)))).getD j default) us j (by rw [HX.out]; exact hlt)
         rw [HG.out] at hfs
         rw [hfs] at hst
         have Hst := Lib.hid hst
         clear hst hfs hro1))
      go_roundw
      case rel => exact ⟨j + 1, by omega, by go_num, Hst.out.1, hb2.setCell (Nat.le_refl _) _⟩
      case measure => simp [intOf]; omega
    · obtain rfl : j = ps.length := by omega
      have hfa := fillV_all (fun k => (intsV (ps.map ((fun v : Int => v)))).getD k default) ps.length us HX.out
      have hru : (List.range ps.length).map (fun k => (intsV (ps.map ((fun v : Int => v)))).getD k default) = intsV (ps.map ((fun v : Int => v))) := by
        refine List.ext_getElem (by rw [List.length_map, List.length_range, intsV_length, List.length_map]) fun k h1 h2 => ?_
        first | (simp [List.getD, h2]; done) | (rw [List.getElem_map, List.getElem_range, List.getD_eq_getElem?_getD, List.getElem?_eq_getElem h2]; rfl)
      have hfin := retRow_mk (vs := intsV (ps.map ((fun v : Int => v)))) (w := w) rfl hro (hfa.trans hru) hb
      have HF9 := Lib.hid hfin
      clear hfin hfa hru hro
      go_wp2
      go_ret
      exact HF9.out

/-- the indices of the k greatest values, rising -/
def greatI (l : List Int) (k : Nat) : List Int := ((rankI l).take k).mergeSort (fun x y => decide (x ≤ y))
theorem greatI_length (l : List Int) (k : Nat) (hk : k ≤ l.length) : (greatI l k).length = k := by unfold greatI; rw [List.length_mergeSort, List.length_take, rankI_length]; omega
theorem greatestOf_any (A : Option Addr) (n c : Nat) (l : List Int) (k : Nat) (w : World) (hl : l.length = n) (hn : n ≤ 1048576) (hk : k ≤ n) (hA : CellsAt w A (intsV l)) :
    Calls Try.prog 92 #[.slice A n c, .int .i64 k] w (RetRow 2 (intsV (greatI l k)) w) := by
  have HG := Lib.hid (greatestFirst_at A n c l w hl hn hA)
  have HM := Lib.hid (fun x (hx : x ∈ greatI l k) => show 0 ≤ x ∧ x ≤ 1048576 from by
    unfold greatI at hx
    rw [List.mem_mergeSort] at hx
    obtain ⟨q, rfl, hq⟩ := rank_mem (List.mem_of_mem_take hx)
    omega)
  have HL := Lib.hid (greatI_length l k (by omega))
  have HTL : Hid (((rankI l).take k).length = k) := Lib.hid (by rw [List.length_take, rankI_length]; omega)
  have HSD : Hid (((rankI l).take k).mergeSort (fun x y => decide (x ≤ y)) = greatI l k) := Lib.hid rfl
  clear hA hl
  go_enter Try.func92, Try.ntmps92
  go_wp2_with fail
  refine HG.out.mono ?_
  rintro e w1 ⟨rfl, hown, hb⟩
  have hsh := owns_shrink hown k hk
  rw [← show intsV ((rankI l).take k) = (intsV (rankI l)).take k from List.map_take] at hsh
  have HS := Lib.hid (sortG_any w.heap.size (w.heap.size + 1) k n ((rankI l).take k) w1 HTL.out (by omega) hsh)
  have HB := Lib.hid hb
  clear hown hsh hb
  go_wp2_with fail
  refine HS.out.mono ?_
  rintro e w2 ⟨rfl, hown, hgr⟩
  have hb := HB.out.grown hgr HB.out.size (fun k hk => by cases hk; omega)
  rw [HSD.out] at hown
  have HCV := Lib.hid (convPlace_any (some ⟨w.heap.size + 1, 0, none⟩) n (greatI l k) w2 (by rw [HL.out]; omega) (owns_cells hown) (fun wr x hx hbx => place1_any x wr (HM.out x hx).1 (HM.out x hx).2))
  rw [HL.out, List.map_id'] at HCV
  clear hown hgr
  go_wp2_with fail
  refine HCV.out.mono ?_
  rintro e w3 hq
  obtain ⟨T, td, rfl, ho, hbs⟩ := retInts_of hq
  have hR := retRow_mk (w := w) (e := .returned (.slice T (greatI l k).length td)) rfl (owns_base ho hb.size) rfl (bnext hb hbs)
  rw [HL.out] at hR ⊢
  have HR := Lib.hid hR
  clear hq ho hbs hR
  go_wp2
  go_ret
  exact HR.out

end Go.Proofs.Ytgdafgnjaogmeaa
