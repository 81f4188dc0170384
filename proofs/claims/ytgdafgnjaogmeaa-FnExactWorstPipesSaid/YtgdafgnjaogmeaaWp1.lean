import Derived.Test.YtgdafgnjaogmeaaWp0
import Derived.Test.YtgdafgnjaogmeaaKa2
import Derived.Test.YtgdafgnjaogmeaaB6
/-
  WorstPipes of both sides.
-/
namespace Go.Proofs.Ytgdafgnjaogmeaa
open Go.ChangeShapes Go.WideShapes Go.ChangeAt Go.RowKit Go.Shelf
set_option linter.unusedSimpArgs false
set_option maxRecDepth 100000
set_option maxHeartbeats 3200000
set_option linter.unusedVariables false


/-- how much a pipe loses for each degree -/
def wholeW (p : Pp) : Int := p.s * p.L
def valsW (ps : List Pp) : List Int := ps.map wholeW
def worstPipesC (z : List Int) (ps : List Pp) (count : Int) : Int := argC (netB z ps) (inB count 0 ps.length)
def worstPipesX (z : List Int) (ps : List Pp) (count : Int) : List Int := if argC (netB z ps) (inB count 0 ps.length) = 0 then greatI (valsW ps) count.toNat else []
theorem valsW_length (ps : List Pp) : (valsW ps).length = ps.length := List.length_map _
theorem worstPipesX_short (z : List Int) (ps : List Pp) (count : Int) (hn : z.length ≤ 1048576) (hm : ps.length ≤ 1048576) : (worstPipesX z ps count).length ≤ 1048576 := by
  unfold worstPipesX
  split
  · unfold greatI
    rw [List.length_mergeSort, List.length_take, rankI_length, valsW_length]
    omega
  · simp
theorem wholeW_bd {p : Pp} (h : p.ok = true) : 0 ≤ p.s * p.L ∧ p.s * p.L ≤ 50000000 := by
  obtain ⟨⟨l0, l1⟩, -, ⟨s0, s1⟩⟩ := okPp_bd h
  have := mul_range p.s p.L 5000 10000 s0 s1 (by omega) l1
  omega
theorem valsW_at {ps : List Pp} {k : Nat} {p : Pp} (h : ps[k]? = some p) : (valsW ps).getD k 0 = p.s * p.L := by
  unfold valsW
  rw [List.getD_eq_getElem?_getD, List.getElem?_map, h]
  rfl
theorem whole_any (p : Pp) (w : World) (h : p.ok = true) :
    Calls Try.prog 94 #[.agg #[.string p.id, .int .i64 p.f, .int .i64 p.t, .int .i64 p.L, .int .i64 p.d, .int .i64 p.s]] w fun e w' => e = .returned (.int .i64 (wholeW p)) ∧ Below w.heap.size w w' := by
  have hb : Below w.heap.size w (w.alloc (.cells #[.string p.id, .int .i64 p.f, .int .i64 p.t, .int .i64 p.L, .int .i64 p.d, .int .i64 p.s] 29)) := bal (Below.refl _ _) _
  have ⟨p0, p1, p2, p3, p4, p5⟩ := PipeO.new w p 29
  have hw := wholeW_bd h
  unfold wholeW
  clear h
  go_enter Try.func94, Try.ntmps94
  go_wp2
  go_ret
  exact ⟨rfl, hb⟩
theorem bestR_fresh {l : List Int} {k i q : Nat} (h : bestR l k i (q : Int)) : chB l k q = false := by
  rcases h with ⟨h, -⟩ | ⟨q', h, -, hc, -⟩
  · omega
  · have : q = q' := by omega
    subst this
    exact hc
theorem any_put (cs : List Int) (p : Int → Bool) : (cs.foldl putI []).any p = cs.any p := by
  have hm : ∀ x, x ∈ cs.foldl putI [] ↔ x ∈ cs := fun x => by simpa using (foldl_put cs [] List.Pairwise.nil).2.mem_iff (a := x)
  rw [Bool.eq_iff_iff, List.any_eq_true, List.any_eq_true]
  constructor
  · rintro ⟨x, hx, h⟩; exact ⟨x, (hm x).1 hx, h⟩
  · rintro ⟨x, hx, h⟩; exact ⟨x, (hm x).2 hx, h⟩
theorem put_len (cs : List Int) : (cs.foldl putI []).length = cs.length := by rw [(foldl_put cs [] List.Pairwise.nil).2.length_eq]; simp
theorem rank_take {l : List Int} {k q : Nat} (h : (rankI l)[k]? = some ((q : Nat) : Int)) : (rankI l).take (k + 1) = (rankI l).take k ++ [(q : Int)] := by rw [List.take_add_one, h]; rfl

theorem convWhole_any (A : Option Addr) (c0 : Nat) (ps : List Pp) (w : World)  (hn : ps.length ≤ 1048576) (hB : CellsAt w A (rowsP ps))
    (hf : ∀ (wr : World) (x : Pp), x ∈ ps → Below w.heap.size w wr → Calls Try.prog 94 #[.agg #[.string x.id, .int .i64 x.f, .int .i64 x.t, .int .i64 x.L, .int .i64 x.d, .int .i64 x.s]] wr fun e w' => e = .returned (.int .i64 (wholeW x)) ∧ Below wr.heap.size wr w') :
    Calls Try.prog 93 #[.slice A ps.length c0, .func (.func 94) #[] #[]] w (RetRow 2 (intsV (ps.map (wholeW))) w) := by
  have HB := Lib.hid hB
  have HF := Lib.hid hf
  have hM : ps.length ≤ maxLen := by unfold maxLen; omega
  have hm : ps.length ≤ 9223372036854775807 := by omega
  obtain ⟨i0, hi, hz0, hz1, hz2⟩ := info_parts infoI64
  clear hB hf
  go_enter Try.func93, Try.ntmps93
  go_wp2_with (refine wpList_make_full _ rfl _ _ _ rfl w.heap.size 2 i0 (.int .i64 0) 1 Try.underlying32 hi hz0 hz1 _ _ _ _ ps.length rfl rfl rfl rfl (by rw [hz2]; omega) hM (Nat.le_refl _) ?_; intro w1 hown hgrow)
  have hb1 := Below.grown (Below.refl w.heap.size w) hgrow (Nat.le_refl _) (fun k hk => by cases hk)
  have hl1 := owns_len hown
  generalize (madeCells (Value.int IntKind.i64 0).cells (ps.length * 1)).toList = us at *
  have HX := Lib.hid hl1
  clear hl1
  go_loopw [13] (fun i wr => ∃ j : Nat, j ≤ ps.length ∧ i = .int .i64 j ∧ wr.ownsRow w.heap.size 2 1 (.slice (some ⟨w.heap.size, 0, none⟩) ps.length ps.length) ps.length (fillV (fun j => (intsV (ps.map (wholeW))).getD j default) j us) ∧ Below w.heap.size w wr) (fun i _ => ps.length - (intOf i).toNat)
  case atStart => exact ⟨0, Nat.zero_le _, rfl, hown, hb1⟩
  case round =>
    obtain ⟨j, hj, rfl, hro, hb⟩ := hrel
    by_cases hlt : j < ps.length
    ·
      obtain ⟨b, off, rfl, hrow⟩ := pipe_at (HB.out.next hb) (by omega)
      have hp := List.getElem?_eq_getElem hlt
      have ⟨p0, p1, p2, p3, p4, p5⟩ := hrow j _ hp
      have hgd : (intsV (ps.map (wholeW))).getD j default = .int .i64 ((wholeW) ps[j]) := by
        rw [List.getD, intsV_at _ _ (by rw [List.length_map]; exact hlt), List.getElem_map]; rfl
      have HG := Lib.hid hgd
      have HC := Lib.hid (fun wx (hbx : Below w.heap.size w wx) => HF.out wx ps[j] (List.mem_of_getElem? hp) hbx)
      generalize ps[j] = x at *
      clear hp hrow hgd
      go_wp2_with (
        (go_at_call 94; refine (HC.out _ (bal hb _)).mono ?_; rintro e w2 ⟨rfl, hbt⟩
         have hba : Below wr.heap.size wr (wr.alloc (.cells #[.string x.id, .int .i64 x.f, .int .i64 x.t, .int .i64 x.L, .int .i64 x.d, .int .i64 x.s] 29)) := bal (Below.refl _ _) _
         have hbt2 := bnext hba hbt
         have hb2 := bnext hb hbt2
         have hro1 := owns_below hro hbt2 (Nat.le_refl _)
         clear p0 p1 p2 p3 p4 p5 hro hb hbt HC hbt2
         have hc1 := hro1.cellAt j (by omega)
         have hf1 := hro1.frozenAt j
         rw [fillV_get, List.getElem?_eq_getElem (by rw [HX.out]; exact hlt)] at hc1
         have hst := hro1.stored j (.int .i64 ((wholeW) x))
         have hfs := fillV_set (fun j => (intsV (ps.map (wholeW))).getD j default) us j (by rw [HX.out]; exact hlt)
         rw [HG.out] at hfs
         rw [hfs] at hst
         have Hst := Lib.hid hst
         clear hst hfs hro1))
      go_roundw
      case rel => exact ⟨j + 1, by omega, by go_num, Hst.out.1, hb2.setCell (Nat.le_refl _) _⟩
      case measure => simp [intOf]; omega
    · obtain rfl : j = ps.length := by omega
      have hfa := fillV_all (fun k => (intsV (ps.map (wholeW))).getD k default) ps.length us HX.out
      have hru : (List.range ps.length).map (fun k => (intsV (ps.map (wholeW))).getD k default) = intsV (ps.map (wholeW)) := by
        refine List.ext_getElem (by rw [List.length_map, List.length_range, intsV_length, List.length_map]) fun k h1 h2 => ?_
        first | (simp [List.getD, h2]; done) | (rw [List.getElem_map, List.getElem_range, List.getD_eq_getElem?_getD, List.getElem?_eq_getElem h2]; rfl)
      have hfin := retRow_mk (vs := intsV (ps.map (wholeW))) (w := w) rfl hro (hfa.trans hru) hb
      have HF9 := Lib.hid hfin
      clear hfin hfa hru hro
      go_wp2
      go_ret
      exact HF9.out

theorem implWorstPipes_ic (A B : Option Addr) (cA d : Nat) (z : List Int) (ps : List Pp) (count : Int) (w : World) (h : NetCells w A z B ps) (hn : z.length ≤ 1048576) (hm : ps.length ≤ 1048576) (hid : ∀ p ∈ ps, p.id.size ≤ maxLen) :
    Calls Try.prog 39 #[.agg #[.slice A z.length cA, .slice B ps.length d], .int .i64 count] w (RetIC (worstPipesX z ps count) (worstPipesC z ps count) w) := by
  have hN := NetAt.new w A z.length cA B ps.length d 40
  have hb : Below w.heap.size w (w.alloc (.cells #[.slice A z.length cA, .slice B ps.length d] 40)) := bal (Below.refl _ _) _
  have HCO := Lib.hid (fun wx (hbx : Below w.heap.size w wx) => code_any A B cA d z ps (inB count 0 ps.length) wx (h.next hbx) hn hm hid)
  unfold worstPipesX worstPipesC
  by_cases h0 : argC (netB z ps) (inB count 0 ps.length) = 0
  · rw [h0, if_pos rfl]
    obtain ⟨hv, hr⟩ : netB z ps = true ∧ inB count 0 ps.length = true := by
      rcases argC_ways (netB z ps) (inB count 0 ps.length) with ⟨hv, hc⟩ | ⟨hv, hr, hc⟩ | ⟨hv, hr, hc⟩
      · omega
      · omega
      · exact ⟨hv, hr⟩
    obtain ⟨hr0, hr1⟩ := inB_iff.1 hr
    obtain ⟨k, rfl⟩ := Int.eq_ofNat_of_zero_le hr0
    rw [h0] at HCO
    have hk : k ≤ ps.length := by omega
    rw [show ((k : Int)).toNat = k from rfl]
    have hok := (netB_ok hv).1
    have HCV := Lib.hid (fun wx (hbx : Below w.heap.size w wx) => convWhole_any B d ps wx (by omega) (h.next hbx).2 (fun wr x hx _ => whole_any x wr (hok x hx)))
    have HGO := Lib.hid (fun (T : Option Addr) (td : Nat) wx (hx : CellsAt wx T (intsV (valsW ps))) => greatestOf_any T ps.length td (valsW ps) k wx (valsW_length ps) (by omega) hk hx)
    have HGL := Lib.hid (greatI_length (valsW ps) k (by rw [valsW_length]; exact hk))
    have HVL := Lib.hid (valsW_length ps)
    clear h0 hv hr hr0 hr1 hok h hid
    have ⟨n0, n1⟩ := hN
    go_enter Try.func39, Try.ntmps39
    go_wp2_with fail
    have hb0 := hb
    have hN0 := hN
    have HX : ∀ O, NetAt ((w.alloc (.cells #[.slice A z.length cA, .slice B ps.length d] 40)).alloc O).drew w.heap.size A z.length cA B ps.length d := fun O => hN0.next (below_drewN (bal (Below.refl _ _) O) 1)
    have hN : NetAt (w.alloc (.cells #[.slice A z.length cA, .slice B ps.length d] 40)).drew w.heap.size A z.length cA B ps.length d := hN
    have ⟨n0, n1⟩ := hN
    go_region_held3 (fun w' => w'.cell? ⟨w.heap.size, 0, none⟩ = some (.slice A z.length cA) ∧ w'.cell? ⟨w.heap.size, 1, none⟩ = some (.slice B ps.length d)) (first | exact ⟨n0, n1⟩ | exact HX _) (first | (go_at_call 56; refine (within64_free _ _ (k : Int) _ _ ?hc).mono ?_; (case hc => simp); rintro e w' ⟨rfl, rfl⟩) | (go_at_call 70; refine (HCO.out _ (below_drewN (bal hb0 _) 1)).mono ?_; rintro e w' ⟨rfl, hb'⟩; have hbz := bnext (below_drewN (bal hb0 _) 1) hb'; have hNz := NetAt.next (hN0.next (below_drewN (bal (Below.refl _ _) _) 1)) hb'; have hb := hbz; have hN := hNz; have ⟨n0, n1⟩ := hN))
    go_wp2_with fail
    refine (HCV.out _ hb).mono ?_
    rintro e w3 hq
    obtain ⟨T, td, rfl, ho, hbs⟩ := retInts_of hq
    have hb := bnext hb hbs
    have hcs := owns_cells ho
    rw [List.length_map] at ho ⊢
    clear hq ho hbs
    have HGO := Lib.hid (HGO.out T td w3 hcs)
    clear hcs
    go_wp2_with fail
    refine HGO.out.mono ?_
    rintro e w4 hq
    obtain ⟨U, ud, rfl, ho, hbs⟩ := retInts_of hq
    have hR := retIC_mk (C := 0) (w := w) rfl ho hb.size (bnext hb hbs)
    rw [HGL.out] at hR ⊢
    have HR := Lib.hid hR
    clear hq ho hbs hR
    go_wp2
    go_ret2
    exact HR.out
  · rw [if_neg h0]
    have h0' : (argC (netB z ps) (inB count 0 ps.length) == 0) = false := by simpa using h0
    have h0n : (argC (netB z ps) (inB count 0 ps.length) != 0) = true := by simpa using h0
    generalize hcl : inB count 0 ps.length = cl at *
    generalize argC (netB z ps) cl = code at *
    subst hcl
    have ⟨n0, n1⟩ := hN
    clear h0 h hid
    go_enter Try.func39, Try.ntmps39
    go_wp2_with fail
    have hb0 := hb
    have hN0 := hN
    have HX : ∀ O, NetAt ((w.alloc (.cells #[.slice A z.length cA, .slice B ps.length d] 40)).alloc O).drew w.heap.size A z.length cA B ps.length d := fun O => hN0.next (below_drewN (bal (Below.refl _ _) O) 1)
    have hN : NetAt (w.alloc (.cells #[.slice A z.length cA, .slice B ps.length d] 40)).drew w.heap.size A z.length cA B ps.length d := hN
    have ⟨n0, n1⟩ := hN
    go_region_held3 (fun w' => w'.cell? ⟨w.heap.size, 0, none⟩ = some (.slice A z.length cA) ∧ w'.cell? ⟨w.heap.size, 1, none⟩ = some (.slice B ps.length d)) (first | exact ⟨n0, n1⟩ | exact HX _) (first | (go_at_call 56; refine (within64_free _ _ count _ _ ?hc).mono ?_; (case hc => simp); rintro e w' ⟨rfl, rfl⟩) | (go_at_call 70; refine (HCO.out _ (below_drewN (bal hb0 _) 1)).mono ?_; rintro e w' ⟨rfl, hb'⟩; have hbz := bnext (below_drewN (bal hb0 _) 1) hb'; have hNz := NetAt.next (hN0.next (below_drewN (bal (Below.refl _ _) _) 1)) hb'; have hb := hbz; have hN := hNz; have ⟨n0, n1⟩ := hN))
    go_wp2
    go_ret2
    exact retIC_nil rfl hb

end Go.Proofs.Ytgdafgnjaogmeaa
