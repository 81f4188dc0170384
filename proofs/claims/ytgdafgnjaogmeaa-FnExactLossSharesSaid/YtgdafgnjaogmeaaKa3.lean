/-
  LossShares of both sides.
-/
import Derived.Test.YtgdafgnjaogmeaaKa2
import Derived.Test.YtgdafgnjaogmeaaA3
namespace Go.Proofs.Ytgdafgnjaogmeaa
open Go.ChangeShapes Go.WideShapes Go.ChangeAt Go.RowKit Go.Shelf
set_option linter.unusedSimpArgs false
set_option maxRecDepth 100000
set_option maxHeartbeats 1600000
set_option linter.unusedVariables false


/-- the sizes of losses, the shares of sizes -/
def sizeW (a c : Int) (p : Pp) : Int := absI (lossW a c p)
def sizesW (ps : List Pp) (a c : Int) : List Int := ps.map (sizeW a c)
def sharesOf (s : List Int) : List Int := s.map fun x => nearZ (1000 * x) s.sum
def lossSharesC (z : List Int) (ps : List Pp) (a c : Int) : Int := argC (netB z ps) (climB a c)
def lossSharesX (z : List Int) (ps : List Pp) (a c : Int) : List Int := if argC (netB z ps) (climB a c) = 0 then sharesOf (sizesW ps a c) else []
theorem sizesW_length (ps : List Pp) (a c : Int) : (sizesW ps a c).length = ps.length := List.length_map _
theorem sharesOf_length (s : List Int) : (sharesOf s).length = s.length := List.length_map _
theorem lossSharesX_short (z : List Int) (ps : List Pp) (a c : Int) (hn : z.length ≤ 1048576) (hm : ps.length ≤ 1048576) : (lossSharesX z ps a c).length ≤ 1048576 := by
  unfold lossSharesX
  split
  · rw [sharesOf_length, sizesW_length]; exact hm
  · simp
theorem sizesW_at {ps : List Pp} {k : Nat} {p : Pp} (a c : Int) (h : ps[k]? = some p) : (sizesW ps a c)[k]? = some (absI (lossW a c p)) := by unfold sizesW; rw [List.getElem?_map, h]; rfl
theorem sizesW_bd {ps : List Pp} (hok : ∀ p ∈ ps, p.ok = true) (a c : Int) (a0 : -5000 ≤ a) (a1 : a ≤ 20000) (b0 : -5000 ≤ c) (b1 : c ≤ 20000) : ∀ x ∈ sizesW ps a c, 0 ≤ x ∧ x ≤ 1250000000001 := by
  intro x hx
  obtain ⟨p, hp, rfl⟩ := List.mem_map.1 hx
  have h := lossW_bd (hok p hp) a c a0 a1 b0 b1
  exact absI_bd _ _ h.1 h.2
theorem sizes_tk {s : List Int} (hs : ∀ x ∈ s, 0 ≤ x ∧ x ≤ 1250000000001) (hm : s.length ≤ 20) (k : Nat) : -25000000000020 ≤ (s.take k).sum ∧ (s.take k).sum ≤ 25000000000020 := by
  have := sumTk_bd (fun x : Int => x) 1250000000001 (by omega) s (fun x hx => by have := hs x hx; omega) 20 hm k
  simp only [List.map_id'] at this
  omega
theorem take_snoc {α : Type} {l : List α} {k : Nat} {x : α} (h : l[k]? = some x) : l.take (k + 1) = l.take k ++ [x] := by rw [List.take_add_one, h]; rfl
theorem sum_snoc (l : List Int) (x : Int) : (l ++ [x]).sum = l.sum + x := by simp
theorem sharesOf_tk {s : List Int} {k : Nat} {x : Int} (h : s[k]? = some x) : (sharesOf s).take (k + 1) = (sharesOf s).take k ++ [nearZ (1000 * x) s.sum] := take_snoc (by unfold sharesOf; rw [List.getElem?_map, h]; rfl)

theorem specLossShares_ic (A B : Option Addr) (cA d : Nat) (z : List Int) (ps : List Pp) (a c : Int) (w : World) (h : NetCells w A z B ps) (hn : z.length ≤ 1048576) (hm : ps.length ≤ 1048576) (hid : ∀ p ∈ ps, p.id.size ≤ maxLen) :
    Calls Try.prog 25 #[.agg #[.slice A z.length cA, .slice B ps.length d], .int .i64 a, .int .i64 c] w (RetIC (lossSharesX z ps a c) (lossSharesC z ps a c) w) := by
  obtain ⟨i0, hi, hz0, hz1, hz2⟩ := info_parts infoI64
  have hN := NetAt.new w A z.length cA B ps.length d 40
  have hb : Below w.heap.size w (w.alloc (.cells #[.slice A z.length cA, .slice B ps.length d] 40)) := bal (Below.refl _ _) _
  have HO := Lib.hid (l04Ok_any w.heap.size A z.length cA B ps.length d z ps _ hN rfl rfl hn hm (h.next hb).1 (h.next hb).2 hid)
  have ⟨n0, n1⟩ := hN
  have H1 := Lib.hid (fun wx => l03Degrees_any a wx)
  have H2 := Lib.hid (fun wx => l03Degrees_any c wx)
  unfold lossSharesX lossSharesC
  rcases argC_ways (netB z ps) (climB a c) with ⟨hv, hc⟩ | ⟨hv, hr, hc⟩ | ⟨hv, hr, hc⟩
  · rw [hc, if_neg (by decide)]
    rw [hv] at HO
    clear hv hc h hid
    go_enter Try.func25, Try.ntmps25
    go_wp2_with fail
    refine HO.out.mono ?_
    rintro e w1 ⟨rfl, ⟨k, rfl⟩⟩
    go_wp2
    go_ret2
    exact retIC_nil rfl (below_drewN hb _)
  · rw [hc, if_neg (by decide)]
    rw [hv] at HO
    unfold climB at hr
    clear hv hc h hid
    by_cases ha : inB a (-5000) 20000 = true
    · have hc2 : inB c (-5000) 20000 = false := by rw [ha, Bool.true_and] at hr; exact hr
      rw [ha] at H1
      rw [hc2] at H2
      clear hr ha hc2
      go_enter Try.func25, Try.ntmps25
      go_wp2_with fail
      refine HO.out.mono ?_
      rintro e w1 ⟨rfl, ⟨k, rfl⟩⟩
      go_wp2_with fail
      refine (H1.out _).mono ?_
      rintro e w1 ⟨rfl, rfl⟩
      go_wp2_with fail
      refine (H2.out _).mono ?_
      rintro e w1 ⟨rfl, rfl⟩
      go_wp2
      go_ret2
      exact retIC_nil rfl (below_drewN hb _)
    · have ha : inB a (-5000) 20000 = false := by simpa only [Bool.not_eq_true] using ha
      rw [ha] at H1
      clear hr ha
      go_enter Try.func25, Try.ntmps25
      go_wp2_with fail
      refine HO.out.mono ?_
      rintro e w1 ⟨rfl, ⟨k, rfl⟩⟩
      go_wp2_with fail
      refine (H1.out _).mono ?_
      rintro e w1 ⟨rfl, rfl⟩
      go_wp2
      go_ret2
      exact retIC_nil rfl (below_drewN hb _)
  · rw [hc, if_pos rfl]
    rw [hv] at HO
    obtain ⟨ha, hc2⟩ := climB_iff.1 hr
    rw [inB_true ha] at H1
    rw [inB_true hc2] at H2
    have hok := (netB_ok hv).1
    have hm20 := (netB_ok hv).2
    have HL := Lib.hid (fun (p : Pp) (hp : p ∈ ps) wx => loses_any p.s p.L a c wx (okPp_bd (hok p hp)).2.2.1 (okPp_bd (hok p hp)).2.2.2 (by have := (okPp_bd (hok p hp)).1.1; omega) (okPp_bd (hok p hp)).1.2 ha.1 ha.2 hc2.1 hc2.2)
    have HLB := Lib.hid (fun (p : Pp) (hp : p ∈ ps) => lossW_bd (hok p hp) a c ha.1 ha.2 hc2.1 hc2.2)
    have hsb := sizesW_bd hok a c ha.1 ha.2 hc2.1 hc2.2
    have HSB := Lib.hid hsb
    have HTK := Lib.hid (fun k => sizes_tk hsb (by rw [sizesW_length]; exact hm20) k)
    have HSL := Lib.hid (sizesW_length ps a c)
    have HAT := Lib.hid (fun k p (hp : ps[k]? = some p) => sizesW_at a c hp)
    have HC := Lib.hid h.2
    generalize hS : sizesW ps a c = S at *
    clear hS hv hr hc h hid ha hc2 hok hsb
    go_enter Try.func25, Try.ntmps25
    go_wp2_with fail
    refine HO.out.mono ?_
    rintro e w1 ⟨rfl, ⟨k, rfl⟩⟩
    go_wp2_with fail
    refine (H1.out _).mono ?_
    rintro e w1 ⟨rfl, rfl⟩
    go_wp2_with fail
    refine (H2.out _).mono ?_
    rintro e w1 ⟨rfl, rfl⟩
    have hN := hN.next (below_drewN (Below.refl _ _) k)
    have hb := below_drewN hb k
    generalize hW1 : (w.alloc (.cells #[.slice A z.length cA, .slice B ps.length d] 40)).drewN k = w1 at *
    clear hW1 n0 n1
    have HN := Lib.hid hN
    have HB1 := Lib.hid hb
    have hs1 : w.heap.size ≤ w1.heap.size := hb.size
    go_wp2_with fail
    go_loopw [8, 9, 10] (fun v u i wr => ∃ (q : Nat) (T : Option Addr) (L td : Nat) (s : Int), q ≤ ps.length ∧ i = .int .i64 q ∧ v = .slice T L td ∧ u = .int .i64 s ∧ -25000000000020 ≤ s ∧ s ≤ 25000000000020 ∧ Hid (s = (S.take q).sum) ∧ wr.ownsRow w1.heap.size 2 1 (.slice T L td) L (intsV (S.take q)) ∧ Below w1.heap.size w1 wr) (fun _ _ i _ => ps.length - (intOf i).toNat)
    case atStart => exact ⟨0, _, _, _, 0, Nat.zero_le _, rfl, rfl, rfl, by omega, by omega, Lib.hid rfl, owns_empty _ _ _ (Nat.le_refl _), (Below.refl _ _).alloc (Nat.le_refl _) _⟩
    case round =>
      clear hb hN
      obtain ⟨q, T, L, td, s, hq, rfl, rfl, rfl, s0, s1, HS, htr, hbq⟩ := hrel
      have ⟨m0, m1⟩ := HN.out.next hbq
      by_cases hlt : q < ps.length
      · obtain ⟨b, off, rfl, hrow⟩ := pipe_at ((HC.out.next HB1.out).next hbq) (by omega)
        have hp := List.getElem?_eq_getElem hlt
        obtain ⟨p0, p1, p2, p3, p4, p5⟩ := hrow q _ hp
        have HLC := Lib.hid (HL.out _ (List.mem_of_getElem? hp))
        have hlb := HLB.out _ (List.mem_of_getElem? hp)
        have hat := HAT.out q _ hp
        unfold lossW at hlb hat
        have hab := absI_bd _ _ hlb.1 hlb.2
        have hL : L ≤ 20 := by
          have := owns_len htr
          rw [intsV_length, List.length_take] at this
          omega
        generalize ps[q] = p at *
        generalize lossI p.s p.L a c = u at *
        have HAB := Lib.hid (fun wx => l03Abs_any u wx (by omega) (by omega))
        generalize absI u = x at *
        have hsum := HTK.out (q + 1)
        have htk := take_snoc hat
        rw [htk, sum_snoc, ← HS.out] at hsum
        have HTS := Lib.hid htk
        have HSS : Hid (s + x = (S.take (q + 1)).sum) := Lib.hid (by rw [HTS.out, sum_snoc, HS.out])
        clear p0 p1 p2 p4 hp hrow hat htk hlb
        go_wp2
        go_quiet ((first | (go_at_call 63; exact quiet_same (HLC.out _)) | (go_at_call 75; exact quiet_same (HAB.out _))))
        go_wp2_with (at_builtin; refine wpList_append_own _ rfl _ _ 32 rfl w1.heap.size 2 i0 (.int .i64 0) 1 8 Try.underlying32 hi hz0 hz1 hz2 rfl (by decide) _ _ _ rfl ((owns_below htr (below_drewN (Below.refl _ _) _) (Nat.le_refl _)).alloc _) ⟨_, 0, none⟩ 1 1 [.int .i64 x] rfl rfl (cell_one_new _ _ _) (by simp [Value.oneCell']) ?_ ?_ ?_ ?_; (unfold maxLen; omega); (omega); (have := hbq.size; simp at this ⊢; omega); intro v5 w5 hown5 hgrow5 _)
        obtain ⟨T5, d5, rfl⟩ := owns_form hown5
        go_roundw
        case rel => exact ⟨q + 1, T5, L + 1, d5, s + x, by omega, by go_num, rfl, by go_num, hsum.1, hsum.2, HSS, by rw [HTS.out, intsV_snoc]; exact hown5, (bal (below_drewN hbq _) _).grown hgrow5 (by have := hbq.size; simp at this ⊢; omega) (fun q hq => (htr.lt q hq).1)⟩
        case measure => simp [intOf]; omega
      · obtain rfl : q = ps.length := by omega
        have hall : S.take ps.length = S := by rw [← HSL.out, List.take_length]
        rw [hall] at HS htr
        have hL : L = ps.length := by
          have := owns_len htr
          rw [intsV_length, HSL.out] at this
          omega
        subst hL
        have HLS := Lib.hid (owns_cells htr)
        have HBQ := Lib.hid hbq
        have hs2 : w1.heap.size ≤ wr.heap.size := hbq.size
        clear hall htr hbq
        go_wp2_with fail
        clear m0 m1
        generalize wr = wo at *
        go_loopw [12, 13] (fun v i wz => ∃ (q : Nat) (T : Option Addr) (L td : Nat), q ≤ ps.length ∧ i = .int .i64 q ∧ v = .slice T L td ∧ wz.ownsRow wo.heap.size 2 1 (.slice T L td) L (intsV ((sharesOf S).take q)) ∧ Below wo.heap.size wo wz) (fun _ i _ => ps.length - (intOf i).toNat)
        case atStart => exact ⟨0, _, _, _, Nat.zero_le _, rfl, rfl, owns_empty _ _ _ (Nat.le_refl _), (Below.refl _ _).alloc (Nat.le_refl _) _⟩
        case round =>
          obtain ⟨q, T2, L2, td2, hq2, rfl, rfl, hown2, hbz⟩ := hrel
          have HZ := Lib.hid hbz
          by_cases hlt : q < ps.length
          · have hlS : q < S.length := by have := HSL.out; omega
            have hx := List.getElem?_eq_getElem hlS
            have hxb := HSB.out _ (List.mem_of_getElem? hx)
            have htk := sharesOf_tk hx
            rw [← HS.out] at htk
            obtain ⟨b, off, rfl, hrow⟩ := (HLS.out.next hbz) (by rw [intsV_length]; omega)
            have p0 := hrow q (by rw [intsV_length]; exact hlS)
            rw [intsV_at _ _ hlS] at p0
            have hL2 : L2 ≤ 20 := by
              have := owns_len hown2
              rw [intsV_length, List.length_take] at this
              omega
            generalize S[q] = x at *
            have HTS := Lib.hid htk
            clear hx htk hrow hlS
            by_cases hz : s = 0
            · have hsz : (s == 0) = true := by simpa using hz
              have HY : Hid ((sharesOf S).take (q + 1) = (sharesOf S).take q ++ [0]) := Lib.hid (by rw [HTS.out, hz]; rfl)
              clear hz p0
              go_wp2_with (at_builtin; refine wpList_append_own _ rfl _ _ 32 rfl wo.heap.size 2 i0 (.int .i64 0) 1 8 Try.underlying32 hi hz0 hz1 hz2 rfl (by decide) _ _ _ rfl (hown2.alloc _) ⟨_, 0, none⟩ 1 1 [.int .i64 0] rfl rfl (cell_one_new _ _ _) (by simp [Value.oneCell']) ?_ ?_ ?_ ?_; (unfold maxLen; omega); (omega); (have := hbz.size; simp at this ⊢; omega); intro v6 w6 hown6 hgrow6 _)
              obtain ⟨T5, d5, rfl⟩ := owns_form hown6
              go_roundw
              case rel => exact ⟨q + 1, T5, L2 + 1, d5, by omega, by go_num, rfl, by rw [HY.out, intsV_snoc]; exact hown6, (bal hbz _).grown hgrow6 (by have := hbz.size; simp at this ⊢; omega) (fun q hq => (hown2.lt q hq).1)⟩
              case measure => simp [intOf]; omega
            · have hsz : (s == 0) = false := by simpa using hz
              have HDV := Lib.hid (fun wx => l01Div_any (1000 * x) s wx (by omega) (by omega) (by omega) (by omega) hz)
              have hnz : nearZ (1000 * x) s = nearI (1000 * x) s := by unfold nearZ; rw [if_neg hz]
              have HY : Hid ((sharesOf S).take (q + 1) = (sharesOf S).take q ++ [nearI (1000 * x) s]) := Lib.hid (by rw [HTS.out, hnz])
              generalize nearI (1000 * x) s = y at *
              clear hz hnz
              go_wp2_with (first | (go_at_call 76; refine (HDV.out _).mono ?_; rintro e w' ⟨rfl, rfl⟩) | (at_builtin; refine wpList_append_own _ rfl _ _ 32 rfl wo.heap.size 2 i0 (.int .i64 0) 1 8 Try.underlying32 hi hz0 hz1 hz2 rfl (by decide) _ _ _ rfl (hown2.alloc _) ⟨_, 0, none⟩ 1 1 [.int .i64 y] rfl rfl (cell_one_new _ _ _) (by simp [Value.oneCell']) ?_ ?_ ?_ ?_; (unfold maxLen; omega); (omega); (have := hbz.size; simp at this ⊢; omega); intro v6 w6 hown6 hgrow6 _))
              obtain ⟨T5, d5, rfl⟩ := owns_form hown6
              go_roundw
              case rel => exact ⟨q + 1, T5, L2 + 1, d5, by omega, by go_num, rfl, by rw [HY.out, intsV_snoc]; exact hown6, (bal hbz _).grown hgrow6 (by have := hbz.size; simp at this ⊢; omega) (fun q hq => (hown2.lt q hq).1)⟩
              case measure => simp [intOf]; omega
          · have hall : (sharesOf S).take q = sharesOf S := List.take_of_length_le (by have := HSL.out; rw [sharesOf_length]; omega)
            rw [hall] at hown2
            have HR := Lib.hid hown2
            clear hall hown2
            go_wp2
            go_ret2
            exact retIC_mk rfl HR.out (by omega) (bnext HB1.out (bnext HBQ.out HZ.out))

theorem convAbs_any (A : Option Addr) (c0 : Nat) (ps : List Int) (w : World)  (hn : ps.length ≤ 1048576) (hB : CellsAt w A (intsV ps))
    (hf : ∀ (wr : World) (x : Int), x ∈ ps → Below w.heap.size w wr → Calls Try.prog 78 #[.int .i64 x] wr fun e w' => e = .returned (.int .i64 (absI x)) ∧ Below wr.heap.size wr w') :
    Calls Try.prog 77 #[.slice A ps.length c0, .func (.func 78) #[] #[]] w (RetRow 2 (intsV (ps.map (absI))) w) := by
  have HB := Lib.hid hB
  have HF := Lib.hid hf
  have hM : ps.length ≤ maxLen := by unfold maxLen; omega
  have hm : ps.length ≤ 9223372036854775807 := by omega
  obtain ⟨i0, hi, hz0, hz1, hz2⟩ := info_parts infoI64
  clear hB hf
  go_enter Try.func77, Try.ntmps77
  go_wp2_with (refine wpList_make_full _ rfl _ _ _ rfl w.heap.size 2 i0 (.int .i64 0) 1 Try.underlying32 hi hz0 hz1 _ _ _ _ ps.length rfl rfl rfl rfl (by rw [hz2]; omega) hM (Nat.le_refl _) ?_; intro w1 hown hgrow)
  have hb1 := Below.grown (Below.refl w.heap.size w) hgrow (Nat.le_refl _) (fun k hk => by cases hk)
  have hl1 := owns_len hown
  generalize (madeCells (Value.int IntKind.i64 0).cells (ps.length * 1)).toList = us at *
  have HX := Lib.hid hl1
  clear hl1
  go_loopw [13] (fun i wr => ∃ j : Nat, j ≤ ps.length ∧ i = .int .i64 j ∧ wr.ownsRow w.heap.size 2 1 (.slice (some ⟨w.heap.size, 0, none⟩) ps.length ps.length) ps.length (fillV (fun j => (intsV (ps.map (absI))).getD j default) j us) ∧ Below w.heap.size w wr) (fun i _ => ps.length - (intOf i).toNat)
  case atStart => exact ⟨0, Nat.zero_le _, rfl, hown, hb1⟩
  case round =>
    obtain ⟨j, hj, rfl, hro, hb⟩ := hrel
    by_cases hlt : j < ps.length
    ·
      obtain ⟨b, off, rfl, hrow⟩ := (HB.out.next hb) (by rw [intsV_length]; omega)
      have hp := List.getElem?_eq_getElem hlt
      have p0 := hrow j (by rw [intsV_length]; exact hlt)
      rw [intsV_at _ _ hlt] at p0
      have hgd : (intsV (ps.map (absI))).getD j default = .int .i64 ((absI) ps[j]) := by
        rw [List.getD, intsV_at _ _ (by rw [List.length_map]; exact hlt), List.getElem_map]; rfl
      have HG := Lib.hid hgd
      have HC := Lib.hid (fun wx (hbx : Below w.heap.size w wx) => HF.out wx ps[j] (List.mem_of_getElem? hp) hbx)
      generalize ps[j] = x at *
      clear hp hrow hgd
      go_wp2_with (
        (go_at_call 78; refine (HC.out _ (hb)).mono ?_; rintro e w2 ⟨rfl, hbt⟩
         have hbt2 := hbt
         have hb2 := bnext hb hbt2
         have hro1 := owns_below hro hbt2 (Nat.le_refl _)
         clear p0 hro hb hbt HC hbt2
         have hc1 := hro1.cellAt j (by omega)
         have hf1 := hro1.frozenAt j
         rw [fillV_get, List.getElem?_eq_getElem (by rw [HX.out]; exact hlt)] at hc1
         have hst := hro1.stored j (.int .i64 ((absI) x))
         have hfs := fillV_set (fun j => (intsV (ps.map (absI))).getD j default) us j (by rw [HX.out]; exact hlt)
         rw [HG.out] at hfs
         rw [hfs] at hst
         have Hst := Lib.hid hst
         clear hst hfs hro1))
      go_roundw
      case rel => exact ⟨j + 1, by omega, by go_num, Hst.out.1, hb2.setCell (Nat.le_refl _) _⟩
      case measure => simp [intOf]; omega
    · obtain rfl : j = ps.length := by omega
      have hfa := fillV_all (fun k => (intsV (ps.map (absI))).getD k default) ps.length us HX.out
      have hru : (List.range ps.length).map (fun k => (intsV (ps.map (absI))).getD k default) = intsV (ps.map (absI)) := by
        refine List.ext_getElem (by rw [List.length_map, List.length_range, intsV_length, List.length_map]) fun k h1 h2 => ?_
        simp [List.getD, h2]
      have hfin := retRow_mk (vs := intsV (ps.map (absI))) (w := w) rfl hro (hfa.trans hru) hb
      have HF9 := Lib.hid hfin
      clear hfin hfa hru hro
      go_wp2
      go_ret
      exact HF9.out

theorem convShare_any (A : Option Addr) (c0 : Nat) (ps : List Int) (w : World) (sb : Nat) (s0 : Int) (hn : ps.length ≤ 1048576) (hB : CellsAt w A (intsV ps))
    (hf : ∀ (wr : World) (x : Int), x ∈ ps → Below w.heap.size w wr → Calls Try.prog 79 #[.int .i64 x, .pointer (some ⟨sb, 0, none⟩)] wr fun e w' => e = .returned (.int .i64 ((fun v => nearZ (1000 * v) s0) x)) ∧ Below wr.heap.size wr w') :
    Calls Try.prog 77 #[.slice A ps.length c0, .func (.func 79) #[] #[.pointer (some ⟨sb, 0, none⟩)]] w (RetRow 2 (intsV (ps.map ((fun v => nearZ (1000 * v) s0)))) w) := by
  have HB := Lib.hid hB
  have HF := Lib.hid hf
  have hM : ps.length ≤ maxLen := by unfold maxLen; omega
  have hm : ps.length ≤ 9223372036854775807 := by omega
  obtain ⟨i0, hi, hz0, hz1, hz2⟩ := info_parts infoI64
  clear hB hf
  go_enter Try.func77, Try.ntmps77
  go_wp2_with (refine wpList_make_full _ rfl _ _ _ rfl w.heap.size 2 i0 (.int .i64 0) 1 Try.underlying32 hi hz0 hz1 _ _ _ _ ps.length rfl rfl rfl rfl (by rw [hz2]; omega) hM (Nat.le_refl _) ?_; intro w1 hown hgrow)
  have hb1 := Below.grown (Below.refl w.heap.size w) hgrow (Nat.le_refl _) (fun k hk => by cases hk)
  have hl1 := owns_len hown
  generalize (madeCells (Value.int IntKind.i64 0).cells (ps.length * 1)).toList = us at *
  have HX := Lib.hid hl1
  clear hl1
  go_loopw [13] (fun i wr => ∃ j : Nat, j ≤ ps.length ∧ i = .int .i64 j ∧ wr.ownsRow w.heap.size 2 1 (.slice (some ⟨w.heap.size, 0, none⟩) ps.length ps.length) ps.length (fillV (fun j => (intsV (ps.map ((fun v => nearZ (1000 * v) s0)))).getD j default) j us) ∧ Below w.heap.size w wr) (fun i _ => ps.length - (intOf i).toNat)
  case atStart => exact ⟨0, Nat.zero_le _, rfl, hown, hb1⟩
  case round =>
    obtain ⟨j, hj, rfl, hro, hb⟩ := hrel
    by_cases hlt : j < ps.length
    ·
      obtain ⟨b, off, rfl, hrow⟩ := (HB.out.next hb) (by rw [intsV_length]; omega)
      have hp := List.getElem?_eq_getElem hlt
      have p0 := hrow j (by rw [intsV_length]; exact hlt)
      rw [intsV_at _ _ hlt] at p0
      have hgd : (intsV (ps.map ((fun v => nearZ (1000 * v) s0)))).getD j default = .int .i64 (((fun v => nearZ (1000 * v) s0)) ps[j]) := by
        rw [List.getD, intsV_at _ _ (by rw [List.length_map]; exact hlt), List.getElem_map]; rfl
      have HG := Lib.hid hgd
      have HC := Lib.hid (fun wx (hbx : Below w.heap.size w wx) => HF.out wx ps[j] (List.mem_of_getElem? hp) hbx)
      generalize ps[j] = x at *
      clear hp hrow hgd
      go_wp2_with (
        (go_at_call 79; refine (HC.out _ (hb)).mono ?_; rintro e w2 ⟨rfl, hbt⟩
         have hbt2 := hbt
         have hb2 := bnext hb hbt2
         have hro1 := owns_below hro hbt2 (Nat.le_refl _)
         clear p0 hro hb hbt HC hbt2
         have hc1 := hro1.cellAt j (by omega)
         have hf1 := hro1.frozenAt j
         rw [fillV_get, List.getElem?_eq_getElem (by rw [HX.out]; exact hlt)] at hc1
         have hst := hro1.stored j (.int .i64 (((fun v => nearZ (1000 * v) s0)) x))
         have hfs := fillV_set (fun j => (intsV (ps.map ((fun v => nearZ (1000 * v) s0)))).getD j default) us j (by rw [HX.out]; exact hlt)
         rw [HG.out] at hfs
         rw [hfs] at hst
         have Hst := Lib.hid hst
         clear hst hfs hro1))
      go_roundw
      case rel => exact ⟨j + 1, by omega, by go_num, Hst.out.1, hb2.setCell (Nat.le_refl _) _⟩
      case measure => simp [intOf]; omega
    · obtain rfl : j = ps.length := by omega
      have hfa := fillV_all (fun k => (intsV (ps.map ((fun v => nearZ (1000 * v) s0)))).getD k default) ps.length us HX.out
      have hru : (List.range ps.length).map (fun k => (intsV (ps.map ((fun v => nearZ (1000 * v) s0)))).getD k default) = intsV (ps.map ((fun v => nearZ (1000 * v) s0))) := by
        refine List.ext_getElem (by rw [List.length_map, List.length_range, intsV_length, List.length_map]) fun k h1 h2 => ?_
        simp [List.getD, h2]
      have hfin := retRow_mk (vs := intsV (ps.map ((fun v => nearZ (1000 * v) s0)))) (w := w) rfl hro (hfa.trans hru) hb
      have HF9 := Lib.hid hfin
      clear hfin hfa hru hro
      go_wp2
      go_ret
      exact HF9.out

theorem share1_any (x s : Int) (sb : Nat) (w : World) (hs : w.cell? ⟨sb, 0, none⟩ = some (.int .i64 s)) (x0 : 0 ≤ x) (x1 : x ≤ 1250000000001) (s0 : -25000000000020 ≤ s) (s1 : s ≤ 25000000000020) :
    Calls Try.prog 79 #[.int .i64 x, .pointer (some ⟨sb, 0, none⟩)] w fun e w' => e = .returned (.int .i64 (nearZ (1000 * x) s)) ∧ Below w.heap.size w w' := by
  have HN := Lib.hid (fun wx => nearestZ_any (1000 * x) s wx (by omega) (by omega) (by omega) (by omega))
  generalize nearZ (1000 * x) s = r at *
  go_enter Try.func79, Try.ntmps79
  go_wp2_with fail
  refine (HN.out _).mono ?_
  rintro e w1 ⟨rfl, hd⟩
  have hb := drawn_below hd
  go_wp2
  go_ret
  exact ⟨rfl, hb⟩
theorem convAbsI_any (A : Option Addr) (cc : Nat) (s : List Int) (w : World) (hn : s.length ≤ 1048576) (hB : CellsAt w A (intsV s)) (hs : ∀ x ∈ s, -1250000000001 ≤ x ∧ x ≤ 1250000000001) :
    Calls Try.prog 77 #[.slice A s.length cc, .func (.func 78) #[] #[]] w (RetRow 2 (intsV (s.map absI)) w) :=
  convAbs_any A cc s w hn hB (fun wr x hx _ => (absolute_any x wr (by have := hs x hx; omega) (by have := hs x hx; omega)).mono (by
    rintro e w' ⟨rfl, rfl⟩
    exact ⟨rfl, Below.refl _ _⟩))
set_option maxHeartbeats 3200000 in
theorem implLossShares_ic (A B : Option Addr) (cA d : Nat) (z : List Int) (ps : List Pp) (a c : Int) (w : World) (h : NetCells w A z B ps) (hn : z.length ≤ 1048576) (hm : ps.length ≤ 1048576) (hid : ∀ p ∈ ps, p.id.size ≤ maxLen) :
    Calls Try.prog 26 #[.agg #[.slice A z.length cA, .slice B ps.length d], .int .i64 a, .int .i64 c] w (RetIC (lossSharesX z ps a c) (lossSharesC z ps a c) w) := by
  have hN := NetAt.new w A z.length cA B ps.length d 40
  have hN := hN.next (bal (Below.refl _ _) (.cells #[.int .i64 a, .int .i64 c] 87))
  have hCl : Two ((w.alloc (.cells #[.slice A z.length cA, .slice B ps.length d] 40)).alloc (.cells #[.int .i64 a, .int .i64 c] 87)) (w.heap.size + 1) (.int .i64 a) (.int .i64 c) := by have := Two.new (w.alloc (.cells #[.slice A z.length cA, .slice B ps.length d] 40)) (.int .i64 a) (.int .i64 c) 87; simpa using this
  have hb : Below w.heap.size w ((w.alloc (.cells #[.slice A z.length cA, .slice B ps.length d] 40)).alloc (.cells #[.int .i64 a, .int .i64 c] 87)) := bal (bal (Below.refl _ _) _) _
  have HCO := Lib.hid (fun wx (hbx : Below w.heap.size w wx) => code_any A B cA d z ps (climB a c) wx (h.next hbx) hn hm hid)
  have HCL : Hid (∀ wx, Calls Try.prog 71 #[.agg #[.int .i64 a, .int .i64 c]] wx fun e w' => e = .returned (.bool (climB a c)) ∧ Below wx.heap.size wx w') := Lib.hid (fun wx => climate_any a c wx)
  have HW : Hid (argC (netB z ps) (climB a c) = 0 → ∀ wx, Below w.heap.size w wx → Calls Try.prog 73 #[.agg #[.int .i64 a, .int .i64 c], .agg #[.slice A z.length cA, .slice B ps.length d]] wx (RetRow 2 (intsV (ps.map (lossW a c))) wx)) := Lib.hid (fun h0 wx hbx => by
    rcases argC_ways (netB z ps) (climB a c) with ⟨hv, hc⟩ | ⟨hv, hr, hc⟩ | ⟨hv, hr, hc⟩
    · omega
    · omega
    · obtain ⟨ha, hc2⟩ := climB_iff.1 hr
      exact losses_any A B cA d z ps a c wx (h.next hbx).2 (netB_ok hv).1 (netB_ok hv).2 ha.1 ha.2 hc2.1 hc2.2)
  have HB2 : Hid (argC (netB z ps) (climB a c) = 0 → (∀ x ∈ sizesW ps a c, 0 ≤ x ∧ x ≤ 1250000000001) ∧ (∀ k, -25000000000020 ≤ ((sizesW ps a c).take k).sum ∧ ((sizesW ps a c).take k).sum ≤ 25000000000020) ∧ (∀ x ∈ ps.map (lossW a c), -1250000000001 ≤ x ∧ x ≤ 1250000000001)) := Lib.hid (fun h0 => by
    rcases argC_ways (netB z ps) (climB a c) with ⟨hv, hc⟩ | ⟨hv, hr, hc⟩ | ⟨hv, hr, hc⟩
    · omega
    · omega
    · obtain ⟨ha, hc2⟩ := climB_iff.1 hr
      have hsb := sizesW_bd (netB_ok hv).1 a c ha.1 ha.2 hc2.1 hc2.2
      refine ⟨hsb, sizes_tk hsb (by rw [sizesW_length]; exact (netB_ok hv).2), fun x hx => ?_⟩
      obtain ⟨p, hp, rfl⟩ := List.mem_map.1 hx
      exact lossW_bd ((netB_ok hv).1 p hp) a c ha.1 ha.2 hc2.1 hc2.2)
  have HSE : Hid ((ps.map (lossW a c)).map absI = sizesW ps a c) := Lib.hid (by unfold sizesW; rw [List.map_map]; rfl)
  have HSL := Lib.hid (sizesW_length ps a c)
  unfold lossSharesX lossSharesC
  generalize argC (netB z ps) (climB a c) = code at *
  generalize climB a c = cl at *
  clear h hid
  by_cases h0 : code = 0
  · subst h0
    rw [if_pos rfl]
    have HW1 : Hid (∀ wx, Below w.heap.size w wx → Calls Try.prog 73 #[.agg #[.int .i64 a, .int .i64 c], .agg #[.slice A z.length cA, .slice B ps.length d]] wx (RetRow 2 (intsV (ps.map (lossW a c))) wx)) := Lib.hid (HW.out rfl)
    have HB3 := Lib.hid (HB2.out rfl)
    clear HW HB2
    generalize sizesW ps a c = S at *
    have ⟨n0, n1⟩ := hN
    have ⟨c0, c1, f0, f1⟩ := hCl
    go_enter Try.func26, Try.ntmps26
    go_wp2_with fail
    have hb : Below w.heap.size w ((w.alloc (.cells #[.slice A z.length cA, .slice B ps.length d] 40)).alloc (.cells #[.int .i64 a, .int .i64 c] 87)).drew := below_drewN hb 1
    have hN : NetAt ((w.alloc (.cells #[.slice A z.length cA, .slice B ps.length d] 40)).alloc (.cells #[.int .i64 a, .int .i64 c] 87)).drew w.heap.size A z.length cA B ps.length d := hN
    have hCl : Two ((w.alloc (.cells #[.slice A z.length cA, .slice B ps.length d] 40)).alloc (.cells #[.int .i64 a, .int .i64 c] 87)).drew (w.heap.size + 1) (.int .i64 a) (.int .i64 c) := hCl
    have ⟨n0, n1⟩ := hN
    have ⟨c0, c1, f0, f1⟩ := hCl
    go_region_held3 (fun w' => w'.cell? ⟨w.heap.size, 0, none⟩ = some (.slice A z.length cA) ∧ w'.cell? ⟨w.heap.size, 1, none⟩ = some (.slice B ps.length d) ∧ w'.cell? ⟨w.heap.size + 1, 0, none⟩ = some (.int .i64 a) ∧ w'.cell? ⟨w.heap.size + 1, 1, none⟩ = some (.int .i64 c)) (exact ⟨n0, n1, c0, c1⟩) (first | (go_at_call 71; refine (HCL.out _).mono ?_; rintro e w' ⟨rfl, hb'⟩; have hb := bnext hb hb'; have hN := hN.next hb'; have hCl := hCl.next hb'; have ⟨n0, n1⟩ := hN; have ⟨c0, c1, f0, f1⟩ := hCl) | (go_at_call 70; refine (HCO.out _ hb).mono ?_; rintro e w' ⟨rfl, hb'⟩; have hb := bnext hb hb'; have hN := hN.next hb'; have hCl := hCl.next hb'; have ⟨n0, n1⟩ := hN; have ⟨c0, c1, f0, f1⟩ := hCl))
    go_wp2_with fail
    refine (HW1.out _ hb).mono ?_
    rintro e w3 hq
    obtain ⟨T, td, rfl, ho, hbs⟩ := retInts_of hq
    have hb := bnext hb hbs
    have hcs := owns_cells ho
    rw [List.length_map] at ho ⊢
    have HCV := Lib.hid (convAbsI_any T td (ps.map (lossW a c)) w3 (by rw [List.length_map]; omega) hcs HB3.out.2.2)
    rw [HSE.out, List.length_map] at HCV
    clear hq ho hbs hcs n0 n1 c0 c1 f0 f1
    go_wp2_with fail
    refine HCV.out.mono ?_
    rintro e w4 hq
    obtain ⟨U, ud, rfl, ho, hbs⟩ := retInts_of hq
    have hb := bnext hb hbs
    have hcs := owns_cells ho
    rw [HSL.out] at ho ⊢
    clear hq ho hbs
    have HSU := Lib.hid (sumOf_any U ps.length ud S 25000000000020 w4 HSL.out (by rw [HSL.out]; omega) hcs (by omega) HB3.out.2.1)
    have HCS := Lib.hid hcs
    clear hcs HCV HSE
    go_wp2_with fail
    refine HSU.out.mono ?_
    rintro e w5 ⟨rfl, hd⟩
    have hb5 := drawn_below hd
    have hb := bnext hb hb5
    have hcs := HCS.out.next hb5
    have hst := HB3.out.2.1 S.length
    rw [List.take_length] at hst
    have hsh : S.map (fun v => nearZ (1000 * v) S.sum) = sharesOf S := rfl
    generalize S.sum = sm at *
    have hal : Below w5.heap.size w5 (w5.alloc (.cells #[.int .i64 sm] 2)) := bal (Below.refl _ _) _
    have hon := One.new w5 (.int .i64 sm) 2
    have HCV := Lib.hid (convShare_any U ud S (w5.alloc (.cells #[.int .i64 sm] 2)) w5.heap.size sm (by rw [HSL.out]; omega) (hcs.next hal) (fun wr x hx hbx => share1_any x sm w5.heap.size wr ((hbx.cell (p := ⟨w5.heap.size, 0, none⟩) (World.block_lt_of_cell? _ _ hon.1)).trans hon.1) (HB3.out.1 x hx).1 (HB3.out.1 x hx).2 hst.1 hst.2))
    rw [HSL.out, hsh] at HCV
    have hb := bnext hb hal
    have ⟨q0, q1⟩ := hon
    clear hsh hal hcs HCS hst hd hb5 HSU hon
    go_wp2_with fail
    refine HCV.out.mono ?_
    rintro e w6 hq
    obtain ⟨V, vd, rfl, ho, hbs⟩ := retInts_of hq
    have hb9 := bnext hb hbs
    have hl : (sharesOf S).length = ps.length := by rw [sharesOf_length, HSL.out]
    have hR := retIC_mk (C := 0) (w := w) rfl ho hb.size hb9
    rw [hl] at hR
    have HR := Lib.hid hR
    rw [hl]
    clear hq ho hbs hl hR
    go_wp2
    go_ret2
    exact HR.out
  · have h0' : (code == 0) = false := by simpa using h0
    have h0n : (code != 0) = true := by simpa using h0
    rw [if_neg h0]
    have ⟨n0, n1⟩ := hN
    have ⟨c0, c1, f0, f1⟩ := hCl
    clear h0 HW HB2
    go_enter Try.func26, Try.ntmps26
    go_wp2_with fail
    have hb : Below w.heap.size w ((w.alloc (.cells #[.slice A z.length cA, .slice B ps.length d] 40)).alloc (.cells #[.int .i64 a, .int .i64 c] 87)).drew := below_drewN hb 1
    have hN : NetAt ((w.alloc (.cells #[.slice A z.length cA, .slice B ps.length d] 40)).alloc (.cells #[.int .i64 a, .int .i64 c] 87)).drew w.heap.size A z.length cA B ps.length d := hN
    have hCl : Two ((w.alloc (.cells #[.slice A z.length cA, .slice B ps.length d] 40)).alloc (.cells #[.int .i64 a, .int .i64 c] 87)).drew (w.heap.size + 1) (.int .i64 a) (.int .i64 c) := hCl
    have ⟨n0, n1⟩ := hN
    have ⟨c0, c1, f0, f1⟩ := hCl
    go_region_held3 (fun w' => w'.cell? ⟨w.heap.size, 0, none⟩ = some (.slice A z.length cA) ∧ w'.cell? ⟨w.heap.size, 1, none⟩ = some (.slice B ps.length d) ∧ w'.cell? ⟨w.heap.size + 1, 0, none⟩ = some (.int .i64 a) ∧ w'.cell? ⟨w.heap.size + 1, 1, none⟩ = some (.int .i64 c)) (exact ⟨n0, n1, c0, c1⟩) (first | (go_at_call 71; refine (HCL.out _).mono ?_; rintro e w' ⟨rfl, hb'⟩; have hb := bnext hb hb'; have hN := hN.next hb'; have hCl := hCl.next hb'; have ⟨n0, n1⟩ := hN; have ⟨c0, c1, f0, f1⟩ := hCl) | (go_at_call 70; refine (HCO.out _ hb).mono ?_; rintro e w' ⟨rfl, hb'⟩; have hb := bnext hb hb'; have hN := hN.next hb'; have hCl := hCl.next hb'; have ⟨n0, n1⟩ := hN; have ⟨c0, c1, f0, f1⟩ := hCl))
    go_wp2
    go_ret2
    exact retIC_nil rfl hb

end Go.Proofs.Ytgdafgnjaogmeaa
