import Derived.Test.YtgdafgnjaogmeaaWp1
/-
  WorstPipes of the model.
-/
namespace Go.Proofs.Ytgdafgnjaogmeaa
open Go.ChangeShapes Go.WideShapes Go.ChangeAt Go.RowKit Go.Shelf
set_option linter.unusedSimpArgs false
set_option maxRecDepth 100000
set_option maxHeartbeats 3200000
set_option linter.unusedVariables false


theorem specWorstPipes_ic (A B : Option Addr) (cA d : Nat) (z : List Int) (ps : List Pp) (count : Int) (w : World) (h : NetCells w A z B ps) (hn : z.length ≤ 1048576) (hm : ps.length ≤ 1048576) (hid : ∀ p ∈ ps, p.id.size ≤ maxLen) :
    Calls Try.prog 38 #[.agg #[.slice A z.length cA, .slice B ps.length d], .int .i64 count] w (RetIC (worstPipesX z ps count) (worstPipesC z ps count) w) := by
  obtain ⟨i0, hi, hz0, hz1, hz2⟩ := info_parts infoI64
  have hN := NetAt.new w A z.length cA B ps.length d 40
  have hb : Below w.heap.size w (w.alloc (.cells #[.slice A z.length cA, .slice B ps.length d] 40)) := bal (Below.refl _ _) _
  have HO := Lib.hid (l04Ok_any w.heap.size A z.length cA B ps.length d z ps _ hN rfl rfl hn hm (h.next hb).1 (h.next hb).2 hid)
  have HI := Lib.hid (fun wx => in_any count 0 ps.length wx)
  have ⟨n0, n1⟩ := hN
  unfold worstPipesX worstPipesC
  rcases argC_ways (netB z ps) (inB count 0 ps.length) with ⟨hv, hc⟩ | ⟨hv, hr, hc⟩ | ⟨hv, hr, hc⟩
  · rw [hc, if_neg (by decide)]
    rw [hv] at HO
    clear hv hc h hid
    go_enter Try.func38, Try.ntmps38
    go_wp2_with fail
    refine HO.out.mono ?_
    rintro e w1 ⟨rfl, hd⟩
    have hN := hN.next (drawn_below hd)
    have hb := bnext hb (drawn_below hd)
    clear hd n0 n1
    have ⟨n0, n1⟩ := hN
    go_wp2
    go_ret2
    exact retIC_nil rfl hb
  · rw [hc, if_neg (by decide)]
    rw [hv] at HO
    rw [hr] at HI
    clear hv hr hc h hid
    go_enter Try.func38, Try.ntmps38
    go_wp2_with fail
    refine HO.out.mono ?_
    rintro e w1 ⟨rfl, hd⟩
    have hN := hN.next (drawn_below hd)
    have hb := bnext hb (drawn_below hd)
    clear hd n0 n1
    have ⟨n0, n1⟩ := hN
    go_wp2_with fail
    refine (HI.out _).mono ?_
    rintro e w2 ⟨rfl, rfl⟩
    go_wp2
    go_ret2
    exact retIC_nil rfl hb
  rw [hc, if_pos rfl]
  rw [hv] at HO
  rw [hr] at HI
  obtain ⟨hr0, hr1⟩ := inB_iff.1 hr
  obtain ⟨k, rfl⟩ := Int.eq_ofNat_of_zero_le hr0
  have hk : k ≤ ps.length := by omega
  rw [show ((k : Int)).toNat = k from rfl]
  have hgr : greatI (valsW ps) k = ((rankI (valsW ps)).take k).foldl putI [] := by rw [put_all]; rfl
  rw [hgr]
  have hm20 := (netB_ok hv).2
  have HWB := Lib.hid (fun p (hp : p ∈ ps) => wholeW_bd ((netB_ok hv).1 p hp))
  have HVL := Lib.hid (valsW_length ps)
  have HVA := Lib.hid (fun j p (hp : ps[j]? = some p) => valsW_at hp)
  have HRL := Lib.hid (show ∀ j, j ≤ k → ((rankI (valsW ps)).take j).length = j from fun j hj => by rw [List.length_take, rankI_length, valsW_length]; omega)
  have HUL := Lib.hid (show ∀ j, j ≤ k → (((rankI (valsW ps)).take j).foldl putI []).length = j from fun j hj => by rw [put_len, List.length_take, rankI_length, valsW_length]; omega)
  have HC := Lib.hid h.2
  generalize valsW ps = vs at *
  clear hv hr hc hr0 hr1 hgr h hid
  go_enter Try.func38, Try.ntmps38
  go_wp2_with fail
  refine HO.out.mono ?_
  rintro e w1 ⟨rfl, hd⟩
  have hN := hN.next (drawn_below hd)
  have hb := bnext hb (drawn_below hd)
  clear hd n0 n1
  have ⟨n0, n1⟩ := hN
  go_wp2_with fail
  refine (HI.out _).mono ?_
  rintro e w2 ⟨rfl, rfl⟩
  have HN := Lib.hid hN
  have HB1 := Lib.hid hb
  have hs1 : w.heap.size ≤ w1.heap.size := hb.size
  have hoU := owns_empty w1 w1.heap.size 2 (Nat.le_refl _)
  have hb3 : Below w1.heap.size w1 (w1.alloc (.cells #[] 2)) := bal (Below.refl _ _) _
  go_wp2_with fail
  clear n0 n1 hN hb
  go_loopw [6] (fun ov wr => ∃ (j : Nat) (U : Option Addr) (ud B2 : Nat), j ≤ k ∧ ov = .slice U j ud ∧ wr.ownsRow B2 2 1 (.slice U j ud) j (intsV (((rankI vs).take j).foldl putI [])) ∧ w.heap.size ≤ B2 ∧ Below w1.heap.size w1 wr) (fun ov _ => k - lenV ov)
  case atStart => exact ⟨0, _, 0, w1.heap.size, Nat.zero_le _, rfl, hoU, hs1, hb3⟩
  case round =>
    clear hb3 hoU
    obtain ⟨j, U, ud, B2, hj, rfl, hoU, hB2, hbw⟩ := hrel
    by_cases hlt : j < k
    rotate_left
    · have e : k = j := by omega
      subst e
      have HF := Lib.hid (retIC_mk (w := w) (w' := wr) (C := 0) rfl hoU hB2 (bnext HB1.out hbw))
      clear hoU hbw
      go_wp2
      go_ret2
      exact HF.out
    have HUC := Lib.hid (owns_cells hoU)
    have HHS := Lib.hid (fun (i d : Nat) => show Calls Try.prog 90 #[.slice U j ud, .int .i64 (i : Int)] (wr.drewN d) fun e w' => e = .returned (.bool (chB vs j i)) ∧ Drawn (wr.drewN d) w' from by
      have h := l00Has2_any U ud (((rankI vs).take j).foldl putI []) (i : Int) (wr.drewN d) (by rw [HUL.out j hj]; omega) (CellsAt.drewN HUC.out d)
      rw [HUL.out j hj, any_put] at h
      exact h)
    have HOU := Lib.hid hoU
    have HBW := Lib.hid hbw
    clear hoU hbw
    go_wp2_with fail
    go_loopw [7, 8] (fun bv iv wi => ∃ (i : Nat) (b : Int), i ≤ ps.length ∧ iv = .int .i64 i ∧ bv = .int .i64 b ∧ Hid (bestR vs j i b) ∧ Drawn wr wi) (fun _ iv _ => ps.length - (intOf iv).toNat)
    case atStart => exact ⟨0, -1, Nat.zero_le _, rfl, rfl, Lib.hid (bestR_zero _ _), Drawn.rfl' _⟩
    case round =>
      obtain ⟨i, b, hi1, rfl, rfl, HBR, ⟨nq, rfl⟩⟩ := hrel
      have ⟨m0, m1⟩ := HN.out.next HBW.out
      by_cases hil : i < ps.length
      rotate_left
      · have e : i = ps.length := by omega
        subst e
        have hbe : bestR vs j vs.length b := by rw [HVL.out]; exact HBR.out
        obtain ⟨q, rfl, hql, hrq⟩ := bestR_end (by rw [HVL.out]; omega) hbe
        have hfr := bestR_fresh HBR.out
        have hU1 : ((rankI vs).take (j + 1)).foldl putI [] = putI (((rankI vs).take j).foldl putI []) (q : Int) := by rw [rank_take hrq, List.foldl_append]; rfl
        have HU1 := Lib.hid hU1
        have hne : ∀ x ∈ ((rankI vs).take j).foldl putI [], x ≠ (q : Int) := fun x hx he => by
          unfold chB at hfr
          rw [← any_put] at hfr
          have := List.any_eq_false.1 hfr x hx
          simp [he] at this
        have HUJ := HUL.out j hj
        generalize ((rankI vs).take j).foldl putI [] = us at *
        have HUJ' := Lib.hid HUJ
        have HPUT := Lib.hid (l00Put_any U ud us (q : Int) (wr.drewN nq) (by rw [HUJ'.out]; omega) (CellsAt.drewN HUC.out nq) hne)
        rw [HUJ'.out] at HPUT
        have HBQ := Lib.hid (below_drewN HBW.out nq)
        clear hbe hrq hfr hU1 hne HUJ HBR
        go_wp2_with fail
        refine HPUT.out.mono ?_
        rintro e w5 ⟨U5, u5, rfl, hoU5, hb5⟩
        rw [intsV_length, putI_length, HUJ'.out] at hoU5 ⊢
        rw [← HU1.out] at hoU5
        have HB5 := Lib.hid (bnext HBQ.out hb5)
        have HO5 := Lib.hid hoU5
        clear hoU5 hb5
        go_wp2
        go_roundw
        case rel => exact ⟨j + 1, U5, u5, (wr.drewN nq).heap.size, by omega, rfl, HO5.out, by have := HBQ.out.size; omega, HB5.out⟩
        case measure => simp [lenV]; omega
      obtain ⟨pb, pf, rfl, hrow⟩ := pipe_at ((HC.out.next HB1.out).next HBW.out) (by omega)
      have hp := List.getElem?_eq_getElem hil
      obtain ⟨p0, p1, p2, p3, p4, p5⟩ := hrow i _ hp
      have hpb := HWB.out _ (List.mem_of_getElem? hp)
      have hva := HVA.out i _ hp
      have HS1 := Lib.hid (fun (hc : chB vs j i = true) => bestR_skip hc HBR.out)
      have HS2 := Lib.hid (fun (hc : chB vs j i = false) => fun (e : b = -1) => bestR_first hc (by rw [← e]; exact HBR.out))
      have HS3 := Lib.hid (fun (hc : chB vs j i = false) (q : Nat) (e : b = q) hv => bestR_new (q := q) hc (by rw [← e]; exact HBR.out) hv)
      have HS4 := Lib.hid (fun (hc : chB vs j i = false) (q : Nat) (e : b = q) hv => bestR_keep (q := q) hc (by rw [← e]; exact HBR.out) hv)
      have HH := Lib.hid (fun d => HHS.out i d)
      generalize ps[i] = p at *
      clear p0 p1 p2 p4
      cases hc : chB vs j i
      · rw [hc] at HH
        rcases Int.lt_or_le b 0 with hb0 | hb0
        · have hb1 : b = -1 := by
            rcases HBR.out with ⟨e, -⟩ | ⟨q, e, -⟩
            · exact e
            · omega
          have HN := Lib.hid (HS2.out hc hb1)
          clear hc hva hrow hp
          go_wp2
          go_quiet ((go_at_call 90; exact quiet_drawn2 (HH.out _)))
          go_wp2
          go_roundw
          case rel => exact ⟨i + 1, i, by omega, by go_num, rfl, HN, ⟨_, rfl⟩⟩
          case measure => simp [intOf]; omega
        · obtain ⟨q, rfl⟩ := Int.eq_ofNat_of_zero_le hb0
          have hq2 : q < ps.length := by have := bestR_lt HBR.out; omega
          have hq4 : ¬ ((q : Int) < 0) := by omega
          have hpq := List.getElem?_eq_getElem hq2
          obtain ⟨q0, q1, q2, q3, q5, q6⟩ := hrow q _ hpq
          have hqb := HWB.out _ (List.mem_of_getElem? hpq)
          have hvq := HVA.out q _ hpq
          have HN3 := Lib.hid (HS3.out hc q rfl)
          have HN4 := Lib.hid (HS4.out hc q rfl)
          rw [hva, hvq] at HN3 HN4
          generalize ps[q] = r at *
          have ew1 : IntKind.i64.wrap (p.s * p.L) = p.s * p.L := IntWalk.i64_in _ (by omega)
          have ew2 : IntKind.i64.wrap (r.s * r.L) = r.s * r.L := IntWalk.i64_in _ (by omega)
          clear hc hva hvq hrow hp hpq q0 q1 q2 q5 HS1 HS2 HS3 HS4
          by_cases hv : r.s * r.L < p.s * p.L
          · have HN := Lib.hid (HN3.out hv)
            go_wp2
            go_quiet ((go_at_call 90; exact quiet_drawn2 (HH.out _)))
            go_wp2
            go_roundw
            case rel => exact ⟨i + 1, i, by omega, by go_num, rfl, HN, ⟨_, rfl⟩⟩
            case measure => simp [intOf]; omega
          · have HN := Lib.hid (HN4.out hv)
            go_wp2
            go_quiet ((go_at_call 90; exact quiet_drawn2 (HH.out _)))
            go_wp2
            go_roundw
            case rel => exact ⟨i + 1, q, by omega, by go_num, rfl, HN, ⟨_, rfl⟩⟩
            case measure => simp [intOf]; omega
      · have HN := Lib.hid (HS1.out hc)
        rw [hc] at HH
        clear hc hva hrow hp
        go_wp2
        go_quiet ((go_at_call 90; exact quiet_drawn2 (HH.out _)))
        go_wp2
        go_roundw
        case rel => exact ⟨i + 1, b, by omega, by go_num, rfl, HN, ⟨_, rfl⟩⟩
        case measure => simp [intOf]; omega

end Go.Proofs.Ytgdafgnjaogmeaa
