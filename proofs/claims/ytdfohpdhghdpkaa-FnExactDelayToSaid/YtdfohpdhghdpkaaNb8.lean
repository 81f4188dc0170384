import Derived.Test.YtdfohpdhghdpkaaNb7
/-
  DelayTo of the model.
-/
namespace Go.Proofs.Ytdfohpdhghdpkaa
open Go.ChangeShapes Go.WideShapes Go.ChangeAt Go.RowKit
set_option maxRecDepth 100000
set_option linter.unusedVariables false

theorem inB_press : inB 0 0 100000000 = true := by decide
/-- what leads to a node, for the walks -/
theorem Rooted.step {ps : List Pp} {n : Nat} {src : Int} {O Y : List Int} (R : Rooted ps n src O Y) (hj : Joins n ps) (hf : ps.all (fitB n) = true) (hm : ps.length ≤ 15) {x : Int} (x0 : 0 ≤ x) (x1 : x < n) (hs : x ≠ src) :
    ∃ p, ps[ixE (getI Y x)]? = some p ∧ pipeE ps (getI Y x) = p ∧ befI ps Y x = (if 0 < getI Y x then p.f else p.t) ∧ (-15 ≤ getI Y x ∧ getI Y x ≤ 15 ∧ getI Y x ≠ 0 ∧ absI (getI Y x) ≤ ps.length) ∧ pos O (befI ps Y x) < pos O x ∧ (0 ≤ befI ps Y x ∧ befI ps Y x < n) ∧ p.ok = true := by
  obtain ⟨p, h1, h2, h3, h4, h5, h6⟩ := R.lead hj x0 x1 hs
  have hl := (List.getElem?_eq_some_iff.1 h1).1
  refine ⟨p, h1, h2, ?_, ?_, h4, ⟨h5, h6⟩, (fitB_parts (List.all_eq_true.1 hf p (List.mem_of_getElem? h1))).1⟩
  · unfold befI; rw [h2]
  · generalize getI Y x = y at *
    rcases h3 with ⟨a, _, _⟩ | ⟨a, _, _⟩
    · refine ⟨by omega, by omega, by omega, ?_⟩
      unfold absI; split <;> omega
    · refine ⟨by omega, by omega, by omega, ?_⟩
      unfold absI; split <;> omega
theorem delO_at (ps : List Pp) (Y : List Int) (src : Int) (q : List Int) (f : Nat) (x : Int) : delO ps Y src q (f + 1) x = if x = src then some 0 else if alongI q (getI Y x) ≤ 0 then none else (delO ps Y src q f (befI ps Y x)).map fun t => delayI (pipeE ps (getI Y x)).L (pipeE ps (getI Y x)).d (alongI q (getI Y x)) + t := rfl
set_option maxHeartbeats 2000000 in
theorem specDelayTo_any (A B : Option Addr) (c d : Nat) (z : List Int) (ps : List Pp) (src : Int) (Q : Option Addr) (qc : Nat) (q : List Int) (node : Int) (w : World) (h : NetCells w A z B ps) (hn : z.length ≤ 1048576) (hm : ps.length ≤ 1048576) (hid : ∀ p ∈ ps, p.id.size ≤ maxLen) (hQ : CellsAt w Q (intsV q)) (hq : q.length ≤ 1048576) :
    Calls Try.prog 40 #[.agg #[.slice A z.length c, .slice B ps.length d], .int .i64 src, .slice Q q.length qc, .int .i64 node] w fun e w' => e = .returned (.tuple #[.int .i64 (dtV z ps src q node), .int .i64 (dtC z ps src q node)]) ∧ Below w.heap.size w w' := by
  have hN := NetAt.new w A z.length c B ps.length d 27
  have hb : Below w.heap.size w (w.alloc (.cells #[.slice A z.length c, .slice B ps.length d] 27)) := bal (Below.refl _ _) _
  have HK := Lib.hid (l07Ask_any w.heap.size A B c d z ps src _ hN (h.next hb) hn hm hid)
  have HND := Lib.hid (fun wx (hx : NetAt wx w.heap.size A z.length c B ps.length d) => l04Node_any w.heap.size A z.length c B ps.length d node wx hx hn)
  have HGV := Lib.hid (fun wx (hx : NetAt wx w.heap.size A z.length c B ps.length d) (hbx : Below w.heap.size w wx) => by have := l07Given_any w.heap.size A B c d z ps Q qc q src 0 wx hx (h.next hbx) hn hm hid (hQ.next hbx) hq; rw [inB_press, Bool.and_true] at this; exact this)
  have HC := Lib.hid h
  have HQ := Lib.hid hQ
  clear h hid hQ
  unfold argC at HK
  by_cases hv : netB z ps = true
  · rw [hv] at HK
    by_cases hr : inB src 0 ((z.length : Int) - 1) = true
    · rw [hr] at HK HGV
      by_cases hd : inB node 0 ((z.length : Int) - 1) = true
      · rw [hd] at HND
        have hP : dtP z ps src q node = preC z ps true (flB (-100000) 100000 ps.length q) := by unfold dtP; rw [hr, hd]; rfl
        by_cases h0 : preC z ps true (flB (-100000) 100000 ps.length q) = 0
        · have hpp := preC_net h0
          have hfl := flB_parts hpp.2.2.1
          have ⟨R, hj, s0, s1, hm15, hn16⟩ := rooted_net hv hpp.2.2.2 hr
          have hf := (netB_parts hv).2.2.2.1
          have hd' := inB_iff.1 hd
          have hV : dtV z ps src q node = (dtO z ps src q node).getD 0 := by unfold dtV; rw [hP, if_pos h0]
          have hCc : dtC z ps src q node = if (dtO z ps src q node).isSome then 0 else 3 := by unfold dtC; rw [hP, if_pos h0]
          rw [hV, hCc]
          unfold dtO
          rw [h0] at HGV
          have HOR := Lib.hid (fun wx (hx : NetAt wx w.heap.size A z.length c B ps.length d) (hbx : Below w.heap.size w wx) => l07Order_any w.heap.size A B c d z ps src wx hx (HC.out.next hbx) hn16 (by omega) hj s0 s1)
          generalize (bfsOut ps z.length src z.length).1 = O at *
          generalize (bfsOut ps z.length src z.length).2 = Y at *
          have HR := Lib.hid R
          have HSTEP := Lib.hid (fun x x0 x1 hs => R.step hj hf hm15 (x := x) x0 x1 hs)
          have hYl := R.ok.len
          have HYL := Lib.hid hYl
          have HQA := Lib.hid hfl.2
          have HQL := Lib.hid hfl.1
          obtain ⟨res, hres⟩ : ∃ res, delO ps Y src q z.length node = res := ⟨_, rfl⟩
          rw [hres]
          have HRES := Lib.hid hres
          obtain ⟨vv, hvv⟩ : ∃ vv : Int, res.getD 0 = vv := ⟨_, rfl⟩
          obtain ⟨cc, hcc⟩ : ∃ cc : Int, (if res.isSome then (0 : Int) else 3) = cc := ⟨_, rfl⟩
          rw [hvv, hcc]
          have HVV := Lib.hid hvv
          have HCV := Lib.hid hcc
          clear hvv hcc
          clear hP h0 hpp hfl hj hV hCc hf hYl hres hv hr hd R
          go_enter Try.func40, Try.ntmps40
          have ⟨n0, n1⟩ := hN
          go_wp2_with fail
          refine HK.out.mono ?_
          rintro e w1 ⟨rfl, hd1⟩
          have hb1 := drawn_below hd1
          have hN := hN.next hb1
          have hb := bnext hb hb1
          clear n0 n1 hb1 hd1
          have ⟨n0, n1⟩ := hN
          have HND1 := HND.out _ hN
          have HGV1 := HGV.out _ hN hb
          go_wp2_with (first | (go_at_call 89; go_must (refine HND1.mono ?_; rintro e w' ⟨rfl, rfl⟩)) | (go_at_call 75; go_must (refine HGV1.mono ?_; rintro e w2 ⟨rfl, hb2⟩; have hN := hN.next hb2; have hb := bnext hb hb2; have ⟨n0, n1⟩ := hN; have HOR1 := HOR.out _ hN hb)) | (go_at_call 90; go_must (refine HOR1.mono ?_; rintro e w3 ⟨g0, c0, g1, c1, rfl, ho, hy, hne, hb3⟩; have hN := hN.next hb3; have hb := bnext hb hb3; have ⟨n0, n1⟩ := hN; have HY3 := Lib.hid (owns_cells hy); have HN3 := Lib.hid hN; have HB3 := Lib.hid hb)))
          clear HND1 HGV1 HOR1 hy ho hne hb hN
          have HPOS := Lib.hid (Nat.lt_of_lt_of_le (pos_lt (HR.out.all node hd'.1 (by omega))) HR.out.ok.short)
          have HNPOS := Lib.hid (fun x x0 x1 => pos_lt (HR.out.all x x0 x1))
          go_loopw [3, 13] (fun a s wr => ∃ (f : Nat) (x t : Int), a = .int .i64 x ∧ s = .int .i64 t ∧ 0 ≤ x ∧ x < z.length ∧ pos O x < f ∧ f ≤ 16 ∧ 0 ≤ t ∧ t ≤ (20 - (f : Int)) * 80000000000000 ∧ Hid (res = (delO ps Y src q f x).map fun u => t + u) ∧ Below w3.heap.size w3 wr) (fun a _ _ => pos O (intOf a))
          case atStart => exact ⟨z.length, node, 0, rfl, rfl, hd'.1, by omega, HPOS.out, hn16, by omega, by omega, Lib.hid (by rw [HRES.out]; simp), Below.refl _ _⟩
          case round =>
            obtain ⟨f, x, t, rfl, rfl, x0, x1, hpf, hf16, t0, t1, HT, hbr⟩ := hrel
            have hNr := HN3.out.next hbr
            have hbw := bnext HB3.out hbr
            obtain ⟨f, rfl⟩ : ∃ g, f = g + 1 := ⟨f - 1, by omega⟩
            by_cases hxs : x = src
            · have hx1 : (x != src) = false := by simpa using hxs
              have HE := Lib.hid (show res = some t by rw [HT.out, delO_at, if_pos hxs]; simp)
              clear hxs
              go_wp2
              go_ret2
              exact ⟨by rw [← HVV.out, ← HCV.out, HE.out]; rfl, hbw⟩
            · have hx1 : (x != src) = true := by simpa using hxs
              obtain ⟨p, hp, hpe, hbf, ⟨y0, y1, y2, y3⟩, hps, ⟨b0, b1⟩, hok⟩ := HSTEP.out x x0 x1 hxs
              have hok' := okP_ends hok
              obtain ⟨-, -, -, -, ⟨L0, L1⟩, ⟨D0, D1⟩, -⟩ := okP_bd _ _ _ _ _ _ hok
              have HD0 := HT.out
              rw [delO_at, if_neg hxs, hpe] at HD0
              have HDD := Lib.hid HD0
              obtain ⟨pb, po, hBe, hrow⟩ := pipe_at (HC.out.2.next hbw) (by have := (List.getElem?_eq_some_iff.1 hp).1; omega)
              subst hBe
              have hPO := hrow _ p hp
              have hcy := (HY3.out.next hbr)
              have hxc : ∃ b o, some (⟨g1, 0, none⟩ : Addr) = some ⟨b, o, none⟩ ∧ wr.cell? ⟨b, o + x.toNat, none⟩ = some (.int .i64 (getI Y x)) := by
                obtain ⟨b, o, e, h1⟩ := hcy (by rw [intsV_length, HYL.out]; omega)
                refine ⟨b, o, e, ?_⟩
                rw [h1 x.toNat (by rw [intsV_length, HYL.out]; omega), intsV_at _ _ (by rw [HYL.out]; omega)]
                unfold getI
                rw [List.getD_eq_getElem?_getD, List.getElem?_eq_getElem (by rw [HYL.out]; omega)]; rfl
              obtain ⟨b', o', e, hxc⟩ := hxc
              obtain ⟨rfl, rfl⟩ : g1 = b' ∧ 0 = o' := by simpa using e
              rw [Nat.zero_add] at hxc
              have HBF := Lib.hid hbf
              have HPS := Lib.hid hps
              have hyn : absI (getI Y x) ≤ q.length := by rw [HQL.out]; exact y3
              have HAL := Lib.hid (fun wx (hbx : Below w.heap.size w wx) => l07Along_any Q qc q (getI Y x) wx (HQ.out.next hbx) HQA.out (by omega) (by omega) y2 hyn hq)
              have hab := along_bd HQA.out (getI Y x)
              have HPI := Lib.hid (fun wx (hbx : NetAt wx w.heap.size A z.length c (some ⟨pb, po, none⟩) ps.length d) => l07Pipe_any w.heap.size A z.length c pb po d ps.length (getI Y x) wx hbx (by omega) (by omega) y2 y3 (by omega))
              have HBE := Lib.hid (fun wx (hbx : NetAt wx w.heap.size A z.length c (some ⟨pb, po, none⟩) ps.length d) (hpx : PipeO wx pb (po + ixE (getI Y x) * 6) p) => by have := l07Before_any w.heap.size A z.length c pb po d ps.length (getI Y x) p wx hbx hpx (by omega) (by omega) y2 y3 (by omega); rw [← hbf] at this; exact this)
              have HDL := Lib.hid (fun fl (f0 : -100000 ≤ fl) (f1 : fl ≤ 100000) (fn : fl ≠ 0) wx (hpx : PipeO wx pb (po + ixE (getI Y x) * 6) p) => l03DelayO_any pb (po + ixE (getI Y x) * 6) p fl wx hpx (by omega) L1 D0 D1 f0 f1 fn)
              have HDB := Lib.hid (fun fl (f0 : -100000 ≤ fl) (f1 : fl ≤ 100000) (fn : fl ≠ 0) => delay_bd p.L p.d fl (by omega) L1 D0 D1 f0 f1 fn)
              clear hpe hbf hps hrow hcy HD0 hp hok hxs
              generalize ixE (getI Y x) = ix at *
              generalize befI ps Y x = bx at *
              generalize alongI q (getI Y x) = fl at *
              generalize getI Y x = y at *
              have ⟨n0, n1⟩ := hNr
              by_cases hfl : fl ≤ 0
              · have HE := Lib.hid (show res = none by rw [HDD.out, if_pos hfl]; rfl)
                go_wp2_with (go_at_call 91; go_must (refine (HAL.out _ hbw).mono ?_; rintro e w' ⟨rfl, rfl⟩))
                go_ret2
                exact ⟨by rw [← HVV.out, ← HCV.out, HE.out]; rfl, hbw⟩
              · have HE := Lib.hid (show res = ((delO ps Y src q f bx).map fun t => delayI p.L p.d fl + t).map fun u => t + u by rw [HDD.out, if_neg hfl])
                have hdb := HDB.out fl hab.1 hab.2 (by omega)
                have HDL1 := Lib.hid (HDL.out fl hab.1 hab.2 (by omega))
                clear HDL HDB
                generalize delayI p.L p.d fl = dl at *
                go_wp2_with (first
                  | (go_at_call 91; go_must (refine (HAL.out _ hbw).mono ?_; rintro e w' ⟨rfl, rfl⟩))
                  | (go_at_call 93; go_must (refine (HPI.out _ hNr).mono ?_; rintro e wp ⟨rfl, hdw⟩; have hb' := drawn_below hdw; have hNr := hNr.next hb'; have hbw := bnext hbw hb'; have hbr := bnext hbr hb'; have hPO := hPO.next hb'; have ⟨n0, n1⟩ := hNr))
                  | (go_at_call 92; go_must (refine (HDL1.out _ hPO).mono ?_; rintro e wd ⟨rfl, hdw⟩; have hb' := drawn_below hdw; have hNr := hNr.next hb'; have hbw := bnext hbw hb'; have hbr := bnext hbr hb'; have hPO := hPO.next hb'; have ⟨n0, n1⟩ := hNr))
                  | (go_at_call 94; go_must (refine (HBE.out _ hNr hPO).mono ?_; rintro e w' ⟨rfl, rfl⟩)))
                go_roundw
                case rel => exact ⟨f, bx, t + dl, rfl, by go_num, b0, b1, by have := HPS.out; omega, by omega, by omega, by omega, Lib.hid (by rw [HE.out, Option.map_map]; congr 1; funext u; simp only [Function.comp]; omega), hbr⟩
                case measure => have := HPS.out; simp [intOf]; omega
        · obtain ⟨C, hC⟩ : ∃ C, preC z ps true (flB (-100000) 100000 ps.length q) = C := ⟨_, rfl⟩
          have hV : dtV z ps src q node = 0 := by unfold dtV; rw [hP, if_neg h0]
          have hCc : dtC z ps src q node = C := by unfold dtC; rw [hP, if_neg h0, hC]
          rw [hV, hCc]
          rw [hC] at HGV h0
          have hCn : (C != 0) = true := by simpa using h0
          clear hV hCc hP h0 hC hv hr hd
          go_enter Try.func40, Try.ntmps40
          have ⟨n0, n1⟩ := hN
          go_wp2_with fail
          refine HK.out.mono ?_
          rintro e w1 ⟨rfl, hd1⟩
          have hb1 := drawn_below hd1
          have hN := hN.next hb1
          have hb := bnext hb hb1
          clear n0 n1 hb1 hd1
          have ⟨n0, n1⟩ := hN
          have HND1 := HND.out _ hN
          have HGV1 := HGV.out _ hN hb
          go_wp2_with (first | (go_at_call 89; go_must (refine HND1.mono ?_; rintro e w' ⟨rfl, rfl⟩)) | (go_at_call 75; go_must (refine HGV1.mono ?_; rintro e w2 ⟨rfl, hb2⟩; have hb := bnext hb hb2)))
          go_ret2
          exact ⟨rfl, hb⟩
      · have hd : inB node 0 ((z.length : Int) - 1) = false := by simpa using hd
        rw [hd] at HND
        have hP : dtP z ps src q node = 2 := by unfold dtP preC; rw [hr, hd, hv]; rfl
        have hV : dtV z ps src q node = 0 := by unfold dtV; rw [hP]; rfl
        have hCc : dtC z ps src q node = 2 := by unfold dtC; rw [hP]; rfl
        rw [hV, hCc]
        clear hV hCc hP hv hr hd
        go_enter Try.func40, Try.ntmps40
        have ⟨n0, n1⟩ := hN
        go_wp2_with fail
        refine HK.out.mono ?_
        rintro e w1 ⟨rfl, hd1⟩
        have hb1 := drawn_below hd1
        have hN := hN.next hb1
        have hb := bnext hb hb1
        clear n0 n1 hb1 hd1
        have ⟨n0, n1⟩ := hN
        have HND1 := HND.out _ hN
        go_wp2_with (go_at_call 89; go_must (refine HND1.mono ?_; rintro e w' ⟨rfl, rfl⟩))
        go_ret2
        exact ⟨rfl, hb⟩
    · have hr : inB src 0 ((z.length : Int) - 1) = false := by simpa using hr
      rw [hr] at HK
      have hP : dtP z ps src q node = 2 := by unfold dtP preC; rw [hr, hv]; rfl
      have hV : dtV z ps src q node = 0 := by unfold dtV; rw [hP]; rfl
      have hCc : dtC z ps src q node = 2 := by unfold dtC; rw [hP]; rfl
      rw [hV, hCc]
      clear hV hCc hP hv hr
      go_enter Try.func40, Try.ntmps40
      have ⟨n0, n1⟩ := hN
      go_wp2_with fail
      refine HK.out.mono ?_
      rintro e w1 ⟨rfl, hd1⟩
      have hb1 := drawn_below hd1
      have hN := hN.next hb1
      have hb := bnext hb hb1
      clear n0 n1 hb1 hd1
      have ⟨n0, n1⟩ := hN
      go_wp2
      go_ret2
      exact ⟨rfl, hb⟩
  · have hv : netB z ps = false := by simpa using hv
    rw [hv] at HK
    have hP : dtP z ps src q node = 1 := by unfold dtP preC; rw [hv]; rfl
    have hV : dtV z ps src q node = 0 := by unfold dtV; rw [hP]; rfl
    have hCc : dtC z ps src q node = 1 := by unfold dtC; rw [hP]; rfl
    rw [hV, hCc]
    clear hV hCc hP hv
    go_enter Try.func40, Try.ntmps40
    have ⟨n0, n1⟩ := hN
    go_wp2_with fail
    refine HK.out.mono ?_
    rintro e w1 ⟨rfl, hd1⟩
    have hb1 := drawn_below hd1
    have hN := hN.next hb1
    have hb := bnext hb hb1
    clear n0 n1 hb1 hd1
    have ⟨n0, n1⟩ := hN
    go_wp2
    go_ret2
    exact ⟨rfl, hb⟩
end Go.Proofs.Ytdfohpdhghdpkaa
