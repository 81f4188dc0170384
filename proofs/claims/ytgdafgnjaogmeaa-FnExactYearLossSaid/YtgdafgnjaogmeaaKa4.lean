/-
  YearLoss of both sides.
-/
import Derived.Test.YtgdafgnjaogmeaaKa2
namespace Go.Proofs.Ytgdafgnjaogmeaa
open Go.ChangeShapes Go.WideShapes Go.ChangeAt Go.RowKit Go.Shelf
set_option linter.unusedSimpArgs false
set_option maxRecDepth 100000
set_option maxHeartbeats 1600000
set_option linter.unusedVariables false


/-- the temperatures of twelve months -/
def monB (q : List Int) : Bool := decide (q.length = 12) && allIn (-5000) 20000 q
def yearTo (ps : List Pp) (ws gs : List Int) : Nat → Int
  | 0 => 0
  | k + 1 => yearTo ps ws gs k + sumW ps (ws.getD k 0) (gs.getD k 0)
def yearC (z : List Int) (ps : List Pp) (ws gs : List Int) : Int := argC (netB z ps) (monB ws && monB gs)
def yearV (z : List Int) (ps : List Pp) (ws gs : List Int) : Int := if argC (netB z ps) (monB ws && monB gs) = 0 then nearI (730 * yearTo ps ws gs 12) 1000 else 0
theorem monB_parts {q : List Int} (h : monB q = true) : q.length = 12 ∧ allIn (-5000) 20000 q = true := by
  unfold monB at h
  rw [Bool.and_eq_true, decide_eq_true_eq] at h
  exact h
theorem allIn_getD {lo hi : Int} {q : List Int} (h : allIn lo hi q = true) (k : Nat) (hk : k < q.length) : lo ≤ q.getD k 0 ∧ q.getD k 0 ≤ hi := by
  unfold allIn at h
  have := List.all_eq_true.1 h (q[k]) (List.getElem_mem hk)
  rw [List.getD_eq_getElem?_getD, List.getElem?_eq_getElem hk]
  simpa using this
theorem allIn_of {lo hi : Int} {q : List Int} (h : ∀ k, k < q.length → lo ≤ q.getD k 0 ∧ q.getD k 0 ≤ hi) : allIn lo hi q = true := by
  unfold allIn
  rw [List.all_eq_true]
  intro x hx
  obtain ⟨k, hk, rfl⟩ := List.getElem_of_mem hx
  have := h k hk
  rw [List.getD_eq_getElem?_getD, List.getElem?_eq_getElem hk] at this
  simpa using this
theorem yearTo_bd {ps : List Pp} (hok : ∀ p ∈ ps, p.ok = true) (hm : ps.length ≤ 20) (ws gs : List Int) (n : Nat) (hw : ∀ k, k < n → (-5000 ≤ ws.getD k 0 ∧ ws.getD k 0 ≤ 20000) ∧ (-5000 ≤ gs.getD k 0 ∧ gs.getD k 0 ≤ 20000)) : ∀ k, k ≤ n → -(25000000000020 * (k : Int)) ≤ yearTo ps ws gs k ∧ yearTo ps ws gs k ≤ 25000000000020 * k
  | 0, _ => by unfold yearTo; omega
  | k + 1, h => by
    have h1 := yearTo_bd hok hm ws gs n hw k (by omega)
    have hk := hw k (by omega)
    have h2 := sumW_bd hok hm (ws.getD k 0) (gs.getD k 0) hk.1.1 hk.1.2 hk.2.1 hk.2.2 ps.length
    rw [sumW_all] at h2
    unfold yearTo
    push_cast
    omega
theorem months_any (Q : Option Addr) (qc : Nat) (q : List Int) (w : World) (hQ : CellsAt w Q (intsV q)) (hq : q.length ≤ 1048576) :
    Calls Try.prog 81 #[.slice Q q.length qc] w fun e w' => e = .returned (.bool (monB q)) ∧ w = w' := by
  have HW := Lib.hid (within64_cells (-5000) 20000 Q qc q.length q w rfl (by unfold maxLen; omega) hQ)
  by_cases h : q.length = 12
  · have HM : Hid (monB q = allIn (-5000) 20000 q) := Lib.hid (by unfold monB; simp [h])
    have h1 : ((q.length : Int) == 12) = true := by rw [h]; rfl
    clear hQ h
    rw [HM.out]
    generalize allIn (-5000) 20000 q = r at *
    go_enter Try.func81, Try.ntmps81
    go_wp2_with fail
    refine HW.out.mono ?_
    rintro e w1 ⟨rfl, rfl⟩
    go_wp2
    go_ret
    exact ⟨by cases r <;> rfl, rfl⟩
  · have HM : Hid (monB q = false) := Lib.hid (by unfold monB; simp [h])
    have h1 : ((q.length : Int) == 12) = false := by simp; omega
    clear hQ h HW
    rw [HM.out]
    go_enter Try.func81, Try.ntmps81
    go_wp2
    go_ret
    exact ⟨rfl, rfl⟩
set_option maxHeartbeats 3200000 in
theorem implYearLoss_any (A B : Option Addr) (cA d : Nat) (z : List Int) (ps : List Pp) (Q : Option Addr) (qc : Nat) (q : List Int) (G : Option Addr) (gc : Nat) (g : List Int) (w : World) (h : NetCells w A z B ps) (hn : z.length ≤ 1048576) (hm : ps.length ≤ 1048576) (hid : ∀ p ∈ ps, p.id.size ≤ maxLen) (hQ : CellsAt w Q (intsV q)) (hq : q.length ≤ 1048576) (hG : CellsAt w G (intsV g)) (hg : g.length ≤ 1048576) :
    Calls Try.prog 33 #[.agg #[.slice A z.length cA, .slice B ps.length d], .slice Q q.length qc, .slice G g.length gc] w fun e w' => e = .returned (.tuple #[.int .i64 (yearV z ps q g), .int .i64 (yearC z ps q g)]) ∧ Below w.heap.size w w' := by
  have hN := NetAt.new w A z.length cA B ps.length d 40
  have hb : Below w.heap.size w (w.alloc (.cells #[.slice A z.length cA, .slice B ps.length d] 40)) := bal (Below.refl _ _) _
  have HCO := Lib.hid (fun wx (hbx : Below w.heap.size w wx) => code_any A B cA d z ps (monB q && monB g) wx (h.next hbx) hn hm hid)
  have HM1 := Lib.hid (fun wx (hbx : Below w.heap.size w wx) => months_any Q qc q wx (hQ.next hbx) hq)
  have HM2 := Lib.hid (fun wx (hbx : Below w.heap.size w wx) => months_any G gc g wx (hG.next hbx) hg)
  have HV : Hid (yearV z ps q g = if argC (netB z ps) (monB q && monB g) = 0 then nearI (730 * yearTo ps q g 12) 1000 else 0) := Lib.hid rfl
  have HV2 : Hid (yearC z ps q g = argC (netB z ps) (monB q && monB g)) := Lib.hid rfl
  have HP : Hid (argC (netB z ps) (monB q && monB g) = 0 → netB z ps = true ∧ monB q = true ∧ monB g = true) := Lib.hid (fun h0 => by
    rcases argC_ways (netB z ps) (monB q && monB g) with ⟨hv, hc⟩ | ⟨hv, hr, hc⟩ | ⟨hv, hr, hc⟩
    · omega
    · omega
    · rw [Bool.and_eq_true] at hr; exact ⟨hv, hr.1, hr.2⟩)
  by_cases hm1 : monB q = true
  · rw [hm1, Bool.true_and] at HCO HV HV2 HP
    rw [hm1] at HM1
    have HP2 := Lib.hid (fun h0 => (HP.out h0).1)
    have HP3 := Lib.hid (fun h0 => (HP.out h0).2.2)
    by_cases h0 : argC (netB z ps) (monB g) = 0
    · have hv := HP2.out h0
      have hmg := HP3.out h0
      rw [h0] at HCO HV HV2
      rw [if_pos rfl] at HV
      rw [hmg] at HM2 HCO
      have hp1 := monB_parts hm1
      have hp2 := monB_parts hmg
      have hok := netB_ok hv
      have HBD : Hid (∀ k : Nat, k ≤ 12 → -(25000000000020 * (k : Int)) ≤ yearTo ps q g k ∧ yearTo ps q g k ≤ 25000000000020 * k) := Lib.hid (yearTo_bd hok.1 hok.2 q g 12 (fun k hk => ⟨allIn_getD hp1.2 k (by omega), allIn_getD hp2.2 k (by omega)⟩))
      have HT : Hid (∀ k : Nat, k < 12 → (-5000 ≤ q.getD k 0 ∧ q.getD k 0 ≤ 20000) ∧ (-5000 ≤ g.getD k 0 ∧ g.getD k 0 ≤ 20000)) := Lib.hid (fun k hk => ⟨allIn_getD hp1.2 k (by omega), allIn_getD hp2.2 k (by omega)⟩)
      have HL1 := Lib.hid hp1.1
      have HL2 := Lib.hid hp2.1
      have HOK := Lib.hid hok
      have HH := Lib.hid h
      have HQ := Lib.hid hQ
      have HG := Lib.hid hG
      clear hv hmg hp1 hp2 hok h0 h hid hQ hG HP HP2 HP3 hm1
      have ⟨n0, n1⟩ := hN
      go_enter Try.func33, Try.ntmps33
      go_wp2_with fail
      have hb : Below w.heap.size w (w.alloc (.cells #[.slice A z.length cA, .slice B ps.length d] 40)).drew := below_drewN hb 1
      have hN : NetAt (w.alloc (.cells #[.slice A z.length cA, .slice B ps.length d] 40)).drew w.heap.size A z.length cA B ps.length d := hN
      have ⟨n0, n1⟩ := hN
      go_region_held3 (fun w' => w'.cell? ⟨w.heap.size, 0, none⟩ = some (.slice A z.length cA) ∧ w'.cell? ⟨w.heap.size, 1, none⟩ = some (.slice B ps.length d)) (exact ⟨n0, n1⟩) (first | (go_at_call 81; (with_reducible refine (HM1.out _ hb).mono ?_); rintro e w' ⟨rfl, rfl⟩) | (go_at_call 81; (with_reducible refine (HM2.out _ hb).mono ?_); rintro e w' ⟨rfl, rfl⟩) | (go_at_call 70; refine (HCO.out _ hb).mono ?_; rintro e w' ⟨rfl, hb'⟩; have hb := bnext hb hb'; have hN := hN.next hb'; have ⟨n0, n1⟩ := hN))
      go_wp2_with fail
      have HB1 := Lib.hid hb
      have HN1 := Lib.hid hN
      clear n0 n1 hb hN
      go_loopw [9, 25] (fun v i wr => ∃ (j : Nat) (s : Int), j ≤ q.length ∧ i = .int .i64 j ∧ v = .int .i64 s ∧ Hid (s = yearTo ps q g j) ∧ Below w.heap.size w wr ∧ NetAt wr w.heap.size A z.length cA B ps.length d) (fun _ i _ => q.length - (intOf i).toNat)
      case atStart => exact ⟨0, 0, Nat.zero_le _, rfl, rfl, Lib.hid rfl, HB1.out, HN1.out⟩
      case round =>
        obtain ⟨j, s, hj, rfl, rfl, HS, hb, hN⟩ := hrel
        have hj12 : j ≤ 12 := by have := HL1.out; omega
        have hbd := HBD.out j hj12
        rw [← HS.out] at hbd
        by_cases hlt : j < q.length
        · have hlg : j < g.length := by have := HL1.out; have := HL2.out; omega
          have ht := HT.out j (by have := HL1.out; omega)
          have hbd2 := HBD.out (j + 1) (by have := HL1.out; omega)
          have hy : yearTo ps q g (j + 1) = yearTo ps q g j + sumW ps (q.getD j 0) (g.getD j 0) := rfl
          rw [hy, ← HS.out] at hbd2
          rw [← HS.out] at hy
          have HY := Lib.hid hy
          obtain ⟨b, off, rfl, hrow⟩ := (HQ.out.next hb) (by rw [intsV_length]; omega)
          have p0 := hrow j (by rw [intsV_length]; exact hlt)
          rw [intsV_at _ _ hlt] at p0
          obtain ⟨b2, off2, rfl, hrow2⟩ := (HG.out.next hb) (by rw [intsV_length]; omega)
          have g0 := hrow2 j (by rw [intsV_length]; exact hlg)
          rw [intsV_at _ _ hlg] at g0
          have hgx : q.getD j 0 = q[j] := by rw [List.getD_eq_getElem?_getD, List.getElem?_eq_getElem hlt]; rfl
          have hgy : g.getD j 0 = g[j] := by rw [List.getD_eq_getElem?_getD, List.getElem?_eq_getElem hlg]; rfl
          rw [← hgx] at p0
          rw [← hgy] at g0
          have HLS := Lib.hid (fun wx (hbx : Below w.heap.size w wx) => losses_any A B cA d z ps (q.getD j 0) (g.getD j 0) wx (HH.out.next hbx).2 HOK.out.1 HOK.out.2 ht.1.1 ht.1.2 ht.2.1 ht.2.2)
          have HSU := Lib.hid (fun (T : Option Addr) (td : Nat) wx (hx : CellsAt wx T (intsV (ps.map (lossW (q.getD j 0) (g.getD j 0))))) => sumOf_any T ps.length td (ps.map (lossW (q.getD j 0) (g.getD j 0))) 25000000000020 wx (List.length_map _) (by rw [List.length_map]; omega) hx (by omega) (fun k => by
            rw [← List.map_take]
            exact sumW_bd HOK.out.1 HOK.out.2 _ _ ht.1.1 ht.1.2 ht.2.1 ht.2.2 k))
          have hSW : (ps.map (lossW (q.getD j 0) (g.getD j 0))).sum = sumW ps (q.getD j 0) (g.getD j 0) := rfl
          rw [hSW] at HSU
          clear hrow hrow2 hgx hgy hy ht hSW
          generalize q.getD j 0 = x at *
          generalize g.getD j 0 = y at *
          generalize sumW ps x y = u at *
          have ew : IntKind.i64.wrap (s + u) = s + u := IntWalk.i64_in _ (by omega)
          have hb : Below w.heap.size w wr.drew := below_drewN hb 1
          have hN : NetAt wr.drew w.heap.size A z.length cA B ps.length d := hN
          have g0 : wr.drew.cell? ⟨b2, off2 + j, none⟩ = some (.int .i64 y) := g0
          have ⟨n0, n1⟩ := hN
          go_wp2_with fail
          go_region_held3 (fun w' => w'.cell? ⟨w.heap.size, 0, none⟩ = some (.slice A z.length cA) ∧ w'.cell? ⟨w.heap.size, 1, none⟩ = some (.slice B ps.length d) ∧ w'.cell? ⟨b2, off2 + j, none⟩ = some (.int .i64 y)) (exact ⟨n0, n1, g0⟩) (first | (go_at_call 73; refine (HLS.out _ hb).mono ?_; rintro e w' hq; obtain ⟨T, td, rfl, ho, hb'⟩ := retInts_of hq; have hcs := owns_cells ho; rw [List.length_map]; clear ho hq; have hb := bnext hb hb'; have hN := hN.next hb'; have ⟨n0, n1⟩ := hN; have g0 := (hb'.cell (p := ⟨b2, off2 + j, none⟩) (World.block_lt_of_cell? _ _ g0)).trans g0) | (go_at_call 72; refine (HSU.out _ _ _ hcs).mono ?_; rintro e w' ⟨rfl, hd⟩; have hb' := drawn_below hd; have hb := bnext hb hb'; have hN := hN.next hb'; have ⟨n0, n1⟩ := hN; have g0 := (hb'.cell (p := ⟨b2, off2 + j, none⟩) (World.block_lt_of_cell? _ _ g0)).trans g0))
          go_wp2
          go_roundw
          case rel => exact ⟨j + 1, s + u, by omega, by go_num, by go_num, Lib.hid HY.out.symm, hb, hN⟩
          case measure => simp [intOf]; omega
        · have hj2 : j = 12 := by have := HL1.out; omega
          subst hj2
          have HE : Hid (yearV z ps q g = nearI (s * 730) 1000) := Lib.hid (by rw [HV.out, ← HS.out, Int.mul_comm])
          have HD := Lib.hid (fun wx => nearest_any (s * 730) 1000 wx (by omega) (by omega) (by omega) (by omega) (by omega))
          generalize nearI (s * 730) 1000 = r at *
          have ⟨n0, n1⟩ := hN
          go_wp2_with fail
          refine (HD.out _).mono ?_
          rintro e w9 ⟨rfl, hd⟩
          have hb := bnext hb (drawn_below hd)
          go_wp2
          go_ret2
          exact ⟨by rw [HE.out, HV2.out]; rfl, hb⟩
    · have HE : Hid (yearV z ps q g = 0) := Lib.hid (by rw [HV.out, if_neg h0])
      have h0' : (argC (netB z ps) (monB g) == 0) = false := by simpa using h0
      have h0n : (argC (netB z ps) (monB g) != 0) = true := by simpa using h0
      generalize argC (netB z ps) (monB g) = code at *
      generalize monB g = m2 at *
      clear h0 HV HP HP2 HP3 h hid hQ hG
      have ⟨n0, n1⟩ := hN
      go_enter Try.func33, Try.ntmps33
      go_wp2_with fail
      have hb : Below w.heap.size w (w.alloc (.cells #[.slice A z.length cA, .slice B ps.length d] 40)).drew := below_drewN hb 1
      have hN : NetAt (w.alloc (.cells #[.slice A z.length cA, .slice B ps.length d] 40)).drew w.heap.size A z.length cA B ps.length d := hN
      have ⟨n0, n1⟩ := hN
      go_region_held3 (fun w' => w'.cell? ⟨w.heap.size, 0, none⟩ = some (.slice A z.length cA) ∧ w'.cell? ⟨w.heap.size, 1, none⟩ = some (.slice B ps.length d)) (exact ⟨n0, n1⟩) (first | (go_at_call 81; (with_reducible refine (HM1.out _ hb).mono ?_); rintro e w' ⟨rfl, rfl⟩) | (go_at_call 81; (with_reducible refine (HM2.out _ hb).mono ?_); rintro e w' ⟨rfl, rfl⟩) | (go_at_call 70; refine (HCO.out _ hb).mono ?_; rintro e w' ⟨rfl, hb'⟩; have hb := bnext hb hb'; have hN := hN.next hb'; have ⟨n0, n1⟩ := hN))
      go_wp2
      go_ret2
      exact ⟨by rw [HE.out, HV2.out]; rfl, hb⟩
  · have hm1 : monB q = false := by simpa only [Bool.not_eq_true] using hm1
    rw [hm1, Bool.false_and] at HCO HV HV2
    rw [hm1] at HM1
    have hne : argC (netB z ps) false ≠ 0 := by cases netB z ps <;> decide
    have HE : Hid (yearV z ps q g = 0) := Lib.hid (by rw [HV.out, if_neg hne])
    have h0' : (argC (netB z ps) false == 0) = false := by simpa using hne
    have h0n : (argC (netB z ps) false != 0) = true := by simpa using hne
    generalize argC (netB z ps) false = code at *
    clear hne HV HP h hid hQ hG HM2
    have ⟨n0, n1⟩ := hN
    go_enter Try.func33, Try.ntmps33
    go_wp2_with fail
    have hb : Below w.heap.size w (w.alloc (.cells #[.slice A z.length cA, .slice B ps.length d] 40)).drew := below_drewN hb 1
    have hN : NetAt (w.alloc (.cells #[.slice A z.length cA, .slice B ps.length d] 40)).drew w.heap.size A z.length cA B ps.length d := hN
    have ⟨n0, n1⟩ := hN
    first | (go_region_held (fun w' => w'.cell? ⟨w.heap.size, 0, none⟩ = some (.slice A z.length cA) ∧ w'.cell? ⟨w.heap.size, 1, none⟩ = some (.slice B ps.length d)) (exact ⟨n0, n1⟩) (first | (go_at_call 81; (with_reducible refine (HM1.out _ hb).mono ?_); rintro e w' ⟨rfl, rfl⟩) | (go_at_call 70; refine (HCO.out _ hb).mono ?_; rintro e w' ⟨rfl, hb'⟩; have hb := bnext hb hb'; have hN := hN.next hb'; have ⟨n0, n1⟩ := hN))) | fail
    go_wp2
    go_ret2
    exact ⟨by rw [HE.out, HV2.out]; rfl, hb⟩

theorem yearT {z : List Int} {ps : List Pp} {q g : List Int} (hv : netB z ps = true) (h1 : q.length = 12) (h2 : g.length = 12) (h : ∀ i, i < 12 → inB (q.getD i 0) (-5000) 20000 = true ∧ inB (g.getD i 0) (-5000) 20000 = true) : yearV z ps q g = nearI (730 * yearTo ps q g 12) 1000 ∧ yearC z ps q g = 0 := by
  have e1 : monB q = true := by
    unfold monB
    rw [Bool.and_eq_true, decide_eq_true_eq]
    exact ⟨h1, allIn_of fun k hk => inB_iff.1 (h k (by omega)).1⟩
  have e2 : monB g = true := by
    unfold monB
    rw [Bool.and_eq_true, decide_eq_true_eq]
    exact ⟨h2, allIn_of fun k hk => inB_iff.1 (h k (by omega)).2⟩
  unfold yearV yearC
  rw [hv, e1, e2]
  exact ⟨rfl, rfl⟩
theorem yearF {z : List Int} {ps : List Pp} {q g : List Int} (hv : netB z ps = true) (h1 : q.length = 12) (h2 : g.length = 12) (j : Nat) (hj : j < 12) (h : ¬ (inB (q.getD j 0) (-5000) 20000 = true ∧ inB (g.getD j 0) (-5000) 20000 = true)) : yearV z ps q g = 0 ∧ yearC z ps q g = 2 := by
  have e : (monB q && monB g) = false := by
    rw [← Bool.not_eq_true, Bool.and_eq_true]
    rintro ⟨e1, e2⟩
    exact h ⟨inB_true (allIn_getD (monB_parts e1).2 j (by omega)), inB_true (allIn_getD (monB_parts e2).2 j (by omega))⟩
  unfold yearV yearC
  rw [hv, e]
  exact ⟨rfl, rfl⟩
theorem yearL {z : List Int} {ps : List Pp} {q g : List Int} (hv : netB z ps = true) (h : ¬ (q.length = 12 ∧ g.length = 12)) : yearV z ps q g = 0 ∧ yearC z ps q g = 2 := by
  have e : (monB q && monB g) = false := by
    rw [← Bool.not_eq_true, Bool.and_eq_true]
    rintro ⟨e1, e2⟩
    exact h ⟨(monB_parts e1).1, (monB_parts e2).1⟩
  unfold yearV yearC
  rw [hv, e]
  exact ⟨rfl, rfl⟩
theorem yearI {z : List Int} {ps : List Pp} {q g : List Int} (hv : netB z ps = false) : yearV z ps q g = 0 ∧ yearC z ps q g = 1 := by
  unfold yearV yearC
  rw [hv]
  exact ⟨rfl, rfl⟩
set_option maxHeartbeats 3200000 in
theorem specYearLoss_any (A B : Option Addr) (cA d : Nat) (z : List Int) (ps : List Pp) (Q : Option Addr) (qc : Nat) (q : List Int) (G : Option Addr) (gc : Nat) (g : List Int) (w : World) (h : NetCells w A z B ps) (hn : z.length ≤ 1048576) (hm : ps.length ≤ 1048576) (hid : ∀ p ∈ ps, p.id.size ≤ maxLen) (hQ : CellsAt w Q (intsV q)) (hq : q.length ≤ 1048576) (hG : CellsAt w G (intsV g)) (hg : g.length ≤ 1048576) :
    Calls Try.prog 31 #[.agg #[.slice A z.length cA, .slice B ps.length d], .slice Q q.length qc, .slice G g.length gc] w fun e w' => e = .returned (.tuple #[.int .i64 (yearV z ps q g), .int .i64 (yearC z ps q g)]) ∧ Below w.heap.size w w' := by
  have hN := NetAt.new w A z.length cA B ps.length d 40
  have hb : Below w.heap.size w (w.alloc (.cells #[.slice A z.length cA, .slice B ps.length d] 40)) := bal (Below.refl _ _) _
  have HO := Lib.hid (l04Ok_any w.heap.size A z.length cA B ps.length d z ps _ hN rfl rfl hn hm (h.next hb).1 (h.next hb).2 hid)
  have ⟨n0, n1⟩ := hN
  by_cases hv : netB z ps = true
  rotate_left
  · have hv : netB z ps = false := by simpa only [Bool.not_eq_true] using hv
    have HV := Lib.hid (yearI (q := q) (g := g) hv)
    rw [hv] at HO
    clear hv h hid hQ hG
    go_enter Try.func31, Try.ntmps31
    go_wp2_with fail
    refine HO.out.mono ?_
    rintro e w1 ⟨rfl, ⟨k, rfl⟩⟩
    go_wp2
    go_ret2
    exact ⟨by rw [HV.out.1, HV.out.2]; rfl, below_drewN hb _⟩
  rw [hv] at HO
  by_cases h1 : q.length = 12
  rotate_left
  · have HV := Lib.hid (yearL (q := q) (g := g) hv (fun h => h1 h.1))
    have e1 : ((q.length : Int) == 12) = false := by simp; omega
    have e1n : ((q.length : Int) != 12) = true := by simp; omega
    clear hv h1 h hid hQ hG
    go_enter Try.func31, Try.ntmps31
    go_wp2_with fail
    refine HO.out.mono ?_
    rintro e w1 ⟨rfl, ⟨k, rfl⟩⟩
    go_wp2
    go_ret2
    exact ⟨by rw [HV.out.1, HV.out.2]; rfl, below_drewN hb _⟩
  have e1 : ((q.length : Int) == 12) = true := by simp; omega
  have e1n : ((q.length : Int) != 12) = false := by simp; omega
  by_cases h2 : g.length = 12
  rotate_left
  · have HV := Lib.hid (yearL (q := q) (g := g) hv (fun h => h2 h.2))
    have e2 : ((g.length : Int) == 12) = false := by simp; omega
    have e2n : ((g.length : Int) != 12) = true := by simp; omega
    clear hv h1 h2 h hid hQ hG
    go_enter Try.func31, Try.ntmps31
    go_wp2_with fail
    refine HO.out.mono ?_
    rintro e w1 ⟨rfl, ⟨k, rfl⟩⟩
    go_wp2
    go_ret2
    exact ⟨by rw [HV.out.1, HV.out.2]; rfl, below_drewN hb _⟩
  have e2 : ((g.length : Int) == 12) = true := by simp; omega
  have e2n : ((g.length : Int) != 12) = false := by simp; omega
  have HVT := Lib.hid (yearT hv h1 h2)
  have HVF := Lib.hid (yearF hv h1 h2)
  have HL1 := Lib.hid h1
  have HL2 := Lib.hid h2
  have HOK := Lib.hid (netB_ok hv)
  have HH := Lib.hid h
  have HQ := Lib.hid hQ
  have HG := Lib.hid hG
  clear hv h1 h2 h hid hQ hG
  go_enter Try.func31, Try.ntmps31
  go_wp2_with fail
  refine HO.out.mono ?_
  rintro e w1 ⟨rfl, hd⟩
  have hN := hN.next (drawn_below hd)
  have hb := bnext hb (drawn_below hd)
  have HN := Lib.hid hN
  have HB1 := Lib.hid hb
  clear n0 n1 hd
  go_wp2_with fail
  clear hN hb
  go_loopw [8, 9] (fun v i wr => ∃ (j : Nat) (s : Int), j ≤ 12 ∧ i = .int .i64 j ∧ v = .int .i64 s ∧ Hid (s = 730 * yearTo ps q g j) ∧ Hid (∀ i, i < j → inB (q.getD i 0) (-5000) 20000 = true ∧ inB (g.getD i 0) (-5000) 20000 = true) ∧ Below w1.heap.size w1 wr) (fun _ i _ => 12 - (intOf i).toNat)
  case atStart => exact ⟨0, 0, by omega, rfl, rfl, Lib.hid rfl, Lib.hid (fun i hi => by omega), Below.refl _ _⟩
  case round =>
    obtain ⟨j, s, hj, rfl, rfl, HS, HA, hbr⟩ := hrel
    have hbd := yearTo_bd HOK.out.1 HOK.out.2 q g j (fun k hk => ⟨inB_iff.1 (HA.out k hk).1, inB_iff.1 (HA.out k hk).2⟩) j (Nat.le_refl _)
    have hs0 : -(18250000000014600 * (j : Int)) ≤ s ∧ s ≤ 18250000000014600 * j := by have := HS.out; omega
    clear hbd
    by_cases hlt : j < 12
    · have hjq : j < q.length := by have := HL1.out; omega
      have hjg : j < g.length := by have := HL2.out; omega
      have hb := bnext HB1.out hbr
      have hN := HN.out.next hbr
      obtain ⟨b, off, rfl, hrow⟩ := (HQ.out.next hb) (by rw [intsV_length]; omega)
      have p0 := hrow j (by rw [intsV_length]; exact hjq)
      rw [intsV_at _ _ hjq] at p0
      obtain ⟨b2, off2, rfl, hrow2⟩ := (HG.out.next hb) (by rw [intsV_length]; omega)
      have q0 := hrow2 j (by rw [intsV_length]; exact hjg)
      rw [intsV_at _ _ hjg] at q0
      have hgx : q.getD j 0 = q[j] := by rw [List.getD_eq_getElem?_getD, List.getElem?_eq_getElem hjq]; rfl
      have hgy : g.getD j 0 = g[j] := by rw [List.getD_eq_getElem?_getD, List.getElem?_eq_getElem hjg]; rfl
      rw [← hgx] at p0
      rw [← hgy] at q0
      have H1 := Lib.hid (fun wx => l03Degrees_any (q.getD j 0) wx)
      have H2 := Lib.hid (fun wx => l03Degrees_any (g.getD j 0) wx)
      have HF := Lib.hid (HVF.out j hlt)
      have hY : yearTo ps q g (j + 1) = yearTo ps q g j + sumW ps (q.getD j 0) (g.getD j 0) := rfl
      have HAN : Hid (inB (q.getD j 0) (-5000) 20000 = true ∧ inB (g.getD j 0) (-5000) 20000 = true → ∀ i, i < j + 1 → inB (q.getD i 0) (-5000) 20000 = true ∧ inB (g.getD i 0) (-5000) 20000 = true) := Lib.hid (fun h i hi => by
        by_cases hij : i < j
        · exact HA.out i hij
        · obtain rfl : i = j := by omega
          exact h)
      have HY := Lib.hid hY
      clear hrow hrow2 hgx hgy hY
      generalize q.getD j 0 = x at *
      generalize g.getD j 0 = y at *
      by_cases hx : inB x (-5000) 20000 = true
      rotate_left
      · have hV := HF.out (fun h => hx h.1)
        have hx : inB x (-5000) 20000 = false := by simpa only [Bool.not_eq_true] using hx
        have HV := Lib.hid hV
        rw [hx] at H1
        clear hx hV
        go_wp2_with fail
        refine (H1.out _).mono ?_
        rintro e w' ⟨rfl, rfl⟩
        go_wp2
        go_ret2
        exact ⟨by rw [HV.out.1, HV.out.2]; rfl, hb⟩
      by_cases hy : inB y (-5000) 20000 = true
      rotate_left
      · have hV := HF.out (fun h => hy h.2)
        have hy : inB y (-5000) 20000 = false := by simpa only [Bool.not_eq_true] using hy
        have HV := Lib.hid hV
        rw [hx] at H1
        rw [hy] at H2
        clear hx hy hV
        go_wp2_with fail
        refine (H1.out _).mono ?_
        rintro e w' ⟨rfl, rfl⟩
        go_wp2_with fail
        refine (H2.out _).mono ?_
        rintro e w' ⟨rfl, rfl⟩
        go_wp2
        go_ret2
        exact ⟨by rw [HV.out.1, HV.out.2]; rfl, hb⟩
      have hAN := HAN.out ⟨hx, hy⟩
      have HAN2 := Lib.hid hAN
      have bx := inB_iff.1 hx
      have by' := inB_iff.1 hy
      rw [hx] at H1
      rw [hy] at H2
      have hsw := sumW_bd HOK.out.1 HOK.out.2 x y bx.1 bx.2 by'.1 by'.2 ps.length
      rw [sumW_all] at hsw
      have HSM := Lib.hid (fun wx (hx : NetAt wx w.heap.size A z.length cA B ps.length d) (hbx : Below w.heap.size w wx) => l10Sum_any w.heap.size A z.length cA B d ps x y wx hx (HH.out.next hbx).2 HOK.out.1 HOK.out.2 bx.1 bx.2 by'.1 by'.2)
      generalize sumW ps x y = u at *
      have HS2 : Hid (s + u * 730 = 730 * yearTo ps q g (j + 1)) := Lib.hid (by rw [HY.out, HS.out]; omega)
      clear hx hy hAN bx by' HAN HF HVF HY
      go_wp2_with fail
      refine (H1.out _).mono ?_
      rintro e w' ⟨rfl, rfl⟩
      go_wp2_with fail
      refine (H2.out _).mono ?_
      rintro e w' ⟨rfl, rfl⟩
      go_wp2
      go_quiet ((go_at_call 68; exact quiet_drawn (HSM.out _ (hN.next (below_drewN (Below.refl _ _) _)) (bnext hb (below_drewN (Below.refl _ _) _)))))
      go_wp2
      go_roundw
      case rel => exact ⟨j + 1, s + u * 730, by omega, by go_num, by go_num, HS2, HAN2, below_drewN hbr _⟩
      case measure => simp [intOf]; omega
    · obtain rfl : j = 12 := by omega
      have HV := Lib.hid (HVT.out HA.out)
      have HB2 := Lib.hid (bnext HB1.out hbr)
      have HD := Lib.hid (fun wx => l01Div_any s 1000 wx (by omega) (by omega) (by omega) (by omega) (by omega))
      rw [← HS.out] at HV
      clear hbr
      go_wp2_with fail
      refine (HD.out _).mono ?_
      rintro e w' ⟨rfl, rfl⟩
      go_wp2
      go_ret2
      exact ⟨by rw [HV.out.1, HV.out.2]; rfl, HB2.out⟩

end Go.Proofs.Ytgdafgnjaogmeaa
