import Derived.Test.YtgdafgnjaogmeaaKa1
import Derived.Test.YtgdafgnjaogmeaaM2
/-
  NetworkLoss of both sides.
-/
namespace Go.Proofs.Ytgdafgnjaogmeaa
open Go.ChangeShapes Go.WideShapes Go.ChangeAt Go.RowKit Go.Shelf
set_option linter.unusedSimpArgs false
set_option maxRecDepth 100000
set_option maxHeartbeats 1600000
set_option linter.unusedVariables false


def climB (a c : Int) : Bool := inB a (-5000) 20000 && inB c (-5000) 20000
theorem climB_iff {a c : Int} : climB a c = true ↔ (-5000 ≤ a ∧ a ≤ 20000) ∧ (-5000 ≤ c ∧ c ≤ 20000) := by unfold climB; rw [Bool.and_eq_true, inB_iff, inB_iff]
def netLossC (z : List Int) (ps : List Pp) (a c : Int) : Int := argC (netB z ps) (climB a c)
def netLossV (z : List Int) (ps : List Pp) (a c : Int) : Int := if netLossC z ps a c = 0 then sumW ps a c else 0
/-- the ways of a code: not valid, not in range, neither -/
theorem argC_ways (v r : Bool) : (v = false ∧ argC v r = 1) ∨ (v = true ∧ r = false ∧ argC v r = 2) ∨ (v = true ∧ r = true ∧ argC v r = 0) := by
  cases v <;> cases r <;> simp [argC]
theorem specNetworkLoss_any (A B : Option Addr) (cA d : Nat) (z : List Int) (ps : List Pp) (a c : Int) (w : World) (h : NetCells w A z B ps) (hn : z.length ≤ 1048576) (hm : ps.length ≤ 1048576) (hid : ∀ p ∈ ps, p.id.size ≤ maxLen) :
    Calls Try.prog 21 #[.agg #[.slice A z.length cA, .slice B ps.length d], .int .i64 a, .int .i64 c] w fun e w' => e = .returned (.tuple #[.int .i64 (netLossV z ps a c), .int .i64 (netLossC z ps a c)]) ∧ Below w.heap.size w w' := by
  have hN := NetAt.new w A z.length cA B ps.length d 40
  have hb : Below w.heap.size w (w.alloc (.cells #[.slice A z.length cA, .slice B ps.length d] 40)) := bal (Below.refl _ _) _
  have HO := Lib.hid (l04Ok_any w.heap.size A z.length cA B ps.length d z ps _ hN rfl rfl hn hm (h.next hb).1 (h.next hb).2 hid)
  have ⟨n0, n1⟩ := hN
  have H1 := Lib.hid (fun wx => l03Degrees_any a wx)
  have H2 := Lib.hid (fun wx => l03Degrees_any c wx)
  rcases argC_ways (netB z ps) (climB a c) with ⟨hv, hc⟩ | ⟨hv, hr, hc⟩ | ⟨hv, hr, hc⟩
  · have HV : Hid (netLossV z ps a c = 0 ∧ netLossC z ps a c = 1) := Lib.hid ⟨by unfold netLossV netLossC; rw [hc]; rfl, by unfold netLossC; rw [hc]⟩
    rw [hv] at HO
    clear hv hc h hid
    go_enter Try.func21, Try.ntmps21
    go_wp2_with fail
    refine HO.out.mono ?_
    rintro e w1 ⟨rfl, ⟨k, rfl⟩⟩
    go_wp2
    go_ret2
    exact ⟨by rw [HV.out.1, HV.out.2]; rfl, below_drewN hb _⟩
  · have HV : Hid (netLossV z ps a c = 0 ∧ netLossC z ps a c = 2) := Lib.hid ⟨by unfold netLossV netLossC; rw [hc]; rfl, by unfold netLossC; rw [hc]⟩
    rw [hv] at HO
    unfold climB at hr
    clear hv hc h hid
    by_cases ha : inB a (-5000) 20000 = true
    · have hc2 : inB c (-5000) 20000 = false := by rw [ha, Bool.true_and] at hr; exact hr
      rw [ha] at H1
      rw [hc2] at H2
      clear hr ha hc2
      go_enter Try.func21, Try.ntmps21
      go_wp2_with fail
      refine HO.out.mono ?_
      rintro e w1 ⟨rfl, ⟨k, rfl⟩⟩
      go_wp2_with fail
      refine (H1.out _).mono ?_
      rintro e w1 ⟨rfl, rfl⟩
      go_wp2_with fail
      refine (H2.out _).mono ?_
      rintro e w1 ⟨rfl, rfl⟩
      go_wp2
      go_ret2
      exact ⟨by rw [HV.out.1, HV.out.2]; rfl, below_drewN hb _⟩
    · have ha : inB a (-5000) 20000 = false := by simpa only [Bool.not_eq_true] using ha
      rw [ha] at H1
      clear hr ha
      go_enter Try.func21, Try.ntmps21
      go_wp2_with fail
      refine HO.out.mono ?_
      rintro e w1 ⟨rfl, ⟨k, rfl⟩⟩
      go_wp2_with fail
      refine (H1.out _).mono ?_
      rintro e w1 ⟨rfl, rfl⟩
      go_wp2
      go_ret2
      exact ⟨by rw [HV.out.1, HV.out.2]; rfl, below_drewN hb _⟩
  · have HV : Hid (netLossV z ps a c = sumW ps a c ∧ netLossC z ps a c = 0) := Lib.hid ⟨by unfold netLossV netLossC; rw [hc]; rfl, by unfold netLossC; rw [hc]⟩
    rw [hv] at HO
    obtain ⟨ha, hc2⟩ := climB_iff.1 hr
    rw [inB_true ha] at H1
    rw [inB_true hc2] at H2
    have HS := Lib.hid (fun wx (hx : NetAt wx w.heap.size A z.length cA B ps.length d) (hbx : Below w.heap.size w wx) => l10Sum_any w.heap.size A z.length cA B d ps a c wx hx (h.next hbx).2 (netB_ok hv).1 (netB_ok hv).2 ha.1 ha.2 hc2.1 hc2.2)
    generalize sumW ps a c = s at *
    clear hv hr hc h hid ha hc2
    go_enter Try.func21, Try.ntmps21
    go_wp2_with fail
    refine HO.out.mono ?_
    rintro e w1 ⟨rfl, hd⟩
    have hN := hN.next (drawn_below hd)
    have hb := bnext hb (drawn_below hd)
    obtain ⟨k, rfl⟩ := hd
    go_wp2_with fail
    refine (H1.out _).mono ?_
    rintro e w1 ⟨rfl, rfl⟩
    go_wp2_with fail
    refine (H2.out _).mono ?_
    rintro e w1 ⟨rfl, rfl⟩
    go_wp2_with fail
    refine (HS.out _ hN hb).mono ?_
    rintro e w1 ⟨rfl, hd2⟩
    have hb := bnext hb (drawn_below hd2)
    go_wp2
    go_ret2
    exact ⟨by rw [HV.out.1, HV.out.2]; rfl, hb⟩
theorem implNetworkLoss_any (A B : Option Addr) (cA d : Nat) (z : List Int) (ps : List Pp) (a c : Int) (w : World) (h : NetCells w A z B ps) (hn : z.length ≤ 1048576) (hm : ps.length ≤ 1048576) (hid : ∀ p ∈ ps, p.id.size ≤ maxLen) :
    Calls Try.prog 23 #[.agg #[.slice A z.length cA, .slice B ps.length d], .int .i64 a, .int .i64 c] w fun e w' => e = .returned (.tuple #[.int .i64 (netLossV z ps a c), .int .i64 (netLossC z ps a c)]) ∧ Below w.heap.size w w' := by
  have hN := NetAt.new w A z.length cA B ps.length d 40
  have hN := hN.next (bal (Below.refl _ _) (.cells #[.int .i64 a, .int .i64 c] 87))
  have hCl : Two ((w.alloc (.cells #[.slice A z.length cA, .slice B ps.length d] 40)).alloc (.cells #[.int .i64 a, .int .i64 c] 87)) (w.heap.size + 1) (.int .i64 a) (.int .i64 c) := by have := Two.new (w.alloc (.cells #[.slice A z.length cA, .slice B ps.length d] 40)) (.int .i64 a) (.int .i64 c) 87; simpa using this
  have hb : Below w.heap.size w ((w.alloc (.cells #[.slice A z.length cA, .slice B ps.length d] 40)).alloc (.cells #[.int .i64 a, .int .i64 c] 87)) := bal (bal (Below.refl _ _) _) _
  have HCO := Lib.hid (fun wx (hbx : Below w.heap.size w wx) => code_any A B cA d z ps (climB a c) wx (h.next hbx) hn hm hid)
  have HCL : Hid (∀ wx, Calls Try.prog 71 #[.agg #[.int .i64 a, .int .i64 c]] wx fun e w' => e = .returned (.bool (climB a c)) ∧ Below wx.heap.size wx w') := Lib.hid (fun wx => climate_any a c wx)
  have HW : Hid (argC (netB z ps) (climB a c) = 0 → ∀ wx, Below w.heap.size w wx → Calls Try.prog 73 #[.agg #[.int .i64 a, .int .i64 c], .agg #[.slice A z.length cA, .slice B ps.length d]] wx (RetRow 2 (intsV (ps.map (lossW a c))) wx)) := Lib.hid (fun h0 wx hbx => by
    rcases argC_ways (netB z ps) (climB a c) with ⟨hv, hc⟩ | ⟨hv, hr, hc⟩ | ⟨hv, hr, hc⟩
    · omega
    · omega
    · obtain ⟨ha, hc2⟩ := climB_iff.1 hr
      exact losses_any A B cA d z ps a c wx (h.next hbx).2 (netB_ok hv).1 (netB_ok hv).2 ha.1 ha.2 hc2.1 hc2.2)
  have HSU : Hid (argC (netB z ps) (climB a c) = 0 → ∀ (T : Option Addr) (td : Nat) wx, CellsAt wx T (intsV (ps.map (lossW a c))) → Calls Try.prog 72 #[.slice T ps.length td] wx fun e w' => e = .returned (.int .i64 (sumW ps a c)) ∧ Drawn wx w') := Lib.hid (fun h0 T td wx hx => by
    rcases argC_ways (netB z ps) (climB a c) with ⟨hv, hc⟩ | ⟨hv, hr, hc⟩ | ⟨hv, hr, hc⟩
    · omega
    · omega
    · obtain ⟨ha, hc2⟩ := climB_iff.1 hr
      refine sumOf_any T ps.length td (ps.map (lossW a c)) 25000000000020 wx (List.length_map _) (by rw [List.length_map]; omega) hx (by omega) (fun k => ?_)
      rw [← List.map_take]
      exact sumW_bd (netB_ok hv).1 (netB_ok hv).2 a c ha.1 ha.2 hc2.1 hc2.2 k)
  have HV : Hid (netLossV z ps a c = if argC (netB z ps) (climB a c) = 0 then sumW ps a c else 0) := Lib.hid rfl
  have HV2 : Hid (netLossC z ps a c = argC (netB z ps) (climB a c)) := Lib.hid rfl
  generalize argC (netB z ps) (climB a c) = code at *
  generalize climB a c = cl at *
  clear h hid
  by_cases h0 : code = 0
  · subst h0
    have HW1 : Hid (∀ wx, Below w.heap.size w wx → Calls Try.prog 73 #[.agg #[.int .i64 a, .int .i64 c], .agg #[.slice A z.length cA, .slice B ps.length d]] wx (RetRow 2 (intsV (ps.map (lossW a c))) wx)) := Lib.hid (HW.out rfl)
    have HSU1 : Hid (∀ (T : Option Addr) (td : Nat) wx, CellsAt wx T (intsV (ps.map (lossW a c))) → Calls Try.prog 72 #[.slice T ps.length td] wx fun e w' => e = .returned (.int .i64 (sumW ps a c)) ∧ Drawn wx w') := Lib.hid (HSU.out rfl)
    clear HW HSU
    have HE : Hid (netLossV z ps a c = sumW ps a c) := Lib.hid (by rw [HV.out, if_pos rfl])
    generalize sumW ps a c = s at *
    have ⟨n0, n1⟩ := hN
    have ⟨c0, c1, f0, f1⟩ := hCl
    go_enter Try.func23, Try.ntmps23
    go_wp2_with fail
    have hb : Below w.heap.size w ((w.alloc (.cells #[.slice A z.length cA, .slice B ps.length d] 40)).alloc (.cells #[.int .i64 a, .int .i64 c] 87)).drew := below_drewN hb 1
    have hN : NetAt ((w.alloc (.cells #[.slice A z.length cA, .slice B ps.length d] 40)).alloc (.cells #[.int .i64 a, .int .i64 c] 87)).drew w.heap.size A z.length cA B ps.length d := hN
    have hCl : Two ((w.alloc (.cells #[.slice A z.length cA, .slice B ps.length d] 40)).alloc (.cells #[.int .i64 a, .int .i64 c] 87)).drew (w.heap.size + 1) (.int .i64 a) (.int .i64 c) := hCl
    have ⟨n0, n1⟩ := hN
    have ⟨c0, c1, f0, f1⟩ := hCl
    go_region_held3 (fun w' => w'.cell? ⟨w.heap.size, 0, none⟩ = some (.slice A z.length cA) ∧ w'.cell? ⟨w.heap.size, 1, none⟩ = some (.slice B ps.length d) ∧ w'.cell? ⟨w.heap.size + 1, 0, none⟩ = some (.int .i64 a) ∧ w'.cell? ⟨w.heap.size + 1, 1, none⟩ = some (.int .i64 c)) (exact ⟨n0, n1, c0, c1⟩) (first | (go_at_call 71; refine (HCL.out _).mono ?_; rintro e w' ⟨rfl, hb'⟩; have hb := bnext hb hb'; have hN := hN.next hb'; have hCl := hCl.next hb'; have ⟨n0, n1⟩ := hN; have ⟨c0, c1, f0, f1⟩ := hCl) | (go_at_call 70; refine (HCO.out _ hb).mono ?_; rintro e w' ⟨rfl, hb'⟩; have hb := bnext hb hb'; have hN := hN.next hb'; have hCl := hCl.next hb'; have ⟨n0, n1⟩ := hN; have ⟨c0, c1, f0, f1⟩ := hCl))
    go_wp2_with fail
    refine (HW1.out _ hb).mono ?_
    rintro e w3 hq
    obtain ⟨T, td, rfl, ho, hbs⟩ := retInts_of hq
    have hb := bnext hb hbs
    have hcs := owns_cells ho
    rw [List.length_map] at ho ⊢
    clear hq ho hbs
    go_wp2_with fail
    refine (HSU1.out T td _ hcs).mono ?_
    rintro e w4 ⟨rfl, hd⟩
    have hb := bnext hb (drawn_below hd)
    clear hd hcs
    go_wp2
    go_ret2
    exact ⟨by rw [HE.out, HV2.out]; rfl, hb⟩
  · have h0' : (code == 0) = false := by simpa using h0
    have h0n : (code != 0) = true := by simpa using h0
    have HE : Hid (netLossV z ps a c = 0) := Lib.hid (by rw [HV.out, if_neg h0])
    have ⟨n0, n1⟩ := hN
    have ⟨c0, c1, f0, f1⟩ := hCl
    clear h0 HW HSU HV
    go_enter Try.func23, Try.ntmps23
    go_wp2_with fail
    have hb : Below w.heap.size w ((w.alloc (.cells #[.slice A z.length cA, .slice B ps.length d] 40)).alloc (.cells #[.int .i64 a, .int .i64 c] 87)).drew := below_drewN hb 1
    have hN : NetAt ((w.alloc (.cells #[.slice A z.length cA, .slice B ps.length d] 40)).alloc (.cells #[.int .i64 a, .int .i64 c] 87)).drew w.heap.size A z.length cA B ps.length d := hN
    have hCl : Two ((w.alloc (.cells #[.slice A z.length cA, .slice B ps.length d] 40)).alloc (.cells #[.int .i64 a, .int .i64 c] 87)).drew (w.heap.size + 1) (.int .i64 a) (.int .i64 c) := hCl
    have ⟨n0, n1⟩ := hN
    have ⟨c0, c1, f0, f1⟩ := hCl
    go_region_held3 (fun w' => w'.cell? ⟨w.heap.size, 0, none⟩ = some (.slice A z.length cA) ∧ w'.cell? ⟨w.heap.size, 1, none⟩ = some (.slice B ps.length d) ∧ w'.cell? ⟨w.heap.size + 1, 0, none⟩ = some (.int .i64 a) ∧ w'.cell? ⟨w.heap.size + 1, 1, none⟩ = some (.int .i64 c)) (exact ⟨n0, n1, c0, c1⟩) (first | (go_at_call 71; refine (HCL.out _).mono ?_; rintro e w' ⟨rfl, hb'⟩; have hb := bnext hb hb'; have hN := hN.next hb'; have hCl := hCl.next hb'; have ⟨n0, n1⟩ := hN; have ⟨c0, c1, f0, f1⟩ := hCl) | (go_at_call 70; refine (HCO.out _ hb).mono ?_; rintro e w' ⟨rfl, hb'⟩; have hb := bnext hb hb'; have hN := hN.next hb'; have hCl := hCl.next hb'; have ⟨n0, n1⟩ := hN; have ⟨c0, c1, f0, f1⟩ := hCl))
    go_wp2
    go_ret2
    exact ⟨by rw [HE.out, HV2.out]; rfl, hb⟩

end Go.Proofs.Ytgdafgnjaogmeaa
