/-
  StillPressure of the model.
-/
import Derived.Test.YtdaedgdglammhaaCp0
import Derived.Test.YtdaedgdglammhaaH4
import Derived.Test.YtdaedgdglammhaaP1
import Derived.BigQuiet
namespace Go.Proofs.Ytdaedgdglammhaa
open Go.ChangeShapes Go.WideShapes Go.ChangeAt Go.RowKit Go.Shelf

set_option linter.unusedVariables false
set_option maxRecDepth 100000
set_option maxHeartbeats 4000000
theorem l04NodeQ_any (bn : Nat) (A : Option Addr) (n c : Nat) (B : Option Addr) (m d : Nat) (node : Int) (w : World) (hN : NetAt w bn A n c B m d) (hn : n ≤ 1048576) :
    Calls Try.prog 132 #[.pointer (some ⟨bn, 0, none⟩), .int .i64 node] w fun e w' => e = .returned (.bool (inB node 0 ((n : Int) - 1))) ∧ w = w' := by
  obtain ⟨n0, n1⟩ := hN
  go_enter Try.func132, Try.ntmps132
  go_wp2_with fail
  refine (in_any node 0 ((n : Int) - 1) _).mono ?_
  rintro e w' ⟨rfl, rfl⟩
  go_wp2
  go_ret
  exact ⟨rfl, rfl⟩
theorem l07AskQ_any (bn : Nat) (A B : Option Addr) (c d : Nat) (z : List Int) (ps : List Pp) (node : Int) (w : World) (hN : NetAt w bn A z.length c B ps.length d) (h : NetCells w A z B ps) (hn : z.length ≤ 1048576) (hm : ps.length ≤ 1048576) (hid : ∀ p ∈ ps, p.id.size ≤ maxLen) :
    Calls Try.prog 93 #[.pointer (some ⟨bn, 0, none⟩), .int .i64 node] w fun e w' => e = .returned (.int .i64 (argC (netB z ps) (inB node 0 ((z.length : Int) - 1)))) ∧ Drawn w w' := by
  have HV := Lib.hid (l04Ok_any bn A z.length c B ps.length d z ps _ hN rfl rfl hn hm h.1 h.2 hid)
  have HR := Lib.hid (fun wx (hx : NetAt wx bn A z.length c B ps.length d) => l04NodeQ_any bn A z.length c B ps.length d node wx hx hn)
  have HN := Lib.hid (fun wx (hx : Drawn w wx) => hN.next (drawn_below hx))
  clear hN h hid
  unfold argC
  generalize netB z ps = vv at *
  generalize inB node 0 ((z.length : Int) - 1) = rr at *
  cases vv with
  | false =>
    rw [if_neg (by simp)]
    go_enter Try.func93, Try.ntmps93
    go_wp2_with fail
    refine HV.out.mono ?_
    rintro e w1 ⟨rfl, hd⟩
    go_wp2
    go_ret
    exact ⟨rfl, hd⟩
  | true =>
    rw [if_pos rfl]
    cases rr with
    | false =>
      rw [if_neg (by simp)]
      go_enter Try.func93, Try.ntmps93
      go_wp2_with fail
      refine HV.out.mono ?_
      rintro e w1 ⟨rfl, hd⟩
      have HR2 := HR.out _ (HN.out _ hd)
      go_wp2_with fail
      refine HR2.mono ?_
      rintro e w' ⟨rfl, rfl⟩
      go_wp2
      go_ret
      exact ⟨rfl, hd⟩
    | true =>
      rw [if_pos rfl]
      go_enter Try.func93, Try.ntmps93
      go_wp2_with fail
      refine HV.out.mono ?_
      rintro e w1 ⟨rfl, hd⟩
      have HR2 := HR.out _ (HN.out _ hd)
      go_wp2_with fail
      refine HR2.mono ?_
      rintro e w' ⟨rfl, rfl⟩
      go_wp2
      go_ret
      exact ⟨rfl, hd⟩

theorem l07Static_any' (lo hi : Int) (w : World) (x0 : -1000000 ≤ hi - lo) (x1 : hi - lo ≤ 1000000) :
    Calls Try.prog 96 #[.int .i64 lo, .int .i64 hi] w fun e w' => e = .returned (.int .i64 (nearI (981 * (hi - lo)) 10)) ∧ w = w' := by
  go_enter Try.func96, Try.ntmps96
  go_wp2_with ((go_at_call 134; refine (l01Div_any _ _ _ (by omega) (by omega) (by omega) (by omega) (by omega)).mono ?_; rintro e w' ⟨rfl, rfl⟩))
  go_ret
  exact ⟨rfl, rfl⟩

theorem specStillPressure_any (A B : Option Addr) (cA d : Nat) (z : List Int) (ps : List Pp) (s t m : Int) (w : World) (h : NetCells w A z B ps) (hn : z.length ≤ 1048576) (hm : ps.length ≤ 1048576) (hid : ∀ p ∈ ps, p.id.size ≤ maxLen) :
    Calls Try.prog 37 #[.agg #[.slice A z.length cA, .slice B ps.length d], .int .i64 s, .int .i64 t, .int .i64 m] w (fun e w' => e = .returned (.tuple #[.int .i64 (stillV z ps s t m), .int .i64 (stillC z ps s t m)]) ∧ Below w.heap.size w w') := by
  have hN := NetAt.new w A z.length cA B ps.length d 38
  have ⟨n0, n1⟩ := hN
  have hb : Below w.heap.size w (w.alloc (.cells #[.slice A z.length cA, .slice B ps.length d] 38)) := bal (Below.refl _ _) _
  have HQ := Lib.hid (l07AskQ_any w.heap.size A B cA d z ps s _ hN (h.next hb) hn hm hid)
  by_cases hv : netB z ps = true
  rotate_left
  · have hv' : netB z ps = false := by simpa using hv
    rw [(still_no z ps s t m hv').1, (still_no z ps s t m hv').2]
    have HQ := Lib.hid (by have k := HQ.out; rw [hv'] at k; exact k)
    clear hv hv' hN h
    go_enter Try.func37, Try.ntmps37
    go_wp2_with (first | (go_at_call 93; refine HQ.out.mono ?_; rintro e w' ⟨rfl, hd'⟩; have hb' := drawn_below hd'; have n0 := (hb'.cell (World.block_lt_of_cell? _ _ n0)).trans n0; have n1 := (hb'.cell (World.block_lt_of_cell? _ _ n1)).trans n1; have hb := bnext hb hb'; clear hb'; clear hd') | (go_at_call 94; refine (l11Warm_any _ _).mono ?_; rintro e w' ⟨rfl, rfl⟩) | (go_at_call 78; refine (l11Margin_any _ _).mono ?_; rintro e w' ⟨rfl, rfl⟩))
    go_ret2
    exact ⟨rfl, hb⟩
  by_cases h1 : inB s 0 ((z.length : Int) - 1) = true
  rotate_left
  · have h1' : inB s 0 ((z.length : Int) - 1) = false := by simpa using h1
    have hr : rstB z s t m = false := by unfold rstB; rw [h1']; rfl
    rw [(still_bad z ps s t m hr).1, (still_bad z ps s t m hr).2, hv]
    have HQ := Lib.hid (by have k := HQ.out; rw [hv, h1'] at k; exact k)
    clear hv hr h1 h1' hN h
    go_enter Try.func37, Try.ntmps37
    go_wp2_with (first | (go_at_call 93; refine HQ.out.mono ?_; rintro e w' ⟨rfl, hd'⟩; have hb' := drawn_below hd'; have n0 := (hb'.cell (World.block_lt_of_cell? _ _ n0)).trans n0; have n1 := (hb'.cell (World.block_lt_of_cell? _ _ n1)).trans n1; have hb := bnext hb hb'; clear hb'; clear hd') | (go_at_call 94; refine (l11Warm_any _ _).mono ?_; rintro e w' ⟨rfl, rfl⟩) | (go_at_call 78; refine (l11Margin_any _ _).mono ?_; rintro e w' ⟨rfl, rfl⟩))
    go_ret2
    exact ⟨rfl, hb⟩
  have HQ := Lib.hid (by have k := HQ.out; rw [hv, h1] at k; exact k)
  by_cases h3 : inB t 0 18000 = true
  rotate_left
  · have h3' : inB t 0 18000 = false := by simpa using h3
    have hr : rstB z s t m = false := by unfold rstB; rw [h3', Bool.and_false, Bool.and_false]
    rw [(still_bad z ps s t m hr).1, (still_bad z ps s t m hr).2, hv]
    clear hv hr h1 hN h
    go_enter Try.func37, Try.ntmps37
    go_wp2_with (first | (go_at_call 93; refine HQ.out.mono ?_; rintro e w' ⟨rfl, hd'⟩; have hb' := drawn_below hd'; have n0 := (hb'.cell (World.block_lt_of_cell? _ _ n0)).trans n0; have n1 := (hb'.cell (World.block_lt_of_cell? _ _ n1)).trans n1; have hb := bnext hb hb'; clear hb'; clear hd') | (go_at_call 94; refine (l11Warm_any _ _).mono ?_; rintro e w' ⟨rfl, rfl⟩) | (go_at_call 78; refine (l11Margin_any _ _).mono ?_; rintro e w' ⟨rfl, rfl⟩))
    go_ret2
    exact ⟨rfl, hb⟩
  by_cases h2 : inB m 0 1000000 = true
  rotate_left
  · have h2' : inB m 0 1000000 = false := by simpa using h2
    have hr : rstB z s t m = false := by unfold rstB; rw [h2', Bool.false_and, Bool.and_false]
    rw [(still_bad z ps s t m hr).1, (still_bad z ps s t m hr).2, hv]
    clear hv hr h1 hN h
    go_enter Try.func37, Try.ntmps37
    go_wp2_with (first | (go_at_call 93; refine HQ.out.mono ?_; rintro e w' ⟨rfl, hd'⟩; have hb' := drawn_below hd'; have n0 := (hb'.cell (World.block_lt_of_cell? _ _ n0)).trans n0; have n1 := (hb'.cell (World.block_lt_of_cell? _ _ n1)).trans n1; have hb := bnext hb hb'; clear hb'; clear hd') | (go_at_call 94; refine (l11Warm_any _ _).mono ?_; rintro e w' ⟨rfl, rfl⟩) | (go_at_call 78; refine (l11Margin_any _ _).mono ?_; rintro e w' ⟨rfl, rfl⟩))
    go_ret2
    exact ⟨rfl, hb⟩
  have hr : rstB z s t m = true := by unfold rstB; rw [h1, h2, h3]; rfl
  rw [(still_ok z ps s t m hv hr).1, (still_ok z ps s t m hv hr).2]
  have q1 := inB_iff.1 h1
  have q2 := inB_iff.1 h2
  have q3 := inB_iff.1 h3
  obtain ⟨hz1, hall, -⟩ := netB_parts hv
  have hsn : s.toNat < z.length := by omega
  have h0n : 0 < z.length := by omega
  have HA := Lib.hid h.1
  have HST := Lib.hid (fun W => l11Steam_any t W q3.2)
  have ks := stm_bd t
  have HALL := Lib.hid hall
  have bM := maxTo_bd (f := fun k => z.getD k 0) (lo := -100000) (hi := 100000) (k := z.length - 1) (fun j hj => allIn_one' hall (show j < z.length by omega))
  have bS := allIn_one' hall hsn
  have HL7 := Lib.hid (fun W => l07Static_any' (z.getD s.toNat 0) (maxTo (fun k => z.getD k 0) (z.length - 1)) W (by omega) (by omega))
  have hrp : nearI (981 * (maxTo (fun k => z.getD k 0) (z.length - 1) - z.getD s.toNat 0)) 10 = riseP z s := rfl
  have kr := nearI_lim (981 * (maxTo (fun k => z.getD k 0) (z.length - 1) - z.getD s.toNat 0)) 10 1000000000 (by omega) (by omega) (by omega)
  rw [hrp] at HL7 kr
  obtain ⟨bz, oz, rfl, qz⟩ := intsCell h.1 hsn
  obtain ⟨bz', oz', e', q0⟩ := intsCell h.1 h0n
  have e3 : bz = bz' ∧ oz = oz' := by simp at e'; exact e'
  obtain ⟨e4, e5⟩ := e3
  subst e4
  subst e5
  have QZ := Lib.hid qz
  have q0 : w.cell? ⟨bz, oz, none⟩ = some (.int .i64 (z.getD 0 0)) := q0
  have Q0 := Lib.hid q0
  have hs1 : s < ((z.length : Nat) : Int) := by omega
  have hz0 : (0 : Int) < ((z.length : Nat) : Int) := by omega
  have E0 : z.getD 0 0 = maxTo (fun k => z.getD k 0) (1 - 1) := rfl
  clear hrp h1 hr hv hall hN h e' q0 qz
  generalize riseP z s = rp at *
  generalize stmI t = st at *
  generalize hx0 : z.getD 0 0 = x0 at *
  have E1 := Lib.hid E0
  clear hx0 E0
  have EM : ∃ mx, mx = maxTo (fun k => z.getD k 0) (z.length - 1) := ⟨_, rfl⟩
  obtain ⟨mx, hmx⟩ := EM
  rw [← hmx] at HL7 bM
  have HM := Lib.hid hmx
  clear hmx
  go_enter Try.func37, Try.ntmps37
  have q0 := (hb.cell (World.block_lt_of_cell? _ _ Q0.out)).trans Q0.out
  go_wp2_with (first | (go_at_call 93; refine HQ.out.mono ?_; rintro e w' ⟨rfl, hd'⟩; have hb' := drawn_below hd'; have q0 := (hb'.cell (World.block_lt_of_cell? _ _ q0)).trans q0; have n0 := (hb'.cell (World.block_lt_of_cell? _ _ n0)).trans n0; have n1 := (hb'.cell (World.block_lt_of_cell? _ _ n1)).trans n1; have hb := bnext hb hb'; clear hb'; clear hd') | (go_at_call 94; refine (l11Warm_any _ _).mono ?_; rintro e w' ⟨rfl, rfl⟩) | (go_at_call 78; refine (l11Margin_any _ _).mono ?_; rintro e w' ⟨rfl, rfl⟩))
  go_loopw [11, 12] (fun v i wr => ∃ (k : Nat) (u : Int), 1 ≤ k ∧ k ≤ z.length ∧ i = .int .i64 k ∧ v = .int .i64 u ∧ wr.cell? ⟨w.heap.size, 0, none⟩ = some (.slice (some ⟨bz, oz, none⟩) z.length cA) ∧ wr.cell? ⟨w.heap.size, 1, none⟩ = some (.slice B ps.length d) ∧ Below w.heap.size w wr ∧ Hid (u = maxTo (fun k => z.getD k 0) (k - 1))) (fun _ i _ => z.length - (intOf i).toNat)
  case atStart => exact ⟨1, _, Nat.le_refl _, by omega, rfl, rfl, n0, n1, by assumption, E1⟩
  case round =>
    clear n0 n1
    obtain ⟨k, u, k0, hk, rfl, rfl, n0, n1, hb, U⟩ := hrel
    by_cases hlt : k < z.length
    · obtain ⟨bz', oz', e', q1⟩ := intsCell (HA.out.next hb) hlt
      have e3 : bz = bz' ∧ oz = oz' := by simp at e'; exact e'
      obtain ⟨e4, e5⟩ := e3
      subst e4
      subst e5
      have hk1 : (k : Int) < ((z.length : Nat) : Int) := by omega
      have UN : Hid (max u (z.getD k 0) = maxTo (fun k => z.getD k 0) (k + 1 - 1)) := Lib.hid (by
        obtain ⟨j, rfl⟩ : ∃ j, k = j + 1 := ⟨k - 1, by omega⟩
        have a1 := U.out
        rw [show j + 1 - 1 = j from rfl] at a1
        show max u (z.getD (j + 1) 0) = max (maxTo (fun k => z.getD k 0) j) (z.getD (j + 1) 0)
        rw [a1])
      generalize z.getD k 0 = y1 at *
      clear e'
      go_wp2_with ((go_at_call 95; refine (l00Max_any _ _ _).mono ?_; rintro e w' ⟨rfl, rfl⟩))
      go_roundw
      case rel => exact ⟨k + 1, _, by omega, by omega, by go_num, rfl, n0, n1, hb, UN⟩
      case measure => simp [intOf]; omega
    · have he : k = z.length := by omega
      subst he
      obtain rfl : u = mx := U.out.trans HM.out.symm
      have qz := (hb.cell (World.block_lt_of_cell? _ _ QZ.out)).trans QZ.out
      generalize z.getD s.toNat 0 = zv at *
      have w1 : IntKind.i64.wrap (st + m) = st + m := IntWalk.i64_in _ (by omega)
      have w3 : IntKind.i64.wrap (st + m + rp) = st + m + rp := IntWalk.i64_in _ (by omega)
      go_wp2_with fail
      go_region_held3 (fun w' => w'.cell? ⟨w.heap.size, 0, none⟩ = some (.slice (some ⟨bz, oz, none⟩) z.length cA) ∧ w'.cell? ⟨w.heap.size, 1, none⟩ = some (.slice B ps.length d) ∧ w'.cell? ⟨bz, oz + s.toNat, none⟩ = some (.int .i64 zv) ∧ Below w.heap.size w w') (first | assumption | exact ⟨n0, n1, qz, below_drewN hb 1⟩ | (go_split_ands; exact ⟨(hb'.cell (World.block_lt_of_cell? _ _ (by assumption))).trans (by assumption), (hb'.cell (World.block_lt_of_cell? _ _ (by assumption))).trans (by assumption), (hb'.cell (World.block_lt_of_cell? _ _ (by assumption))).trans (by assumption), bnext (by assumption) hb'⟩)) (first | (go_at_call 79; refine (HST.out _).mono ?_; rintro e w' ⟨rfl, hb'⟩) | (go_at_call 96; refine (HL7.out _).mono ?_; rintro e w' ⟨rfl, rfl⟩))
      all_goals go_wp2
      all_goals go_ret2
      all_goals go_split_ands
      all_goals exact ⟨rfl, by assumption⟩
end Go.Proofs.Ytdaedgdglammhaa
