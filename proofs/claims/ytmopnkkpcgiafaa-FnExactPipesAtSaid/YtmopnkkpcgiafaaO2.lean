/-
  PipesAt of both sides.
-/
import Derived.Test.YtmopnkkpcgiafaaO1
import Derived.Test.YtmopnkkpcgiafaaH8
import Derived.Deep.RegionHeld3
namespace Go.Proofs.Ytmopnkkpcgiafaa
open Go.ChangeShapes Go.WideShapes Go.ChangeAt Go.RowKit
set_option maxRecDepth 100000
set_option linter.unusedVariables false

theorem code_any (A B : Option Addr) (c d : Nat) (z : List Int) (ps : List Pp) (r : Bool) (w : World) (h : NetCells w A z B ps) (hn : z.length ≤ 1048576) (hm : ps.length ≤ 1048576) (hid : ∀ p ∈ ps, p.id.size ≤ maxLen) :
    Calls Try.prog 68 #[.agg #[.slice A z.length c, .slice B ps.length d], .bool r] w fun e w' => e = .returned (.int .i64 (argC (netB z ps) r)) ∧ Below w.heap.size w w' := by
  have hb : Below w.heap.size w (w.alloc (.cells #[.slice A z.length c, .slice B ps.length d] 30)) := bal (Below.refl _ _) _
  have HV := Lib.hid (implValidNet_any A z.length c B ps.length d z ps _ rfl rfl hn hm (h.next hb).1 (h.next hb).2 hid)
  clear h hid
  generalize netB z ps = v at *
  go_enter Try.func68, Try.ntmps68
  go_wp2_with fail
  refine HV.out.mono ?_
  rintro e w1 ⟨rfl, hb1⟩
  have hb := bnext hb hb1
  go_wp2_with fail
  refine (argumentCode_any v r _).mono ?_
  rintro e w2 ⟨rfl, rfl⟩
  go_wp2
  go_ret
  exact ⟨rfl, hb⟩

/-- the pipes at a node among the first k -/
def pipesAtTo (ps : List Pp) (node : Int) : Nat → List Int
  | 0 => []
  | k + 1 => match ps[k]? with
    | some p => if p.f = node ∨ p.t = node then pipesAtTo ps node k ++ [(k : Int)] else pipesAtTo ps node k
    | none => pipesAtTo ps node k
theorem pipesAtTo_at {ps : List Pp} {node : Int} {k : Nat} {p : Pp} (h : ps[k]? = some p) : pipesAtTo ps node (k + 1) = if p.f = node ∨ p.t = node then pipesAtTo ps node k ++ [(k : Int)] else pipesAtTo ps node k := by
  show (match ps[k]? with | some p => _ | none => _) = _
  rw [h]
theorem pipesAtTo_short (ps : List Pp) (node : Int) (k : Nat) : (pipesAtTo ps node k).length ≤ k := by
  induction k with
  | zero => exact Nat.le_refl _
  | succ k ih =>
    unfold pipesAtTo
    split
    · split
      · rw [List.length_append, List.length_singleton]; omega
      · omega
    · omega
/-- an exit's pipe -/
def pipeOf (e : Int × Int) : Int := absI e.1 - 1
theorem exits_pipes (ps : List Pp) (node : Int) (k : Nat) : (exitsTo (closedBy []) ps node k).map pipeOf = pipesAtTo ps node k := by
  induction k with
  | zero => rfl
  | succ k ih =>
    cases h : ps[k]? with
    | none =>
      have e1 : exitsTo (closedBy []) ps node (k + 1) = exitsTo (closedBy []) ps node k := by
        show (match ps[k]? with | some p => _ | none => _) = _
        rw [h]
      have e2 : pipesAtTo ps node (k + 1) = pipesAtTo ps node k := by
        show (match ps[k]? with | some p => _ | none => _) = _
        rw [h]
      rw [e1, e2, ih]
    | some p =>
      rw [exitsTo_at h, pipesAtTo_at h]
      rw [if_neg (show ¬ (closedBy [] k = true) from by unfold closedBy; simp)]
      have a1 : pipeOf ((k : Int) + 1, p.t) = k := by unfold pipeOf absI; rw [if_neg (by omega)]; show (k : Int) + 1 - 1 = _; omega
      have a2 : pipeOf (-((k : Int) + 1), p.f) = k := by unfold pipeOf absI; rw [if_pos (by show -((k : Int) + 1) < 0; omega)]; show - -((k : Int) + 1) - 1 = _; omega
      by_cases hf : p.f = node
      · rw [if_pos hf, if_pos (.inl hf), List.map_append, ih, List.map_singleton, a1]
      · rw [if_neg hf]
        by_cases ht : p.t = node
        · rw [if_pos ht, if_pos (.inr ht), List.map_append, ih, List.map_singleton, a2]
        · rw [if_neg ht, if_neg (by rintro (h | h); exact hf h; exact ht h), ih]
theorem exits_bd (cl : Nat → Bool) (ps : List Pp) (node : Int) (k : Nat) : ∀ e ∈ exitsTo cl ps node k, -(k : Int) ≤ e.1 ∧ e.1 ≤ k := by
  induction k with
  | zero => intro e he; cases he
  | succ k ih =>
    intro e he
    have hst : ∀ e ∈ exitsTo cl ps node k, -((k + 1 : Nat) : Int) ≤ e.1 ∧ e.1 ≤ ((k + 1 : Nat) : Int) := fun e he => by have := ih e he; omega
    unfold exitsTo at he
    split at he
    · split at he
      · exact hst e he
      · split at he
        · rcases List.mem_append.1 he with h | h
          · exact hst e h
          · rw [List.mem_singleton.1 h]; show _ ≤ (k : Int) + 1 ∧ (k : Int) + 1 ≤ _; omega
        · split at he
          · rcases List.mem_append.1 he with h | h
            · exact hst e h
            · rw [List.mem_singleton.1 h]; show _ ≤ -((k : Int) + 1) ∧ -((k : Int) + 1) ≤ _; omega
          · exact hst e he
    · exact hst e he
def pipesAtX (z : List Int) (ps : List Pp) (node : Int) : List Int := if netB z ps && inB node 0 ((z.length : Int) - 1) then pipesAtTo ps node ps.length else []
def pipesAtC (z : List Int) (ps : List Pp) (node : Int) : Int := argC (netB z ps) (inB node 0 ((z.length : Int) - 1))
theorem pipesAtX_short (z : List Int) (ps : List Pp) (node : Int) (hn : z.length ≤ 1048576) (hm : ps.length ≤ 1048576) : (pipesAtX z ps node).length ≤ 1048576 := by
  unfold pipesAtX
  split
  · exact Nat.le_trans (pipesAtTo_short _ _ _) hm
  · simp

set_option maxHeartbeats 1000000 in
theorem implPipesAt_ic (A B : Option Addr) (c d : Nat) (z : List Int) (ps : List Pp) (node : Int) (w : World) (h : NetCells w A z B ps) (hn : z.length ≤ 1048576) (hm : ps.length ≤ 1048576) (hid : ∀ p ∈ ps, p.id.size ≤ maxLen) :
    Calls Try.prog 33 #[.agg #[.slice A z.length c, .slice B ps.length d], .int .i64 node] w (RetIC (pipesAtX z ps node) (pipesAtC z ps node) w) := by
  obtain ⟨i0, hi, hz0, hz1, hz2⟩ := info_parts infoI64
  have hN := NetAt.new w A z.length c B ps.length d 30
  have hb : Below w.heap.size w (w.alloc (.cells #[.slice A z.length c, .slice B ps.length d] 30)) := bal (Below.refl _ _) _
  have HC := Lib.hid h
  have HD := Lib.hid hid
  clear h hid
  have ⟨n0, n1⟩ := hN
  unfold pipesAtX pipesAtC
  generalize hr : inB node 0 ((z.length : Int) - 1) = r at *
  have HR := Lib.hid hr
  have HCD := Lib.hid (fun wx (hx : NetCells wx A z B ps) => code_any A B c d z ps r wx hx hn hm HD.out)
  have HHN := Lib.hid (fun wx => by have := hasNode_any A z.length c B ps.length d node wx hn; rw [hr] at this; exact this)
  clear hr
  by_cases hv : (netB z ps && r) = true
  · rw [if_pos hv]
    obtain ⟨hv1, rfl⟩ : netB z ps = true ∧ r = true := by simpa using hv
    rw [hv1] at HCD
    rw [hv1]
    have HP := Lib.hid (netB_parts hv1)
    have hm20 := HP.out.2.2.1
    clear hv hv1
    go_enter Try.func33, Try.ntmps33
    have hb := below_drewN hb 1
    have hN : NetAt (w.alloc (.cells #[.slice A z.length c, .slice B ps.length d] 30)).drew w.heap.size A z.length c B ps.length d := hN
    clear n0 n1
    have ⟨n0, n1⟩ := hN
    go_wp2_with fail
    go_region_held3 (fun w' => w'.cell? ⟨w.heap.size, 0, none⟩ = some (.slice A z.length c) ∧ w'.cell? ⟨w.heap.size, 1, none⟩ = some (.slice B ps.length d)) (exact ⟨n0, n1⟩) (first | (go_at_call 78; refine (HHN.out _).mono ?_; rintro e w1 ⟨rfl, hb1⟩; have hN := hN.next hb1; have hb := bnext hb hb1; have ⟨n0, n1⟩ := hN) | (go_at_call 68; refine (HCD.out _ (HC.out.next hb)).mono ?_; rintro e w2 ⟨rfl, hb2⟩; have hN := hN.next hb2; have hb := bnext hb hb2; have ⟨n0, n1⟩ := hN))
    have hcode : argC true true = 0 := rfl
    rw [hcode]
    clear hcode
    go_wp2_with fail
    refine (newGrid_any A z.length c B ps.length d none 0 [] _ (by simp) (CellsAt.nil _ _) (fun x hx => by cases hx)).mono ?_
    rintro e w3 ⟨gb, rfl, hlb, hG, hb3⟩
    have hN := hN.next hb3
    have hb := bnext hb hb3
    clear n0 n1 hb3
    have ⟨n0, n1⟩ := hN
    go_wp2_with fail
    refine (exits_any A z.length c B ps.length d gb ps (closedBy []) node _ rfl hm20 hG (HC.out.2.next hb)).mono ?_
    rintro e w4 ⟨E, ec, rfl, oE, hb4⟩
    have hbd := exits_bd (closedBy []) ps node ps.length
    have hps := exits_pipes ps node ps.length
    have hls := exitsTo_short (closedBy []) ps node ps.length
    generalize exitsTo (closedBy []) ps node ps.length = X at *
    have hb := bnext hb hb4
    have HBD := Lib.hid hbd
    have HPS := Lib.hid hps
    have hE := Lib.hid (show CellsAt w4 E (rowsE X) from by
      intro hp
      rcases oE.2 with ⟨hv, hn'⟩ | ⟨g, cap, cur, hv, _, hg, _⟩
      · rw [rowsE_length] at hp; omega
      · injection hv with hA
        subst hA
        exact ⟨g, 0, rfl, fun j hj => by rw [Nat.zero_add]; exact oE.cellAt j (by rw [rowsE_length] at hj; exact hj)⟩)
    clear n0 n1 hG hb4 hbd hps oE hN
    have hs4 : w.heap.size ≤ w4.heap.size := hb.size
    go_wp2_with fail
    go_loopw [7, 23] (fun v i wr => ∃ (k : Nat) (T : Option Addr) (td : Nat), k ≤ X.length ∧ i = .int .i64 k ∧ v = .slice T k td ∧ wr.ownsRow w4.heap.size 2 1 (.slice T k td) k (intsV ((X.take k).map pipeOf)) ∧ w4.heap.size ≤ wr.heap.size ∧ Below w.heap.size w wr ∧ Below w4.heap.size w4 wr) (fun _ i _ => X.length - (intOf i).toNat)
    case atStart => exact ⟨0, none, 0, Nat.zero_le _, rfl, rfl, World.ownsRow_nil _ _ _ _, Nat.le_refl _, hb, Below.refl _ _⟩
    case round =>
      clear hb
      obtain ⟨k, T, td, hk, rfl, rfl, hro, hsz, hb, hb4⟩ := hrel
      by_cases hlt : k < X.length
      · obtain ⟨b, o, rfl, h1⟩ := hE.out (by rw [rowsE_length]; omega)
        have hx := List.getElem?_eq_getElem hlt
        have hat := rowsE_at X k _ hx
        have hbl : b < w4.heap.size := CellsAt.lies hE.out (by rw [rowsE_length]; omega)
        have g1 : wr.cell? ⟨b, o + k * 2, none⟩ = some (.int .i64 X[k].1) := by
          rw [hb4.cell (p := ⟨b, o + k * 2, none⟩) hbl, h1 (k * 2) (by rw [rowsE_length]; omega)]; exact hat.1
        have g2 : wr.cell? ⟨b, o + k * 2 + 1, none⟩ = some (.int .i64 X[k].2) := by
          rw [hb4.cell (p := ⟨b, o + k * 2 + 1, none⟩) hbl, Nat.add_assoc, h1 (k * 2 + 1) (by rw [rowsE_length]; omega)]; exact hat.2
        have hxb := HBD.out _ (List.getElem_mem hlt)
        have hmt : (X.take (k + 1)).map pipeOf = (X.take k).map pipeOf ++ [pipeOf X[k]] := by
          rw [List.take_succ_eq_append_getElem hlt, List.map_append]; rfl
        have hpo : pipeOf X[k] = absI X[k].1 - 1 := rfl
        generalize pipeOf X[k] = q at *
        generalize hu : X[k].1 = u at *
        generalize X[k].2 = v at *
        have HMT := Lib.hid hmt
        have HPO := Lib.hid hpo
        have hab := absI_bd u 20 (by omega) (by omega)
        have hro1 := hro.alloc (.cells #[.int .i64 u, .int .i64 v] 89)
        have hbo := bal hb (.cells #[.int .i64 u, .int .i64 v] 89)
        have hbo4 := bal hb4 (.cells #[.int .i64 u, .int .i64 v] 89)
        have HR1 := Lib.hid hro1
        have HA := Lib.hid (fun wx => absolute_any u wx (by omega) (by omega))
        have hu1 : -20 ≤ u := by omega
        have hu2 : u ≤ 20 := by omega
        clear hx hat hmt hpo h1 hxb hro1 hu hro
        generalize absI u = au at *
        go_wp2_with fail
        refine (HA.out _).mono ?_
        rintro e w' ⟨rfl, rfl⟩
        go_wp2_with (at_builtin; refine wpList_append_own _ rfl _ _ 22 rfl w4.heap.size 2 i0 (.int .i64 0) 1 8 Try.underlying22 hi hz0 hz1 hz2 rfl (by decide) _ _ _ rfl (HR1.out.alloc _) ⟨wr.heap.size + 1, 0, none⟩ 1 1 [.int .i64 (au - 1)] rfl rfl ?_ (by simp [Value.oneCell']) ?_ ?_ ?_ ?_; (have := cell_one_new (wr.alloc (.cells #[.int .i64 u, .int .i64 v] 89)) (.int .i64 (au - 1)) 2; rw [World.size_alloc] at this; exact this); (unfold maxLen; omega); (omega); (simp; omega); intro v5 w5 hown5 hgrow5 _)
        obtain ⟨T5, d5, rfl⟩ := owns_form hown5
        go_roundw
        case rel => exact ⟨k + 1, T5, d5, by omega, by go_num, rfl, by rw [HMT.out, intsV_snoc, HPO.out]; exact hown5, Nat.le_trans hsz (Nat.le_trans (by simp; omega) hgrow5.size), (bal hbo _).grown hgrow5 (by have := hb.size; simp; omega) (fun j hj => by have := (HR1.out.lt j hj).1; omega), (bal hbo4 _).grown hgrow5 (by simp; omega) (fun j hj => (HR1.out.lt j hj).1)⟩
        case measure => simp [intOf]; omega
      · obtain rfl : k = X.length := by omega
        rw [List.take_length, HPS.out] at hro
        go_wp2
        go_ret2
        exact retIC_mk rfl hro hs4 hb
  · rw [if_neg hv]
    have HCN : Hid (argC (netB z ps) r ≠ 0) := Lib.hid (by
      unfold argC
      intro h
      apply hv
      cases h1 : netB z ps with
      | false => rw [h1] at h; simp at h
      | true =>
        rw [h1] at h
        cases r with
        | true => rfl
        | false => simp at h)
    clear hv
    generalize argC (netB z ps) r = C at *
    have hCn : (C != 0) = true := by simpa using HCN.out
    go_enter Try.func33, Try.ntmps33
    have hb := below_drewN hb 1
    have hN : NetAt (w.alloc (.cells #[.slice A z.length c, .slice B ps.length d] 30)).drew w.heap.size A z.length c B ps.length d := hN
    clear n0 n1
    have ⟨n0, n1⟩ := hN
    go_wp2_with fail
    go_region_held3 (fun w' => w'.cell? ⟨w.heap.size, 0, none⟩ = some (.slice A z.length c) ∧ w'.cell? ⟨w.heap.size, 1, none⟩ = some (.slice B ps.length d)) (exact ⟨n0, n1⟩) (first | (go_at_call 78; refine (HHN.out _).mono ?_; rintro e w1 ⟨rfl, hb1⟩; have hN := hN.next hb1; have hb := bnext hb hb1; have ⟨n0, n1⟩ := hN) | (go_at_call 68; refine (HCD.out _ (HC.out.next hb)).mono ?_; rintro e w2 ⟨rfl, hb2⟩; have hN := hN.next hb2; have hb := bnext hb hb2; have ⟨n0, n1⟩ := hN))
    go_wp2
    go_ret2
    exact retIC_nil rfl hb

theorem l04Node_any (bn : Nat) (A : Option Addr) (n c : Nat) (B : Option Addr) (m d : Nat) (node : Int) (w : World) (hN : NetAt w bn A n c B m d) (hn : n ≤ 1048576) :
    Calls Try.prog 77 #[.pointer (some ⟨bn, 0, none⟩), .int .i64 node] w fun e w' => e = .returned (.bool (inB node 0 ((n : Int) - 1))) ∧ w = w' := by
  obtain ⟨n0, n1⟩ := hN
  go_enter Try.func77, Try.ntmps77
  go_wp2_with fail
  refine (in_any node 0 ((n : Int) - 1) _).mono ?_
  rintro e w' ⟨rfl, rfl⟩
  go_wp2
  go_ret
  exact ⟨rfl, rfl⟩
set_option maxHeartbeats 1000000 in
theorem specPipesAt_ic (A B : Option Addr) (c d : Nat) (z : List Int) (ps : List Pp) (node : Int) (w : World) (h : NetCells w A z B ps) (hn : z.length ≤ 1048576) (hm : ps.length ≤ 1048576) (hid : ∀ p ∈ ps, p.id.size ≤ maxLen) :
    Calls Try.prog 32 #[.agg #[.slice A z.length c, .slice B ps.length d], .int .i64 node] w (RetIC (pipesAtX z ps node) (pipesAtC z ps node) w) := by
  obtain ⟨i0, hi, hz0, hz1, hz2⟩ := info_parts infoI64
  have hN := NetAt.new w A z.length c B ps.length d 30
  have hb : Below w.heap.size w (w.alloc (.cells #[.slice A z.length c, .slice B ps.length d] 30)) := bal (Below.refl _ _) _
  have HV := Lib.hid (l04Ok_any w.heap.size A z.length c B ps.length d z ps _ hN rfl rfl hn hm (h.next hb).1 (h.next hb).2 hid)
  have HC := Lib.hid h
  clear h hid
  unfold pipesAtX pipesAtC
  by_cases hv : netB z ps = true
  · rw [hv] at HV
    rw [hv]
    have HP := Lib.hid (netB_parts hv)
    have hm20 := HP.out.2.2.1
    clear hv
    by_cases hr : inB node 0 ((z.length : Int) - 1) = true
    · rw [hr]
      have HHN := Lib.hid (fun wx (hx : NetAt wx w.heap.size A z.length c B ps.length d) => by have := l04Node_any w.heap.size A z.length c B ps.length d node wx hx hn; rw [hr] at this; exact this)
      clear hr
      go_enter Try.func32, Try.ntmps32
      go_wp2_with fail
      refine HV.out.mono ?_
      rintro e w1 ⟨rfl, hd⟩
      have hb1 := drawn_below hd
      have hN := hN.next hb1
      have hb := bnext hb hb1
      clear hb1 hd
      go_wp2_with fail
      refine (HHN.out _ hN).mono ?_
      rintro e w' ⟨rfl, rfl⟩
      have hs1 : w.heap.size ≤ w1.heap.size := hb.size
      have HN := Lib.hid hN
      have HB1 := Lib.hid hb
      have ⟨n0, n1⟩ := hN
      go_wp2_with fail
      clear n0 n1
      go_loopw [6, 7] (fun v i wr => ∃ (k : Nat) (T : Option Addr) (L td : Nat), k ≤ ps.length ∧ i = .int .i64 k ∧ v = .slice T L td ∧ wr.ownsRow w1.heap.size 2 1 (.slice T L td) L (intsV (pipesAtTo ps node k)) ∧ Below w1.heap.size w1 wr) (fun _ i _ => ps.length - (intOf i).toNat)
      case atStart => exact ⟨0, _, _, _, Nat.zero_le _, rfl, rfl, owns_empty _ _ _ (Nat.le_refl _), (Below.refl _ _).alloc (Nat.le_refl _) _⟩
      case round =>
        clear hb
        obtain ⟨k, T, L, td, hk, rfl, rfl, htr, hbq⟩ := hrel
        have ⟨m0, m1⟩ := HN.out.next hbq
        by_cases hlt : k < ps.length
        · obtain ⟨b, off, rfl, hrow⟩ := pipe_at ((HC.out.2.next HB1.out).next hbq) (by omega)
          have hp := List.getElem?_eq_getElem hlt
          obtain ⟨p0, p1, p2, p3, p4, p5⟩ := hrow k _ hp
          have hst := pipesAtTo_at (node := node) hp
          have hL : L ≤ 20 := by
            have := owns_len htr
            rw [intsV_length] at this
            have := pipesAtTo_short ps node k
            omega
          generalize ps[k] = p at *
          have HST := Lib.hid hst
          clear hp hrow hst p0 p3 p4 p5
          by_cases hf : p.f = node
          · have HY := Lib.hid (HST.out.trans (if_pos (.inl hf)))
            have hf1 : (p.f == node) = true := by simpa using hf
            clear hf
            have htr5 := htr
            have hbw5 := hbq
            clear htr hbq
            go_wp2_with (at_builtin; refine wpList_append_own _ rfl _ _ 22 rfl w1.heap.size 2 i0 (.int .i64 0) 1 8 Try.underlying22 hi hz0 hz1 hz2 rfl (by decide) _ _ _ rfl (htr5.alloc _) ⟨wr.heap.size, 0, none⟩ 1 1 [.int .i64 k] rfl rfl (cell_one_new _ _ _) (by simp [Value.oneCell']) ?_ ?_ ?_ ?_; (unfold maxLen; omega); (omega); (have := hbw5.size; simp at this ⊢; omega); intro v5 w5 hown5 hgrow5 _)
            obtain ⟨T5, d5, rfl⟩ := owns_form hown5
            go_roundw
            case rel => exact ⟨k + 1, T5, L + 1, d5, by omega, by go_num, rfl, by rw [HY.out, intsV_snoc]; exact hown5, (bal hbw5 _).grown hgrow5 (by have := hbw5.size; simp at this ⊢; omega) (fun q hq => (htr5.lt q hq).1)⟩
            case measure => simp [intOf]; omega
          · have hf1 : (p.f == node) = false := by simpa using hf
            by_cases ht : p.t = node
            · have HY := Lib.hid (HST.out.trans (if_pos (.inr ht)))
              have ht1 : (p.t == node) = true := by simpa using ht
              clear hf ht
              have htr5 := htr
              have hbw5 := hbq
              clear htr hbq
              go_wp2_with (at_builtin; refine wpList_append_own _ rfl _ _ 22 rfl w1.heap.size 2 i0 (.int .i64 0) 1 8 Try.underlying22 hi hz0 hz1 hz2 rfl (by decide) _ _ _ rfl (htr5.alloc _) ⟨wr.heap.size, 0, none⟩ 1 1 [.int .i64 k] rfl rfl (cell_one_new _ _ _) (by simp [Value.oneCell']) ?_ ?_ ?_ ?_; (unfold maxLen; omega); (omega); (have := hbw5.size; simp at this ⊢; omega); intro v5 w5 hown5 hgrow5 _)
              obtain ⟨T5, d5, rfl⟩ := owns_form hown5
              go_roundw
              case rel => exact ⟨k + 1, T5, L + 1, d5, by omega, by go_num, rfl, by rw [HY.out, intsV_snoc]; exact hown5, (bal hbw5 _).grown hgrow5 (by have := hbw5.size; simp at this ⊢; omega) (fun q hq => (htr5.lt q hq).1)⟩
              case measure => simp [intOf]; omega
            · have HY := Lib.hid (HST.out.trans (if_neg (by rintro (h | h); exact hf h; exact ht h)))
              have ht1 : (p.t == node) = false := by simpa using ht
              clear hf ht
              go_wp2
              go_roundw
              case rel => exact ⟨k + 1, T, L, td, by omega, by go_num, rfl, by rw [HY.out]; exact htr, hbq⟩
              case measure => simp [intOf]; omega
        · obtain rfl : k = ps.length := by omega
          go_wp2
          go_ret2
          exact retIC_mk rfl htr hs1 (bnext HB1.out hbq)
    · have hr : inB node 0 ((z.length : Int) - 1) = false := by simpa using hr
      rw [hr]
      have HHN := Lib.hid (fun wx (hx : NetAt wx w.heap.size A z.length c B ps.length d) => by have := l04Node_any w.heap.size A z.length c B ps.length d node wx hx hn; rw [hr] at this; exact this)
      clear hr
      go_enter Try.func32, Try.ntmps32
      go_wp2_with fail
      refine HV.out.mono ?_
      rintro e w1 ⟨rfl, hd⟩
      have hb1 := drawn_below hd
      have hN := hN.next hb1
      have hb := bnext hb hb1
      clear hb1 hd
      go_wp2_with fail
      refine (HHN.out _ hN).mono ?_
      rintro e w' ⟨rfl, rfl⟩
      go_wp2
      go_ret2
      exact retIC_nil rfl hb
  · have hv : netB z ps = false := by simpa using hv
    rw [hv] at HV
    rw [hv]
    clear hv
    go_enter Try.func32, Try.ntmps32
    go_wp2_with fail
    refine HV.out.mono ?_
    rintro e w1 ⟨rfl, hd⟩
    have hb := bnext hb (drawn_below hd)
    go_wp2
    go_ret2
    exact retIC_nil rfl hb

end Go.Proofs.Ytmopnkkpcgiafaa
