/-
  BridgePipes of both sides.
-/
import Derived.Test.YtmopnkkpcgiafaaK1
import Derived.Test.YtmopnkkpcgiafaaJ6
namespace Go.Proofs.Ytmopnkkpcgiafaa
open Go.ChangeShapes Go.WideShapes Go.ChangeAt Go.RowKit
set_option maxRecDepth 100000
set_option linter.unusedVariables false

/-- the nodes of the k-th pipe are in two parts without it -/
def bridgeB (n : Nat) (ps : List Pp) (k : Nat) (p : Pp) : Bool := getI (partsTo (closedBy [(k : Int)]) n ps ps.length) p.f != getI (partsTo (closedBy [(k : Int)]) n ps ps.length) p.t
def bridgesTo (n : Nat) (ps : List Pp) : Nat → List Int
  | 0 => []
  | k + 1 => match ps[k]? with
    | some p => if bridgeB n ps k p then bridgesTo n ps k ++ [(k : Int)] else bridgesTo n ps k
    | none => bridgesTo n ps k
theorem bridgesTo_yes {n : Nat} {ps : List Pp} {k : Nat} {p : Pp} (h : ps[k]? = some p) (hb : bridgeB n ps k p = true) : bridgesTo n ps (k + 1) = bridgesTo n ps k ++ [(k : Int)] := by
  show (match ps[k]? with | some p => _ | none => _) = _
  rw [h]
  exact if_pos hb
theorem bridgesTo_no {n : Nat} {ps : List Pp} {k : Nat} {p : Pp} (h : ps[k]? = some p) (hb : bridgeB n ps k p = false) : bridgesTo n ps (k + 1) = bridgesTo n ps k := by
  show (match ps[k]? with | some p => _ | none => _) = _
  rw [h]
  show (if bridgeB n ps k p = true then _ else _) = _
  rw [hb]
  rfl
theorem bridgesTo_short (n : Nat) (ps : List Pp) (k : Nat) : (bridgesTo n ps k).length ≤ k := by
  induction k with
  | zero => exact Nat.le_refl _
  | succ k ih =>
    unfold bridgesTo
    split
    · split
      · rw [List.length_append, List.length_singleton]; omega
      · omega
    · omega
def bridgePipesX (z : List Int) (ps : List Pp) : List Int := if netB z ps then bridgesTo z.length ps ps.length else []
def bridgePipesC (z : List Int) (ps : List Pp) : Int := if netB z ps then 0 else 1
theorem bridgePipesX_short (z : List Int) (ps : List Pp) (hn : z.length ≤ 1048576) (hm : ps.length ≤ 1048576) : (bridgePipesX z ps).length ≤ 1048576 := by
  unfold bridgePipesX
  split
  · exact Nat.le_trans (bridgesTo_short _ _ _) hm
  · simp

set_option maxHeartbeats 1000000 in
theorem implBridgePipes_ic (A B : Option Addr) (c d : Nat) (z : List Int) (ps : List Pp) (w : World) (h : NetCells w A z B ps) (hn : z.length ≤ 1048576) (hm : ps.length ≤ 1048576) (hid : ∀ p ∈ ps, p.id.size ≤ maxLen) :
    Calls Try.prog 44 #[.agg #[.slice A z.length c, .slice B ps.length d]] w (RetIC (bridgePipesX z ps) (bridgePipesC z ps) w) := by
  obtain ⟨i0, hi, hz0, hz1, hz2⟩ := info_parts infoI64
  have hN := NetAt.new w A z.length c B ps.length d 30
  have hb : Below w.heap.size w (w.alloc (.cells #[.slice A z.length c, .slice B ps.length d] 30)) := bal (Below.refl _ _) _
  have HV := Lib.hid (implValidNet_any A z.length c B ps.length d z ps _ rfl rfl hn hm (h.next hb).1 (h.next hb).2 hid)
  have HC := Lib.hid h
  clear h hid
  have ⟨n0, n1⟩ := hN
  by_cases hv : netB z ps = true
  · have hX : bridgePipesX z ps = bridgesTo z.length ps ps.length := if_pos hv
    have hC : bridgePipesC z ps = 0 := if_pos hv
    rw [hX, hC]
    rw [hv] at HV
    have hp := netB_parts hv
    have hm20 := hp.2.2.1
    have HP := Lib.hid hp
    clear hX hC hv hp
    go_enter Try.func44, Try.ntmps44
    go_wp2_with fail
    refine HV.out.mono ?_
    rintro e w1 ⟨rfl, hb1⟩
    have hN := hN.next hb1
    have hb := bnext hb hb1
    clear n0 n1 hb1
    have ⟨n0, n1⟩ := hN
    go_wp2_with fail
    refine (newGrid_any A z.length c B ps.length d none 0 [] _ (by simp) (CellsAt.nil _ _) (fun x hx => by cases hx)).mono ?_
    rintro e w2 ⟨gb, rfl, hlb, hG, hb2⟩
    have hlb : w1.heap.size ≤ gb := hlb
    have hws : w.heap.size ≤ w1.heap.size := hb.size
    have hgB : 0 < ps.length → ∀ b o, B = some ⟨b, o, none⟩ → b ≠ gb := fun h0 b o e => by
      have hB := HC.out.2
      rw [e] at hB
      have hl : b < w.heap.size := CellsAt.lies hB (by rw [rowsP_length]; omega)
      omega
    have HGB := Lib.hid hgB
    have hN := hN.next hb2
    have hlw : w.heap.size ≤ gb := Nat.le_trans hb.size hlb
    have hb := bnext hb hb2
    have hgl := hG.1.lies
    clear n0 n1 hb2 hgB hlb
    have ⟨n0, n1⟩ := hN
    have hO : w2.ownsRow w2.heap.size 2 1 (.slice none 0 0) 0 [] := World.ownsRow_nil _ _ _ _
    go_wp2_with fail
    go_loopw [5, 15] (fun v i wr => ∃ (k : Nat) (T : Option Addr) (L td : Nat), k ≤ ps.length ∧ i = .int .i64 k ∧ v = .slice T L td ∧ wr.ownsRow w2.heap.size 2 1 (.slice T L td) L (intsV (bridgesTo z.length ps k)) ∧ GridAt wr gb A z.length c B ps.length d (closedBy []) ∧ w2.heap.size ≤ wr.heap.size ∧ Below w.heap.size w wr) (fun _ i _ => ps.length - (intOf i).toNat)
    case atStart => exact ⟨0, none, 0, 0, Nat.zero_le _, rfl, rfl, hO, hG, Nat.le_refl _, hb⟩
    case round =>
      clear hG hb hO n0 n1
      obtain ⟨k, T, L, td, hk, rfl, rfl, htr, hG, hsz, hb⟩ := hrel
      by_cases hlt : k < ps.length
      · have hp := List.getElem?_eq_getElem hlt
        generalize ps[k] = p at *
        have HPk := Lib.hid hp
        have hy := fun h => bridgesTo_yes (n := z.length) hp h
        have hno := fun h => bridgesTo_no (n := z.length) hp h
        have hL : L ≤ 20 := by
          have := owns_len htr
          rw [intsV_length] at this
          have := bridgesTo_short z.length ps k
          omega
        have HY := Lib.hid hy
        have HNO := Lib.hid hno
        clear hp hy hno
        go_wp2_with fail
        refine (isBridge_any A z.length c B ps.length d gb ps p k _ (by have := HP.out.1; omega) hn rfl hm20 HPk.out hG (HC.out.2.next hb) HP.out.2.2.2.1 (HGB.out (by omega))).mono ?_
        rintro e w4 ⟨rfl, hG4, hgr⟩
        have htr4 := owns_keep htr (fun q hq => hgr.block q (htr.lt q hq).2 (fun e => by have := (htr.lt q hq).1; have e := Option.some.inj e; omega))
        have hb4 := hb.grown hgr hb.size (fun q hq => by have := Option.some.inj hq; omega)
        have hsz4 := Nat.le_trans hsz hgr.size
        have hbr : bridgeB z.length ps k p = (getI (partsTo (closedBy [(k : Int)]) z.length ps ps.length) p.f != getI (partsTo (closedBy [(k : Int)]) z.length ps ps.length) p.t) := rfl
        rw [← hbr]
        clear hbr hG htr hb hsz hgr
        by_cases hbb : bridgeB z.length ps k p = true
        · have HB1 := Lib.hid (HY.out hbb)
          rw [hbb]
          clear hbb
          go_wp2_with (at_builtin; refine wpList_append_own _ rfl _ _ 22 rfl w2.heap.size 2 i0 (.int .i64 0) 1 8 Try.underlying22 hi hz0 hz1 hz2 rfl (by decide) _ _ _ rfl (htr4.alloc _) ⟨w4.heap.size, 0, none⟩ 1 1 [.int .i64 k] rfl rfl (cell_one_new _ _ _) (by simp [Value.oneCell']) ?_ ?_ ?_ ?_; (unfold maxLen; omega); (omega); (simp; omega); intro v5 w5 hown5 hgrow5 _)
          obtain ⟨T5, d5, rfl⟩ := owns_form hown5
          have hal : Below w4.heap.size w4 (w4.alloc (.cells #[.int .i64 k] 2)) := bal (Below.refl _ _) _
          have hG5 := (hG4.next hal).keep (hgrow5.block gb (by have := hal.size; have := hG4.1.lies; omega) (fun e => by have := (htr4.lt gb e.symm).1; omega))
          have hb5 := (bnext hb4 hal).grown hgrow5 (by have := hb4.size; simp; omega) (fun q hq => by have := (htr4.lt q hq).1; omega)
          have hsz5 : w2.heap.size ≤ w5.heap.size := Nat.le_trans hsz4 (Nat.le_trans hal.size hgrow5.size)
          go_roundw
          case rel => exact ⟨k + 1, T5, L + 1, d5, by omega, by go_num, rfl, by rw [HB1.out, intsV_snoc]; exact hown5, hG5, hsz5, hb5⟩
          case measure => simp [intOf]; omega
        · have hbb : bridgeB z.length ps k p = false := by simpa using hbb
          have HB1 := Lib.hid (HNO.out hbb)
          rw [hbb]
          clear hbb
          go_wp2
          go_roundw
          case rel => exact ⟨k + 1, T, L, td, by omega, by go_num, rfl, by rw [HB1.out]; exact htr4, hG4, hsz4, hb4⟩
          case measure => simp [intOf]; omega
      · obtain rfl : k = ps.length := by omega
        clear hG
        go_wp2
        go_ret2
        exact retIC_mk rfl htr (by omega) hb
  · have hv : netB z ps = false := by simpa using hv
    have hX : bridgePipesX z ps = [] := by unfold bridgePipesX; rw [hv]; rfl
    have hC : bridgePipesC z ps = 1 := by unfold bridgePipesC; rw [hv]; rfl
    rw [hX, hC]
    rw [hv] at HV
    clear hX hC hv
    go_enter Try.func44, Try.ntmps44
    go_wp2_with fail
    refine HV.out.mono ?_
    rintro e w1 ⟨rfl, hb1⟩
    have hb := bnext hb hb1
    go_wp2
    go_ret2
    exact retIC_nil rfl hb

set_option maxHeartbeats 1000000 in
theorem l04Bridges_any (bn : Nat) (A : Option Addr) (n c : Nat) (B : Option Addr) (m d : Nat) (ps : List Pp) (w : World) (hN : NetAt w bn A n c B m d) (hn0 : 0 < n) (hn : n ≤ 16) (hl : ps.length = m) (hm : m ≤ 20)
    (hB : CellsAt w B (rowsP ps)) (hfit : ps.all (fitB n) = true) :
    Calls Try.prog 86 #[.pointer (some ⟨bn, 0, none⟩)] w (RetRow 2 (intsV (bridgesTo n ps m)) w) := by
  subst hl
  obtain ⟨i0, hi, hz0, hz1, hz2⟩ := info_parts infoI64
  have hbn := hN.lies
  have HN := Lib.hid hN
  have HB := Lib.hid hB
  have HF := Lib.hid hfit
  have ⟨n0, n1⟩ := hN
  clear hB hfit hN
  go_enter Try.func86, Try.ntmps86
  go_wp2
  go_loopw [3, 4] (fun v i wr => ∃ (k : Nat) (T : Option Addr) (L td : Nat), k ≤ ps.length ∧ i = .int .i64 k ∧ v = .slice T L td ∧ wr.ownsRow w.heap.size 2 1 (.slice T L td) L (intsV (bridgesTo n ps k)) ∧ Below w.heap.size w wr) (fun _ i _ => ps.length - (intOf i).toNat)
  case atStart => exact ⟨0, _, _, _, Nat.zero_le _, rfl, rfl, owns_empty _ _ _ (Nat.le_refl _), (Below.refl _ _).alloc (Nat.le_refl _) _⟩
  case round =>
    clear n0 n1
    obtain ⟨k, T, L, td, hk, rfl, rfl, htr, hb⟩ := hrel
    have hN1 := HN.out.next hb
    have ⟨m0, m1⟩ := hN1
    by_cases hlt : k < ps.length
    · have hp := List.getElem?_eq_getElem hlt
      generalize ps[k] = p at *
      have HPk := Lib.hid hp
      have HY := Lib.hid (fun h => bridgesTo_yes (n := n) hp h)
      have HNO := Lib.hid (fun h => bridgesTo_no (n := n) hp h)
      have hL : L ≤ 20 := by
        have := owns_len htr
        rw [intsV_length] at this
        have := bridgesTo_short n ps k
        omega
      have hf := fitB_parts (fitB_at HF.out k _ hp)
      have he := okP_ends hf.1
      obtain ⟨x, hx⟩ := Int.eq_ofNat_of_zero_le he.1.1
      obtain ⟨y, hy⟩ := Int.eq_ofNat_of_zero_le he.2.1.1
      have hxn : x < n := by have := hf.2.1; omega
      have hyn : y < n := by have := hf.2.2; omega
      have hal : Below wr.heap.size wr (wr.alloc (.cells #[.int .i64 k] 2)) := bal (Below.refl _ _) _
      have hK : CellsAt (wr.alloc (.cells #[.int .i64 k] 2)) (some ⟨wr.heap.size, 0, none⟩) (intsV [(k : Int)]) := by
        intro _
        refine ⟨_, _, rfl, fun j hj => ?_⟩
        rw [intsV_length] at hj
        match j, hj with
        | 0, _ => simp [intsV]
      have HK := Lib.hid hK
      clear hp hf he hK
      go_wp2_with fail
      refine (l04Parts_any bn A n c B ps.length d ps (some ⟨wr.heap.size, 0, none⟩) 1 [(k : Int)] _ (hN1.next hal) hn0 hn rfl hm (HB.out.next (bnext hb hal)) HF.out (by simp) HK.out).mono ?_
      rintro e w3 ⟨A3, c3, rfl, o3, hb3⟩
      rw [intsV_length, partsTo_length]
      rw [intsV_length, partsTo_length] at o3
      obtain ⟨g, rfl⟩ : ∃ g, A3 = some ⟨g, 0, none⟩ := by
        rcases o3.2 with ⟨hv, hn'⟩ | ⟨g, cap, cur, hv, _⟩
        · omega
        · injection hv with hA; exact ⟨g, hA⟩
      have hb4 := bnext hal hb3
      have hbw := bnext hb hb4
      have htr4 := owns_below htr hb4 (Nat.le_refl _)
      have hPl := partsTo_length (closedBy [(k : Int)]) n ps ps.length
      have c1 := o3.cellAt x (by omega)
      have c2 := o3.cellAt y (by omega)
      rw [intsV_at _ _ (by rw [hPl]; exact hxn)] at c1
      rw [intsV_at _ _ (by rw [hPl]; exact hyn)] at c2
      have hbr : bridgeB n ps k p = ((partsTo (closedBy [(k : Int)]) n ps ps.length)[x]'(by rw [hPl]; exact hxn) != (partsTo (closedBy [(k : Int)]) n ps ps.length)[y]'(by rw [hPl]; exact hyn)) := by
        unfold bridgeB getI
        rw [hx, hy]
        simp [List.getD, hPl, hxn, hyn]
      generalize (partsTo (closedBy [(k : Int)]) n ps ps.length)[x]'(by rw [hPl]; exact hxn) = u at *
      generalize (partsTo (closedBy [(k : Int)]) n ps ps.length)[y]'(by rw [hPl]; exact hyn) = v at *
      have ⟨m0, m1⟩ := hN1.next hb4
      obtain ⟨b, off, rfl, hrow⟩ := pipe_at (HB.out.next hbw) (by omega)
      obtain ⟨p0, p1, p2, p3, p4, p5⟩ := hrow k p HPk.out
      rw [hx] at p1
      rw [hy] at p2
      have HBR := Lib.hid hbr
      clear hbr hPl hx hy hrow p0 p3 p4 p5 o3 hb3 hal hN1 htr hb hb4
      by_cases huv : u = v
      · have hne : (u != v) = false := by simpa using huv
        have HB1 := Lib.hid (HNO.out (by rw [HBR.out]; exact hne))
        have huv1 := huv.symm
        clear hne huv
        subst huv1
        go_wp2
        go_quiet (fail)
        go_wp2
        go_roundw
        case rel => exact ⟨k + 1, T, L, td, by omega, by go_num, rfl, by rw [HB1.out]; exact htr4, below_drewN hbw _⟩
        case measure => simp [intOf]; omega
      · have hne : (u != v) = true := by simpa using huv
        have HB1 := Lib.hid (HY.out (by rw [HBR.out]; exact hne))
        clear huv
        go_wp2
        go_quiet (fail)
        have htr5 : (w3.drewN nq).ownsRow w.heap.size 2 1 (.slice T L td) L (intsV (bridgesTo n ps k)) := htr4
        have hbw5 := below_drewN hbw nq
        go_wp2_with (at_builtin; refine wpList_append_own _ rfl _ _ 22 rfl w.heap.size 2 i0 (.int .i64 0) 1 8 Try.underlying22 hi hz0 hz1 hz2 rfl (by decide) _ _ _ rfl (htr5.alloc _) ⟨w3.heap.size, 0, none⟩ 1 1 [.int .i64 k] rfl rfl (cell_one_new _ _ _) (by simp [Value.oneCell']) ?_ ?_ ?_ ?_; (unfold maxLen; omega); (omega); (have := hbw5.size; simp at this ⊢; omega); intro v5 w5 hown5 hgrow5 _)
        obtain ⟨T5, d5, rfl⟩ := owns_form hown5
        go_roundw
        case rel => exact ⟨k + 1, T5, L + 1, d5, by omega, by go_num, rfl, by rw [HB1.out, intsV_snoc]; exact hown5, (bal hbw5 _).grown hgrow5 (by have := hbw5.size; simp at this ⊢; omega) (fun q hq => (htr5.lt q hq).1)⟩
        case measure => simp [intOf]; omega
    · obtain rfl : k = ps.length := by omega
      go_wp2
      go_ret
      exact retRow_mk rfl htr rfl hb

theorem specBridgePipes_ic (A B : Option Addr) (c d : Nat) (z : List Int) (ps : List Pp) (w : World) (h : NetCells w A z B ps) (hn : z.length ≤ 1048576) (hm : ps.length ≤ 1048576) (hid : ∀ p ∈ ps, p.id.size ≤ maxLen) :
    Calls Try.prog 43 #[.agg #[.slice A z.length c, .slice B ps.length d]] w (RetIC (bridgePipesX z ps) (bridgePipesC z ps) w) := by
  have hN := NetAt.new w A z.length c B ps.length d 30
  have hb : Below w.heap.size w (w.alloc (.cells #[.slice A z.length c, .slice B ps.length d] 30)) := bal (Below.refl _ _) _
  have HV := Lib.hid (l04Ok_any w.heap.size A z.length c B ps.length d z ps _ hN rfl rfl hn hm (h.next hb).1 (h.next hb).2 hid)
  have HC := Lib.hid h
  clear h hid
  by_cases hv : netB z ps = true
  · have hX : bridgePipesX z ps = bridgesTo z.length ps ps.length := if_pos hv
    have hC : bridgePipesC z ps = 0 := if_pos hv
    rw [hX, hC]
    rw [hv] at HV
    have hp := netB_parts hv
    have HP := Lib.hid hp
    clear hX hC hv hp
    go_enter Try.func43, Try.ntmps43
    go_wp2_with fail
    refine HV.out.mono ?_
    rintro e w1 ⟨rfl, hd⟩
    have hb1 := drawn_below hd
    have hN := hN.next hb1
    have hb := bnext hb hb1
    clear hb1 hd
    go_wp2_with fail
    refine (l04Bridges_any w.heap.size A z.length c B ps.length d ps _ hN (by have := HP.out.1; omega) HP.out.1.2 rfl HP.out.2.2.1 (HC.out.2.next hb) HP.out.2.2.2.1).mono ?_
    rintro e w2 ⟨A3, c3, rfl, o3, hb2⟩
    rw [intsV_length]
    rw [intsV_length] at o3
    have hs := hb.size
    have hb := bnext hb hb2
    go_wp2
    go_ret2
    exact retIC_mk rfl o3 hs hb
  · have hv : netB z ps = false := by simpa using hv
    have hX : bridgePipesX z ps = [] := by unfold bridgePipesX; rw [hv]; rfl
    have hC : bridgePipesC z ps = 1 := by unfold bridgePipesC; rw [hv]; rfl
    rw [hX, hC]
    rw [hv] at HV
    clear hX hC hv
    go_enter Try.func43, Try.ntmps43
    go_wp2_with fail
    refine HV.out.mono ?_
    rintro e w1 ⟨rfl, hd⟩
    have hb := bnext hb (drawn_below hd)
    go_wp2
    go_ret2
    exact retIC_nil rfl hb

end Go.Proofs.Ytmopnkkpcgiafaa
