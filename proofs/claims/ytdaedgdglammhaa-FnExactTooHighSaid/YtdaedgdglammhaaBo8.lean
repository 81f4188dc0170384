/-
  BoilingNodes of both sides.
-/
import Derived.Test.YtdaedgdglammhaaBo7
import Derived.Test.YtdaedgdglammhaaBo3
import Derived.Test.YtdaedgdglammhaaI0
namespace Go.Proofs.Ytdaedgdglammhaa
open Go.ChangeShapes Go.WideShapes Go.ChangeAt Go.RowKit Go.Shelf

set_option linter.unusedVariables false
set_option maxRecDepth 100000
set_option maxHeartbeats 4000000
def boilB (zs ds : List Int) (m : Int) (k : Nat) : Bool := decide (surF zs ds k < m)
def boilingNodesC (zs ds : List Int) (m : Int) : Int := nodC (inB m 0 1000000 && (prB zs && waB ds)) zs.length ds.length
def boilingNodesX (zs ds : List Int) (m : Int) : List Int := if boilingNodesC zs ds m = 0 then idxTo (boilB zs ds m) zs.length else []
theorem bn_ok {zs ds : List Int} {m : Int} (h : boilingNodesC zs ds m = 0) : inB m 0 1000000 = true ∧ ndC zs ds = 0 := by
  unfold boilingNodesC nodC at h
  split at h
  · next hh =>
    rw [Bool.and_eq_true] at hh
    refine ⟨hh.1, ?_⟩
    unfold ndC nodC
    rw [if_pos hh.2]
    exact h
  · cases h
theorem boilingNodesX_short (zs ds : List Int) (m : Int) : (boilingNodesX zs ds m).length ≤ 1048576 := by
  unfold boilingNodesX
  split
  · next h => have := (ndC_ok (bn_ok h).2).2.2.2; have := idxTo_length (boilB zs ds m) zs.length; omega
  · simp
theorem bnAsk_any (b : Nat) (x m : Int) (w : World) (hm : w.cell? ⟨b, 0, none⟩ = some (.int .i64 m)) :
    Calls Try.prog 90 #[.int .i64 x, .pointer (some ⟨b, 0, none⟩)] w fun e w' => e = .returned (.bool (decide (x < m))) ∧ Below w.heap.size w w' := by
  have hb : Below w.heap.size w w := Below.refl _ _
  go_enter Try.func90, Try.ntmps90
  go_wp2
  go_ret
  exact ⟨rfl, hb⟩
theorem implBoilingNodes_ic (A : Option Addr) (ca : Nat) (zs : List Int) (B : Option Addr) (cb : Nat) (ds : List Int) (m : Int) (w : World) (hA : CellsAt w A (intsV zs)) (hn : zs.length ≤ 1048576) (hB : CellsAt w B (intsV ds)) (hm : ds.length ≤ 1048576) :
    Calls Try.prog 33 #[.slice A zs.length ca, .slice B ds.length cb, .int .i64 m] w (RetIC (boilingNodesX zs ds m) (boilingNodesC zs ds m) w) := by
  have hb : Below w.heap.size w (w.alloc (.cells #[.int .i64 m] 2)) := bal (Below.refl _ _) _
  have c0 : (w.alloc (.cells #[.int .i64 m] 2)).cell? ⟨w.heap.size, 0, none⟩ = some (.int .i64 m) := by rw [World.cell?_alloc_at _ _ _ _ rfl]; rfl
  have HW := Lib.hid (fun (r : Bool) (W : World) (hW : Below w.heap.size w W) => waterCode_any A B ca cb zs ds r W (hA.next hW) (hB.next hW) hn hm)
  have H1 := Lib.hid (fun W => isMargin_any m W)
  have HW : Hid (∀ (W : World), Below w.heap.size w W → Calls Try.prog 87 #[.slice A zs.length ca, .slice B ds.length cb, .bool (inB m 0 1000000)] W fun e w' => e = .returned (.int .i64 (boilingNodesC zs ds m)) ∧ Below W.heap.size W w') := Lib.hid (fun W hW => HW.out (inB m 0 1000000) W hW)
  unfold boilingNodesX
  by_cases hc : boilingNodesC zs ds m = 0
  rotate_left
  · rw [if_neg hc]
    generalize boilingNodesC zs ds m = k at *
    generalize inB m 0 1000000 = r at *
    clear hA hB
    go_enter Try.func33, Try.ntmps33
    go_wp2_with (first | (go_at_call 81; refine (H1.out _).mono ?_; rintro e w' ⟨rfl, hb'⟩; have c0 := (hb'.cell (World.block_lt_of_cell? _ _ c0)).trans c0; have hb := bnext hb hb'; clear hb') | (go_at_call 87; refine (HW.out _ hb).mono ?_; rintro e w' ⟨rfl, hb'⟩; have c0 := (hb'.cell (World.block_lt_of_cell? _ _ c0)).trans c0; have hb := bnext hb hb'; clear hb'))
    go_ret2
    exact retIC_nil rfl hb
  rw [if_pos hc]
  obtain ⟨hm1, hnd⟩ := bn_ok hc
  obtain ⟨hz, hd, hl, h16⟩ := ndC_ok hnd
  have HW := Lib.hid (by have h := HW.out; rw [hc] at h; exact h)
  rw [hc]
  have HS := Lib.hid (fun (W : World) (hW : Below w.heap.size w W) => surpluses_any A B ca cb zs ds W (hA.next hW) (hB.next hW) hn hl hz hd)
  have hI : ∀ (S : Option Addr) (c : Nat) (W : World), CellsAt W S (intsV (surL zs ds)) → W.cell? ⟨w.heap.size, 0, none⟩ = some (.int .i64 m) → Calls Try.prog 88 #[.slice S zs.length c, .func (.func 90) #[] #[.pointer (some ⟨w.heap.size, 0, none⟩)]] W (RetRow 2 (intsV (idxTo (boilB zs ds m) zs.length)) W) := fun S c W h hq => by
    have k := indicesWhere_any S c (surL zs ds) 90 #[] #[.pointer (some ⟨w.heap.size, 0, none⟩)] (boilB zs ds m) W (enters_of Try.func90 (by kernel_rfl) rfl) h (by rw [surL_length]; exact h16)
      (fun wr k hk hbr => by
        rw [surL_length] at hk
        rw [surL_getD zs ds k hk]
        have := bnAsk_any w.heap.size (surF zs ds k) m wr ((hbr.cell (World.block_lt_of_cell? _ _ hq)).trans hq)
        simpa [boilB] using this)
    rw [surL_length] at k
    exact k
  have HI := Lib.hid hI
  have hlen := surL_length zs ds
  generalize surL zs ds = ss at *
  have HL := Lib.hid hlen
  have hix := idxTo_length (boilB zs ds m) zs.length
  generalize idxTo (boilB zs ds m) zs.length = ix at *
  generalize inB m 0 1000000 = r at *
  subst hm1
  clear hA hB hl hc hnd hlen hI
  go_enter Try.func33, Try.ntmps33
  go_wp2_with (first | (go_at_call 81; refine (H1.out _).mono ?_; rintro e w' ⟨rfl, hb'⟩; have c0 := (hb'.cell (World.block_lt_of_cell? _ _ c0)).trans c0; have hb := bnext hb hb'; clear hb') | (go_at_call 87; refine (HW.out _ hb).mono ?_; rintro e w' ⟨rfl, hb'⟩; have c0 := (hb'.cell (World.block_lt_of_cell? _ _ c0)).trans c0; have hb := bnext hb hb'; clear hb'))
  refine (HS.out _ hb).mono ?_
  rintro e w2 hq
  obtain ⟨S, sc, rfl, ho, hbs⟩ := retInts_of hq
  have hS := owns_cells ho
  have c0 := (hbs.cell (World.block_lt_of_cell? _ _ c0)).trans c0
  have hb := bnext hb hbs
  rw [HL.out] at ho ⊢
  clear hq ho hbs
  go_wp2_with fail
  refine (HI.out _ _ _ hS c0).mono ?_
  rintro e w3 hq
  obtain ⟨T, td, rfl, ho, hbs⟩ := retInts_of hq
  have HF := Lib.hid (retIC_mk (w := w) (C := 0) rfl ho hb.size (bnext hb hbs))
  clear hq ho
  go_wp2
  go_ret2
  exact HF.out

theorem l11Boiling_any (A : Option Addr) (ca : Nat) (zs : List Int) (B : Option Addr) (cb : Nat) (ds : List Int) (m : Int) (w : World) (hA : CellsAt w A (intsV zs)) (hn : zs.length ≤ 1048576) (hB : CellsAt w B (intsV ds)) (hm : ds.length ≤ 1048576) (hz : prB zs = true) (hd : waB ds = true) (hl : zs.length = ds.length) (h16 : zs.length ≤ 16) (m0 : 0 ≤ m) (m1 : m ≤ 1000000) :
    Calls Try.prog 86 #[.slice A zs.length ca, .slice B ds.length cb, .int .i64 m] w (RetRow 2 (intsV (idxTo (boilB zs ds m) zs.length)) w) := by
  have HA := Lib.hid hA
  have HB := Lib.hid hB
  have HZ := Lib.hid hz
  have HD := Lib.hid hd
  have HLEN := Lib.hid hl
  obtain ⟨i0, hi, hz0, hz1, hz2⟩ := info_parts infoI64
  clear hA hB hz hd hl
  go_enter Try.func86, Try.ntmps86
  go_wp2_with fail
  go_loopw [7, 8] (fun v i wr => ∃ (k l : Nat) (T : Option Addr) (td : Nat), k ≤ zs.length ∧ l ≤ k ∧ i = .int .i64 k ∧ v = .slice T l td ∧ wr.ownsRow w.heap.size 2 1 (.slice T l td) l (intsV (idxTo (boilB zs ds m) k)) ∧ Below w.heap.size w wr) (fun _ i _ => zs.length - (intOf i).toNat)
  case atStart => exact ⟨0, 0, _, _, by omega, by omega, rfl, rfl, owns_empty _ _ _ (Nat.le_refl _), bal (Below.refl _ _) _⟩
  case round =>
    obtain ⟨k, l, T, td, hk, hlk, rfl, rfl, hro, hb⟩ := hrel
    by_cases hlt : k < zs.length
    · obtain ⟨bp, op, rfl, q0⟩ := intsCell (HA.out.next hb) hlt
      obtain ⟨bd, od, rfl, q1⟩ := intsCell (HB.out.next hb) (show k < ds.length by rw [← HLEN.out]; exact hlt)
      have hk1 : (k : Int) < ((zs.length : Nat) : Int) := by omega
      have hk2 : (k : Int) < ((ds.length : Nat) : Int) := by have := HLEN.out; omega
      have d1 := allIn_one' HD.out (show k < ds.length by rw [← HLEN.out]; exact hlt)
      have z1 := allIn_one' HZ.out hlt
      have HS1 := Lib.hid (fun W => l11Steam_any (ds.getD k 0) W d1.2)
      have s1 := stm_bd (ds.getD k 0)
      have hyes : zs.getD k 0 < stmI (ds.getD k 0) + m → Hid (idxTo (boilB zs ds m) (k + 1) = idxTo (boilB zs ds m) k ++ [(k : Int)]) := fun h => Lib.hid (idxTo_yes _ _ (by unfold boilB surF; exact decide_eq_true (by omega)))
      have hno : ¬ zs.getD k 0 < stmI (ds.getD k 0) + m → Hid (idxTo (boilB zs ds m) (k + 1) = idxTo (boilB zs ds m) k) := fun h => Lib.hid (idxTo_no _ _ (by unfold boilB surF; exact decide_eq_false (by omega)))
      have hl48 : l ≤ 16 := by omega
      generalize stmI (ds.getD k 0) = t1 at *
      generalize zs.getD k 0 = y1 at *
      generalize ds.getD k 0 = x1 at *
      have w1 : IntKind.i64.wrap (t1 + m) = t1 + m := IntWalk.i64_in _ (by omega)
      by_cases hp : y1 < t1 + m
      · have HT := hyes hp
        have f1 : decide (y1 < t1 + m) = true := decide_eq_true hp
        clear hyes hno hp
        go_wp2_with fail
        go_region_held3 (fun w' => w'.cell? ⟨bp, op + k, none⟩ = some (.int .i64 y1) ∧ w'.cell? ⟨bd, od + k, none⟩ = some (.int .i64 x1) ∧ Below w.heap.size w w' ∧ w'.ownsRow w.heap.size 2 1 (.slice T l td) l (intsV (idxTo (boilB zs ds m) k))) (first | assumption | exact ⟨q0, q1, below_drewN hb 1, owns_below hro (below_drewN (Below.refl wr.heap.size wr) 1) (Nat.le_refl _)⟩ | (go_split_ands; exact ⟨(hb'.cell (World.block_lt_of_cell? _ _ (by assumption))).trans (by assumption), (hb'.cell (World.block_lt_of_cell? _ _ (by assumption))).trans (by assumption), bnext (by assumption) hb', owns_below (by assumption) hb' (Nat.le_refl _)⟩)) (first | (go_at_call 79; refine (HS1.out _).mono ?_; rintro e w' ⟨rfl, hb'⟩))
        all_goals rename_i hHeld
        all_goals obtain ⟨q0, q1, hb1, hro1⟩ := hHeld
        clear w1
        trace "STATEHERE"
        trace_state
        go_wp2_with (at_builtin; refine wpList_append_own _ rfl _ _ 31 rfl w.heap.size 2 i0 (.int .i64 0) 1 8 Try.underlying31 hi hz0 hz1 hz2 rfl (by decide) _ _ _ rfl (hro1.alloc _) ⟨w'.heap.size, 0, none⟩ 1 1 [.int .i64 (k : Int)] rfl rfl (cell_one_new _ _ _) (by simp [Value.oneCell']) ?_ ?_ ?_ ?_; (unfold maxLen; omega); (omega); (have := hb1.size; simp; omega); intro v4 w4 hown4 hgrow4 _; obtain ⟨T4, d4, rfl⟩ := owns_form hown4)
        go_roundw
        case rel => exact ⟨k + 1, l + 1, T4, d4, by omega, by omega, by go_num, rfl, by rw [HT.out, intsV_snoc]; exact hown4, (bal hb1 _).grown hgrow4 (by have := hb1.size; simp; omega) (owns_ge hro)⟩
        case measure => simp [intOf]; omega
      · have HT := hno hp
        have f1 : decide (y1 < t1 + m) = false := decide_eq_false hp
        clear hyes hno hp
        go_wp2_with fail
        go_region_held3 (fun w' => w'.cell? ⟨bp, op + k, none⟩ = some (.int .i64 y1) ∧ w'.cell? ⟨bd, od + k, none⟩ = some (.int .i64 x1) ∧ Below w.heap.size w w' ∧ w'.ownsRow w.heap.size 2 1 (.slice T l td) l (intsV (idxTo (boilB zs ds m) k))) (first | assumption | exact ⟨q0, q1, below_drewN hb 1, owns_below hro (below_drewN (Below.refl wr.heap.size wr) 1) (Nat.le_refl _)⟩ | (go_split_ands; exact ⟨(hb'.cell (World.block_lt_of_cell? _ _ (by assumption))).trans (by assumption), (hb'.cell (World.block_lt_of_cell? _ _ (by assumption))).trans (by assumption), bnext (by assumption) hb', owns_below (by assumption) hb' (Nat.le_refl _)⟩)) (first | (go_at_call 79; refine (HS1.out _).mono ?_; rintro e w' ⟨rfl, hb'⟩))
        all_goals rename_i hHeld
        all_goals obtain ⟨q0, q1, hb1, hro1⟩ := hHeld
        clear w1
        go_wp2
        go_roundw
        case rel => exact ⟨k + 1, l, T, td, by omega, by omega, by go_num, rfl, by rw [HT.out]; exact hro1, hb1⟩
        case measure => simp [intOf]; omega
    · have he : k = zs.length := by omega
      subst he
      have hfin := retRow_mk (vs := intsV (idxTo (boilB zs ds m) zs.length)) (w := w) rfl hro rfl hb
      have HF9 := Lib.hid hfin
      clear hfin hro
      go_wp2
      go_ret
      exact HF9.out
theorem specBoilingNodes_ic (A : Option Addr) (ca : Nat) (zs : List Int) (B : Option Addr) (cb : Nat) (ds : List Int) (m : Int) (w : World) (hA : CellsAt w A (intsV zs)) (hn : zs.length ≤ 1048576) (hB : CellsAt w B (intsV ds)) (hm : ds.length ≤ 1048576) :
    Calls Try.prog 32 #[.slice A zs.length ca, .slice B ds.length cb, .int .i64 m] w (RetIC (boilingNodesX zs ds m) (boilingNodesC zs ds m) w) := by
  have HW := Lib.hid (l11Nodes_any A B ca cb zs ds w hA hB hn hm)
  have hb : Below w.heap.size w w := Below.refl _ _
  change Hid (Calls _ _ _ _ fun e w' => e = .returned (.int .i64 (ndC zs ds)) ∧ _) at HW
  unfold boilingNodesX
  by_cases h1 : inB m 0 1000000 = true
  rotate_left
  · have h1' : inB m 0 1000000 = false := by simpa using h1
    have hc : boilingNodesC zs ds m = 2 := by unfold boilingNodesC nodC; rw [h1']; rfl
    rw [hc, if_neg (by decide)]
    clear hA hB hc
    generalize ndC zs ds = k at *
    by_cases hk : k = 2
    · have f1 : (k == 2) = true := by rw [hk]; rfl
      subst hk
      go_enter Try.func32, Try.ntmps32
      go_wp2_with (first | (go_at_call 78; refine (l11Margin_any _ _).mono ?_; rintro e w' ⟨rfl, rfl⟩) | (go_at_call 85; refine HW.out.mono ?_; rintro e w' ⟨rfl, hb'⟩; have hb := bnext hb hb'; clear hb'))
      go_ret2
      exact retIC_nil rfl hb
    · have f1 : (k == 2) = false := beq_eq_false_iff_ne.2 hk
      go_enter Try.func32, Try.ntmps32
      go_wp2_with (first | (go_at_call 78; refine (l11Margin_any _ _).mono ?_; rintro e w' ⟨rfl, rfl⟩) | (go_at_call 85; refine HW.out.mono ?_; rintro e w' ⟨rfl, hb'⟩; have hb := bnext hb hb'; clear hb'))
      go_ret2
      exact retIC_nil rfl hb
  have q1 := inB_iff.1 h1
  have hpn : boilingNodesC zs ds m = ndC zs ds := by unfold boilingNodesC ndC; rw [h1, Bool.true_and]
  rw [hpn]
  by_cases hc : ndC zs ds = 0
  rotate_left
  · rw [if_neg hc]
    clear hpn hA hB
    generalize ndC zs ds = k at *
    by_cases hk : k = 2
    · have f1 : (k == 2) = true := by rw [hk]; rfl
      subst hk
      go_enter Try.func32, Try.ntmps32
      go_wp2_with (first | (go_at_call 78; refine (l11Margin_any _ _).mono ?_; rintro e w' ⟨rfl, rfl⟩) | (go_at_call 85; refine HW.out.mono ?_; rintro e w' ⟨rfl, hb'⟩; have hb := bnext hb hb'; clear hb'))
      go_ret2
      exact retIC_nil rfl hb
    · have f1 : (k == 2) = false := beq_eq_false_iff_ne.2 hk
      go_enter Try.func32, Try.ntmps32
      go_wp2_with (first | (go_at_call 78; refine (l11Margin_any _ _).mono ?_; rintro e w' ⟨rfl, rfl⟩) | (go_at_call 85; refine HW.out.mono ?_; rintro e w' ⟨rfl, hb'⟩; have hb := bnext hb hb'; clear hb'))
      go_ret2
      exact retIC_nil rfl hb
  rw [if_pos hc]
  have HW := Lib.hid (by have h := HW.out; rw [hc] at h; exact h)
  obtain ⟨hz, hd, hl, h16⟩ := ndC_ok hc
  have HX := Lib.hid (fun (W : World) (hW : Below w.heap.size w W) => l11Boiling_any A ca zs B cb ds m W (hA.next hW) hn (hB.next hW) hm hz hd hl h16 q1.1 q1.2)
  rw [hc]
  have hix := idxTo_length (boilB zs ds m) zs.length
  generalize idxTo (boilB zs ds m) zs.length = ix at *
  clear hA hB hc hpn hl
  go_enter Try.func32, Try.ntmps32
  go_wp2_with (first | (go_at_call 78; refine (l11Margin_any _ _).mono ?_; rintro e w' ⟨rfl, rfl⟩) | (go_at_call 85; refine HW.out.mono ?_; rintro e w' ⟨rfl, hb'⟩; have hb := bnext hb hb'; clear hb'))
  refine (HX.out _ hb).mono ?_
  rintro e w3 hq
  obtain ⟨T, td, rfl, ho, hbs⟩ := retInts_of hq
  have HF := Lib.hid (retIC_mk (w := w) (C := 0) rfl ho hb.size (bnext hb hbs))
  clear hq ho
  go_wp2
  go_ret2
  exact HF.out
end Go.Proofs.Ytdaedgdglammhaa
