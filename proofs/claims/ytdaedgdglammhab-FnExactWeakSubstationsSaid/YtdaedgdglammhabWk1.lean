/-
  WeakSubstations of both sides.
-/
import Derived.Test.YtdaedgdglammhabWk0
import Derived.Test.YtdaedgdglammhabEy1
import Derived.Test.YtdaedgdglammhabGs
namespace Go.Proofs.Ytdaedgdglammhab
open Go.ChangeShapes Go.WideShapes Go.ChangeAt Go.RowKit Go.Shelf

set_option linter.unusedVariables false
set_option maxRecDepth 100000
set_option maxHeartbeats 4000000
def idxS (f : Nat → Bool) (k : Nat) : List Int := ((List.range k).filter f).map fun (i : Nat) => (i : Int)
theorem idxS_yes (f : Nat → Bool) (k : Nat) (h : f k = true) : idxS f (k + 1) = idxS f k ++ [(k : Int)] := by
  unfold idxS; rw [List.range_succ, List.filter_append, List.map_append]; simp [h]
theorem idxS_no (f : Nat → Bool) (k : Nat) (h : f k = false) : idxS f (k + 1) = idxS f k := by
  unfold idxS; rw [List.range_succ, List.filter_append, List.map_append]; simp [h]
theorem idxS_length (f : Nat → Bool) (k : Nat) : (idxS f k).length ≤ k := by
  unfold idxS; rw [List.length_map]; exact Nat.le_trans (List.length_filter_le _ _) (by simp)
def sbAt (xs : List Sb) (k : Nat) : Sb := xs.getD k default
theorem sbAt_some (xs : List Sb) (k : Nat) (h : k < xs.length) : xs[k]? = some (sbAt xs k) := by
  unfold sbAt
  rw [List.getD_eq_getElem?_getD, List.getElem?_eq_getElem h]
  rfl
def weakB (xs : List Sb) (p : Int) (gs : List Int) (k : Nat) : Bool := decide (100000 < needQ (sbAt xs k) p (gs.getD k 0))
def weakSubstationsC (xs : List Sb) (p : Int) (gs : List Int) : Int := loadC xs p gs
def weakSubstationsX (xs : List Sb) (p : Int) (gs : List Int) : List Int := if loadC xs p gs = 0 then idxS (weakB xs p gs) xs.length else []
theorem okSbs_parts' {xs : List Sb} (h : okSbs xs = true) : xs.length ≤ 12 ∧ xs.all okSb = true := ⟨(okSbs_parts h).1, (okSbs_parts h).2.1⟩
theorem weakSubstationsX_short (xs : List Sb) (p : Int) (gs : List Int) : (weakSubstationsX xs p gs).length ≤ 1048576 := by
  unfold weakSubstationsX
  split
  · next h => have := (okSbs_parts (loadC_ok h).1).1; have := idxS_length (weakB xs p gs) xs.length; omega
  · simp
theorem sbAt_ok {xs : List Sb} (h : okSbs xs = true) {k : Nat} (hk : k < xs.length) : okSb (sbAt xs k) = true :=
  List.all_eq_true.1 (okSbs_parts h).2.1 _ (List.mem_of_getElem? (sbAt_some xs k hk))
theorem gs_bd {gs : List Int} (h : allIn 0 100000000 gs = true) {k : Nat} (hk : k < gs.length) : inB (gs.getD k 0) 0 100000000 = true := by
  unfold allIn at h
  have := List.all_eq_true.1 h (gs.getD k 0) (by rw [List.getD_eq_getElem?_getD, List.getElem?_eq_getElem hk]; exact List.getElem_mem hk)
  exact inB_true (by simpa using this)
theorem implPF_ok (x : Sb) (p g : Int) (w : World) (hs : x.id.size ≤ maxLen) (hx : okSb x = true) (h1 : inB p 0 18000 = true) (h2 : inB g 0 100000000 = true) :
    Calls Try.prog 20 #[.agg #[.string x.id, .int .i64 x.nd, .int .i64 x.tr, .int .i64 x.su, .int .i64 x.re], .int .i64 p, .int .i64 g] w fun e w' => e = .returned (.tuple #[.int .i64 (lfV 100000 (needQ x p g)), .int .i64 (lfC 100000 (needQ x p g))]) ∧ Below w.heap.size w w' := by
  have k := implPrimaryFlow_any x p g w hs
  have hv : pfV x p g = lfV 100000 (needQ x p g) := by unfold pfV; rw [hx, h1, h2]; exact if_pos rfl
  have hc : pfC x p g = lfC 100000 (needQ x p g) := by unfold pfC; rw [hx, h1, h2]; exact if_pos rfl
  rw [hv, hc] at k
  exact k
theorem implWeakSubstations_ic (A : Option Addr) (n c : Nat) (xs : List Sb) (p : Int) (G : Option Addr) (gc : Nat) (gs : List Int) (w : World) (h : SbsOk w A n xs) (hG : CellsAt w G (intsV gs)) (hg : gs.length ≤ 1048576) :
    Calls Try.prog 36 #[.slice A n c, .int .i64 p, .slice G gs.length gc] w (RetIC (weakSubstationsX xs p gs) (weakSubstationsC xs p gs) w) := by
  have HL := Lib.hid (loadsCode_any A n c xs p G gc gs w h hG hg)
  have hn := h.2
  obtain rfl := h.1.1
  have hb : Below w.heap.size w w := Below.refl _ _
  unfold weakSubstationsX weakSubstationsC
  by_cases hc : loadC xs p gs = 0
  rotate_left
  · rw [if_neg hc]
    generalize loadC xs p gs = k at *
    clear h hG
    go_enter Try.func36, Try.ntmps36
    go_wp2_with ((go_at_call 69; refine HL.out.mono ?_; rintro e w' ⟨rfl, hb'⟩; have hb := bnext hb hb'; clear hb'))
    go_ret2
    exact retIC_nil rfl hb
  rw [if_pos hc]
  obtain ⟨hok, h1, hlen, hall⟩ := loadC_ok hc
  have HL := Lib.hid (by have k := HL.out; rw [hc] at k; exact k)
  rw [hc]
  have h12 := (okSbs_parts hok).1
  have HB := Lib.hid h.cells
  have HG := Lib.hid hG
  have HID := Lib.hid h.1.2.2.2
  have HOK := Lib.hid (fun (k : Nat) (hk : k < xs.length) => sbAt_ok hok hk)
  have HGB := Lib.hid (fun (k : Nat) (hk : k < gs.length) => gs_bd hall hk)
  have HP := Lib.hid h1
  have HLEN := Lib.hid hlen
  obtain ⟨i0, hi, hz0, hz1, hz2⟩ := info_parts infoI64
  clear h hG hc hok h1 hlen hall
  go_enter Try.func36, Try.ntmps36
  go_wp2_with ((go_at_call 69; refine HL.out.mono ?_; rintro e w' ⟨rfl, hb'⟩; have hb := bnext hb hb'; clear hb'))
  go_loopw [9, 23] (fun v i wr => ∃ (k l : Nat) (T : Option Addr) (td : Nat), k ≤ xs.length ∧ l ≤ k ∧ i = .int .i64 k ∧ v = .slice T l td ∧ wr.ownsRow w.heap.size 2 1 (.slice T l td) l (intsV (idxS (weakB xs p gs) k)) ∧ Below w.heap.size w wr) (fun _ i _ => xs.length - (intOf i).toNat)
  case atStart => exact ⟨0, 0, none, 0, by omega, by omega, rfl, rfl, World.ownsRow_nil _ _ _ _, by assumption⟩
  case round =>
    obtain ⟨k, l, T, td, hk, hlk, rfl, rfl, hro, hb⟩ := hrel
    by_cases hlt : k < xs.length
    · have hkg : k < gs.length := by rw [HLEN.out]; exact hlt
      obtain ⟨bg, og, rfl, g0⟩ := gsCell (HG.out.next hb) hkg
      obtain ⟨b, off, rfl, hrow⟩ := SbO.at (HB.out.next hb) (by omega)
      have hp := sbAt_some xs k hlt
      have ⟨p0, p1, p2, p3, p4⟩ := hrow k _ hp
      have hk1 : (k : Int) < ((xs.length : Nat) : Int) := by omega
      have hk2 : (k : Int) < ((gs.length : Nat) : Int) := by omega
      have HC := Lib.hid (fun W => implPF_ok (sbAt xs k) p (gs.getD k 0) W (HID.out _ (List.mem_of_getElem? hp)) (HOK.out k hlt) HP.out (HGB.out k hkg))
      have hl48 : l ≤ 12 := by omega
      have hyes : 100000 < needQ (sbAt xs k) p (gs.getD k 0) → Hid (idxS (weakB xs p gs) (k + 1) = idxS (weakB xs p gs) k ++ [(k : Int)]) := fun h => Lib.hid (idxS_yes _ _ (by unfold weakB; exact decide_eq_true h))
      have hno : ¬ 100000 < needQ (sbAt xs k) p (gs.getD k 0) → Hid (idxS (weakB xs p gs) (k + 1) = idxS (weakB xs p gs) k) := fun h => Lib.hid (idxS_no _ _ (by unfold weakB; exact decide_eq_false h))
      generalize needQ (sbAt xs k) p (gs.getD k 0) = r at *
      generalize sbAt xs k = x at *
      generalize gs.getD k 0 = g at *
      clear hrow hp
      by_cases hw : 100000 < r
      · have HT := hyes hw
        have hc6 : lfC 100000 r = 6 := if_neg (by omega)
        rw [hc6] at HC
        clear hyes hno hw hc6
        have ⟨m0, m1, m2, m3, m4⟩ := SbO.new wr x 34
        have hbx : Below w.heap.size w (wr.alloc (.cells #[.string x.id, .int .i64 x.nd, .int .i64 x.tr, .int .i64 x.su, .int .i64 x.re] 34)) := bal hb _
        have hrx := owns_below hro (bal (Below.refl _ _) (.cells #[.string x.id, .int .i64 x.nd, .int .i64 x.tr, .int .i64 x.su, .int .i64 x.re] 34)) (Nat.le_refl _)
        have g1 := ((bal (Below.refl wr.heap.size wr) (.cells #[.string x.id, .int .i64 x.nd, .int .i64 x.tr, .int .i64 x.su, .int .i64 x.re] 34)).cell (World.block_lt_of_cell? _ _ g0)).trans g0
        go_wp2_with fail
        go_region_held3 (fun w' => w'.cell? ⟨wr.heap.size, 0, none⟩ = some (.string x.id) ∧ w'.cell? ⟨wr.heap.size, 1, none⟩ = some (.int .i64 x.nd) ∧ w'.cell? ⟨wr.heap.size, 2, none⟩ = some (.int .i64 x.tr) ∧ w'.cell? ⟨wr.heap.size, 3, none⟩ = some (.int .i64 x.su) ∧ w'.cell? ⟨wr.heap.size, 4, none⟩ = some (.int .i64 x.re) ∧ w'.cell? ⟨bg, og + k, none⟩ = some (.int .i64 g) ∧ Below w.heap.size w w' ∧ w'.ownsRow w.heap.size 2 1 (.slice T l td) l (intsV (idxS (weakB xs p gs) k))) (first | assumption | exact ⟨m0, m1, m2, m3, m4, g1, below_drewN hbx 1, owns_below hrx (below_drewN (Below.refl _ _) 1) (Nat.le_refl _)⟩ | (go_split_ands; exact ⟨(hb'.cell (World.block_lt_of_cell? _ _ (by assumption))).trans (by assumption), (hb'.cell (World.block_lt_of_cell? _ _ (by assumption))).trans (by assumption), (hb'.cell (World.block_lt_of_cell? _ _ (by assumption))).trans (by assumption), (hb'.cell (World.block_lt_of_cell? _ _ (by assumption))).trans (by assumption), (hb'.cell (World.block_lt_of_cell? _ _ (by assumption))).trans (by assumption), (hb'.cell (World.block_lt_of_cell? _ _ (by assumption))).trans (by assumption), bnext (by assumption) hb', owns_below (by assumption) hb' (Nat.le_refl _)⟩)) (first | (go_at_call 20; refine (HC.out _).mono ?_; rintro e w' ⟨rfl, hb'⟩))
        all_goals rename_i hHeld
        all_goals obtain ⟨-, -, -, -, -, -, hb1, hro1⟩ := hHeld
        go_wp2_with (at_builtin; refine wpList_append_own _ rfl _ _ 37 rfl w.heap.size 2 i0 (.int .i64 0) 1 8 Try.underlying37 hi hz0 hz1 hz2 rfl (by decide) _ _ _ rfl (hro1.alloc _) ⟨w'.heap.size, 0, none⟩ 1 1 [.int .i64 (k : Int)] rfl rfl (cell_one_new _ _ _) (by simp [Value.oneCell']) ?_ ?_ ?_ ?_; (unfold maxLen; omega); (omega); (have := hb1.size; simp; omega); intro v4 w4 hown4 hgrow4 _; obtain ⟨T4, d4, rfl⟩ := owns_form hown4)
        go_roundw
        case rel => exact ⟨k + 1, l + 1, T4, d4, by omega, by omega, by go_num, rfl, by rw [HT.out, intsV_snoc]; exact hown4, (bal hb1 _).grown hgrow4 (by have := hb1.size; simp; omega) (owns_ge hro)⟩
        case measure => simp [intOf]; omega
      · have HT := hno hw
        have hc0 : lfC 100000 r = 0 := if_pos (by omega)
        rw [hc0] at HC
        clear hyes hno hw hc0
        have ⟨m0, m1, m2, m3, m4⟩ := SbO.new wr x 34
        have hbx : Below w.heap.size w (wr.alloc (.cells #[.string x.id, .int .i64 x.nd, .int .i64 x.tr, .int .i64 x.su, .int .i64 x.re] 34)) := bal hb _
        have hrx := owns_below hro (bal (Below.refl _ _) (.cells #[.string x.id, .int .i64 x.nd, .int .i64 x.tr, .int .i64 x.su, .int .i64 x.re] 34)) (Nat.le_refl _)
        have g1 := ((bal (Below.refl wr.heap.size wr) (.cells #[.string x.id, .int .i64 x.nd, .int .i64 x.tr, .int .i64 x.su, .int .i64 x.re] 34)).cell (World.block_lt_of_cell? _ _ g0)).trans g0
        go_wp2_with fail
        go_region_held3 (fun w' => w'.cell? ⟨wr.heap.size, 0, none⟩ = some (.string x.id) ∧ w'.cell? ⟨wr.heap.size, 1, none⟩ = some (.int .i64 x.nd) ∧ w'.cell? ⟨wr.heap.size, 2, none⟩ = some (.int .i64 x.tr) ∧ w'.cell? ⟨wr.heap.size, 3, none⟩ = some (.int .i64 x.su) ∧ w'.cell? ⟨wr.heap.size, 4, none⟩ = some (.int .i64 x.re) ∧ w'.cell? ⟨bg, og + k, none⟩ = some (.int .i64 g) ∧ Below w.heap.size w w' ∧ w'.ownsRow w.heap.size 2 1 (.slice T l td) l (intsV (idxS (weakB xs p gs) k))) (first | assumption | exact ⟨m0, m1, m2, m3, m4, g1, below_drewN hbx 1, owns_below hrx (below_drewN (Below.refl _ _) 1) (Nat.le_refl _)⟩ | (go_split_ands; exact ⟨(hb'.cell (World.block_lt_of_cell? _ _ (by assumption))).trans (by assumption), (hb'.cell (World.block_lt_of_cell? _ _ (by assumption))).trans (by assumption), (hb'.cell (World.block_lt_of_cell? _ _ (by assumption))).trans (by assumption), (hb'.cell (World.block_lt_of_cell? _ _ (by assumption))).trans (by assumption), (hb'.cell (World.block_lt_of_cell? _ _ (by assumption))).trans (by assumption), (hb'.cell (World.block_lt_of_cell? _ _ (by assumption))).trans (by assumption), bnext (by assumption) hb', owns_below (by assumption) hb' (Nat.le_refl _)⟩)) (first | (go_at_call 20; refine (HC.out _).mono ?_; rintro e w' ⟨rfl, hb'⟩))
        all_goals rename_i hHeld
        all_goals obtain ⟨-, -, -, -, -, -, hb1, hro1⟩ := hHeld
        go_wp2
        go_roundw
        case rel => exact ⟨k + 1, l, T, td, by omega, by omega, by go_num, rfl, by rw [HT.out]; exact hro1, hb1⟩
        case measure => simp [intOf]; omega
    · have he : k = xs.length := by omega
      subst he
      have HF := Lib.hid (retIC_mk (w := w) (C := 0) rfl hro (Nat.le_refl _) hb)
      clear hro
      go_wp2
      go_ret2
      exact HF.out

theorem specWeakSubstations_ic (A : Option Addr) (n c : Nat) (xs : List Sb) (p : Int) (G : Option Addr) (gc : Nat) (gs : List Int) (w : World) (h : SbsOk w A n xs) (hG : CellsAt w G (intsV gs)) (hg : gs.length ≤ 1048576) :
    Calls Try.prog 35 #[.slice A n c, .int .i64 p, .slice G gs.length gc] w (RetIC (weakSubstationsX xs p gs) (weakSubstationsC xs p gs) w) := by
  have HL := Lib.hid (l12Ask_any A n c xs p G gc gs w h hG hg)
  have hn := h.2
  obtain rfl := h.1.1
  have hb : Below w.heap.size w w := Below.refl _ _
  unfold weakSubstationsX weakSubstationsC
  by_cases hc : loadC xs p gs = 0
  rotate_left
  · rw [if_neg hc]
    generalize loadC xs p gs = k at *
    clear h hG
    go_enter Try.func35, Try.ntmps35
    go_wp2_with ((go_at_call 67; refine HL.out.mono ?_; rintro e w' ⟨rfl, hb'⟩; have hb := bnext hb hb'; clear hb'))
    go_ret2
    exact retIC_nil rfl hb
  rw [if_pos hc]
  obtain ⟨hok, h1, hlen, hall⟩ := loadC_ok hc
  have HL := Lib.hid (by have k := HL.out; rw [hc] at k; exact k)
  rw [hc]
  have h12 := (okSbs_parts hok).1
  have HB := Lib.hid h.cells
  have HG := Lib.hid hG
  have q1 := inB_iff.1 h1
  have HND := Lib.hid (fun (W : World) (b o k : Nat) (hk : k < xs.length) (hx : SbO W b o (sbAt xs k)) => l12Needed_any b o (sbAt xs k) p (gs.getD k 0) W hx (okSb_ex (sbAt_ok hok hk) p q1.1 q1.2))
  have HLEN := Lib.hid hlen
  obtain ⟨i0, hi, hz0, hz1, hz2⟩ := info_parts infoI64
  clear h hG hc hok h1 hlen hall
  go_enter Try.func35, Try.ntmps35
  go_wp2_with ((go_at_call 67; refine HL.out.mono ?_; rintro e w' ⟨rfl, hb'⟩; have hb := bnext hb hb'; clear hb'))
  go_loopw [9, 10] (fun v i wr => ∃ (k l : Nat) (T : Option Addr) (td : Nat), k ≤ xs.length ∧ l ≤ k ∧ i = .int .i64 k ∧ v = .slice T l td ∧ wr.ownsRow w.heap.size 2 1 (.slice T l td) l (intsV (idxS (weakB xs p gs) k)) ∧ Below w.heap.size w wr) (fun _ i _ => xs.length - (intOf i).toNat)
  case atStart => exact ⟨0, 0, _, _, by omega, by omega, rfl, rfl, owns_empty _ _ _ hb.size, bal hb _⟩
  case round =>
    obtain ⟨k, l, T, td, hk, hlk, rfl, rfl, hro, hb⟩ := hrel
    by_cases hlt : k < xs.length
    · have hkg : k < gs.length := by rw [HLEN.out]; exact hlt
      obtain ⟨bg, og, rfl, g0⟩ := gsCell (HG.out.next hb) hkg
      obtain ⟨b, off, rfl, hrow⟩ := SbO.at (HB.out.next hb) (by omega)
      have P := hrow k _ (sbAt_some xs k hlt)
      have hk1 : (k : Int) < ((xs.length : Nat) : Int) := by omega
      have hk2 : (k : Int) < ((gs.length : Nat) : Int) := by omega
      have HC := Lib.hid (HND.out wr.drew b (off + k * 5) k hlt P)
      have hl48 : l ≤ 12 := by omega
      have hyes : 100000 < needQ (sbAt xs k) p (gs.getD k 0) → Hid (idxS (weakB xs p gs) (k + 1) = idxS (weakB xs p gs) k ++ [(k : Int)]) := fun h => Lib.hid (idxS_yes _ _ (by unfold weakB; exact decide_eq_true h))
      have hno : ¬ 100000 < needQ (sbAt xs k) p (gs.getD k 0) → Hid (idxS (weakB xs p gs) (k + 1) = idxS (weakB xs p gs) k) := fun h => Lib.hid (idxS_no _ _ (by unfold weakB; exact decide_eq_false h))
      generalize needQ (sbAt xs k) p (gs.getD k 0) = r at *
      generalize gs.getD k 0 = g at *
      clear hrow P
      by_cases hw : 100000 < r
      · have HT := hyes hw
        have f1 : decide (100000 < r) = true := decide_eq_true hw
        clear hyes hno hw
        go_wp2_with fail
        go_region_held3 (fun w' => w'.cell? ⟨bg, og + k, none⟩ = some (.int .i64 g) ∧ Below w.heap.size w w' ∧ w'.ownsRow w.heap.size 2 1 (.slice T l td) l (intsV (idxS (weakB xs p gs) k))) (first | assumption | exact ⟨g0, below_drewN hb 1, owns_below hro (below_drewN (Below.refl _ _) 1) (Nat.le_refl _)⟩ | (go_split_ands; exact ⟨(hb'.cell (World.block_lt_of_cell? _ _ (by assumption))).trans (by assumption), bnext (by assumption) hb', owns_below (by assumption) hb' (Nat.le_refl _)⟩)) (first | (go_at_call 50; refine HC.out.mono ?_; rintro e w' ⟨rfl, hb'⟩))
        all_goals rename_i hHeld
        all_goals obtain ⟨-, hb1, hro1⟩ := hHeld
        go_wp2_with (at_builtin; refine wpList_append_own _ rfl _ _ 37 rfl w.heap.size 2 i0 (.int .i64 0) 1 8 Try.underlying37 hi hz0 hz1 hz2 rfl (by decide) _ _ _ rfl (hro1.alloc _) ⟨w'.heap.size, 0, none⟩ 1 1 [.int .i64 (k : Int)] rfl rfl (cell_one_new _ _ _) (by simp [Value.oneCell']) ?_ ?_ ?_ ?_; (unfold maxLen; omega); (omega); (have := hb1.size; simp; omega); intro v4 w4 hown4 hgrow4 _; obtain ⟨T4, d4, rfl⟩ := owns_form hown4)
        go_roundw
        case rel => exact ⟨k + 1, l + 1, T4, d4, by omega, by omega, by go_num, rfl, by rw [HT.out, intsV_snoc]; exact hown4, (bal hb1 _).grown hgrow4 (by have := hb1.size; simp; omega) (owns_ge hro)⟩
        case measure => simp [intOf]; omega
      · have HT := hno hw
        have f1 : decide (100000 < r) = false := decide_eq_false hw
        clear hyes hno hw
        go_wp2_with fail
        go_region_held3 (fun w' => w'.cell? ⟨bg, og + k, none⟩ = some (.int .i64 g) ∧ Below w.heap.size w w' ∧ w'.ownsRow w.heap.size 2 1 (.slice T l td) l (intsV (idxS (weakB xs p gs) k))) (first | assumption | exact ⟨g0, below_drewN hb 1, owns_below hro (below_drewN (Below.refl _ _) 1) (Nat.le_refl _)⟩ | (go_split_ands; exact ⟨(hb'.cell (World.block_lt_of_cell? _ _ (by assumption))).trans (by assumption), bnext (by assumption) hb', owns_below (by assumption) hb' (Nat.le_refl _)⟩)) (first | (go_at_call 50; refine HC.out.mono ?_; rintro e w' ⟨rfl, hb'⟩))
        all_goals rename_i hHeld
        all_goals obtain ⟨-, hb1, hro1⟩ := hHeld
        go_wp2
        go_roundw
        case rel => exact ⟨k + 1, l, T, td, by omega, by omega, by go_num, rfl, by rw [HT.out]; exact hro1, hb1⟩
        case measure => simp [intOf]; omega
    · have he : k = xs.length := by omega
      subst he
      have HF := Lib.hid (retIC_mk (w := w) (C := 0) rfl hro (Nat.le_refl _) hb)
      clear hro
      go_wp2
      go_ret2
      exact HF.out
end Go.Proofs.Ytdaedgdglammhab
