/-
  Powers between readings: both sides.
-/
import Derived.Test.YthidaoemonjemacMa0
import Derived.Test.YthidaoemonjemacA2
import Derived.Test.YthidaoemonjemacA4
import Derived.Test.YthidaoemonjemacGs
import Derived.Deep.RegionHeld3
import Derived.Test.YthidaoemonjemacQu
import Derived.Test.YthidaoemonjemacTw
import Derived.IntWalk
import Derived.Deep.DeepCutAuto
namespace Go.Proofs.Ythidaoemonjemac
open Go.ChangeShapes Go.WideShapes Go.ChangeAt Go.RowKit

set_option maxRecDepth 100000
set_option linter.unusedVariables false

def rgAt (xs : List Rg) (i : Nat) : Rg := xs.getD i default
theorem rgAt_get {xs : List Rg} {i : Nat} {x : Rg} (h : xs[i]? = some x) : rgAt xs i = x := by unfold rgAt; rw [List.getD, h]; rfl
theorem rgAt_some (xs : List Rg) (i : Nat) (h : i < xs.length) : xs[i]? = some (rgAt xs i) := by
  rw [rgAt_get (List.getElem?_eq_getElem h)]; exact List.getElem?_eq_getElem h
/-- the power of the i-th pair -/
def pwI (xs : List Rg) (i : Nat) : Int := nearI ((rgAt xs (i + 1)).c - (rgAt xs i).c) ((rgAt xs (i + 1)).h - (rgAt xs i).h)
def powTo (xs : List Rg) (k : Nat) : List Int := (List.range k).map (pwI xs)
def powI (xs : List Rg) : List Int := powTo xs (xs.length - 1)
theorem powTo_succ (xs : List Rg) (k : Nat) : powTo xs (k + 1) = powTo xs k ++ [pwI xs k] := by unfold powTo; rw [List.range_succ, List.map_append]; rfl
theorem powTo_length (xs : List Rg) (k : Nat) : (powTo xs k).length = k := by simp [powTo]
theorem powI_length (xs : List Rg) : (powI xs).length = xs.length - 1 := powTo_length _ _
theorem powI_at (xs : List Rg) (i : Nat) (h : i < xs.length - 1) : (powI xs)[i]? = some (pwI xs i) := by simp [powI, powTo, h]
/-- what is known of a reading of valid ones -/
theorem okRs_one {xs : List Rg} (h : okRs xs = true) (i : Nat) (hi : i < xs.length) : 0 ≤ (rgAt xs i).h ∧ (rgAt xs i).h ≤ 100000 ∧ 0 ≤ (rgAt xs i).c ∧ (rgAt xs i).c ≤ 1000000000 := by
  obtain ⟨-, h2, -⟩ := okRs_parts h
  have := List.all_eq_true.1 h2 _ (List.mem_of_getElem? (rgAt_some xs i hi))
  unfold Rg.ok at this
  simp only [Bool.and_eq_true, inB_iff] at this
  omega
theorem okRs_two {xs : List Rg} (h : okRs xs = true) (i : Nat) (hi : i + 1 < xs.length) : (rgAt xs i).h < (rgAt xs (i + 1)).h ∧ (rgAt xs i).c ≤ (rgAt xs (i + 1)).c := by
  obtain ⟨-, -, h3⟩ := okRs_parts h
  have := riseBy_get h3 i hi _ _ (rgAt_some xs i (by omega)) (rgAt_some xs (i + 1) hi)
  unfold rgUp hUp cUp at this
  simp only [Bool.and_eq_true, decide_eq_true_eq] at this
  exact this
def powersOfX (xs : List Rg) : List Int := if okRs xs = true then powI xs else []
def powersOfC (xs : List Rg) : Int := if okRs xs = true then 0 else 1
theorem pwI_bd {xs : List Rg} (h : okRs xs = true) (i : Nat) (hi : i + 1 < xs.length) : -1000000001 ≤ pwI xs i ∧ pwI xs i ≤ 1000000001 := by
  have h1 := okRs_one h i (by omega)
  have h2 := okRs_one h (i + 1) hi
  have h3 := okRs_two h i hi
  exact nearI_bd _ _ 1000000000 (by omega) (by omega) (by omega)
theorem l06Powers_any (A : Option Addr) (n c : Nat) (xs : List Rg) (w : World) (h : RgsOk w A n xs) (hok : okRs xs = true) :
    Calls Try.prog 14 #[.slice A n c] w (RetRow 2 (intsV (powI xs)) w) := by
  obtain ⟨i0, hi, hz0, hz1, hz2⟩ := info_parts infoI64
  have hn : n ≤ 48 := by have := (okRs_parts hok).1; have := h.1.1; omega
  obtain rfl := h.1.1
  have HB := Lib.hid h.cells
  have HOK := Lib.hid hok
  clear h hok
  go_enter Try.func14, Try.ntmps14
  go_wp2
  go_loopw [3, 4] (fun v i wr => ∃ (k : Nat) (T : Option Addr) (td : Nat), 1 ≤ k ∧ (k ≤ xs.length ∨ k = 1) ∧ i = .int .i64 k ∧ v = .slice T (k - 1) td ∧ wr.ownsRow w.heap.size 2 1 (.slice T (k - 1) td) (k - 1) (intsV (powTo xs (k - 1))) ∧ Below w.heap.size w wr) (fun _ i _ => xs.length - (intOf i).toNat)
  case atStart => exact ⟨1, _, _, by omega, .inr rfl, rfl, rfl, owns_empty _ _ _ (Nat.le_refl _), (Below.refl _ _).alloc (Nat.le_refl _) _⟩
  case round =>
    obtain ⟨k, T, td, hk1, hk, rfl, rfl, hro, hb⟩ := hrel
    obtain ⟨r, hr⟩ : ∃ r, k = r + 1 := ⟨k - 1, by omega⟩
    have hkr : k - 1 = r := by omega
    rw [hkr] at hro ⊢
    clear hkr
    by_cases hlt : k < xs.length
    · have HS := Lib.hid (show intsV (powTo xs (r + 1)) = intsV (powTo xs r) ++ [Value.int .i64 (pwI xs r)] by rw [powTo_succ, intsV_snoc])
      obtain ⟨b, off, rfl, hrow⟩ := RgO.at (HB.out.next hb) (by omega)
      have ⟨p0, p1⟩ := hrow k _ (rgAt_some xs k hlt)
      have ⟨q0, q1⟩ := hrow r _ (rgAt_some xs r (by omega))
      have a1 := okRs_one HOK.out r (by omega)
      have a2 := okRs_one HOK.out k hlt
      have a3 := okRs_two HOK.out r (by omega)
      rw [← hr] at a3
      clear hrow
      have HPW : Hid (pwI xs r = nearI ((rgAt xs k).c - (rgAt xs r).c) ((rgAt xs k).h - (rgAt xs r).h)) := Lib.hid (by rw [hr]; rfl)
      generalize pwI xs r = v at *
      generalize rgAt xs k = p at *
      generalize rgAt xs r = q at *
      have HR := Lib.hid hr
      have hi2 : (0 : Int) ≤ (k : Int) - 1 := by omega
      have hi3 : ((k : Int) - 1).toNat = r := by omega
      have hi4 : (k : Int) - 1 < (xs.length : Int) := by omega
      have hr48 : r ≤ 48 := by omega
      clear hr
      go_wp2_with fail
      refine quiet_tailP 1 26 (by kernel_rfl) (by kernel_rfl) ?_
      simp only [List.take_succ_cons, List.take_zero, List.drop_succ_cons, List.drop_zero, Nat.reduceSub]
      refine ⟨_, ⟨rfl, fun _ => rfl⟩, ?_⟩
      unfold wpPure
      go_simp
      repeat (go_big_quiet_step ((go_at_call 25; exact quiet_same (l01Div_any _ _ _ (by omega) (by omega) (by omega) (by omega) (by omega)))))
      refine wpQuiet_nil ?_
      intro nq
      have hb1 : Below w.heap.size w (wr.drewN nq) := below_drewN hb nq
      have hro1 := owns_below hro (below_drewN (Below.refl wr.heap.size wr) nq) (Nat.le_refl _)
      rw [← HPW.out]
      go_wp2_with (at_builtin; refine wpList_append_own _ rfl _ _ 24 rfl w.heap.size 2 i0 (.int .i64 0) 1 8 Try.underlying24 hi hz0 hz1 hz2 rfl (by decide) _ _ _ rfl (hro1.alloc _) ⟨wr.heap.size, 0, none⟩ 1 1 [.int .i64 v] rfl rfl (cell_one_new _ _ _) (by simp [Value.oneCell']) ?_ ?_ ?_ ?_; (unfold maxLen; omega); (omega); (have := hb.size; simp; omega); intro v4 w4 hown4 hgrow4 _)
      refine mute_mk ?_
      obtain ⟨T4, d4, rfl⟩ := owns_form hown4
      go_wp2
      have hrk : r + 1 = k := HR.out.symm
      go_roundw
      case rel => exact ⟨k + 1, T4, d4, by omega, .inl (by omega), by go_num, by rw [Nat.add_sub_cancel, ← hrk], by rw [Nat.add_sub_cancel, ← hrk, HS.out]; exact hown4, (bal hb1 _).grown hgrow4 (by have := hb.size; simp; omega) (owns_ge hro)⟩
      case measure => simp [intOf]; omega
    · have e : r = xs.length - 1 := by omega
      have hfin := retRow_mk (vs := intsV (powI xs)) (w := w) rfl hro (by rw [e]; rfl) hb
      have HF := Lib.hid hfin
      clear hfin hro
      go_wp2
      go_ret
      exact HF.out
/-- a call that returns a meter: its readings, its powers -/
def RetM (A : Option Addr) (n c : Nat) (xs : List Rg) (w : World) (e : Ending) (w' : World) : Prop :=
  (okRs xs = true ∧ ∃ T td, e = .returned (.tuple #[.agg #[.slice A n c, .slice T (powI xs).length td], .int .i64 0]) ∧ w'.ownsRow w.heap.size 2 1 (.slice T (powI xs).length td) (powI xs).length (intsV (powI xs)) ∧ Below w.heap.size w w') ∨
  (okRs xs = false ∧ e = .returned (.tuple #[.agg #[.slice none 0 0, .slice none 0 0], .int .i64 1]) ∧ Below w.heap.size w w')
theorem results_meter {fn : Func} {p u : Tmp} (h : fn.results = #[.cell p 45, .tmp u]) (tmps : Array Value) (w : World) (g : Nat) (v0 v1 : Value) (hp : tmps.getD p undef = .pointer (some ⟨g, 0, none⟩)) (hw : Two w g v0 v1) :
    (results fn tmps).run Try.prog w = .ok (.tuple #[.agg #[v0, v1], tmps.getD u undef]) w := by
  have hp' : tmps[p]?.getD undef = .pointer (some ⟨g, 0, none⟩) := by simpa using hp
  have hr : w.rangeAt g 0 [v0, v1] := fun j v hj => by
    match j, hj with
    | 0, hj => cases hj; exact hw.1
    | 1, hj => cases hj; exact hw.2.1
  have hl := run_loadVar_mid (P := Try.prog) w g 0 45 _ _ hr Try.underlying45 rfl (by kernel_rfl)
  rw [results_cell_tmp h]
  simp [hp', asAddr, hl, Result.andThen]
theorem rg_pair (w : World) (x y : Rg) (T : TypeId) : RgO ((w.alloc (.cells #[.int .i64 x.h, .int .i64 x.c] T)).alloc (.cells #[.int .i64 y.h, .int .i64 y.c] T)).drew w.heap.size 0 x ∧ RgO ((w.alloc (.cells #[.int .i64 x.h, .int .i64 x.c] T)).alloc (.cells #[.int .i64 y.h, .int .i64 y.c] T)).drew (w.heap.size + 1) 0 y ∧ Below w.heap.size w ((w.alloc (.cells #[.int .i64 x.h, .int .i64 x.c] T)).alloc (.cells #[.int .i64 y.h, .int .i64 y.c] T)).drew := by
  have hb1 : Below w.heap.size w (w.alloc (.cells #[.int .i64 x.h, .int .i64 x.c] T)) := bal (Below.refl _ _) _
  have h1 := (RgO.new w x T).alloc (.cells #[.int .i64 y.h, .int .i64 y.c] T)
  have h2 := RgO.new (w.alloc (.cells #[.int .i64 x.h, .int .i64 x.c] T)) y T
  rw [World.size_alloc] at h2
  exact ⟨h1.next (below_drewN (Below.refl _ _) 1), h2.next (below_drewN (Below.refl _ _) 1), below_drewN (bal hb1 _) 1⟩
theorem newMeter_any (A : Option Addr) (n c : Nat) (xs : List Rg) (w : World) (h : RgsOk w A n xs) :
    Calls Try.prog 19 #[.slice A n c] w (RetM A n c xs w) := by
  have HVR := Lib.hid (fun wx (hb : Below w.heap.size w wx) => implVR_any A n c xs wx (h.go hb))
  have hba : Below w.heap.size w (w.alloc (.cells #[.slice none 0 0, .slice none 0 0] 45)) := bal (Below.refl _ _) _
  have hR := Two.new w (.slice none 0 0) (.slice none 0 0) 45
  by_cases ho : okRs xs = true
  rotate_left
  · have ho : okRs xs = false := by simpa only [Bool.not_eq_true] using ho
    clear h
    have HO := Lib.hid ho
    go_enter Try.func19, Try.ntmps19
    go_wp2_with fail
    refine (HVR.out _ hba).mono ?_
    rintro e w1 ⟨rfl, hb⟩
    rw [ho]
    clear ho
    have hR1 := hR.next (bnext (Below.refl _ _) hb)
    have hb1 := bnext hba hb
    have ⟨r0, r1, r2, r3⟩ := hR1
    go_wp2
    refine bodyPost_ret (results_meter Try.results19 _ _ w.heap.size _ _ rfl ((hR1.set0 (.slice none 0 0)).set1 (.slice none 0 0))) rfl (.inr ⟨HO.out, rfl, ?_⟩)
    exact (hb1.setCell (Nat.le_refl _) _).setCell (Nat.le_refl _) _
  obtain ⟨i0, hi, hz0, hz1, hz2⟩ := info_parts infoI64
  have hn : n ≤ 48 := by have := (okRs_parts ho).1; have := h.1.1; omega
  obtain rfl := h.1.1
  have HB := Lib.hid h.cells
  have HOK := Lib.hid ho
  clear h
  go_enter Try.func19, Try.ntmps19
  go_wp2_with fail
  refine (HVR.out _ hba).mono ?_
  rintro e w1 ⟨rfl, hb0⟩
  rw [ho]
  clear ho
  have HR := Lib.hid ((hR.next (bnext (Below.refl _ _) hb0)).next (bal (Below.refl _ _) (.cells #[.slice A xs.length c, .slice none 0 0] 45)))
  have hb1 : Below w.heap.size w (w1.alloc (.cells #[.slice A xs.length c, .slice none 0 0] 45)) := bal (bnext hba hb0) _
  have HM := Lib.hid (Two.new w1 (.slice A xs.length c) (.slice none 0 0) 45)
  have hsz : w.heap.size < w1.heap.size := by have := hb0.size; simp at this; omega
  clear hR hba hb0 HVR
  go_wp2
  go_loopw [5] (fun i wr => ∃ (k : Nat) (T : Option Addr) (td : Nat), 1 ≤ k ∧ (k ≤ xs.length ∨ k = 1) ∧ i = .int .i64 k ∧ Hid (Two wr w1.heap.size (.slice A xs.length c) (.slice T (k - 1) td)) ∧ Hid (Two wr w.heap.size (.slice none 0 0) (.slice none 0 0)) ∧ wr.ownsRow (w1.heap.size + 1) 2 1 (.slice T (k - 1) td) (k - 1) (intsV (powTo xs (k - 1))) ∧ Below w.heap.size w wr ∧ w1.heap.size + 1 ≤ wr.heap.size) (fun i _ => xs.length - (intOf i).toNat)
  case atStart => exact ⟨1, none, 0, by omega, .inr rfl, rfl, HM, HR, World.ownsRow_nil _ _ _ _, hb1, by simp⟩
  case round =>
    clear HM HR hb1
    obtain ⟨k, T, td, hk1, hk, rfl, HM, HR, hro, hb, hsz1⟩ := hrel
    obtain ⟨r, hr⟩ : ∃ r, k = r + 1 := ⟨k - 1, by omega⟩
    have hkr : k - 1 = r := by omega
    rw [hkr] at hro HM
    clear hkr
    by_cases hlt : k < xs.length
    · obtain ⟨b, off, rfl, hrow⟩ := RgO.at (HB.out.next hb) (by omega)
      have P0 := hrow k _ (rgAt_some xs k hlt)
      have Q0 := hrow r _ (rgAt_some xs r (by omega))
      have a1 := okRs_one HOK.out r (by omega)
      have a2 := okRs_one HOK.out k hlt
      have a3 := okRs_two HOK.out r (by omega)
      rw [← hr] at a3
      clear hrow
      have HS := Lib.hid (show intsV (powTo xs (r + 1)) = intsV (powTo xs r) ++ [Value.int .i64 (pwI xs r)] by rw [powTo_succ, intsV_snoc])
      have HPW : Hid (pwI xs r = nearI ((rgAt xs k).c - (rgAt xs r).c) ((rgAt xs k).h - (rgAt xs r).h)) := Lib.hid (by rw [hr]; rfl)
      generalize pwI xs r = v at *
      generalize rgAt xs k = p at *
      generalize rgAt xs r = q at *
      have HRK := Lib.hid hr
      have hi2 : (0 : Int) ≤ (k : Int) - 1 := by omega
      have hi3 : ((k : Int) - 1).toNat = r := by omega
      have hi4 : (k : Int) - 1 < (xs.length : Int) := by omega
      have hr48 : r ≤ 48 := by omega
      have hi6 : (1 : Int) ≤ (k : Int) := by omega
      have hi7 : (k : Int) - 1 + 1 ≤ (xs.length : Int) := by omega
      have hi8 : 1 ≤ k := by omega
      have hi5 : IntKind.i64.wrap ((k : Int) - 1) = (k : Int) - 1 := IntWalk.i64_in _ (by omega)
      clear hr
      have hdr : Below wr.heap.size wr wr.drew := below_drewN (Below.refl _ _) 1
      have ⟨p0, p1⟩ := P0
      have ⟨q0, q1⟩ := Q0
      have n0 := World.new_ne wr _ p0
      have n1 := World.new_ne wr _ q0
      go_upto_region 7 with fail
      go_cut [6, 7] (fun s6 s7 wx => ∃ b6 b7 : Nat, s6 = .pointer (some ⟨b6, 0, none⟩) ∧ s7 = .pointer (some ⟨b7, 0, none⟩) ∧ Hid (RgO wx b6 0 q) ∧ Hid (RgO wx b7 0 p) ∧ Below wr.heap.size wr wx)
      case first =>
        go_wp2_with fail
        go_region_held3 (fun w' => w'.cell? ⟨b, off + k * 2, none⟩ = some (.int .i64 p.h) ∧ w'.cell? ⟨b, off + k * 2 + 1, none⟩ = some (.int .i64 p.c) ∧ w'.cell? ⟨b, off + r * 2, none⟩ = some (.int .i64 q.h) ∧ w'.cell? ⟨b, off + r * 2 + 1, none⟩ = some (.int .i64 q.c)) (go_keep) ((fail))
        all_goals (
          have X1 := rg_pair wr q p 40
          have X2 := rg_pair wr p q 40
          go_wp2
          go_meet
          first | exact ⟨_, _, rfl, rfl, Lib.hid X1.1, Lib.hid X1.2.1, X1.2.2⟩ | exact ⟨_, _, rfl, rfl, Lib.hid X2.2.1, Lib.hid X2.1, X2.2.2⟩)
      case rest =>
        obtain ⟨b6, b7, rfl, rfl, H6, H7, hbx⟩ := hcut
        have hb2 := bnext hb hbx
        have HM2 := HM.out.next hbx
        have HR2 := Lib.hid (HR.out.next hbx)
        have hro2 := owns_below hro hbx (Nat.le_refl _)
        have hsz2 := hbx.size
        have ⟨q0, q1⟩ := H6.out
        have ⟨p0, p1⟩ := H7.out
        have ⟨m0, m1, m2, m3⟩ := HM2
        clear hbx hb hro HM HR
        go_wp2_with fail
        refine quiet_tailG (fun w' => w'.cell? ⟨w1.heap.size, 1, none⟩ = some (.slice T r td)) 2 13 14 (by kernel_rfl) (by kernel_rfl) (fun _ => m1) ?_
        simp only [List.take_succ_cons, List.take_zero, List.drop_succ_cons, List.drop_zero, Nat.reduceSub]
        iterate 2 (
          unfold wpPureS
          apply Exists.intro
          refine ⟨⟨rfl, fun wq hwq => ?hv⟩, ?_⟩
          case hv => ((try dsimp only at hwq); go_simp; try rfl)
          go_simp)
        unfold wpPureS
        repeat (go_big_quiet_step ((go_at_call 27; exact quiet_drawn (nearest_any _ _ _ (by omega) (by omega) (by omega) (by omega) (by omega)))))
        refine wpQuiet_nil ?_
        intro nq
        have hb3 : Below w.heap.size w (wc.drewN nq) := below_drewN hb2 nq
        have hbd : Below wc.heap.size wc (wc.drewN nq) := below_drewN (Below.refl _ _) nq
        have hro3 := owns_below hro2 hbd (Nat.le_refl _)
        have HM3 := HM2.next hbd
        have HR3 := Lib.hid (HR2.out.next hbd)
        have hsz3 := hbd.size
        rw [← HPW.out]
        unfold wpTailG
        go_simp
        have HM4 := HM3.next (bal (Below.refl _ _) (.cells #[.int .i64 v] 2))
        refine ⟨HM4.2.1, ?_⟩
        unfold wpTailG
        clear m0 m1 m2 m3 p0 p1 q0 q1
        go_wp2_with (at_builtin; refine wpList_append_own _ rfl _ _ 24 rfl (w1.heap.size + 1) 2 i0 (.int .i64 0) 1 8 Try.underlying24 hi hz0 hz1 hz2 rfl (by decide) _ _ _ rfl (hro3.alloc _) ⟨wc.heap.size, 0, none⟩ 1 1 [.int .i64 v] rfl rfl (cell_one_new _ _ _) (by simp [Value.oneCell']) ?_ ?_ ?_ ?_; (unfold maxLen; omega); (omega); (simp; omega); intro v4 w4 hown4 hgrow4 _; obtain ⟨T4, d4, rfl⟩ := owns_form hown4; have HM5 := HM4.grown hgrow4 (fun e => by have := (hro3.lt _ e.symm).1; omega); have ⟨m0, m1, m2, m3⟩ := HM5)
        refine mute_mk ?_
        have hb5 := ((bal hb3 (.cells #[.int .i64 v] 2)).grown hgrow4 (by have := hb3.size; simp; omega) (fun q hq => by have := owns_ge hro3 q hq; omega)).setCell (p := ⟨w1.heap.size, 1, none⟩) (by show w.heap.size ≤ w1.heap.size; omega) (.slice T4 (r + 1) d4)
        have hown5 := owns_set_low hown4 (a := ⟨w1.heap.size, 1, none⟩) (Nat.lt_succ_self _) (.slice T4 (r + 1) d4)
        have HM6 := Lib.hid (HM5.set1 (.slice T4 (r + 1) d4))
        have HR5 := Lib.hid (((HR3.out.next (bal (Below.refl _ _) (.cells #[.int .i64 v] 2))).grown hgrow4 (fun e => by have := (hro3.lt _ e.symm).1; omega)).setOther ⟨w1.heap.size, 1, none⟩ (.slice T4 (r + 1) d4) (by show w.heap.size ≠ w1.heap.size; omega))
        have hsz5 : w1.heap.size + 1 ≤ (w4.setCell ⟨w1.heap.size, 1, none⟩ (.slice T4 (r + 1) d4)).heap.size := by have := hgrow4.size; simp at *; omega
        have HOW := Lib.hid hown5
        clear hown4 hown5 HM5 HM4 HM3 hgrow4 m0 m1 m2 m3 hro3 hb3 hbd hb2 HM2 hro2
        go_wp2
        go_roundw
        case rel =>
          have hrk : r + 1 = k := HRK.out.symm
          exact ⟨k + 1, T4, d4, by omega, .inl (by omega), by go_num, Lib.hid (by rw [Nat.add_sub_cancel, ← hrk]; exact HM6.out), HR5, by rw [Nat.add_sub_cancel, ← hrk, HS.out]; exact HOW.out, hb5, hsz5⟩
        case measure => simp [intOf]; omega
    · have e : r = xs.length - 1 := by omega
      subst e
      have HX := Lib.hid (powI_length xs)
      have ⟨m0, m1, m2, m3⟩ := HM.out
      have ⟨r0, r1, r2, r3⟩ := HR.out
      go_wp2
      refine bodyPost_ret (results_meter Try.results19 _ _ w.heap.size _ _ rfl ((HR.out.set0 (.slice A xs.length c)).set1 (.slice T (xs.length - 1) td))) rfl (.inl ⟨HOK.out, T, td, by rw [HX.out]; rfl, ?_, ?_⟩)
      · rw [HX.out]
        exact owns_base (owns_set_low (owns_set_low hro (a := ⟨w.heap.size, 0, none⟩) (by show w.heap.size < w1.heap.size + 1; omega) _) (a := ⟨w.heap.size, 1, none⟩) (by show w.heap.size < w1.heap.size + 1; omega) _) (by omega)
      · exact (hb.setCell (Nat.le_refl _) _).setCell (Nat.le_refl _) _
theorem powersOfX_short (xs : List Rg) : (powersOfX xs).length ≤ 1048576 := by
  unfold powersOfX
  split
  · next h => rw [powI_length]; have := (okRs_parts h).1; omega
  · simp
end Go.Proofs.Ythidaoemonjemac
