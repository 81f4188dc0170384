/-
  The pressure of steam rises with its temperature; by how much a pressure is greater; HottestWater of both sides.
-/
import Derived.Test.YtdaedgdglammhaaLw0
import Derived.Deep.RegionHeld3
namespace Go.Proofs.Ytdaedgdglammhaa
open Go.ChangeShapes Go.WideShapes Go.ChangeAt Go.RowKit Go.Shelf

set_option linter.unusedVariables false
set_option maxRecDepth 100000
set_option maxHeartbeats 4000000
theorem stm_least (t : Int) : Least 1000 1200000 t boilI (stmI t) := leastI_spec 1000 1200000 t boilI (by omega) (fun x y _ a _ => boil_mono x y a)
theorem stm_mono {s t : Int} (h : s ≤ t) : stmI s ≤ stmI t := by
  obtain ⟨a0, a1, a2, a3⟩ := stm_least s
  obtain ⟨b0, b1, b2, b3⟩ := stm_least t
  by_cases hlt : stmI t < stmI s
  · have := a2 _ b0 hlt
    have := b3 (by omega)
    omega
  · omega
theorem stm_bd (t : Int) : 1000 ≤ stmI t ∧ stmI t ≤ 1200001 := ⟨(stm_least t).1, (stm_least t).2.1⟩
theorem implSteam_in (t : Int) (w : World) (t0 : 0 ≤ t) (t1 : t ≤ 18000) : Calls Try.prog 98 #[.int .i64 t] w fun e w' => e = .returned (.tuple #[.int .i64 (stmI t), .int .i64 0]) ∧ Below w.heap.size w w' := by
  have h := implSteamPressure_any t w
  have hi : inB t 0 18000 = true := inB_true ⟨t0, t1⟩
  have hv : stmV t = stmI t := by unfold stmV; rw [hi]; exact if_pos rfl
  have hc : stmC t = 0 := by unfold stmC; rw [hi]; exact if_pos rfl
  rw [hv, hc] at h
  exact h
theorem surplus_any (p t : Int) (w : World) (p0 : -100000000 ≤ p) (p1 : p ≤ 100000000) (t0 : 0 ≤ t) (t1 : t ≤ 18000) :
    Calls Try.prog 83 #[.int .i64 p, .int .i64 t] w fun e w' => e = .returned (.int .i64 (p - stmI t)) ∧ Below w.heap.size w w' := by
  have hb : Below w.heap.size w w := Below.refl _ _
  have HS := Lib.hid (fun W => implSteam_in t W t0 t1)
  have hs := stm_bd t
  generalize stmI t = s at *
  go_enter Try.func83, Try.ntmps83
  go_wp2_with ((go_at_call 98; refine (HS.out _).mono ?_; rintro e w' ⟨rfl, hb'⟩; first | have hb := bnext hb hb' | have hb := bnext (bal hb _) hb' | have hb := bnext (bal (bal hb _) _) hb' | have hb := bnext (bal (bal (bal hb _) _) _) hb' | have hb := bnext (bal (bal (bal (bal hb _) _) _) _) hb' | have hb := bnext (bal (bal (bal (bal (bal hb _) _) _) _) _) hb'))
  go_ret
  first | exact ⟨rfl, hb⟩ | exact ⟨rfl, (bal hb _)⟩ | exact ⟨rfl, (bal (bal hb _) _)⟩ | exact ⟨rfl, (bal (bal (bal hb _) _) _)⟩ | exact ⟨rfl, (bal (bal (bal (bal hb _) _) _) _)⟩ | exact ⟨rfl, (bal (bal (bal (bal (bal hb _) _) _) _) _)⟩

theorem l11Steam_any (t : Int) (w : World) (t1 : t ≤ 18000) : Calls Try.prog 79 #[.int .i64 t] w fun e w' => e = .returned (.int .i64 (stmI t)) ∧ Below w.heap.size w w' := by
  have hb : Below w.heap.size w w := Below.refl _ _
  have HS := Lib.hid (fun W => l02Pressure_any t W (by omega))
  unfold stmI
  generalize leastI 1000 1200000 t boilI = s at *
  go_enter Try.func79, Try.ntmps79
  go_wp2_with ((go_at_call 129; refine (HS.out _).mono ?_; rintro e w' ⟨rfl, hb'⟩; first | have hb := bnext hb hb' | have hb := bnext (bal hb _) hb' | have hb := bnext (bal (bal hb _) _) hb' | have hb := bnext (bal (bal (bal hb _) _) _) hb' | have hb := bnext (bal (bal (bal (bal hb _) _) _) _) hb' | have hb := bnext (bal (bal (bal (bal (bal hb _) _) _) _) _) hb'))
  go_ret
  first | exact ⟨rfl, hb⟩ | exact ⟨rfl, (bal hb _)⟩ | exact ⟨rfl, (bal (bal hb _) _)⟩ | exact ⟨rfl, (bal (bal (bal hb _) _) _)⟩ | exact ⟨rfl, (bal (bal (bal (bal hb _) _) _) _)⟩ | exact ⟨rfl, (bal (bal (bal (bal (bal hb _) _) _) _) _)⟩

def hotP (p m t : Int) : Bool := decide (m ≤ p - stmI t)
theorem hot_anti (p m x y : Int) (h : x ≤ y) (k : hotP p m y = true) : hotP p m x = true := by
  unfold hotP at *
  have := stm_mono h
  simp only [decide_eq_true_eq] at *
  omega
def htI (p m : Int) : Int := lastI 0 18000 (hotP p m)
theorem ht_spec (p m : Int) : -1 ≤ htI p m ∧ htI p m ≤ 18000 ∧ (∀ x, 0 ≤ x → x ≤ htI p m → hotP p m x = true) ∧ ∀ x, htI p m < x → x ≤ 18000 → hotP p m x = false :=
  lastI_spec 0 18000 (hotP p m) (by omega) (fun x y _ h _ k => hot_anti p m x y h k)
theorem htAsk_any (b c : Nat) (p m t : Int) (w : World) (hp : w.cell? ⟨b, 0, none⟩ = some (.int .i64 p)) (hm : w.cell? ⟨c, 0, none⟩ = some (.int .i64 m)) (p0 : -100000000 ≤ p) (p1 : p ≤ 100000000) (t0 : 0 ≤ t) (t1 : t ≤ 18000) :
    Calls Try.prog 82 #[.int .i64 t, .pointer (some ⟨b, 0, none⟩), .pointer (some ⟨c, 0, none⟩)] w fun e w' => e = .returned (.bool (hotP p m t)) ∧ Below w.heap.size w w' := by
  have HS := Lib.hid (fun W => surplus_any p t W p0 p1 t0 t1)
  unfold hotP
  generalize p - stmI t = s at *
  have hb : Below w.heap.size w w := Below.refl _ _
  go_enter Try.func82, Try.ntmps82
  go_wp2_with fail
  go_region_held3 (fun w' => w'.cell? ⟨b, 0, none⟩ = some (.int .i64 p) ∧ w'.cell? ⟨c, 0, none⟩ = some (.int .i64 m) ∧ Below w.heap.size w w')
    (first | assumption | exact ⟨hp, hm, below_drewN hb 1⟩ | (go_split_ands; exact ⟨(hb'.cell (World.block_lt_of_cell? _ _ (by assumption))).trans (by assumption), (hb'.cell (World.block_lt_of_cell? _ _ (by assumption))).trans (by assumption), bnext (by assumption) hb'⟩))
    (first | (go_at_call 83; refine (HS.out _).mono ?_; rintro e w' ⟨rfl, hb'⟩))
  all_goals go_wp2
  all_goals go_ret
  all_goals go_split_ands
  all_goals exact ⟨rfl, by assumption⟩

def hwV (p m : Int) : Int := if inB p 0 100000000 && inB m 0 1000000 then (if htI p m < 0 then 0 else htI p m) else 0
def hwC (p m : Int) : Int := if inB p 0 100000000 && inB m 0 1000000 then (if htI p m < 0 then 3 else 0) else 2
theorem hw_bad (p m : Int) (h : (inB p 0 100000000 && inB m 0 1000000) = false) : hwV p m = 0 ∧ hwC p m = 2 := by
  unfold hwV hwC
  rw [h]
  exact ⟨if_neg (by decide), if_neg (by decide)⟩
theorem hw_none (p m : Int) (h1 : inB p 0 100000000 = true) (h2 : inB m 0 1000000 = true) (h : htI p m < 0) : hwV p m = 0 ∧ hwC p m = 3 := by
  unfold hwV hwC
  rw [h1, h2]
  exact ⟨(if_pos rfl).trans (if_pos h), (if_pos rfl).trans (if_pos h)⟩
theorem hw_ok (p m : Int) (h1 : inB p 0 100000000 = true) (h2 : inB m 0 1000000 = true) (h : ¬ htI p m < 0) : hwV p m = htI p m ∧ hwC p m = 0 := by
  unfold hwV hwC
  rw [h1, h2]
  exact ⟨(if_pos rfl).trans (if_neg h), (if_pos rfl).trans (if_neg h)⟩

theorem implHottestWater_any (p m : Int) (w : World) : Calls Try.prog 31 #[.int .i64 p, .int .i64 m] w fun e w' => e = .returned (.tuple #[.int .i64 (hwV p m), .int .i64 (hwC p m)]) ∧ Below w.heap.size w w' := by
  have c0 : ((w.alloc (.cells #[.int .i64 p] 2)).alloc (.cells #[.int .i64 m] 2)).cell? ⟨w.heap.size, 0, none⟩ = some (.int .i64 p) := by rw [World.cell?_alloc2_first]; rfl
  have c1 : ((w.alloc (.cells #[.int .i64 p] 2)).alloc (.cells #[.int .i64 m] 2)).cell? ⟨w.heap.size + 1, 0, none⟩ = some (.int .i64 m) := by rw [World.cell?_alloc2_new]; rfl
  have hb : Below w.heap.size w ((w.alloc (.cells #[.int .i64 p] 2)).alloc (.cells #[.int .i64 m] 2)) := bal (bal (Below.refl _ _) _) _
  by_cases h1 : inB p 0 100000000 = true
  rotate_left
  · have h1' : inB p 0 100000000 = false := by simpa using h1
    rw [(hw_bad p m (by rw [h1']; rfl)).1, (hw_bad p m (by rw [h1']; rfl)).2]
    have H1 := Lib.hid (fun W => by have h := isPressure_any p W; rw [h1'] at h; exact h)
    go_enter Try.func31, Try.ntmps31
    go_wp2_with fail
    refine (H1.out _).mono ?_
    rintro e w1 ⟨rfl, hb'⟩
    have hb := bnext hb hb'
    have c0 := (hb'.cell (World.block_lt_of_cell? _ _ c0)).trans c0
    have c1 := (hb'.cell (World.block_lt_of_cell? _ _ c1)).trans c1
    clear hb'
    go_wp2
    go_ret2
    exact ⟨rfl, hb⟩
  by_cases h2 : inB m 0 1000000 = true
  rotate_left
  · have h2' : inB m 0 1000000 = false := by simpa using h2
    rw [(hw_bad p m (by rw [h2', Bool.and_false])).1, (hw_bad p m (by rw [h2', Bool.and_false])).2]
    have H1 := Lib.hid (fun W => by have h := isPressure_any p W; rw [h1] at h; exact h)
    have H2 := Lib.hid (fun W => by have h := isMargin_any m W; rw [h2'] at h; exact h)
    go_enter Try.func31, Try.ntmps31
    go_wp2_with fail
    refine (H1.out _).mono ?_
    rintro e w1 ⟨rfl, hb'⟩
    have hb := bnext hb hb'
    have c0 := (hb'.cell (World.block_lt_of_cell? _ _ c0)).trans c0
    have c1 := (hb'.cell (World.block_lt_of_cell? _ _ c1)).trans c1
    clear hb'
    go_wp2_with fail
    refine (H2.out _).mono ?_
    rintro e w1 ⟨rfl, hb'⟩
    have hb := bnext hb hb'
    have c0 := (hb'.cell (World.block_lt_of_cell? _ _ c0)).trans c0
    have c1 := (hb'.cell (World.block_lt_of_cell? _ _ c1)).trans c1
    clear hb'
    go_wp2
    go_ret2
    exact ⟨rfl, hb⟩
  have q1 := inB_iff.1 h1
  have q2 := inB_iff.1 h2
  have H1 := Lib.hid (fun W => by have h := isPressure_any p W; rw [h1] at h; exact h)
  have H2 := Lib.hid (fun W => by have h := isMargin_any m W; rw [h2] at h; exact h)
  have hL : ∀ W : World, W.cell? ⟨w.heap.size, 0, none⟩ = some (.int .i64 p) → W.cell? ⟨w.heap.size + 1, 0, none⟩ = some (.int .i64 m) → Calls Try.prog 84 #[.int .i64 0, .int .i64 18000, .func (.func 82) #[] #[.pointer (some ⟨w.heap.size, 0, none⟩), .pointer (some ⟨w.heap.size + 1, 0, none⟩)]] W fun e w' => e = .returned (.int .i64 (htI p m)) ∧ Below W.heap.size W w' := fun W d0 d1 =>
    lastWith_any 82 #[] #[.pointer (some ⟨w.heap.size, 0, none⟩), .pointer (some ⟨w.heap.size + 1, 0, none⟩)] 0 18000 (hotP p m) W (enters_of Try.func82 (by kernel_rfl) rfl) (by omega) (by omega) (by omega)
      (fun wr x a b hbr => by
        have := htAsk_any w.heap.size (w.heap.size + 1) p m x wr ((hbr.cell (World.block_lt_of_cell? _ _ d0)).trans d0) ((hbr.cell (World.block_lt_of_cell? _ _ d1)).trans d1) (by omega) q1.2 a b
        simpa using this)
      (fun x y _ k _ e => hot_anti p m x y k e)
  have HL := Lib.hid hL
  clear hL
  by_cases hn : htI p m < 0
  · rw [(hw_none p m h1 h2 hn).1, (hw_none p m h1 h2 hn).2]
    generalize htI p m = r at *
    go_enter Try.func31, Try.ntmps31
    go_wp2_with fail
    refine (H1.out _).mono ?_
    rintro e w1 ⟨rfl, hb'⟩
    have hb := bnext hb hb'
    have c0 := (hb'.cell (World.block_lt_of_cell? _ _ c0)).trans c0
    have c1 := (hb'.cell (World.block_lt_of_cell? _ _ c1)).trans c1
    clear hb'
    go_wp2_with fail
    refine (H2.out _).mono ?_
    rintro e w1 ⟨rfl, hb'⟩
    have hb := bnext hb hb'
    have c0 := (hb'.cell (World.block_lt_of_cell? _ _ c0)).trans c0
    have c1 := (hb'.cell (World.block_lt_of_cell? _ _ c1)).trans c1
    clear hb'
    go_wp2_with fail
    refine (HL.out _ c0 c1).mono ?_
    rintro e w2 ⟨rfl, hb'⟩
    have hb := bnext hb hb'
    go_wp2
    go_ret2
    exact ⟨rfl, hb⟩
  · rw [(hw_ok p m h1 h2 hn).1, (hw_ok p m h1 h2 hn).2]
    have hn' : 0 ≤ htI p m := by omega
    generalize htI p m = r at *
    go_enter Try.func31, Try.ntmps31
    go_wp2_with fail
    refine (H1.out _).mono ?_
    rintro e w1 ⟨rfl, hb'⟩
    have hb := bnext hb hb'
    have c0 := (hb'.cell (World.block_lt_of_cell? _ _ c0)).trans c0
    have c1 := (hb'.cell (World.block_lt_of_cell? _ _ c1)).trans c1
    clear hb'
    go_wp2_with fail
    refine (H2.out _).mono ?_
    rintro e w1 ⟨rfl, hb'⟩
    have hb := bnext hb hb'
    have c0 := (hb'.cell (World.block_lt_of_cell? _ _ c0)).trans c0
    have c1 := (hb'.cell (World.block_lt_of_cell? _ _ c1)).trans c1
    clear hb'
    go_wp2_with fail
    refine (HL.out _ c0 c1).mono ?_
    rintro e w2 ⟨rfl, hb'⟩
    have hb := bnext hb hb'
    go_wp2
    go_ret2
    exact ⟨rfl, hb⟩

theorem specHottestWater_any (p m : Int) (w : World) : Calls Try.prog 30 #[.int .i64 p, .int .i64 m] w fun e w' => e = .returned (.tuple #[.int .i64 (hwV p m), .int .i64 (hwC p m)]) ∧ Below w.heap.size w w' := by
  have hb : Below w.heap.size w w := Below.refl _ _
  by_cases h1 : inB p 0 100000000 = true
  rotate_left
  · have h1' : inB p 0 100000000 = false := by simpa using h1
    rw [(hw_bad p m (by rw [h1']; rfl)).1, (hw_bad p m (by rw [h1']; rfl)).2]
    go_enter Try.func30, Try.ntmps30
    go_wp2_with (first | (go_at_call 77; refine (l03Press_any _ _).mono ?_; rintro e w' ⟨rfl, rfl⟩) | (go_at_call 78; refine (l11Margin_any _ _).mono ?_; rintro e w' ⟨rfl, rfl⟩))
    go_ret2
    first | exact ⟨rfl, hb⟩ | exact ⟨rfl, (bal hb _)⟩ | exact ⟨rfl, (bal (bal hb _) _)⟩ | exact ⟨rfl, (bal (bal (bal hb _) _) _)⟩ | exact ⟨rfl, (bal (bal (bal (bal hb _) _) _) _)⟩ | exact ⟨rfl, (bal (bal (bal (bal (bal hb _) _) _) _) _)⟩
  by_cases h2 : inB m 0 1000000 = true
  rotate_left
  · have h2' : inB m 0 1000000 = false := by simpa using h2
    rw [(hw_bad p m (by rw [h2', Bool.and_false])).1, (hw_bad p m (by rw [h2', Bool.and_false])).2]
    go_enter Try.func30, Try.ntmps30
    go_wp2_with (first | (go_at_call 77; refine (l03Press_any _ _).mono ?_; rintro e w' ⟨rfl, rfl⟩) | (go_at_call 78; refine (l11Margin_any _ _).mono ?_; rintro e w' ⟨rfl, rfl⟩))
    go_ret2
    first | exact ⟨rfl, hb⟩ | exact ⟨rfl, (bal hb _)⟩ | exact ⟨rfl, (bal (bal hb _) _)⟩ | exact ⟨rfl, (bal (bal (bal hb _) _) _)⟩ | exact ⟨rfl, (bal (bal (bal (bal hb _) _) _) _)⟩ | exact ⟨rfl, (bal (bal (bal (bal (bal hb _) _) _) _) _)⟩
  have q1 := inB_iff.1 h1
  have q2 := inB_iff.1 h2
  have HS := Lib.hid (fun (t : Int) (ht : t ≤ 18000) W => l11Steam_any t W ht)
  have HB := Lib.hid stm_bd
  have hsp := ht_spec p m
  by_cases hn : p < stmI 0 + m
  · have hr : htI p m < 0 := by
      by_cases hh : htI p m < 0
      · exact hh
      · have := hsp.2.2.1 0 (by omega) (by omega)
        unfold hotP at this
        simp only [decide_eq_true_eq] at this
        omega
    rw [(hw_none p m h1 h2 hr).1, (hw_none p m h1 h2 hr).2]
    have HT := Lib.hid (fun W => HS.out 0 (by omega) W)
    have k0 := stm_bd 0
    have hd : decide (p < stmI 0 + m) = true := decide_eq_true hn
    clear hn
    generalize stmI 0 = s at HT hd k0
    go_enter Try.func30, Try.ntmps30
    go_wp2_with (first | (go_at_call 77; refine (l03Press_any _ _).mono ?_; rintro e w' ⟨rfl, rfl⟩) | (go_at_call 78; refine (l11Margin_any _ _).mono ?_; rintro e w' ⟨rfl, rfl⟩) | (go_at_call 79; refine (HT.out _).mono ?_; rintro e w' ⟨rfl, hb'⟩; have hb := bnext hb hb'; clear hb'))
    go_ret2
    exact ⟨rfl, hb⟩
  · have hP0 : hotP p m 0 = true := by unfold hotP; exact decide_eq_true (by omega)
    have hr : ¬ htI p m < 0 := by
      intro hh
      have := hsp.2.2.2 0 hh (by omega)
      rw [hP0] at this
      cases this
    rw [(hw_ok p m h1 h2 hr).1, (hw_ok p m h1 h2 hr).2]
    have HT := Lib.hid (fun W => HS.out 0 (by omega) W)
    have k0 := stm_bd 0
    have hd : decide (p < stmI 0 + m) = false := decide_eq_false hn
    clear hn
    generalize stmI 0 = s at HT hd k0
    have HP := Lib.hid hsp
    have HP0 := Lib.hid hP0
    clear hsp hP0 hr
    generalize htI p m = R at *
    go_enter Try.func30, Try.ntmps30
    go_wp2_with (first | (go_at_call 77; refine (l03Press_any _ _).mono ?_; rintro e w' ⟨rfl, rfl⟩) | (go_at_call 78; refine (l11Margin_any _ _).mono ?_; rintro e w' ⟨rfl, rfl⟩) | (go_at_call 79; refine (HT.out _).mono ?_; rintro e w' ⟨rfl, hb'⟩; have hb := bnext hb hb'; clear hb'))
    go_loopw [6, 7] (fun va vb wr => ∃ l h : Int, va = .int .i64 l ∧ vb = .int .i64 h ∧ 0 ≤ l ∧ l ≤ h ∧ h ≤ 18000 ∧ Below w.heap.size w wr ∧ Hid (hotP p m l = true ∧ ∀ x, h < x → x ≤ 18000 → hotP p m x = false)) (fun va vb _ => (intOf vb - intOf va).toNat)
    case atStart => exact ⟨_, _, rfl, rfl, by omega, by omega, by omega, by assumption, Lib.hid ⟨HP0.out, fun x a b => by omega⟩⟩
    case round =>
      obtain ⟨l, h, rfl, rfl, l0, l1, l2, hb, I⟩ := hrel
      by_cases hlt : l < h
      · have hm0 : l < (l + h + 1) / 2 := by omega
        have hm1 : (l + h + 1) / 2 ≤ h := by omega
        have hs0 : 0 ≤ l + h + 1 := by omega
        have HT := Lib.hid (fun W => HS.out ((l + h + 1) / 2) (by omega) W)
        have k1 := stm_bd ((l + h + 1) / 2)
        by_cases hk : stmI ((l + h + 1) / 2) + m ≤ p
        · have hk' : decide (stmI ((l + h + 1) / 2) + m ≤ p) = true := decide_eq_true hk
          have IN : Hid (hotP p m ((l + h + 1) / 2) = true ∧ ∀ x, h < x → x ≤ 18000 → hotP p m x = false) := Lib.hid ⟨by unfold hotP; exact decide_eq_true (by omega), I.out.2⟩
          clear hk
          generalize stmI ((l + h + 1) / 2) = v at HT hk' k1
          go_wp2_with (go_at_call 79; refine (HT.out _).mono ?_; rintro e w' ⟨rfl, hb'⟩; have hb := bnext hb hb'; clear hb')
          go_roundw
          case rel => exact ⟨(l + h + 1) / 2, h, rfl, rfl, by omega, hm1, l2, hb, IN⟩
          case measure => simp [intOf]; omega
        · have hk' : decide (stmI ((l + h + 1) / 2) + m ≤ p) = false := decide_eq_false hk
          have IN : Hid (hotP p m l = true ∧ ∀ x, (l + h + 1) / 2 - 1 < x → x ≤ 18000 → hotP p m x = false) := Lib.hid ⟨I.out.1, fun x a b => by
            cases hc : hotP p m x with
            | false => rfl
            | true =>
              have := hot_anti p m ((l + h + 1) / 2) x (by omega) hc
              unfold hotP at this
              simp only [decide_eq_true_eq] at this
              omega⟩
          clear hk
          generalize stmI ((l + h + 1) / 2) = v at HT hk' k1
          go_wp2_with (go_at_call 79; refine (HT.out _).mono ?_; rintro e w' ⟨rfl, hb'⟩; have hb := bnext hb hb'; clear hb')
          go_roundw
          case rel => exact ⟨l, (l + h + 1) / 2 - 1, rfl, rfl, l0, by omega, by omega, hb, IN⟩
          case measure => simp [intOf]; omega
      · have he : h = l := by omega
        have hR : l = R := by
          obtain ⟨r0, r1, r2, r3⟩ := HP.out
          obtain ⟨i0, i1⟩ := I.out
          by_cases c1 : l < R
          · have := r2 R (by omega) (Int.le_refl _)
            have := i1 R (by omega) r1
            simp_all
          · by_cases c2 : R < l
            · have := r3 l c2 (by omega)
              simp_all
            · omega
        subst hR
        go_wp2
        go_ret2
        exact ⟨rfl, hb⟩

end Go.Proofs.Ytdaedgdglammhaa
