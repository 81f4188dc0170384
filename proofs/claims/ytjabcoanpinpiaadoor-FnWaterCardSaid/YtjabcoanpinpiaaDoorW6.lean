/-
  SteamPressure and FlowForPower: both sides answer the least place at which a curve, or a power, reaches what is asked.
-/
import Derived.Test.YtjabcoanpinpiaaDoorW4
namespace Go.Proofs.YtjabcoanpinpiaaDoor
open Go.ChangeShapes Go.WideShapes Go.ChangeAt Go.RowKit Go.Shelf


def stmI (t : Int) : Int := leastI 1000 1200000 t boilI
theorem firstSteam_any (t : Int) (w : World) : Calls Tryd.prog 21 #[.int .i64 1000, .int .i64 1200000, .int .i64 t, .func (.func 20) #[.agg (ptsV boilPts)] #[]] w fun e w' => e = .returned (.int .i64 (stmI t)) ∧ Below w.heap.size w w' :=
  firstFrom_any 20 #[.agg (ptsV boilPts)] #[] 1000 1200000 t boilI w (enters_of Tryd.func20 (by kernel_rfl) rfl) (by omega) (by omega) (by omega)
    (fun wr x _ _ _ => by simpa using boilAt_any x wr) (fun x y _ a _ => boil_mono x y a)

def stmV (t : Int) : Int := if inB t 0 18000 then stmI t else 0
def stmC (t : Int) : Int := if inB t 0 18000 then 0 else 2

theorem implSteamPressure_any (t : Int) (w : World) : Calls Tryd.prog 7 #[.int .i64 t] w fun e w' => e = .returned (.tuple #[.int .i64 (stmV t), .int .i64 (stmC t)]) ∧ Below w.heap.size w w' := by
  have hb : Below w.heap.size w w := Below.refl _ _
  by_cases h1 : inB t 0 18000 = true
  · skip
    have hv : stmV t = stmI t := by unfold stmV; simp [*]
    have hc : stmC t = 0 := by unfold stmC; simp [*]
    rw [hv, hc]
    clear hv hc
    go_enter Tryd.func7, Tryd.ntmps7
    go_wp2_with (first | (go_at_call 18; refine (one64At _ _ _ _ _ _ (by simp) (by omega)).mono ?_; rintro e w' ⟨rfl, hb'⟩; first | have hb := bnext hb hb' | have hb := bnext (bal hb _) hb' | have hb := bnext (bal (bal hb _) _) hb' | have hb := bnext (bal (bal (bal hb _) _) _) hb' | have hb := bnext (bal (bal (bal (bal hb _) _) _) _) hb' | have hb := bnext (bal (bal (bal (bal (bal hb _) _) _) _) _) hb') | (go_at_call 22; refine (boilingPoints_any _).mono ?_; rintro e w' ⟨rfl, hb'⟩; first | have hb := bnext hb hb' | have hb := bnext (bal hb _) hb' | have hb := bnext (bal (bal hb _) _) hb' | have hb := bnext (bal (bal (bal hb _) _) _) hb' | have hb := bnext (bal (bal (bal (bal hb _) _) _) _) hb' | have hb := bnext (bal (bal (bal (bal (bal hb _) _) _) _) _) hb') | (go_at_call 21; refine (firstSteam_any _ _).mono ?_; rintro e w' ⟨rfl, hb'⟩; first | have hb := bnext hb hb' | have hb := bnext (bal hb _) hb' | have hb := bnext (bal (bal hb _) _) hb' | have hb := bnext (bal (bal (bal hb _) _) _) hb' | have hb := bnext (bal (bal (bal (bal hb _) _) _) _) hb' | have hb := bnext (bal (bal (bal (bal (bal hb _) _) _) _) _) hb'))
    go_ret2
    first | exact ⟨rfl, hb⟩ | exact ⟨rfl, (bal hb _)⟩ | exact ⟨rfl, (bal (bal hb _) _)⟩ | exact ⟨rfl, (bal (bal (bal hb _) _) _)⟩ | exact ⟨rfl, (bal (bal (bal (bal hb _) _) _) _)⟩ | exact ⟨rfl, (bal (bal (bal (bal (bal hb _) _) _) _) _)⟩
  · have h1' : (inB t 0 18000) = false := by simpa using h1
    have hv : stmV t = 0 := by unfold stmV; simp [*]
    have hc : stmC t = 2 := by unfold stmC; simp [*]
    rw [hv, hc]
    clear hv hc
    go_enter Tryd.func7, Tryd.ntmps7
    go_wp2_with (first | (go_at_call 18; refine (one64At _ _ _ _ _ _ (by simp) (by omega)).mono ?_; rintro e w' ⟨rfl, hb'⟩; first | have hb := bnext hb hb' | have hb := bnext (bal hb _) hb' | have hb := bnext (bal (bal hb _) _) hb' | have hb := bnext (bal (bal (bal hb _) _) _) hb' | have hb := bnext (bal (bal (bal (bal hb _) _) _) _) hb' | have hb := bnext (bal (bal (bal (bal (bal hb _) _) _) _) _) hb') | (go_at_call 22; refine (boilingPoints_any _).mono ?_; rintro e w' ⟨rfl, hb'⟩; first | have hb := bnext hb hb' | have hb := bnext (bal hb _) hb' | have hb := bnext (bal (bal hb _) _) hb' | have hb := bnext (bal (bal (bal hb _) _) _) hb' | have hb := bnext (bal (bal (bal (bal hb _) _) _) _) hb' | have hb := bnext (bal (bal (bal (bal (bal hb _) _) _) _) _) hb') | (go_at_call 21; refine (firstSteam_any _ _).mono ?_; rintro e w' ⟨rfl, hb'⟩; first | have hb := bnext hb hb' | have hb := bnext (bal hb _) hb' | have hb := bnext (bal (bal hb _) _) hb' | have hb := bnext (bal (bal (bal hb _) _) _) hb' | have hb := bnext (bal (bal (bal (bal hb _) _) _) _) hb' | have hb := bnext (bal (bal (bal (bal (bal hb _) _) _) _) _) hb'))
    go_ret2
    first | exact ⟨rfl, hb⟩ | exact ⟨rfl, (bal hb _)⟩ | exact ⟨rfl, (bal (bal hb _) _)⟩ | exact ⟨rfl, (bal (bal (bal hb _) _) _)⟩ | exact ⟨rfl, (bal (bal (bal (bal hb _) _) _) _)⟩ | exact ⟨rfl, (bal (bal (bal (bal (bal hb _) _) _) _) _)⟩

def ffI (p a b : Int) : Int := leastI 0 100000 p (fun q => wattI q (a - b))
theorem watt_mono (q r d : Int) (h : q ≤ r) (hd : 0 ≤ d) : wattI q d ≤ wattI r d :=
  nearI_mono _ _ _ (by omega) (Int.mul_le_mul_of_nonneg_right (by omega) hd)

theorem needed_any (x a b : Int) (p q : Nat) (w : World) (x0 : 0 ≤ x) (x1 : x ≤ 100000) (hp : w.cell? ⟨p, 0, none⟩ = some (.int .i64 a)) (hq : w.cell? ⟨q, 0, none⟩ = some (.int .i64 b)) (d0 : -25000 ≤ a - b) (d1 : a - b ≤ 25000) :
    Calls Tryd.prog 27 #[.int .i64 x, .pointer (some ⟨p, 0, none⟩), .pointer (some ⟨q, 0, none⟩)] w fun e w' => e = .returned (.int .i64 (wattI x (a - b))) ∧ Below w.heap.size w w' := by
  have hb : Below w.heap.size w w := Below.refl _ _
  go_enter Tryd.func27, Tryd.ntmps27
  go_wp2_with ((go_at_call 28; refine (wattsOf_any _ _ _ (by omega) (by omega) (by omega) (by omega)).mono ?_; rintro e w' ⟨rfl, ⟨nq, rfl⟩⟩; have hb := below_drewN hb nq))
  go_ret
  first | exact ⟨rfl, hb⟩ | exact ⟨rfl, (bal hb _)⟩ | exact ⟨rfl, (bal (bal hb _) _)⟩ | exact ⟨rfl, (bal (bal (bal hb _) _) _)⟩ | exact ⟨rfl, (bal (bal (bal (bal hb _) _) _) _)⟩ | exact ⟨rfl, (bal (bal (bal (bal (bal hb _) _) _) _) _)⟩

theorem firstFlow_any (g a b : Int) (p q : Nat) (w : World) (hp : w.cell? ⟨p, 0, none⟩ = some (.int .i64 a)) (hq : w.cell? ⟨q, 0, none⟩ = some (.int .i64 b)) (d0 : 0 ≤ a - b) (d1 : a - b ≤ 25000) :
    Calls Tryd.prog 21 #[.int .i64 0, .int .i64 100000, .int .i64 g, .func (.func 27) #[] #[.pointer (some ⟨p, 0, none⟩), .pointer (some ⟨q, 0, none⟩)]] w fun e w' => e = .returned (.int .i64 (ffI g a b)) ∧ Below w.heap.size w w' :=
  firstFrom_any 27 #[] #[.pointer (some ⟨p, 0, none⟩), .pointer (some ⟨q, 0, none⟩)] 0 100000 g (fun q => wattI q (a - b)) w (enters_of Tryd.func27 (by kernel_rfl) rfl) (by omega) (by omega) (by omega)
    (fun wr x x0 x1 hb => by
      have := needed_any x a b p q wr x0 x1 ((hb.cell (World.block_lt_of_cell? _ _ hp)).trans hp) ((hb.cell (World.block_lt_of_cell? _ _ hq)).trans hq) (by omega) d1
      simpa using this) (fun x y _ h _ => watt_mono x y _ h (by omega))

def ffpV (p : Int) (a : Int) (b : Int) : Int := if inB p 0 100000000 && inB a 0 18000 && inB b 0 a && inB (ffI p a b) 0 100000 then ffI p a b else 0
def ffpC (p : Int) (a : Int) (b : Int) : Int := if inB p 0 100000000 && inB a 0 18000 && inB b 0 a then (if inB (ffI p a b) 0 100000 then 0 else 6) else 2

theorem ff_low (p a b : Int) (h : 0 ≤ a - b) : 0 ≤ ffI p a b := (leastI_spec 0 100000 p (fun q => wattI q (a - b)) (by omega) (fun x y _ h _ => watt_mono x y _ h (by omega))).1

set_option maxRecDepth 100000 in
theorem implFlowForPower_any (p a b : Int) (w : World) : Calls Tryd.prog 11 #[.int .i64 p, .int .i64 a, .int .i64 b] w fun e w' => e = .returned (.tuple #[.int .i64 (ffpV p a b), .int .i64 (ffpC p a b)]) ∧ Below w.heap.size w w' := by
  have hb : Below w.heap.size w w := Below.refl _ _
  have c0 : ((w.alloc (.cells #[.int .i64 a] 2)).alloc (.cells #[.int .i64 b] 2)).cell? ⟨w.heap.size, 0, none⟩ = some (.int .i64 a) := by rw [World.cell?_alloc2_first]; rfl
  have c1 : ((w.alloc (.cells #[.int .i64 a] 2)).alloc (.cells #[.int .i64 b] 2)).cell? ⟨w.heap.size + 1, 0, none⟩ = some (.int .i64 b) := by rw [World.cell?_alloc2_new]; rfl
  have C := Lib.hid (And.intro c0 c1)
  clear c0 c1
  by_cases h1 : inB p 0 100000000 = true
  · by_cases h2 : coolB a b = true
    · have k := h2
      unfold coolB at k
      rw [Bool.and_eq_true] at k
      have k2 := inB_iff.1 k.1
      have k3 := inB_iff.1 k.2
      have k5 := ff_low p a b (by omega)
      have hall : (inB p 0 100000000 && inB a 0 18000 && inB b 0 a) = true := by rw [h1, k.1, k.2]; rfl
      have hv : ffpV p a b = if inB (ffI p a b) 0 100000 then ffI p a b else 0 := by unfold ffpV; rw [hall, Bool.true_and]
      have hc : ffpC p a b = if inB (ffI p a b) 0 100000 then 0 else 6 := by unfold ffpC; rw [hall]; exact if_pos rfl
      rw [hv, hc]
      have hN := fun x y wx c0 c1 => firstFlow_any p a b x y wx c0 c1 (by omega) (by omega)
      clear hv hc hall k
      generalize ffI p a b = r at *
      have HN := Lib.hid hN
      clear hN
      by_cases h4 : r ≤ 100000
      · rw [if_pos (inB_true ⟨k5, h4⟩), if_pos (inB_true ⟨k5, h4⟩)]
        go_enter Tryd.func11, Tryd.ntmps11
        go_wp2_with fail
        refine (one64At _ _ _ _ _ _ (by simp) (by omega)).mono ?_
        rintro e w1 ⟨rfl, hb'⟩
        have hb := bnext (bal (bal hb _) _) hb'
        have d0 := (hb'.cell (p := ⟨w.heap.size, 0, none⟩) (World.block_lt_of_cell? _ _ C.out.1)).trans C.out.1
        have d1 := (hb'.cell (p := ⟨w.heap.size + 1, 0, none⟩) (World.block_lt_of_cell? _ _ C.out.2)).trans C.out.2
        have D := Lib.hid (And.intro d0 d1)
        go_wp2_with fail
        refine (isCooling_any _ _ _).mono ?_
        rintro e w2 ⟨rfl, hb''⟩
        have hb := bnext hb hb''
        have d0 := (hb''.cell (p := ⟨w.heap.size, 0, none⟩) (World.block_lt_of_cell? _ _ D.out.1)).trans D.out.1
        have d1 := (hb''.cell (p := ⟨w.heap.size + 1, 0, none⟩) (World.block_lt_of_cell? _ _ D.out.2)).trans D.out.2
        go_wp2_with fail
        refine (HN.out _ _ _ d0 d1).mono ?_
        rintro e w3 ⟨rfl, hb3⟩
        have hb := bnext hb hb3
        go_wp2
        go_ret2
        exact ⟨rfl, hb⟩
      · have h4' : 100000 < r := by omega
        rw [if_neg (by rw [inB_false (by omega)]; simp), if_neg (by rw [inB_false (by omega)]; simp)]
        go_enter Tryd.func11, Tryd.ntmps11
        go_wp2_with fail
        refine (one64At _ _ _ _ _ _ (by simp) (by omega)).mono ?_
        rintro e w1 ⟨rfl, hb'⟩
        have hb := bnext (bal (bal hb _) _) hb'
        have d0 := (hb'.cell (p := ⟨w.heap.size, 0, none⟩) (World.block_lt_of_cell? _ _ C.out.1)).trans C.out.1
        have d1 := (hb'.cell (p := ⟨w.heap.size + 1, 0, none⟩) (World.block_lt_of_cell? _ _ C.out.2)).trans C.out.2
        have D := Lib.hid (And.intro d0 d1)
        go_wp2_with fail
        refine (isCooling_any _ _ _).mono ?_
        rintro e w2 ⟨rfl, hb''⟩
        have hb := bnext hb hb''
        have d0 := (hb''.cell (p := ⟨w.heap.size, 0, none⟩) (World.block_lt_of_cell? _ _ D.out.1)).trans D.out.1
        have d1 := (hb''.cell (p := ⟨w.heap.size + 1, 0, none⟩) (World.block_lt_of_cell? _ _ D.out.2)).trans D.out.2
        go_wp2_with fail
        refine (HN.out _ _ _ d0 d1).mono ?_
        rintro e w3 ⟨rfl, hb3⟩
        have hb := bnext hb hb3
        go_wp2
        go_ret2
        exact ⟨rfl, hb⟩
    · have h2' : coolB a b = false := by simpa using h2
      have hall : (inB p 0 100000000 && inB a 0 18000 && inB b 0 a) = false := by
        unfold coolB at h2'
        rw [Bool.and_assoc, h2', Bool.and_false]
      have hv : ffpV p a b = 0 := by unfold ffpV; rw [hall, Bool.false_and]; rfl
      have hc : ffpC p a b = 2 := by unfold ffpC; rw [hall]; rfl
      rw [hv, hc]
      clear hv hc hall
      go_enter Tryd.func11, Tryd.ntmps11
      go_wp2_with fail
      refine (one64At _ _ _ _ _ _ (by simp) (by omega)).mono ?_
      rintro e w1 ⟨rfl, hb'⟩
      have hb := bnext (bal (bal hb _) _) hb'
      have d0 := (hb'.cell (p := ⟨w.heap.size, 0, none⟩) (World.block_lt_of_cell? _ _ C.out.1)).trans C.out.1
      have d1 := (hb'.cell (p := ⟨w.heap.size + 1, 0, none⟩) (World.block_lt_of_cell? _ _ C.out.2)).trans C.out.2
      go_wp2_with ((go_at_call 26; refine (isCooling_any _ _ _).mono ?_; rintro e w' ⟨rfl, hb'⟩; first | have hb := bnext hb hb' | have hb := bnext (bal hb _) hb' | have hb := bnext (bal (bal hb _) _) hb' | have hb := bnext (bal (bal (bal hb _) _) _) hb' | have hb := bnext (bal (bal (bal (bal hb _) _) _) _) hb' | have hb := bnext (bal (bal (bal (bal (bal hb _) _) _) _) _) hb'))
      go_ret2
      exact ⟨rfl, hb⟩
  · have h1' : inB p 0 100000000 = false := by simpa using h1
    have hv : ffpV p a b = 0 := by unfold ffpV; rw [h1']; rfl
    have hc : ffpC p a b = 2 := by unfold ffpC; rw [h1']; rfl
    rw [hv, hc]
    clear hv hc
    go_enter Tryd.func11, Tryd.ntmps11
    go_wp2_with ((go_at_call 18; refine (one64At _ _ _ _ _ _ (by simp) (by omega)).mono ?_; rintro e w' ⟨rfl, hb'⟩; first | have hb := bnext hb hb' | have hb := bnext (bal hb _) hb' | have hb := bnext (bal (bal hb _) _) hb' | have hb := bnext (bal (bal (bal hb _) _) _) hb' | have hb := bnext (bal (bal (bal (bal hb _) _) _) _) hb' | have hb := bnext (bal (bal (bal (bal (bal hb _) _) _) _) _) hb'))
    go_ret2
    exact ⟨rfl, hb⟩

end Go.Proofs.YtjabcoanpinpiaaDoor
