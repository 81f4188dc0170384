/-
  EndTemperature of both sides.
-/
import Derived.Test.YtjabcoanpinpiaaP3
namespace Go.Proofs.Ytjabcoanpinpiaa
open Go.ChangeShapes Go.WideShapes Go.ChangeAt Go.RowKit Go.Shelf
set_option linter.unusedSimpArgs false


/-- how far water changes on its way -/
def chI (s L q a c : Int) : Int := nearI (lossI s L a c * 100000) (absI q * 4186)
/-- the temperature at the end of a pipe with a flow that is not 0 -/
def endI (s L q a c : Int) : Int := if c ≤ a then max c (a - chI s L q a c) else min c (a - chI s L q a c)
theorem loss_sign (s L a c : Int) (s0 : 0 ≤ s) (l0 : 0 ≤ L) : (c ≤ a → 0 ≤ lossI s L a c) ∧ (a ≤ c → lossI s L a c ≤ 0) := by
  have h : ∀ x y, y ≤ x → 0 ≤ lossI s L x y := fun x y k => nearI_nonneg _ _ (by omega) (Int.mul_nonneg (Int.mul_nonneg s0 l0) (by omega))
  refine ⟨h a c, fun k => ?_⟩
  have := h c a k
  rw [loss_neg s L a c] at this
  omega
theorem ch_sign (s L q a c : Int) (s0 : 0 ≤ s) (l0 : 0 ≤ L) (hq : 1 ≤ absI q) : (c ≤ a → 0 ≤ chI s L q a c) ∧ (a ≤ c → chI s L q a c ≤ 0) := by
  have h := loss_sign s L a c s0 l0
  exact ⟨fun k => nearI_nonneg _ _ (by omega) (by have := h.1 k; omega), fun k => nearI_nonpos _ _ (by omega) (by have := h.2 k; omega)⟩
theorem ch_lim (s L q a c : Int) (s0 : 0 ≤ s) (s1 : s ≤ 5000) (l0 : 0 ≤ L) (l1 : L ≤ 10000) (a0 : -5000 ≤ a) (a1 : a ≤ 20000) (b0 : -5000 ≤ c) (b1 : c ≤ 20000) (hq : 1 ≤ absI q) :
    -125000000000000000 ≤ chI s L q a c ∧ chI s L q a c ≤ 125000000000000000 := by
  have h := loss_bd s L a c s0 s1 l0 l1 a0 a1 b0 b1
  exact nearI_lim _ _ 125000000000000000 (by omega) (by omega) (by omega)
/-- between the two temperatures -/
theorem end_clamp (s L q a c lo hi : Int) (s0 : 0 ≤ s) (l0 : 0 ≤ L) (hq : 1 ≤ absI q) (h1 : lo = min a c) (h2 : hi = max a c) : clampI lo hi (a - chI s L q a c) = endI s L q a c := by
  have h := ch_sign s L q a c s0 l0 hq
  unfold endI clampI
  by_cases k : c ≤ a
  · have := h.1 k
    rw [if_pos k, h1, h2]
    omega
  · have := h.2 (by omega)
    rw [if_neg k, h1, h2]
    omega

def endOV (id : ByteArray) (f t L d s : Int) (q : Int) (a : Int) (c : Int) : Int := if okP id f t L d s && inB q (-100000) 100000 && inB a (-5000) 20000 && inB c (-5000) 20000 then (if (q != 0) then endI s L q a c else c) else 0
def endOC (id : ByteArray) (f t L d s : Int) (q : Int) (a : Int) (c : Int) : Int := if okP id f t L d s then (if inB q (-100000) 100000 && inB a (-5000) 20000 && inB c (-5000) 20000 then 0 else 2) else 1

set_option maxHeartbeats 6400000 in
theorem implEndTemperature_any (id : ByteArray) (f t L d s : Int) (q : Int) (a : Int) (c : Int) (w : World) (hs : id.size ≤ maxLen) : Calls Try.prog 20 #[.agg #[.string id, .int .i64 f, .int .i64 t, .int .i64 L, .int .i64 d, .int .i64 s], .int .i64 q, .int .i64 a, .int .i64 c] w fun e w' => e = .returned (.tuple #[.int .i64 (endOV id f t L d s q a c), .int .i64 (endOC id f t L d s q a c)]) ∧ Below w.heap.size w w' := by
  by_cases ho : okP id f t L d s = true
  · skip
    by_cases k1 : inB q (-100000) 100000 = true
    · skip
      by_cases k2 : inB a (-5000) 20000 = true
      · skip
        by_cases k3 : inB c (-5000) 20000 = true
        · skip
          by_cases kz : (q != 0) = true
          · skip
            have hv : endOV id f t L d s q a c = endI s L q a c := by unfold endOV; simp [*]
            have hc : endOC id f t L d s q a c = 0 := by unfold endOC; simp [*]
            rw [hv, hc]
            clear hv hc
            have hcv : codeP id f t L d s true = 0 := by unfold codeP; simp [*]
            have HPC : Hid (∀ wx, Calls Try.prog 53 #[.agg #[.string id, .int .i64 f, .int .i64 t, .int .i64 L, .int .i64 d, .int .i64 s], .bool true] wx fun e w' => e = .returned (.int .i64 0) ∧ Below wx.heap.size wx w') := Lib.hid fun wx => by
              have := pipeCode_any id f t L d s true wx hs
              rw [hcv] at this
              exact this
            clear hcv
            have HC0 : Hid (∀ wx, Calls Try.prog 54 #[.int .i64 q] wx fun e w' => e = .returned (.bool true) ∧ Below wx.heap.size wx w') := Lib.hid fun wx => by
              have := isFlow_any q wx
              rw [k1] at this
              exact this
            have HC1 : Hid (∀ wx, Calls Try.prog 57 #[.int .i64 a] wx fun e w' => e = .returned (.bool true) ∧ Below wx.heap.size wx w') := Lib.hid fun wx => by
              have := isTemperature_any a wx
              rw [k2] at this
              exact this
            have HC2 : Hid (∀ wx, Calls Try.prog 57 #[.int .i64 c] wx fun e w' => e = .returned (.bool true) ∧ Below wx.heap.size wx w') := Lib.hid fun wx => by
              have := isTemperature_any c wx
              rw [k3] at this
              exact this
            obtain ⟨-, -, -, -, ⟨l0, l1⟩, ⟨d0, d1⟩, ⟨s0, s1⟩⟩ := okP_bd id f t L d s ho
            have kq := inB_iff.1 k1
            have ka := inB_iff.1 k2
            have kc := inB_iff.1 k3
            have ha := absI_bd q 100000 kq.1 kq.2
            have z : (q == 0) = false := by simpa using kz
            have u1 : 1 ≤ absI q := by
              have : q ≠ 0 := by simpa using kz
              rw [absI_nat]; omega
            have hl := loss_bd s L a c s0 s1 (by omega) l1 ka.1 ka.2 kc.1 kc.2
            have hch := ch_lim s L q a c s0 s1 (by omega) l1 ka.1 ka.2 kc.1 kc.2 u1
            have HA := Lib.hid (fun wx => absolute_any q wx (by omega) (by omega))
            have HL := Lib.hid (fun wx => lostHeat_any id f t L d s a c wx s0 s1 (by omega) l1 ka.1 ka.2 kc.1 kc.2)
            have hn := fun wx => nearest_any (100000 * lossI s L a c) (4186 * absI q) wx (by omega) (by omega) (by omega) (by omega) (by omega)
            rw [Int.mul_comm 100000, Int.mul_comm 4186] at hn
            change ∀ wx, Calls _ _ _ _ fun e w' => e = .returned (.int .i64 (chI s L q a c)) ∧ _ at hn
            rw [Int.mul_comm (lossI s L a c), Int.mul_comm (absI q)] at hn
            have hcl : ∀ lo hi, lo = min a c → hi = max a c → ∀ wx, Calls Try.prog 59 #[.int .i64 lo, .int .i64 hi, .int .i64 (a - chI s L q a c)] wx fun e w' => e = .returned (.int .i64 (endI s L q a c)) ∧ wx = w' := fun lo hi h1 h2 wx => by
              have := clamp_any lo hi (a - chI s L q a c) wx
              rw [end_clamp s L q a c lo hi s0 (by omega) u1 h1 h2] at this
              exact this
            generalize endI s L q a c = E at *
            generalize chI s L q a c = ch at *
            generalize lossI s L a c = r at *
            generalize absI q = u at *
            have HN := Lib.hid hn
            have HCL := Lib.hid hcl
            have HZ := Lib.hid kz
            clear hn hcl kz
            have hp := PipeAt.new w id f t L d s 25
            have hb : Below w.heap.size w (w.alloc (.cells #[.string id, .int .i64 f, .int .i64 t, .int .i64 L, .int .i64 d, .int .i64 s] 25)) := bal (Below.refl _ _) _
            go_enter Try.func20, Try.ntmps20
            go_wp2_with fail
            have hb : Below w.heap.size w (w.alloc (.cells #[.string id, .int .i64 f, .int .i64 t, .int .i64 L, .int .i64 d, .int .i64 s] 25)).drew := below_drewN hb 1
            have hp : PipeAt (w.alloc (.cells #[.string id, .int .i64 f, .int .i64 t, .int .i64 L, .int .i64 d, .int .i64 s] 25)).drew w.heap.size id f t L d s := hp
            have ⟨p0, p1, p2, p3, p4, p5⟩ := hp
            go_region_held3 (fun w' => w'.cell? ⟨w.heap.size, 0, none⟩ = some (.string id) ∧ w'.cell? ⟨w.heap.size, 1, none⟩ = some (.int .i64 f) ∧ w'.cell? ⟨w.heap.size, 2, none⟩ = some (.int .i64 t) ∧ w'.cell? ⟨w.heap.size, 3, none⟩ = some (.int .i64 L) ∧ w'.cell? ⟨w.heap.size, 4, none⟩ = some (.int .i64 d) ∧ w'.cell? ⟨w.heap.size, 5, none⟩ = some (.int .i64 s)) (exact ⟨p0, p1, p2, p3, p4, p5⟩) (first | (go_at_call 54; (with_reducible refine (HC0.out _).mono ?_); rintro e w' ⟨rfl, hb'⟩; have hb := bnext hb hb'; have hp := PipeAt.next hp hb'; have ⟨p0, p1, p2, p3, p4, p5⟩ := hp) | (go_at_call 57; (with_reducible refine (HC1.out _).mono ?_); rintro e w' ⟨rfl, hb'⟩; have hb := bnext hb hb'; have hp := PipeAt.next hp hb'; have ⟨p0, p1, p2, p3, p4, p5⟩ := hp) | (go_at_call 57; (with_reducible refine (HC2.out _).mono ?_); rintro e w' ⟨rfl, hb'⟩; have hb := bnext hb hb'; have hp := PipeAt.next hp hb'; have ⟨p0, p1, p2, p3, p4, p5⟩ := hp) | (go_at_call 53; refine (HPC.out _).mono ?_; rintro e w' ⟨rfl, hb'⟩; have hb := bnext hb hb'; have hp := PipeAt.next hp hb'; have ⟨p0, p1, p2, p3, p4, p5⟩ := hp))
            go_wp2_with (first | (go_at_call 58; refine (HL.out _).mono ?_; rintro e w' ⟨rfl, hb'⟩; first | have hb := bnext hb hb' | have hb := bnext (bal hb _) hb' | have hb := bnext (bal (bal hb _) _) hb' | have hb := bnext (bal (bal (bal hb _) _) _) hb' | have hb := bnext (bal (bal (bal (bal hb _) _) _) _) hb' | have hb := bnext (bal (bal (bal (bal (bal hb _) _) _) _) _) hb') | (go_at_call 55; refine (HA.out _).mono ?_; rintro e w' ⟨rfl, rfl⟩) | (go_at_call 56; refine (HN.out _).mono ?_; rintro e w' ⟨rfl, hd'⟩; have hb' := Drawn.below hd'; first | have hb := bnext hb hb' | have hb := bnext (bal hb _) hb' | have hb := bnext (bal (bal hb _) _) hb' | have hb := bnext (bal (bal (bal hb _) _) _) hb' | have hb := bnext (bal (bal (bal (bal hb _) _) _) _) hb' | have hb := bnext (bal (bal (bal (bal (bal hb _) _) _) _) _) hb') | (go_at_call 59; refine (HCL.out _ _ (by omega) (by omega) _).mono ?_; rintro e w' ⟨rfl, rfl⟩))
            all_goals go_ret2
            all_goals (first | exact ⟨rfl, hb⟩ | exact ⟨rfl, (bal hb _)⟩ | exact ⟨rfl, (bal (bal hb _) _)⟩ | exact ⟨rfl, (bal (bal (bal hb _) _) _)⟩)
          · have kz' : (q != 0) = false := by simpa using kz
            have hv : endOV id f t L d s q a c = c := by unfold endOV; simp [*]
            have hc : endOC id f t L d s q a c = 0 := by unfold endOC; simp [*]
            rw [hv, hc]
            clear hv hc
            have hcv : codeP id f t L d s true = 0 := by unfold codeP; simp [*]
            have HPC : Hid (∀ wx, Calls Try.prog 53 #[.agg #[.string id, .int .i64 f, .int .i64 t, .int .i64 L, .int .i64 d, .int .i64 s], .bool true] wx fun e w' => e = .returned (.int .i64 0) ∧ Below wx.heap.size wx w') := Lib.hid fun wx => by
              have := pipeCode_any id f t L d s true wx hs
              rw [hcv] at this
              exact this
            clear hcv
            have HC0 : Hid (∀ wx, Calls Try.prog 54 #[.int .i64 q] wx fun e w' => e = .returned (.bool true) ∧ Below wx.heap.size wx w') := Lib.hid fun wx => by
              have := isFlow_any q wx
              rw [k1] at this
              exact this
            have HC1 : Hid (∀ wx, Calls Try.prog 57 #[.int .i64 a] wx fun e w' => e = .returned (.bool true) ∧ Below wx.heap.size wx w') := Lib.hid fun wx => by
              have := isTemperature_any a wx
              rw [k2] at this
              exact this
            have HC2 : Hid (∀ wx, Calls Try.prog 57 #[.int .i64 c] wx fun e w' => e = .returned (.bool true) ∧ Below wx.heap.size wx w') := Lib.hid fun wx => by
              have := isTemperature_any c wx
              rw [k3] at this
              exact this
            have z : (q == 0) = true := by simpa using kz'
            have hp := PipeAt.new w id f t L d s 25
            have hb : Below w.heap.size w (w.alloc (.cells #[.string id, .int .i64 f, .int .i64 t, .int .i64 L, .int .i64 d, .int .i64 s] 25)) := bal (Below.refl _ _) _
            go_enter Try.func20, Try.ntmps20
            go_wp2_with fail
            have hb : Below w.heap.size w (w.alloc (.cells #[.string id, .int .i64 f, .int .i64 t, .int .i64 L, .int .i64 d, .int .i64 s] 25)).drew := below_drewN hb 1
            have hp : PipeAt (w.alloc (.cells #[.string id, .int .i64 f, .int .i64 t, .int .i64 L, .int .i64 d, .int .i64 s] 25)).drew w.heap.size id f t L d s := hp
            have ⟨p0, p1, p2, p3, p4, p5⟩ := hp
            go_region_held3 (fun w' => w'.cell? ⟨w.heap.size, 0, none⟩ = some (.string id) ∧ w'.cell? ⟨w.heap.size, 1, none⟩ = some (.int .i64 f) ∧ w'.cell? ⟨w.heap.size, 2, none⟩ = some (.int .i64 t) ∧ w'.cell? ⟨w.heap.size, 3, none⟩ = some (.int .i64 L) ∧ w'.cell? ⟨w.heap.size, 4, none⟩ = some (.int .i64 d) ∧ w'.cell? ⟨w.heap.size, 5, none⟩ = some (.int .i64 s)) (exact ⟨p0, p1, p2, p3, p4, p5⟩) (first | (go_at_call 54; (with_reducible refine (HC0.out _).mono ?_); rintro e w' ⟨rfl, hb'⟩; have hb := bnext hb hb'; have hp := PipeAt.next hp hb'; have ⟨p0, p1, p2, p3, p4, p5⟩ := hp) | (go_at_call 57; (with_reducible refine (HC1.out _).mono ?_); rintro e w' ⟨rfl, hb'⟩; have hb := bnext hb hb'; have hp := PipeAt.next hp hb'; have ⟨p0, p1, p2, p3, p4, p5⟩ := hp) | (go_at_call 57; (with_reducible refine (HC2.out _).mono ?_); rintro e w' ⟨rfl, hb'⟩; have hb := bnext hb hb'; have hp := PipeAt.next hp hb'; have ⟨p0, p1, p2, p3, p4, p5⟩ := hp) | (go_at_call 53; refine (HPC.out _).mono ?_; rintro e w' ⟨rfl, hb'⟩; have hb := bnext hb hb'; have hp := PipeAt.next hp hb'; have ⟨p0, p1, p2, p3, p4, p5⟩ := hp))
            go_wp2_with (first | (go_at_call 58; refine (HL.out _).mono ?_; rintro e w' ⟨rfl, hb'⟩; first | have hb := bnext hb hb' | have hb := bnext (bal hb _) hb' | have hb := bnext (bal (bal hb _) _) hb' | have hb := bnext (bal (bal (bal hb _) _) _) hb' | have hb := bnext (bal (bal (bal (bal hb _) _) _) _) hb' | have hb := bnext (bal (bal (bal (bal (bal hb _) _) _) _) _) hb') | (go_at_call 55; refine (HA.out _).mono ?_; rintro e w' ⟨rfl, rfl⟩) | (go_at_call 56; refine (HN.out _).mono ?_; rintro e w' ⟨rfl, hd'⟩; have hb' := Drawn.below hd'; first | have hb := bnext hb hb' | have hb := bnext (bal hb _) hb' | have hb := bnext (bal (bal hb _) _) hb' | have hb := bnext (bal (bal (bal hb _) _) _) hb' | have hb := bnext (bal (bal (bal (bal hb _) _) _) _) hb' | have hb := bnext (bal (bal (bal (bal (bal hb _) _) _) _) _) hb') | (go_at_call 59; refine (HCL.out _ _ (by omega) (by omega) _).mono ?_; rintro e w' ⟨rfl, rfl⟩))
            all_goals go_ret2
            all_goals (first | exact ⟨rfl, hb⟩ | exact ⟨rfl, (bal hb _)⟩ | exact ⟨rfl, (bal (bal hb _) _)⟩ | exact ⟨rfl, (bal (bal (bal hb _) _) _)⟩)
        · have k3' : inB c (-5000) 20000 = false := by simpa using k3
          have hv : endOV id f t L d s q a c = 0 := by unfold endOV; simp [*]
          have hc : endOC id f t L d s q a c = 2 := by unfold endOC; simp [*]
          rw [hv, hc]
          clear hv hc
          have hcv : codeP id f t L d s false = 2 := by unfold codeP; simp [*]
          have HPC : Hid (∀ wx, Calls Try.prog 53 #[.agg #[.string id, .int .i64 f, .int .i64 t, .int .i64 L, .int .i64 d, .int .i64 s], .bool false] wx fun e w' => e = .returned (.int .i64 2) ∧ Below wx.heap.size wx w') := Lib.hid fun wx => by
            have := pipeCode_any id f t L d s false wx hs
            rw [hcv] at this
            exact this
          clear hcv
          have HC0 : Hid (∀ wx, Calls Try.prog 54 #[.int .i64 q] wx fun e w' => e = .returned (.bool true) ∧ Below wx.heap.size wx w') := Lib.hid fun wx => by
            have := isFlow_any q wx
            rw [k1] at this
            exact this
          have HC1 : Hid (∀ wx, Calls Try.prog 57 #[.int .i64 a] wx fun e w' => e = .returned (.bool true) ∧ Below wx.heap.size wx w') := Lib.hid fun wx => by
            have := isTemperature_any a wx
            rw [k2] at this
            exact this
          have HC2 : Hid (∀ wx, Calls Try.prog 57 #[.int .i64 c] wx fun e w' => e = .returned (.bool false) ∧ Below wx.heap.size wx w') := Lib.hid fun wx => by
            have := isTemperature_any c wx
            rw [k3'] at this
            exact this
          have hp := PipeAt.new w id f t L d s 25
          have hb : Below w.heap.size w (w.alloc (.cells #[.string id, .int .i64 f, .int .i64 t, .int .i64 L, .int .i64 d, .int .i64 s] 25)) := bal (Below.refl _ _) _
          go_enter Try.func20, Try.ntmps20
          go_wp2_with fail
          have hb : Below w.heap.size w (w.alloc (.cells #[.string id, .int .i64 f, .int .i64 t, .int .i64 L, .int .i64 d, .int .i64 s] 25)).drew := below_drewN hb 1
          have hp : PipeAt (w.alloc (.cells #[.string id, .int .i64 f, .int .i64 t, .int .i64 L, .int .i64 d, .int .i64 s] 25)).drew w.heap.size id f t L d s := hp
          have ⟨p0, p1, p2, p3, p4, p5⟩ := hp
          go_region_held3 (fun w' => w'.cell? ⟨w.heap.size, 0, none⟩ = some (.string id) ∧ w'.cell? ⟨w.heap.size, 1, none⟩ = some (.int .i64 f) ∧ w'.cell? ⟨w.heap.size, 2, none⟩ = some (.int .i64 t) ∧ w'.cell? ⟨w.heap.size, 3, none⟩ = some (.int .i64 L) ∧ w'.cell? ⟨w.heap.size, 4, none⟩ = some (.int .i64 d) ∧ w'.cell? ⟨w.heap.size, 5, none⟩ = some (.int .i64 s)) (exact ⟨p0, p1, p2, p3, p4, p5⟩) (first | (go_at_call 54; (with_reducible refine (HC0.out _).mono ?_); rintro e w' ⟨rfl, hb'⟩; have hb := bnext hb hb'; have hp := PipeAt.next hp hb'; have ⟨p0, p1, p2, p3, p4, p5⟩ := hp) | (go_at_call 57; (with_reducible refine (HC1.out _).mono ?_); rintro e w' ⟨rfl, hb'⟩; have hb := bnext hb hb'; have hp := PipeAt.next hp hb'; have ⟨p0, p1, p2, p3, p4, p5⟩ := hp) | (go_at_call 57; (with_reducible refine (HC2.out _).mono ?_); rintro e w' ⟨rfl, hb'⟩; have hb := bnext hb hb'; have hp := PipeAt.next hp hb'; have ⟨p0, p1, p2, p3, p4, p5⟩ := hp) | (go_at_call 53; refine (HPC.out _).mono ?_; rintro e w' ⟨rfl, hb'⟩; have hb := bnext hb hb'; have hp := PipeAt.next hp hb'; have ⟨p0, p1, p2, p3, p4, p5⟩ := hp))
          go_wp2
          all_goals go_ret2
          all_goals (first | exact ⟨rfl, hb⟩ | exact ⟨rfl, (bal hb _)⟩ | exact ⟨rfl, (bal (bal hb _) _)⟩ | exact ⟨rfl, (bal (bal (bal hb _) _) _)⟩)
      · have k2' : inB a (-5000) 20000 = false := by simpa using k2
        have hv : endOV id f t L d s q a c = 0 := by unfold endOV; simp [*]
        have hc : endOC id f t L d s q a c = 2 := by unfold endOC; simp [*]
        rw [hv, hc]
        clear hv hc
        have hcv : codeP id f t L d s false = 2 := by unfold codeP; simp [*]
        have HPC : Hid (∀ wx, Calls Try.prog 53 #[.agg #[.string id, .int .i64 f, .int .i64 t, .int .i64 L, .int .i64 d, .int .i64 s], .bool false] wx fun e w' => e = .returned (.int .i64 2) ∧ Below wx.heap.size wx w') := Lib.hid fun wx => by
          have := pipeCode_any id f t L d s false wx hs
          rw [hcv] at this
          exact this
        clear hcv
        have HC0 : Hid (∀ wx, Calls Try.prog 54 #[.int .i64 q] wx fun e w' => e = .returned (.bool true) ∧ Below wx.heap.size wx w') := Lib.hid fun wx => by
          have := isFlow_any q wx
          rw [k1] at this
          exact this
        have HC1 : Hid (∀ wx, Calls Try.prog 57 #[.int .i64 a] wx fun e w' => e = .returned (.bool false) ∧ Below wx.heap.size wx w') := Lib.hid fun wx => by
          have := isTemperature_any a wx
          rw [k2'] at this
          exact this
        have hp := PipeAt.new w id f t L d s 25
        have hb : Below w.heap.size w (w.alloc (.cells #[.string id, .int .i64 f, .int .i64 t, .int .i64 L, .int .i64 d, .int .i64 s] 25)) := bal (Below.refl _ _) _
        go_enter Try.func20, Try.ntmps20
        go_wp2_with fail
        have hb : Below w.heap.size w (w.alloc (.cells #[.string id, .int .i64 f, .int .i64 t, .int .i64 L, .int .i64 d, .int .i64 s] 25)).drew := below_drewN hb 1
        have hp : PipeAt (w.alloc (.cells #[.string id, .int .i64 f, .int .i64 t, .int .i64 L, .int .i64 d, .int .i64 s] 25)).drew w.heap.size id f t L d s := hp
        have ⟨p0, p1, p2, p3, p4, p5⟩ := hp
        refine wp_region_held_drew (S := fun w' => w'.cell? ⟨w.heap.size, 0, none⟩ = some (.string id) ∧ w'.cell? ⟨w.heap.size, 1, none⟩ = some (.int .i64 f) ∧ w'.cell? ⟨w.heap.size, 2, none⟩ = some (.int .i64 t) ∧ w'.cell? ⟨w.heap.size, 3, none⟩ = some (.int .i64 L) ∧ w'.cell? ⟨w.heap.size, 4, none⟩ = some (.int .i64 d) ∧ w'.cell? ⟨w.heap.size, 5, none⟩ = some (.int .i64 s)) (by kernel_rfl) (⟨p0, p1, p2, p3, p4, p5⟩) (fun hHeld => ?_)
        refine wpAnyH_take (i := 0) (v := .agg #[.string id, .int .i64 f, .int .i64 t, .int .i64 L, .int .i64 d, .int .i64 s]) rfl (by kernel_rfl) (by kernel_rfl) (by kernel_rfl) (fun _ _ _ h => h) (Or.inl ⟨by rfl, ?_⟩) (by assumption) ?_
        · intro wz hSw
          (try dsimp only at hSw)
          go_split_ands
          go_simp
        try simp only [Act.put, List.setIfInBounds_toArray, List.set_cons_zero, List.set_cons_succ]
        refine wpAnyH_take (i := 1) (v := .int .i64 q) rfl (by kernel_rfl) (by kernel_rfl) (by kernel_rfl) (fun _ _ _ h => h) (Or.inl ⟨by rfl, ?_⟩) (by assumption) ?_
        · intro wz hSw
          (try dsimp only at hSw)
          go_split_ands
          go_simp
        try simp only [Act.put, List.setIfInBounds_toArray, List.set_cons_zero, List.set_cons_succ]
        refine wpAnyH_ready (rs := [2]) (by kernel_rfl) (by simp) ?_
        refine AllReadyH.cons rfl (fun K hK => ?_) AllReadyH.nil
        go_simp
        (first | (go_at_call 54; (with_reducible refine (HC0.out _).mono ?_); rintro e w' ⟨rfl, hb'⟩; have hb := bnext hb hb'; have hp := PipeAt.next hp hb'; have ⟨p0, p1, p2, p3, p4, p5⟩ := hp) | (go_at_call 57; (with_reducible refine (HC1.out _).mono ?_); rintro e w' ⟨rfl, hb'⟩; have hb := bnext hb hb'; have hp := PipeAt.next hp hb'; have ⟨p0, p1, p2, p3, p4, p5⟩ := hp) | (go_at_call 53; refine (HPC.out _).mono ?_; rintro e w' ⟨rfl, hb'⟩; have hb := bnext hb hb'; have hp := PipeAt.next hp hb'; have ⟨p0, p1, p2, p3, p4, p5⟩ := hp))
        go_wp2_with fail
        refine hK.out _ _ (⟨p0, p1, p2, p3, p4, p5⟩) (fun hHeld => ?_)
        clear hK K
        try simp only [Act.put, List.setIfInBounds_toArray, List.set_cons_zero, List.set_cons_succ]
        refine wpAnyH_take (i := 3) (v := .bool true) rfl (by kernel_rfl) (by kernel_rfl) (by kernel_rfl) (fun _ _ _ h => h) (Or.inl ⟨by rfl, ?_⟩) (by assumption) ?_
        · intro wz hSw
          (try dsimp only at hSw)
          go_split_ands
          go_simp
        try simp only [Act.put, List.setIfInBounds_toArray, List.set_cons_zero, List.set_cons_succ]
        refine wpAnyH_take (i := 4) (v := .int .i64 a) rfl (by kernel_rfl) (by kernel_rfl) (by kernel_rfl) (fun _ _ _ h => h) (Or.inl ⟨by rfl, ?_⟩) (by assumption) ?_
        · intro wz hSw
          (try dsimp only at hSw)
          go_split_ands
          go_simp
        try simp only [Act.put, List.setIfInBounds_toArray, List.set_cons_zero, List.set_cons_succ]
        refine wpAnyH_ready (rs := [5]) (by kernel_rfl) (by simp) ?_
        refine AllReadyH.cons rfl (fun K hK => ?_) AllReadyH.nil
        go_simp
        (first | (go_at_call 54; (with_reducible refine (HC0.out _).mono ?_); rintro e w' ⟨rfl, hb'⟩; have hb := bnext hb hb'; have hp := PipeAt.next hp hb'; have ⟨p0, p1, p2, p3, p4, p5⟩ := hp) | (go_at_call 57; (with_reducible refine (HC1.out _).mono ?_); rintro e w' ⟨rfl, hb'⟩; have hb := bnext hb hb'; have hp := PipeAt.next hp hb'; have ⟨p0, p1, p2, p3, p4, p5⟩ := hp) | (go_at_call 53; refine (HPC.out _).mono ?_; rintro e w' ⟨rfl, hb'⟩; have hb := bnext hb hb'; have hp := PipeAt.next hp hb'; have ⟨p0, p1, p2, p3, p4, p5⟩ := hp))
        go_wp2_with fail
        refine hK.out _ _ (⟨p0, p1, p2, p3, p4, p5⟩) (fun hHeld => ?_)
        clear hK K
        try simp only [Act.put, List.setIfInBounds_toArray, List.set_cons_zero, List.set_cons_succ]
        refine wpAnyH_take (i := 6) (v := .bool false) rfl (by kernel_rfl) (by kernel_rfl) (by kernel_rfl) (fun _ _ _ h => h) (Or.inl ⟨by rfl, ?_⟩) (by assumption) ?_
        · intro wz hSw
          (try dsimp only at hSw)
          go_split_ands
          go_simp
        try simp only [Act.put, List.setIfInBounds_toArray, List.set_cons_zero, List.set_cons_succ]
        refine wpAnyH_take (i := 7) (v := .bool false) rfl (by kernel_rfl) (by kernel_rfl) (by kernel_rfl) (fun _ _ _ h => h) (Or.inl ⟨by rfl, ?_⟩) (by assumption) ?_
        · intro wz hSw
          (try dsimp only at hSw)
          go_split_ands
          go_simp
        try simp only [Act.put, List.setIfInBounds_toArray, List.set_cons_zero, List.set_cons_succ]
        refine wpAnyH_take (i := 8) (v := undef) rfl (by kernel_rfl) (by kernel_rfl) (by kernel_rfl) (fun _ _ _ h => h) (Or.inr ⟨by rfl, rfl⟩) (by assumption) ?_
        try simp only [Act.put, List.setIfInBounds_toArray, List.set_cons_zero, List.set_cons_succ]
        refine wpAnyH_take (i := 9) (v := undef) rfl (by kernel_rfl) (by kernel_rfl) (by kernel_rfl) (fun _ _ _ h => h) (Or.inr ⟨by rfl, rfl⟩) (by assumption) ?_
        try simp only [Act.put, List.setIfInBounds_toArray, List.set_cons_zero, List.set_cons_succ]
        refine wpAnyH_take (i := 10) (v := .bool false) rfl (by kernel_rfl) (by kernel_rfl) (by kernel_rfl) (fun _ _ _ h => h) (Or.inl ⟨by rfl, ?_⟩) (by assumption) ?_
        · intro wz hSw
          (try dsimp only at hSw)
          go_split_ands
          go_simp
        try simp only [Act.put, List.setIfInBounds_toArray, List.set_cons_zero, List.set_cons_succ]
        refine wpAnyH_ready (rs := [11]) (by kernel_rfl) (by simp) ?_
        refine AllReadyH.cons rfl (fun K hK => ?_) AllReadyH.nil
        go_simp
        (first | (go_at_call 54; (with_reducible refine (HC0.out _).mono ?_); rintro e w' ⟨rfl, hb'⟩; have hb := bnext hb hb'; have hp := PipeAt.next hp hb'; have ⟨p0, p1, p2, p3, p4, p5⟩ := hp) | (go_at_call 57; (with_reducible refine (HC1.out _).mono ?_); rintro e w' ⟨rfl, hb'⟩; have hb := bnext hb hb'; have hp := PipeAt.next hp hb'; have ⟨p0, p1, p2, p3, p4, p5⟩ := hp) | (go_at_call 53; refine (HPC.out _).mono ?_; rintro e w' ⟨rfl, hb'⟩; have hb := bnext hb hb'; have hp := PipeAt.next hp hb'; have ⟨p0, p1, p2, p3, p4, p5⟩ := hp))
        go_wp2_with fail
        refine hK.out _ _ (⟨p0, p1, p2, p3, p4, p5⟩) (fun hHeld => ?_)
        clear hK K
        try simp only [Act.put, List.setIfInBounds_toArray, List.set_cons_zero, List.set_cons_succ]
        refine wpAnyH_take (i := 12) (v := .int .i64 2) rfl (by kernel_rfl) (by kernel_rfl) (by kernel_rfl) (fun _ _ _ h => h) (Or.inl ⟨by rfl, ?_⟩) (by assumption) ?_
        · intro wz hSw
          (try dsimp only at hSw)
          go_split_ands
          go_simp
        try simp only [Act.put, List.setIfInBounds_toArray, List.set_cons_zero, List.set_cons_succ]
        refine wpAnyH_done (by kernel_rfl) ?_ _
        go_wp2
        all_goals go_ret2
        all_goals (first | exact ⟨rfl, hb⟩ | exact ⟨rfl, (bal hb _)⟩ | exact ⟨rfl, (bal (bal hb _) _)⟩ | exact ⟨rfl, (bal (bal (bal hb _) _) _)⟩)
    · have k1' : inB q (-100000) 100000 = false := by simpa using k1
      have hv : endOV id f t L d s q a c = 0 := by unfold endOV; simp [*]
      have hc : endOC id f t L d s q a c = 2 := by unfold endOC; simp [*]
      rw [hv, hc]
      clear hv hc
      have hcv : codeP id f t L d s false = 2 := by unfold codeP; simp [*]
      have HPC : Hid (∀ wx, Calls Try.prog 53 #[.agg #[.string id, .int .i64 f, .int .i64 t, .int .i64 L, .int .i64 d, .int .i64 s], .bool false] wx fun e w' => e = .returned (.int .i64 2) ∧ Below wx.heap.size wx w') := Lib.hid fun wx => by
        have := pipeCode_any id f t L d s false wx hs
        rw [hcv] at this
        exact this
      clear hcv
      have HC0 : Hid (∀ wx, Calls Try.prog 54 #[.int .i64 q] wx fun e w' => e = .returned (.bool false) ∧ Below wx.heap.size wx w') := Lib.hid fun wx => by
        have := isFlow_any q wx
        rw [k1'] at this
        exact this
      have hp := PipeAt.new w id f t L d s 25
      have hb : Below w.heap.size w (w.alloc (.cells #[.string id, .int .i64 f, .int .i64 t, .int .i64 L, .int .i64 d, .int .i64 s] 25)) := bal (Below.refl _ _) _
      go_enter Try.func20, Try.ntmps20
      go_wp2_with fail
      have hb : Below w.heap.size w (w.alloc (.cells #[.string id, .int .i64 f, .int .i64 t, .int .i64 L, .int .i64 d, .int .i64 s] 25)).drew := below_drewN hb 1
      have hp : PipeAt (w.alloc (.cells #[.string id, .int .i64 f, .int .i64 t, .int .i64 L, .int .i64 d, .int .i64 s] 25)).drew w.heap.size id f t L d s := hp
      have ⟨p0, p1, p2, p3, p4, p5⟩ := hp
      refine wp_region_held_drew (S := fun w' => w'.cell? ⟨w.heap.size, 0, none⟩ = some (.string id) ∧ w'.cell? ⟨w.heap.size, 1, none⟩ = some (.int .i64 f) ∧ w'.cell? ⟨w.heap.size, 2, none⟩ = some (.int .i64 t) ∧ w'.cell? ⟨w.heap.size, 3, none⟩ = some (.int .i64 L) ∧ w'.cell? ⟨w.heap.size, 4, none⟩ = some (.int .i64 d) ∧ w'.cell? ⟨w.heap.size, 5, none⟩ = some (.int .i64 s)) (by kernel_rfl) (⟨p0, p1, p2, p3, p4, p5⟩) (fun hHeld => ?_)
      refine wpAnyH_take (i := 0) (v := .agg #[.string id, .int .i64 f, .int .i64 t, .int .i64 L, .int .i64 d, .int .i64 s]) rfl (by kernel_rfl) (by kernel_rfl) (by kernel_rfl) (fun _ _ _ h => h) (Or.inl ⟨by rfl, ?_⟩) (by assumption) ?_
      · intro wz hSw
        (try dsimp only at hSw)
        go_split_ands
        go_simp
      try simp only [Act.put, List.setIfInBounds_toArray, List.set_cons_zero, List.set_cons_succ]
      refine wpAnyH_take (i := 1) (v := .int .i64 q) rfl (by kernel_rfl) (by kernel_rfl) (by kernel_rfl) (fun _ _ _ h => h) (Or.inl ⟨by rfl, ?_⟩) (by assumption) ?_
      · intro wz hSw
        (try dsimp only at hSw)
        go_split_ands
        go_simp
      try simp only [Act.put, List.setIfInBounds_toArray, List.set_cons_zero, List.set_cons_succ]
      refine wpAnyH_ready (rs := [2]) (by kernel_rfl) (by simp) ?_
      refine AllReadyH.cons rfl (fun K hK => ?_) AllReadyH.nil
      go_simp
      (first | (go_at_call 54; (with_reducible refine (HC0.out _).mono ?_); rintro e w' ⟨rfl, hb'⟩; have hb := bnext hb hb'; have hp := PipeAt.next hp hb'; have ⟨p0, p1, p2, p3, p4, p5⟩ := hp) | (go_at_call 53; refine (HPC.out _).mono ?_; rintro e w' ⟨rfl, hb'⟩; have hb := bnext hb hb'; have hp := PipeAt.next hp hb'; have ⟨p0, p1, p2, p3, p4, p5⟩ := hp))
      go_wp2_with fail
      refine hK.out _ _ (⟨p0, p1, p2, p3, p4, p5⟩) (fun hHeld => ?_)
      clear hK K
      try simp only [Act.put, List.setIfInBounds_toArray, List.set_cons_zero, List.set_cons_succ]
      refine wpAnyH_take (i := 3) (v := .bool false) rfl (by kernel_rfl) (by kernel_rfl) (by kernel_rfl) (fun _ _ _ h => h) (Or.inl ⟨by rfl, ?_⟩) (by assumption) ?_
      · intro wz hSw
        (try dsimp only at hSw)
        go_split_ands
        go_simp
      try simp only [Act.put, List.setIfInBounds_toArray, List.set_cons_zero, List.set_cons_succ]
      refine wpAnyH_take (i := 4) (v := undef) rfl (by kernel_rfl) (by kernel_rfl) (by kernel_rfl) (fun _ _ _ h => h) (Or.inr ⟨by rfl, rfl⟩) (by assumption) ?_
      try simp only [Act.put, List.setIfInBounds_toArray, List.set_cons_zero, List.set_cons_succ]
      refine wpAnyH_take (i := 5) (v := undef) rfl (by kernel_rfl) (by kernel_rfl) (by kernel_rfl) (fun _ _ _ h => h) (Or.inr ⟨by rfl, rfl⟩) (by assumption) ?_
      try simp only [Act.put, List.setIfInBounds_toArray, List.set_cons_zero, List.set_cons_succ]
      refine wpAnyH_take (i := 6) (v := .bool false) rfl (by kernel_rfl) (by kernel_rfl) (by kernel_rfl) (fun _ _ _ h => h) (Or.inl ⟨by rfl, ?_⟩) (by assumption) ?_
      · intro wz hSw
        (try dsimp only at hSw)
        go_split_ands
        go_simp
      try simp only [Act.put, List.setIfInBounds_toArray, List.set_cons_zero, List.set_cons_succ]
      refine wpAnyH_take (i := 7) (v := .bool false) rfl (by kernel_rfl) (by kernel_rfl) (by kernel_rfl) (fun _ _ _ h => h) (Or.inl ⟨by rfl, ?_⟩) (by assumption) ?_
      · intro wz hSw
        (try dsimp only at hSw)
        go_split_ands
        go_simp
      try simp only [Act.put, List.setIfInBounds_toArray, List.set_cons_zero, List.set_cons_succ]
      refine wpAnyH_take (i := 8) (v := undef) rfl (by kernel_rfl) (by kernel_rfl) (by kernel_rfl) (fun _ _ _ h => h) (Or.inr ⟨by rfl, rfl⟩) (by assumption) ?_
      try simp only [Act.put, List.setIfInBounds_toArray, List.set_cons_zero, List.set_cons_succ]
      refine wpAnyH_take (i := 9) (v := undef) rfl (by kernel_rfl) (by kernel_rfl) (by kernel_rfl) (fun _ _ _ h => h) (Or.inr ⟨by rfl, rfl⟩) (by assumption) ?_
      try simp only [Act.put, List.setIfInBounds_toArray, List.set_cons_zero, List.set_cons_succ]
      refine wpAnyH_take (i := 10) (v := .bool false) rfl (by kernel_rfl) (by kernel_rfl) (by kernel_rfl) (fun _ _ _ h => h) (Or.inl ⟨by rfl, ?_⟩) (by assumption) ?_
      · intro wz hSw
        (try dsimp only at hSw)
        go_split_ands
        go_simp
      try simp only [Act.put, List.setIfInBounds_toArray, List.set_cons_zero, List.set_cons_succ]
      refine wpAnyH_ready (rs := [11]) (by kernel_rfl) (by simp) ?_
      refine AllReadyH.cons rfl (fun K hK => ?_) AllReadyH.nil
      go_simp
      (first | (go_at_call 54; (with_reducible refine (HC0.out _).mono ?_); rintro e w' ⟨rfl, hb'⟩; have hb := bnext hb hb'; have hp := PipeAt.next hp hb'; have ⟨p0, p1, p2, p3, p4, p5⟩ := hp) | (go_at_call 53; refine (HPC.out _).mono ?_; rintro e w' ⟨rfl, hb'⟩; have hb := bnext hb hb'; have hp := PipeAt.next hp hb'; have ⟨p0, p1, p2, p3, p4, p5⟩ := hp))
      go_wp2_with fail
      refine hK.out _ _ (⟨p0, p1, p2, p3, p4, p5⟩) (fun hHeld => ?_)
      clear hK K
      try simp only [Act.put, List.setIfInBounds_toArray, List.set_cons_zero, List.set_cons_succ]
      refine wpAnyH_take (i := 12) (v := .int .i64 2) rfl (by kernel_rfl) (by kernel_rfl) (by kernel_rfl) (fun _ _ _ h => h) (Or.inl ⟨by rfl, ?_⟩) (by assumption) ?_
      · intro wz hSw
        (try dsimp only at hSw)
        go_split_ands
        go_simp
      try simp only [Act.put, List.setIfInBounds_toArray, List.set_cons_zero, List.set_cons_succ]
      refine wpAnyH_done (by kernel_rfl) ?_ _
      go_wp2
      all_goals go_ret2
      all_goals (first | exact ⟨rfl, hb⟩ | exact ⟨rfl, (bal hb _)⟩ | exact ⟨rfl, (bal (bal hb _) _)⟩ | exact ⟨rfl, (bal (bal (bal hb _) _) _)⟩)
  · have ho' : okP id f t L d s = false := by simpa using ho
    by_cases k1 : inB q (-100000) 100000 = true
    · skip
      by_cases k2 : inB a (-5000) 20000 = true
      · skip
        by_cases k3 : inB c (-5000) 20000 = true
        · skip
          have hv : endOV id f t L d s q a c = 0 := by unfold endOV; simp [*]
          have hc : endOC id f t L d s q a c = 1 := by unfold endOC; simp [*]
          rw [hv, hc]
          clear hv hc
          have hcv : codeP id f t L d s true = 1 := by unfold codeP; simp [*]
          have HPC : Hid (∀ wx, Calls Try.prog 53 #[.agg #[.string id, .int .i64 f, .int .i64 t, .int .i64 L, .int .i64 d, .int .i64 s], .bool true] wx fun e w' => e = .returned (.int .i64 1) ∧ Below wx.heap.size wx w') := Lib.hid fun wx => by
            have := pipeCode_any id f t L d s true wx hs
            rw [hcv] at this
            exact this
          clear hcv
          have HC0 : Hid (∀ wx, Calls Try.prog 54 #[.int .i64 q] wx fun e w' => e = .returned (.bool true) ∧ Below wx.heap.size wx w') := Lib.hid fun wx => by
            have := isFlow_any q wx
            rw [k1] at this
            exact this
          have HC1 : Hid (∀ wx, Calls Try.prog 57 #[.int .i64 a] wx fun e w' => e = .returned (.bool true) ∧ Below wx.heap.size wx w') := Lib.hid fun wx => by
            have := isTemperature_any a wx
            rw [k2] at this
            exact this
          have HC2 : Hid (∀ wx, Calls Try.prog 57 #[.int .i64 c] wx fun e w' => e = .returned (.bool true) ∧ Below wx.heap.size wx w') := Lib.hid fun wx => by
            have := isTemperature_any c wx
            rw [k3] at this
            exact this
          have hp := PipeAt.new w id f t L d s 25
          have hb : Below w.heap.size w (w.alloc (.cells #[.string id, .int .i64 f, .int .i64 t, .int .i64 L, .int .i64 d, .int .i64 s] 25)) := bal (Below.refl _ _) _
          go_enter Try.func20, Try.ntmps20
          go_wp2_with fail
          have hb : Below w.heap.size w (w.alloc (.cells #[.string id, .int .i64 f, .int .i64 t, .int .i64 L, .int .i64 d, .int .i64 s] 25)).drew := below_drewN hb 1
          have hp : PipeAt (w.alloc (.cells #[.string id, .int .i64 f, .int .i64 t, .int .i64 L, .int .i64 d, .int .i64 s] 25)).drew w.heap.size id f t L d s := hp
          have ⟨p0, p1, p2, p3, p4, p5⟩ := hp
          go_region_held3 (fun w' => w'.cell? ⟨w.heap.size, 0, none⟩ = some (.string id) ∧ w'.cell? ⟨w.heap.size, 1, none⟩ = some (.int .i64 f) ∧ w'.cell? ⟨w.heap.size, 2, none⟩ = some (.int .i64 t) ∧ w'.cell? ⟨w.heap.size, 3, none⟩ = some (.int .i64 L) ∧ w'.cell? ⟨w.heap.size, 4, none⟩ = some (.int .i64 d) ∧ w'.cell? ⟨w.heap.size, 5, none⟩ = some (.int .i64 s)) (exact ⟨p0, p1, p2, p3, p4, p5⟩) (first | (go_at_call 54; (with_reducible refine (HC0.out _).mono ?_); rintro e w' ⟨rfl, hb'⟩; have hb := bnext hb hb'; have hp := PipeAt.next hp hb'; have ⟨p0, p1, p2, p3, p4, p5⟩ := hp) | (go_at_call 57; (with_reducible refine (HC1.out _).mono ?_); rintro e w' ⟨rfl, hb'⟩; have hb := bnext hb hb'; have hp := PipeAt.next hp hb'; have ⟨p0, p1, p2, p3, p4, p5⟩ := hp) | (go_at_call 57; (with_reducible refine (HC2.out _).mono ?_); rintro e w' ⟨rfl, hb'⟩; have hb := bnext hb hb'; have hp := PipeAt.next hp hb'; have ⟨p0, p1, p2, p3, p4, p5⟩ := hp) | (go_at_call 53; refine (HPC.out _).mono ?_; rintro e w' ⟨rfl, hb'⟩; have hb := bnext hb hb'; have hp := PipeAt.next hp hb'; have ⟨p0, p1, p2, p3, p4, p5⟩ := hp))
          go_wp2
          all_goals go_ret2
          all_goals (first | exact ⟨rfl, hb⟩ | exact ⟨rfl, (bal hb _)⟩ | exact ⟨rfl, (bal (bal hb _) _)⟩ | exact ⟨rfl, (bal (bal (bal hb _) _) _)⟩)
        · have k3' : inB c (-5000) 20000 = false := by simpa using k3
          have hv : endOV id f t L d s q a c = 0 := by unfold endOV; simp [*]
          have hc : endOC id f t L d s q a c = 1 := by unfold endOC; simp [*]
          rw [hv, hc]
          clear hv hc
          have hcv : codeP id f t L d s false = 1 := by unfold codeP; simp [*]
          have HPC : Hid (∀ wx, Calls Try.prog 53 #[.agg #[.string id, .int .i64 f, .int .i64 t, .int .i64 L, .int .i64 d, .int .i64 s], .bool false] wx fun e w' => e = .returned (.int .i64 1) ∧ Below wx.heap.size wx w') := Lib.hid fun wx => by
            have := pipeCode_any id f t L d s false wx hs
            rw [hcv] at this
            exact this
          clear hcv
          have HC0 : Hid (∀ wx, Calls Try.prog 54 #[.int .i64 q] wx fun e w' => e = .returned (.bool true) ∧ Below wx.heap.size wx w') := Lib.hid fun wx => by
            have := isFlow_any q wx
            rw [k1] at this
            exact this
          have HC1 : Hid (∀ wx, Calls Try.prog 57 #[.int .i64 a] wx fun e w' => e = .returned (.bool true) ∧ Below wx.heap.size wx w') := Lib.hid fun wx => by
            have := isTemperature_any a wx
            rw [k2] at this
            exact this
          have HC2 : Hid (∀ wx, Calls Try.prog 57 #[.int .i64 c] wx fun e w' => e = .returned (.bool false) ∧ Below wx.heap.size wx w') := Lib.hid fun wx => by
            have := isTemperature_any c wx
            rw [k3'] at this
            exact this
          have hp := PipeAt.new w id f t L d s 25
          have hb : Below w.heap.size w (w.alloc (.cells #[.string id, .int .i64 f, .int .i64 t, .int .i64 L, .int .i64 d, .int .i64 s] 25)) := bal (Below.refl _ _) _
          go_enter Try.func20, Try.ntmps20
          go_wp2_with fail
          have hb : Below w.heap.size w (w.alloc (.cells #[.string id, .int .i64 f, .int .i64 t, .int .i64 L, .int .i64 d, .int .i64 s] 25)).drew := below_drewN hb 1
          have hp : PipeAt (w.alloc (.cells #[.string id, .int .i64 f, .int .i64 t, .int .i64 L, .int .i64 d, .int .i64 s] 25)).drew w.heap.size id f t L d s := hp
          have ⟨p0, p1, p2, p3, p4, p5⟩ := hp
          go_region_held3 (fun w' => w'.cell? ⟨w.heap.size, 0, none⟩ = some (.string id) ∧ w'.cell? ⟨w.heap.size, 1, none⟩ = some (.int .i64 f) ∧ w'.cell? ⟨w.heap.size, 2, none⟩ = some (.int .i64 t) ∧ w'.cell? ⟨w.heap.size, 3, none⟩ = some (.int .i64 L) ∧ w'.cell? ⟨w.heap.size, 4, none⟩ = some (.int .i64 d) ∧ w'.cell? ⟨w.heap.size, 5, none⟩ = some (.int .i64 s)) (exact ⟨p0, p1, p2, p3, p4, p5⟩) (first | (go_at_call 54; (with_reducible refine (HC0.out _).mono ?_); rintro e w' ⟨rfl, hb'⟩; have hb := bnext hb hb'; have hp := PipeAt.next hp hb'; have ⟨p0, p1, p2, p3, p4, p5⟩ := hp) | (go_at_call 57; (with_reducible refine (HC1.out _).mono ?_); rintro e w' ⟨rfl, hb'⟩; have hb := bnext hb hb'; have hp := PipeAt.next hp hb'; have ⟨p0, p1, p2, p3, p4, p5⟩ := hp) | (go_at_call 57; (with_reducible refine (HC2.out _).mono ?_); rintro e w' ⟨rfl, hb'⟩; have hb := bnext hb hb'; have hp := PipeAt.next hp hb'; have ⟨p0, p1, p2, p3, p4, p5⟩ := hp) | (go_at_call 53; refine (HPC.out _).mono ?_; rintro e w' ⟨rfl, hb'⟩; have hb := bnext hb hb'; have hp := PipeAt.next hp hb'; have ⟨p0, p1, p2, p3, p4, p5⟩ := hp))
          go_wp2
          all_goals go_ret2
          all_goals (first | exact ⟨rfl, hb⟩ | exact ⟨rfl, (bal hb _)⟩ | exact ⟨rfl, (bal (bal hb _) _)⟩ | exact ⟨rfl, (bal (bal (bal hb _) _) _)⟩)
      · have k2' : inB a (-5000) 20000 = false := by simpa using k2
        have hv : endOV id f t L d s q a c = 0 := by unfold endOV; simp [*]
        have hc : endOC id f t L d s q a c = 1 := by unfold endOC; simp [*]
        rw [hv, hc]
        clear hv hc
        have hcv : codeP id f t L d s false = 1 := by unfold codeP; simp [*]
        have HPC : Hid (∀ wx, Calls Try.prog 53 #[.agg #[.string id, .int .i64 f, .int .i64 t, .int .i64 L, .int .i64 d, .int .i64 s], .bool false] wx fun e w' => e = .returned (.int .i64 1) ∧ Below wx.heap.size wx w') := Lib.hid fun wx => by
          have := pipeCode_any id f t L d s false wx hs
          rw [hcv] at this
          exact this
        clear hcv
        have HC0 : Hid (∀ wx, Calls Try.prog 54 #[.int .i64 q] wx fun e w' => e = .returned (.bool true) ∧ Below wx.heap.size wx w') := Lib.hid fun wx => by
          have := isFlow_any q wx
          rw [k1] at this
          exact this
        have HC1 : Hid (∀ wx, Calls Try.prog 57 #[.int .i64 a] wx fun e w' => e = .returned (.bool false) ∧ Below wx.heap.size wx w') := Lib.hid fun wx => by
          have := isTemperature_any a wx
          rw [k2'] at this
          exact this
        have hp := PipeAt.new w id f t L d s 25
        have hb : Below w.heap.size w (w.alloc (.cells #[.string id, .int .i64 f, .int .i64 t, .int .i64 L, .int .i64 d, .int .i64 s] 25)) := bal (Below.refl _ _) _
        go_enter Try.func20, Try.ntmps20
        go_wp2_with fail
        have hb : Below w.heap.size w (w.alloc (.cells #[.string id, .int .i64 f, .int .i64 t, .int .i64 L, .int .i64 d, .int .i64 s] 25)).drew := below_drewN hb 1
        have hp : PipeAt (w.alloc (.cells #[.string id, .int .i64 f, .int .i64 t, .int .i64 L, .int .i64 d, .int .i64 s] 25)).drew w.heap.size id f t L d s := hp
        have ⟨p0, p1, p2, p3, p4, p5⟩ := hp
        refine wp_region_held_drew (S := fun w' => w'.cell? ⟨w.heap.size, 0, none⟩ = some (.string id) ∧ w'.cell? ⟨w.heap.size, 1, none⟩ = some (.int .i64 f) ∧ w'.cell? ⟨w.heap.size, 2, none⟩ = some (.int .i64 t) ∧ w'.cell? ⟨w.heap.size, 3, none⟩ = some (.int .i64 L) ∧ w'.cell? ⟨w.heap.size, 4, none⟩ = some (.int .i64 d) ∧ w'.cell? ⟨w.heap.size, 5, none⟩ = some (.int .i64 s)) (by kernel_rfl) (⟨p0, p1, p2, p3, p4, p5⟩) (fun hHeld => ?_)
        refine wpAnyH_take (i := 0) (v := .agg #[.string id, .int .i64 f, .int .i64 t, .int .i64 L, .int .i64 d, .int .i64 s]) rfl (by kernel_rfl) (by kernel_rfl) (by kernel_rfl) (fun _ _ _ h => h) (Or.inl ⟨by rfl, ?_⟩) (by assumption) ?_
        · intro wz hSw
          (try dsimp only at hSw)
          go_split_ands
          go_simp
        try simp only [Act.put, List.setIfInBounds_toArray, List.set_cons_zero, List.set_cons_succ]
        refine wpAnyH_take (i := 1) (v := .int .i64 q) rfl (by kernel_rfl) (by kernel_rfl) (by kernel_rfl) (fun _ _ _ h => h) (Or.inl ⟨by rfl, ?_⟩) (by assumption) ?_
        · intro wz hSw
          (try dsimp only at hSw)
          go_split_ands
          go_simp
        try simp only [Act.put, List.setIfInBounds_toArray, List.set_cons_zero, List.set_cons_succ]
        refine wpAnyH_ready (rs := [2]) (by kernel_rfl) (by simp) ?_
        refine AllReadyH.cons rfl (fun K hK => ?_) AllReadyH.nil
        go_simp
        (first | (go_at_call 54; (with_reducible refine (HC0.out _).mono ?_); rintro e w' ⟨rfl, hb'⟩; have hb := bnext hb hb'; have hp := PipeAt.next hp hb'; have ⟨p0, p1, p2, p3, p4, p5⟩ := hp) | (go_at_call 57; (with_reducible refine (HC1.out _).mono ?_); rintro e w' ⟨rfl, hb'⟩; have hb := bnext hb hb'; have hp := PipeAt.next hp hb'; have ⟨p0, p1, p2, p3, p4, p5⟩ := hp) | (go_at_call 53; refine (HPC.out _).mono ?_; rintro e w' ⟨rfl, hb'⟩; have hb := bnext hb hb'; have hp := PipeAt.next hp hb'; have ⟨p0, p1, p2, p3, p4, p5⟩ := hp))
        go_wp2_with fail
        refine hK.out _ _ (⟨p0, p1, p2, p3, p4, p5⟩) (fun hHeld => ?_)
        clear hK K
        try simp only [Act.put, List.setIfInBounds_toArray, List.set_cons_zero, List.set_cons_succ]
        refine wpAnyH_take (i := 3) (v := .bool true) rfl (by kernel_rfl) (by kernel_rfl) (by kernel_rfl) (fun _ _ _ h => h) (Or.inl ⟨by rfl, ?_⟩) (by assumption) ?_
        · intro wz hSw
          (try dsimp only at hSw)
          go_split_ands
          go_simp
        try simp only [Act.put, List.setIfInBounds_toArray, List.set_cons_zero, List.set_cons_succ]
        refine wpAnyH_take (i := 4) (v := .int .i64 a) rfl (by kernel_rfl) (by kernel_rfl) (by kernel_rfl) (fun _ _ _ h => h) (Or.inl ⟨by rfl, ?_⟩) (by assumption) ?_
        · intro wz hSw
          (try dsimp only at hSw)
          go_split_ands
          go_simp
        try simp only [Act.put, List.setIfInBounds_toArray, List.set_cons_zero, List.set_cons_succ]
        refine wpAnyH_ready (rs := [5]) (by kernel_rfl) (by simp) ?_
        refine AllReadyH.cons rfl (fun K hK => ?_) AllReadyH.nil
        go_simp
        (first | (go_at_call 54; (with_reducible refine (HC0.out _).mono ?_); rintro e w' ⟨rfl, hb'⟩; have hb := bnext hb hb'; have hp := PipeAt.next hp hb'; have ⟨p0, p1, p2, p3, p4, p5⟩ := hp) | (go_at_call 57; (with_reducible refine (HC1.out _).mono ?_); rintro e w' ⟨rfl, hb'⟩; have hb := bnext hb hb'; have hp := PipeAt.next hp hb'; have ⟨p0, p1, p2, p3, p4, p5⟩ := hp) | (go_at_call 53; refine (HPC.out _).mono ?_; rintro e w' ⟨rfl, hb'⟩; have hb := bnext hb hb'; have hp := PipeAt.next hp hb'; have ⟨p0, p1, p2, p3, p4, p5⟩ := hp))
        go_wp2_with fail
        refine hK.out _ _ (⟨p0, p1, p2, p3, p4, p5⟩) (fun hHeld => ?_)
        clear hK K
        try simp only [Act.put, List.setIfInBounds_toArray, List.set_cons_zero, List.set_cons_succ]
        refine wpAnyH_take (i := 6) (v := .bool false) rfl (by kernel_rfl) (by kernel_rfl) (by kernel_rfl) (fun _ _ _ h => h) (Or.inl ⟨by rfl, ?_⟩) (by assumption) ?_
        · intro wz hSw
          (try dsimp only at hSw)
          go_split_ands
          go_simp
        try simp only [Act.put, List.setIfInBounds_toArray, List.set_cons_zero, List.set_cons_succ]
        refine wpAnyH_take (i := 7) (v := .bool false) rfl (by kernel_rfl) (by kernel_rfl) (by kernel_rfl) (fun _ _ _ h => h) (Or.inl ⟨by rfl, ?_⟩) (by assumption) ?_
        · intro wz hSw
          (try dsimp only at hSw)
          go_split_ands
          go_simp
        try simp only [Act.put, List.setIfInBounds_toArray, List.set_cons_zero, List.set_cons_succ]
        refine wpAnyH_take (i := 8) (v := undef) rfl (by kernel_rfl) (by kernel_rfl) (by kernel_rfl) (fun _ _ _ h => h) (Or.inr ⟨by rfl, rfl⟩) (by assumption) ?_
        try simp only [Act.put, List.setIfInBounds_toArray, List.set_cons_zero, List.set_cons_succ]
        refine wpAnyH_take (i := 9) (v := undef) rfl (by kernel_rfl) (by kernel_rfl) (by kernel_rfl) (fun _ _ _ h => h) (Or.inr ⟨by rfl, rfl⟩) (by assumption) ?_
        try simp only [Act.put, List.setIfInBounds_toArray, List.set_cons_zero, List.set_cons_succ]
        refine wpAnyH_take (i := 10) (v := .bool false) rfl (by kernel_rfl) (by kernel_rfl) (by kernel_rfl) (fun _ _ _ h => h) (Or.inl ⟨by rfl, ?_⟩) (by assumption) ?_
        · intro wz hSw
          (try dsimp only at hSw)
          go_split_ands
          go_simp
        try simp only [Act.put, List.setIfInBounds_toArray, List.set_cons_zero, List.set_cons_succ]
        refine wpAnyH_ready (rs := [11]) (by kernel_rfl) (by simp) ?_
        refine AllReadyH.cons rfl (fun K hK => ?_) AllReadyH.nil
        go_simp
        (first | (go_at_call 54; (with_reducible refine (HC0.out _).mono ?_); rintro e w' ⟨rfl, hb'⟩; have hb := bnext hb hb'; have hp := PipeAt.next hp hb'; have ⟨p0, p1, p2, p3, p4, p5⟩ := hp) | (go_at_call 57; (with_reducible refine (HC1.out _).mono ?_); rintro e w' ⟨rfl, hb'⟩; have hb := bnext hb hb'; have hp := PipeAt.next hp hb'; have ⟨p0, p1, p2, p3, p4, p5⟩ := hp) | (go_at_call 53; refine (HPC.out _).mono ?_; rintro e w' ⟨rfl, hb'⟩; have hb := bnext hb hb'; have hp := PipeAt.next hp hb'; have ⟨p0, p1, p2, p3, p4, p5⟩ := hp))
        go_wp2_with fail
        refine hK.out _ _ (⟨p0, p1, p2, p3, p4, p5⟩) (fun hHeld => ?_)
        clear hK K
        try simp only [Act.put, List.setIfInBounds_toArray, List.set_cons_zero, List.set_cons_succ]
        refine wpAnyH_take (i := 12) (v := .int .i64 1) rfl (by kernel_rfl) (by kernel_rfl) (by kernel_rfl) (fun _ _ _ h => h) (Or.inl ⟨by rfl, ?_⟩) (by assumption) ?_
        · intro wz hSw
          (try dsimp only at hSw)
          go_split_ands
          go_simp
        try simp only [Act.put, List.setIfInBounds_toArray, List.set_cons_zero, List.set_cons_succ]
        refine wpAnyH_done (by kernel_rfl) ?_ _
        go_wp2
        all_goals go_ret2
        all_goals (first | exact ⟨rfl, hb⟩ | exact ⟨rfl, (bal hb _)⟩ | exact ⟨rfl, (bal (bal hb _) _)⟩ | exact ⟨rfl, (bal (bal (bal hb _) _) _)⟩)
    · have k1' : inB q (-100000) 100000 = false := by simpa using k1
      have hv : endOV id f t L d s q a c = 0 := by unfold endOV; simp [*]
      have hc : endOC id f t L d s q a c = 1 := by unfold endOC; simp [*]
      rw [hv, hc]
      clear hv hc
      have hcv : codeP id f t L d s false = 1 := by unfold codeP; simp [*]
      have HPC : Hid (∀ wx, Calls Try.prog 53 #[.agg #[.string id, .int .i64 f, .int .i64 t, .int .i64 L, .int .i64 d, .int .i64 s], .bool false] wx fun e w' => e = .returned (.int .i64 1) ∧ Below wx.heap.size wx w') := Lib.hid fun wx => by
        have := pipeCode_any id f t L d s false wx hs
        rw [hcv] at this
        exact this
      clear hcv
      have HC0 : Hid (∀ wx, Calls Try.prog 54 #[.int .i64 q] wx fun e w' => e = .returned (.bool false) ∧ Below wx.heap.size wx w') := Lib.hid fun wx => by
        have := isFlow_any q wx
        rw [k1'] at this
        exact this
      have hp := PipeAt.new w id f t L d s 25
      have hb : Below w.heap.size w (w.alloc (.cells #[.string id, .int .i64 f, .int .i64 t, .int .i64 L, .int .i64 d, .int .i64 s] 25)) := bal (Below.refl _ _) _
      go_enter Try.func20, Try.ntmps20
      go_wp2_with fail
      have hb : Below w.heap.size w (w.alloc (.cells #[.string id, .int .i64 f, .int .i64 t, .int .i64 L, .int .i64 d, .int .i64 s] 25)).drew := below_drewN hb 1
      have hp : PipeAt (w.alloc (.cells #[.string id, .int .i64 f, .int .i64 t, .int .i64 L, .int .i64 d, .int .i64 s] 25)).drew w.heap.size id f t L d s := hp
      have ⟨p0, p1, p2, p3, p4, p5⟩ := hp
      refine wp_region_held_drew (S := fun w' => w'.cell? ⟨w.heap.size, 0, none⟩ = some (.string id) ∧ w'.cell? ⟨w.heap.size, 1, none⟩ = some (.int .i64 f) ∧ w'.cell? ⟨w.heap.size, 2, none⟩ = some (.int .i64 t) ∧ w'.cell? ⟨w.heap.size, 3, none⟩ = some (.int .i64 L) ∧ w'.cell? ⟨w.heap.size, 4, none⟩ = some (.int .i64 d) ∧ w'.cell? ⟨w.heap.size, 5, none⟩ = some (.int .i64 s)) (by kernel_rfl) (⟨p0, p1, p2, p3, p4, p5⟩) (fun hHeld => ?_)
      refine wpAnyH_take (i := 0) (v := .agg #[.string id, .int .i64 f, .int .i64 t, .int .i64 L, .int .i64 d, .int .i64 s]) rfl (by kernel_rfl) (by kernel_rfl) (by kernel_rfl) (fun _ _ _ h => h) (Or.inl ⟨by rfl, ?_⟩) (by assumption) ?_
      · intro wz hSw
        (try dsimp only at hSw)
        go_split_ands
        go_simp
      try simp only [Act.put, List.setIfInBounds_toArray, List.set_cons_zero, List.set_cons_succ]
      refine wpAnyH_take (i := 1) (v := .int .i64 q) rfl (by kernel_rfl) (by kernel_rfl) (by kernel_rfl) (fun _ _ _ h => h) (Or.inl ⟨by rfl, ?_⟩) (by assumption) ?_
      · intro wz hSw
        (try dsimp only at hSw)
        go_split_ands
        go_simp
      try simp only [Act.put, List.setIfInBounds_toArray, List.set_cons_zero, List.set_cons_succ]
      refine wpAnyH_ready (rs := [2]) (by kernel_rfl) (by simp) ?_
      refine AllReadyH.cons rfl (fun K hK => ?_) AllReadyH.nil
      go_simp
      (first | (go_at_call 54; (with_reducible refine (HC0.out _).mono ?_); rintro e w' ⟨rfl, hb'⟩; have hb := bnext hb hb'; have hp := PipeAt.next hp hb'; have ⟨p0, p1, p2, p3, p4, p5⟩ := hp) | (go_at_call 53; refine (HPC.out _).mono ?_; rintro e w' ⟨rfl, hb'⟩; have hb := bnext hb hb'; have hp := PipeAt.next hp hb'; have ⟨p0, p1, p2, p3, p4, p5⟩ := hp))
      go_wp2_with fail
      refine hK.out _ _ (⟨p0, p1, p2, p3, p4, p5⟩) (fun hHeld => ?_)
      clear hK K
      try simp only [Act.put, List.setIfInBounds_toArray, List.set_cons_zero, List.set_cons_succ]
      refine wpAnyH_take (i := 3) (v := .bool false) rfl (by kernel_rfl) (by kernel_rfl) (by kernel_rfl) (fun _ _ _ h => h) (Or.inl ⟨by rfl, ?_⟩) (by assumption) ?_
      · intro wz hSw
        (try dsimp only at hSw)
        go_split_ands
        go_simp
      try simp only [Act.put, List.setIfInBounds_toArray, List.set_cons_zero, List.set_cons_succ]
      refine wpAnyH_take (i := 4) (v := undef) rfl (by kernel_rfl) (by kernel_rfl) (by kernel_rfl) (fun _ _ _ h => h) (Or.inr ⟨by rfl, rfl⟩) (by assumption) ?_
      try simp only [Act.put, List.setIfInBounds_toArray, List.set_cons_zero, List.set_cons_succ]
      refine wpAnyH_take (i := 5) (v := undef) rfl (by kernel_rfl) (by kernel_rfl) (by kernel_rfl) (fun _ _ _ h => h) (Or.inr ⟨by rfl, rfl⟩) (by assumption) ?_
      try simp only [Act.put, List.setIfInBounds_toArray, List.set_cons_zero, List.set_cons_succ]
      refine wpAnyH_take (i := 6) (v := .bool false) rfl (by kernel_rfl) (by kernel_rfl) (by kernel_rfl) (fun _ _ _ h => h) (Or.inl ⟨by rfl, ?_⟩) (by assumption) ?_
      · intro wz hSw
        (try dsimp only at hSw)
        go_split_ands
        go_simp
      try simp only [Act.put, List.setIfInBounds_toArray, List.set_cons_zero, List.set_cons_succ]
      refine wpAnyH_take (i := 7) (v := .bool false) rfl (by kernel_rfl) (by kernel_rfl) (by kernel_rfl) (fun _ _ _ h => h) (Or.inl ⟨by rfl, ?_⟩) (by assumption) ?_
      · intro wz hSw
        (try dsimp only at hSw)
        go_split_ands
        go_simp
      try simp only [Act.put, List.setIfInBounds_toArray, List.set_cons_zero, List.set_cons_succ]
      refine wpAnyH_take (i := 8) (v := undef) rfl (by kernel_rfl) (by kernel_rfl) (by kernel_rfl) (fun _ _ _ h => h) (Or.inr ⟨by rfl, rfl⟩) (by assumption) ?_
      try simp only [Act.put, List.setIfInBounds_toArray, List.set_cons_zero, List.set_cons_succ]
      refine wpAnyH_take (i := 9) (v := undef) rfl (by kernel_rfl) (by kernel_rfl) (by kernel_rfl) (fun _ _ _ h => h) (Or.inr ⟨by rfl, rfl⟩) (by assumption) ?_
      try simp only [Act.put, List.setIfInBounds_toArray, List.set_cons_zero, List.set_cons_succ]
      refine wpAnyH_take (i := 10) (v := .bool false) rfl (by kernel_rfl) (by kernel_rfl) (by kernel_rfl) (fun _ _ _ h => h) (Or.inl ⟨by rfl, ?_⟩) (by assumption) ?_
      · intro wz hSw
        (try dsimp only at hSw)
        go_split_ands
        go_simp
      try simp only [Act.put, List.setIfInBounds_toArray, List.set_cons_zero, List.set_cons_succ]
      refine wpAnyH_ready (rs := [11]) (by kernel_rfl) (by simp) ?_
      refine AllReadyH.cons rfl (fun K hK => ?_) AllReadyH.nil
      go_simp
      (first | (go_at_call 54; (with_reducible refine (HC0.out _).mono ?_); rintro e w' ⟨rfl, hb'⟩; have hb := bnext hb hb'; have hp := PipeAt.next hp hb'; have ⟨p0, p1, p2, p3, p4, p5⟩ := hp) | (go_at_call 53; refine (HPC.out _).mono ?_; rintro e w' ⟨rfl, hb'⟩; have hb := bnext hb hb'; have hp := PipeAt.next hp hb'; have ⟨p0, p1, p2, p3, p4, p5⟩ := hp))
      go_wp2_with fail
      refine hK.out _ _ (⟨p0, p1, p2, p3, p4, p5⟩) (fun hHeld => ?_)
      clear hK K
      try simp only [Act.put, List.setIfInBounds_toArray, List.set_cons_zero, List.set_cons_succ]
      refine wpAnyH_take (i := 12) (v := .int .i64 1) rfl (by kernel_rfl) (by kernel_rfl) (by kernel_rfl) (fun _ _ _ h => h) (Or.inl ⟨by rfl, ?_⟩) (by assumption) ?_
      · intro wz hSw
        (try dsimp only at hSw)
        go_split_ands
        go_simp
      try simp only [Act.put, List.setIfInBounds_toArray, List.set_cons_zero, List.set_cons_succ]
      refine wpAnyH_done (by kernel_rfl) ?_ _
      go_wp2
      all_goals go_ret2
      all_goals (first | exact ⟨rfl, hb⟩ | exact ⟨rfl, (bal hb _)⟩ | exact ⟨rfl, (bal (bal hb _) _)⟩ | exact ⟨rfl, (bal (bal (bal hb _) _) _)⟩)

end Go.Proofs.Ytjabcoanpinpiaa
