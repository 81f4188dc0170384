/-
  What makes a wave valid: both sides; the temperature of a wave at a time, of a model's search.
-/
import Derived.Test.YtkbkmpcdidhagacDoorSp2
import Derived.Test.YtkbkmpcdidhagacDoorRi
import Derived.Test.YtkbkmpcdidhagacDoorB6
import Derived.Test.YtkbkmpcdidhagacDoorW3
import Derived.Test.YtkbkmpcdidhagacDoorP2
import Derived.Deep.RegionHeld3
import Derived.IntWalk
namespace Go.Proofs.YtkbkmpcdidhagacDoor
open Go.ChangeShapes Go.WideShapes Go.ChangeAt Go.RowKit

set_option maxRecDepth 100000
set_option linter.unusedVariables false

def Sp.ok (x : Sp) : Bool := inB x.t 0 1000000 && inB x.d (-5000) 20000
def tUp (a b : Sp) : Bool := decide (a.t < b.t)
def spAt (xs : List Sp) (i : Nat) : Sp := xs.getD i default
theorem spAt_get {xs : List Sp} {i : Nat} {x : Sp} (h : xs[i]? = some x) : spAt xs i = x := by unfold spAt; rw [List.getD, h]; rfl
theorem spAt_some (xs : List Sp) (i : Nat) (h : i < xs.length) : xs[i]? = some (spAt xs i) := by
  rw [spAt_get (List.getElem?_eq_getElem h)]; exact List.getElem?_eq_getElem h
/-- the first step is at the time nought -/
def fz (xs : List Sp) : Bool := decide ((spAt xs 0).t = 0)
/-- a wave that is valid -/
def okW (xs : List Sp) : Bool := (decide (1 ≤ xs.length) && decide (xs.length ≤ 24)) && (fz xs && (xs.all Sp.ok && riseBy tUp xs xs.length))
theorem okW_parts {xs : List Sp} (h : okW xs = true) : 1 ≤ xs.length ∧ xs.length ≤ 24 ∧ (spAt xs 0).t = 0 ∧ xs.all Sp.ok = true ∧ riseBy tUp xs xs.length = true := by
  unfold okW fz at h
  simp only [Bool.and_eq_true, decide_eq_true_eq] at h
  exact ⟨h.1.1, h.1.2, h.2.1, h.2.2.1, h.2.2.2⟩
theorem okW_one {xs : List Sp} (h : okW xs = true) (i : Nat) (hi : i < xs.length) : 0 ≤ (spAt xs i).t ∧ (spAt xs i).t ≤ 1000000 ∧ -5000 ≤ (spAt xs i).d ∧ (spAt xs i).d ≤ 20000 := by
  obtain ⟨-, -, -, h2, -⟩ := okW_parts h
  have := List.all_eq_true.1 h2 _ (List.mem_of_getElem? (spAt_some xs i hi))
  unfold Sp.ok at this
  simp only [Bool.and_eq_true, inB_iff] at this
  omega
theorem okW_two {xs : List Sp} (h : okW xs = true) (i : Nat) (hi : i + 1 < xs.length) : (spAt xs i).t < (spAt xs (i + 1)).t := by
  obtain ⟨-, -, -, -, h3⟩ := okW_parts h
  have := riseBy_get h3 i hi _ _ (spAt_some xs i (by omega)) (spAt_some xs (i + 1) hi)
  unfold tUp at this
  exact of_decide_eq_true this
theorem okW_le {xs : List Sp} (h : okW xs = true) (i j : Nat) (hij : i ≤ j) (hj : j < xs.length) : (spAt xs i).t ≤ (spAt xs j).t := by
  induction j with
  | zero => have : i = 0 := by omega
            subst this; exact Int.le_refl _
  | succ j ih =>
    by_cases e : i = j + 1
    · subst e; exact Int.le_refl _
    · have := ih (by omega) (by omega)
      have := okW_two h j hj
      omega

theorem l09Time_any (c : Int) (w : World) : Calls Tryd.prog 27 #[.int .i64 c] w fun e w' => e = .returned (.bool (inB c 0 1000000)) ∧ w = w' := by
  go_enter Tryd.func27, Tryd.ntmps27
  go_wp2_with ((go_at_call 29; refine (in_any _ _ _ _).mono ?_; rintro e w' ⟨rfl, rfl⟩))
  go_ret
  exact ⟨rfl, rfl⟩

set_option maxHeartbeats 4000000 in
theorem l09Ok_any (A : Option Addr) (n c : Nat) (xs : List Sp) (w : World) (h : SpsOk w A n xs) :
    Calls Tryd.prog 14 #[.slice A n c] w fun e w' => e = .returned (.bool (okW xs)) ∧ Drawn w w' := by
  have hn := h.2
  obtain rfl := h.1.1
  have HB := Lib.hid h.cells
  clear h
  go_enter Tryd.func14, Tryd.ntmps14
  go_wp2
  go_loopw [3] (fun i wr => ∃ q : Nat, q ≤ xs.length ∧ i = .int .i64 q ∧ Hid ((xs.take q).all Sp.ok = true ∧ riseBy tUp xs q = true ∧ (0 < q → fz xs = true)) ∧ Drawn w wr) (fun i _ => xs.length - (intOf i).toNat)
  case atStart => exact ⟨0, Nat.zero_le _, rfl, Lib.hid ⟨by simp, rfl, fun h => by omega⟩, Drawn.rfl' _⟩
  case round =>
    obtain ⟨q, hq, rfl, HIN, ⟨nr, rfl⟩⟩ := hrel
    by_cases hlq : q < xs.length
    · obtain ⟨b2, o2, rfl, hrow⟩ := SpO.at HB.out (by omega)
      have hp := spAt_some xs q hlq
      have P := hrow q _ hp
      have Hrow := Lib.hid hrow
      clear hrow
      have HS : Hid ((xs.take (q + 1)).all Sp.ok = ((xs.take q).all Sp.ok && (spAt xs q).ok)) := Lib.hid (by
        have := all_take_succ Sp.ok xs q hlq
        rw [show xs[q] = spAt xs q from Option.some.inj ((List.getElem?_eq_getElem hlq).symm.trans hp)] at this; exact this)
      have HNo : Hid ((spAt xs q).ok = false → xs.all Sp.ok = false) := Lib.hid (by
        have := all_false_at Sp.ok xs q hlq
        rw [show xs[q] = spAt xs q from Option.some.inj ((List.getElem?_eq_getElem hlq).symm.trans hp)] at this; exact this)
      have HRS := Lib.hid (riseBy_succ tUp xs q)
      have HRF := Lib.hid (riseBy_false tUp xs q xs.length hlq)
      obtain ⟨p0, p1⟩ := P
      by_cases hq0 : q = 0
      · subst hq0
        have HFZ : Hid (fz xs = decide ((spAt xs 0).t = 0)) := Lib.hid rfl
        clear hp
        generalize spAt xs 0 = x at *
        rw [Nat.zero_mul, Nat.add_zero] at p0 p1
        have q0 : w.cell? ⟨b2, o2, none⟩ = some (.int .i64 x.t) := p0
        have q1 : w.cell? ⟨b2, o2 + 1, none⟩ = some (.int .i64 x.d) := p1
        by_cases h1 : inB x.t 0 1000000 = true
        rotate_left
        · have h1 : inB x.t 0 1000000 = false := by simpa only [Bool.not_eq_true] using h1
          have HV : Hid (okW xs = false) := Lib.hid (by unfold okW; rw [HNo.out (by unfold Sp.ok; rw [h1]; rfl)]; simp)
          go_wp2
          go_quiet (first | (go_at_call 27; exact quiet_same2 (l09Time_any _ _)) | (go_at_call 28; exact quiet_same2 (l03Degrees_any _ _)))
          go_wp2
          go_ret
          exact ⟨by rw [HV.out]; rfl, ⟨_, World.drewN_drewN ..⟩⟩
        by_cases h2 : inB x.d (-5000) 20000 = true
        rotate_left
        · have h2 : inB x.d (-5000) 20000 = false := by simpa only [Bool.not_eq_true] using h2
          have HV : Hid (okW xs = false) := Lib.hid (by unfold okW; rw [HNo.out (by unfold Sp.ok; rw [h1, h2]; rfl)]; simp)
          go_wp2
          go_quiet (first | (go_at_call 27; exact quiet_same2 (l09Time_any _ _)) | (go_at_call 28; exact quiet_same2 (l03Degrees_any _ _)))
          go_wp2
          go_ret
          exact ⟨by rw [HV.out]; rfl, ⟨_, World.drewN_drewN ..⟩⟩
        have HF : Hid (x.ok = true) := Lib.hid (by unfold Sp.ok; rw [h1, h2]; rfl)
        by_cases h3 : x.t = 0
        · have HFZ : Hid (fz xs = true) := Lib.hid (by rw [HFZ.out]; exact decide_eq_true h3)
          have hne : (x.t != 0) = false := by rw [h3]; rfl
          clear h3
          go_wp2
          go_quiet (first | (go_at_call 27; exact quiet_same2 (l09Time_any _ _)) | (go_at_call 28; exact quiet_same2 (l03Degrees_any _ _)))
          go_wp2
          go_roundw
          case rel => exact ⟨0 + 1, by omega, by go_num, Lib.hid ⟨by rw [HS.out, HIN.out.1, HF.out]; rfl, by rw [HRS.out, HIN.out.2.1, riseByAt_zero]; rfl, fun _ => HFZ.out⟩, ⟨_, rfl⟩⟩
          case measure => simp [intOf]; omega
        · have HV : Hid (okW xs = false) := Lib.hid (by unfold okW; rw [HFZ.out, decide_eq_false h3]; simp)
          have hne : (x.t != 0) = true := by simpa using h3
          clear HFZ h3
          go_wp2
          go_quiet (first | (go_at_call 27; exact quiet_same2 (l09Time_any _ _)) | (go_at_call 28; exact quiet_same2 (l03Degrees_any _ _)))
          go_wp2
          go_ret
          exact ⟨by rw [HV.out]; rfl, ⟨_, World.drewN_drewN ..⟩⟩
      · obtain ⟨r, hr⟩ : ∃ r, q = r + 1 := ⟨q - 1, by omega⟩
        have hp' := spAt_some xs r (by omega)
        have P' := Hrow.out r _ hp'
        have hat : riseByAt tUp xs q = tUp (spAt xs r) (spAt xs q) := by
          have := riseByAt_at tUp xs r _ _ hp' (by rw [← hr]; exact hp)
          rw [← hr] at this
          exact this
        clear hp hp'
        generalize spAt xs r = x' at *
        generalize spAt xs q = x at *
        obtain ⟨s0, s1⟩ := P'
        have hi0 : 0 < q := by omega
        have hi1 : decide (0 < q) = true := decide_eq_true hi0
        have hi00 : ((q : Int) == 0) = false := by rw [beq_eq_false_iff_ne]; omega
        have hi01 : (q == 0) = false := by rw [beq_eq_false_iff_ne]; omega
        have hi2 : (0 : Int) ≤ (q : Int) - 1 := by omega
        have hi3 : ((q : Int) - 1).toNat = r := by omega
        have hi4 : (q : Int) - 1 < (xs.length : Int) := by omega
        have HR := Lib.hid hr
        clear hr
        by_cases h1 : inB x.t 0 1000000 = true
        rotate_left
        · have h1 : inB x.t 0 1000000 = false := by simpa only [Bool.not_eq_true] using h1
          have HV : Hid (okW xs = false) := Lib.hid (by unfold okW; rw [HNo.out (by unfold Sp.ok; rw [h1]; rfl)]; simp)
          clear hat
          go_wp2
          go_quiet (first | (go_at_call 27; exact quiet_same2 (l09Time_any _ _)) | (go_at_call 28; exact quiet_same2 (l03Degrees_any _ _)))
          go_wp2
          go_ret
          exact ⟨by rw [HV.out]; rfl, ⟨_, World.drewN_drewN ..⟩⟩
        by_cases h2 : inB x.d (-5000) 20000 = true
        rotate_left
        · have h2 : inB x.d (-5000) 20000 = false := by simpa only [Bool.not_eq_true] using h2
          have HV : Hid (okW xs = false) := Lib.hid (by unfold okW; rw [HNo.out (by unfold Sp.ok; rw [h1, h2]; rfl)]; simp)
          clear hat
          go_wp2
          go_quiet (first | (go_at_call 27; exact quiet_same2 (l09Time_any _ _)) | (go_at_call 28; exact quiet_same2 (l03Degrees_any _ _)))
          go_wp2
          go_ret
          exact ⟨by rw [HV.out]; rfl, ⟨_, World.drewN_drewN ..⟩⟩
        have HF : Hid (x.ok = true) := Lib.hid (by unfold Sp.ok; rw [h1, h2]; rfl)
        by_cases h3 : x'.t < x.t
        · have Hat : Hid (riseByAt tUp xs q = true) := Lib.hid (by rw [hat]; unfold tUp; exact decide_eq_true h3)
          have HQ := Lib.hid hi0
          clear hat
          go_wp2
          go_quiet (first | (go_at_call 27; exact quiet_same2 (l09Time_any _ _)) | (go_at_call 28; exact quiet_same2 (l03Degrees_any _ _)))
          go_wp2
          go_roundw
          case rel => exact ⟨q + 1, by omega, by go_num, Lib.hid ⟨by rw [HS.out, HIN.out.1, HF.out]; rfl, by rw [HRS.out, HIN.out.2.1, Hat.out]; rfl, fun _ => HIN.out.2.2 HQ.out⟩, ⟨_, rfl⟩⟩
          case measure => simp [intOf]; omega
        · have HV : Hid (okW xs = false) := Lib.hid (by
            unfold okW
            rw [HRF.out (by rw [hat]; unfold tUp; exact decide_eq_false h3)]
            simp)
          have h3' : x.t ≤ x'.t := by omega
          clear hat h3
          go_wp2
          go_quiet (first | (go_at_call 27; exact quiet_same2 (l09Time_any _ _)) | (go_at_call 28; exact quiet_same2 (l03Degrees_any _ _)))
          go_wp2
          go_ret
          exact ⟨by rw [HV.out]; rfl, ⟨_, World.drewN_drewN ..⟩⟩
    · have e : q = xs.length := by omega
      subst e
      have HV : Hid (okW xs = inB (xs.length : Int) 1 24) := Lib.hid (by
        have hf := HIN.out.1
        have hr := HIN.out.2.1
        have hz := HIN.out.2.2
        rw [List.take_of_length_le (by simp)] at hf
        unfold okW
        rw [hf, hr]
        by_cases h0 : 0 < xs.length
        · rw [hz h0]
          unfold inB
          simp
          rw [show (decide (1 ≤ xs.length) = decide ((1 : Int) ≤ (xs.length : Int))) from decide_eq_decide.2 (by omega), show (decide (xs.length ≤ 24) = decide ((xs.length : Int) ≤ 24)) from decide_eq_decide.2 (by omega)]
        · have e0 : xs.length = 0 := by omega
          rw [e0]; simp [inB])
      go_wp2_with ((go_at_call 29; refine (in_any _ _ _ _).mono ?_; rintro e w' ⟨rfl, rfl⟩))
      go_ret
      exact ⟨ret_bool (by rw [HV.out]), ⟨_, rfl⟩⟩
theorem isTime_any (n : Int) (w : World) : Calls Tryd.prog 36 #[.int .i64 n] w fun e w' => e = .returned (.bool (inB n 0 1000000)) ∧ Below w.heap.size w w' := by
  have hb : Below w.heap.size w w := Below.refl _ _
  go_enter Tryd.func36, Tryd.ntmps36
  go_wp2_with ((go_at_call 46; refine (one64At _ _ _ _ _ _ (by simp) (by omega)).mono ?_; rintro e w' ⟨rfl, hb'⟩; first | have hb := bnext hb hb' | have hb := bnext (bal hb _) hb' | have hb := bnext (bal (bal hb _) _) hb' | have hb := bnext (bal (bal (bal hb _) _) _) hb' | have hb := bnext (bal (bal (bal (bal hb _) _) _) _) hb' | have hb := bnext (bal (bal (bal (bal (bal hb _) _) _) _) _) hb'))
  go_ret
  first | exact ⟨rfl, hb⟩ | exact ⟨rfl, (bal hb _)⟩ | exact ⟨rfl, (bal (bal hb _) _)⟩ | exact ⟨rfl, (bal (bal (bal hb _) _) _)⟩ | exact ⟨rfl, (bal (bal (bal (bal hb _) _) _) _)⟩ | exact ⟨rfl, (bal (bal (bal (bal (bal hb _) _) _) _) _)⟩

theorem refusesSp_any (x : Sp) (w : World) :
    Calls Tryd.prog 35 #[.agg #[.int .i64 x.t, .int .i64 x.d]] w fun e w' => e = .returned (.bool (!x.ok)) ∧ Below w.heap.size w w' := by
  have hb : Below w.heap.size w (w.alloc (.cells #[.int .i64 x.t, .int .i64 x.d] 35)) := bal (Below.refl _ _) _
  have hN := SpO.new w x 35
  have ⟨p0, p1⟩ := hN
  go_enter Tryd.func35, Tryd.ntmps35
  go_wp2_with fail
  refine (isTime_any x.t _).mono ?_
  rintro e w' ⟨rfl, hb'⟩
  have hN := hN.next hb'
  have hb := bnext hb hb'
  clear p0 p1 hb'
  have ⟨p0, p1⟩ := hN
  by_cases h0 : inB x.t 0 1000000 = true
  rotate_left
  · have h0 : inB x.t 0 1000000 = false := by simpa only [Bool.not_eq_true] using h0
    have HV : Hid (x.ok = false) := Lib.hid (by unfold Sp.ok; simp [*])
    rw [h0]
    go_wp2
    go_ret
    exact ⟨by rw [HV.out]; rfl, hb⟩
  have HV : Hid (x.ok = inB x.d (-5000) 20000) := Lib.hid (by unfold Sp.ok; simp [*])
  rw [h0]
  go_wp2_with fail
  refine (isTemperature_any x.d _).mono ?_
  rintro e w2 ⟨rfl, hb'⟩
  have hb := bnext hb hb'
  go_wp2
  go_ret
  exact ⟨by rw [HV.out]; rfl, hb⟩
theorem timeOf_any (x : Sp) (w : World) :
    Calls Tryd.prog 33 #[.agg #[.int .i64 x.t, .int .i64 x.d]] w fun e w' => e = .returned (.int .i64 x.t) ∧ Below w.heap.size w w' := by
  have hb : Below w.heap.size w (w.alloc (.cells #[.int .i64 x.t, .int .i64 x.d] 35)) := bal (Below.refl _ _) _
  have ⟨n0, n1⟩ := SpO.new w x 35
  go_enter Tryd.func33, Tryd.ntmps33
  go_wp2
  go_ret
  exact ⟨rfl, hb⟩
theorem indexSp_any (A : Option Addr) (n c : Nat) (xs : List Sp) (w : World) (h : SpsOk w A n xs) :
    Calls Tryd.prog 45 #[.slice A n c, .func (.func 35) #[] #[]] w (IdxR (xs.all Sp.ok) w) := by
  have hn := h.2
  obtain rfl := h.1.1
  have HB := Lib.hid h.cells
  clear h
  go_enter Tryd.func45, Tryd.ntmps45
  go_wp2
  go_loopw [8] (fun i wr => ∃ k : Nat, k ≤ xs.length ∧ i = .int .i64 k ∧ Hid ((xs.take k).all Sp.ok = true) ∧ Below w.heap.size w wr) (fun i _ => xs.length - (intOf i).toNat)
  case atStart => exact ⟨0, Nat.zero_le _, rfl, Lib.hid (by simp), Below.refl _ _⟩
  case round =>
    obtain ⟨k, hk, rfl, Hall, hb⟩ := hrel
    by_cases hlt : k < xs.length
    · obtain ⟨b, off, rfl, hrow⟩ := SpO.at (HB.out.next hb) (by omega)
      have hp := List.getElem?_eq_getElem hlt
      have P := hrow k _ hp
      have HS := Lib.hid (all_take_succ Sp.ok xs k hlt)
      have HNo := Lib.hid (all_false_at Sp.ok xs k hlt)
      generalize xs[k] = x at *
      have ⟨p0, p1⟩ := P
      clear hp hrow P
      go_wp2_with fail
      refine (refusesSp_any x wr).mono ?_
      rintro e w1 ⟨rfl, hb1⟩
      have hb2 := bnext hb hb1
      by_cases hf : x.ok = true
      · rw [hf]
        have HF := Lib.hid hf
        clear hf
        go_wp2
        go_roundw
        case rel => exact ⟨k + 1, by omega, by go_num, Lib.hid (by rw [HS.out, Hall.out, HF.out]; rfl), hb2⟩
        case measure => simp [intOf]; omega
      · have hf : x.ok = false := by simpa using hf
        have HF := Lib.hid (HNo.out hf)
        rw [hf]
        clear hf
        go_wp2
        go_ret
        exact ⟨(k : Int), rfl, .inr ⟨HF.out, by omega⟩, hb2⟩
    · have HF : Hid (xs.all Sp.ok = true) := Lib.hid (by have := Hall.out; rw [List.take_of_length_le (by omega)] at this; exact this)
      go_wp2
      go_ret
      exact ⟨-1, rfl, .inl ⟨HF.out, rfl⟩, hb⟩
theorem containsSp_any (A : Option Addr) (n c : Nat) (xs : List Sp) (w : World) (h : SpsOk w A n xs) :
    Calls Tryd.prog 34 #[.slice A n c, .func (.func 35) #[] #[]] w fun e w' => e = .returned (.bool (!xs.all Sp.ok)) ∧ Below w.heap.size w w' := by
  have HI := Lib.hid (fun k => indexSp_any A n c xs (w.drewN k) (h.go (below_drewN (Below.refl _ _) k)))
  clear h
  go_enter Tryd.func34, Tryd.ntmps34
  go_wp2_with fail
  refine (HI.out 0).mono ?_
  rintro e w1 ⟨r, rfl, hr, hb⟩
  rcases hr with ⟨h1, rfl⟩ | ⟨h1, h2⟩
  · have H1 := Lib.hid h1
    clear h1
    go_wp2
    go_ret
    exact ⟨by rw [H1.out]; rfl, hb⟩
  · have H1 := Lib.hid h1
    clear h1
    go_wp2
    go_ret
    exact ⟨by rw [H1.out]; rfl, hb⟩
theorem increasingSp_any (A : Option Addr) (n c : Nat) (xs : List Sp) (w : World) (h : SpsOk w A n xs) :
    Calls Tryd.prog 32 #[.slice A n c, .func (.func 33) #[] #[]] w fun e w' => e = .returned (.bool (riseBy tUp xs n)) ∧ Below w.heap.size w w' := by
  have hn := h.2
  obtain rfl := h.1.1
  have HB := Lib.hid h.cells
  clear h
  go_enter Tryd.func32, Tryd.ntmps32
  go_wp2
  go_loopw [5] (fun i wr => ∃ k : Nat, 1 ≤ k ∧ (k ≤ xs.length ∨ k = 1) ∧ i = .int .i64 k ∧ Hid (riseBy tUp xs k = true) ∧ Below w.heap.size w wr) (fun i _ => xs.length - (intOf i).toNat)
  case atStart => exact ⟨1, by omega, .inr rfl, rfl, Lib.hid (riseBy_one _ _), Below.refl _ _⟩
  case round =>
    obtain ⟨k, hk1, hk, rfl, Hrise, hb⟩ := hrel
    by_cases hlt : k < xs.length
    · obtain ⟨b, off, rfl, hrow⟩ := SpO.at (HB.out.next hb) (by omega)
      obtain ⟨r, hr⟩ : ∃ r, k = r + 1 := ⟨k - 1, by omega⟩
      have hp := List.getElem?_eq_getElem hlt
      have hq := List.getElem?_eq_getElem (show r < xs.length by omega)
      have P0 := hrow k _ hp
      have Q0 := hrow r _ hq
      have hat : ∀ p q, xs[k]? = some p → xs[r]? = some q → riseByAt tUp xs k = tUp q p := fun p q h1 h2 => by
        rw [hr] at h1 ⊢
        exact riseByAt_at _ _ r _ _ h2 h1
      replace hat := hat _ _ hp hq
      generalize xs[k] = p at *
      generalize xs[r] = q at *
      have HR := Lib.hid hr
      have HRS := Lib.hid (riseBy_succ tUp xs k)
      have HRF := Lib.hid (riseBy_false tUp xs k xs.length hlt)
      have hi2 : (0 : Int) ≤ (k : Int) - 1 := by omega
      have hi3 : ((k : Int) - 1).toNat = r := by omega
      have hi4 : (k : Int) - 1 < (xs.length : Int) := by omega
      have hdr : Below wr.heap.size wr wr.drew := below_drewN (Below.refl _ _) 1
      have hb1 : Below w.heap.size w wr.drew := bnext hb hdr
      have P := P0.next hdr
      have Q := Q0.next hdr
      have ⟨p0, p1⟩ := P
      have ⟨q0, q1⟩ := Q
      clear hp hq hr hrow P0 Q0 hb hdr
      have hi6 : (1 : Int) ≤ (k : Int) := by omega
      have hi7 : (k : Int) - 1 + 1 ≤ (xs.length : Int) := by omega
      have hi8 : 1 ≤ k := by omega
      have hi5 : IntKind.i64.wrap ((k : Int) - 1) = (k : Int) - 1 := IntWalk.i64_in _ (by omega)
      go_wp2_with fail
      go_region_held3 (fun w' => w'.cell? ⟨b, off + k * 2, none⟩ = some (.int .i64 p.t) ∧ w'.cell? ⟨b, off + k * 2 + 1, none⟩ = some (.int .i64 p.d) ∧ w'.cell? ⟨b, off + r * 2, none⟩ = some (.int .i64 q.t) ∧ w'.cell? ⟨b, off + r * 2 + 1, none⟩ = some (.int .i64 q.d)) (exact ⟨p0, p1, q0, q1⟩) ((go_at_call 33; first | (refine (timeOf_any p _).mono ?_; rintro e w' ⟨rfl, hb'⟩; have hb1 := bnext hb1 hb'; have P := P.next hb'; have Q := Q.next hb'; have ⟨p0, p1⟩ := P; have ⟨q0, q1⟩ := Q) | (refine (timeOf_any q _).mono ?_; rintro e w' ⟨rfl, hb'⟩; have hb1 := bnext hb1 hb'; have P := P.next hb'; have Q := Q.next hb'; have ⟨p0, p1⟩ := P; have ⟨q0, q1⟩ := Q)))
      clear hi5
      by_cases hl : q.t < p.t
      · have Hat : Hid (riseByAt tUp xs k = true) := Lib.hid (by rw [hat]; unfold tUp; exact decide_eq_true hl)
        clear hat
        go_wp2
        go_roundw
        case rel => exact ⟨k + 1, by omega, .inl (by omega), by go_num, Lib.hid (by rw [HRS.out, Hrise.out, Hat.out]; rfl), hb1⟩
        case measure => simp [intOf]; omega
      · have HV : Hid (riseBy tUp xs xs.length = false) := Lib.hid (HRF.out (by rw [hat]; unfold tUp; exact decide_eq_false hl))
        have hl' : p.t ≤ q.t := by omega
        clear hat hl
        go_wp2
        go_ret
        exact ⟨by rw [HV.out]; rfl, hb1⟩
    · have HV : Hid (riseBy tUp xs xs.length = true) := Lib.hid (by
        rcases hk with h | h
        · have : k = xs.length := by omega
          rw [← this]; exact Hrise.out
        · have : xs.length = 0 ∨ xs.length = 1 := by omega
          rcases this with h | h <;> rw [h]
          · rfl
          · exact riseBy_one _ _)
      go_wp2
      go_ret
      exact ⟨by rw [HV.out]; rfl, hb⟩


theorem implVW_any (A : Option Addr) (n c : Nat) (xs : List Sp) (w : World) (h : SpsOk w A n xs) :
    Calls Tryd.prog 17 #[.slice A n c] w fun e w' => e = .returned (.bool (okW xs)) ∧ Below w.heap.size w w' := by
  have hn := h.2
  have hl : xs.length = n := h.1.1
  have HH := Lib.hid h
  have HLN := Lib.hid hl
  clear h
  by_cases h1 : inB (n : Int) 1 24 = true
  rotate_left
  · have h1 : inB (n : Int) 1 24 = false := by simpa only [Bool.not_eq_true] using h1
    have HV : Hid (okW xs = false) := Lib.hid (by
      unfold okW
      rw [show (decide (1 ≤ xs.length) && decide (xs.length ≤ 24)) = false from by
        rw [hl]
        simp only [inB, Bool.and_eq_false_iff, decide_eq_false_iff_not] at h1 ⊢
        omega]
      rfl)
    clear hl
    go_enter Tryd.func17, Tryd.ntmps17
    go_wp2_with fail
    refine (oneInt _ 1 24 _ _ _ (by simp) (by omega)).mono ?_
    rintro e w1 ⟨rfl, hb⟩
    rw [h1]
    go_wp2
    go_ret
    exact ⟨by rw [HV.out]; rfl, hb⟩
  have h1n : 1 ≤ n ∧ n ≤ 24 := by have := inB_iff.1 h1; omega
  have HV0 : Hid (okW xs = (fz xs && (xs.all Sp.ok && riseBy tUp xs n))) := Lib.hid (by
    unfold okW
    rw [hl, decide_eq_true h1n.1, decide_eq_true h1n.2]; rfl)
  go_enter Tryd.func17, Tryd.ntmps17
  go_wp2_with fail
  refine (oneInt _ 1 24 _ _ _ (by simp) (by omega)).mono ?_
  rintro e w1 ⟨rfl, hb⟩
  rw [h1]
  clear h1
  obtain ⟨b2, o2, rfl, hrow⟩ := SpO.at ((HH.out.go hb).cells) (by omega)
  have P := hrow 0 _ (spAt_some xs 0 (by omega))
  have HFZ : Hid (fz xs = decide ((spAt xs 0).t = 0)) := Lib.hid rfl
  rw [Nat.zero_mul, Nat.add_zero] at P
  obtain ⟨p0, p1⟩ := P
  generalize spAt xs 0 = x at *
  clear hrow hl
  by_cases h2 : x.t = 0
  rotate_left
  · have HV : Hid (okW xs = false) := Lib.hid (by rw [HV0.out, HFZ.out, decide_eq_false h2]; rfl)
    have hne : (x.t == 0) = false := by simpa using h2
    clear h2
    go_wp2
    go_ret
    exact ⟨by rw [HV.out]; rfl, hb⟩
  have HV1 : Hid (okW xs = (xs.all Sp.ok && riseBy tUp xs n)) := Lib.hid (by rw [HV0.out, HFZ.out, decide_eq_true h2]; rfl)
  have hne : (x.t == 0) = true := by rw [h2]; rfl
  clear h2
  go_wp2_with fail
  refine (increasingSp_any _ n c xs _ (HH.out.go hb)).mono ?_
  rintro e w2 ⟨rfl, hb2⟩
  clear p0 p1
  have hb := bnext hb hb2
  by_cases h3 : riseBy tUp xs n = true
  rotate_left
  · have h3 : riseBy tUp xs n = false := by simpa only [Bool.not_eq_true] using h3
    have HV : Hid (okW xs = false) := Lib.hid (by rw [HV1.out, h3]; simp)
    rw [h3]
    clear h3
    go_wp2
    go_ret
    exact ⟨by rw [HV.out]; rfl, hb⟩
  have HV2 : Hid (okW xs = xs.all Sp.ok) := Lib.hid (by rw [HV1.out, h3]; simp)
  rw [h3]
  clear h3
  go_wp2_with fail
  refine (containsSp_any _ n c xs _ (HH.out.go hb)).mono ?_
  rintro e w3 ⟨rfl, hb3⟩
  go_wp2
  go_ret
  exact ⟨by rw [HV2.out]; simp, bnext hb hb3⟩
def validWaveR0 (xs : List Sp) : Bool := okW xs
theorem implValidWave_ds (A : Option Addr) (n c : Nat) (xs : List Sp) (w : World) (h : SpsOk w A n xs) :
    Calls Tryd.prog 17 #[.slice A n c] w fun e w' => e = .returned (.bool (validWaveR0 xs)) ∧ Below w.heap.size w w' := implVW_any A n c xs w h
end Go.Proofs.YtkbkmpcdidhagacDoor
