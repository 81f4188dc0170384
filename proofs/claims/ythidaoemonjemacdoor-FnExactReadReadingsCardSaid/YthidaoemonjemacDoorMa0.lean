/-
  What makes a list of readings valid: both sides.
-/
import Derived.Test.YthidaoemonjemacDoorRg2
import Derived.Test.YthidaoemonjemacDoorRi
import Derived.Test.YthidaoemonjemacDoorB6
import Derived.Deep.RegionHeld3
import Derived.IntWalk
namespace Go.Proofs.YthidaoemonjemacDoor
open Go.ChangeShapes Go.WideShapes Go.ChangeAt Go.RowKit

set_option maxRecDepth 100000
set_option linter.unusedVariables false

def Rg.ok (x : Rg) : Bool := inB x.h 0 100000 && inB x.c 0 1000000000
def hUp (a b : Rg) : Bool := decide (a.h < b.h)
def cUp (a b : Rg) : Bool := decide (a.c ≤ b.c)
def rgUp (a b : Rg) : Bool := hUp a b && cUp a b
/-- readings that are valid -/
def okRs (xs : List Rg) : Bool := decide (xs.length ≤ 48) && (xs.all Rg.ok && riseBy rgUp xs xs.length)
theorem okRs_parts {xs : List Rg} (h : okRs xs = true) : xs.length ≤ 48 ∧ xs.all Rg.ok = true ∧ riseBy rgUp xs xs.length = true := by
  unfold okRs at h
  simp only [Bool.and_eq_true, decide_eq_true_eq] at h
  exact h
theorem okRs_split (xs : List Rg) : okRs xs = (decide (xs.length ≤ 48) && (xs.all Rg.ok && (riseBy hUp xs xs.length && riseBy cUp xs xs.length))) := by
  unfold okRs
  rw [← riseBy_and]; rfl

theorem l06Counter_any (c : Int) (w : World) : Calls Tryd.prog 44 #[.int .i64 c] w fun e w' => e = .returned (.bool (inB c 0 1000000000)) ∧ w = w' := by
  go_enter Tryd.func44, Tryd.ntmps44
  go_wp2_with ((go_at_call 43; refine (in_any _ _ _ _).mono ?_; rintro e w' ⟨rfl, rfl⟩))
  go_ret
  exact ⟨rfl, rfl⟩
theorem l06One_any (b o : Nat) (x : Rg) (w : World) (hO : RgO w b o x) : Calls Tryd.prog 24 #[.pointer (some ⟨b, o, none⟩)] w fun e w' => e = .returned (.bool x.ok) ∧ Drawn w w' := by
  have ⟨p0, p1⟩ := hO
  by_cases h0 : inB x.h 0 100000 = true
  rotate_left
  · have h0' : inB x.h 0 100000 = false := by simpa using h0
    have HV : Hid (x.ok = false) := Lib.hid (by unfold Rg.ok; simp [*])
    go_enter Tryd.func24, Tryd.ntmps24
    go_wp2_with (first | (go_at_call 43; refine (in_any _ _ _ _).mono ?_; rintro e w' ⟨rfl, rfl⟩) | (go_at_call 44; refine (l06Counter_any _ _).mono ?_; rintro e w' ⟨rfl, rfl⟩))
    go_ret
    exact ⟨by rw [HV.out]; rfl, Drawn.rfl' _⟩
  have HV : Hid (x.ok = inB x.c 0 1000000000) := Lib.hid (by unfold Rg.ok; simp [*])
  go_enter Tryd.func24, Tryd.ntmps24
  go_wp2_with (first | (go_at_call 43; refine (in_any _ _ _ _).mono ?_; rintro e w' ⟨rfl, rfl⟩) | (go_at_call 44; refine (l06Counter_any _ _).mono ?_; rintro e w' ⟨rfl, rfl⟩))
  go_ret
  exact ⟨by rw [HV.out]; rfl, Drawn.rfl' _⟩

theorem l06Ok_any (A : Option Addr) (n c : Nat) (xs : List Rg) (w : World) (h : RgsOk w A n xs) :
    Calls Tryd.prog 14 #[.slice A n c] w fun e w' => e = .returned (.bool (okRs xs)) ∧ Drawn w w' := by
  have hn := h.2
  obtain rfl := h.1.1
  have HB := Lib.hid h.cells
  clear h
  go_enter Tryd.func14, Tryd.ntmps14
  go_wp2
  go_loopw [3] (fun i wr => ∃ q : Nat, q ≤ xs.length ∧ i = .int .i64 q ∧ Hid ((xs.take q).all Rg.ok = true ∧ riseBy rgUp xs q = true) ∧ Drawn w wr) (fun i _ => xs.length - (intOf i).toNat)
  case atStart => exact ⟨0, Nat.zero_le _, rfl, Lib.hid ⟨by simp, rfl⟩, Drawn.rfl' _⟩
  case round =>
    obtain ⟨q, hq, rfl, HIN, ⟨nr, rfl⟩⟩ := hrel
    by_cases hlq : q < xs.length
    · obtain ⟨b2, o2, rfl, hrow⟩ := RgO.at HB.out (by omega)
      have hp := List.getElem?_eq_getElem hlq
      have P := hrow q _ hp
      have Hrow := Lib.hid hrow
      clear hrow
      have HS := Lib.hid (all_take_succ Rg.ok xs q hlq)
      have HNo := Lib.hid (all_false_at Rg.ok xs q hlq)
      generalize xs[q] = x at *
      have HP := Lib.hid hp
      have HRS := Lib.hid (riseBy_succ rgUp xs q)
      have HRF := Lib.hid (riseBy_false rgUp xs q xs.length hlq)
      clear hp
      have HC := Lib.hid (fun (k : Nat) => l06One_any b2 (o2 + q * 2) x (w.drewN k) P)
      obtain ⟨p0, p1⟩ := P
      by_cases hf : x.ok = true
      · rw [hf] at HC
        have HF := Lib.hid hf
        clear hf
        by_cases hq0 : q = 0
        · subst hq0
          have HC0 := Lib.hid (fun k => by have := HC.out k; rw [Nat.zero_mul, Nat.add_zero] at this; exact this)
          go_wp2
          go_quiet ((go_at_call 24; exact quiet_drawn2 (HC0.out _)))
          go_wp2
          go_roundw
          case rel => exact ⟨0 + 1, by omega, by go_num, Lib.hid ⟨by rw [HS.out, HIN.out.1, HF.out]; rfl, by rw [HRS.out, HIN.out.2, riseByAt_zero]; rfl⟩, ⟨_, rfl⟩⟩
          case measure => simp [intOf]; omega
        · obtain ⟨r, hr⟩ : ∃ r, q = r + 1 := ⟨q - 1, by omega⟩
          have hp' := List.getElem?_eq_getElem (show r < xs.length by omega)
          have P' := Hrow.out r _ hp'
          have hat : ∀ x', xs[r]? = some x' → riseByAt rgUp xs q = rgUp x' x := fun x' h' => by
            have hq' : xs[r + 1]? = some x := by rw [← hr]; exact HP.out
            have := riseByAt_at rgUp xs r _ _ h' hq'
            rw [← hr] at this
            exact this
          replace hat := hat _ hp'
          generalize xs[r] = x' at *
          obtain ⟨s0, s1⟩ := P'
          clear hp'
          have hi0 : 0 < q := by omega
          have hi1 : decide (0 < q) = true := decide_eq_true hi0
          have hi2 : (0 : Int) ≤ (q : Int) - 1 := by omega
          have hi3 : ((q : Int) - 1).toNat = r := by omega
          have hi4 : (q : Int) - 1 < (xs.length : Int) := by omega
          have HR := Lib.hid hr
          clear hr
          by_cases hl : x'.h < x.h
          rotate_left
          · have HV : Hid (okRs xs = false) := Lib.hid (by
              unfold okRs
              rw [HRF.out (by rw [hat]; unfold rgUp hUp; simp [hl])]
              simp)
            have hl' : x.h ≤ x'.h := by omega
            clear hat hl
            go_wp2
            go_quiet ((go_at_call 24; exact quiet_drawn2 (HC.out _)))
            go_wp2
            go_ret
            exact ⟨by rw [HV.out]; rfl, ⟨_, World.drewN_drewN ..⟩⟩
          have hld : decide (x.h ≤ x'.h) = false := decide_eq_false (by omega)
          by_cases hl2 : x'.c ≤ x.c
          · have Hat : Hid (riseByAt rgUp xs q = true) := Lib.hid (by rw [hat]; unfold rgUp hUp cUp; simp [hl, hl2])
            clear hat
            go_wp2
            go_quiet ((go_at_call 24; exact quiet_drawn2 (HC.out _)))
            go_wp2
            go_roundw
            case rel => exact ⟨q + 1, by omega, by go_num, Lib.hid ⟨by rw [HS.out, HIN.out.1, HF.out]; rfl, by rw [HRS.out, HIN.out.2, Hat.out]; rfl⟩, ⟨_, rfl⟩⟩
            case measure => simp [intOf]; omega
          · have HV : Hid (okRs xs = false) := Lib.hid (by
              unfold okRs
              rw [HRF.out (by rw [hat]; unfold rgUp hUp cUp; simp [hl2])]
              simp)
            have hl2' : x.c < x'.c := by omega
            clear hat hl2
            go_wp2
            go_quiet ((go_at_call 24; exact quiet_drawn2 (HC.out _)))
            go_wp2
            go_ret
            exact ⟨by rw [HV.out]; rfl, ⟨_, World.drewN_drewN ..⟩⟩
      · have hf : x.ok = false := by simpa using hf
        rw [hf] at HC
        have HV : Hid (okRs xs = false) := Lib.hid (by
          unfold okRs
          rw [HNo.out hf]
          simp)
        clear hf
        go_wp2
        go_quiet ((go_at_call 24; exact quiet_drawn2 (HC.out _)))
        go_wp2
        go_ret
        exact ⟨by rw [HV.out]; rfl, ⟨_, World.drewN_drewN ..⟩⟩
    · have e : q = xs.length := by omega
      subst e
      have HV : Hid (okRs xs = decide (xs.length ≤ 48)) := Lib.hid (by
        have hf := HIN.out.1
        have hr := HIN.out.2
        rw [List.take_of_length_le (by simp)] at hf
        unfold okRs
        rw [hf, hr]
        simp)
      go_wp2
      go_ret
      exact ⟨ret_bool (by rw [HV.out]; exact decide_eq_decide.2 (by omega)), ⟨_, rfl⟩⟩
theorem isStated_any (x : Rg) (w : World) :
    Calls Tryd.prog 28 #[.agg #[.int .i64 x.h, .int .i64 x.c]] w fun e w' => e = .returned (.bool x.ok) ∧ Below w.heap.size w w' := by
  have hb : Below w.heap.size w (w.alloc (.cells #[.int .i64 x.h, .int .i64 x.c] 35)) := bal (Below.refl _ _) _
  have hN := RgO.new w x 35
  have ⟨p0, p1⟩ := hN
  go_enter Tryd.func28, Tryd.ntmps28
  go_wp2_with fail
  refine (one64Free _ 0 100000 _ _ _ (by simp)).mono ?_
  rintro e w' ⟨rfl, hb'⟩
  have hN := hN.next hb'
  have hb := bnext hb hb'
  clear p0 p1 hb'
  have ⟨p0, p1⟩ := hN
  by_cases h0 : inB x.h 0 100000 = true
  rotate_left
  · have h0 : inB x.h 0 100000 = false := by simpa only [Bool.not_eq_true] using h0
    have HV : Hid (x.ok = false) := Lib.hid (by unfold Rg.ok; simp [*])
    rw [h0]
    go_wp2
    go_ret
    exact ⟨by rw [HV.out]; rfl, hb⟩
  have HV : Hid (x.ok = inB x.c 0 1000000000) := Lib.hid (by unfold Rg.ok; simp [*])
  rw [h0]
  go_wp2_with fail
  refine (one64Free _ 0 1000000000 _ _ _ (by simp)).mono ?_
  rintro e w' ⟨rfl, hb'⟩
  have hb := bnext hb hb'
  go_wp2
  go_ret
  exact ⟨by rw [HV.out]; rfl, hb⟩
theorem refusesRg_any (x : Rg) (w : World) :
    Calls Tryd.prog 27 #[.agg #[.int .i64 x.h, .int .i64 x.c]] w fun e w' => e = .returned (.bool (!x.ok)) ∧ Below w.heap.size w w' := by
  have hb : Below w.heap.size w (w.alloc (.cells #[.int .i64 x.h, .int .i64 x.c] 35)) := bal (Below.refl _ _) _
  have ⟨n0, n1⟩ := RgO.new w x 35
  go_enter Tryd.func27, Tryd.ntmps27
  go_wp2_with fail
  refine (isStated_any x _).mono ?_
  rintro e w1 ⟨rfl, hb1⟩
  have hb2 := bnext hb hb1
  clear hb1
  go_wp2
  go_ret
  exact ⟨rfl, hb2⟩
theorem hourOf_any (x : Rg) (w : World) :
    Calls Tryd.prog 30 #[.agg #[.int .i64 x.h, .int .i64 x.c]] w fun e w' => e = .returned (.int .i64 x.h) ∧ Below w.heap.size w w' := by
  have hb : Below w.heap.size w (w.alloc (.cells #[.int .i64 x.h, .int .i64 x.c] 35)) := bal (Below.refl _ _) _
  have ⟨n0, n1⟩ := RgO.new w x 35
  go_enter Tryd.func30, Tryd.ntmps30
  go_wp2
  go_ret
  exact ⟨rfl, hb⟩
theorem indexRg_any (A : Option Addr) (n c : Nat) (xs : List Rg) (w : World) (h : RgsOk w A n xs) :
    Calls Tryd.prog 45 #[.slice A n c, .func (.func 27) #[] #[]] w (IdxR (xs.all Rg.ok) w) := by
  have hn := h.2
  obtain rfl := h.1.1
  have HB := Lib.hid h.cells
  clear h
  go_enter Tryd.func45, Tryd.ntmps45
  go_wp2
  go_loopw [8] (fun i wr => ∃ k : Nat, k ≤ xs.length ∧ i = .int .i64 k ∧ Hid ((xs.take k).all Rg.ok = true) ∧ Below w.heap.size w wr) (fun i _ => xs.length - (intOf i).toNat)
  case atStart => exact ⟨0, Nat.zero_le _, rfl, Lib.hid (by simp), Below.refl _ _⟩
  case round =>
    obtain ⟨k, hk, rfl, Hall, hb⟩ := hrel
    by_cases hlt : k < xs.length
    · obtain ⟨b, off, rfl, hrow⟩ := RgO.at (HB.out.next hb) (by omega)
      have hp := List.getElem?_eq_getElem hlt
      have P := hrow k _ hp
      have HS := Lib.hid (all_take_succ Rg.ok xs k hlt)
      have HNo := Lib.hid (all_false_at Rg.ok xs k hlt)
      generalize xs[k] = x at *
      have ⟨p0, p1⟩ := P
      clear hp hrow P
      go_wp2_with fail
      refine (refusesRg_any x wr).mono ?_
      rintro e w1 ⟨rfl, hb1⟩
      have hb2 := bnext hb hb1
      by_cases hf : x.ok = true
      · rw [hf]
        have HF := Lib.hid hf
        clear hf
        go_wp2
        go_roundw
        case rel => exact ⟨k + 1, by omega, by go_num, Lib.hid (by rw [HS.out, Hall.out, HF.out]; rfl), hb2⟩
        case measure => simp [intOf]; omega
      · have hf : x.ok = false := by simpa using hf
        have HF := Lib.hid (HNo.out hf)
        rw [hf]
        clear hf
        go_wp2
        go_ret
        exact ⟨(k : Int), rfl, .inr ⟨HF.out, by omega⟩, hb2⟩
    · have HF : Hid (xs.all Rg.ok = true) := Lib.hid (by have := Hall.out; rw [List.take_of_length_le (by omega)] at this; exact this)
      go_wp2
      go_ret
      exact ⟨-1, rfl, .inl ⟨HF.out, rfl⟩, hb⟩
theorem containsRg_any (A : Option Addr) (n c : Nat) (xs : List Rg) (w : World) (h : RgsOk w A n xs) :
    Calls Tryd.prog 26 #[.slice A n c, .func (.func 27) #[] #[]] w fun e w' => e = .returned (.bool (!xs.all Rg.ok)) ∧ Below w.heap.size w w' := by
  have HI := Lib.hid (fun k => indexRg_any A n c xs (w.drewN k) (h.go (below_drewN (Below.refl _ _) k)))
  clear h
  go_enter Tryd.func26, Tryd.ntmps26
  go_wp2_with fail
  refine (HI.out 0).mono ?_
  rintro e w1 ⟨r, rfl, hr, hb⟩
  rcases hr with ⟨h1, rfl⟩ | ⟨h1, h2⟩
  · have H1 := Lib.hid h1
    clear h1
    go_wp2
    go_ret
    exact ⟨by rw [H1.out]; rfl, hb⟩
  · have H1 := Lib.hid h1
    clear h1
    go_wp2
    go_ret
    exact ⟨by rw [H1.out]; rfl, hb⟩
theorem increasingRg_any (A : Option Addr) (n c : Nat) (xs : List Rg) (w : World) (h : RgsOk w A n xs) :
    Calls Tryd.prog 29 #[.slice A n c, .func (.func 30) #[] #[]] w fun e w' => e = .returned (.bool (riseBy hUp xs n)) ∧ Below w.heap.size w w' := by
  have hn := h.2
  obtain rfl := h.1.1
  have HB := Lib.hid h.cells
  clear h
  go_enter Tryd.func29, Tryd.ntmps29
  go_wp2
  go_loopw [5] (fun i wr => ∃ k : Nat, 1 ≤ k ∧ (k ≤ xs.length ∨ k = 1) ∧ i = .int .i64 k ∧ Hid (riseBy hUp xs k = true) ∧ Below w.heap.size w wr) (fun i _ => xs.length - (intOf i).toNat)
  case atStart => exact ⟨1, by omega, .inr rfl, rfl, Lib.hid (riseBy_one _ _), Below.refl _ _⟩
  case round =>
    obtain ⟨k, hk1, hk, rfl, Hrise, hb⟩ := hrel
    by_cases hlt : k < xs.length
    · obtain ⟨b, off, rfl, hrow⟩ := RgO.at (HB.out.next hb) (by omega)
      obtain ⟨r, hr⟩ : ∃ r, k = r + 1 := ⟨k - 1, by omega⟩
      have hp := List.getElem?_eq_getElem hlt
      have hq := List.getElem?_eq_getElem (show r < xs.length by omega)
      have P0 := hrow k _ hp
      have Q0 := hrow r _ hq
      have hat : ∀ p q, xs[k]? = some p → xs[r]? = some q → riseByAt hUp xs k = hUp q p := fun p q h1 h2 => by
        rw [hr] at h1 ⊢
        exact riseByAt_at _ _ r _ _ h2 h1
      replace hat := hat _ _ hp hq
      generalize xs[k] = p at *
      generalize xs[r] = q at *
      have HR := Lib.hid hr
      have HRS := Lib.hid (riseBy_succ hUp xs k)
      have HRF := Lib.hid (riseBy_false hUp xs k xs.length hlt)
      have hi2 : (0 : Int) ≤ (k : Int) - 1 := by omega
      have hi3 : ((k : Int) - 1).toNat = r := by omega
      have hi4 : (k : Int) - 1 < (xs.length : Int) := by omega
      have hdr : Below wr.heap.size wr wr.drew := below_drewN (Below.refl _ _) 1
      have hb1 : Below w.heap.size w wr.drew := bnext hb hdr
      have P := P0.next hdr
      have Q := Q0.next hdr
      have ⟨p0, p1⟩ := P
      have ⟨q0, q1⟩ := Q
      clear hp hq hr hrow P0 Q0 hb hdr
      have hi6 : (1 : Int) ≤ (k : Int) := by omega
      have hi7 : (k : Int) - 1 + 1 ≤ (xs.length : Int) := by omega
      have hi8 : 1 ≤ k := by omega
      have hi5 : IntKind.i64.wrap ((k : Int) - 1) = (k : Int) - 1 := IntWalk.i64_in _ (by omega)
      go_wp2_with fail
      go_region_held3 (fun w' => w'.cell? ⟨b, off + k * 2, none⟩ = some (.int .i64 p.h) ∧ w'.cell? ⟨b, off + k * 2 + 1, none⟩ = some (.int .i64 p.c) ∧ w'.cell? ⟨b, off + r * 2, none⟩ = some (.int .i64 q.h) ∧ w'.cell? ⟨b, off + r * 2 + 1, none⟩ = some (.int .i64 q.c)) (exact ⟨p0, p1, q0, q1⟩) ((go_at_call 30; first | (refine (hourOf_any p _).mono ?_; rintro e w' ⟨rfl, hb'⟩; have hb1 := bnext hb1 hb'; have P := P.next hb'; have Q := Q.next hb'; have ⟨p0, p1⟩ := P; have ⟨q0, q1⟩ := Q) | (refine (hourOf_any q _).mono ?_; rintro e w' ⟨rfl, hb'⟩; have hb1 := bnext hb1 hb'; have P := P.next hb'; have Q := Q.next hb'; have ⟨p0, p1⟩ := P; have ⟨q0, q1⟩ := Q)))
      clear hi5
      by_cases hl : q.h < p.h
      · have Hat : Hid (riseByAt hUp xs k = true) := Lib.hid (by rw [hat]; unfold hUp; exact decide_eq_true hl)
        clear hat
        go_wp2
        go_roundw
        case rel => exact ⟨k + 1, by omega, .inl (by omega), by go_num, Lib.hid (by rw [HRS.out, Hrise.out, Hat.out]; rfl), hb1⟩
        case measure => simp [intOf]; omega
      · have HV : Hid (riseBy hUp xs xs.length = false) := Lib.hid (HRF.out (by rw [hat]; unfold hUp; exact decide_eq_false hl))
        have hl' : p.h ≤ q.h := by omega
        clear hat hl
        go_wp2
        go_ret
        exact ⟨by rw [HV.out]; rfl, hb1⟩
    · have HV : Hid (riseBy hUp xs xs.length = true) := Lib.hid (by
        rcases hk with h | h
        · have : k = xs.length := by omega
          rw [← this]; exact Hrise.out
        · have : xs.length = 0 ∨ xs.length = 1 := by omega
          rcases this with h | h <;> rw [h]
          · rfl
          · exact riseBy_one _ _)
      go_wp2
      go_ret
      exact ⟨by rw [HV.out]; rfl, hb⟩

def cmpI (a b : Int) : Int := if a < b then -1 else if b < a then 1 else 0
theorem compare64_any (a b : Int) (w : World) : Calls Tryd.prog 33 #[.int .i64 a, .int .i64 b] w fun e w' => e = .returned (.int .i64 (cmpI a b)) ∧ w = w' := by
  have H : Hid (cmpI a b = _) := Lib.hid (by unfold cmpI; rfl)
  by_cases h1 : a < b
  · rw [if_pos h1] at H
    go_enter Tryd.func33, Tryd.ntmps33
    go_wp2
    go_ret
    exact ⟨by rw [H.out]; rfl, rfl⟩
  · by_cases h2 : b < a
    · rw [if_neg h1, if_pos h2] at H
      go_enter Tryd.func33, Tryd.ntmps33
      go_wp2
      go_ret
      exact ⟨by rw [H.out]; rfl, rfl⟩
    · rw [if_neg h1, if_neg h2] at H
      go_enter Tryd.func33, Tryd.ntmps33
      go_wp2
      go_ret
      exact ⟨by rw [H.out]; rfl, rfl⟩
theorem cmpC_any (x y : Rg) (w : World) :
    Calls Tryd.prog 32 #[.agg #[.int .i64 x.h, .int .i64 x.c], .agg #[.int .i64 y.h, .int .i64 y.c]] w fun e w' => e = .returned (.int .i64 (cmpI x.c y.c)) ∧ Below w.heap.size w w' := by
  have hb : Below w.heap.size w ((w.alloc (.cells #[.int .i64 x.h, .int .i64 x.c] 35)).alloc (.cells #[.int .i64 y.h, .int .i64 y.c] 35)) := bal (bal (Below.refl _ _) _) _
  have ⟨n0, n1⟩ := (RgO.new w x 35).alloc (.cells #[.int .i64 y.h, .int .i64 y.c] 35)
  have ⟨m0, m1⟩ := RgO.new (w.alloc (.cells #[.int .i64 x.h, .int .i64 x.c] 35)) y 35
  go_enter Tryd.func32, Tryd.ntmps32
  go_wp2_with fail
  refine (compare64_any _ _ _).mono ?_
  rintro e w' ⟨rfl, rfl⟩
  go_wp2
  go_ret
  exact ⟨rfl, hb⟩
theorem sortedRg_any (A : Option Addr) (n c : Nat) (xs : List Rg) (w : World) (h : RgsOk w A n xs) :
    Calls Tryd.prog 31 #[.slice A n c, .func (.func 32) #[] #[]] w fun e w' => e = .returned (.bool (riseBy cUp xs n)) ∧ Below w.heap.size w w' := by
  have hn := h.2
  obtain rfl := h.1.1
  have HB := Lib.hid h.cells
  clear h
  go_enter Tryd.func31, Tryd.ntmps31
  go_wp2
  go_loopw [5] (fun i wr => ∃ m : Nat, m ≤ xs.length ∧ i = .int .i64 ((m : Int) - 1) ∧ Hid (∀ j p q, m ≤ j + 1 → xs[j]? = some p → xs[j + 1]? = some q → cUp p q = true) ∧ Below w.heap.size w wr) (fun i _ => (intOf i + 1).toNat)
  case atStart => exact ⟨xs.length, Nat.le_refl _, rfl, Lib.hid (fun j p q hj _ hq => by have := (List.getElem?_eq_some_iff.1 hq).1; omega), Below.refl _ _⟩
  case round =>
    obtain ⟨m, hm, rfl, Hall, hb⟩ := hrel
    by_cases hlt : 2 ≤ m
    · obtain ⟨b, off, rfl, hrow⟩ := RgO.at (HB.out.next hb) (by omega)
      obtain ⟨k, hk⟩ : ∃ k, m = k + 1 := ⟨m - 1, by omega⟩
      subst hk
      have hi0 : ((k + 1 : Nat) : Int) - 1 = (k : Int) := by omega
      rw [hi0]
      clear hi0
      obtain ⟨r, hr⟩ : ∃ r, k = r + 1 := ⟨k - 1, by omega⟩
      have hp := List.getElem?_eq_getElem (show k < xs.length by omega)
      have hq := List.getElem?_eq_getElem (show r < xs.length by omega)
      have P0 := hrow k _ hp
      have Q0 := hrow r _ hq
      generalize xs[k] = p at *
      generalize xs[r] = q at *
      have HR := Lib.hid hr
      have HPQ := Lib.hid (And.intro hp hq)
      have hi2 : (0 : Int) ≤ (k : Int) - 1 := by omega
      have hi3 : ((k : Int) - 1).toNat = r := by omega
      have hi4 : (k : Int) - 1 < (xs.length : Int) := by omega
      have hdr : Below wr.heap.size wr wr.drew := below_drewN (Below.refl _ _) 1
      have hb1 : Below w.heap.size w wr.drew := bnext hb hdr
      have P := P0.next hdr
      have Q := Q0.next hdr
      have ⟨p0, p1⟩ := P
      have ⟨q0, q1⟩ := Q
      clear hp hq hr hrow P0 Q0 hb hdr
      have hi6 : (1 : Int) ≤ (k : Int) := by omega
      have hi7 : (k : Int) - 1 + 1 ≤ (xs.length : Int) := by omega
      have hi8 : 1 ≤ k := by omega
      have hi9 : k < xs.length := by omega
      have hi5 : IntKind.i64.wrap ((k : Int) - 1) = (k : Int) - 1 := IntWalk.i64_in _ (by omega)
      go_wp2_with fail
      go_region_held3 (fun w' => w'.cell? ⟨b, off + k * 2, none⟩ = some (.int .i64 p.h) ∧ w'.cell? ⟨b, off + k * 2 + 1, none⟩ = some (.int .i64 p.c) ∧ w'.cell? ⟨b, off + r * 2, none⟩ = some (.int .i64 q.h) ∧ w'.cell? ⟨b, off + r * 2 + 1, none⟩ = some (.int .i64 q.c)) (exact ⟨p0, p1, q0, q1⟩) ((go_at_call 32; refine (cmpC_any p q _).mono ?_; rintro e w' ⟨rfl, hb'⟩; have hb1 := bnext hb1 hb'; have P := P.next hb'; have Q := Q.next hb'; have ⟨p0, p1⟩ := P; have ⟨q0, q1⟩ := Q))
      clear hi5
      by_cases hl : q.c ≤ p.c
      · have hneg : ¬ (cmpI p.c q.c < 0) := by unfold cmpI; (repeat' split) <;> omega
        have Hall' : Hid (∀ j p q, k ≤ j + 1 → xs[j]? = some p → xs[j + 1]? = some q → cUp p q = true) := Lib.hid (fun j p' q' hj h1 h2 => by
          by_cases hj2 : j = r
          · subst hj2
            rw [HPQ.out.2] at h1
            rw [← HR.out, HPQ.out.1] at h2
            injection h1 with h1
            injection h2 with h2
            subst h1; subst h2
            unfold cUp; exact decide_eq_true hl
          · exact Hall.out j p' q' (by have := HR.out; omega) h1 h2)
        clear hl
        go_wp2
        go_roundw
        case rel => exact ⟨k, by omega, by go_num, Hall', hb1⟩
        case measure => simp [intOf] <;> omega
      · have hneg : cmpI p.c q.c < 0 := by unfold cmpI; rw [if_pos (by omega)]; omega
        have HV : Hid (riseBy cUp xs xs.length = false) := Lib.hid (riseBy_false cUp xs k xs.length hi9 (by
          have h1 := HPQ.out.1
          rw [HR.out] at h1 ⊢
          rw [riseByAt_at cUp xs r q p HPQ.out.2 h1]
          unfold cUp; exact decide_eq_false hl))
        clear hl
        go_wp2
        go_ret
        exact ⟨by rw [HV.out]; rfl, hb1⟩
    · have HV : Hid (riseBy cUp xs xs.length = true) := Lib.hid (riseBy_of (fun j p q h1 h2 => Hall.out j p q (by omega) h1 h2))
      have hi1 : ¬ ((0 : Int) < (m : Int) - 1) := by omega
      go_wp2
      go_ret
      exact ⟨by rw [HV.out]; rfl, hb⟩
theorem implVR_any (A : Option Addr) (n c : Nat) (xs : List Rg) (w : World) (h : RgsOk w A n xs) :
    Calls Tryd.prog 17 #[.slice A n c] w fun e w' => e = .returned (.bool (okRs xs)) ∧ Below w.heap.size w w' := by
  have hn := h.2
  have hl : xs.length = n := h.1.1
  have HH := Lib.hid h
  have HLN := Lib.hid hl
  have HSP := Lib.hid (okRs_split xs)
  clear h hl
  by_cases h1 : n ≤ 48
  rotate_left
  · have h1' : decide (n ≤ 48) = false := decide_eq_false h1
    have HV : Hid (okRs xs = false) := Lib.hid (by unfold okRs; rw [HLN.out, h1']; rfl)
    have h1n : 48 < n := by omega
    go_enter Tryd.func17, Tryd.ntmps17
    go_wp2
    go_ret
    exact ⟨by rw [HV.out]; rfl, Below.refl _ _⟩
  have h1' : decide (n ≤ 48) = true := decide_eq_true h1
  go_enter Tryd.func17, Tryd.ntmps17
  go_wp2_with fail
  refine (containsRg_any A n c xs _ HH.out).mono ?_
  rintro e w1 ⟨rfl, hb⟩
  by_cases h2 : xs.all Rg.ok = true
  rotate_left
  · have h2 : xs.all Rg.ok = false := by simpa only [Bool.not_eq_true] using h2
    have HV : Hid (okRs xs = false) := Lib.hid (by unfold okRs; rw [h2]; simp)
    rw [h2]
    clear h2
    go_wp2
    go_ret
    exact ⟨by rw [HV.out]; rfl, hb⟩
  have HV : Hid (okRs xs = (riseBy hUp xs n && riseBy cUp xs n)) := Lib.hid (by rw [HSP.out, HLN.out, h1', h2]; simp)
  rw [h2]
  clear h2
  go_wp2_with fail
  refine (increasingRg_any A n c xs _ (HH.out.go hb)).mono ?_
  rintro e w2 ⟨rfl, hb2⟩
  have hb := bnext hb hb2
  by_cases h3 : riseBy hUp xs n = true
  rotate_left
  · have h3 : riseBy hUp xs n = false := by simpa only [Bool.not_eq_true] using h3
    rw [h3] at HV
    rw [h3]
    clear h3
    go_wp2
    go_ret
    exact ⟨by rw [HV.out]; rfl, hb⟩
  rw [h3] at HV
  rw [h3]
  clear h3
  go_wp2_with fail
  refine (sortedRg_any A n c xs _ (HH.out.go hb)).mono ?_
  rintro e w3 ⟨rfl, hb3⟩
  go_wp2
  go_ret
  exact ⟨by rw [HV.out]; rfl, bnext hb hb3⟩
def validReadingsR0 (xs : List Rg) : Bool := okRs xs
theorem implValidReadings_ds (A : Option Addr) (n c : Nat) (xs : List Rg) (w : World) (h : RgsOk w A n xs) :
    Calls Tryd.prog 17 #[.slice A n c] w fun e w' => e = .returned (.bool (validReadingsR0 xs)) ∧ Below w.heap.size w w' := implVR_any A n c xs w h

end Go.Proofs.YthidaoemonjemacDoor
