/-
  WaveAt, FirstWarm and RangeOf: both sides.
-/
import Derived.Test.YtkbkmpcdidhagacWa0
import Derived.Test.YtkbkmpcdidhagacW1
import Derived.Test.YtkbkmpcdidhagacTw
import Derived.Test.YtkbkmpcdidhagacP1
import Derived.Test.YtkbkmpcdidhagacGs
import Derived.Deep.QuietTactic
import Derived.Deep.RegionHeld3
import Derived.Shelf.Abstract
namespace Go.Proofs.Ytkbkmpcdidhagac
open Go.ChangeShapes Go.WideShapes Go.ChangeAt Go.RowKit Go.Shelf

set_option maxRecDepth 100000
set_option linter.unusedVariables false

def waveV (xs : List Sp) (r : Bool) : Int := argC (okW xs) r
theorem waveCode_any (A : Option Addr) (n c : Nat) (xs : List Sp) (r : Bool) (w : World) (h : SpsOk w A n xs) :
    Calls Try.prog 61 #[.slice A n c, .bool r] w fun e w' => e = .returned (.int .i64 (argC (okW xs) r)) ∧ Below w.heap.size w w' := by
  have HV := Lib.hid (fun k => implVW_any A n c xs (w.drewN k) (h.go (below_drewN (Below.refl _ _) k)))
  clear h
  go_enter Try.func61, Try.ntmps61
  go_wp2_with fail
  refine (HV.out 0).mono ?_
  rintro e w1 ⟨rfl, hb⟩
  have hb : Below w.heap.size w w1 := hb
  go_wp2_with fail
  refine (argumentCode_any _ r _).mono ?_
  rintro e w2 ⟨rfl, rfl⟩
  go_wp2
  go_ret
  exact ⟨rfl, hb⟩

/-- the temperature after the steps up to the k-th one -/
def atTo (xs : List Sp) (tm : Int) : Nat → Int
  | 0 => (spAt xs 0).d
  | k + 1 => if (spAt xs (k + 1)).t ≤ tm then (spAt xs (k + 1)).d else atTo xs tm k
def wAt (xs : List Sp) (tm : Int) : Int := atTo xs tm (xs.length - 1)
theorem atTo_begun {xs : List Sp} {tm : Int} (c : Nat) (hc : 1 ≤ c) (h1 : ∀ j, j < c → (spAt xs j).t ≤ tm) (h2 : ∀ j, c ≤ j → j < xs.length → tm < (spAt xs j).t) :
    ∀ k, k < xs.length → atTo xs tm k = (spAt xs (min k (c - 1))).d
  | 0, _ => by rw [Nat.zero_min]; rfl
  | k + 1, hk => by
    show (if (spAt xs (k + 1)).t ≤ tm then (spAt xs (k + 1)).d else atTo xs tm k) = _
    by_cases h : k + 1 < c
    · rw [if_pos (h1 _ h), Nat.min_eq_left (by omega)]
    · rw [if_neg (by have := h2 (k + 1) (by omega) hk; omega), atTo_begun c hc h1 h2 k (by omega), Nat.min_eq_right (by omega), Nat.min_eq_right (by omega)]
theorem l09At_any (A : Option Addr) (n c : Nat) (xs : List Sp) (tm : Int) (w : World) (h : SpsOk w A n xs) (h0 : 0 < xs.length) :
    Calls Try.prog 60 #[.slice A n c, .int .i64 tm] w fun e w' => e = .returned (.int .i64 (wAt xs tm)) ∧ Drawn w w' := by
  have hn := h.2
  obtain rfl := h.1.1
  obtain ⟨b, o, rfl, hrow⟩ := SpO.at h.cells h0
  have HR := Lib.hid hrow
  have ⟨p0, p1⟩ := hrow 0 _ (spAt_some xs 0 h0)
  rw [Nat.zero_mul, Nat.add_zero] at p0 p1
  have HD0 : Hid (atTo xs tm 0 = (spAt xs 0).d) := Lib.hid rfl
  generalize (spAt xs 0).d = d0 at *
  generalize (spAt xs 0).t = t0 at *
  clear h hrow
  go_enter Try.func60, Try.ntmps60
  go_wp2
  go_loopw [5, 6] (fun v i wr => ∃ q : Nat, 1 ≤ q ∧ (q ≤ xs.length) ∧ i = .int .i64 q ∧ (∃ z : Int, v = .int .i64 z ∧ Hid (z = atTo xs tm (q - 1))) ∧ Drawn w wr) (fun _ i _ => xs.length - (intOf i).toNat)
  case atStart => exact ⟨1, by omega, by omega, rfl, ⟨d0, rfl, Lib.hid HD0.out.symm⟩, Drawn.rfl' _⟩
  case round =>
    obtain ⟨q, hq1, hq, rfl, ⟨z, rfl, HZ⟩, ⟨nr, rfl⟩⟩ := hrel
    by_cases hlt : q < xs.length
    · have ⟨q0, q1⟩ := HR.out q _ (spAt_some xs q hlt)
      have HS : Hid (atTo xs tm q = if (spAt xs q).t ≤ tm then (spAt xs q).d else atTo xs tm (q - 1)) := Lib.hid (by
        obtain ⟨r, rfl⟩ : ∃ r, q = r + 1 := ⟨q - 1, by omega⟩
        rfl)
      generalize (spAt xs q).d = dq at *
      generalize (spAt xs q).t = tq at *
      by_cases hle : tq ≤ tm
      · have HS : Hid (dq = atTo xs tm q) := Lib.hid (by rw [HS.out, if_pos hle])
        go_wp2
        go_roundw
        case rel => exact ⟨q + 1, by omega, by omega, by go_num, ⟨dq, rfl, HS⟩, ⟨_, by first | rfl | exact World.drewN_drewN .. | (rw [World.drewN_drewN]; exact World.drewN_drewN ..)⟩⟩
        case measure => simp [intOf]; omega
      · have HS : Hid (z = atTo xs tm q) := Lib.hid (by rw [HS.out, if_neg hle]; exact HZ.out)
        have hle' : tm < tq := by omega
        go_wp2
        go_roundw
        case rel => exact ⟨q + 1, by omega, by omega, by go_num, ⟨z, rfl, HS⟩, ⟨_, by first | rfl | exact World.drewN_drewN .. | (rw [World.drewN_drewN]; exact World.drewN_drewN ..)⟩⟩
        case measure => simp [intOf]; omega
    · have e : q = xs.length := by omega
      subst e
      have HV : Hid (z = wAt xs tm) := HZ
      go_wp2
      go_ret
      exact ⟨by rw [HV.out]; rfl, ⟨_, rfl⟩⟩
def waveAtR0 (xs : List Sp) (tm : Int) : Int := if okW xs = true then (if inB tm 0 1000000 = true then wAt xs tm else 0) else 0
def waveAtR1 (xs : List Sp) (tm : Int) : Int := argC (okW xs) (inB tm 0 1000000)
theorem specWaveAt_ds (A : Option Addr) (n c : Nat) (xs : List Sp) (a : Int) (w : World) (h : SpsOk w A n xs) :
    Calls Try.prog 20 #[.slice A n c, .int .i64 a] w fun e w' => e = .returned (.tuple #[.int .i64 (waveAtR0 xs a), .int .i64 (waveAtR1 xs a)]) ∧ Below w.heap.size w w' := by
  have HO := Lib.hid (l09Ok_any A n c xs w h)
  have HH := Lib.hid h
  clear h
  by_cases ho : okW xs = true
  rotate_left
  · have ho' : okW xs = false := by simpa only [Bool.not_eq_true] using ho
    have HV : Hid (waveAtR0 xs a = 0 ∧ waveAtR1 xs a = 1) := Lib.hid ⟨by unfold waveAtR0; rw [if_neg ho], by unfold waveAtR1; rw [ho']; rfl⟩
    rw [ho'] at HO
    clear ho ho'
    go_enter Try.func20, Try.ntmps20
    go_wp2_with fail
    refine HO.out.mono ?_
    rintro e w1 ⟨rfl, ⟨k, rfl⟩⟩
    go_wp2
    go_ret2
    exact ⟨by rw [HV.out.1, HV.out.2]; rfl, below_drewN (Below.refl _ _) _⟩
  by_cases h1 : inB a 0 1000000 = true
  rotate_left
  · have h1' : inB a 0 1000000 = false := by simpa only [Bool.not_eq_true] using h1
    have HV : Hid (waveAtR0 xs a = 0 ∧ waveAtR1 xs a = 2) := Lib.hid ⟨by unfold waveAtR0; rw [if_pos ho, if_neg h1], by unfold waveAtR1; rw [ho, h1']; rfl⟩
    rw [ho] at HO
    clear ho h1
    go_enter Try.func20, Try.ntmps20
    go_wp2_with fail
    refine HO.out.mono ?_
    rintro e w1 ⟨rfl, ⟨k, rfl⟩⟩
    go_wp2_with fail
    refine (l09Time_any a _).mono ?_
    rintro e w2 ⟨rfl, rfl⟩
    rw [h1']
    go_wp2
    go_ret2
    exact ⟨by rw [HV.out.1, HV.out.2]; rfl, below_drewN (Below.refl _ _) _⟩
  have HV : Hid (waveAtR0 xs a = wAt xs a ∧ waveAtR1 xs a = 0) := Lib.hid ⟨by unfold waveAtR0; rw [if_pos ho, if_pos h1], by unfold waveAtR1; rw [ho, h1]; rfl⟩
  have hpos : 0 < xs.length := by have := (okW_parts ho).1; omega
  have HA := Lib.hid (fun k => l09At_any A n c xs a (w.drewN k) (HH.out.go (below_drewN (Below.refl _ _) k)) hpos)
  rw [ho] at HO
  go_enter Try.func20, Try.ntmps20
  go_wp2_with fail
  refine HO.out.mono ?_
  rintro e w1 ⟨rfl, ⟨k, rfl⟩⟩
  go_wp2_with fail
  refine (l09Time_any a _).mono ?_
  rintro e w2 ⟨rfl, rfl⟩
  rw [h1]
  clear ho h1 hpos
  go_wp2_with fail
  refine (HA.out _).mono ?_
  rintro e w3 ⟨rfl, ⟨k3, rfl⟩⟩
  go_wp2
  go_ret2
  exact ⟨by rw [HV.out.1, HV.out.2]; rfl, by first | exact below_drewN (Below.refl _ _) _ | exact below_drewN (below_drewN (Below.refl _ _) _) _⟩
theorem atTime_any (A : Option Addr) (n c : Nat) (xs : List Sp) (bw bt : Nat) (tm : Int) (i : Nat) (w : World) (h : SpsOk w A n xs) (hi : i < n)
    (h1 : One w bw (.slice A n c)) (h2 : One w bt (.int .i64 tm)) :
    Calls Try.prog 63 #[.int .i64 i, .pointer (some ⟨bw, 0, none⟩), .pointer (some ⟨bt, 0, none⟩)] w fun e w' => e = .returned (.bool (decide (tm < (spAt xs i).t))) ∧ Below w.heap.size w w' := by
  have hn := h.2
  obtain rfl := h.1.1
  obtain ⟨b, o, rfl, hrow⟩ := SpO.at h.cells (by omega)
  have ⟨p0, p1⟩ := hrow i _ (spAt_some xs i hi)
  generalize (spAt xs i).d = d0 at *
  generalize (spAt xs i).t = t0 at *
  have ⟨c1, f1⟩ := h1
  have ⟨c2, f2⟩ := h2
  clear h hrow
  go_enter Try.func63, Try.ntmps63
  go_wp2
  go_quiet (fail)
  go_wp2
  go_ret
  exact ⟨rfl, below_drewN (Below.refl _ _) _⟩
theorem implWaveAt_ds (A : Option Addr) (n c : Nat) (xs : List Sp) (a : Int) (w : World) (h : SpsOk w A n xs) :
    Calls Try.prog 21 #[.slice A n c, .int .i64 a] w fun e w' => e = .returned (.tuple #[.int .i64 (waveAtR0 xs a), .int .i64 (waveAtR1 xs a)]) ∧ Below w.heap.size w w' := by
  have eg : ∀ args w, (callFunc 63 args).run Try.prog w = .ok (.enter 63 args) w := enters_of Try.func63 (by kernel_rfl) rfl
  obtain ⟨W0, hW0⟩ : ∃ W0, W0 = (w.alloc (.cells #[.slice A n c] 25)).alloc (.cells #[.int .i64 a] 2) := ⟨_, rfl⟩
  have hba : Below w.heap.size w (w.alloc (.cells #[.slice A n c] 25)) := bal (Below.refl _ _) _
  have hb0 : Below w.heap.size w W0 := by rw [hW0]; exact bal hba _
  have hB1 : One W0 w.heap.size (.slice A n c) := by rw [hW0]; exact (One.new w (.slice A n c) 25).next (bal (Below.refl _ _) _)
  have hB2 : One W0 (w.heap.size + 1) (.int .i64 a) := by rw [hW0]; have := One.new (w.alloc (.cells #[.slice A n c] 25)) (.int .i64 a) 2; simpa using this
  have HW0 := Lib.hid hW0
  have HB0 := Lib.hid hb0
  have HBX := Lib.hid (And.intro hB1 hB2)
  have HH := Lib.hid h
  have HEG := Lib.hid eg
  have hn := h.2
  have HLN := Lib.hid h.1.1
  have ⟨x1, f1⟩ := hB1
  have ⟨x2, f2⟩ := hB2
  clear hW0 hba hb0 hB1 hB2 h eg
  have HC : Hid (waveAtR1 xs a = argC (okW xs) (inB a 0 1000000)) := Lib.hid rfl
  have HCV := Lib.hid (fun (wx : World) (hb : Below w.heap.size w wx) => waveCode_any A n c xs (inB a 0 1000000) wx (HH.out.go hb))
  go_enter Try.func21, Try.ntmps21
  go_wp2_with fail
  rw [← HW0.out]
  have hdr : Below W0.heap.size W0 W0.drew := below_drewN (Below.refl _ _) 1
  have hb : Below w.heap.size w W0.drew := bnext HB0.out hdr
  have hX := And.intro (HBX.out.1.next hdr) (HBX.out.2.next hdr)
  clear x1 f1 x2 f2 hdr
  have ⟨x1, f1⟩ := hX.1
  have ⟨x2, f2⟩ := hX.2
  go_region_held3 (fun w' => w'.cell? ⟨w.heap.size, 0, none⟩ = some (.slice A n c) ∧ w'.cell? ⟨w.heap.size + 1, 0, none⟩ = some (.int .i64 a)) (exact ⟨x1, x2⟩) (first | (go_at_call 54; refine (isTime_any a _).mono ?_; rintro e w' ⟨rfl, hb'⟩; have hb := bnext hb hb'; have hX := And.intro (hX.1.next hb') (hX.2.next hb'); have ⟨x1, f1⟩ := hX.1; have ⟨x2, f2⟩ := hX.2) | (go_at_call 61; refine (HCV.out _ hb).mono ?_; rintro e w' ⟨rfl, hb'⟩; have hb := bnext hb hb'; have hX := And.intro (hX.1.next hb') (hX.2.next hb'); have ⟨x1, f1⟩ := hX.1; have ⟨x2, f2⟩ := hX.2))
  have HB2 := Lib.hid hb
  have HBX2 := Lib.hid hX
  clear x1 f1 x2 f2 hX
  have ⟨x1, f1⟩ := HBX2.out.1
  have ⟨x2, f2⟩ := HBX2.out.2
  by_cases ho : okW xs = true
  rotate_left
  · have ho' : okW xs = false := by simpa only [Bool.not_eq_true] using ho
    have HV : Hid (waveAtR0 xs a = 0 ∧ waveAtR1 xs a = 1) := Lib.hid ⟨by unfold waveAtR0; rw [if_neg ho], by unfold waveAtR1; rw [ho']; rfl⟩
    have hc : argC (okW xs) (inB a 0 1000000) = 1 := by rw [ho']; rfl
    rw [hc]
    clear ho ho' hc
    go_wp2
    go_ret2
    exact ⟨by rw [HV.out.1, HV.out.2]; rfl, HB2.out⟩
  by_cases h1 : inB a 0 1000000 = true
  rotate_left
  · have h1' : inB a 0 1000000 = false := by simpa only [Bool.not_eq_true] using h1
    have HV : Hid (waveAtR0 xs a = 0 ∧ waveAtR1 xs a = 2) := Lib.hid ⟨by unfold waveAtR0; rw [if_pos ho, if_neg h1], by unfold waveAtR1; rw [ho, h1']; rfl⟩
    have hc : argC (okW xs) (inB a 0 1000000) = 2 := by rw [ho, h1']; rfl
    rw [hc]
    clear ho h1 h1' hc
    go_wp2
    go_ret2
    exact ⟨by rw [HV.out.1, HV.out.2]; rfl, HB2.out⟩
  have hc : argC (okW xs) (inB a 0 1000000) = 0 := by rw [ho, h1]; rfl
  have HV : Hid (waveAtR0 xs a = wAt xs a ∧ waveAtR1 xs a = 0) := Lib.hid ⟨by unfold waveAtR0; rw [if_pos ho, if_pos h1], by unfold waveAtR1; rw [ho, h1]; rfl⟩
  rw [hc]
  clear hc
  have hup : ∀ i j, i ≤ j → j < n → decide (a < (spAt xs i).t) = true → decide (a < (spAt xs j).t) = true := fun i j hij hj hi => by
    have := okW_le ho i j hij (by rw [HLN.out]; exact hj)
    simp only [decide_eq_true_eq] at hi ⊢
    omega
  have HS := Lib.hid (search_any 63 #[.pointer (some ⟨w.heap.size, 0, none⟩), .pointer (some ⟨w.heap.size + 1, 0, none⟩)] n (fun i => decide (a < (spAt xs i).t)) _ HEG.out (by omega)
    (fun wr i hi hbr => atTime_any A n c xs w.heap.size (w.heap.size + 1) a i wr (HH.out.go (bnext HB2.out hbr)) hi (HBX2.out.1.next hbr) (HBX2.out.2.next hbr)) hup)
  have HQ := countF_spec (fun i => decide (a < (spAt xs i).t)) n hup
  generalize countF (fun i => decide (a < (spAt xs i).t)) n = q at *
  obtain ⟨s1, s2, s3⟩ := HQ
  have hpos : 0 < xs.length := by have := (okW_parts ho).1; omega
  have hq1 : 1 ≤ q := by
    rcases Nat.eq_zero_or_pos q with e | e
    · subst e
      have := s3 0 (Nat.le_refl _) (by have := HLN.out; omega)
      have h0 := (okW_parts ho).2.2.1
      have h2 := inB_iff.1 h1
      rw [h0, decide_eq_true_eq] at this
      omega
    · exact e
  have HAT : Hid (wAt xs a = (spAt xs (q - 1)).d) := Lib.hid (by
    unfold wAt
    rw [atTo_begun q hq1 (fun j hj => by have := s2 j hj; rw [decide_eq_false_iff_not] at this; omega) (fun j hj hl => by have := s3 j hj (by rw [← HLN.out]; exact hl); rw [decide_eq_true_eq] at this; exact this) _ (by omega)]
    rw [Nat.min_eq_right (by have := HLN.out; omega)])
  clear s2 s3 hup ho h1
  go_wp2_with fail
  refine HS.out.mono ?_
  rintro e w3 ⟨rfl, hb3⟩
  have HB3 := Lib.hid (bnext HB2.out hb3)
  have hBX3 := And.intro (HBX2.out.1.next hb3) (HBX2.out.2.next hb3)
  clear x1 f1 x2 f2 hb3
  have ⟨x1, f1⟩ := hBX3.1
  have ⟨x2, f2⟩ := hBX3.2
  clear hBX3
  obtain ⟨b, o, rfl, hrow⟩ := SpO.at ((HH.out.go HB3.out).cells) hpos
  obtain ⟨r, rfl⟩ : ∃ r, q = r + 1 := ⟨q - 1, by omega⟩
  rw [Nat.add_sub_cancel] at HAT
  have hrn : r < xs.length := by have := HLN.out; omega
  have ⟨p0, p1⟩ := hrow r _ (spAt_some xs r hrn)
  generalize (spAt xs r).d = d0 at *
  generalize (spAt xs r).t = t0 at *
  clear hrow hpos hq1
  have hi2 : (0 : Int) ≤ ((r + 1 : Nat) : Int) - 1 := by omega
  have hi3 : (((r + 1 : Nat) : Int) - 1).toNat = r := by omega
  have hi4 : ((r + 1 : Nat) : Int) - 1 < (n : Int) := by omega
  have hi5 : ((r + 1 : Nat) : Int) - 1 = (r : Int) := by omega
  go_wp2
  go_ret2
  exact ⟨by rw [HV.out.1, HV.out.2, HAT.out]; rfl, by first | exact HB3.out | exact below_drewN HB3.out _⟩
end Go.Proofs.Ytkbkmpcdidhagac
