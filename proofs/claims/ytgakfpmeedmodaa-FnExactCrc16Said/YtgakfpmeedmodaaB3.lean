/-
  Crc16 of the program and of the model.
-/
import Derived.Test.YtgakfpmeedmodaaB1
import Derived.Test.YtgakfpmeedmodaaA3
namespace Go.Proofs.Ytgakfpmeedmodaa
open Go.ChangeShapes Go.WideShapes Go.ChangeAt Go.RowKit

def crcBit (s : Int) : Int := if 65535 < s * 2 then bits .xor .i64 (bits .and .i64 (s * 2) 65535) 4129 else s * 2
def crcBits : Nat → Int → Int
  | 0, s => s
  | n + 1, s => crcBit (crcBits n s)
def crcStep (s : Int) (b : UInt8) : Int := crcBits 8 (bits .xor .i64 s ((b.toNat : Int) * 256))
def crcL (l : List UInt8) (s : Int) : Int := l.foldl crcStep s

theorem xor_nat (a b : Nat) (ha : a < 65536) (hb : b < 65536) : bits .xor .i64 (a : Int) (b : Int) = ((a ^^^ b : Nat) : Int) ∧ a ^^^ b < 65536 := by
  have hx : a ^^^ b < 65536 := Nat.xor_lt_two_pow (n := 16) ha hb
  refine ⟨?_, hx⟩
  have ha' : a % 2 ^ IntKind.i64.bits = a := Nat.mod_eq_of_lt (Nat.lt_of_lt_of_le ha (by decide))
  have hb' : b % 2 ^ IntKind.i64.bits = b := Nat.mod_eq_of_lt (Nat.lt_of_lt_of_le hb (by decide))
  simp only [bits, BitVec.ofInt_natCast, BitVec.toNat_xor, BitVec.toNat_ofNat, ha', hb']
  rw [IntKind.wrap_i64]
  omega
theorem xor_bd (a b : Int) (ha0 : 0 ≤ a) (ha : a ≤ 65535) (hb0 : 0 ≤ b) (hb : b ≤ 65535) : 0 ≤ bits .xor .i64 a b ∧ bits .xor .i64 a b ≤ 65535 := by
  obtain ⟨x, rfl⟩ := Int.eq_ofNat_of_zero_le ha0
  obtain ⟨y, rfl⟩ := Int.eq_ofNat_of_zero_le hb0
  obtain ⟨h1, h2⟩ := xor_nat x y (by omega) (by omega)
  rw [h1]; omega
theorem and_bd (a : Int) (ha0 : 0 ≤ a) (ha : a ≤ 131070) : 0 ≤ bits .and .i64 a 65535 ∧ bits .and .i64 a 65535 ≤ 65535 := by
  have h := bits_mask .i64 17 (by decide) (fun n h0 h1 => by rw [IntKind.wrap_i64]; omega) 16 (by decide) a ha0 (by omega)
  have e : (2 : Int) ^ 16 - 1 = 65535 := by decide
  rw [e] at h
  rw [h]
  omega
theorem crcBit_bd (s : Int) (h0 : 0 ≤ s) (h1 : s ≤ 65535) : 0 ≤ crcBit s ∧ crcBit s ≤ 65535 := by
  unfold crcBit
  split
  · have h := and_bd (s * 2) (by omega) (by omega)
    exact xor_bd _ _ h.1 h.2 (by omega) (by omega)
  · omega
theorem crcBits_bd (n : Nat) (s : Int) (h0 : 0 ≤ s) (h1 : s ≤ 65535) : 0 ≤ crcBits n s ∧ crcBits n s ≤ 65535 := by
  induction n with
  | zero => exact ⟨h0, h1⟩
  | succ n ih => exact crcBit_bd _ ih.1 ih.2
theorem crcStep_bd (s : Int) (b : UInt8) (h0 : 0 ≤ s) (h1 : s ≤ 65535) : 0 ≤ crcStep s b ∧ crcStep s b ≤ 65535 := by
  have hb : b.toNat < 256 := b.toNat_lt
  have h := xor_bd s ((b.toNat : Int) * 256) h0 h1 (by omega) (by omega)
  exact crcBits_bd 8 _ h.1 h.2
theorem crcL_bd (l : List UInt8) (s : Int) (h0 : 0 ≤ s) (h1 : s ≤ 65535) : 0 ≤ crcL l s ∧ crcL l s ≤ 65535 := by
  unfold crcL
  induction l generalizing s with
  | nil => exact ⟨h0, h1⟩
  | cons b l ih => exact ih _ (crcStep_bd s b h0 h1).1 (crcStep_bd s b h0 h1).2
theorem crcL_snoc (l : List UInt8) (b : UInt8) (s : Int) : crcL (l ++ [b]) s = crcStep (crcL l s) b := by
  unfold crcL; rw [List.foldl_append]; rfl

theorem l01Crc_any (s : ByteArray) (start : Int) (w : World) (hs : s.size ≤ maxLen) (h0 : 0 ≤ start) (h1 : start ≤ 65535) :
    Calls Try.prog 37 #[.string s, .int .i64 start] w fun e w' => e = .returned (.int .i64 (crcL s.data.toList start)) ∧ w = w' := by
  have hm : s.size ≤ 9223372036854775807 := by unfold maxLen at hs; omega
  go_enter Try.func37, Try.ntmps37
  go_wp2
  go_loop [1, 5] (fun c i => ∃ k : Nat, k ≤ s.size ∧ i = .int .i64 k ∧ ∃ v : Int, c = .int .i64 v ∧ 0 ≤ v ∧ v ≤ 65535 ∧ Hid (v = crcL (s.data.toList.take k) start)) (fun _ i => s.size - (intOf i).toNat)
  case atStart => exact ⟨0, Nat.zero_le _, rfl, start, rfl, h0, h1, Lib.hid rfl⟩
  case round =>
    obtain ⟨k, hk, rfl, v, rfl, hv0, hv1, Hv⟩ := hrel
    by_cases hlt : k < s.size
    · have hb : s[k].toNat < 256 := s[k].toNat_lt
      have hx := xor_bd v ((s[k].toNat : Int) * 256) hv0 hv1 (by omega) (by omega)
      have hsn : Hid (crcL (s.data.toList.take (k + 1)) start = crcStep (crcL (s.data.toList.take k) start) s[k]) := Lib.hid (by
        rw [List.take_succ_eq_append_getElem (by rw [size_list]; exact hlt), crcL_snoc]; rfl)
      go_wp2
      generalize hxe : bits .xor .i64 v ((s[k].toNat : Int) * 256) = x0 at *
      have Hx : Hid (crcStep v s[k] = crcBits 8 x0) := Lib.hid (by unfold crcStep; rw [hxe])
      clear hxe
      go_loop [1, 6] (fun c j => ∃ n : Nat, n ≤ 8 ∧ j = .int .i64 n ∧ c = .int .i64 (crcBits n x0)) (fun _ j => 8 - (intOf j).toNat)
      case atStart => exact ⟨0, by omega, rfl, rfl⟩
      case round =>
        obtain ⟨n, hn, rfl, rfl⟩ := hrel
        have hbd := crcBits_bd n x0 hx.1 hx.2
        by_cases hn8 : n < 8
        · have hsucc : crcBits (n + 1) x0 = crcBit (crcBits n x0) := rfl
          generalize crcBits n x0 = y at *
          have Hs := Lib.hid hsucc
          clear hsucc
          by_cases ht : 65535 < y * 2
          · have Hc : Hid (crcBit y = bits .xor .i64 (bits .and .i64 (y * 2) 65535) 4129) := Lib.hid (if_pos ht)
            go_wp2
            go_round
            case rel => exact ⟨n + 1, by omega, by go_num, by rw [Hs.out, Hc.out]⟩
            case measure => simp [intOf]; omega
          · have Hc : Hid (crcBit y = y * 2) := Lib.hid (if_neg ht)
            go_wp2
            go_round
            case rel => exact ⟨n + 1, by omega, by go_num, by rw [Hs.out, Hc.out]⟩
            case measure => simp [intOf]; omega
        · have e8 : n = 8 := by omega
          subst e8
          have hb8 := crcBits_bd 8 x0 hx.1 hx.2
          go_wp2
          go_round
          case rel => exact ⟨k + 1, by omega, by go_num, _, rfl, hb8.1, hb8.2, Lib.hid (by rw [← Hx.out, hsn.out, ← Hv.out])⟩
          case measure => simp [intOf]; omega
    · go_wp2
      go_ret
      have Hv' := Hv.out
      rw [List.take_of_length_le (by rw [size_list]; omega)] at Hv'
      exact ⟨by rw [← Hv']; rfl, rfl⟩

/-- Crc16: 0 where start is not one of 16 bits -/
def crcI (l : List UInt8) (start : Int) : Int := if inB start 0 65535 then crcL l start else 0

theorem specCrc16_any (s : ByteArray) (start : Int) (w : World) (hs : s.size ≤ maxLen) :
    Calls Try.prog 19 #[.string s, .int .i64 start] w fun e w' => e = .returned (.int .i64 (crcI s.data.toList start)) ∧ w = w' := by
  have H : Hid (crcI s.data.toList start = _) := Lib.hid (by unfold crcI; rfl)
  by_cases hi : inB start 0 65535 = true
  · rw [if_pos hi] at H
    have hi' := inB_iff.1 hi
    go_enter Try.func19, Try.ntmps19
    go_wp2_with (first | (go_at_call 27; refine (in_any _ _ _ _).mono ?_; rintro e w' ⟨rfl, rfl⟩) | (go_at_call 37; refine (l01Crc_any _ _ _ hs (by omega) (by omega)).mono ?_; rintro e w' ⟨rfl, rfl⟩))
    go_ret
    exact ⟨by rw [H.out]; rfl, rfl⟩
  · rw [if_neg hi] at H
    have hi' : inB start 0 65535 = false := by simpa using hi
    go_enter Try.func19, Try.ntmps19
    go_wp2_with (go_at_call 27; refine (in_any _ _ _ _).mono ?_; rintro e w' ⟨rfl, rfl⟩)
    go_ret
    exact ⟨by rw [H.out]; rfl, rfl⟩

theorem implCrc16_any (s : ByteArray) (start : Int) (w : World) (hs : s.size ≤ maxLen) :
    Calls Try.prog 20 #[.string s, .int .i64 start] w fun e w' => e = .returned (.int .i64 (crcI s.data.toList start)) ∧ Below w.heap.size w w' := by
  have hm : s.size ≤ 9223372036854775807 := by unfold maxLen at hs; omega
  by_cases hi : inB start 0 65535 = true
  · have H : Hid (crcI s.data.toList start = crcL s.data.toList start) := Lib.hid (if_pos hi)
    have hi' := inB_iff.1 hi
    have h0 : 0 ≤ start := hi'.1
    have h1 : start ≤ 65535 := hi'.2
    clear hi'
    go_enter Try.func20, Try.ntmps20
    go_wp2_with (go_at_call 28; refine (within64_one _ _ _ _ _ (by omega)).mono ?_; rintro e w' ⟨rfl, rfl⟩)
    go_loop [5, 14] (fun c i => ∃ k : Nat, k ≤ s.size ∧ i = .int .i64 k ∧ ∃ v : Int, c = .int .i64 v ∧ 0 ≤ v ∧ v ≤ 65535 ∧ Hid (v = crcL (s.data.toList.take k) start)) (fun _ i => s.size - (intOf i).toNat)
    case atStart => exact ⟨0, Nat.zero_le _, rfl, start, rfl, h0, h1, Lib.hid rfl⟩
    case round =>
      obtain ⟨k, hk, rfl, v, rfl, hv0, hv1, Hv⟩ := hrel
      by_cases hlt : k < s.size
      · have hb : s[k].toNat < 256 := s[k].toNat_lt
        have hx := xor_bd v ((s[k].toNat : Int) * 256) hv0 hv1 (by omega) (by omega)
        have hsn : Hid (crcL (s.data.toList.take (k + 1)) start = crcStep (crcL (s.data.toList.take k) start) s[k]) := Lib.hid (by
          rw [List.take_succ_eq_append_getElem (by rw [size_list]; exact hlt), crcL_snoc]; rfl)
        go_wp2
        generalize hxe : bits .xor .i64 v ((s[k].toNat : Int) * 256) = x0 at *
        have Hx : Hid (crcStep v s[k] = crcBits 8 x0) := Lib.hid (by unfold crcStep; rw [hxe])
        clear hxe
        go_loop [5, 24] (fun c j => ∃ n : Nat, n ≤ 8 ∧ j = .int .i64 n ∧ c = .int .i64 (crcBits n x0)) (fun _ j => 8 - (intOf j).toNat)
        case atStart => exact ⟨0, by omega, rfl, rfl⟩
        case round =>
          obtain ⟨n, hn, rfl, rfl⟩ := hrel
          have hbd := crcBits_bd n x0 hx.1 hx.2
          by_cases hn8 : n < 8
          · have hsucc : crcBits (n + 1) x0 = crcBit (crcBits n x0) := rfl
            generalize crcBits n x0 = y at *
            have Hs := Lib.hid hsucc
            clear hsucc
            by_cases ht : 65535 < y * 2
            · have Hc : Hid (crcBit y = bits .xor .i64 (bits .and .i64 (y * 2) 65535) 4129) := Lib.hid (if_pos ht)
              go_wp2
              go_round
              case rel => exact ⟨n + 1, by omega, by go_num, by rw [Hs.out, Hc.out]⟩
              case measure => simp [intOf]; omega
            · have Hc : Hid (crcBit y = y * 2) := Lib.hid (if_neg ht)
              go_wp2
              go_round
              case rel => exact ⟨n + 1, by omega, by go_num, by rw [Hs.out, Hc.out]⟩
              case measure => simp [intOf]; omega
          · have e8 : n = 8 := by omega
            subst e8
            have hb8 := crcBits_bd 8 x0 hx.1 hx.2
            go_wp2
            go_round
            case rel => exact ⟨k + 1, by omega, by go_num, _, rfl, hb8.1, hb8.2, Lib.hid (by rw [← Hx.out, hsn.out, ← Hv.out])⟩
            case measure => simp [intOf]; omega
      · go_wp2
        go_ret
        have Hv' := Hv.out
        rw [List.take_of_length_le (by rw [size_list]; omega)] at Hv'
        exact ⟨by rw [H.out, ← Hv']; rfl, (Below.refl _ _).alloc (Nat.le_refl _) _⟩
  · have H : Hid (crcI s.data.toList start = 0) := Lib.hid (if_neg hi)
    have hi' : inB start 0 65535 = false := by simpa using hi
    go_enter Try.func20, Try.ntmps20
    go_wp2_with (go_at_call 28; refine (within64_one _ _ _ _ _ (by omega)).mono ?_; rintro e w' ⟨rfl, rfl⟩)
    go_ret
    exact ⟨by rw [H.out]; rfl, (Below.refl _ _).alloc (Nat.le_refl _) _⟩
end Go.Proofs.Ytgakfpmeedmodaa
