/-
  IsName of the program and of the model.
-/
import Derived.Test.YthmnfobhgeamiaaB1
namespace Go.Proofs.Ythmnfobhgeamiaa
open Go.ChangeShapes Go.WideShapes Go.ChangeAt Go.RowKit

def isLow (b : UInt8) : Bool := inB (b.toNat : Int) 97 122
def isDig (b : UInt8) : Bool := inB (b.toNat : Int) 48 57
def isAln (b : UInt8) : Bool := isLow b || isDig b
/-- a name: 1 to 10 bytes, letters and digits, a letter first -/
def nameL (l : List UInt8) : Bool := decide (1 ≤ l.length ∧ l.length ≤ 10) && (isLow (l.headD 0) && l.all isAln)

theorem implIsName_any (s : ByteArray) (w : World) (hs : s.size ≤ maxLen) :
    Calls Try.prog 85 #[.string s] w fun e w' => e = .returned (.bool (nameL s.data.toList)) ∧ Below w.heap.size w w' := by
  have hm : s.size ≤ 9223372036854775807 := by unfold maxLen at hs; omega
  have hl := size_list s
  have H : Hid (nameL s.data.toList = _) := Lib.hid (by unfold nameL; rfl)
  by_cases h1 : 1 ≤ s.size ∧ s.size ≤ 10
  · have h1' : inB (s.size : Int) 1 10 = true := inB_true (by omega)
    have h0 : 0 < s.size := by omega
    have hhd : s.data.toList.headD 0 = s[0] := by
      rw [getE_list s 0 h0]
      exact headD_get _ _ (by omega)
    rw [hl, decide_eq_true h1, Bool.true_and, hhd] at H
    by_cases h2 : isLow s[0] = true
    · have h2' : inB (s[0].toNat : Int) 97 122 = true := h2
      rw [h2, Bool.true_and] at H
      clear hhd h2 h1
      have Hl := Lib.hid hl
      clear hl
      go_enter Try.func85, Try.ntmps85
      go_wp2_with (first | (go_at_call 95; refine (withinInt_one _ _ _ _ _ (by omega)).mono ?_; rintro e w' ⟨rfl, rfl⟩) | (go_at_call 96; refine (isLetter_any _ _).mono ?_; rintro e w1 ⟨rfl, hb1⟩))
      have hB := bnew hb1
      clear hb1
      go_loopw [17] (fun i wr => ∃ k : Nat, k ≤ s.size ∧ i = .int .i64 k ∧ Hid ((s.data.toList.take k).all isAln = true) ∧ Below w.heap.size w wr) (fun i _ => s.size - (intOf i).toNat)
      case atStart => exact ⟨0, Nat.zero_le _, rfl, Lib.hid rfl, hB⟩
      case round =>
        obtain ⟨k, hk, rfl, Hall, hBr⟩ := hrel
        by_cases hlt : k < s.size
        · have hts := all_take_succ isAln s.data.toList k (by rw [size_list]; exact hlt)
          have hfs := all_false_at isAln s.data.toList k (by rw [size_list]; exact hlt)
          rw [← getE_list s k hlt] at hts hfs
          have Hts := Lib.hid hts
          have Hfs := Lib.hid hfs
          clear hts hfs
          have ha : isAln s[k] = (inB (s[k].toNat : Int) 97 122 || inB (s[k].toNat : Int) 48 57) := rfl
          by_cases c1 : inB (s[k].toNat : Int) 97 122 = true
          · rw [c1, Bool.true_or] at ha
            have Ha := Lib.hid ha
            clear ha
            go_wp2_with (go_at_call 96; refine (isLetter_any _ _).mono ?_; rintro e w2 ⟨rfl, hb2⟩)
            go_roundw
            case rel => exact ⟨k + 1, by omega, by go_num, Lib.hid (by rw [Hts.out, Hall.out, Ha.out]; rfl), bnext hBr hb2⟩
            case measure => simp [intOf]; omega
          · have c1' : inB (s[k].toNat : Int) 97 122 = false := by simpa using c1
            rw [c1', Bool.false_or] at ha
            have Ha := Lib.hid ha
            clear ha c1
            by_cases c2 : inB (s[k].toNat : Int) 48 57 = true
            · go_wp2_with (first | (go_at_call 96; refine (isLetter_any _ _).mono ?_; rintro e w2 ⟨rfl, hb2⟩) | (go_at_call 97; refine (isDigit_any _ _).mono ?_; rintro e w3 ⟨rfl, hb3⟩))
              go_roundw
              case rel => exact ⟨k + 1, by omega, by go_num, Lib.hid (by rw [Hts.out, Hall.out, Ha.out, c2]; rfl), bnext (bnext hBr hb2) hb3⟩
              case measure => simp [intOf]; omega
            · have c2' : inB (s[k].toNat : Int) 48 57 = false := by simpa using c2
              clear c2
              go_wp2_with (first | (go_at_call 96; refine (isLetter_any _ _).mono ?_; rintro e w2 ⟨rfl, hb2⟩) | (go_at_call 97; refine (isDigit_any _ _).mono ?_; rintro e w3 ⟨rfl, hb3⟩))
              go_ret
              exact ⟨by rw [H.out, Hfs.out (by rw [Ha.out, c2'])]; rfl, bnext (bnext hBr hb2) hb3⟩
        · go_wp2
          go_ret
          have Hall' := Hall.out
          rw [List.take_of_length_le (by rw [size_list]; omega)] at Hall'
          exact ⟨by rw [H.out, Hall']; rfl, hBr⟩
    · have h2'' : isLow s[0] = false := by simpa using h2
      have h2' : inB (s[0].toNat : Int) 97 122 = false := h2''
      rw [h2'', Bool.false_and] at H
      go_enter Try.func85, Try.ntmps85
      go_wp2_with (first | (go_at_call 95; refine (withinInt_one _ _ _ _ _ (by omega)).mono ?_; rintro e w' ⟨rfl, rfl⟩) | (go_at_call 96; refine (isLetter_any _ _).mono ?_; rintro e w1 ⟨rfl, hb1⟩))
      go_ret
      exact ⟨by rw [H.out]; rfl, bnew hb1⟩
  · have h1' : inB (s.size : Int) 1 10 = false := inB_false (by omega)
    rw [hl, decide_eq_false h1, Bool.false_and] at H
    go_enter Try.func85, Try.ntmps85
    go_wp2_with (go_at_call 95; refine (withinInt_one _ _ _ _ _ (by omega)).mono ?_; rintro e w' ⟨rfl, rfl⟩)
    go_ret
    exact ⟨by rw [H.out]; rfl, (Below.refl _ _).alloc (Nat.le_refl _) _⟩

theorem l01Name_any (s : ByteArray) (w : World) (hs : s.size ≤ maxLen) :
    Calls Try.prog 84 #[.string s] w fun e w' => e = .returned (.bool (nameL s.data.toList)) ∧ w = w' := by
  have hm : s.size ≤ 9223372036854775807 := by unfold maxLen at hs; omega
  have hl := size_list s
  have H : Hid (nameL s.data.toList = _) := Lib.hid (by unfold nameL; rfl)
  by_cases hz : s.size = 0
  · have hz' := empty_true s hz
    rw [hl, decide_eq_false (by omega), Bool.false_and] at H
    have Hz := Lib.hid hz
    clear hz hl
    go_enter Try.func84, Try.ntmps84
    go_wp2
    go_ret
    exact ⟨by rw [H.out]; rfl, rfl⟩
  · have hz' := empty_false s hz
    by_cases h1 : s.size ≤ 10
    · have h0 : 0 < s.size := by omega
      have hhd : s.data.toList.headD 0 = s[0] := by
        rw [getE_list s 0 h0]
        exact headD_get _ _ (by omega)
      rw [hl, decide_eq_true (by omega), Bool.true_and, hhd] at H
      clear hhd hl
      by_cases h2 : isLow s[0] = true
      · have h2' : inB (s[0].toNat : Int) 97 122 = true := h2
        rw [h2, Bool.true_and] at H
        clear h2
        go_enter Try.func84, Try.ntmps84
        go_wp2_with (go_at_call 93; refine (l01Small_any _ _).mono ?_; rintro e w' ⟨rfl, rfl⟩)
        go_loop [3] (fun i => ∃ k : Nat, k ≤ s.size ∧ i = .int .i64 k ∧ Hid ((s.data.toList.take k).all isAln = true)) (fun i => s.size - (intOf i).toNat)
        case atStart => exact ⟨0, Nat.zero_le _, rfl, Lib.hid rfl⟩
        case round =>
          obtain ⟨k, hk, rfl, Hall⟩ := hrel
          by_cases hlt : k < s.size
          · have hts := all_take_succ isAln s.data.toList k (by rw [size_list]; exact hlt)
            have hfs := all_false_at isAln s.data.toList k (by rw [size_list]; exact hlt)
            rw [← getE_list s k hlt] at hts hfs
            have Hts := Lib.hid hts
            have Hfs := Lib.hid hfs
            clear hts hfs
            have ha : isAln s[k] = (inB (s[k].toNat : Int) 97 122 || inB (s[k].toNat : Int) 48 57) := rfl
            by_cases c1 : inB (s[k].toNat : Int) 97 122 = true
            · rw [c1, Bool.true_or] at ha
              have Ha := Lib.hid ha
              clear ha
              go_wp2_with (go_at_call 93; refine (l01Small_any _ _).mono ?_; rintro e w' ⟨rfl, rfl⟩)
              go_round
              case rel => exact ⟨k + 1, by omega, by go_num, Lib.hid (by rw [Hts.out, Hall.out, Ha.out]; rfl)⟩
              case measure => simp [intOf]; omega
            · have c1' : inB (s[k].toNat : Int) 97 122 = false := by simpa using c1
              rw [c1', Bool.false_or] at ha
              have Ha := Lib.hid ha
              clear ha c1
              by_cases c2 : inB (s[k].toNat : Int) 48 57 = true
              · go_wp2_with (first | (go_at_call 93; refine (l01Small_any _ _).mono ?_; rintro e w' ⟨rfl, rfl⟩) | (go_at_call 94; refine (l01Digit_any _ _).mono ?_; rintro e w' ⟨rfl, rfl⟩))
                go_round
                case rel => exact ⟨k + 1, by omega, by go_num, Lib.hid (by rw [Hts.out, Hall.out, Ha.out, c2]; rfl)⟩
                case measure => simp [intOf]; omega
              · have c2' : inB (s[k].toNat : Int) 48 57 = false := by simpa using c2
                clear c2
                go_wp2_with (first | (go_at_call 93; refine (l01Small_any _ _).mono ?_; rintro e w' ⟨rfl, rfl⟩) | (go_at_call 94; refine (l01Digit_any _ _).mono ?_; rintro e w' ⟨rfl, rfl⟩))
                go_ret
                exact ⟨by rw [H.out, Hfs.out (by rw [Ha.out, c2'])]; rfl, rfl⟩
          · go_wp2
            go_ret
            have Hall' := Hall.out
            rw [List.take_of_length_le (by rw [size_list]; omega)] at Hall'
            exact ⟨by rw [H.out, Hall']; rfl, rfl⟩
      · have h2'' : isLow s[0] = false := by simpa using h2
        have h2' : inB (s[0].toNat : Int) 97 122 = false := h2''
        rw [h2'', Bool.false_and] at H
        go_enter Try.func84, Try.ntmps84
        go_wp2_with (go_at_call 93; refine (l01Small_any _ _).mono ?_; rintro e w' ⟨rfl, rfl⟩)
        go_ret
        exact ⟨by rw [H.out]; rfl, rfl⟩
    · rw [hl, decide_eq_false (by omega), Bool.false_and] at H
      clear hl
      go_enter Try.func84, Try.ntmps84
      go_wp2
      go_ret
      exact ⟨by rw [H.out]; rfl, rfl⟩

end Go.Proofs.Ythmnfobhgeamiaa
