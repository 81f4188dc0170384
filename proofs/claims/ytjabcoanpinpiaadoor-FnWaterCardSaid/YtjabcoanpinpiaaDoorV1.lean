/-
  Temperatures as texts: both sides write the same bytes.
-/
import Derived.Test.YtjabcoanpinpiaaDoorD1
import Derived.Test.YtjabcoanpinpiaaDoorD2
import Derived.Test.YtjabcoanpinpiaaDoorW3
import Derived.Lib.ItoaLen
import Derived.Test.YtjabcoanpinpiaaDoorP1
namespace Go.Proofs.YtjabcoanpinpiaaDoor
open Go.ChangeShapes Go.WideShapes Go.ChangeAt Go.RowKit


/-- a temperature in degrees: a sign, the full degrees, a point and two digits -/
def degL (t : Int) : List UInt8 :=
  (if t < 0 then [45] else []) ++ (Lib.itoa (absI t / 100) ++ ([46] ++ (Lib.itoa (absI t / 10 % 10) ++ Lib.itoa (absI t % 10))))
def degT (t : Int) : List UInt8 := if inB t (-99999) 99999 then degL t else []
theorem itoa_nat (n : Nat) : Lib.itoa (n : Int) = Lib.decDigits n := by
  unfold Lib.itoa
  rw [if_neg (by omega)]
  rfl
theorem itoa_two (r : Int) (h0 : 10 ≤ r) (h1 : r < 100) : Lib.itoa r = Lib.itoa (r / 10) ++ Lib.itoa (r % 10) := by
  obtain ⟨n, rfl⟩ := Int.eq_ofNat_of_zero_le (by omega : 0 ≤ r)
  have e1 : ((n : Int) / 10) = ((n / 10 : Nat) : Int) := by omega
  have e2 : ((n : Int) % 10) = ((n % 10 : Nat) : Int) := by omega
  rw [e1, e2, itoa_nat, itoa_nat, itoa_nat, dec_snoc n (by omega), dec_one (n % 10) (by omega)]
theorem itoa_zero : Lib.itoa 0 = [48] := by
  rw [show (0 : Int) = ((0 : Nat) : Int) by rfl, itoa_nat, dec_zero]
theorem itoa_small (x : Int) (h0 : 0 ≤ x) (h1 : x ≤ 1000000) : (mkB (Lib.itoa x)).size ≤ 21 := by
  have h : (mkB (Lib.itoa x)).size = (Lib.itoa x).length := rfl
  rw [h]
  exact Lib.itoa_length_le x (by omega) (by omega)
theorem mkB_app (a b : List UInt8) : mkB (a ++ b) = mkB a ++ mkB b := by
  apply ByteArray.ext
  simp [mkB]

theorem implDegreesText_any (t : Int) (w : World) (h0 : -9223372036854775808 ≤ t) (h1 : t ≤ 9223372036854775807) (ht : PowTab w) :
    Calls Tryd.prog 14 #[.int .i64 t] w fun e w' => e = .returned (.string (mkB (degT t))) ∧ Below w.heap.size w w' := by
  have hb : Below w.heap.size w w := Below.refl _ _
  by_cases hi' : inB t (-99999) 99999 = true
  · have hi := inB_iff.1 hi'
    have hv : degT t = degL t := if_pos hi'
    rw [hv]
    clear hv
    by_cases hn : t < 0
    · have HV : Hid (degL t = _) := Lib.hid (by unfold degL; rw [if_pos hn])
      have ha1 := (absI_bd t 99999 hi.1 hi.2)
      go_enter Tryd.func14, Tryd.ntmps14
      go_wp2_with (first | (go_at_call 18; refine (one64At _ _ _ _ _ _ (by simp) (by omega)).mono ?_; rintro e w' ⟨rfl, hb'⟩; first | have hb := bnext hb hb' | have hb := bnext (bal hb _) hb') | (go_at_call 29; refine (absolute_any _ _ (by omega) (by omega)).mono ?_; rintro e w' ⟨rfl, rfl⟩))
      generalize hA : absI t = a at *
      have HA := Lib.hid hA
      clear hA
      refine (implDecimal_any _ _ (by omega) (by omega) (ht.next hb)).mono ?_
      rintro e w1 ⟨rfl, hb'⟩
      have hb1 := bnext hb hb'
      clear hb'
      have hs1 := itoa_small (a / 100) (by omega) (by omega)
      generalize hq1 : mkB (Lib.itoa (a / 100)) = q1 at *
      have Hq1 := Lib.hid hq1
      clear hq1
      go_wp2_with fail
      refine (implDecimal_any _ _ (by omega) (by omega) (ht.next hb1)).mono ?_
      rintro e w2 ⟨rfl, hb'⟩
      have hb2 := bnext hb1 hb'
      clear hb'
      have hs2 := itoa_small (a / 10 % 10) (by omega) (by omega)
      generalize hq2 : mkB (Lib.itoa (a / 10 % 10)) = q2 at *
      have Hq2 := Lib.hid hq2
      clear hq2
      go_wp2_with fail
      refine (implDecimal_any _ _ (by omega) (by omega) (ht.next hb2)).mono ?_
      rintro e w3 ⟨rfl, hb'⟩
      have hb3 := bnext hb2 hb'
      clear hb'
      have hs3 := itoa_small (a % 10) (by omega) (by omega)
      generalize hq3 : mkB (Lib.itoa (a % 10)) = q3 at *
      have Hq3 := Lib.hid hq3
      clear hq3
      go_wp2
      go_ret
      refine ⟨?_, hb3⟩
      rw [HV.out, mkB_app, mkB_app, mkB_app, mkB_app, Hq1.out, Hq2.out, Hq3.out]
      apply congrArg Ending.returned
      apply congrArg Value.string
      apply ByteArray.ext
      rw [← Array.toList_inj]
      simp [mkB]
    · have HV : Hid (degL t = _) := Lib.hid (by unfold degL; rw [if_neg hn])
      have ha1 := (absI_bd t 99999 hi.1 hi.2)
      go_enter Tryd.func14, Tryd.ntmps14
      go_wp2_with (first | (go_at_call 18; refine (one64At _ _ _ _ _ _ (by simp) (by omega)).mono ?_; rintro e w' ⟨rfl, hb'⟩; first | have hb := bnext hb hb' | have hb := bnext (bal hb _) hb') | (go_at_call 29; refine (absolute_any _ _ (by omega) (by omega)).mono ?_; rintro e w' ⟨rfl, rfl⟩))
      generalize hA : absI t = a at *
      have HA := Lib.hid hA
      clear hA
      refine (implDecimal_any _ _ (by omega) (by omega) (ht.next hb)).mono ?_
      rintro e w1 ⟨rfl, hb'⟩
      have hb1 := bnext hb hb'
      clear hb'
      have hs1 := itoa_small (a / 100) (by omega) (by omega)
      generalize hq1 : mkB (Lib.itoa (a / 100)) = q1 at *
      have Hq1 := Lib.hid hq1
      clear hq1
      go_wp2_with fail
      refine (implDecimal_any _ _ (by omega) (by omega) (ht.next hb1)).mono ?_
      rintro e w2 ⟨rfl, hb'⟩
      have hb2 := bnext hb1 hb'
      clear hb'
      have hs2 := itoa_small (a / 10 % 10) (by omega) (by omega)
      generalize hq2 : mkB (Lib.itoa (a / 10 % 10)) = q2 at *
      have Hq2 := Lib.hid hq2
      clear hq2
      go_wp2_with fail
      refine (implDecimal_any _ _ (by omega) (by omega) (ht.next hb2)).mono ?_
      rintro e w3 ⟨rfl, hb'⟩
      have hb3 := bnext hb2 hb'
      clear hb'
      have hs3 := itoa_small (a % 10) (by omega) (by omega)
      generalize hq3 : mkB (Lib.itoa (a % 10)) = q3 at *
      have Hq3 := Lib.hid hq3
      clear hq3
      go_wp2
      go_ret
      refine ⟨?_, hb3⟩
      rw [HV.out, mkB_app, mkB_app, mkB_app, mkB_app, Hq1.out, Hq2.out, Hq3.out]
      apply congrArg Ending.returned
      apply congrArg Value.string
      apply ByteArray.ext
      rw [← Array.toList_inj]
      simp [mkB]
  · have hi2 : inB t (-99999) 99999 = false := by simpa using hi'
    have hv : mkB (degT t) = ⟨#[]⟩ := by unfold degT; rw [hi2]; rfl
    rw [hv]
    clear hv
    go_enter Tryd.func14, Tryd.ntmps14
    go_wp2_with ((go_at_call 18; refine (one64At _ _ _ _ _ _ (by simp) (by omega)).mono ?_; rintro e w' ⟨rfl, hb'⟩; first | have hb := bnext hb hb' | have hb := bnext (bal hb _) hb'))
    go_ret
    first | exact ⟨rfl, hb⟩ | exact ⟨rfl, bal hb _⟩
end Go.Proofs.YtjabcoanpinpiaaDoor
