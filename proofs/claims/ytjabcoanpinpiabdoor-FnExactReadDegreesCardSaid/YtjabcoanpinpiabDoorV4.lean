/-
  Reading a temperature: the model's way.
-/
import Derived.Test.YtjabcoanpinpiabDoorV3
import Derived.Test.YtjabcoanpinpiabDoorS1
namespace Go.Proofs.YtjabcoanpinpiabDoor
open Go.ChangeShapes Go.WideShapes Go.ChangeAt Go.RowKit

theorem nDigits_three (u : Nat) (h : u < 1000) : Lib.nDigits u ≤ 3 := by
  by_cases h1 : u < 10
  · rw [Lib.nDigits_small h1]; omega
  · rw [Lib.nDigits_big h1]
    by_cases h2 : u / 10 < 10
    · rw [Lib.nDigits_small h2]; omega
    · rw [Lib.nDigits_big h2, Lib.nDigits_small (by omega)]; omega
theorem mag_deg (t : Int) : magOf (degL t) = Lib.itoa (absI t / 100) ++ [46, UInt8.ofNat (48 + (absI t / 10 % 10).toNat), UInt8.ofNat (48 + (absI t % 10).toNat)] ∧ ((degL t).head? = some 45 ↔ t < 0) := by
  have h := absI_nn0 t
  have hd := itoa_dg (absI t / 100) (by omega)
  have e : degL t = (if t < 0 then [45] else []) ++ (Lib.itoa (absI t / 100) ++ [46, UInt8.ofNat (48 + (absI t / 10 % 10).toNat), UInt8.ofNat (48 + (absI t % 10).toNat)]) := by
    unfold degL
    rw [dgt_itoa (absI t / 10 % 10) (by omega) (by omega), dgt_itoa (absI t % 10) (by omega) (by omega)]
    rfl
  rw [e]
  by_cases hn : t < 0
  · rw [if_pos hn]
    exact ⟨rfl, ⟨fun _ => hn, fun _ => rfl⟩⟩
  · rw [if_neg hn, List.nil_append]
    have hh : (Lib.itoa (absI t / 100) ++ [46, UInt8.ofNat (48 + (absI t / 10 % 10).toNat), UInt8.ofNat (48 + (absI t % 10).toNat)]).head? ≠ some 45 := by
      match hq : Lib.itoa (absI t / 100), hd with
      | c :: r, hd =>
        intro e
        have : c = 45 := by simpa using e
        rw [this] at hd
        exact absurd hd.1 (by simp [isDg])
    refine ⟨?_, ⟨fun k => absurd k hh, fun k => absurd k hn⟩⟩
    unfold magOf
    rw [if_neg hh]
/-- where l is the text of a temperature, what lies behind its sign falls into the full degrees, a point and two digits -/
theorem deg_shape {l : List UInt8} {t : Int} (ht : inB t (-99999) 99999 = true) (h : degL t = l) :
    ∃ Q x y, magOf l = Q ++ [46, x, y] ∧ isDg x = true ∧ isDg y = true ∧ Q ≠ [] ∧ readDec Q = some (absI t / 100) ∧ (x.toNat : Int) = 48 + absI t / 10 % 10 ∧ (y.toNat : Int) = 48 + absI t % 10 ∧ (l.head? = some 45 ↔ t < 0) := by
  have hb := inB_iff.1 ht
  have ha := absI_bd t 99999 hb.1 hb.2
  obtain ⟨h1, h2⟩ := mag_deg t
  rw [h] at h1 h2
  have hd := itoa_dg (absI t / 100) (by omega)
  have hx : (UInt8.ofNat (48 + (absI t / 10 % 10).toNat)).toNat = 48 + (absI t / 10 % 10).toNat := toNat_dg _ (by omega)
  have hy : (UInt8.ofNat (48 + (absI t % 10).toNat)).toNat = 48 + (absI t % 10).toNat := toNat_dg _ (by omega)
  refine ⟨_, _, _, h1, ?_, ?_, hd.2.1, ?_, by rw [hx]; omega, by rw [hy]; omega, h2⟩
  · unfold isDg; rw [hx]; exact decide_eq_true (by omega)
  · unfold isDg; rw [hy]; exact decide_eq_true (by omega)
  · apply readDec_itoa
    have := itoa_small (absI t / 100) (by omega) (by omega)
    have h3 := (mag_itoa (absI t / 100)).1
    rw [h3]
    have hl : (Lib.decDigits (absI t / 100).natAbs).length ≤ 18 := by
      rw [Lib.decDigits_length]
      have := nDigits_three (absI t / 100).natAbs (by omega)
      omega
    exact hl

theorem leaf_of {l : List UInt8} (h : ∀ t, inB t (-99999) 99999 = true → degL t = l → False) : DegOf l none := ⟨fun t e => (by cases e), fun _ t ht hl => h t ht hl⟩
theorem shape_at {M Q : List UInt8} {x y : UInt8} (h : M = Q ++ [46, x, y]) : M.length = Q.length + 3 ∧ M[M.length - 3]? = some 46 ∧ M[M.length - 2]? = some x ∧ M[M.length - 1]? = some y ∧ M.take (M.length - 3) = Q := by
  subst h
  have hl : (Q ++ [46, x, y]).length = Q.length + 3 := by simp
  rw [hl]
  refine ⟨rfl, ?_, ?_, ?_, ?_⟩
  · rw [show Q.length + 3 - 3 = Q.length by omega, List.getElem?_append_right (by omega)]; simp
  · rw [show Q.length + 3 - 2 = Q.length + 1 by omega, List.getElem?_append_right (by omega)]; simp
  · rw [show Q.length + 3 - 1 = Q.length + 2 by omega, List.getElem?_append_right (by omega)]; simp
  · rw [show Q.length + 3 - 3 = Q.length by omega]; simp
theorem mag_le (l : List UInt8) : (magOf l).length ≤ l.length := by
  unfold magOf
  by_cases h : l.head? = some 45
  · rw [if_pos h, List.length_drop]; omega
  · rw [if_neg h]; exact Nat.le_refl _
theorem byte_at (R : ByteArray) (k : Nat) (h : k < R.size) : R.data.toList[k]? = some R[k] := by
  rw [List.getElem?_eq_getElem (by rw [size_list]; exact h), getE_list]
theorem l01Number_ex (s : ByteArray) (w : World) (hs : s.size ≤ maxLen) :
    Calls Tryd.prog 15 #[.string s] w fun e w' => ∃ o, o = readDec s.data.toList ∧ e = .returned (.tuple #[.int .i64 (o.getD 0), .bool o.isSome]) ∧ w = w' :=
  (l01Number_any s w hs).mono fun _ _ ⟨he, hw⟩ => ⟨_, rfl, he, hw⟩
theorem told_ex (T : Int) (w : World) : Calls Tryd.prog 9 #[.int .i64 T] w fun e w' => ∃ T', T' = T ∧ e = .returned (.bool (inB T' (-99999) 99999)) ∧ w = w' :=
  (l02Told_any T w).mono fun _ _ ⟨he, hw⟩ => ⟨_, rfl, he, hw⟩
theorem readDec_bd {l : List UInt8} {v : Int} (h : readDec l = some v) : -1000000000000000000 < v ∧ v < 1000000000000000000 := (readDec_some h).2.2
set_option maxRecDepth 100000 in
theorem specReadDegrees_neg (s : ByteArray) (w : World) (hs : s.size ≤ 1048576) (h0 : 0 < s.size) (hm : s[0] = 45) :
    Calls Tryd.prog 7 #[.string s] w fun e w' => ∃ o, e = .returned (decT o) ∧ DegOf s.data.toList o ∧ Below w.heap.size w w' := by
  have hb0 : Below w.heap.size w w := Below.refl _ _
  have hsl := size_list s
  have h1 : (0 : Int) < (s.size : Int) := by omega
  have c1 : ((s[0].toNat : Int) == 45) = true := by rw [hm]; rfl
  obtain ⟨R, hR⟩ : ∃ R, s.extract 1 s.size = R := ⟨_, rfl⟩
  have hhd : s.data.toList.head? = some 45 := by rw [List.head?_eq_getElem?, byte_at s 0 h0, hm]
  have HM : R.data.toList = magOf s.data.toList := by
    rw [← hR, extract_mkB]
    unfold magOf
    rw [if_pos hhd]
    show List.take _ _ = _
    rw [List.take_of_length_le (by rw [List.length_drop, hsl]; omega)]
  have HS : ∀ t, inB t (-99999) 99999 = true → degL t = s.data.toList → t < 0 := fun t ht h => by
    obtain ⟨Q, x, y, _, _, _, _, _, _, _, hh⟩ := deg_shape ht h
    exact hh.1 hhd
  have hRl := size_list R
  have hRs : R.size ≤ 1048576 := by
    have : (magOf s.data.toList).length ≤ s.data.toList.length := mag_le _
    rw [← HM, hRl, hsl] at this
    omega
  generalize hl : s.data.toList = l at *
  have HL := Lib.hid hl
  clear hl
  clear hhd hm
  have HMl : (magOf l).length = R.size := by rw [← HM, hRl]
  by_cases h4 : R.size < 4
  · have HD := Lib.hid (leaf_of (l := l) fun t ht h => by
      obtain ⟨Q, x, y, hM, _, _, hQ, _⟩ := deg_shape ht h
      have := (shape_at hM).1
      have : 0 < Q.length := List.length_pos_iff.2 hQ
      omega)
    have h4' : (R.size : Int) < 4 := by omega
    clear HM HS HMl hRl hsl
    go_enter Tryd.func7, Tryd.ntmps7
    go_wp2
    go_ret2
    exact ⟨none, rfl, HD.out, hb0⟩
  · have h4' : ¬ (R.size : Int) < 4 := by omega
    have hi3 : R.size - 3 < R.size := Nat.sub_lt (Nat.lt_of_lt_of_le (Nat.zero_lt_succ 3) (Nat.not_lt.1 h4)) (by decide)
    have hi2 : R.size - 2 < R.size := Nat.sub_lt (Nat.lt_of_lt_of_le (Nat.zero_lt_succ 3) (Nat.not_lt.1 h4)) (by decide)
    have hi1 : R.size - 1 < R.size := Nat.sub_lt (Nat.lt_of_lt_of_le (Nat.zero_lt_succ 3) (Nat.not_lt.1 h4)) (by decide)
    obtain ⟨x3, hx3⟩ : ∃ x, R[R.size - 3]'hi3 = x := ⟨_, rfl⟩
    obtain ⟨x2, hx2⟩ : ∃ x, R[R.size - 2]'hi2 = x := ⟨_, rfl⟩
    obtain ⟨x1, hx1⟩ : ∃ x, R[R.size - 1]'hi1 = x := ⟨_, rfl⟩
    have m3 : (magOf l)[(magOf l).length - 3]? = some x3 := by rw [HMl, ← HM, byte_at R _ (by omega), hx3]
    have m2 : (magOf l)[(magOf l).length - 2]? = some x2 := by rw [HMl, ← HM, byte_at R _ (by omega), hx2]
    have m1 : (magOf l)[(magOf l).length - 1]? = some x1 := by rw [HMl, ← HM, byte_at R _ (by omega), hx1]
    have HSH : ∀ t, inB t (-99999) 99999 = true → degL t = l → x3 = 46 ∧ isDg x2 = true ∧ isDg x1 = true ∧ readDec ((magOf l).take ((magOf l).length - 3)) = some (absI t / 100) ∧ (x2.toNat : Int) = 48 + absI t / 10 % 10 ∧ (x1.toNat : Int) = 48 + absI t % 10 := fun t ht h => by
      obtain ⟨Q, x, y, hM, hx, hy, _, hq, ex, ey, _⟩ := deg_shape ht h
      obtain ⟨_, k3, k2, k1, k0⟩ := shape_at hM
      rw [k3] at m3
      rw [k2] at m2
      rw [k1] at m1
      obtain ⟨rfl⟩ := m3
      obtain ⟨rfl⟩ := m2
      obtain ⟨rfl⟩ := m1
      exact ⟨rfl, hx, hy, by rw [k0]; exact hq, ex, ey⟩
    have HT : (R.extract 0 (R.size - 3)).data.toList = (magOf l).take ((magOf l).length - 3) := by
      rw [extract_mkB, HMl, ← HM]
      show List.take _ (List.drop 0 _) = _
      rw [List.drop_zero, Nat.sub_zero]
    have HT' := Lib.hid HT
    have HSH' := Lib.hid HSH
    have HS' := Lib.hid HS
    clear m1 m2 m3 HMl HM hRl hsl HT HSH HS
    by_cases e3 : x3 = 46
    · have c3 : ((x3.toNat : Int) == 46) = true := by rw [e3]; rfl
      have c3n : ((x3.toNat : Int) != 46) = false := by simp [bne, c3]
      by_cases d2 : inB (x2.toNat : Int) 48 57 = true
      · by_cases d1 : inB (x1.toNat : Int) 48 57 = true
        · skip
          go_enter Tryd.func7, Tryd.ntmps7
          go_wp2_with ((go_at_call 14; refine (l01Digit_any _ _).mono ?_; rintro e w' ⟨rfl, rfl⟩))
          refine (l01Number_ex (R.extract 0 (R.size - 3)) _ (by rw [ByteArray.size_extract]; unfold maxLen; omega)).mono ?_
          rintro e w' ⟨o, ho, rfl, rfl⟩
          rw [HT'.out] at ho
          cases o with
          | none =>
            have HD := Lib.hid (leaf_of (l := l) fun t ht h => by have := (HSH'.out t ht h).2.2.2.1; rw [← ho] at this; cases this)
            clear ho
            go_wp2
            go_ret2
            exact ⟨none, rfl, HD.out, hb0⟩
          | some full =>
            have hfb := readDec_bd ho.symm
            have HFQ := Lib.hid (fun t (ht : inB t (-99999) 99999 = true) (h : degL t = l) => show full = absI t / 100 by have := (HSH'.out t ht h).2.2.2.1; rw [← ho] at this; exact Option.some.inj this)
            clear ho
            simp only [Option.getD_some, Option.isSome_some]
            by_cases hneg : full < 0
            · have HD := Lib.hid (leaf_of (l := l) fun t ht h => by have := HFQ.out t ht h; have := absI_nn0 t; omega)
              go_wp2
              go_ret2
              exact ⟨none, rfl, HD.out, hb0⟩
            · have b2 := inB_iff.1 d2
              have b1 := inB_iff.1 d1
              by_cases hf : full ≤ 1000
              · go_wp2_with fail
                go_quiet (fail)
                go_wp2_with fail
                refine (told_ex _ _).mono ?_
                rintro e w' ⟨T, hT, rfl, rfl⟩
                rw [← hT]
                have HU := Lib.hid (fun t (ht : inB t (-99999) 99999 = true) (h : degL t = l) => show T = t by
                  have k1 := HFQ.out t ht h
                  have k2 := (HSH'.out t ht h).2.2.2.2
                  have k3 := HS'.out t ht h
                  have k4 : absI t = -t := if_pos k3
                  omega)
                by_cases hi : inB T (-99999) 99999 = true
                · rw [hi]
                  have hbT := inB_iff.1 hi
                  clear hT
                  go_wp2_with fail
                  refine (l02Text_any T _ hbT.1 hbT.2).mono ?_
                  rintro e w2 ⟨rfl, hb2⟩
                  have hb3 := bnext (below_drewN hb0 _) hb2
                  by_cases he : degL T = l
                  · have hx : mkB (degL T) = s := by rw [he, ← HL.out]; exact ByteArray.ext rfl
                    have HD : Hid (DegOf l (some T)) := Lib.hid ⟨fun t e => by obtain ⟨rfl⟩ := e; exact ⟨hi, he⟩, fun e => by cases e⟩
                    rw [hx]
                    clear hx he
                    go_wp2
                    go_ret2
                    exact ⟨some T, rfl, HD.out, hb3⟩
                  · have HD := Lib.hid (leaf_of (l := l) fun t ht h => he (by rw [HU.out t ht h]; exact h))
                    have hx : mkB (degL T) ≠ s := fun h => he (by rw [← HL.out, ← h]; rfl)
                    generalize mkB (degL T) = q at *
                    have hx2 : (q.toList == s.toList) = false := by
                      rw [beq_eq_false_iff_ne]
                      intro h
                      exact hx (by apply ByteArray.ext; rw [← Array.toList_inj]; rw [ByteArray.toList_eq, ByteArray.toList_eq] at h; exact h)
                    clear he
                    go_wp2
                    go_ret2
                    exact ⟨none, rfl, HD.out, hb3⟩
                · have HD := Lib.hid (leaf_of (l := l) fun t ht h => hi (by rw [HU.out t ht h]; exact ht))
                  have hi : inB T (-99999) 99999 = false := by simpa using hi
                  rw [hi]
                  clear hT
                  go_wp2
                  go_ret2
                  exact ⟨none, rfl, HD.out, below_drewN hb0 _⟩
              · go_wp2_with fail
                go_quiet (fail)
                go_wp2_with fail
                refine (told_ex _ _).mono ?_
                rintro e w' ⟨T, hT, rfl, rfl⟩
                rw [← hT]
                have HU := Lib.hid (fun t (ht : inB t (-99999) 99999 = true) (h : degL t = l) => show T = t by
                  have k1 := HFQ.out t ht h
                  have k2 := inB_iff.1 ht
                  have k3 := absI_bd t 99999 k2.1 k2.2
                  omega)
                by_cases hi : inB T (-99999) 99999 = true
                · rw [hi]
                  have hbT := inB_iff.1 hi
                  clear hT
                  go_wp2_with fail
                  refine (l02Text_any T _ hbT.1 hbT.2).mono ?_
                  rintro e w2 ⟨rfl, hb2⟩
                  have hb3 := bnext (below_drewN hb0 _) hb2
                  by_cases he : degL T = l
                  · have hx : mkB (degL T) = s := by rw [he, ← HL.out]; exact ByteArray.ext rfl
                    have HD : Hid (DegOf l (some T)) := Lib.hid ⟨fun t e => by obtain ⟨rfl⟩ := e; exact ⟨hi, he⟩, fun e => by cases e⟩
                    rw [hx]
                    clear hx he
                    go_wp2
                    go_ret2
                    exact ⟨some T, rfl, HD.out, hb3⟩
                  · have HD := Lib.hid (leaf_of (l := l) fun t ht h => he (by rw [HU.out t ht h]; exact h))
                    have hx : mkB (degL T) ≠ s := fun h => he (by rw [← HL.out, ← h]; rfl)
                    generalize mkB (degL T) = q at *
                    have hx2 : (q.toList == s.toList) = false := by
                      rw [beq_eq_false_iff_ne]
                      intro h
                      exact hx (by apply ByteArray.ext; rw [← Array.toList_inj]; rw [ByteArray.toList_eq, ByteArray.toList_eq] at h; exact h)
                    clear he
                    go_wp2
                    go_ret2
                    exact ⟨none, rfl, HD.out, hb3⟩
                · have HD := Lib.hid (leaf_of (l := l) fun t ht h => hi (by rw [HU.out t ht h]; exact ht))
                  have hi : inB T (-99999) 99999 = false := by simpa using hi
                  rw [hi]
                  clear hT
                  go_wp2
                  go_ret2
                  exact ⟨none, rfl, HD.out, below_drewN hb0 _⟩
        · have HD := Lib.hid (leaf_of (l := l) fun t ht h => d1 (by have := (HSH'.out t ht h).2.2.1; unfold isDg at this; exact inB_true (by have := of_decide_eq_true this; omega)))
          have d1 : inB (x1.toNat : Int) 48 57 = false := by simpa using d1
          go_enter Tryd.func7, Tryd.ntmps7
          go_wp2_with ((go_at_call 14; refine (l01Digit_any _ _).mono ?_; rintro e w' ⟨rfl, rfl⟩))
          go_ret2
          exact ⟨none, rfl, HD.out, hb0⟩
      · have HD := Lib.hid (leaf_of (l := l) fun t ht h => d2 (by have := (HSH'.out t ht h).2.1; unfold isDg at this; exact inB_true (by have := of_decide_eq_true this; omega)))
        have d2 : inB (x2.toNat : Int) 48 57 = false := by simpa using d2
        go_enter Tryd.func7, Tryd.ntmps7
        go_wp2_with ((go_at_call 14; refine (l01Digit_any _ _).mono ?_; rintro e w' ⟨rfl, rfl⟩))
        go_ret2
        exact ⟨none, rfl, HD.out, hb0⟩
    · have HD := Lib.hid (leaf_of (l := l) fun t ht h => e3 (HSH'.out t ht h).1)
      have c3 : ((x3.toNat : Int) == 46) = false := by
        rw [beq_eq_false_iff_ne]
        intro k
        exact e3 (UInt8.toNat_inj.1 (by have e2 : (46 : UInt8).toNat = 46 := rfl; omega))
      have c3n : ((x3.toNat : Int) != 46) = true := by simp [bne, c3]
      go_enter Tryd.func7, Tryd.ntmps7
      go_wp2
      go_ret2
      exact ⟨none, rfl, HD.out, hb0⟩
set_option maxRecDepth 100000 in
theorem specReadDegrees_pos (s : ByteArray) (w : World) (hs : s.size ≤ 1048576) (hm : ∀ h0 : 0 < s.size, s[0] ≠ 45) :
    Calls Tryd.prog 7 #[.string s] w fun e w' => ∃ o, e = .returned (decT o) ∧ DegOf s.data.toList o ∧ Below w.heap.size w w' := by
  have hb0 : Below w.heap.size w w := Below.refl _ _
  have hsl := size_list s
  have hc1 : ∀ h0 : 0 < s.size, ((s[0].toNat : Int) == 45) = false := fun h0 => by
    rw [beq_eq_false_iff_ne]
    intro e
    exact hm h0 (UInt8.toNat_inj.1 (by have e2 : (45 : UInt8).toNat = 45 := rfl; omega))
  have hhd : s.data.toList.head? ≠ some 45 := by
    intro e
    by_cases h0 : 0 < s.size
    · rw [List.head?_eq_getElem?, byte_at s 0 h0] at e
      exact hm h0 (by simpa using e)
    · have : s.data.toList = [] := List.length_eq_zero_iff.1 (by omega)
      rw [this] at e
      cases e
  have HM : s.data.toList = magOf s.data.toList := by
    unfold magOf
    rw [if_neg hhd]
  have HS : ∀ t, inB t (-99999) 99999 = true → degL t = s.data.toList → 0 ≤ t := fun t ht h => by
    obtain ⟨Q, x, y, _, _, _, _, _, _, _, hh⟩ := deg_shape ht h
    exact Int.not_lt.1 fun k => hhd (hh.2 k)
  have hRl := size_list s
  have hRs := hs
  obtain ⟨l, hl⟩ : ∃ l, s.data.toList = l := ⟨_, rfl⟩
  have HM : s.data.toList = magOf l := by rw [← hl]; exact HM
  rw [hl] at HS ⊢
  have HL := Lib.hid hl
  clear hl
  clear hhd hm
  by_cases h0 : 0 < s.size
  · have h1 : (0 : Int) < (s.size : Int) := by omega
    have c1 := hc1 h0
    clear hc1
    have HMl : (magOf l).length = s.size := by rw [← HM, hRl]
    by_cases h4 : s.size < 4
    · have HD := Lib.hid (leaf_of (l := l) fun t ht h => by
        obtain ⟨Q, x, y, hM, _, _, hQ, _⟩ := deg_shape ht h
        have := (shape_at hM).1
        have : 0 < Q.length := List.length_pos_iff.2 hQ
        omega)
      have h4' : (s.size : Int) < 4 := by omega
      clear HM HS HMl hRl hsl
      go_enter Tryd.func7, Tryd.ntmps7
      go_wp2
      go_ret2
      exact ⟨none, rfl, HD.out, hb0⟩
    · have h4' : ¬ (s.size : Int) < 4 := by omega
      have hi3 : s.size - 3 < s.size := Nat.sub_lt (Nat.lt_of_lt_of_le (Nat.zero_lt_succ 3) (Nat.not_lt.1 h4)) (by decide)
      have hi2 : s.size - 2 < s.size := Nat.sub_lt (Nat.lt_of_lt_of_le (Nat.zero_lt_succ 3) (Nat.not_lt.1 h4)) (by decide)
      have hi1 : s.size - 1 < s.size := Nat.sub_lt (Nat.lt_of_lt_of_le (Nat.zero_lt_succ 3) (Nat.not_lt.1 h4)) (by decide)
      obtain ⟨x3, hx3⟩ : ∃ x, s[s.size - 3]'hi3 = x := ⟨_, rfl⟩
      obtain ⟨x2, hx2⟩ : ∃ x, s[s.size - 2]'hi2 = x := ⟨_, rfl⟩
      obtain ⟨x1, hx1⟩ : ∃ x, s[s.size - 1]'hi1 = x := ⟨_, rfl⟩
      have m3 : (magOf l)[(magOf l).length - 3]? = some x3 := by rw [HMl, ← HM, byte_at s _ (by omega), hx3]
      have m2 : (magOf l)[(magOf l).length - 2]? = some x2 := by rw [HMl, ← HM, byte_at s _ (by omega), hx2]
      have m1 : (magOf l)[(magOf l).length - 1]? = some x1 := by rw [HMl, ← HM, byte_at s _ (by omega), hx1]
      have HSH : ∀ t, inB t (-99999) 99999 = true → degL t = l → x3 = 46 ∧ isDg x2 = true ∧ isDg x1 = true ∧ readDec ((magOf l).take ((magOf l).length - 3)) = some (absI t / 100) ∧ (x2.toNat : Int) = 48 + absI t / 10 % 10 ∧ (x1.toNat : Int) = 48 + absI t % 10 := fun t ht h => by
        obtain ⟨Q, x, y, hM, hx, hy, _, hq, ex, ey, _⟩ := deg_shape ht h
        obtain ⟨_, k3, k2, k1, k0⟩ := shape_at hM
        rw [k3] at m3
        rw [k2] at m2
        rw [k1] at m1
        obtain ⟨rfl⟩ := m3
        obtain ⟨rfl⟩ := m2
        obtain ⟨rfl⟩ := m1
        exact ⟨rfl, hx, hy, by rw [k0]; exact hq, ex, ey⟩
      have HT : (s.extract 0 (s.size - 3)).data.toList = (magOf l).take ((magOf l).length - 3) := by
        rw [extract_mkB, HMl, ← HM]
        show List.take _ (List.drop 0 _) = _
        rw [List.drop_zero, Nat.sub_zero]
      have HT' := Lib.hid HT
      have HSH' := Lib.hid HSH
      have HS' := Lib.hid HS
      clear m1 m2 m3 HMl HM hRl hsl HT HSH HS
      by_cases e3 : x3 = 46
      · have c3 : ((x3.toNat : Int) == 46) = true := by rw [e3]; rfl
        have c3n : ((x3.toNat : Int) != 46) = false := by simp [bne, c3]
        by_cases d2 : inB (x2.toNat : Int) 48 57 = true
        · by_cases d1 : inB (x1.toNat : Int) 48 57 = true
          · skip
            go_enter Tryd.func7, Tryd.ntmps7
            go_wp2_with ((go_at_call 14; refine (l01Digit_any _ _).mono ?_; rintro e w' ⟨rfl, rfl⟩))
            refine (l01Number_ex (s.extract 0 (s.size - 3)) _ (by rw [ByteArray.size_extract]; unfold maxLen; omega)).mono ?_
            rintro e w' ⟨o, ho, rfl, rfl⟩
            rw [HT'.out] at ho
            cases o with
            | none =>
              have HD := Lib.hid (leaf_of (l := l) fun t ht h => by have := (HSH'.out t ht h).2.2.2.1; rw [← ho] at this; cases this)
              clear ho
              go_wp2
              go_ret2
              exact ⟨none, rfl, HD.out, hb0⟩
            | some full =>
              have hfb := readDec_bd ho.symm
              have HFQ := Lib.hid (fun t (ht : inB t (-99999) 99999 = true) (h : degL t = l) => show full = absI t / 100 by have := (HSH'.out t ht h).2.2.2.1; rw [← ho] at this; exact Option.some.inj this)
              clear ho
              simp only [Option.getD_some, Option.isSome_some]
              by_cases hneg : full < 0
              · have HD := Lib.hid (leaf_of (l := l) fun t ht h => by have := HFQ.out t ht h; have := absI_nn0 t; omega)
                go_wp2
                go_ret2
                exact ⟨none, rfl, HD.out, hb0⟩
              · have b2 := inB_iff.1 d2
                have b1 := inB_iff.1 d1
                by_cases hf : full ≤ 1000
                · go_wp2_with fail
                  go_quiet (fail)
                  go_wp2_with fail
                  refine (told_ex _ _).mono ?_
                  rintro e w' ⟨T, hT, rfl, rfl⟩
                  rw [← hT]
                  have HU := Lib.hid (fun t (ht : inB t (-99999) 99999 = true) (h : degL t = l) => show T = t by
                    have k1 := HFQ.out t ht h
                    have k2 := (HSH'.out t ht h).2.2.2.2
                    have k3 := HS'.out t ht h
                    have k4 : absI t = t := if_neg (by omega)
                    omega)
                  by_cases hi : inB T (-99999) 99999 = true
                  · rw [hi]
                    have hbT := inB_iff.1 hi
                    clear hT
                    go_wp2_with fail
                    refine (l02Text_any T _ hbT.1 hbT.2).mono ?_
                    rintro e w2 ⟨rfl, hb2⟩
                    have hb3 := bnext (below_drewN hb0 _) hb2
                    by_cases he : degL T = l
                    · have hx : mkB (degL T) = s := by rw [he, ← HL.out]; exact ByteArray.ext rfl
                      have HD : Hid (DegOf l (some T)) := Lib.hid ⟨fun t e => by obtain ⟨rfl⟩ := e; exact ⟨hi, he⟩, fun e => by cases e⟩
                      rw [hx]
                      clear hx he
                      go_wp2
                      go_ret2
                      exact ⟨some T, rfl, HD.out, hb3⟩
                    · have HD := Lib.hid (leaf_of (l := l) fun t ht h => he (by rw [HU.out t ht h]; exact h))
                      have hx : mkB (degL T) ≠ s := fun h => he (by rw [← HL.out, ← h]; rfl)
                      generalize mkB (degL T) = q at *
                      have hx2 : (q.toList == s.toList) = false := by
                        rw [beq_eq_false_iff_ne]
                        intro h
                        exact hx (by apply ByteArray.ext; rw [← Array.toList_inj]; rw [ByteArray.toList_eq, ByteArray.toList_eq] at h; exact h)
                      clear he
                      go_wp2
                      go_ret2
                      exact ⟨none, rfl, HD.out, hb3⟩
                  · have HD := Lib.hid (leaf_of (l := l) fun t ht h => hi (by rw [HU.out t ht h]; exact ht))
                    have hi : inB T (-99999) 99999 = false := by simpa using hi
                    rw [hi]
                    clear hT
                    go_wp2
                    go_ret2
                    exact ⟨none, rfl, HD.out, below_drewN hb0 _⟩
                · go_wp2_with fail
                  go_quiet (fail)
                  go_wp2_with fail
                  refine (told_ex _ _).mono ?_
                  rintro e w' ⟨T, hT, rfl, rfl⟩
                  rw [← hT]
                  have HU := Lib.hid (fun t (ht : inB t (-99999) 99999 = true) (h : degL t = l) => show T = t by
                    have k1 := HFQ.out t ht h
                    have k2 := inB_iff.1 ht
                    have k3 := absI_bd t 99999 k2.1 k2.2
                    omega)
                  by_cases hi : inB T (-99999) 99999 = true
                  · rw [hi]
                    have hbT := inB_iff.1 hi
                    clear hT
                    go_wp2_with fail
                    refine (l02Text_any T _ hbT.1 hbT.2).mono ?_
                    rintro e w2 ⟨rfl, hb2⟩
                    have hb3 := bnext (below_drewN hb0 _) hb2
                    by_cases he : degL T = l
                    · have hx : mkB (degL T) = s := by rw [he, ← HL.out]; exact ByteArray.ext rfl
                      have HD : Hid (DegOf l (some T)) := Lib.hid ⟨fun t e => by obtain ⟨rfl⟩ := e; exact ⟨hi, he⟩, fun e => by cases e⟩
                      rw [hx]
                      clear hx he
                      go_wp2
                      go_ret2
                      exact ⟨some T, rfl, HD.out, hb3⟩
                    · have HD := Lib.hid (leaf_of (l := l) fun t ht h => he (by rw [HU.out t ht h]; exact h))
                      have hx : mkB (degL T) ≠ s := fun h => he (by rw [← HL.out, ← h]; rfl)
                      generalize mkB (degL T) = q at *
                      have hx2 : (q.toList == s.toList) = false := by
                        rw [beq_eq_false_iff_ne]
                        intro h
                        exact hx (by apply ByteArray.ext; rw [← Array.toList_inj]; rw [ByteArray.toList_eq, ByteArray.toList_eq] at h; exact h)
                      clear he
                      go_wp2
                      go_ret2
                      exact ⟨none, rfl, HD.out, hb3⟩
                  · have HD := Lib.hid (leaf_of (l := l) fun t ht h => hi (by rw [HU.out t ht h]; exact ht))
                    have hi : inB T (-99999) 99999 = false := by simpa using hi
                    rw [hi]
                    clear hT
                    go_wp2
                    go_ret2
                    exact ⟨none, rfl, HD.out, below_drewN hb0 _⟩
          · have HD := Lib.hid (leaf_of (l := l) fun t ht h => d1 (by have := (HSH'.out t ht h).2.2.1; unfold isDg at this; exact inB_true (by have := of_decide_eq_true this; omega)))
            have d1 : inB (x1.toNat : Int) 48 57 = false := by simpa using d1
            go_enter Tryd.func7, Tryd.ntmps7
            go_wp2_with ((go_at_call 14; refine (l01Digit_any _ _).mono ?_; rintro e w' ⟨rfl, rfl⟩))
            go_ret2
            exact ⟨none, rfl, HD.out, hb0⟩
        · have HD := Lib.hid (leaf_of (l := l) fun t ht h => d2 (by have := (HSH'.out t ht h).2.1; unfold isDg at this; exact inB_true (by have := of_decide_eq_true this; omega)))
          have d2 : inB (x2.toNat : Int) 48 57 = false := by simpa using d2
          go_enter Tryd.func7, Tryd.ntmps7
          go_wp2_with ((go_at_call 14; refine (l01Digit_any _ _).mono ?_; rintro e w' ⟨rfl, rfl⟩))
          go_ret2
          exact ⟨none, rfl, HD.out, hb0⟩
      · have HD := Lib.hid (leaf_of (l := l) fun t ht h => e3 (HSH'.out t ht h).1)
        have c3 : ((x3.toNat : Int) == 46) = false := by
          rw [beq_eq_false_iff_ne]
          intro k
          exact e3 (UInt8.toNat_inj.1 (by have e2 : (46 : UInt8).toNat = 46 := rfl; omega))
        have c3n : ((x3.toNat : Int) != 46) = true := by simp [bne, c3]
        go_enter Tryd.func7, Tryd.ntmps7
        go_wp2
        go_ret2
        exact ⟨none, rfl, HD.out, hb0⟩
  · have HD := Lib.hid (leaf_of (l := l) fun t ht h => by
      obtain ⟨Q, x, y, hM, _, _, hQ, _⟩ := deg_shape ht h
      have := (shape_at hM).1
      have h2 : s.data.toList.length = (magOf l).length := by rw [HM]
      omega)
    have h1 : ¬ (0 : Int) < (s.size : Int) := by omega
    have h2 : (s.size : Int) < 4 := by omega
    clear HM HS hRl hsl hc1
    go_enter Tryd.func7, Tryd.ntmps7
    go_wp2
    go_ret2
    exact ⟨none, rfl, HD.out, hb0⟩
theorem specReadDegrees_any (s : ByteArray) (w : World) (hs : s.size ≤ 1048576) :
    Calls Tryd.prog 7 #[.string s] w fun e w' => ∃ o, e = .returned (decT o) ∧ DegOf s.data.toList o ∧ Below w.heap.size w w' := by
  by_cases h : ∃ h0 : 0 < s.size, s[0] = 45
  · obtain ⟨h0, hm⟩ := h
    exact specReadDegrees_neg s w hs h0 hm
  · exact specReadDegrees_pos s w hs fun h0 hm => h ⟨h0, hm⟩

end Go.Proofs.YtjabcoanpinpiabDoor
