/-
  ReadDecimal of the program and of the model.
-/
import Derived.Test.YtkbkmpcdidhagacDoorD1
import Derived.Test.YtkbkmpcdidhagacDoorD2
import Derived.Test.YtkbkmpcdidhagacDoorB1
namespace Go.Proofs.YtkbkmpcdidhagacDoor
open Go.ChangeShapes Go.WideShapes Go.ChangeAt Go.RowKit

/-- a number that is read, or none, as two results -/
def decT (o : Option Int) : Value := .tuple #[.int .i64 (o.getD 0), .bool o.isSome]
theorem readDec_bad {l : List UInt8} (h : badNum l = true) : readDec l = none := by unfold readDec; rw [if_pos h]

theorem bad_empty {l : List UInt8} (h : magOf l = []) : badNum l = true := by unfold badNum; simp [h]
theorem bad_long {l : List UInt8} (h : 18 < (magOf l).length) : badNum l = true := by unfold badNum; simp [h]
theorem bad_zero {l : List UInt8} (h : (magOf l).head? = some 48) (h1 : 1 < l.length) : badNum l = true := by unfold badNum; simp [h, h1]
theorem bad_digit {l : List UInt8} (h : (magOf l).all isDg = false) : badNum l = true := by unfold badNum; rw [h]; simp
theorem good_num {l : List UInt8} (h1 : magOf l ≠ []) (h2 : (magOf l).length ≤ 18) (h3 : ¬ ((magOf l).head? = some 48 ∧ 1 < l.length)) (h4 : (magOf l).all isDg = true) : badNum l = false := by
  unfold badNum
  simp only [Bool.or_eq_false_iff, decide_eq_false_iff_not, Bool.and_eq_false_iff, Bool.not_eq_false']
  refine ⟨⟨⟨h1, by omega⟩, ?_⟩, h4⟩
  by_cases h : (magOf l).head? = some 48
  · exact .inr (fun h5 => h3 ⟨h, h5⟩)
  · exact .inl h

set_option maxRecDepth 100000 in
set_option maxHeartbeats 1600000 in
theorem l01Number_pos (s : ByteArray) (w : World) (hs : s.size ≤ maxLen) (h0 : 0 < s.size) (hm : s[0] ≠ 45) :
    Calls Tryd.prog 41 #[.string s] w fun e w' => e = .returned (decT (readDec s.data.toList)) ∧ w = w' := by
  have hms : s.size ≤ 9223372036854775807 := by unfold maxLen at hs; omega
  have hl := size_list s
  have hhd : s.data.toList.head? = some s[0] := by
    rw [getE_list s 0 h0, List.head?_eq_getElem?, List.getElem?_eq_getElem (by omega)]
  have hmag : magOf s.data.toList = s.data.toList := by
    unfold magOf; rw [hhd, if_neg (by simpa using hm)]
  have c1 : ((s[0].toNat : Int) == 45) = false := by
    rw [beq_eq_false_iff_ne]
    intro h
    exact hm (UInt8.toNat_inj.1 (by have e : (45 : UInt8).toNat = 45 := rfl; omega))
  have c2 : ((s.size : Int) == 0) = false := by rw [beq_eq_false_iff_ne]; omega
  by_cases h18 : 18 < s.size
  · have Hr := Lib.hid (readDec_bad (bad_long (l := s.data.toList) (by rw [hmag, hl]; exact h18)))
    clear hhd hmag hl hm
    go_enter Tryd.func41, Tryd.ntmps41
    go_wp2
    go_ret2
    exact ⟨by rw [Hr.out]; rfl, rfl⟩
  · by_cases hz : s[0] = 48 ∧ 1 < s.size
    · have Hr := Lib.hid (readDec_bad (bad_zero (l := s.data.toList) (by rw [hmag, hhd, hz.1]) (by rw [hl]; exact hz.2)))
      have c3 : ((s[0].toNat : Int) == 48) = true := by rw [hz.1]; rfl
      have hz2 : (1 : Int) < (s.size : Int) := by omega
      clear hhd hmag hl hm hz
      go_enter Tryd.func41, Tryd.ntmps41
      go_wp2
      go_ret2
      exact ⟨by rw [Hr.out]; rfl, rfl⟩
    · obtain ⟨R, hR⟩ : ∃ R, R = s.data.toList := ⟨_, rfl⟩
      have HR : ∀ K (h1 : 0 ≤ K) (h : K < R.length) (h2 : K < s.size), s[K] = R[K] := fun k h1 h h2 => by subst hR; rfl
      have HB : R.all isDg = false → badNum s.data.toList = true := fun h => bad_digit (by rw [hmag, ← hR]; exact h)
      have HG : R.all isDg = true → readDec s.data.toList = some (numVal R : Int) := fun h => by
        unfold readDec
        rw [good_num (l := s.data.toList) (by rw [hmag]; intro e; rw [e] at hl; simp at hl; omega) (by rw [hmag, hl]; omega) (by rw [hmag, hhd, hl]; intro h; exact hz ⟨by simpa using h.1, h.2⟩) (by rw [hmag, ← hR]; exact h)]
        simp only [Bool.false_eq_true, if_false]
        rw [hhd, if_neg (by simpa using hm), hmag, ← hR]
      have hRl : R.length = s.size := by rw [hR]; exact hl
      have c3 : ((s[0].toNat : Int) == 48 && decide ((1 : Int) < (s.size : Int))) = false := by
        rw [Bool.and_eq_false_iff]
        by_cases h1 : 1 < s.size
        · left
          rw [beq_eq_false_iff_ne]
          intro h
          exact hz ⟨UInt8.toNat_inj.1 (by have e : (48 : UInt8).toNat = 48 := rfl; omega), h1⟩
        · right; exact decide_eq_false (by omega)
      have HR' := Lib.hid HR
      have HB' := Lib.hid HB
      have HG' := Lib.hid HG
      have HL1 : Hid (R.length ≤ s.size) := Lib.hid (by omega)
      have HL2 : Hid (s.size ≤ R.length) := Lib.hid (by omega)
      have HL3 : Hid (R.length ≤ 18) := Lib.hid (by omega)
      clear HR HB HG hRl hR hhd hmag hl hm hz
      by_cases hz1 : ((s[0].toNat : Int) == 48) = true
      · have hz2 : ¬ (1 : Int) < (s.size : Int) := by
          intro h
          rw [hz1, decide_eq_true h] at c3
          cases c3
        clear c3
        go_enter Tryd.func41, Tryd.ntmps41
        go_wp2
        go_loop [5, 6] (fun n i => ∃ K v : Nat, 0 ≤ K ∧ K ≤ s.size ∧ i = .int .i64 (K : Int) ∧ n = .int .i64 (v : Int) ∧ Hid (v = numVal (R.take K)) ∧ Hid ((R.take K).all isDg = true) ∧ (v : Int) < 1000000000000000000) (fun _ i => s.size - (intOf i).toNat)
        case atStart => exact ⟨0, 0, Nat.le_refl _, by omega, rfl, rfl, Lib.hid rfl, Lib.hid rfl, by omega⟩
        case round =>
          obtain ⟨K, v, hK1, hK, rfl, rfl, Hv, Hall, hv18⟩ := hrel
          by_cases hks : K < s.size
          · have hlt : K < R.length := by have := HL1.out; have := HL2.out; omega
            have hts := all_take_succ isDg R K hlt
            have hfs := all_false_at isDg R K hlt
            have hrk := HR'.out K hK1 hlt hks
            have hvs : numVal (R.take (K + 1)) = 10 * numVal (R.take K) + (R[K].toNat - 48) := by
              rw [List.take_succ_eq_append_getElem hlt, numVal_snoc]
            have hvl : (R.take K).all isDg = true → numVal (R.take K) < 10 ^ K := fun h => by
              have := numVal_lt _ h
              rwa [List.length_take, Nat.min_eq_left (Nat.le_of_lt hlt)] at this
            have hv17 := hvl Hall.out
            have hpw : 10 ^ K ≤ 10 ^ 17 := Nat.pow_le_pow_right (by omega) (by have := HL1.out; have := HL3.out; omega)
            have hvb : (v : Int) < 100000000000000000 := by have := Hv.out; omega
            have em : K + 1 = K + 1 := by omega
            rw [← hrk] at hts hfs hvs
            rw [em] at hts hvs
            have Hts := Lib.hid hts
            have Hfs := Lib.hid hfs
            have Hvs := Lib.hid hvs
            clear hts hfs hvs hvl hv17 hpw hrk em hlt
            by_cases hd : 48 ≤ s[K].toNat ∧ s[K].toNat ≤ 57
            · have hin : inB (s[K].toNat : Int) 48 57 = true := inB_true (by omega)
              have hdg : Hid (isDg s[K] = true) := Lib.hid (by simp [isDg]; omega)
              have hd1 : (48 : Int) ≤ (s[K].toNat : Int) := by omega
              have hd2 : (s[K].toNat : Int) ≤ 57 := by omega
              have hsub : Hid (IntKind.u8.wrap ((s[K].toNat : Int) - 48) = (s[K].toNat : Int) - 48) := Lib.hid (by rw [IntKind.wrap_u8]; omega)
              clear hd
              go_wp2_with (go_at_call 51; refine (l01Digit_any _ _).mono ?_; rintro e w' ⟨rfl, rfl⟩)
              go_round
              case rel =>
                refine ⟨K + 1, 10 * v + (s[K].toNat - 48), by omega, by omega, by go_num, ?_, Lib.hid (by rw [Hvs.out, ← Hv.out]), Lib.hid (by rw [Hts.out, Hall.out, hdg.out]; rfl), by omega⟩
                first | (congr 1; omega) | (rw [hsub.out]; congr 1; omega)
              case measure => simp [intOf]; omega
            · have hin : inB (s[K].toNat : Int) 48 57 = false := inB_false (by omega)
              have hdg : Hid (isDg s[K] = false) := Lib.hid (by simp [isDg]; omega)
              clear hd
              go_wp2_with (go_at_call 51; refine (l01Digit_any _ _).mono ?_; rintro e w' ⟨rfl, rfl⟩)
              go_ret2
              exact ⟨by rw [(readDec_bad (HB'.out (Hfs.out hdg.out)) : readDec s.data.toList = none)]; rfl, rfl⟩
          · have e : K = R.length := by have := HL1.out; have := HL2.out; omega
            have ha : R.all isDg = true := by
              have := Hall.out
              rwa [e, List.take_length] at this
            have hvv : v = numVal R := by
              have := Hv.out
              rwa [e, List.take_length] at this
            have Hok := Lib.hid (HG'.out ha)
            rw [← hvv] at Hok
            clear ha hvv e
            go_wp2
            go_ret2
            exact ⟨by rw [Hok.out]; rfl, rfl⟩
      · have hz2 : ((s[0].toNat : Int) == 48) = false := by simpa using hz1
        clear c3 hz1
        go_enter Tryd.func41, Tryd.ntmps41
        go_wp2
        go_loop [5, 6] (fun n i => ∃ K v : Nat, 0 ≤ K ∧ K ≤ s.size ∧ i = .int .i64 (K : Int) ∧ n = .int .i64 (v : Int) ∧ Hid (v = numVal (R.take K)) ∧ Hid ((R.take K).all isDg = true) ∧ (v : Int) < 1000000000000000000) (fun _ i => s.size - (intOf i).toNat)
        case atStart => exact ⟨0, 0, Nat.le_refl _, by omega, rfl, rfl, Lib.hid rfl, Lib.hid rfl, by omega⟩
        case round =>
          obtain ⟨K, v, hK1, hK, rfl, rfl, Hv, Hall, hv18⟩ := hrel
          by_cases hks : K < s.size
          · have hlt : K < R.length := by have := HL1.out; have := HL2.out; omega
            have hts := all_take_succ isDg R K hlt
            have hfs := all_false_at isDg R K hlt
            have hrk := HR'.out K hK1 hlt hks
            have hvs : numVal (R.take (K + 1)) = 10 * numVal (R.take K) + (R[K].toNat - 48) := by
              rw [List.take_succ_eq_append_getElem hlt, numVal_snoc]
            have hvl : (R.take K).all isDg = true → numVal (R.take K) < 10 ^ K := fun h => by
              have := numVal_lt _ h
              rwa [List.length_take, Nat.min_eq_left (Nat.le_of_lt hlt)] at this
            have hv17 := hvl Hall.out
            have hpw : 10 ^ K ≤ 10 ^ 17 := Nat.pow_le_pow_right (by omega) (by have := HL1.out; have := HL3.out; omega)
            have hvb : (v : Int) < 100000000000000000 := by have := Hv.out; omega
            have em : K + 1 = K + 1 := by omega
            rw [← hrk] at hts hfs hvs
            rw [em] at hts hvs
            have Hts := Lib.hid hts
            have Hfs := Lib.hid hfs
            have Hvs := Lib.hid hvs
            clear hts hfs hvs hvl hv17 hpw hrk em hlt
            by_cases hd : 48 ≤ s[K].toNat ∧ s[K].toNat ≤ 57
            · have hin : inB (s[K].toNat : Int) 48 57 = true := inB_true (by omega)
              have hdg : Hid (isDg s[K] = true) := Lib.hid (by simp [isDg]; omega)
              have hd1 : (48 : Int) ≤ (s[K].toNat : Int) := by omega
              have hd2 : (s[K].toNat : Int) ≤ 57 := by omega
              have hsub : Hid (IntKind.u8.wrap ((s[K].toNat : Int) - 48) = (s[K].toNat : Int) - 48) := Lib.hid (by rw [IntKind.wrap_u8]; omega)
              clear hd
              go_wp2_with (go_at_call 51; refine (l01Digit_any _ _).mono ?_; rintro e w' ⟨rfl, rfl⟩)
              go_round
              case rel =>
                refine ⟨K + 1, 10 * v + (s[K].toNat - 48), by omega, by omega, by go_num, ?_, Lib.hid (by rw [Hvs.out, ← Hv.out]), Lib.hid (by rw [Hts.out, Hall.out, hdg.out]; rfl), by omega⟩
                first | (congr 1; omega) | (rw [hsub.out]; congr 1; omega)
              case measure => simp [intOf]; omega
            · have hin : inB (s[K].toNat : Int) 48 57 = false := inB_false (by omega)
              have hdg : Hid (isDg s[K] = false) := Lib.hid (by simp [isDg]; omega)
              clear hd
              go_wp2_with (go_at_call 51; refine (l01Digit_any _ _).mono ?_; rintro e w' ⟨rfl, rfl⟩)
              go_ret2
              exact ⟨by rw [(readDec_bad (HB'.out (Hfs.out hdg.out)) : readDec s.data.toList = none)]; rfl, rfl⟩
          · have e : K = R.length := by have := HL1.out; have := HL2.out; omega
            have ha : R.all isDg = true := by
              have := Hall.out
              rwa [e, List.take_length] at this
            have hvv : v = numVal R := by
              have := Hv.out
              rwa [e, List.take_length] at this
            have Hok := Lib.hid (HG'.out ha)
            rw [← hvv] at Hok
            clear ha hvv e
            go_wp2
            go_ret2
            exact ⟨by rw [Hok.out]; rfl, rfl⟩

set_option maxRecDepth 100000 in
set_option maxHeartbeats 1600000 in
theorem l01Number_neg (s : ByteArray) (w : World) (hs : s.size ≤ maxLen) (h0 : 0 < s.size) (hm : s[0] = 45) :
    Calls Tryd.prog 41 #[.string s] w fun e w' => e = .returned (decT (readDec s.data.toList)) ∧ w = w' := by
  have hms : s.size ≤ 9223372036854775807 := by unfold maxLen at hs; omega
  have hl := size_list s
  have hhd : s.data.toList.head? = some 45 := by
    rw [← hm, getE_list s 0 h0, List.head?_eq_getElem?, List.getElem?_eq_getElem (by omega)]
  have hmag : magOf s.data.toList = s.data.toList.drop 1 := by
    unfold magOf; rw [hhd, if_pos rfl]
  have c1 : ((s[0].toNat : Int) == 45) = true := by rw [hm]; rfl
  have hdl : (s.data.toList.drop 1).length = s.size - 1 := by rw [List.length_drop, hl]
  by_cases h1 : s.size = 1
  · have Hr := Lib.hid (readDec_bad (bad_empty (l := s.data.toList) (by rw [hmag]; exact List.length_eq_zero_iff.1 (by omega))))
    have c2 : ((s.size : Int) == 1) = true := by rw [beq_iff_eq]; omega
    have Hm := Lib.hid hm
    have H1 := Lib.hid h1
    clear hhd hmag hl hm hdl h1
    go_enter Tryd.func41, Tryd.ntmps41
    go_wp2
    go_ret2
    exact ⟨by rw [Hr.out]; rfl, rfl⟩
  · have c2 : ((s.size : Int) == 1) = false := by rw [beq_eq_false_iff_ne]; omega
    have h2 : 1 < s.size := by omega
    have h2i : (1 : Int) < (s.size : Int) := by omega
    by_cases h18 : 19 < s.size
    · have Hr := Lib.hid (readDec_bad (bad_long (l := s.data.toList) (by rw [hmag, hdl]; omega)))
      have h18i : (18 : Int) < (s.size : Int) - 1 := by omega
      have Hm := Lib.hid hm
      clear hhd hmag hl hm hdl h1
      go_enter Tryd.func41, Tryd.ntmps41
      go_wp2
      go_ret2
      exact ⟨by rw [Hr.out]; rfl, rfl⟩
    · have h18i : ¬ (18 : Int) < (s.size : Int) - 1 := by omega
      have hh1 : (s.data.toList.drop 1).head? = some s[1] := by
        rw [List.head?_eq_getElem?, List.getElem?_drop, List.getElem?_eq_getElem (by omega)]; rfl
      by_cases hz : s[1] = 48
      · have Hr := Lib.hid (readDec_bad (bad_zero (l := s.data.toList) (by rw [hmag, hh1, hz]) (by rw [hl]; exact h2)))
        have c3 : ((s[1].toNat : Int) == 48) = true := by rw [hz]; rfl
        have Hm := Lib.hid hm
        clear hhd hmag hl hm hdl h1 hh1 hz
        go_enter Tryd.func41, Tryd.ntmps41
        go_wp2
        go_ret2
        exact ⟨by rw [Hr.out]; rfl, rfl⟩
      · have c3 : ((s[1].toNat : Int) == 48) = false := by
          rw [beq_eq_false_iff_ne]
          intro h
          exact hz (UInt8.toNat_inj.1 (by have e : (48 : UInt8).toNat = 48 := rfl; omega))
        obtain ⟨R, hR⟩ : ∃ R, R = s.data.toList.drop 1 := ⟨_, rfl⟩
        have HR : ∀ K (h1 : 1 ≤ K) (h : K - 1 < R.length) (h2 : K < s.size), s[K] = R[K - 1] := fun k h1 h h2 => by
          subst hR
          rw [getE_list s k h2, List.getElem_drop]
          congr 1
          omega
        have HB : R.all isDg = false → badNum s.data.toList = true := fun h => bad_digit (by rw [hmag, ← hR]; exact h)
        have HG : R.all isDg = true → readDec s.data.toList = some (-(numVal R : Int)) := fun h => by
          unfold readDec
          rw [good_num (l := s.data.toList) (by rw [hmag]; intro e; rw [e] at hdl; simp at hdl; omega) (by rw [hmag, hdl]; omega) (by rw [hmag, hh1, hl]; intro h; exact hz (by simpa using h.1)) (by rw [hmag, ← hR]; exact h)]
          simp only [Bool.false_eq_true, if_false]
          rw [hhd, if_pos rfl, hmag, ← hR]
        have hRl : R.length = s.size - 1 := by rw [hR]; exact hdl
        have HR' := Lib.hid HR
        have HB' := Lib.hid HB
        have HG' := Lib.hid HG
        have HL1 : Hid (R.length + 1 ≤ s.size) := Lib.hid (by omega)
        have HL2 : Hid (s.size ≤ R.length + 1) := Lib.hid (by omega)
        have HL3 : Hid (R.length ≤ 18) := Lib.hid (by omega)
        have Hm := Lib.hid hm
        clear HR HB HG hRl hR hhd hmag hl hm hz hdl hh1 h1
        go_enter Tryd.func41, Tryd.ntmps41
        go_wp2
        clear h18 h18i
        go_loop [5, 6] (fun n i => ∃ K v : Nat, 1 ≤ K ∧ K ≤ s.size ∧ i = .int .i64 (K : Int) ∧ n = .int .i64 (v : Int) ∧ Hid (v = numVal (R.take (K - 1))) ∧ Hid ((R.take (K - 1)).all isDg = true) ∧ (v : Int) < 1000000000000000000) (fun _ i => s.size - (intOf i).toNat)
        case atStart => exact ⟨1, 0, Nat.le_refl _, by omega, rfl, rfl, Lib.hid rfl, Lib.hid rfl, by omega⟩
        case round =>
          obtain ⟨K, v, hK1, hK, rfl, rfl, Hv, Hall, hv18⟩ := hrel
          by_cases hks : K < s.size
          · have hlt : (K - 1) < R.length := by have := HL1.out; have := HL2.out; omega
            have hts := all_take_succ isDg R (K - 1) hlt
            have hfs := all_false_at isDg R (K - 1) hlt
            have hrk := HR'.out K hK1 hlt hks
            have hvs : numVal (R.take ((K - 1) + 1)) = 10 * numVal (R.take (K - 1)) + (R[(K - 1)].toNat - 48) := by
              rw [List.take_succ_eq_append_getElem hlt, numVal_snoc]
            have hvl : (R.take (K - 1)).all isDg = true → numVal (R.take (K - 1)) < 10 ^ (K - 1) := fun h => by
              have := numVal_lt _ h
              rwa [List.length_take, Nat.min_eq_left (Nat.le_of_lt hlt)] at this
            have hv17 := hvl Hall.out
            have hpw : 10 ^ (K - 1) ≤ 10 ^ 17 := Nat.pow_le_pow_right (by omega) (by have := HL1.out; have := HL3.out; omega)
            have hvb : (v : Int) < 100000000000000000 := by have := Hv.out; omega
            have em : (K - 1) + 1 = K + 1 - 1 := by omega
            rw [← hrk] at hts hfs hvs
            rw [em] at hts hvs
            have Hts := Lib.hid hts
            have Hfs := Lib.hid hfs
            have Hvs := Lib.hid hvs
            clear hts hfs hvs hvl hv17 hpw hrk em hlt
            by_cases hd : 48 ≤ s[K].toNat ∧ s[K].toNat ≤ 57
            · have hin : inB (s[K].toNat : Int) 48 57 = true := inB_true (by omega)
              have hdg : Hid (isDg s[K] = true) := Lib.hid (by simp [isDg]; omega)
              have hd1 : (48 : Int) ≤ (s[K].toNat : Int) := by omega
              have hd2 : (s[K].toNat : Int) ≤ 57 := by omega
              have hsub : Hid (IntKind.u8.wrap ((s[K].toNat : Int) - 48) = (s[K].toNat : Int) - 48) := Lib.hid (by rw [IntKind.wrap_u8]; omega)
              clear hd
              go_wp2_with (go_at_call 51; refine (l01Digit_any _ _).mono ?_; rintro e w' ⟨rfl, rfl⟩)
              go_round
              case rel =>
                refine ⟨K + 1, 10 * v + (s[K].toNat - 48), by omega, by omega, by go_num, ?_, Lib.hid (by rw [Hvs.out, ← Hv.out]), Lib.hid (by rw [Hts.out, Hall.out, hdg.out]; rfl), by omega⟩
                first | (congr 1; omega) | (rw [hsub.out]; congr 1; omega)
              case measure => simp [intOf]; omega
            · have hin : inB (s[K].toNat : Int) 48 57 = false := inB_false (by omega)
              have hdg : Hid (isDg s[K] = false) := Lib.hid (by simp [isDg]; omega)
              clear hd
              go_wp2_with (go_at_call 51; refine (l01Digit_any _ _).mono ?_; rintro e w' ⟨rfl, rfl⟩)
              go_ret2
              exact ⟨by rw [(readDec_bad (HB'.out (Hfs.out hdg.out)) : readDec s.data.toList = none)]; rfl, rfl⟩
          · have e : (K - 1) = R.length := by have := HL1.out; have := HL2.out; omega
            have ha : R.all isDg = true := by
              have := Hall.out
              rwa [e, List.take_length] at this
            have hvv : v = numVal R := by
              have := Hv.out
              rwa [e, List.take_length] at this
            have Hok := Lib.hid (HG'.out ha)
            rw [← hvv] at Hok
            clear ha hvv e
            go_wp2
            go_ret2
            exact ⟨by rw [Hok.out]; rfl, rfl⟩

theorem l01Number_any (s : ByteArray) (w : World) (hs : s.size ≤ maxLen) :
    Calls Tryd.prog 41 #[.string s] w fun e w' => e = .returned (decT (readDec s.data.toList)) ∧ w = w' := by
  by_cases h0 : 0 < s.size
  · by_cases hm : s[0] = 45
    · exact l01Number_neg s w hs h0 hm
    · exact l01Number_pos s w hs h0 hm
  · have hl := size_list s
    have he : s.data.toList = [] := List.length_eq_zero_iff.1 (by omega)
    have Hr := Lib.hid (readDec_bad (bad_empty (l := s.data.toList) (by rw [he]; rfl)))
    have c0 : ¬ (0 : Int) < (s.size : Int) := by omega
    have c0n : ¬ 0 < s.size := h0
    have c2 : ((s.size : Int) == 0) = true := by rw [beq_iff_eq]; omega
    clear hl he
    go_enter Tryd.func41, Tryd.ntmps41
    go_wp2
    go_ret2
    exact ⟨by rw [Hr.out]; rfl, rfl⟩

theorem specReadDecimal_any (s : ByteArray) (w : World) (hs : s.size ≤ maxLen) :
    Calls Tryd.prog 23 #[.string s] w fun e w' => e = .returned (decT (readDec s.data.toList)) ∧ w = w' := by
  go_enter Tryd.func23, Tryd.ntmps23
  go_wp2_with (go_at_call 41; refine (l01Number_any _ _ hs).mono ?_; rintro e w' ⟨rfl, rfl⟩; unfold decT)
  go_ret2
  exact ⟨rfl, rfl⟩

/-- what the library's reader of numbers needs: its two errors' variables hold errors, here and wherever nothing below is written -/
def ErrVars (w : World) : Prop := ∃ t1 p1 t2 p2, ∀ w', Below w.heap.size w w' → w'.var? Tryd.prog "strconv.ErrSyntax" = some #[.iface t1 p1] ∧ w'.var? Tryd.prog "strconv.ErrRange" = some #[.iface t2 p2]
theorem ErrVars.next {w w' : World} (h : ErrVars w) (hb : Below w.heap.size w w') : ErrVars w' := by
  obtain ⟨t1, p1, t2, p2, h⟩ := h
  exact ⟨t1, p1, t2, p2, fun _ hb' => h _ (bnext hb hb')⟩

/-- strconv.ParseInt: a number and no error, or some number and an error that is not nil -/
def PiPost (l : List UInt8) (w : World) (e : Ending) (w' : World) : Prop :=
  (∃ v, Lib.parseIntB 64 l = .ok v ∧ e = .returned (.tuple #[.int .i64 v, .nilIface]) ∧ Below w.heap.size w w') ∨
  ((∀ v, Lib.parseIntB 64 l ≠ .ok v) ∧ ∃ k t p, e = .returned (.tuple #[.int .i64 k, .iface t (.pointer p)]) ∧ Below w.heap.size w w')

theorem no_ok {x y : Lib.NumEnd Int} (h : x = y) (hy : ∀ v, y ≠ .ok v := by intro v hv; cases hv) : ∀ v, x ≠ .ok v := fun v hh => hy v (h ▸ hh)

theorem parseInt_any (s : ByteArray) (w : World) (hs : s.size ≤ 281474976710656) (hv : ErrVars w) :
    Calls Tryd.prog 55 #[.string s, .int .i64 10, .int .i64 64] w (PiPost s.data.toList w) := by
  obtain ⟨t1, p1, t2, p2, hv⟩ := hv
  obtain ⟨hv1, hv2⟩ := hv w (Below.refl _ _)
  cases h : Lib.parseIntB 64 s.data.toList with
  | ok v =>
    refine (Any.strconv_ParseInt_10_at64_ok Tryd.laysC174 s (by omega) v h w).mono fun e w' hh => .inl ⟨v, h, hh.1, ?_⟩
    rcases hh.2 with rfl | ⟨t, rfl⟩
    · exact Below.refl _ _
    · exact Lib.bytesWorld_below _ _ _
  | _ =>
    first
    | exact (Any.strconv_ParseInt_10_at64_syntax_var Tryd.laysC174 s hs h t1 p1 w hv1).mono fun e w' ⟨N, he, _, _, hb⟩ => .inr ⟨no_ok h, _, _, _, he, hb⟩
    | exact (Any.strconv_ParseInt_10_at64_range_var Tryd.laysC174 s hs h t2 p2 w hv2).mono fun e w' ⟨N, he, _, _, hb⟩ => .inr ⟨no_ok h, _, _, _, he, hb⟩

theorem readDec_none_of {l : List UInt8} (h : ∀ v, readDec l = some v → False) : readDec l = none := by
  cases hr : readDec l with
  | none => rfl
  | some v => exact absurd hr (fun hh => h v hh)
theorem trim_mag (l : List UInt8) : Lib.trimPrefix l [45] = magOf l := by
  unfold Lib.trimPrefix magOf
  cases l with
  | nil => rfl
  | cons c r =>
    by_cases h : c = 45
    · subst h; rfl
    · have h1 : Lib.hasPrefix (c :: r) [45] = false := by simp [Lib.hasPrefix, List.isPrefixOf]; exact fun e => h e.symm
      have h2 : ¬ (c :: r).head? = some 45 := by simp [h]
      rw [if_neg h2, h1]
      rfl

set_option maxHeartbeats 800000 in
theorem implReadDecimal_any (s : ByteArray) (w : World) (hs : s.size ≤ 281474976710656) (hv : ErrVars w) (ht : PowTab w) :
    Calls Tryd.prog 44 #[.string s] w fun e w' => e = .returned (decT (readDec s.data.toList)) ∧ Below w.heap.size w w' := by
  have hT := (Tryd.strings_TrimPrefix s ⟨#[45]⟩ w).mono (R' := fun e w' => e = .returned (.string (mkB (magOf s.data.toList))) ∧ w = w') (by
    rintro e w' ⟨he, hw⟩
    refine ⟨?_, hw.symm⟩
    rw [he]
    have : (ByteArray.mk #[45]).data.toList = [45] := rfl
    rw [this, trim_mag]; rfl)
  have HT := Lib.hid hT
  clear hT
  have hsz : (mkB (magOf s.data.toList)).size = (magOf s.data.toList).length := by simp [mkB, ByteArray.size]
  have Hsz := Lib.hid hsz
  clear hsz
  by_cases h18 : 18 < (magOf s.data.toList).length
  · have Hr := Lib.hid (readDec_bad (bad_long h18))
    have h18i : (18 : Int) < ((mkB (magOf s.data.toList)).size : Int) := by rw [Hsz.out]; omega
    go_enter Tryd.func44, Tryd.ntmps44
    go_wp2_with (go_at_call 54; refine HT.out.mono ?_; rintro e w' ⟨rfl, rfl⟩)
    go_ret2
    exact ⟨by rw [Hr.out]; rfl, Below.refl _ _⟩
  · have h18i : ¬ (18 : Int) < ((mkB (magOf s.data.toList)).size : Int) := by rw [Hsz.out]; omega
    have Hri := Lib.hid (fun v (h : Lib.itoa v = s.data.toList) => readDec_itoa v (by rw [h]; omega))
    have hP := parseInt_any s w hs hv
    have HP := Lib.hid hP
    clear hP
    go_enter Tryd.func44, Tryd.ntmps44
    go_wp2_with (go_at_call 54; refine HT.out.mono ?_; rintro e w' ⟨rfl, rfl⟩)
    refine HP.out.mono ?_
    rintro e w1 (⟨v, hok, rfl, hb⟩ | ⟨hno, k, t, p, rfl, hb⟩)
    · have hL1 := ht.next hb
      have hbv := parse_bd hok
      have Hok := Lib.hid hok
      clear hok
      go_wp2_with fail
      refine (implDecimal_any v _ (by omega) (by omega) hL1).mono ?_
      rintro e w2 ⟨rfl, hb2⟩
      by_cases he : Lib.itoa v = s.data.toList
      · have hrd := Hri.out v he
        rw [he] at hrd
        have Hr := Lib.hid hrd
        clear hrd
        rw [he, mkB_list]
        go_wp2
        go_ret2
        exact ⟨by rw [Hr.out]; rfl, bnext hb hb2⟩
      · have Hr := Lib.hid (readDec_none_of (l := s.data.toList) (fun u hu => by
          obtain ⟨h1, h2, _⟩ := readDec_some hu
          rw [Hok.out] at h1
          cases h1
          exact he h2))
        have hne : ((mkB (Lib.itoa v)).toList == s.toList) = false := by
          rw [ByteArray.toList_eq, ByteArray.toList_eq, beq_eq_false_iff_ne]
          exact he
        clear he
        go_wp2
        go_ret2
        exact ⟨by rw [Hr.out]; rfl, bnext hb hb2⟩
    · have Hr := Lib.hid (readDec_none_of (l := s.data.toList) (fun u hu => hno u (readDec_some hu).1))
      clear hno
      go_wp2
      go_ret2
      exact ⟨by rw [Hr.out]; rfl, hb⟩
end Go.Proofs.YtkbkmpcdidhagacDoor
