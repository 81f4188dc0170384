/-
  Decimal forms as plain mathematics: what is read, and that just what Decimal gives is read back.
-/
import Derived.Test.YtkbkmpcdidhagacDoorG0
import Derived.Lib.ItoaNum
import Derived.Lib.ParseIntB
namespace Go.Proofs.YtkbkmpcdidhagacDoor
open Go.ChangeShapes Go.WideShapes Go.ChangeAt Go.RowKit

def isDg (b : UInt8) : Bool := decide (48 ≤ b.toNat ∧ b.toNat ≤ 57)
def numAcc (a : Nat) (l : List UInt8) : Nat := l.foldl (fun n b => 10 * n + (b.toNat - 48)) a
def numVal (l : List UInt8) : Nat := numAcc 0 l
theorem numAcc_snoc (a : Nat) (l : List UInt8) (b : UInt8) : numAcc a (l ++ [b]) = 10 * numAcc a l + (b.toNat - 48) := by
  unfold numAcc; rw [List.foldl_append]; rfl
theorem numVal_snoc (l : List UInt8) (b : UInt8) : numVal (l ++ [b]) = 10 * numVal l + (b.toNat - 48) := numAcc_snoc 0 l b
theorem numAcc_ge (l : List UInt8) : ∀ a, a ≤ numAcc a l := by
  induction l with
  | nil => intro a; exact Nat.le_refl _
  | cons b r ih =>
    intro a
    have := ih (10 * a + (b.toNat - 48))
    show a ≤ numAcc (10 * a + (b.toNat - 48)) r
    omega
theorem numAcc_lt (l : List UInt8) (hd : l.all isDg = true) : ∀ a k, a < 10 ^ k → numAcc a l < 10 ^ (k + l.length) := by
  induction l with
  | nil => intro a k h; exact h
  | cons b r ih =>
    intro a k h
    rw [List.all_cons, Bool.and_eq_true] at hd
    have hb : 48 ≤ b.toNat ∧ b.toNat ≤ 57 := by simpa [isDg] using hd.1
    have := ih hd.2 (10 * a + (b.toNat - 48)) (k + 1) (by rw [Nat.pow_succ]; omega)
    show numAcc (10 * a + (b.toNat - 48)) r < _
    rw [List.length_cons, show k + (r.length + 1) = k + 1 + r.length by omega]
    exact this
theorem numVal_lt (l : List UInt8) (hd : l.all isDg = true) : numVal l < 10 ^ l.length := by
  have := numAcc_lt l hd 0 0 (by decide)
  rw [Nat.zero_add] at this
  exact this

theorem parseM_digits (M : Nat) (l : List UInt8) (hd : l.all isDg = true) : ∀ a, numAcc a l ≤ M → numAcc a l < 18446744073709551616 → Lib.parseUintM M a l = .ok (numAcc a l) := by
  induction l with
  | nil => intro a _ _; rfl
  | cons b r ih =>
    intro a hM hlt
    rw [List.all_cons, Bool.and_eq_true] at hd
    have hb : 48 ≤ b.toNat ∧ b.toNat ≤ 57 := by simpa [isDg] using hd.1
    have hg := numAcc_ge r (10 * a + (b.toNat - 48))
    have e : numAcc a (b :: r) = numAcc (10 * a + (b.toNat - 48)) r := rfl
    rw [e] at hM hlt ⊢
    rw [Lib.parseUintM, if_pos hb, if_neg (by omega), if_neg (by omega), Nat.mul_comm a 10]
    exact ih hd.2 _ hM hlt

theorem dec_snoc (u : Nat) (h : ¬ u < 10) : Lib.decDigits u = Lib.decDigits (u / 10) ++ [UInt8.ofNat (48 + u % 10)] := by
  rw [Lib.decDigits, dif_neg h]
theorem dec_one (u : Nat) (h : u < 10) : Lib.decDigits u = [UInt8.ofNat (48 + u)] := by
  rw [Lib.decDigits, dif_pos h]
theorem toNat_dg (d : Nat) (h : d < 10) : (UInt8.ofNat (48 + d)).toNat = 48 + d := by
  rw [UInt8.toNat_ofNat']; omega
theorem dec_all : ∀ u, (Lib.decDigits u).all isDg = true := by
  intro u
  induction u using Nat.strongRecOn with
  | _ u ih =>
    by_cases h : u < 10
    · rw [dec_one u h]
      simp [isDg]; omega
    · rw [dec_snoc u h, List.all_append, ih (u / 10) (by omega)]
      simp [isDg]; omega
theorem dec_val : ∀ u, numVal (Lib.decDigits u) = u := by
  intro u
  induction u using Nat.strongRecOn with
  | _ u ih =>
    by_cases h : u < 10
    · rw [dec_one u h]
      have := toNat_dg u h
      show 10 * 0 + ((UInt8.ofNat (48 + u)).toNat - 48) = u
      omega
    · rw [dec_snoc u h, numVal_snoc, ih (u / 10) (by omega), toNat_dg (u % 10) (by omega)]
      omega
theorem dec_ne (u : Nat) : Lib.decDigits u ≠ [] := by
  by_cases h : u < 10
  · rw [dec_one u h]; simp
  · rw [dec_snoc u h]; simp
theorem head_app {α : Type} (q : List α) {p : List α} (hp : p ≠ []) : (p ++ q).head? = p.head? := by
  cases p with
  | nil => exact absurd rfl hp
  | cons a r => rfl
theorem dec_head : ∀ u, 1 ≤ u → (Lib.decDigits u).head? ≠ some 48 := by
  intro u
  induction u using Nat.strongRecOn with
  | _ u ih =>
    intro h1
    by_cases h : u < 10
    · rw [dec_one u h]
      intro he
      have h2 : UInt8.ofNat (48 + u) = 48 := by simpa using he
      have := congrArg UInt8.toNat h2
      rw [toNat_dg u h] at this
      have e : (48 : UInt8).toNat = 48 := rfl
      omega
    · rw [dec_snoc u h, head_app _ (dec_ne _)]
      exact ih (u / 10) (by omega) (by omega)
theorem dec_zero : Lib.decDigits 0 = [48] := by rw [dec_one 0 (by omega)]; rfl

/-- digits without a leading zero are what decDigits gives for their value -/
theorem dec_of_val (l : List UInt8) (hd : l.all isDg = true) (hne : l ≠ []) (h0 : l.head? ≠ some 48 ∨ l = [48]) : Lib.decDigits (numVal l) = l ∧ (l.head? ≠ some 48 → 1 ≤ numVal l) := by
  have key : ∀ n (l : List UInt8), l.length = n → l.all isDg = true → l ≠ [] → l.head? ≠ some 48 → Lib.decDigits (numVal l) = l ∧ 1 ≤ numVal l := by
    intro n
    induction n with
    | zero => intro l hl _ hne _; exact absurd (List.length_eq_zero_iff.1 hl) hne
    | succ n ih =>
      intro l hl hd hne hh
      have hs := List.dropLast_concat_getLast hne
      generalize l.getLast hne = b at hs
      generalize l.dropLast = p at hs
      subst hs
      rw [List.all_append, Bool.and_eq_true] at hd
      have hb : 48 ≤ b.toNat ∧ b.toNat ≤ 57 := by simpa [isDg] using hd.2
      have hbd : UInt8.ofNat (48 + (b.toNat - 48)) = b := by
        rw [show 48 + (b.toNat - 48) = b.toNat by omega]; simp
      rw [numVal_snoc]
      by_cases hp : p = []
      · subst hp
        have hv : numVal [] = 0 := rfl
        rw [hv]
        have hb48 : b.toNat ≠ 48 := by
          intro h
          apply hh
          have : b = 48 := UInt8.toNat_inj.1 h
          simp [this]
        refine ⟨?_, by omega⟩
        rw [dec_one _ (by omega), Nat.mul_zero, Nat.zero_add, hbd]; rfl
      · rw [head_app _ hp] at hh
        obtain ⟨h1, h2⟩ := ih p (by simpa using hl) hd.1 hp hh
        refine ⟨?_, by omega⟩
        rw [dec_snoc _ (by omega)]
        have e1 : (10 * numVal p + (b.toNat - 48)) / 10 = numVal p := by omega
        have e2 : (10 * numVal p + (b.toNat - 48)) % 10 = b.toNat - 48 := by omega
        rw [e1, e2, h1, hbd]
  by_cases hh : l.head? = some 48
  · rcases h0 with h0 | h0
    · exact absurd hh h0
    · subst h0
      exact ⟨by rw [show numVal [48] = 0 from rfl]; exact dec_zero, fun h => absurd rfl h⟩
  · have := key l.length l rfl hd hne hh
    exact ⟨this.1, fun _ => this.2⟩

/-- what stands behind the sign -/
def magOf (l : List UInt8) : List UInt8 := if l.head? = some 45 then l.drop 1 else l
def badNum (l : List UInt8) : Bool := decide (magOf l = []) || decide (18 < (magOf l).length) || (decide ((magOf l).head? = some 48) && decide (1 < l.length)) || !(magOf l).all isDg
/-- the number with a decimal form of at most 18 digits -/
def readDec (l : List UInt8) : Option Int :=
  if badNum l then none else some (if l.head? = some 45 then -(numVal (magOf l) : Int) else (numVal (magOf l) : Int))

theorem goodNum {l : List UInt8} (h : badNum l = false) : magOf l ≠ [] ∧ (magOf l).length ≤ 18 ∧ ((magOf l).head? = some 48 → l.length ≤ 1) ∧ (magOf l).all isDg = true := by
  unfold badNum at h
  simp only [Bool.or_eq_false_iff, decide_eq_false_iff_not, Bool.and_eq_false_iff, Bool.not_eq_false'] at h
  obtain ⟨⟨⟨h1, h2⟩, h3⟩, h4⟩ := h
  refine ⟨h1, by omega, fun hh => ?_, h4⟩
  rcases h3 with h3 | h3
  · exact absurd hh h3
  · omega

theorem parse_cons (c : UInt8) (r m : List UInt8) (u : Nat) (hm : (if c.toNat = 43 ∨ c.toNat = 45 then r else c :: r) = m) (hu : Lib.parseUintB 64 m = .ok u) (hs : u < 1000000000000000000) :
    Lib.parseIntB 64 (c :: r) = .ok (if c.toNat = 45 then -(u : Int) else (u : Int)) := by
  unfold Lib.parseIntB
  simp only [hm, hu]
  rw [if_neg (by omega), if_neg (by omega)]

/-- what is read has just this decimal form, and the library's reader gives it -/
theorem readDec_some {l : List UInt8} {v : Int} (h : readDec l = some v) : Lib.parseIntB 64 l = .ok v ∧ Lib.itoa v = l ∧ -1000000000000000000 < v ∧ v < 1000000000000000000 := by
  unfold readDec at h
  split at h
  · cases h
  · next hb =>
    have hb' : badNum l = false := by simpa using hb
    obtain ⟨h1, h2, h3, h4⟩ := goodNum hb'
    have hlt := numVal_lt _ h4
    have hle : 10 ^ (magOf l).length ≤ 10 ^ 18 := Nat.pow_le_pow_right (by omega) h2
    have hv : numVal (magOf l) < 1000000000000000000 := Nat.lt_of_lt_of_le hlt hle
    have hp := parseM_digits 18446744073709551615 (magOf l) h4 0 (by show numVal (magOf l) ≤ _; omega) (by show numVal (magOf l) < _; omega)
    have hpe : numAcc 0 (magOf l) = numVal (magOf l) := rfl
    rw [hpe] at hp
    have hu : Lib.parseUintB 64 (magOf l) = .ok (numVal (magOf l)) := by
      unfold Lib.parseUintB
      rw [if_neg h1]
      exact hp
    obtain ⟨rfl⟩ := h
    match l, h1, h3, h4, hu, hv with
    | [], h1, _, _, _, _ => exact absurd rfl h1
    | c :: r, h1, h3, h4, hu, hv =>
      by_cases hc : c = 45
      · subst hc
        have hm : magOf (45 :: r) = r := rfl
        have hh : (45 :: r : List UInt8).head? = some 45 := rfl
        rw [hm] at hu hv h1 h3 h4 ⊢
        rw [if_pos hh]
        have h48 : r.head? ≠ some 48 := by
          intro h5
          have := h3 h5
          cases r with
          | nil => exact h1 rfl
          | cons x y => simp at this
        obtain ⟨hd1, hd2⟩ := dec_of_val r h4 h1 (.inl h48)
        have hpos := hd2 h48
        refine ⟨?_, ?_, by omega, by omega⟩
        · rw [parse_cons 45 r r _ rfl hu hv]; rfl
        · unfold Lib.itoa
          rw [if_pos (by omega), Int.natAbs_neg, Int.natAbs_natCast, hd1]
      · have hh : (c :: r : List UInt8).head? ≠ some 45 := by simpa using hc
        have hm : magOf (c :: r) = c :: r := by unfold magOf; rw [if_neg hh]
        rw [hm] at hu hv h1 h3 h4 ⊢
        rw [if_neg hh]
        have hcd : 48 ≤ c.toNat ∧ c.toNat ≤ 57 := by
          rw [List.all_cons, Bool.and_eq_true] at h4
          simpa [isDg] using h4.1
        obtain ⟨hd1, _⟩ := dec_of_val (c :: r) h4 h1 (by
          by_cases h48 : (c :: r : List UInt8).head? = some 48
          · right
            have := h3 h48
            have hr : r = [] := by
              cases r with
              | nil => rfl
              | cons x y => simp at this
            subst hr
            have : c = 48 := by simpa using h48
            rw [this]
          · exact .inl h48)
        refine ⟨?_, ?_, by omega, by omega⟩
        · rw [parse_cons c r (c :: r) _ (if_neg (by omega)) hu hv, if_neg (by omega)]
        · unfold Lib.itoa
          rw [if_neg (by omega), Int.toNat_natCast, hd1]

theorem mag_itoa (v : Int) : magOf (Lib.itoa v) = Lib.decDigits v.natAbs ∧ ((Lib.itoa v).head? = some 45 ↔ v < 0) := by
  unfold Lib.itoa
  by_cases h : v < 0
  · rw [if_pos h]; exact ⟨rfl, by simp [h]⟩
  · rw [if_neg h, show v.toNat = v.natAbs by omega]
    have hne : (Lib.decDigits v.natAbs).head? ≠ some 45 := by
      have ha := dec_all v.natAbs
      cases hd : Lib.decDigits v.natAbs with
      | nil => simp
      | cons c r =>
        rw [hd, List.all_cons, Bool.and_eq_true] at ha
        have hc : 48 ≤ c.toNat ∧ c.toNat ≤ 57 := by simpa [isDg] using ha.1
        simp only [List.head?_cons, ne_eq, Option.some.injEq]
        rintro rfl
        have e45 : (45 : UInt8).toNat = 45 := rfl
        omega
    exact ⟨by unfold magOf; rw [if_neg hne], by simp [hne, h]⟩

/-- what Decimal gives with at most 18 digits is read back -/
theorem readDec_itoa (v : Int) (h : (magOf (Lib.itoa v)).length ≤ 18) : readDec (Lib.itoa v) = some v := by
  obtain ⟨hm, hs⟩ := mag_itoa v
  have hb : badNum (Lib.itoa v) = false := by
    unfold badNum
    simp only [Bool.or_eq_false_iff, decide_eq_false_iff_not, Bool.and_eq_false_iff, Bool.not_eq_false']
    refine ⟨⟨⟨by rw [hm]; exact dec_ne _, by omega⟩, ?_⟩, by rw [hm]; exact dec_all _⟩
    by_cases hv : v = 0
    · right
      subst hv
      have : Lib.itoa 0 = [48] := by unfold Lib.itoa; rw [if_neg (by omega)]; exact dec_zero
      rw [this]; decide
    · left
      rw [hm]
      exact dec_head _ (by omega)
  unfold readDec
  rw [hb]
  simp only [Bool.false_eq_true, if_false]
  rw [hm, dec_val]
  by_cases hv : v < 0
  · rw [if_pos (hs.2 hv)]; congr 1; omega
  · rw [if_neg (fun h => hv (hs.1 h))]; congr 1; omega
theorem parse_bd {l : List UInt8} {v : Int} (h : Lib.parseIntB 64 l = .ok v) : -9223372036854775808 ≤ v ∧ v ≤ 9223372036854775807 := by
  unfold Lib.parseIntB at h
  split at h
  · cases h
  · next c r =>
    simp only at h
    split at h
    · cases h
    · cases h
    · next u _ =>
      split at h
      · cases h
      · next h1 =>
        split at h
        · cases h
        · next h2 =>
          cases h
          have e : (2 : Nat) ^ (64 - 1) = 9223372036854775808 := by decide
          rw [e] at h1 h2
          split <;> omega
end Go.Proofs.YtkbkmpcdidhagacDoor
