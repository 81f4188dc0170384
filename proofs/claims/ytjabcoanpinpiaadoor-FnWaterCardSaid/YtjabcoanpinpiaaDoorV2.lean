/-
  Reading a temperature: what is read, as maths.
-/
import Derived.Test.YtjabcoanpinpiaaDoorV1
import Derived.Test.YtjabcoanpinpiaaDoorD3
import Derived.Lib.Replace
import Derived.Lib.CountLaws
namespace Go.Proofs.YtjabcoanpinpiaaDoor
open Go.ChangeShapes Go.WideShapes Go.ChangeAt Go.RowKit

/-- o is the temperature with the text l, or none where there is none -/
def DegOf (l : List UInt8) (o : Option Int) : Prop :=
  (∀ t, o = some t → inB t (-99999) 99999 = true ∧ degL t = l) ∧ (o = none → ∀ t, inB t (-99999) 99999 = true → degL t ≠ l)
theorem dgt_itoa (x : Int) (h0 : 0 ≤ x) (h1 : x < 10) : Lib.itoa x = [UInt8.ofNat (48 + x.toNat)] := by
  obtain ⟨n, rfl⟩ := Int.eq_ofNat_of_zero_le h0
  rw [itoa_nat, dec_one n (by omega)]
  rfl
theorem itoa_dg (x : Int) (h0 : 0 ≤ x) : (Lib.itoa x).all isDg = true ∧ Lib.itoa x ≠ [] ∧ (numVal (Lib.itoa x) : Int) = x := by
  obtain ⟨n, rfl⟩ := Int.eq_ofNat_of_zero_le h0
  rw [itoa_nat]
  exact ⟨dec_all n, dec_ne n, by rw [dec_val]⟩
theorem numAcc_app (a : Nat) (l m : List UInt8) : numAcc a (l ++ m) = numAcc (numAcc a l) m := by
  unfold numAcc; rw [List.foldl_append]
/-- the digits of a temperature without its point -/
def digL (t : Int) : List UInt8 := Lib.itoa (absI t / 100) ++ (Lib.itoa (absI t / 10 % 10) ++ Lib.itoa (absI t % 10))
theorem absI_nn0 (t : Int) : 0 ≤ absI t := by unfold absI; split <;> omega
theorem digL_all (t : Int) : (digL t).all isDg = true := by
  have h := absI_nn0 t
  unfold digL
  rw [List.all_append, List.all_append, (itoa_dg _ (by omega)).1, (itoa_dg _ (by omega)).1, (itoa_dg _ (by omega)).1]
  rfl
theorem digL_ne (t : Int) : digL t ≠ [] := by
  have h := absI_nn0 t
  unfold digL
  intro e
  exact (itoa_dg (absI t / 100) (by omega)).2.1 (List.append_eq_nil_iff.1 e).1
theorem digL_val (t : Int) : (numVal (digL t) : Int) = absI t := by
  have h := absI_nn0 t
  have h1 := (itoa_dg (absI t / 100) (by omega)).2.2
  unfold digL
  rw [dgt_itoa (absI t / 10 % 10) (by omega) (by omega), dgt_itoa (absI t % 10) (by omega) (by omega)]
  unfold numVal at *
  rw [numAcc_app, numAcc_app]
  have e : ∀ a d : Nat, d < 10 → numAcc a [UInt8.ofNat (48 + d)] = 10 * a + d := fun a d hd => by
    show 10 * a + ((UInt8.ofNat (48 + d)).toNat - 48) = _
    rw [toNat_dg d hd]; omega
  rw [e _ _ (by omega), e _ _ (by omega)]
  omega
theorem sgn_parts (t : Int) : degL t = ((if t < 0 then [45] else []) ++ Lib.itoa (absI t / 100)) ++ 46 :: (Lib.itoa (absI t / 10 % 10) ++ Lib.itoa (absI t % 10)) := by
  unfold degL; simp
theorem noDot (t : Int) : ∀ c ∈ ((if t < 0 then [45] else []) ++ Lib.itoa (absI t / 100)), c ≠ 46 := by
  have h := absI_nn0 t
  intro c hc
  rcases List.mem_append.1 hc with h1 | h1
  · split at h1
    · have : c = 45 := by simpa using h1
      rw [this]; decide
    · cases h1
  · intro e
    have := List.all_eq_true.1 (itoa_dg (absI t / 100) (by omega)).1 c h1
    rw [e] at this
    exact absurd this (by decide)
theorem index_dot (b : UInt8) (q : List UInt8) : ∀ p : List UInt8, (∀ c ∈ p, c ≠ b) → Lib.index (p ++ b :: q) [b] = (p.length : Int) := by
  intro p
  induction p with
  | nil => intro _; rw [List.nil_append, Lib.index]; simp
  | cons x p ih =>
    intro h
    have hx := h x (by simp)
    have ih' := ih fun c hc => h c (by simp [hc])
    rw [List.cons_append, Lib.index]
    have e : ([b].isPrefixOf (x :: (p ++ b :: q))) = false := by
      simp [List.isPrefixOf]
      exact fun h => hx h.symm
    rw [if_neg (by rw [e]; simp), ih']
    have : ((p.length : Int) == -1) = false := by rw [beq_eq_false_iff_ne]; omega
    rw [this]
    simp
theorem replace_dot (p q : List UInt8) (h : ∀ c ∈ p, c ≠ 46) : Lib.replace (p ++ 46 :: q) [46] [] 1 = p ++ q := by
  have hi := index_dot 46 q p h
  have hc := Lib.count_hit (s := p ++ 46 :: q) (sub := [46]) (i := p.length) (by simp) hi
  unfold Lib.replace
  rw [if_neg (by simp)]
  have hn : Lib.replaceNum (p ++ 46 :: q) [46] 1 = 1 := by
    unfold Lib.replaceNum
    rw [if_neg (by omega)]
    rfl
  rw [hn, Lib.replaceK_hit [46] [] 0 _ p.length hi]
  show (List.take p.length (p ++ 46 :: q) ++ [] ++ List.drop (p.length + 1) (p ++ 46 :: q)) = _
  simp
theorem replaceK_le (old : List UInt8) : ∀ (k : Nat) (s : List UInt8), (Lib.replaceK old [] k s).length ≤ s.length := by
  intro k
  induction k with
  | zero => intro s; exact Nat.le_refl _
  | succ k ih =>
    intro s
    rw [Lib.replaceK]
    split
    · exact Nat.le_refl _
    · have := ih (s.drop ((Lib.index s old).toNat + old.length))
      rw [List.length_append, List.length_append, List.length_take]
      rw [List.length_drop] at this
      simp only [List.length_nil]
      omega
theorem replace_le (s : List UInt8) : (Lib.replace s [46] [] 1).length ≤ s.length := by
  unfold Lib.replace
  rw [if_neg (by simp)]
  exact replaceK_le _ _ _
theorem parse_uint (m : List UInt8) (h : m.all isDg = true) (hne : m ≠ []) (hv : numVal m < 1000000000000000000) : Lib.parseUintB 64 m = .ok (numVal m) := by
  have hp := parseM_digits 18446744073709551615 m h 0 (by show numVal m ≤ _; omega) (by show numVal m < _; omega)
  have hpe : numAcc 0 m = numVal m := rfl
  rw [hpe] at hp
  unfold Lib.parseUintB
  rw [if_neg hne]
  exact hp
theorem parse_deg (t : Int) (h : inB t (-99999) 99999 = true) : Lib.parseIntB 64 (Lib.replace (degL t) [46] [] 1) = .ok t := by
  have hb := inB_iff.1 h
  have ha := absI_bd t 99999 hb.1 hb.2
  have hv := digL_val t
  have hu := parse_uint (digL t) (digL_all t) (digL_ne t) (by omega)
  rw [sgn_parts, replace_dot _ _ (noDot t)]
  have e : ((if t < 0 then [45] else []) ++ Lib.itoa (absI t / 100)) ++ (Lib.itoa (absI t / 10 % 10) ++ Lib.itoa (absI t % 10)) = (if t < 0 then [45] else []) ++ digL t := by
    unfold digL; simp
  rw [e]
  by_cases hn : t < 0
  · rw [if_pos hn]
    have hab : absI t = -t := if_pos hn
    rw [show ([45] ++ digL t) = 45 :: digL t from rfl, parse_cons 45 (digL t) (digL t) _ rfl hu (by omega)]
    congr 1
    show (if (45 : UInt8).toNat = 45 then -(numVal (digL t) : Int) else (numVal (digL t) : Int)) = t
    rw [if_pos (show (45 : UInt8).toNat = 45 from rfl)]
    omega
  · rw [if_neg hn, List.nil_append]
    have hab : absI t = t := if_neg hn
    have hd := digL_all t
    match hd0 : digL t, digL_ne t with
    | c :: r, _ =>
      rw [hd0] at hu hv hd
      have hcd : 48 ≤ c.toNat ∧ c.toNat ≤ 57 := by
        rw [List.all_cons, Bool.and_eq_true] at hd
        simpa [isDg] using hd.1
      rw [parse_cons c r (c :: r) _ (if_neg (by omega)) hu (by omega), if_neg (by omega)]
      congr 1
      omega
theorem degOf_same {l : List UInt8} {o p : Option Int} (h : DegOf l o) (k : DegOf l p) : o = p := by
  cases o with
  | none =>
    cases p with
    | none => rfl
    | some t => exact absurd (k.1 t rfl).2 (h.2 rfl t (k.1 t rfl).1)
  | some s =>
    obtain ⟨h1, h2⟩ := h.1 s rfl
    cases p with
    | none => exact absurd h2 (k.2 rfl s h1)
    | some t =>
      obtain ⟨k1, k2⟩ := k.1 t rfl
      have e1 := parse_deg s h1
      have e2 := parse_deg t k1
      rw [h2] at e1
      rw [k2] at e2
      rw [e1] at e2
      cases e2
      rfl

end Go.Proofs.YtjabcoanpinpiaaDoor
