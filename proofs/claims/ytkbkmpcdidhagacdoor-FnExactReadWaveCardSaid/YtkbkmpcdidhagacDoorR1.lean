/-
  Reading a list: the plain maths of it.
-/
import Derived.Test.YtkbkmpcdidhagacDoorS1
import Derived.Test.YtkbkmpcdidhagacDoorD3
import Derived.Test.YtkbkmpcdidhagacDoorD4
import Derived.Lib.Split
namespace Go.Proofs.YtkbkmpcdidhagacDoor
open Go.ChangeShapes Go.WideShapes Go.ChangeAt Go.RowKit

theorem splitGo_ne (b : UInt8) (l : List UInt8) : ∀ cur, splitGo b cur l ≠ [] := by
  induction l with
  | nil => intro cur; simp [splitGo]
  | cons c r ih => intro cur; rw [splitGo]; split; · simp
                   · exact ih _
theorem splitGo_pos (b : UInt8) (l cur : List UInt8) : 1 ≤ (splitGo b cur l).length := by
  have := splitGo_ne b l cur
  cases h : splitGo b cur l with
  | nil => exact absurd h this
  | cons x r => simp
theorem join_more (x y : List UInt8) (r : List (List UInt8)) (sep : List UInt8) : Lib.join (x :: y :: r) sep = x ++ (sep ++ Lib.join (y :: r) sep) := by
  rw [Lib.join_cons, Lib.join_cons]
  simp [Lib.joinTail]
theorem join_split (b : UInt8) (l : List UInt8) : ∀ cur, Lib.join (splitGo b cur l) [b] = cur ++ l := by
  induction l with
  | nil => intro cur; rw [splitGo, Lib.join_one, List.append_nil]
  | cons c r ih =>
    intro cur
    rw [splitGo]
    split
    · rename_i hc
      subst hc
      cases h : splitGo c [] r with
      | nil => exact absurd h (splitGo_ne c r [])
      | cons y t =>
        rw [join_more, ← h, ih []]
        rfl
    · rw [ih]; simp
theorem index_cons (b c : UInt8) (r : List UInt8) : Lib.index (c :: r) [b] = if c = b then 0 else if Lib.index r [b] = -1 then -1 else Lib.index r [b] + 1 := by
  rw [Lib.index]
  by_cases h : c = b
  · subst h
    simp [List.isPrefixOf]
  · have h' : (b == c) = false := by rw [beq_eq_false_iff_ne]; exact fun e => h e.symm
    simp [List.isPrefixOf, h', h]
theorem split_index (b : UInt8) (l : List UInt8) : ∀ cur, (Lib.index l [b] = -1 → splitGo b cur l = [cur ++ l]) ∧ ∀ i : Nat, Lib.index l [b] = i → splitGo b cur l = (cur ++ l.take i) :: splitGo b [] (l.drop (i + 1)) := by
  induction l with
  | nil =>
    intro cur
    have e : Lib.index [] [b] = -1 := rfl
    refine ⟨fun _ => by rw [splitGo, List.append_nil], fun i h => ?_⟩
    rw [e] at h; omega
  | cons c r ih =>
    intro cur
    rw [index_cons, splitGo]
    by_cases hc : c = b
    · rw [if_pos hc, if_pos hc]
      refine ⟨fun h => by omega, fun i h => ?_⟩
      obtain rfl : i = 0 := by omega
      simp
    · rw [if_neg hc, if_neg hc]
      by_cases hm : Lib.index r [b] = -1
      · rw [if_pos hm]
        refine ⟨fun _ => ?_, fun i h => by omega⟩
        rw [(ih (cur ++ [c])).1 hm]; simp
      · rw [if_neg hm]
        have hge := Lib.index_ge r [b]
        refine ⟨fun h => by omega, fun i h => ?_⟩
        obtain ⟨j, rfl⟩ : ∃ j, i = j + 1 := ⟨i - 1, by omega⟩
        rw [(ih (cur ++ [c])).2 j (by omega)]
        simp
theorem splitK_eq (b : UInt8) : ∀ (k : Nat) (l : List UInt8), ((splitGo b [] l).length ≤ k + 1 → Lib.splitK [b] 0 k l = splitGo b [] l) ∧ (k + 1 < (splitGo b [] l).length → (Lib.splitK [b] 0 k l).length = k + 1) := by
  intro k
  induction k with
  | zero =>
    intro l
    rw [Lib.splitK]
    refine ⟨fun h => ?_, fun _ => rfl⟩
    by_cases hm : Lib.index l [b] = -1
    · rw [(split_index b l []).1 hm]; rfl
    · have hge := Lib.index_ge l [b]
      obtain ⟨i, hi⟩ := Int.eq_ofNat_of_zero_le (by omega : 0 ≤ Lib.index l [b])
      rw [(split_index b l []).2 i hi] at h
      have := splitGo_pos b (l.drop (i + 1)) []
      rw [List.length_cons] at h
      omega
  | succ k ih =>
    intro l
    rw [Lib.splitK]
    by_cases hm : Lib.index l [b] = -1
    · rw [if_pos (by rw [hm]; rfl), (split_index b l []).1 hm]
      exact ⟨fun _ => rfl, fun h => by simp at h⟩
    · have hge := Lib.index_ge l [b]
      obtain ⟨i, hi⟩ := Int.eq_ofNat_of_zero_le (by omega : 0 ≤ Lib.index l [b])
      rw [if_neg (by rw [beq_iff_eq]; exact hm), (split_index b l []).2 i hi, hi]
      have e1 : (Int.ofNat i).toNat + 0 = i := by simp
      have e2 : (Int.ofNat i).toNat + [b].length = i + 1 := by simp
      rw [show ((i : Nat) : Int).toNat + 0 = i by omega, show ((i : Nat) : Int).toNat + [b].length = i + 1 by simp]
      have := ih (l.drop (i + 1))
      refine ⟨fun h => ?_, fun h => ?_⟩
      · rw [this.1 (by simp at h; omega)]; rfl
      · rw [List.length_cons, this.2 (by simp at h; omega)]

/-- a part that is a number of the document's -/
def valP (p : List UInt8) : Int := (readDec p).getD 0
def numP (p : List UInt8) : Bool := (readDec p).isSome
def okQ (p : List UInt8) : Bool := numP p && inV (valP p)
/-- the list with a text, or none -/
def readL (l : List UInt8) : Option (List Int) :=
  if l = [45] then some [] else if (splitGo 44 [] l).length ≤ 64 ∧ (splitGo 44 [] l).all okQ = true then some ((splitGo 44 [] l).map valP) else none
theorem numP_itoa {p : List UInt8} (h : numP p = true) : Lib.itoa (valP p) = p := by
  unfold numP at h
  unfold valP
  cases hr : readDec p with
  | none => rw [hr] at h; cases h
  | some v => exact (readDec_some hr).2.1
theorem map_itoa {ps : List (List UInt8)} (h : ps.all numP = true) : (ps.map valP).map Lib.itoa = ps := by
  rw [List.map_map]
  conv => rhs; rw [← List.map_id ps]
  exact List.map_congr_left fun p hp => numP_itoa (List.all_eq_true.1 h p hp)
theorem comma_split {l : List UInt8} (h : (splitGo 44 [] l).all numP = true) : commaL ((splitGo 44 [] l).map valP) = l := by
  unfold commaL
  rw [map_itoa h, join_split]
  rfl
theorem numP_nil : numP [] = false := rfl
theorem all_ok (ps : List (List UInt8)) : ps.all okQ = (ps.all numP && (ps.map valP).all inV) := by
  induction ps with
  | nil => rfl
  | cons p r ih =>
    rw [List.all_cons, ih, List.map_cons, List.all_cons, List.all_cons]
    unfold okQ
    cases numP p <;> cases inV (valP p) <;> cases r.all numP <;> simp
/-- what the program has: parts, cut at 65 at most; the numbers, if all are; the list's text again -/
def implL (l : List UInt8) (k : Nat) : Option (List Int) :=
  if (Lib.splitK [44] 0 k l).all numP = true ∧ listL ((Lib.splitK [44] 0 k l).map valP) = l then some ((Lib.splitK [44] 0 k l).map valP) else none
theorem implL_eq (l : List UInt8) (h : l ≠ [45]) : implL l (min 65 (l.length + 1) - 1) = readL l := by
  have hsl := splitGo_length 44 l []
  have hpos := splitGo_pos 44 l []
  unfold readL
  rw [if_neg h]
  obtain ⟨h1, h2⟩ := splitK_eq 44 (min 65 (l.length + 1) - 1) l
  by_cases h64 : (splitGo 44 [] l).length ≤ 64
  · unfold implL
    rw [h1 (by omega)]
    by_cases hn : (splitGo 44 [] l).all numP = true
    · by_cases hv : ((splitGo 44 [] l).map valP).all inV = true
      · have hok : (splitGo 44 [] l).all okQ = true := by rw [all_ok, hn, hv]; rfl
        have hf : fitsL ((splitGo 44 [] l).map valP) = true := by unfold fitsL; rw [hv]; simpa using h64
        have hl : listL ((splitGo 44 [] l).map valP) = l := by
          unfold listL
          rw [if_pos hf, if_neg (by rw [List.length_map]; omega), comma_split hn]
        rw [if_pos ⟨hn, hl⟩, if_pos ⟨h64, hok⟩]
      · have hok : ¬ ((splitGo 44 [] l).length ≤ 64 ∧ (splitGo 44 [] l).all okQ = true) := fun ⟨_, e⟩ => by
          rw [all_ok, Bool.and_eq_true] at e; exact hv e.2
        rw [if_neg hok, if_neg]
        rintro ⟨_, e⟩
        have hf : fitsL ((splitGo 44 [] l).map valP) = false := by
          unfold fitsL
          have : ((splitGo 44 [] l).map valP).all inV = false := by simpa using hv
          rw [this]; rfl
        unfold listL at e
        rw [hf] at e
        have e0 : l = [] := e.symm
        subst e0
        cases hn
    · have hok : ¬ ((splitGo 44 [] l).length ≤ 64 ∧ (splitGo 44 [] l).all okQ = true) := fun ⟨_, e⟩ => by
          rw [all_ok, Bool.and_eq_true] at e; exact hn e.1
      rw [if_neg hok, if_neg]
      exact fun e => hn e.1
  · have hok : ¬ ((splitGo 44 [] l).length ≤ 64 ∧ (splitGo 44 [] l).all okQ = true) := fun e => h64 e.1
    rw [if_neg hok]
    have hk : (Lib.splitK [44] 0 (min 65 (l.length + 1) - 1) l).length = 65 := by
      by_cases h65 : (splitGo 44 [] l).length ≤ 65
      · rw [h1 (by omega)]; omega
      · rw [h2 (by omega)]; omega
    unfold implL
    rw [if_neg]
    rintro ⟨_, e⟩
    have hf : fitsL ((Lib.splitK [44] 0 (min 65 (l.length + 1) - 1) l).map valP) = false := by
      unfold fitsL
      rw [List.length_map, hk]
      simp
    unfold listL at e
    rw [hf] at e
    have e0 : l = [] := e.symm
    subst e0
    simp [splitGo] at h64
end Go.Proofs.YtkbkmpcdidhagacDoor
