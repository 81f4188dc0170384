/-
  A list that is written is read back.
-/
import Derived.Test.YtmopnkkpcgiafabGreatDoorR1
namespace Go.Proofs.YtmopnkkpcgiafabGreatDoor
open Go.ChangeShapes Go.WideShapes Go.ChangeAt Go.RowKit

theorem nDigits_le (k : Nat) : ∀ u, u < 10 ^ (k + 1) → Lib.nDigits u ≤ k + 1 := by
  induction k with
  | zero => intro u h; rw [Lib.nDigits_small (by omega)]; omega
  | succ k ih =>
    intro u h
    by_cases h10 : u < 10
    · rw [Lib.nDigits_small h10]; omega
    · rw [Lib.nDigits_big h10]
      have := ih (u / 10) (by rw [Nat.pow_succ] at h; omega)
      omega
theorem readDec_text (z : Int) (h : inV z = true) : readDec (Lib.itoa z) = some z := by
  have hb := inB_iff.1 h
  refine readDec_itoa z ?_
  rw [(mag_itoa z).1, Lib.decDigits_length]
  have := nDigits_le 17 z.natAbs (by omega)
  omega
theorem itoa_no_comma (z : Int) : (44 : UInt8) ∉ Lib.itoa z := by
  have hd : ∀ u, (44 : UInt8) ∉ Lib.decDigits u := fun u hm => by
    have := List.all_eq_true.1 (dec_all u) _ hm
    exact absurd this (by decide)
  unfold Lib.itoa
  split
  · intro hm
    rcases List.mem_cons.1 hm with h | h
    · exact absurd h (by decide)
    · exact hd _ h
  · exact hd _
theorem splitGo_app (b : UInt8) (p : List UInt8) : ∀ (cur rest : List UInt8), b ∉ p → splitGo b cur (p ++ rest) = splitGo b (cur ++ p) rest := by
  induction p with
  | nil => intro cur rest _; simp
  | cons c r ih =>
    intro cur rest hn
    rw [List.cons_append, splitGo, if_neg (fun e => hn (by rw [e]; exact List.mem_cons_self)), ih _ _ (fun h => hn (List.mem_cons_of_mem _ h))]
    simp
theorem split_join (b : UInt8) (ps : List (List UInt8)) : ∀ p, (∀ q ∈ p :: ps, b ∉ q) → splitGo b [] (Lib.join (p :: ps) [b]) = p :: ps := by
  induction ps with
  | nil =>
    intro p h
    have := splitGo_app b p [] [] (h p List.mem_cons_self)
    rw [List.append_nil] at this
    rw [Lib.join_one, this]
    rfl
  | cons q r ih =>
    intro p h
    rw [join_more, splitGo_app b p [] _ (h p List.mem_cons_self)]
    show splitGo b ([] ++ p) (b :: Lib.join (q :: r) [b]) = _
    rw [splitGo, if_pos rfl, ih q (fun x hx => h x (List.mem_cons_of_mem _ hx))]
    rfl
theorem split_comma (zs : List Int) (h0 : 0 < zs.length) : splitGo 44 [] (commaL zs) = zs.map Lib.itoa := by
  cases zs with
  | nil => simp at h0
  | cons a r =>
    unfold commaL
    rw [List.map_cons]
    refine split_join 44 _ _ fun q hq => ?_
    rw [← List.map_cons] at hq
    obtain ⟨z, _, rfl⟩ := List.mem_map.1 hq
    exact itoa_no_comma z
theorem vals_itoa (zs : List Int) (h : zs.all inV = true) : (zs.map Lib.itoa).map valP = zs ∧ (zs.map Lib.itoa).all okQ = true := by
  induction zs with
  | nil => exact ⟨rfl, rfl⟩
  | cons a r ih =>
    rw [List.all_cons, Bool.and_eq_true] at h
    have := ih h.2
    have hr := readDec_text a h.1
    have hv : valP (Lib.itoa a) = a := by unfold valP; rw [hr]; rfl
    have hn : numP (Lib.itoa a) = true := by unfold numP; rw [hr]; rfl
    refine ⟨by rw [List.map_cons, List.map_cons, this.1, hv], ?_⟩
    rw [List.map_cons, List.all_cons, this.2]
    unfold okQ
    rw [hn, hv, h.1]; rfl
theorem read_list (zs : List Int) (h : fitsL zs = true) (h0 : 0 < zs.length) : readL (listL zs) = some zs := by
  have hf := fitsL_true h
  have hl : listL zs = commaL zs := by unfold listL; rw [if_pos h, if_neg (by omega)]
  have hs := split_comma zs h0
  have hv := vals_itoa zs hf.1
  rw [hl]
  unfold readL
  have hne : commaL zs ≠ [45] := fun e => by
    rw [e] at hs
    have e1 : splitGo 44 [] [45] = [[45]] := rfl
    rw [e1] at hs
    have h2 := hv.2
    rw [← hs] at h2
    exact absurd h2 (by decide)
  rw [if_neg hne, hs, if_pos ⟨by rw [List.length_map]; exact hf.2, hv.2⟩, hv.1]
theorem listL_size (zs : List Int) (h : fitsL zs = true) : (listL zs).length ≤ 1408 := by
  have hf := fitsL_true h
  unfold listL
  rw [if_pos h]
  split
  · simp
  · have := commaL_bd zs hf.1
    omega

end Go.Proofs.YtmopnkkpcgiafabGreatDoor
