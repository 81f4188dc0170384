/-
  ReadWave: both sides make the same; a list and a truth.
-/
import Derived.Test.YtkbkmpcdidhagacDoorRp2
namespace Go.Proofs.YtkbkmpcdidhagacDoor
open Go.ChangeShapes Go.WideShapes Go.ChangeAt Go.RowKit

set_option maxRecDepth 100000
set_option maxHeartbeats 1600000
set_option linter.unusedVariables false

def rdS (p : List UInt8) : Sp := ptSp (rdPt p)
theorem idx_none (r : List UInt8) (h : ∀ x ∈ r, x ≠ 58) : Lib.index r [58] = -1 := by
  induction r with
  | nil => rfl
  | cons c r ih =>
    rw [index_cons, if_neg (h c (List.mem_cons_self ..)), ih (fun x hx => h x (List.mem_cons_of_mem _ hx)), if_pos rfl]
theorem numP_clean {r : List UInt8} (h : numP r = true) : ∀ x ∈ r, x ≠ 58 := by
  have hb : badNum r = false := by
    unfold numP readDec at h
    cases hb : badNum r with
    | false => rfl
    | true => rw [hb] at h; cases h
  obtain ⟨-, -, -, hd⟩ := goodNum hb
  have hm : ∀ x ∈ magOf r, x ≠ 58 := fun x hx e => by
    have := List.all_eq_true.1 hd x hx
    subst e
    exact absurd this (by decide)
  intro x hx
  unfold magOf at hm
  split at hm
  · rename_i h45
    cases r with
    | nil => cases hx
    | cons a r =>
      rcases List.mem_cons.1 hx with rfl | hx
      · simp at h45; rw [h45]; decide
      · exact hm x (by simpa using hx)
  · exact hm x hx
theorem part_same (p : List UInt8) : rdOk p = mdOk p ∧ (mdOk p = true → rdS p = mdP p) := by
  obtain ⟨s1, s2⟩ := split_index 58 p []
  by_cases hi : Lib.index p [58] = -1
  · have hc : Lib.cut p [58] = (p, [], false) := by unfold Lib.cut; rw [if_neg (by omega)]
    have hq := s1 hi
    have hr : rdOk p = false := by unfold rdOk cutA cutB; rw [hc]; show (numP p && numP []) = false; rw [numP_nil, Bool.and_false]
    have hm : mdOk p = false := by unfold mdOk; rw [hq]
    exact ⟨by rw [hr, hm], fun h => by rw [hm] at h; cases h⟩
  · obtain ⟨i, hn⟩ : ∃ i : Nat, Lib.index p [58] = i := by
      refine ⟨(Lib.index p [58]).toNat, ?_⟩
      have := Lib.index_ge p [58]
      omega
    have hc : Lib.cut p [58] = (p.take i, p.drop (i + 1), true) := by
      unfold Lib.cut
      rw [if_pos (by omega), hn]
      rfl
    have hq := s2 i hn
    rw [List.nil_append] at hq
    have hr : rdOk p = (numP (p.take i) && numP (p.drop (i + 1))) := by unfold rdOk cutA cutB; rw [hc]
    have hrp : rdS p = ⟨valP (p.take i), valP (p.drop (i + 1))⟩ := by unfold rdS rdPt ptSp cutA cutB; rw [hc]
    obtain ⟨r1, r2⟩ := split_index 58 (p.drop (i + 1)) []
    by_cases hj : Lib.index (p.drop (i + 1)) [58] = -1
    · rw [r1 hj, List.nil_append] at hq
      have hm : mdOk p = (numP (p.take i) && numP (p.drop (i + 1))) := by unfold mdOk; rw [hq]
      have hmp : mdP p = ⟨valP (p.take i), valP (p.drop (i + 1))⟩ := by unfold mdP; rw [hq]
      exact ⟨by rw [hr, hm], fun _ => by rw [hrp, hmp]⟩
    · have hf : numP (p.drop (i + 1)) = false := by
        cases hb : numP (p.drop (i + 1)) with
        | false => rfl
        | true => exact absurd (idx_none _ (numP_clean hb)) hj
      obtain ⟨j, hn2⟩ : ∃ j : Nat, Lib.index (p.drop (i + 1)) [58] = j := by
        refine ⟨(Lib.index (p.drop (i + 1)) [58]).toNat, ?_⟩
        have := Lib.index_ge (p.drop (i + 1)) [58]
        omega
      rw [r2 j hn2] at hq
      have hm : mdOk p = false := by
        unfold mdOk
        rw [hq]
        cases hz : splitGo 58 [] ((p.drop (i + 1)).drop (j + 1)) with
        | nil => exact absurd hz (splitGo_ne 58 _ [])
        | cons z zs => rfl
      exact ⟨by rw [hr, hf, hm, Bool.and_false], fun h => by rw [hm] at h; cases h⟩
theorem all_same (ps : List (List UInt8)) : ps.all rdOk = ps.all mdOk ∧ (ps.all mdOk = true → ps.map rdS = ps.map mdP) := by
  induction ps with
  | nil => exact ⟨rfl, fun _ => rfl⟩
  | cons p r ih =>
    obtain ⟨h1, h2⟩ := part_same p
    refine ⟨by rw [List.all_cons, List.all_cons, h1, ih.1], fun h => ?_⟩
    rw [List.all_cons, Bool.and_eq_true] at h
    rw [List.map_cons, List.map_cons, h2 h.1, ih.2 h.2]
theorem read_same (s : ByteArray) : implW s = readW s := by
  have hI : ∀ o, readPts 24 s = o → implW s = if okW ((o.getD []).map ptSp) = true then some ((o.getD []).map ptSp) else none := by
    intro o h
    unfold implW
    rw [h]
  have hno : implW s = none ∨ readPts 24 s ≠ none := by
    by_cases h : readPts 24 s = none
    · left
      rw [hI _ h]
      rfl
    · exact .inr h
  have hnone : readPts 24 s = none → implW s = none := fun h => by rcases hno with h2 | h2; exact h2; exact absurd h h2
  clear hno
  have hsl := splitGo_length 32 s.data.toList []
  obtain ⟨h1, h2⟩ := splitK_eq 32 (min 25 (s.data.toList.length + 1) - 1) s.data.toList
  have hW : readW s = if (splitGo 32 [] s.data.toList).all mdOk = true ∧ okW ((splitGo 32 [] s.data.toList).map mdP) = true then some ((splitGo 32 [] s.data.toList).map mdP) else none := rfl
  have hP : readPts 24 s = if (partsN 25 s).length ≤ 24 ∧ (partsN 25 s).all rdOk = true then some ((partsN 25 s).map rdPt) else none := rfl
  by_cases h24 : (splitGo 32 [] s.data.toList).length ≤ min 25 (s.data.toList.length + 1) - 1 + 1
  · have e : partsN 25 s = splitGo 32 [] s.data.toList := h1 h24
    rw [e] at hP
    obtain ⟨a1, a2⟩ := all_same (splitGo 32 [] s.data.toList)
    by_cases hl : (splitGo 32 [] s.data.toList).length ≤ 24
    · by_cases hm : (splitGo 32 [] s.data.toList).all mdOk = true
      · rw [if_pos ⟨hl, by rw [a1]; exact hm⟩] at hP
        have e2 : (((some ((splitGo 32 [] s.data.toList).map rdPt)).getD []).map ptSp : List Sp) = (splitGo 32 [] s.data.toList).map mdP := by
          rw [← a2 hm]
          show List.map ptSp (List.map rdPt _) = _
          rw [List.map_map]; rfl
        rw [hI _ hP, e2, hW]
        by_cases ho : okW ((splitGo 32 [] s.data.toList).map mdP) = true
        · rw [if_pos ho, if_pos ⟨hm, ho⟩]
        · rw [if_neg ho, if_neg (fun h => ho h.2)]
      · rw [if_neg (fun h => hm (by rw [← a1]; exact h.2))] at hP
        rw [hnone hP, hW, if_neg (fun h => hm h.1)]
    · rw [if_neg (fun h => hl h.1)] at hP
      rw [hnone hP, hW, if_neg (fun h => by have := (okW_parts h.2).2.1; rw [List.length_map] at this; omega)]
  · have hl : (partsN 25 s).length = min 25 (s.data.toList.length + 1) - 1 + 1 := h2 (by omega)
    have hlong : ¬ (splitGo 32 [] s.data.toList).length ≤ 24 := by omega
    have hl25 : ¬ (partsN 25 s).length ≤ 24 := by omega
    rw [if_neg (fun h => hl25 h.1)] at hP
    rw [hnone hP, hW, if_neg (fun h => by have := (okW_parts h.2).2.1; rw [List.length_map] at this; omega)]
def RetSpB (X : List Sp) (C : Bool) (w : World) (e : Ending) (w' : World) : Prop :=
  ∃ A c, e = .returned (.tuple #[.slice A X.length c, .bool C]) ∧ w'.ownsRow w.heap.size 35 2 (.slice A X.length c) X.length (rowsF Sp.cs X) ∧ Below w.heap.size w w'
def readWaveX (s : ByteArray) : List Sp := (readW s).getD []
def readWaveC (s : ByteArray) : Bool := (readW s).isSome
theorem retSpB_of {s : ByteArray} {w w' : World} {e : Ending} (h : RetSpO (readW s) w e w') : RetSpB (readWaveX s) (readWaveC s) w e w' := by
  unfold readWaveX readWaveC
  rcases h with ⟨l, e1, A, c, e2, e3, e4⟩ | ⟨e1, e2, e3⟩
  · rw [e1]
    exact ⟨A, c, e2, e3, e4⟩
  · rw [e1]
    exact ⟨none, 0, e2, World.ownsRow_nil _ _ _ _, e3⟩
theorem readWaveX_short (s : ByteArray) : (readWaveX s).length ≤ 1048576 := by
  unfold readWaveX readW
  split
  · rename_i h
    have := (okW_parts h.2).2.1
    show (List.map mdP (splitGo 32 [] s.data.toList)).length ≤ _
    omega
  · exact Nat.zero_le _
theorem specReadWave_ic (s : ByteArray) (w : World) (hs : s.size ≤ 1048576) : Calls Tryd.prog 10 #[.string s] w (RetSpB (readWaveX s) (readWaveC s) w) :=
  (specReadWave_any s w hs).mono fun _ _ h => retSpB_of h
theorem implReadWave_ic (s : ByteArray) (w : World) (hs : s.size ≤ 1048576) (hm : MaxVar w) (hv : ErrVars w) (ht : PowTab w) : Calls Tryd.prog 11 #[.string s] w (RetSpB (readWaveX s) (readWaveC s) w) :=
  (implReadWave_any s w hs hm hv ht).mono fun _ _ h => retSpB_of (by rw [← read_same]; exact h)

end Go.Proofs.YtkbkmpcdidhagacDoor
