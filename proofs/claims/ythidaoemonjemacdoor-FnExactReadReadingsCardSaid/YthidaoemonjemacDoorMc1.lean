/-
  ReadReadings: both sides make the same.
-/
import Derived.Test.YthidaoemonjemacDoorMc0
namespace Go.Proofs.YthidaoemonjemacDoor
open Go.ChangeShapes Go.WideShapes Go.ChangeAt Go.RowKit

set_option maxRecDepth 100000
set_option maxHeartbeats 1600000
set_option linter.unusedVariables false

theorem idx_none (r : List UInt8) (h : ∀ x ∈ r, x ≠ 58) : Lib.index r [58] = -1 := by
  induction r with
  | nil => rfl
  | cons c r ih =>
    rw [index_cons, if_neg (h c (List.mem_cons_self ..)), ih (fun x hx => h x (List.mem_cons_of_mem _ hx)), if_pos rfl]
theorem numP_clean {r : List UInt8} (h : numP r = true) : ∀ x ∈ r, x ≠ 58 := by
  have hb : badNum r = false := by
    unfold numP readDec at h
    cases hb : badNum r with
    | false => rfl
    | true => rw [hb] at h; cases h
  obtain ⟨-, -, -, hd⟩ := goodNum hb
  have hm : ∀ x ∈ magOf r, x ≠ 58 := fun x hx e => by
    have := List.all_eq_true.1 hd x hx
    subst e
    exact absurd this (by decide)
  intro x hx
  unfold magOf at hm
  split at hm
  · rename_i h45
    cases r with
    | nil => cases hx
    | cons a r =>
      rcases List.mem_cons.1 hx with rfl | hx
      · simp at h45; rw [h45]; decide
      · exact hm x (by simpa using hx)
  · exact hm x hx
theorem part_same (p : List UInt8) : rdOk p = mdOk p ∧ (mdOk p = true → rdP p = mdP p) := by
  obtain ⟨s1, s2⟩ := split_index 58 p []
  by_cases hi : Lib.index p [58] = -1
  · have hc : Lib.cut p [58] = (p, [], false) := by unfold Lib.cut; rw [if_neg (by omega)]
    have hq := s1 hi
    have hr : rdOk p = false := by unfold rdOk cutA cutB; rw [hc]; show (numP p && numP []) = false; rw [numP_nil, Bool.and_false]
    have hm : mdOk p = false := by unfold mdOk; rw [hq]
    exact ⟨by rw [hr, hm], fun h => by rw [hm] at h; cases h⟩
  · obtain ⟨i, hn⟩ : ∃ i : Nat, Lib.index p [58] = i := by
      refine ⟨(Lib.index p [58]).toNat, ?_⟩
      have := Lib.index_ge p [58]
      omega
    have hc : Lib.cut p [58] = (p.take i, p.drop (i + 1), true) := by
      unfold Lib.cut
      rw [if_pos (by omega), hn]
      rfl
    have hq := s2 i hn
    rw [List.nil_append] at hq
    have hr : rdOk p = (numP (p.take i) && numP (p.drop (i + 1))) := by unfold rdOk cutA cutB; rw [hc]
    have hrp : rdP p = ⟨valP (p.take i), valP (p.drop (i + 1))⟩ := by unfold rdP cutA cutB; rw [hc]
    obtain ⟨r1, r2⟩ := split_index 58 (p.drop (i + 1)) []
    by_cases hj : Lib.index (p.drop (i + 1)) [58] = -1
    · rw [r1 hj, List.nil_append] at hq
      have hm : mdOk p = (numP (p.take i) && numP (p.drop (i + 1))) := by unfold mdOk; rw [hq]
      have hmp : mdP p = ⟨valP (p.take i), valP (p.drop (i + 1))⟩ := by unfold mdP; rw [hq]
      exact ⟨by rw [hr, hm], fun _ => by rw [hrp, hmp]⟩
    · have hf : numP (p.drop (i + 1)) = false := by
        cases hb : numP (p.drop (i + 1)) with
        | false => rfl
        | true => exact absurd (idx_none _ (numP_clean hb)) hj
      obtain ⟨j, hn2⟩ : ∃ j : Nat, Lib.index (p.drop (i + 1)) [58] = j := by
        refine ⟨(Lib.index (p.drop (i + 1)) [58]).toNat, ?_⟩
        have := Lib.index_ge (p.drop (i + 1)) [58]
        omega
      rw [r2 j hn2] at hq
      have hm : mdOk p = false := by
        unfold mdOk
        rw [hq]
        cases hz : splitGo 58 [] ((p.drop (i + 1)).drop (j + 1)) with
        | nil => exact absurd hz (splitGo_ne 58 _ [])
        | cons z zs => rfl
      exact ⟨by rw [hr, hf, hm, Bool.and_false], fun h => by rw [hm] at h; cases h⟩
theorem all_same (ps : List (List UInt8)) : ps.all rdOk = ps.all mdOk ∧ (ps.all mdOk = true → ps.map rdP = ps.map mdP) := by
  induction ps with
  | nil => exact ⟨rfl, fun _ => rfl⟩
  | cons p r ih =>
    obtain ⟨h1, h2⟩ := part_same p
    refine ⟨by rw [List.all_cons, List.all_cons, h1, ih.1], fun h => ?_⟩
    rw [List.all_cons, Bool.and_eq_true] at h
    rw [List.map_cons, List.map_cons, h2 h.1, ih.2 h.2]
theorem read_same (s : ByteArray) : implR s = readR s := by
  unfold implR readR
  by_cases he : s.data.toList = []
  · rw [if_pos he, if_pos he]
  rw [if_neg he, if_neg he]
  have hsl := splitGo_length 32 s.data.toList []
  obtain ⟨h1, h2⟩ := splitK_eq 32 (min 49 (s.data.toList.length + 1) - 1) s.data.toList
  by_cases h48 : (splitGo 32 [] s.data.toList).length ≤ min 49 (s.data.toList.length + 1) - 1 + 1
  · have e : partsR s = splitGo 32 [] s.data.toList := h1 h48
    rw [e]
    obtain ⟨a1, a2⟩ := all_same (splitGo 32 [] s.data.toList)
    by_cases hm : (splitGo 32 [] s.data.toList).all mdOk = true
    · rw [a1, a2 hm]
    · rw [if_neg (fun h => hm (by rw [← a1]; exact h.1)), if_neg (fun h => hm h.1)]
  · have hl : (partsR s).length = min 49 (s.data.toList.length + 1) - 1 + 1 := h2 (by omega)
    have hlong : ¬ (splitGo 32 [] s.data.toList).length ≤ 48 := by omega
    have hl49 : (partsR s).length = 49 := by omega
    rw [if_neg (fun h => by have := (okRs_parts h.2).1; rw [List.length_map] at this; omega), if_neg (fun h => by have := (okRs_parts h.2).1; rw [List.length_map] at this; omega)]
theorem specReadReadings_any (s : ByteArray) (w : World) (hs : s.size ≤ 1048576) :
    Calls Tryd.prog 10 #[.string s] w (RetRO (readR s) w) := by
  have HC := Lib.hid (l06Read_any s w hs)
  go_enter Tryd.func10, Tryd.ntmps10
  go_wp2_with (go_at_call 21; refine HC.out.mono ?_; rintro e w1 h1; have H1 := Lib.hid h1; clear h1; rcases H1.out with ⟨l, e1, A, c, rfl, e2, e3⟩ | ⟨e1, rfl, e3⟩)
  · go_ret2
    exact .inl ⟨l, e1, A, c, rfl, e2, e3⟩
  · go_ret2
    exact .inr ⟨e1, rfl, e3⟩

end Go.Proofs.YthidaoemonjemacDoor
