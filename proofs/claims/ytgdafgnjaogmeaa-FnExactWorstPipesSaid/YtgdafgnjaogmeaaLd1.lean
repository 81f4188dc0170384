import Derived.Test.YtgdafgnjaogmeaaBd2
import Derived.Test.YtgdafgnjaogmeaaMg1f22ea59
import Derived.Test.YtgdafgnjaogmeaaB6
import Derived.Test.YtgdafgnjaogmeaaP2
import Derived.Deep.RegionHeld3
/-
  Chapter 5: what makes a building valid, its load.
-/
namespace Go.Proofs.Ytgdafgnjaogmeaa
open Go.ChangeShapes Go.WideShapes Go.ChangeAt Go.RowKit

set_option maxRecDepth 100000
set_option linter.unusedVariables false

/-- a building that is valid -/
def Bl.ok (d : Bl) : Bool := nameL d.id.data.toList && (inB d.nd 0 15 && (inB d.ba 0 1000000 && (inB d.sl 0 100000 && (inB d.li (-4000) 4500 && (decide (d.pr.length = 24) && allIn 0 3000 d.pr)))))
theorem Bl.ok_parts {d : Bl} (h : d.ok = true) : nameL d.id.data.toList = true ∧ inB d.nd 0 15 = true ∧ inB d.ba 0 1000000 = true ∧ inB d.sl 0 100000 = true ∧ inB d.li (-4000) 4500 = true ∧ d.pr.length = 24 ∧ allIn 0 3000 d.pr = true := by
  unfold Bl.ok at h
  simp only [Bool.and_eq_true, decide_eq_true_eq] at h
  exact h

/-- the load of a building -/
def loadI (d : Bl) (t h : Int) : Int := nearI (d.ba * d.pr.getD h.toNat 0) 1000 + nearI (d.sl * max 0 (d.li - t)) 100
theorem pr_bd {d : Bl} (h : d.ok = true) (k : Nat) : 0 ≤ d.pr.getD k 0 ∧ d.pr.getD k 0 ≤ 3000 := by
  have h7 := (Bl.ok_parts h).2.2.2.2.2.2
  by_cases hk : k < d.pr.length
  · unfold allIn at h7
    have := List.all_eq_true.1 h7 d.pr[k] (List.getElem_mem hk)
    have e : d.pr.getD k 0 = d.pr[k] := by simp [List.getD, hk]
    rw [e]
    simpa using this
  · have e : d.pr.getD k 0 = 0 := by simp [List.getD, Nat.le_of_not_lt hk]
    rw [e]; omega
theorem load_parts {d : Bl} (h : d.ok = true) (t : Int) (ht0 : -4000 ≤ t) (ht1 : t ≤ 4500) (k : Nat) :
    (0 ≤ d.ba * d.pr.getD k 0 ∧ d.ba * d.pr.getD k 0 ≤ 3000000000) ∧ (0 ≤ max 0 (d.li - t) ∧ max 0 (d.li - t) ≤ 8500) ∧ (0 ≤ d.sl * max 0 (d.li - t) ∧ d.sl * max 0 (d.li - t) ≤ 850000000) := by
  obtain ⟨-, -, h2, h3, h4, -, -⟩ := Bl.ok_parts h
  have h2 := inB_iff.1 h2
  have h3 := inB_iff.1 h3
  have h4 := inB_iff.1 h4
  have hp := pr_bd h k
  have hm : 0 ≤ max 0 (d.li - t) ∧ max 0 (d.li - t) ≤ 8500 := by omega
  have a1 := Int.mul_le_mul h2.2 hp.2 hp.1 (by omega)
  have a2 := Int.mul_nonneg h2.1 hp.1
  have b1 := Int.mul_le_mul h3.2 hm.2 hm.1 (by omega)
  have b2 := Int.mul_nonneg h3.1 hm.1
  exact ⟨⟨a2, by omega⟩, hm, ⟨b2, by omega⟩⟩
theorem near_le (a b c : Int) (hb : 0 < b) (h0 : 0 ≤ a) (h : a ≤ c * b) : 0 ≤ nearI a b ∧ nearI a b ≤ c :=
  ⟨nearI_nonneg a b hb h0, by have := nearI_mono a (c * b) b hb h; rw [nearI_whole c b hb] at this; exact this⟩
theorem load_bd {d : Bl} (h : d.ok = true) (t : Int) (ht0 : -4000 ≤ t) (ht1 : t ≤ 4500) (h' : Int) : 0 ≤ loadI d t h' ∧ loadI d t h' ≤ 11500000 := by
  obtain ⟨⟨a0, a1⟩, -, ⟨b0, b1⟩⟩ := load_parts h t ht0 ht1 h'.toNat
  have := near_le _ 1000 3000000 (by omega) a0 (by omega)
  have := near_le _ 100 8500000 (by omega) b0 (by omega)
  unfold loadI
  omega

theorem prCell (x : Bd) (w : World) (hz : CellsAt w x.prA (x.d.pr.map (Value.int .i64))) (h : x.d.pr.length = 24) (k : Nat) (hk : k < 24) : ∃ b o, x.prA = some ⟨b, o, none⟩ ∧ w.cell? ⟨b, o + k, none⟩ = some (.int .i64 (x.d.pr.getD k 0)) := by
  obtain ⟨b, o, e, hrow⟩ := hz (by rw [List.length_map, h]; omega)
  refine ⟨b, o, e, ?_⟩
  have := hrow k (by rw [List.length_map, h]; exact hk)
  rw [this]
  have hkl : k < x.d.pr.length := by rw [h]; exact hk
  simp [List.getD, hkl]
end Go.Proofs.Ytgdafgnjaogmeaa
