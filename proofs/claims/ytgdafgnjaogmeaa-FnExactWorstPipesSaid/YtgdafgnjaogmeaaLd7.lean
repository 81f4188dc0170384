import Derived.Test.YtgdafgnjaogmeaaMg65f5718b
import Derived.Deep.RegionWith
import Derived.Laws.OwnMore
/-
  NodeLoads of both sides.
-/
namespace Go.Proofs.Ytgdafgnjaogmeaa
open Go.ChangeShapes Go.WideShapes Go.ChangeAt Go.RowKit

set_option maxRecDepth 100000
set_option maxHeartbeats 4000000
set_option linter.unusedVariables false

def addAt (l : List Int) (i : Nat) (v : Int) : List Int := l.set i (l.getD i 0 + v)
theorem addAt_length (l : List Int) (i : Nat) (v : Int) : (addAt l i v).length = l.length := by simp [addAt]
theorem addAt_bd (l : List Int) (i : Nat) (v K M : Int) (h : ∀ z ∈ l, 0 ≤ z ∧ z ≤ K) (hv0 : 0 ≤ v) (hv : K + v ≤ M) (hi : i < l.length) : ∀ z ∈ addAt l i v, 0 ≤ z ∧ z ≤ M := by
  intro z hz
  unfold addAt at hz
  have h0 := h (l.getD i 0) (by simp [List.getD, hi])
  rcases List.mem_or_eq_of_mem_set hz with h1 | h1
  · have := h z h1; omega
  · omega
def nodesTo (ds : List Bl) (n : Nat) (t h : Int) (k : Nat) : List Int := (ds.take k).foldl (fun l d => addAt l d.nd.toNat (loadI d t h)) (List.replicate n 0)
theorem nodesTo_zero (ds : List Bl) (n : Nat) (t h : Int) : nodesTo ds n t h 0 = List.replicate n 0 := by simp [nodesTo]
theorem nodesTo_succ (ds : List Bl) (n : Nat) (t h : Int) (k : Nat) (d : Bl) (hd : ds[k]? = some d) : nodesTo ds n t h (k + 1) = addAt (nodesTo ds n t h k) d.nd.toNat (loadI d t h) := by
  unfold nodesTo
  rw [List.take_add_one, hd]
  simp
theorem foldAdd_length (f : Bl → Nat) (g : Bl → Int) : ∀ (ds : List Bl) (l : List Int), (ds.foldl (fun l d => addAt l (f d) (g d)) l).length = l.length
  | [], _ => rfl
  | d :: r, l => by rw [List.foldl_cons, foldAdd_length f g r, addAt_length]
theorem nodesTo_length (ds : List Bl) (n : Nat) (t h : Int) (k : Nat) : (nodesTo ds n t h k).length = n := by
  unfold nodesTo
  rw [foldAdd_length, List.length_replicate]
theorem nodesTo_bd (ds : List Bl) (n : Nat) (t h : Int) (hok : ds.all Bl.ok = true) (hin : ∀ d ∈ ds, 0 ≤ d.nd ∧ d.nd.toNat < n) (ht0 : -4000 ≤ t) (ht1 : t ≤ 4500) : ∀ k, k ≤ ds.length → ∀ z ∈ nodesTo ds n t h k, 0 ≤ z ∧ z ≤ (k : Int) * 11500000
  | 0, _, z, hz => by
    rw [nodesTo_zero] at hz
    have := List.eq_of_mem_replicate hz
    omega
  | k + 1, hk, z, hz => by
    have hlt : k < ds.length := by omega
    have hd := List.getElem?_eq_getElem hlt
    have hm := List.getElem_mem hlt
    rw [nodesTo_succ ds n t h k _ hd] at hz
    have hb := load_bd (List.all_eq_true.1 hok _ hm) t ht0 ht1 h
    exact addAt_bd _ _ _ ((k : Int) * 11500000) _ (nodesTo_bd ds n t h hok hin ht0 ht1 k (by omega)) hb.1 (by omega) (by rw [nodesTo_length]; exact (hin _ hm).2) z hz
def insideB (ds : List Bl) (n : Int) : Bool := ds.all fun d => decide (d.nd < n)
def nlB (n t h : Int) : Bool := inB n 1 16 && (inB t (-4000) 4500 && inB h 0 23)
def nodeLoadsX (ds : List Bl) (n t h : Int) : List Int := if okBs ds && nlB n t h && insideB ds n then nodesTo ds n.toNat t h ds.length else []
def nodeLoadsC (ds : List Bl) (n t h : Int) : Int := if okBs ds then (if nlB n t h then (if insideB ds n then 0 else 6) else 2) else 1
theorem nodeLoadsX_short (ds : List Bl) (n t h : Int) : (nodeLoadsX ds n t h).length ≤ 1048576 := by
  unfold nodeLoadsX
  split
  · rename_i hh
    simp only [Bool.and_eq_true, nlB, inB_iff] at hh
    rw [nodesTo_length]
    omega
  · simp
theorem intsV_set (l : List Int) (i : Nat) (v : Int) : (intsV l).set i (.int .i64 (l.getD i 0 + v)) = intsV (addAt l i v) := by
  unfold intsV addAt
  rw [List.map_set]
theorem fill_zero (n : Nat) : (madeCells (Value.int .i64 0).cells (n * 1)).toList = intsV (List.replicate n 0) := by
  rw [Nat.mul_one]
  show (madeCells #[.int .i64 0] n).toList = _
  rw [toList_madeCells_one]
  simp [intsV]

theorem out_at {w : World} {base g c n : Nat} {L : List Int} {i : Nat} (hro : w.ownsRow base 2 1 (.slice (some ⟨g, 0, none⟩) n c) n (intsV L)) (hL : L.length = n) (hi : i < n) : w.cell? ⟨g, i, none⟩ = some (.int .i64 (L.getD i 0)) ∧ w.frozen? ⟨g, i, none⟩ = false := by
  have hc1 := hro.cellAt i (by omega)
  rw [intsV_at _ _ (by omega)] at hc1
  have hge : L[i]'(by omega) = L.getD i 0 := by simp [List.getD, show i < L.length by omega]
  rw [hge] at hc1
  exact ⟨hc1, hro.frozenAt i⟩
theorem nodesTo_take (ds : List Bl) (n : Nat) (t h : Int) (k : Nat) : nodesTo (ds.take k) n t h k = nodesTo ds n t h k := by unfold nodesTo; rw [List.take_take, Nat.min_self]
theorem nodes_parts {ds : List Bl} {m t h : Int} (ho : okBs ds = true) (hr : nlB m t h = true) (hi : insideB ds m = true) : nodeLoadsX ds m t h = nodesTo ds m.toNat t h ds.length ∧ nodeLoadsC ds m t h = 0 := by
  unfold nodeLoadsX nodeLoadsC
  rw [ho, hr, hi]
  exact ⟨rfl, rfl⟩
end Go.Proofs.Ytgdafgnjaogmeaa
