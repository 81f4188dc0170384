import Derived.Test.YtdfohpdhghdpkaaJ3
import Derived.Test.YtdfohpdhghdpkaaH8
import Derived.Test.YtdfohpdhghdpkaaJ0
/-
  NetworkParts and NetworkTree of the program.
-/
namespace Go.Proofs.Ytdfohpdhghdpkaa
open Go.ChangeShapes Go.WideShapes Go.ChangeAt Go.RowKit
set_option maxRecDepth 100000
set_option linter.unusedVariables false

def noneClosed : Nat → Bool := closedBy []
def networkPartsX (z : List Int) (ps : List Pp) : List Int := if netB z ps then partsTo noneClosed z.length ps ps.length else []
def networkPartsC (z : List Int) (ps : List Pp) : Int := if netB z ps then 0 else 1
def networkTreeX (z : List Int) (ps : List Pp) : List Int := if netB z ps then treeTo noneClosed z.length ps ps.length else []
def networkTreeC (z : List Int) (ps : List Pp) : Int := if netB z ps then 0 else 1
theorem networkPartsX_short (z : List Int) (ps : List Pp) (hn : z.length ≤ 1048576) (hm : ps.length ≤ 1048576) : (networkPartsX z ps).length ≤ 1048576 := by
  unfold networkPartsX
  split
  · rw [partsTo_length]; exact hn
  · simp
theorem networkTreeX_short (z : List Int) (ps : List Pp) (hn : z.length ≤ 1048576) (hm : ps.length ≤ 1048576) : (networkTreeX z ps).length ≤ 1048576 := by
  unfold networkTreeX
  split
  · exact Nat.le_trans (treeTo_short _ _ _ _) hm
  · simp

theorem implNetworkTree_ic (A B : Option Addr) (c d : Nat) (z : List Int) (ps : List Pp) (w : World) (h : NetCells w A z B ps) (hn : z.length ≤ 1048576) (hm : ps.length ≤ 1048576) (hid : ∀ p ∈ ps, p.id.size ≤ maxLen) :
    Calls Try.prog 152 #[.agg #[.slice A z.length c, .slice B ps.length d]] w (RetIC (networkTreeX z ps) (networkTreeC z ps) w) := by
  have hN := NetAt.new w A z.length c B ps.length d 27
  have hb : Below w.heap.size w (w.alloc (.cells #[.slice A z.length c, .slice B ps.length d] 27)) := bal (Below.refl _ _) _
  have HV := Lib.hid (implValidNet_any A z.length c B ps.length d z ps _ rfl rfl hn hm (h.next hb).1 (h.next hb).2 hid)
  have HC := Lib.hid h
  clear h hid
  have ⟨n0, n1⟩ := hN
  by_cases hv : netB z ps = true
  · have hX : networkTreeX z ps = treeTo noneClosed z.length ps ps.length := if_pos hv
    have hC : networkTreeC z ps = 0 := if_pos hv
    rw [hX, hC]
    rw [hv] at HV
    have hp := netB_parts hv
    have HP := Lib.hid hp
    clear hX hC hv hp
    go_enter Try.func152, Try.ntmps152
    go_wp2_with fail
    refine HV.out.mono ?_
    rintro e w1 ⟨rfl, hb1⟩
    have hN := hN.next hb1
    have hb := bnext hb hb1
    clear n0 n1 hb1
    have ⟨n0, n1⟩ := hN
    go_wp2_with fail
    refine (newGrid_any A z.length c B ps.length d none 0 [] _ (by simp) (CellsAt.nil _ _) (fun x hx => by cases hx)).mono ?_
    rintro e w2 ⟨b, rfl, hlb, hG, hb2⟩
    have hN := hN.next hb2
    have hb := bnext hb hb2
    clear n0 n1 hb2
    have ⟨n0, n1⟩ := hN
    go_wp2_with fail
    refine (joined_any A z.length c B ps.length d b ps noneClosed _ (by have := HP.out.1; omega) hn rfl HP.out.2.2.1 hG (HC.out.2.next hb) HP.out.2.2.2.1).mono ?_
    rintro e w3 ⟨A3, c3, B3, d3, rfl, o3, q3, hb3⟩
    have hs := hb.size
    have hb := bnext hb hb3
    clear n0 n1 hG
    go_wp2
    go_ret2
    exact retIC_mk rfl q3 hs hb
  · have hv : netB z ps = false := by simpa using hv
    have hX : networkTreeX z ps = [] := by unfold networkTreeX; rw [hv]; rfl
    have hC : networkTreeC z ps = 1 := by unfold networkTreeC; rw [hv]; rfl
    rw [hX, hC]
    rw [hv] at HV
    clear hX hC hv
    go_enter Try.func152, Try.ntmps152
    go_wp2_with fail
    refine HV.out.mono ?_
    rintro e w1 ⟨rfl, hb1⟩
    have hb := bnext hb hb1
    go_wp2
    go_ret2
    exact retIC_nil rfl hb

end Go.Proofs.Ytdfohpdhghdpkaa

/-
  Two ways to number the parts of a network say the same of any two nodes: the mathematics.
-/
namespace Go.Proofs.Ytdfohpdhghdpkaa
open Go.ChangeShapes Go.WideShapes Go.ChangeAt Go.RowKit

/-- two lists tell the same places apart -/
def Alikes (S P : List Int) : Prop := S.length = P.length ∧ ∀ i j, i < P.length → j < P.length → (S.getD i 0 = S.getD j 0 ↔ P.getD i 0 = P.getD j 0)
theorem Alikes.rfl' (P : List Int) : Alikes P P := ⟨rfl, fun _ _ _ _ => Iff.rfl⟩
theorem merge_iff (u v x y : Int) : ((if x = v then u else x) = (if y = v then u else y)) ↔ (x = y ∨ ((x = u ∨ x = v) ∧ (y = u ∨ y = v))) := by
  by_cases h1 : x = v
  · by_cases h2 : y = v
    · rw [if_pos h1, if_pos h2]; omega
    · rw [if_pos h1, if_neg h2]; omega
  · by_cases h2 : y = v
    · rw [if_neg h1, if_pos h2]; omega
    · rw [if_neg h1, if_neg h2]; omega
theorem getD_map (l : List Int) (f : Int → Int) (i : Nat) (h : i < l.length) : (l.map f).getD i 0 = f (l.getD i 0) := by simp [List.getD, h]
theorem Alikes.step {S P : List Int} (h : Alikes S P) (f t : Nat) (hf : f < P.length) (ht : t < P.length) :
    Alikes (S.map fun x => if x = S.getD t 0 then S.getD f 0 else x) (joinL P f t) := by
  unfold joinL getI
  simp only [Int.toNat_natCast]
  refine ⟨by rw [List.length_map, List.length_map, h.1], fun i j hi hj => ?_⟩
  rw [List.length_map] at hi hj
  rw [getD_map _ _ _ (by rw [h.1]; exact hi), getD_map _ _ _ (by rw [h.1]; exact hj), getD_map _ _ _ hi, getD_map _ _ _ hj, merge_iff, merge_iff]
  have a := h.2 i j hi hj
  have b1 := h.2 i f hi hf
  have b2 := h.2 i t hi ht
  have c1 := h.2 j f hj hf
  have c2 := h.2 j t hj ht
  generalize P.getD i 0 = pi at *
  generalize P.getD j 0 = pj at *
  generalize P.getD f 0 = pf at *
  generalize P.getD t 0 = pt at *
  rw [a, b1, b2, c1, c2]
  constructor
  · rintro (h1 | ⟨h1, h2⟩)
    · exact .inl h1
    · right
      constructor <;> omega
  · rintro (h1 | ⟨h1, h2⟩)
    · exact .inl h1
    · right
      constructor <;> omega
theorem joinL_same (P : List Int) (a b : Int) (h : getI P a = getI P b) : joinL P a b = P := by
  unfold joinL
  rw [h]
  have e1 : max (getI P b) (getI P b) = getI P b := by omega
  have e2 : min (getI P b) (getI P b) = getI P b := by omega
  rw [e1, e2]
  have : (fun x => if x = getI P b then getI P b else x) = (id : Int → Int) := by
    funext x
    by_cases hx : x = getI P b
    · rw [if_pos hx, hx]; rfl
    · rw [if_neg hx]; rfl
  rw [this, List.map_id]
end Go.Proofs.Ytdfohpdhghdpkaa
