/-
  NetworkParts and NetworkTree of the program.
-/
import Derived.Test.YtkbkmpcdidhagaaJ3
import Derived.Test.YtkbkmpcdidhagaaH8
namespace Go.Proofs.Ytkbkmpcdidhagaa
open Go.ChangeShapes Go.WideShapes Go.ChangeAt Go.RowKit
set_option maxRecDepth 100000
set_option linter.unusedVariables false

def noneClosed : Nat → Bool := closedBy []
def networkPartsX (z : List Int) (ps : List Pp) : List Int := if netB z ps then partsTo noneClosed z.length ps ps.length else []
def networkPartsC (z : List Int) (ps : List Pp) : Int := if netB z ps then 0 else 1
def networkTreeX (z : List Int) (ps : List Pp) : List Int := if netB z ps then treeTo noneClosed z.length ps ps.length else []
def networkTreeC (z : List Int) (ps : List Pp) : Int := if netB z ps then 0 else 1
theorem networkPartsX_short (z : List Int) (ps : List Pp) (hn : z.length ≤ 1048576) (hm : ps.length ≤ 1048576) : (networkPartsX z ps).length ≤ 1048576 := by
  unfold networkPartsX
  split
  · rw [partsTo_length]; exact hn
  · simp
theorem networkTreeX_short (z : List Int) (ps : List Pp) (hn : z.length ≤ 1048576) (hm : ps.length ≤ 1048576) : (networkTreeX z ps).length ≤ 1048576 := by
  unfold networkTreeX
  split
  · exact Nat.le_trans (treeTo_short _ _ _ _) hm
  · simp

theorem implNetworkTree_ic (A B : Option Addr) (c d : Nat) (z : List Int) (ps : List Pp) (w : World) (h : NetCells w A z B ps) (hn : z.length ≤ 1048576) (hm : ps.length ≤ 1048576) (hid : ∀ p ∈ ps, p.id.size ≤ maxLen) :
    Calls Try.prog 174 #[.agg #[.slice A z.length c, .slice B ps.length d]] w (RetIC (networkTreeX z ps) (networkTreeC z ps) w) := by
  have hN := NetAt.new w A z.length c B ps.length d 31
  have hb : Below w.heap.size w (w.alloc (.cells #[.slice A z.length c, .slice B ps.length d] 31)) := bal (Below.refl _ _) _
  have HV := Lib.hid (implValidNet_any A z.length c B ps.length d z ps _ rfl rfl hn hm (h.next hb).1 (h.next hb).2 hid)
  have HC := Lib.hid h
  clear h hid
  have ⟨n0, n1⟩ := hN
  by_cases hv : netB z ps = true
  · have hX : networkTreeX z ps = treeTo noneClosed z.length ps ps.length := if_pos hv
    have hC : networkTreeC z ps = 0 := if_pos hv
    rw [hX, hC]
    rw [hv] at HV
    have hp := netB_parts hv
    have HP := Lib.hid hp
    clear hX hC hv hp
    go_enter Try.func174, Try.ntmps174
    go_wp2_with fail
    refine HV.out.mono ?_
    rintro e w1 ⟨rfl, hb1⟩
    have hN := hN.next hb1
    have hb := bnext hb hb1
    clear n0 n1 hb1
    have ⟨n0, n1⟩ := hN
    go_wp2_with fail
    refine (newGrid_any A z.length c B ps.length d none 0 [] _ (by simp) (CellsAt.nil _ _) (fun x hx => by cases hx)).mono ?_
    rintro e w2 ⟨b, rfl, hlb, hG, hb2⟩
    have hN := hN.next hb2
    have hb := bnext hb hb2
    clear n0 n1 hb2
    have ⟨n0, n1⟩ := hN
    go_wp2_with fail
    refine (joined_any A z.length c B ps.length d b ps noneClosed _ (by have := HP.out.1; omega) hn rfl HP.out.2.2.1 hG (HC.out.2.next hb) HP.out.2.2.2.1).mono ?_
    rintro e w3 ⟨A3, c3, B3, d3, rfl, o3, q3, hb3⟩
    have hs := hb.size
    have hb := bnext hb hb3
    clear n0 n1 hG
    go_wp2
    go_ret2
    exact retIC_mk rfl q3 hs hb
  · have hv : netB z ps = false := by simpa using hv
    have hX : networkTreeX z ps = [] := by unfold networkTreeX; rw [hv]; rfl
    have hC : networkTreeC z ps = 1 := by unfold networkTreeC; rw [hv]; rfl
    rw [hX, hC]
    rw [hv] at HV
    clear hX hC hv
    go_enter Try.func174, Try.ntmps174
    go_wp2_with fail
    refine HV.out.mono ?_
    rintro e w1 ⟨rfl, hb1⟩
    have hb := bnext hb hb1
    go_wp2
    go_ret2
    exact retIC_nil rfl hb

end Go.Proofs.Ytkbkmpcdidhagaa
