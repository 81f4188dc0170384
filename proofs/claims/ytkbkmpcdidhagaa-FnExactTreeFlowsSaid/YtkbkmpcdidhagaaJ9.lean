/-
  NetworkTree of the model, IsTree of both sides.
-/
import Derived.Test.YtkbkmpcdidhagaaJ4
import Derived.Test.YtkbkmpcdidhagaaJ8
import Derived.Deep.RegionHeld3
import Derived.IntWalk
namespace Go.Proofs.Ytkbkmpcdidhagaa
open Go.ChangeShapes Go.WideShapes Go.ChangeAt Go.RowKit
set_option maxRecDepth 100000
set_option linter.unusedVariables false

/-- a network that is a tree -/
def isTreeB (z : List Int) (ps : List Pp) : Bool := netB z ps && (decide (ps.length + 1 = z.length) && decide ((treeTo noneClosed z.length ps ps.length).length = ps.length))
theorem implIsTree_b (A B : Option Addr) (c d : Nat) (z : List Int) (ps : List Pp) (w : World) (h : NetCells w A z B ps) (hn : z.length ≤ 1048576) (hm : ps.length ≤ 1048576) (hid : ∀ p ∈ ps, p.id.size ≤ maxLen) :
    Calls Try.prog 124 #[.agg #[.slice A z.length c, .slice B ps.length d]] w fun e w' => e = .returned (.bool (isTreeB z ps)) ∧ Below w.heap.size w w' := by
  have hN := NetAt.new w A z.length c B ps.length d 31
  have hb : Below w.heap.size w (w.alloc (.cells #[.slice A z.length c, .slice B ps.length d] 31)) := bal (Below.refl _ _) _
  have HT := Lib.hid (implNetworkTree_ic A B c d z ps _ (h.next hb) hn hm hid)
  clear h hid
  have ⟨n0, n1⟩ := hN
  by_cases hv : netB z ps = true
  · have hX : networkTreeX z ps = treeTo noneClosed z.length ps ps.length := if_pos hv
    have hC : networkTreeC z ps = 0 := if_pos hv
    rw [hX, hC] at HT
    have hp := netB_parts hv
    have hs := treeTo_short noneClosed z.length ps ps.length
    have hV : isTreeB z ps = (decide (ps.length + 1 = z.length) && decide ((treeTo noneClosed z.length ps ps.length).length = ps.length)) := by unfold isTreeB; rw [hv]; rfl
    generalize treeTo noneClosed z.length ps ps.length = T at *
    have HV := Lib.hid hV
    have hz1 := hp.1.1
    clear hX hC hv hp hV
    go_enter Try.func124, Try.ntmps124
    go_wp2_with fail
    refine HT.out.mono ?_
    rintro e w1 ⟨A3, c3, rfl, o3, hb1⟩
    have hN := hN.next hb1
    have hb := bnext hb hb1
    clear n0 n1 hb1 o3
    have ⟨n0, n1⟩ := hN
    by_cases ht : T.length = ps.length
    · have ht1 : ((T.length : Int) == (ps.length : Int)) = true := by rw [beq_iff_eq]; omega
      have HE : Hid (((ps.length : Int) == (z.length : Int) - 1) = isTreeB z ps) := Lib.hid (by
        rw [HV.out]
        by_cases h1 : ps.length + 1 = z.length
        · have h2 : ((ps.length : Int) == (z.length : Int) - 1) = true := by simp; omega
          rw [h2, decide_eq_true h1, decide_eq_true ht]; rfl
        · have h2 : ((ps.length : Int) == (z.length : Int) - 1) = false := by simp; omega
          rw [h2, decide_eq_false h1]; rfl)
      have HE2 : Hid (((T.length : Int) == (z.length : Int) - 1) = isTreeB z ps) := Lib.hid (by rw [ht]; exact HE.out)
      clear ht
      go_wp2
      go_ret
      exact ⟨by first | exact ret_bool HE.out | exact ret_bool HE2.out, hb⟩
    · have ht1 : ((T.length : Int) == (ps.length : Int)) = false := by rw [beq_eq_false_iff_ne]; omega
      have HE : Hid (isTreeB z ps = false) := Lib.hid (by rw [HV.out, decide_eq_false ht]; simp)
      clear ht
      go_wp2
      go_ret
      exact ⟨by rw [HE.out]; rfl, hb⟩
  · have hv : netB z ps = false := by simpa using hv
    have hX : networkTreeX z ps = [] := by unfold networkTreeX; rw [hv]; rfl
    have hC : networkTreeC z ps = 1 := by unfold networkTreeC; rw [hv]; rfl
    rw [hX, hC] at HT
    have HV : Hid (isTreeB z ps = false) := Lib.hid (by unfold isTreeB; rw [hv]; rfl)
    clear hX hC hv
    go_enter Try.func124, Try.ntmps124
    go_wp2_with fail
    refine HT.out.mono ?_
    rintro e w1 ⟨A3, c3, rfl, o3, hb1⟩
    have hb := bnext hb hb1
    go_wp2
    go_ret
    exact ⟨by rw [HV.out]; rfl, hb⟩

theorem l04IsTree_any (bn : Nat) (A : Option Addr) (c : Nat) (B : Option Addr) (d : Nat) (z : List Int) (ps : List Pp) (w : World) (hN : NetAt w bn A z.length c B ps.length d) (hn0 : 0 < z.length) (hn : z.length ≤ 16) (hm : ps.length ≤ 20)
    (hB : CellsAt w B (rowsP ps)) (hfit : ps.all (fitB z.length) = true) :
    Calls Try.prog 121 #[.pointer (some ⟨bn, 0, none⟩)] w fun e w' => e = .returned (.bool (decide (ps.length + 1 = z.length) && decide ((treeTo noneClosed z.length ps ps.length).length = ps.length))) ∧ Below w.heap.size w w' := by
  have HT := Lib.hid (fun k => l04Tree_any bn A z.length c B ps.length d ps (w.drewN k) hN hn0 hn rfl hm hB hfit)
  have hbn := hN.lies
  have hs := treeTo_short noneClosed z.length ps ps.length
  have HN := Lib.hid hN
  have ⟨n0, n1⟩ := hN
  clear hN hB hfit
  unfold noneClosed at *
  generalize treeTo (closedBy []) z.length ps ps.length = T at *
  by_cases h1 : ps.length + 1 = z.length
  · rw [decide_eq_true h1, Bool.true_and]
    generalize z.length = nz at *
    have hw : IntKind.i64.wrap ((nz : Int) - 1) = (ps.length : Int) := by rw [show (nz : Int) - 1 = (ps.length : Int) by omega]; exact IntWalk.i64_in _ (by omega)
    clear h1
    by_cases ht : T.length = ps.length
    · have ht1 : ((T.length : Int) == (ps.length : Int)) = true := by rw [beq_iff_eq]; omega
      rw [decide_eq_true ht]
      clear ht
      go_enter Try.func121, Try.ntmps121
      go_wp2_with fail
      go_region_held3 (fun w' => w'.cell? ⟨bn, 0, none⟩ = some (.slice A nz c) ∧ w'.cell? ⟨bn, 1, none⟩ = some (.slice B ps.length d)) (exact ⟨n0, n1⟩) ((go_at_call 173; refine (HT.out 1).mono ?_; rintro e w2 ⟨A3, c3, rfl, o3, hb2⟩; rw [intsV_length]; have hb3 := bnext (below_drewN (Below.refl w.heap.size w) 1) hb2; have ⟨n0, n1⟩ := HN.out.next hb3))
      go_wp2
      go_ret
      exact ⟨rfl, hb3⟩
    · have ht1 : ((T.length : Int) == (ps.length : Int)) = false := by rw [beq_eq_false_iff_ne]; omega
      rw [decide_eq_false ht]
      clear ht
      go_enter Try.func121, Try.ntmps121
      go_wp2_with fail
      go_region_held3 (fun w' => w'.cell? ⟨bn, 0, none⟩ = some (.slice A nz c) ∧ w'.cell? ⟨bn, 1, none⟩ = some (.slice B ps.length d)) (exact ⟨n0, n1⟩) ((go_at_call 173; refine (HT.out 1).mono ?_; rintro e w2 ⟨A3, c3, rfl, o3, hb2⟩; rw [intsV_length]; have hb3 := bnext (below_drewN (Below.refl w.heap.size w) 1) hb2; have ⟨n0, n1⟩ := HN.out.next hb3))
      go_wp2
      go_ret
      exact ⟨rfl, hb3⟩
  · have h2 : ((ps.length : Int) == (z.length : Int) - 1) = false := by simp; omega
    rw [decide_eq_false h1, Bool.false_and]
    clear h1
    go_enter Try.func121, Try.ntmps121
    go_wp2_with fail
    go_quiet (fail)
    go_wp2
    go_ret
    exact ⟨rfl, below_drewN (Below.refl _ _) _⟩

end Go.Proofs.Ytkbkmpcdidhagaa
