/-
  NetworkParts of the model.
-/
import Derived.Test.YtmopnkkpcgiafaaJ4
import Derived.Test.YtmopnkkpcgiafaaJ5
namespace Go.Proofs.Ytmopnkkpcgiafaa
open Go.ChangeShapes Go.WideShapes Go.ChangeAt Go.RowKit
set_option maxRecDepth 100000
set_option linter.unusedVariables false

theorem specNetworkParts_ic (A B : Option Addr) (c d : Nat) (z : List Int) (ps : List Pp) (w : World) (h : NetCells w A z B ps) (hn : z.length ≤ 1048576) (hm : ps.length ≤ 1048576) (hid : ∀ p ∈ ps, p.id.size ≤ maxLen) :
    Calls Try.prog 37 #[.agg #[.slice A z.length c, .slice B ps.length d]] w (RetIC (networkPartsX z ps) (networkPartsC z ps) w) := by
  have hN := NetAt.new w A z.length c B ps.length d 30
  have hb : Below w.heap.size w (w.alloc (.cells #[.slice A z.length c, .slice B ps.length d] 30)) := bal (Below.refl _ _) _
  have HV := Lib.hid (l04Ok_any w.heap.size A z.length c B ps.length d z ps _ hN rfl rfl hn hm (h.next hb).1 (h.next hb).2 hid)
  have HC := Lib.hid h
  clear h hid
  by_cases hv : netB z ps = true
  · have hX : networkPartsX z ps = partsTo noneClosed z.length ps ps.length := if_pos hv
    have hC : networkPartsC z ps = 0 := if_pos hv
    rw [hX, hC]
    rw [hv] at HV
    have hp := netB_parts hv
    have HP := Lib.hid hp
    clear hX hC hv hp
    go_enter Try.func37, Try.ntmps37
    go_wp2_with fail
    refine HV.out.mono ?_
    rintro e w1 ⟨rfl, hd⟩
    have hb1 := drawn_below hd
    have hN := hN.next hb1
    have hb := bnext hb hb1
    clear hb1 hd
    have hal : Below w1.heap.size w1 (w1.alloc (.cells #[] 2)) := bal (Below.refl _ _) _
    go_wp2_with fail
    refine (l04Parts_any w.heap.size A z.length c B ps.length d ps (some ⟨w1.heap.size, 0, none⟩) 0 [] _ (hN.next hal) (by have := HP.out.1; omega) HP.out.1.2 rfl HP.out.2.2.1 (HC.out.2.next (bnext hb hal)) HP.out.2.2.2.1 (by simp) (CellsAt.nil _ _)).mono ?_
    rintro e w2 ⟨A3, c3, rfl, o3, hb2⟩
    rw [intsV_length]
    rw [intsV_length] at o3
    have hb3 := bnext hb hal
    have hs := hb3.size
    have hb := bnext hb3 hb2
    go_wp2
    go_ret2
    exact retIC_mk rfl o3 hs hb
  · have hv : netB z ps = false := by simpa using hv
    have hX : networkPartsX z ps = [] := by unfold networkPartsX; rw [hv]; rfl
    have hC : networkPartsC z ps = 1 := by unfold networkPartsC; rw [hv]; rfl
    rw [hX, hC]
    rw [hv] at HV
    clear hX hC hv
    go_enter Try.func37, Try.ntmps37
    go_wp2_with fail
    refine HV.out.mono ?_
    rintro e w1 ⟨rfl, hd⟩
    have hb := bnext hb (drawn_below hd)
    go_wp2
    go_ret2
    exact retIC_nil rfl hb

end Go.Proofs.Ytmopnkkpcgiafaa
