/-
  BuildingText of both sides.
-/
import Derived.Test.YthidaoemonjemabDoorMb2
import Derived.Test.YthidaoemonjemabDoorLd2
import Derived.Deep.RegionHeld3
namespace Go.Proofs.YthidaoemonjemabDoor
open Go.ChangeShapes Go.WideShapes Go.ChangeAt Go.RowKit

set_option maxRecDepth 100000
set_option maxHeartbeats 3200000
set_option linter.unusedVariables false

def fourL (d : Bl) : List Int := [d.nd, d.ba, d.sl, d.li]
/-- a building as a text -/
def blT (d : Bl) : ByteArray := d.id ++ ⟨#[32]⟩ ++ mkB (listL (fourL d)) ++ ⟨#[32]⟩ ++ mkB (listL d.pr)
def buildingTextR0 (d : Bl) : ByteArray := if d.ok = true then blT d else ⟨#[]⟩
theorem four_cellsI (w : World) (E : TypeId) (a b c d : Int) : CellsAt (w.alloc (.cells #[.int .i64 a, .int .i64 b, .int .i64 c, .int .i64 d] E)) (some ⟨w.heap.size, 0, none⟩) (intsV [a, b, c, d]) := by
  intro _
  refine ⟨_, _, rfl, fun j hj => ?_⟩
  rw [intsV_length] at hj
  match j, hj with
  | 0, _ => simp [intsV]
  | 1, _ => simp [intsV]
  | 2, _ => simp [intsV]
  | 3, _ => simp [intsV]
theorem fits_four {d : Bl} (h : d.ok = true) : fitsL (fourL d) = true := by
  obtain ⟨-, h1, h2, h3, h4, -, -⟩ := Bl.ok_parts h
  have a1 := inB_iff.1 h1
  have a2 := inB_iff.1 h2
  have a3 := inB_iff.1 h3
  have a4 := inB_iff.1 h4
  have e : ∀ x : Int, -1000000 ≤ x → x ≤ 1000000 → inV x = true := fun x h0 h1 => inB_true (by omega)
  unfold fitsL fourL
  simp [e d.nd (by omega) (by omega), e d.ba (by omega) (by omega), e d.sl (by omega) (by omega), e d.li (by omega) (by omega)]
theorem allIn_mem (lo hi : Int) (l : List Int) (hl : lo ≤ hi) (h : allIn lo hi l = true) (x : Int) (hx : x ∈ l) : lo ≤ x ∧ x ≤ hi := by
  induction l with
  | nil => cases hx
  | cons v r ih =>
    rw [allIn_cons _ _ _ _ hl, Bool.and_eq_true] at h
    rcases List.mem_cons.1 hx with rfl | hx
    · exact inB_iff.1 h.1
    · exact ih h.2 hx
theorem fits_pr {d : Bl} (h : d.ok = true) : fitsL d.pr = true := by
  obtain ⟨-, -, -, -, -, h5, h6⟩ := Bl.ok_parts h
  unfold fitsL
  rw [Bool.and_eq_true]
  refine ⟨List.all_eq_true.2 fun x hx => ?_, decide_eq_true (by omega)⟩
  have := allIn_mem 0 3000 d.pr (by omega) h6 x hx
  exact inB_true (by omega)
theorem listL_small {zs : List Int} (h : fitsL zs = true) : (mkB (listL zs)).size ≤ 1500 := by
  obtain ⟨h1, h2⟩ := fitsL_true h
  have e : (mkB (listL zs)).size = (listL zs).length := rfl
  rw [e]
  unfold listL
  rw [if_pos h]
  split
  · simp
  · have := commaL_bd zs h1
    omega
theorem id_small {d : Bl} (h : d.ok = true) : d.id.size ≤ 10 := by
  obtain ⟨h0, -⟩ := Bl.ok_parts h
  unfold nameL at h0
  rw [Bool.and_eq_true, decide_eq_true_eq] at h0
  have e : d.id.data.toList.length = d.id.size := rfl
  omega
theorem l05Text_any (b o : Nat) (x : Bd) (w : World) (hO : BdO w b o x) (hx : x.fine w) (ok : x.d.ok = true) :
    Calls Tryd.prog 25 #[.pointer (some ⟨b, o, none⟩)] w fun e w' => e = .returned (.string (blT x.d)) ∧ Below w.heap.size w w' := by
  have HL1 := Lib.hid (fun A c wx (hA : CellsAt wx A (intsV [x.d.nd, x.d.ba, x.d.sl, x.d.li])) => l01List_any A c 4 [x.d.nd, x.d.ba, x.d.sl, x.d.li] wx rfl (fits_four ok) hA)
  have HL2 := Lib.hid (fun wx (hA : CellsAt wx x.prA (intsV x.d.pr)) => l01List_any x.prA x.prc x.d.pr.length x.d.pr wx rfl (fits_pr ok) hA)
  have HPR := Lib.hid (show CellsAt w x.prA (intsV x.d.pr) from hx.2.2.2.1)
  have s0 := id_small ok
  have s1 := listL_small (fits_four ok)
  have s2 := listL_small (fits_pr ok)
  have HT : Hid (blT x.d = _) := Lib.hid (by unfold blT; rfl)
  unfold fourL at s1 HT
  have ⟨p0, p1, p2, p3, p4, p5⟩ := hO
  clear hx ok
  generalize mkB (listL [x.d.nd, x.d.ba, x.d.sl, x.d.li]) = q at *
  generalize mkB (listL x.d.pr) = r at *
  have hk1 : ¬ 9223372036854775807 < x.d.id.size + 1 := by omega
  have hk2 : ¬ 9223372036854775807 < x.d.id.size + 1 + q.size := by omega
  have hk3 : ¬ 9223372036854775807 < x.d.id.size + 1 + q.size + 1 := by omega
  have hk4 : ¬ 9223372036854775807 < x.d.id.size + 1 + q.size + 1 + r.size := by omega
  have tok : True := trivial
  go_enter Tryd.func25, Tryd.ntmps25
  go_wp2_with fail
  go_region_held3 (fun w' => w'.cell? ⟨b, o, none⟩ = some (.string x.d.id) ∧ w'.cell? ⟨b, o + 1, none⟩ = some (.int .i64 x.d.nd) ∧ w'.cell? ⟨b, o + 2, none⟩ = some (.int .i64 x.d.ba) ∧ w'.cell? ⟨b, o + 3, none⟩ = some (.int .i64 x.d.sl) ∧ w'.cell? ⟨b, o + 4, none⟩ = some (.int .i64 x.d.li) ∧ w'.cell? ⟨b, o + 5, none⟩ = some (.slice x.prA x.d.pr.length x.prc))
    (first | exact P3 | exact P2 | exact hO | exact BdO.keep hO rfl | exact BdO.alloc (BdO.keep hO rfl) _)
    (first | (go_at_call 48; clear tok; refine (HL1.out (some ⟨w.heap.size, 0, none⟩) _ ((w.alloc (.cells #[.int .i64 x.d.nd, .int .i64 x.d.ba, .int .i64 x.d.sl, .int .i64 x.d.li] 2)).drew) (four_cellsI w 2 x.d.nd x.d.ba x.d.sl x.d.li)).mono ?_; rintro e w2 ⟨rfl, hb2⟩; have P2 : BdO w2 b o x := BdO.next (show BdO ((w.alloc (.cells #[.int .i64 x.d.nd, .int .i64 x.d.ba, .int .i64 x.d.sl, .int .i64 x.d.li] 2)).drew) b o x from BdO.alloc hO _) hb2; have hb3 := bnext (show Below w.heap.size w ((w.alloc (.cells #[.int .i64 x.d.nd, .int .i64 x.d.ba, .int .i64 x.d.sl, .int .i64 x.d.li] 2)).drew) from below_drewN (bal (Below.refl _ _) _) 1) hb2) | (go_at_call 48; refine (HL2.out _ (HPR.out.next hb3)).mono ?_; rintro e w4 ⟨rfl, hb4⟩; have P3 := P2.next hb4; have hb5 := bnext hb3 hb4))
  all_goals (go_wp2; go_ret; exact ⟨by rw [HT.out]; rfl, hb5⟩)
theorem specBuildingText_ds (x : Bd) (w : World) (hx : x.okay w) :
    Calls Tryd.prog 8 #[.agg #[.string x.d.id, .int .i64 x.d.nd, .int .i64 x.d.ba, .int .i64 x.d.sl, .int .i64 x.d.li, .slice x.prA x.d.pr.length x.prc]] w fun e w' => e = .returned (.string (buildingTextR0 x.d)) ∧ Below w.heap.size w w' := by
  have hb : Below w.heap.size w (w.alloc (.cells #[.string x.d.id, .int .i64 x.d.nd, .int .i64 x.d.ba, .int .i64 x.d.sl, .int .i64 x.d.li, .slice x.prA x.d.pr.length x.prc] 27)) := bal (Below.refl _ _) _
  have hN := BdO.new w x 27
  have HO := Lib.hid (l05One_any w.heap.size 0 x _ hN (hx.go hb).1)
  have HL := Lib.hid (fun k ok => l05Text_any w.heap.size 0 x ((w.alloc (.cells #[.string x.d.id, .int .i64 x.d.nd, .int .i64 x.d.ba, .int .i64 x.d.sl, .int .i64 x.d.li, .slice x.prA x.d.pr.length x.prc] 27)).drewN k) hN (hx.go hb).1 ok)
  have HR : Hid (buildingTextR0 x.d = _) := Lib.hid (by unfold buildingTextR0; rfl)
  have HB := Lib.hid hb
  clear hx hN hb
  by_cases ho : x.d.ok = true
  · have HL2 := Lib.hid (fun k => HL.out k ho)
    rw [ho, if_pos rfl] at HR
    rw [ho] at HO
    clear HL ho
    generalize blT x.d = s at *
    go_enter Tryd.func8, Tryd.ntmps8
    go_wp2_with (first | (go_at_call 24; refine HO.out.mono ?_; rintro e w1 ⟨rfl, ⟨k, rfl⟩⟩) | (go_at_call 25; refine (HL2.out k).mono ?_; rintro e w2 ⟨rfl, hb2⟩))
    go_ret
    exact ⟨by rw [HR.out]; rfl, bnext HB.out (bnext (below_drewN (Below.refl _ _) k) hb2)⟩
  · have ho : x.d.ok = false := by simpa only [Bool.not_eq_true] using ho
    rw [ho, if_neg (by simp)] at HR
    rw [ho] at HO
    go_enter Tryd.func8, Tryd.ntmps8
    go_wp2_with (first | (go_at_call 24; refine HO.out.mono ?_; rintro e w1 ⟨rfl, ⟨k, rfl⟩⟩))
    go_ret
    exact ⟨by rw [HR.out]; rfl, below_drewN HB.out k⟩
theorem join_three (a b c : ByteArray) : mkB (Lib.join ([a, b, c].map (·.data.toList)) [32]) = a ++ ⟨#[32]⟩ ++ b ++ ⟨#[32]⟩ ++ c := by
  show mkB (Lib.join (([a.data.toList] ++ [b.data.toList]) ++ [c.data.toList]) [32]) = _
  rw [joinS_snoc _ _ _ (by simp), joinS_snoc _ _ _ (by simp), Lib.join_one]
  rw [mkB_append, mkB_append, mkB_append, mkB_append, mkB_back, mkB_back, mkB_back]
  rfl
theorem three_str (w : World) (E : TypeId) (a b c : ByteArray) : CellsAt (w.alloc (.cells #[.string a, .string b, .string c] E)) (some ⟨w.heap.size, 0, none⟩) ([a, b, c].map Value.string) := by
  intro _
  refine ⟨_, _, rfl, fun j hj => ?_⟩
  simp only [List.length_map, List.length_cons, List.length_nil] at hj
  match j, hj with
  | 0, _ => simp
  | 1, _ => simp
  | 2, _ => simp
theorem join3_any (a b c : ByteArray) (w : World) (ha : a.size ≤ 2000) (hb : b.size ≤ 2000) (hc : c.size ≤ 2000) :
    Calls Tryd.prog 28 #[.slice (some ⟨w.heap.size, 0, none⟩) 3 3, .string ⟨#[32]⟩] (w.alloc (.cells #[.string a, .string b, .string c] 9)) fun e w' => e = .returned (.string (a ++ ⟨#[32]⟩ ++ b ++ ⟨#[32]⟩ ++ c)) ∧ Below w.heap.size w w' := by
  have hl : (Lib.join ([a, b, c].map (·.data.toList)) [32]).length ≤ 140737488355328 := by
    have e : (Lib.join ([a, b, c].map (·.data.toList)) [32]).length = (mkB (Lib.join ([a, b, c].map (·.data.toList)) [32])).size := rfl
    rw [e, join_three]
    simp only [ByteArray.size_append]
    have e3 : (⟨#[32]⟩ : ByteArray).size = 1 := rfl
    omega
  have h := joinSep_any w.heap.size 3 3 [a, b, c] _ rfl (by omega) (three_str w 9 a b c) (by omega) (by omega) hl
  rw [join_three] at h
  exact h.mono fun e w' ⟨he, hbw⟩ => ⟨he, bnext (bal (Below.refl _ _) _) hbw⟩
theorem implBuildingText_ds (x : Bd) (w : World) (hx : x.okay w) (ht : PowTab w) :
    Calls Tryd.prog 10 #[.agg #[.string x.d.id, .int .i64 x.d.nd, .int .i64 x.d.ba, .int .i64 x.d.sl, .int .i64 x.d.li, .slice x.prA x.d.pr.length x.prc]] w fun e w' => e = .returned (.string (buildingTextR0 x.d)) ∧ Below w.heap.size w w' := by
  have hb : Below w.heap.size w (w.alloc (.cells #[.string x.d.id, .int .i64 x.d.nd, .int .i64 x.d.ba, .int .i64 x.d.sl, .int .i64 x.d.li, .slice x.prA x.d.pr.length x.prc] 27)) := bal (Below.refl _ _) _
  have hN := BdO.new w x 27
  have HO := Lib.hid (isValid_any x _ (hx.go hb))
  have HR : Hid (buildingTextR0 x.d = _) := Lib.hid (by unfold buildingTextR0; rfl)
  have HB := Lib.hid hb
  have HT := Lib.hid ht
  have HPR := Lib.hid (show CellsAt w x.prA (intsV x.d.pr) from hx.1.2.2.2.1)
  have HPM := hx.1.2.2.1
  clear hx ht hb
  by_cases ho : x.d.ok = true
  rotate_left
  · have ho : x.d.ok = false := by simpa only [Bool.not_eq_true] using ho
    rw [ho, if_neg (by simp)] at HR
    rw [ho] at HO
    have ⟨p0, p1, p2, p3, p4, p5⟩ := hN
    go_enter Tryd.func10, Tryd.ntmps10
    go_wp2_with (first | (go_at_call 27; refine HO.out.mono ?_; rintro e w1 ⟨rfl, hb1⟩))
    go_ret
    exact ⟨by rw [HR.out]; rfl, bnext HB.out hb1⟩
  have HL1 := Lib.hid (fun A c wx (hA : CellsAt wx A (intsV [x.d.nd, x.d.ba, x.d.sl, x.d.li])) hx => implListText_any A c 4 [x.d.nd, x.d.ba, x.d.sl, x.d.li] wx rfl (by unfold maxLen; omega) hA hx)
  have HL2 := Lib.hid (fun wx (hA : CellsAt wx x.prA (intsV x.d.pr)) hx => implListText_any x.prA x.prc x.d.pr.length x.d.pr wx rfl HPM hA hx)
  have s0 := id_small ho
  have s1 := listL_small (fits_four ho)
  have s2 := listL_small (fits_pr ho)
  have HTX : Hid (blT x.d = _) := Lib.hid (by unfold blT; rfl)
  unfold fourL at s1 HTX
  rw [ho, if_pos rfl] at HR
  rw [ho] at HO
  clear ho
  generalize mkB (listL [x.d.nd, x.d.ba, x.d.sl, x.d.li]) = q at *
  generalize mkB (listL x.d.pr) = r at *
  have HJ := Lib.hid (fun W => join3_any x.d.id q r W (by omega) (by omega) (by omega))
  have HN := Lib.hid hN
  have ⟨p0, p1, p2, p3, p4, p5⟩ := hN
  go_enter Tryd.func10, Tryd.ntmps10
  go_wp2_with fail
  refine HO.out.mono ?_
  rintro e w1 ⟨rfl, hb1⟩
  have hN1 := HN.out.next hb1
  have hba := bnext HB.out hb1
  have HBA := Lib.hid hba
  clear p0 p1 p2 p3 p4 p5 hN hba hb1
  have ⟨p0, p1, p2, p3, p4, p5⟩ := hN1
  have hO := BdO.alloc hN1 (.cells #[.int .i64 x.d.nd, .int .i64 x.d.ba, .int .i64 x.d.sl, .int .i64 x.d.li] 2)
  have hc2 := bal HBA.out (.cells #[.int .i64 x.d.nd, .int .i64 x.d.ba, .int .i64 x.d.sl, .int .i64 x.d.li] 2)
  have tok : True := trivial
  have ⟨q0, q1, q2, q3, q4, q5⟩ := hO
  go_wp2_with fail
  go_region_held3 (fun w' => w'.cell? ⟨w.heap.size, 0, none⟩ = some (.string x.d.id) ∧ w'.cell? ⟨w.heap.size, 0 + 1, none⟩ = some (.int .i64 x.d.nd) ∧ w'.cell? ⟨w.heap.size, 0 + 2, none⟩ = some (.int .i64 x.d.ba) ∧ w'.cell? ⟨w.heap.size, 0 + 3, none⟩ = some (.int .i64 x.d.sl) ∧ w'.cell? ⟨w.heap.size, 0 + 4, none⟩ = some (.int .i64 x.d.li) ∧ w'.cell? ⟨w.heap.size, 0 + 5, none⟩ = some (.slice x.prA x.d.pr.length x.prc))
    (first | exact P3 | exact P2 | exact hO | exact BdO.keep hO rfl | exact BdO.alloc P3 _)
    (first | (go_at_call 29; clear tok; refine (HL1.out (some ⟨w1.heap.size, 0, none⟩) _ ((w1.alloc (.cells #[.int .i64 x.d.nd, .int .i64 x.d.ba, .int .i64 x.d.sl, .int .i64 x.d.li] 2)).drew) (four_cellsI w1 2 x.d.nd x.d.ba x.d.sl x.d.li) (HT.out.next (below_drewN hc2 1))).mono ?_; rintro e w2 ⟨rfl, hb2⟩; have P2 : BdO w2 w.heap.size 0 x := BdO.next (show BdO ((w1.alloc (.cells #[.int .i64 x.d.nd, .int .i64 x.d.ba, .int .i64 x.d.sl, .int .i64 x.d.li] 2)).drew) w.heap.size 0 x from BdO.keep hO rfl) hb2; have hb3 := bnext (below_drewN hc2 1) hb2) | (go_at_call 29; refine (HL2.out _ (HPR.out.next hb3) (HT.out.next hb3)).mono ?_; rintro e w4 ⟨rfl, hb4⟩; have P3 := P2.next hb4; have hb5 := bnext hb3 hb4) | (go_at_call 28; refine (HJ.out w4).mono ?_; rintro e w6 ⟨rfl, hb6⟩; have P3 := P3.next hb6; have hb7 := bnext hb5 hb6))
  all_goals (go_wp2; go_ret; exact ⟨by rw [HR.out, HTX.out]; rfl, hb7⟩)

end Go.Proofs.YthidaoemonjemabDoor
