/-
  Texts of points: maths; a point and points as the program writes them.
-/
import Derived.Test.YtkbkmpcdidhagabDoorPt0
import Derived.Test.YtkbkmpcdidhagabDoorD4
import Derived.Test.YtkbkmpcdidhagabDoorTw
import Derived.Deep.RegionHeld3
import Derived.Shelf.Abstract
namespace Go.Proofs.YtkbkmpcdidhagabDoor
open Go.ChangeShapes Go.WideShapes Go.ChangeAt Go.RowKit Go.Shelf

set_option maxRecDepth 100000
set_option maxHeartbeats 1600000
set_option linter.unusedVariables false

/-- a point as a text -/
def ptT (p : Int × Int) : ByteArray := mkB (Lib.itoa p.1) ++ ⟨#[58]⟩ ++ mkB (Lib.itoa p.2)
/-- the text of the first k points -/
def ptsT (ps : List (Int × Int)) : Nat → ByteArray
  | 0 => ⟨#[]⟩
  | k + 1 => if k = 0 then ptsT ps k ++ ptT (ptAt ps k) else ptsT ps k ++ ⟨#[32]⟩ ++ ptT (ptAt ps k)
def ptIn (p : Int × Int) : Bool := inV p.1 && inV p.2
theorem ptT_bd {p : Int × Int} (h : ptIn p = true) : (ptT p).size ≤ 43 := by
  unfold ptIn at h
  rw [Bool.and_eq_true] at h
  have a := itoa_bd p.1 h.1
  have b := itoa_bd p.2 h.2
  unfold ptT
  rw [ByteArray.size_append, ByteArray.size_append]
  have e1 : (mkB (Lib.itoa p.1)).size = (Lib.itoa p.1).length := rfl
  have e2 : (mkB (Lib.itoa p.2)).size = (Lib.itoa p.2).length := rfl
  have e3 : (⟨#[58]⟩ : ByteArray).size = 1 := rfl
  omega
theorem ptsT_bd {ps : List (Int × Int)} (h : ∀ i, i < ps.length → ptIn (ptAt ps i) = true) (k : Nat) (hk : k ≤ ps.length) : (ptsT ps k).size ≤ 44 * k := by
  induction k with
  | zero => exact Nat.le_refl _
  | succ k ih =>
    have ih := ih (by omega)
    have b := ptT_bd (h k (by omega))
    have e3 : (⟨#[32]⟩ : ByteArray).size = 1 := rfl
    unfold ptsT
    split
    · rw [ByteArray.size_append]; omega
    · rw [ByteArray.size_append, ByteArray.size_append]; omega
theorem joinS_snoc (l : List (List UInt8)) (y s : List UInt8) (h : 0 < l.length) : Lib.join (l ++ [y]) s = Lib.join l s ++ s ++ y := by
  cases l with
  | nil => simp at h
  | cons a r =>
    rw [List.cons_append, Lib.join_cons, Lib.join_cons]
    simp [Lib.joinTail]
theorem mkB_back (b : ByteArray) : mkB b.data.toList = b := by
  apply ByteArray.ext
  simp [mkB]
theorem ptsT_join (xs : List (Int × Int)) (k : Nat) (hk : k ≤ xs.length) : mkB (Lib.join (((xs.map ptT).take k).map (·.data.toList)) [32]) = ptsT xs k := by
  induction k with
  | zero => rfl
  | succ k ih =>
    have ih := ih (by omega)
    have hx : (xs.map ptT)[k]'(by rw [List.length_map]; omega) = ptT (ptAt xs k) := by
      rw [List.getElem_map, ptAt_get (List.getElem?_eq_getElem (show k < xs.length by omega))]
    rw [List.take_succ_eq_append_getElem (by rw [List.length_map]; omega), hx, List.map_append, List.map_cons, List.map_nil]
    unfold ptsT
    split
    · rename_i h0
      subst h0
      rw [List.take_zero, List.map_nil, List.nil_append, Lib.join_one, mkB_back]
      apply ByteArray.ext
      simp [ptsT]
    · rename_i h0
      rw [joinS_snoc _ _ _ (by rw [List.length_map, List.length_take, List.length_map]; omega), mkB_append, mkB_append, ih, mkB_back]
      rfl
theorem joinSep_any (g n c : Nat) (xs : List ByteArray) (w : World) (hx : xs.length = n) (h0 : 0 < n) (hc : CellsAt w (some ⟨g, 0, none⟩) (xs.map Value.string)) (hcap : n ≤ c) (hN : n ≤ 140737488355328)
    (hlen : (Lib.join (xs.map (·.data.toList)) [32]).length ≤ 140737488355328) :
    Calls Tryd.prog 68 #[.slice (some ⟨g, 0, none⟩) n c, .string ⟨#[32]⟩] w fun e w' => e = .returned (.string (mkB (Lib.join (xs.map (·.data.toList)) [32]))) ∧ Below w.heap.size w w' := by
  subst hx
  have hl := CellsAt.lies hc (by rw [List.length_map]; exact h0)
  obtain ⟨b, o, e, h1⟩ := hc (by rw [List.length_map]; exact h0)
  injection e with e
  injection e with e1 e2
  subst e1; subst e2
  exact Tryd.strings_Join g 0 c xs ⟨#[32]⟩ w (fun j x hj => by
    have hjl := (List.getElem?_eq_some_iff.1 hj).1
    rw [h1 j (by rw [List.length_map]; exact hjl)]
    simp [hj]) hl hN hcap hlen
theorem pointString_any (p : Int × Int) (w : World) (hp : ptIn p = true) (ht : PowTab w) :
    Calls Tryd.prog 70 #[.agg #[.int .i64 p.1, .int .i64 p.2]] w fun e w' => e = .returned (.string (ptT p)) ∧ Below w.heap.size w w' := by
  unfold ptIn at hp
  rw [Bool.and_eq_true] at hp
  have a1 := inB_iff.1 hp.1
  have a2 := inB_iff.1 hp.2
  have b2 := itoa_bd p.1 hp.1
  have b3 := itoa_bd p.2 hp.2
  have HT := Lib.hid ht
  have HTX : Hid (ptT p = mkB (Lib.itoa p.1) ++ ⟨#[58]⟩ ++ mkB (Lib.itoa p.2)) := Lib.hid rfl
  have HD1 := Lib.hid (fun W hW => implDecimal_any p.1 W (by omega) (by omega) hW)
  have HD2 := Lib.hid (fun W hW => implDecimal_any p.2 W (by omega) (by omega) hW)
  have hq1 : (mkB (Lib.itoa p.1)).size ≤ 21 := b2
  have hq2 : (mkB (Lib.itoa p.2)).size ≤ 21 := b3
  generalize mkB (Lib.itoa p.1) = u at *
  generalize mkB (Lib.itoa p.2) = v at *
  have hba : Below w.heap.size w (w.alloc (.cells #[.int .i64 p.1, .int .i64 p.2] 64)) := bal (Below.refl _ _) _
  have hb : Below w.heap.size w (w.alloc (.cells #[.int .i64 p.1, .int .i64 p.2] 64)).drew := below_drewN hba 1
  have hX := (PtO.new w p 64).next (below_drewN (Below.refl _ _) 1 : Below (w.alloc (.cells #[.int .i64 p.1, .int .i64 p.2] 64)).heap.size (w.alloc (.cells #[.int .i64 p.1, .int .i64 p.2] 64)) (w.alloc (.cells #[.int .i64 p.1, .int .i64 p.2] 64)).drew)
  have e1 : (u ++ ⟨#[58]⟩).size = u.size + 1 := by rw [ByteArray.size_append]; rfl
  have e2 : (u ++ ⟨#[58]⟩ ++ v).size = u.size + 1 + v.size := by rw [ByteArray.size_append, e1]
  have hk1 : ¬ 9223372036854775807 < u.size + 1 := by omega
  have hk2 : ¬ 9223372036854775807 < u.size + 1 + v.size := by omega
  have ⟨p0, p1⟩ := hX
  have tok : True := trivial
  clear ht hp b2 b3 e2
  go_enter Tryd.func70, Tryd.ntmps70
  go_wp2_with fail
  go_region_held3 (fun w' => w'.cell? ⟨w.heap.size, 0, none⟩ = some (.int .i64 p.1) ∧ w'.cell? ⟨w.heap.size, 0 + 1, none⟩ = some (.int .i64 p.2)) (exact ⟨p0, p1⟩)
    (first | (go_at_call 75; clear tok; refine (HD1.out _ (HT.out.next hb)).mono ?_; rintro e w1 ⟨rfl, hb'⟩; have hb := bnext hb hb'; have hX := hX.next hb'; have ⟨p0, p1⟩ := hX) | (go_at_call 75; refine (HD2.out _ (HT.out.next hb)).mono ?_; rintro e w2 ⟨rfl, hb'⟩; have hb := bnext hb hb'; have hX := hX.next hb'; have ⟨p0, p1⟩ := hX))
  all_goals
    go_wp2
    go_ret
    exact ⟨by rw [HTX.out]; rfl, hb⟩
def ptV (ps : List (Int × Int)) : List Value := (ps.map ptT).map Value.string
theorem ptV_at (ps : List (Int × Int)) (j : Nat) (h : j < ps.length) : (ptV ps).getD j default = .string (ptT (ptAt ps j)) := by
  unfold ptV
  rw [ptAt_get (List.getElem?_eq_getElem h)]
  simp [List.getD, h]
theorem convPts_any (A : Option Addr) (n c : Nat) (ps : List (Int × Int)) (w : World) (h : PtsOk w A n ps) (hp : ∀ i, i < ps.length → ptIn (ptAt ps i) = true) (ht : PowTab w) :
    Calls Tryd.prog 69 #[.slice A n c, .func (.func 70) #[] #[]] w (RetRow 9 (ptV ps) w) := by
  have hn := h.2
  obtain rfl := h.1.1
  have HB := Lib.hid h.cells
  have HT := Lib.hid ht
  have HP := Lib.hid hp
  have hM : ps.length ≤ maxLen := by unfold maxLen; omega
  have hm : ps.length ≤ 9223372036854775807 := by omega
  have eg : ∀ args w, (callFunc 70 args).run Tryd.prog w = .ok (.enter 70 args) w := enters_of Tryd.func70 (by kernel_rfl) rfl
  obtain ⟨i0, hi, hz0, hz1, hz2⟩ := info_parts infoStr
  clear h ht hp
  go_enter Tryd.func69, Tryd.ntmps69
  go_wp2_with (refine wpList_make_full _ rfl _ _ _ rfl w.heap.size 9 i0 (.string ⟨#[]⟩) 1 Tryd.underlying77 hi hz0 hz1 _ _ _ _ ps.length rfl rfl rfl rfl (by rw [hz2]; omega) hM (Nat.le_refl _) ?_; intro w1 hown hgrow)
  have hb1 := Below.grown (Below.refl w.heap.size w) hgrow (Nat.le_refl _) (fun k hk => by cases hk)
  have hl1 := owns_len hown
  generalize (madeCells (Value.string { data := #[] }).cells (ps.length * 1)).toList = us at *
  have HX := Lib.hid hl1
  clear hl1
  go_loopw [13] (fun i wr => ∃ j : Nat, j ≤ ps.length ∧ i = .int .i64 j ∧ wr.ownsRow w.heap.size 9 1 (.slice (some ⟨w.heap.size, 0, none⟩) ps.length ps.length) ps.length (fillV (fun j => (ptV ps).getD j default) j us) ∧ Below w.heap.size w wr) (fun i _ => ps.length - (intOf i).toNat)
  case atStart => exact ⟨0, Nat.zero_le _, rfl, hown, hb1⟩
  case round =>
    obtain ⟨j, hj, rfl, hro, hb⟩ := hrel
    by_cases hlt : j < ps.length
    · obtain ⟨b, off, rfl, hrow⟩ := PtO.at (HB.out.next hb) (by omega)
      have hp := ptAt_some ps j hlt
      have ⟨p0, p1⟩ := hrow j _ hp
      have HG := Lib.hid (ptV_at ps j hlt)
      have hpi := HP.out j hlt
      generalize ptAt ps j = x at *
      have HC := Lib.hid (fun wx (hbx : Below w.heap.size w wx) => pointString_any x wx hpi (HT.out.next hbx))
      clear hp hrow hpi
      generalize ptT x = q at *
      go_wp2_with fail
      have hba : Below wr.heap.size wr (wr.alloc (.cells #[.int .i64 x.1, .int .i64 x.2] 64)) := bal (Below.refl _ _) _
      refine (HC.out _ (bnext hb hba)).mono ?_
      rintro e w2 ⟨rfl, hbt⟩
      have hbt2 := bnext hba hbt
      have hb2 := bnext hb hbt2
      have hro1 := owns_below hro hbt2 (Nat.le_refl _)
      clear p0 p1 hro hb hbt hba hbt2
      have hc1 := hro1.cellAt j (by omega)
      have hf1 := hro1.frozenAt j
      rw [fillV_get, List.getElem?_eq_getElem (by rw [HX.out]; exact hlt)] at hc1
      have hst := hro1.stored j (.string q)
      have hfs := fillV_set (fun j => (ptV ps).getD j default) us j (by rw [HX.out]; exact hlt)
      rw [HG.out] at hfs
      rw [hfs] at hst
      have Hst := Lib.hid hst
      clear hst hfs hro1
      go_wp2
      go_roundw
      case rel => exact ⟨j + 1, by omega, by go_num, Hst.out.1, hb2.setCell (Nat.le_refl _) _⟩
      case measure => simp [intOf]; omega
    · obtain rfl : j = ps.length := by omega
      have hfa := fillV_all (fun k => (ptV ps).getD k default) ps.length us HX.out
      have hru : (List.range ps.length).map (fun k => (ptV ps).getD k default) = ptV ps := by
        refine List.ext_getElem (by simp [ptV]) fun k h1 h2 => ?_
        simp [List.getD, h2]
      have hfin := retRow_mk (vs := ptV ps) (w := w) rfl hro (hfa.trans hru) hb
      have HF9 := Lib.hid hfin
      clear hfin hfa hru hro
      go_wp2
      go_ret
      exact HF9.out
theorem pointsString_any (A : Option Addr) (n c : Nat) (ps : List (Int × Int)) (w : World) (h : PtsOk w A n ps) (h0 : 0 < n) (hp : ∀ i, i < ps.length → ptIn (ptAt ps i) = true) (ht : PowTab w) (h24 : n ≤ 100000) :
    Calls Tryd.prog 50 #[.slice A n c] w fun e w' => e = .returned (.string (ptsT ps ps.length)) ∧ Below w.heap.size w w' := by
  have HC := Lib.hid (convPts_any A n c ps w h hp ht)
  have hl := h.1.1
  have hbd := ptsT_bd hp ps.length (Nat.le_refl _)
  have hjn := ptsT_join ps ps.length (Nat.le_refl _)
  rw [List.take_of_length_le (by rw [List.length_map]; exact Nat.le_refl _)] at hjn
  have hjo : Lib.join ((ps.map ptT).map (·.data.toList)) [32] = (ptsT ps ps.length).data.toList := by rw [← hjn]; simp [mkB]
  have hlen : (Lib.join ((ps.map ptT).map (·.data.toList)) [32]).length ≤ 140737488355328 := by
    rw [hjo]
    have e : (ptsT ps ps.length).data.toList.length = (ptsT ps ps.length).size := rfl
    omega
  have HJ := Lib.hid (fun g c' wx (hc : CellsAt wx (some ⟨g, 0, none⟩) ((ps.map ptT).map Value.string)) (hcap : n ≤ c') => by
    have := joinSep_any g n c' (ps.map ptT) wx (by rw [List.length_map]; exact hl) h0 hc hcap (by omega) hlen
    rw [hjo, mkB_back] at this
    exact this)
  have HL := Lib.hid hl
  clear h hp ht hbd hjn hjo hlen hl
  generalize ptsT ps ps.length = s at *
  go_enter Tryd.func50, Tryd.ntmps50
  go_wp2_with fail
  refine HC.out.mono ?_
  rintro e w1 hq
  obtain ⟨A2, c2, rfl, hown, hb⟩ := hq
  have hl2 : (ptV ps).length = n := by unfold ptV; rw [List.length_map, List.length_map]; exact HL.out
  rw [hl2] at hown ⊢
  obtain ⟨-, ⟨-, hn0⟩ | ⟨g, cap, cur, hv, -, -, hcap, -⟩⟩ := id hown
  · omega
  have hc := owns_cells hown
  injection hv with h1 h2 h3
  subst h1
  subst h3
  have HJN := Lib.hid (HJ.out g c2 w1 hc hcap)
  clear hown hc hl2 hcap
  go_wp2_with fail
  refine HJN.out.mono ?_
  rintro e w2 ⟨rfl, hb2⟩
  go_wp2
  go_ret
  exact ⟨rfl, bnext hb hb2⟩
end Go.Proofs.YtkbkmpcdidhagabDoor
