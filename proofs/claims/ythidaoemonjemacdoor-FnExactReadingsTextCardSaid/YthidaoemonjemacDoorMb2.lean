/-
  ReadingsText of both sides: the functions themselves.
-/
import Derived.Test.YthidaoemonjemacDoorMb1
namespace Go.Proofs.YthidaoemonjemacDoor
open Go.ChangeShapes Go.WideShapes Go.ChangeAt Go.RowKit

set_option maxRecDepth 100000
set_option maxHeartbeats 1600000
set_option linter.unusedVariables false

theorem joinS_snoc (l : List (List UInt8)) (y s : List UInt8) (h : 0 < l.length) : Lib.join (l ++ [y]) s = Lib.join l s ++ s ++ y := by
  cases l with
  | nil => simp at h
  | cons a r =>
    rw [List.cons_append, Lib.join_cons, Lib.join_cons]
    simp [Lib.joinTail]
theorem mkB_back (b : ByteArray) : mkB b.data.toList = b := by
  apply ByteArray.ext
  simp [mkB]
theorem rgsT_join (xs : List Rg) (k : Nat) (hk : k ≤ xs.length) : mkB (Lib.join (((xs.map rgT).take k).map (·.data.toList)) [32]) = rgsT xs k := by
  induction k with
  | zero => rfl
  | succ k ih =>
    have ih := ih (by omega)
    have hx : (xs.map rgT)[k]'(by rw [List.length_map]; omega) = rgT (rgAt xs k) := by
      rw [List.getElem_map, rgAt_get (List.getElem?_eq_getElem (show k < xs.length by omega))]
    rw [List.take_succ_eq_append_getElem (by rw [List.length_map]; omega), hx, List.map_append, List.map_cons, List.map_nil]
    unfold rgsT
    split
    · rename_i h0
      subst h0
      rw [List.take_zero, List.map_nil, List.nil_append, Lib.join_one, mkB_back]
      apply ByteArray.ext
      simp [rgsT]
    · rename_i h0
      rw [joinS_snoc _ _ _ (by rw [List.length_map, List.length_take, List.length_map]; omega), mkB_append, mkB_append, ih, mkB_back]
      rfl
theorem joinSep_any (g n c : Nat) (xs : List ByteArray) (w : World) (hx : xs.length = n) (h0 : 0 < n) (hc : CellsAt w (some ⟨g, 0, none⟩) (xs.map Value.string)) (hcap : n ≤ c) (hN : n ≤ 140737488355328)
    (hlen : (Lib.join (xs.map (·.data.toList)) [32]).length ≤ 140737488355328) :
    Calls Tryd.prog 19 #[.slice (some ⟨g, 0, none⟩) n c, .string ⟨#[32]⟩] w fun e w' => e = .returned (.string (mkB (Lib.join (xs.map (·.data.toList)) [32]))) ∧ Below w.heap.size w w' := by
  subst hx
  have hl := CellsAt.lies hc (by rw [List.length_map]; exact h0)
  obtain ⟨b, o, e, h1⟩ := hc (by rw [List.length_map]; exact h0)
  injection e with e
  injection e with e1 e2
  subst e1; subst e2
  exact Tryd.strings_Join g 0 c xs ⟨#[32]⟩ w (fun j x hj => by
    have hjl := (List.getElem?_eq_some_iff.1 hj).1
    rw [h1 j (by rw [List.length_map]; exact hjl)]
    simp [hj]) hl hN hcap hlen
theorem specReadingsText_ds (A : Option Addr) (n c : Nat) (xs : List Rg) (w : World) (h : RgsOk w A n xs) :
    Calls Tryd.prog 6 #[.slice A n c] w fun e w' => e = .returned (.string (readingsTextR0 xs)) ∧ Below w.heap.size w w' := by
  have HO := Lib.hid (l06Ok_any A n c xs w h)
  have HT := Lib.hid (fun (k : Nat) (ho : okRs xs = true) => l06Text_any A n c xs (w.drewN k) (h.go (below_drewN (Below.refl _ _) k)) ho)
  have HR : Hid (readingsTextR0 xs = _) := Lib.hid (by unfold readingsTextR0; rfl)
  clear h
  by_cases ho : okRs xs = true
  · have HT2 := Lib.hid (fun k => HT.out k ho)
    rw [ho, if_pos rfl] at HR
    rw [ho] at HO
    clear HT ho
    generalize rgsT xs xs.length = s at *
    go_enter Tryd.func6, Tryd.ntmps6
    go_wp2_with (first | (go_at_call 14; refine HO.out.mono ?_; rintro e w1 ⟨rfl, ⟨k, rfl⟩⟩) | (go_at_call 15; refine (HT2.out _).mono ?_; rintro e w2 ⟨rfl, hb2⟩))
    go_ret
    exact ⟨by rw [HR.out]; rfl, bnext (below_drewN (Below.refl _ _) k) hb2⟩
  · have ho : okRs xs = false := by simpa only [Bool.not_eq_true] using ho
    rw [ho, if_neg (by simp)] at HR
    rw [ho] at HO
    go_enter Tryd.func6, Tryd.ntmps6
    go_wp2_with (first | (go_at_call 14; refine HO.out.mono ?_; rintro e w1 ⟨rfl, ⟨k, rfl⟩⟩))
    go_ret
    exact ⟨by rw [HR.out]; rfl, below_drewN (Below.refl _ _) k⟩
def rgtV (xs : List Rg) : List Value := (xs.map rgT).map Value.string
theorem rgtV_at (xs : List Rg) (j : Nat) (h : j < xs.length) : (rgtV xs).getD j default = .string (rgT (rgAt xs j)) := by
  unfold rgtV
  rw [rgAt_get (List.getElem?_eq_getElem h)]
  simp [List.getD, h]
theorem implReadingsText_ds (A : Option Addr) (n c : Nat) (xs : List Rg) (w : World) (h : RgsOk w A n xs) (ht : PowTab w) :
    Calls Tryd.prog 8 #[.slice A n c] w fun e w' => e = .returned (.string (readingsTextR0 xs)) ∧ Below w.heap.size w w' := by
  have HO := Lib.hid (implVR_any A n c xs w h)
  have HR : Hid (readingsTextR0 xs = _) := Lib.hid (by unfold readingsTextR0; rfl)
  have HX := Lib.hid h
  have HT := Lib.hid ht
  by_cases ho : okRs xs = true
  rotate_left
  · have ho : okRs xs = false := by simpa only [Bool.not_eq_true] using ho
    rw [ho, if_neg (by simp)] at HR
    rw [ho] at HO
    clear h ht
    go_enter Tryd.func8, Tryd.ntmps8
    go_wp2_with (first | (go_at_call 17; refine HO.out.mono ?_; rintro e w1 ⟨rfl, hb1⟩))
    go_ret
    exact ⟨by rw [HR.out]; rfl, hb1⟩
  have hn : n ≤ 48 := by have := (okRs_parts ho).1; have := h.1.1; omega
  obtain rfl := h.1.1
  have HOK := Lib.hid ho
  have hM : xs.length ≤ maxLen := by unfold maxLen; omega
  have HB := Lib.hid h.cells
  rw [ho, if_pos rfl] at HR
  rw [ho] at HO
  have HBD := Lib.hid (rgsT_bd ho xs.length (Nat.le_refl _))
  have HJN := Lib.hid (rgsT_join xs xs.length (Nat.le_refl _))
  have HAT := Lib.hid (fun j h => rgtV_at xs j h)
  clear h ht ho
  obtain ⟨i0, hi, hz0, hz1, hz2⟩ := info_parts infoStr
  go_enter Tryd.func8, Tryd.ntmps8
  go_wp2_with fail
  refine HO.out.mono ?_
  rintro e w1 ⟨rfl, hb1⟩
  go_wp2_with (refine wpList_make_full _ rfl _ _ _ rfl w1.heap.size 9 i0 (.string ⟨#[]⟩) 1 Tryd.underlying38 hi hz0 hz1 _ _ _ _ xs.length rfl rfl rfl rfl (by rw [hz2]; omega) hM (Nat.le_refl _) ?_; intro w2 hown hgrow)
  have hb2 : Below w.heap.size w w2 := bnext hb1 (Below.grown (Below.refl w1.heap.size w1) hgrow (Nat.le_refl _) (fun k hk => by cases hk))
  have hl1 := owns_len hown
  generalize (madeCells (Value.string { data := #[] }).cells (xs.length * 1)).toList = zs at *
  have HZ := Lib.hid hl1
  have hsz := hb1.size
  have HSZ := Lib.hid hsz
  clear hl1 hgrow hb1
  go_loopw [14] (fun i wr => ∃ j : Nat, j ≤ xs.length ∧ i = .int .i64 j ∧ wr.ownsRow w1.heap.size 9 1 (.slice (some ⟨w1.heap.size, 0, none⟩) xs.length xs.length) xs.length (fillV (fun j => (rgtV xs).getD j default) j zs) ∧ Below w.heap.size w wr) (fun i _ => xs.length - (intOf i).toNat)
  case atStart => exact ⟨0, Nat.zero_le _, rfl, hown, hb2⟩
  case round =>
    clear hown hb2
    obtain ⟨j, hj, rfl, hro, hb⟩ := hrel
    by_cases hlt : j < xs.length
    · obtain ⟨b, off, rfl, hrow⟩ := RgO.at (HB.out.next hb) (by omega)
      have Q0 := hrow j _ (rgAt_some xs j hlt)
      have a1 := okRs_one HOK.out j hlt
      have hsz := rgT_bd (x := rgAt xs j) (by omega) (by omega)
      have HTX : Hid (rgT (rgAt xs j) = mkB (Lib.itoa (rgAt xs j).h) ++ ⟨#[58]⟩ ++ mkB (Lib.itoa (rgAt xs j).c)) := Lib.hid rfl
      have b2 := itoa_bd (rgAt xs j).h (by unfold inV; exact inB_iff.2 (by omega))
      have b3 := itoa_bd (rgAt xs j).c (by unfold inV; exact inB_iff.2 (by omega))
      have HD1 := Lib.hid (fun W hW => implDecimal_any (rgAt xs j).h W (by omega) (by omega) hW)
      have HD2 := Lib.hid (fun W hW => implDecimal_any (rgAt xs j).c W (by omega) (by omega) hW)
      have hfs := fillV_set (fun j => (rgtV xs).getD j default) zs j (by rw [HZ.out]; exact hlt)
      rw [HAT.out j hlt] at hfs
      have Hfs := Lib.hid hfs
      clear hfs
      generalize rgT (rgAt xs j) = q at *
      generalize rgAt xs j = x at *
      have hq1 : (mkB (Lib.itoa x.h)).size ≤ 21 := b2
      have hq2 : (mkB (Lib.itoa x.c)).size ≤ 21 := b3
      generalize mkB (Lib.itoa x.h) = u at *
      generalize mkB (Lib.itoa x.c) = v at *
      have ⟨q0, q1⟩ := Q0
      have P0' := RgO.new wr x 35
      have hba := bal hb (.cells #[.int .i64 x.h, .int .i64 x.c] 35)
      have hro0 := owns_below hro (bal (Below.refl wr.heap.size wr) (.cells #[.int .i64 x.h, .int .i64 x.c] 35)) (Nat.le_refl _)
      have e1 : (u ++ ⟨#[58]⟩).size = u.size + 1 := by rw [ByteArray.size_append]; rfl
      have e2 : (u ++ ⟨#[58]⟩ ++ v).size = u.size + 1 + v.size := by rw [ByteArray.size_append, e1]
      have ⟨p0, p1⟩ := P0'
      have hk1 : ¬ 9223372036854775807 < u.size + 1 := by omega
      have hk2 : ¬ 9223372036854775807 < u.size + 1 + v.size := by omega
      have hne : wr.heap.size ≠ w1.heap.size := by
        have hcx := hro.cellAt j (by omega)
        rw [fillV_get, List.getElem?_eq_getElem (by rw [HZ.out]; exact hlt)] at hcx
        have := World.block_lt_of_cell? _ _ hcx
        simp at this
        omega
      have HNE := Lib.hid hne
      have tok : True := trivial
      clear hrow b2 b3 Q0 hne e1 e2
      go_wp2_with fail
      go_region_held3 (fun w' => w'.cell? ⟨wr.heap.size, 0, none⟩ = some (.int .i64 x.h) ∧ w'.cell? ⟨wr.heap.size, 0 + 1, none⟩ = some (.int .i64 x.c)) (first | exact P2 | exact P1 | exact P0' | exact RgO.keep P0' rfl | exact RgO.keep P2 (Below.heap_setCell _ _ _ _ HNE.out))
        ((first | (go_at_call 18; clear tok; refine (HD1.out _ (HT.out.next (below_drewN hba 1))).mono ?_; rintro e w3 ⟨rfl, hb3⟩; have P1 := RgO.next (show RgO (wr.alloc (.cells #[.int .i64 x.h, .int .i64 x.c] 35)).drew wr.heap.size 0 x from RgO.keep P0' rfl) hb3; have hbx := bnext (below_drewN hba 1) hb3; have hro1 := owns_below (owns_below hro0 (below_drewN (Below.refl _ _) 1) (Nat.le_refl _)) hb3 (Nat.le_refl _)) | (go_at_call 18; refine (HD2.out _ (HT.out.next hbx)).mono ?_; rintro e w4 ⟨rfl, hb4⟩; have P2 := P1.next hb4; have hby := bnext hbx hb4; have hro2 := owns_below hro1 hb4 (Nat.le_refl _); have hc2 := hro2.cellAt j (by omega); have hf2 := hro2.frozenAt j; rw [fillV_get, List.getElem?_eq_getElem (by rw [HZ.out]; exact hlt)] at hc2)))
      all_goals (
        have hst := (hro2.stored j (.string (u ++ ⟨#[58]⟩ ++ v))).1
        rw [← HTX.out, Hfs.out, HTX.out] at hst
        have HST := Lib.hid hst
        have HBY := Lib.hid (hby.setCell (p := ⟨w1.heap.size, j, none⟩) (by have := HSZ.out; simp; omega) (.string (u ++ ⟨#[58]⟩ ++ v)))
        clear hst hby hro2 hc2 hf2
        go_wp2
        go_roundw)
      all_goals first
        | (simp [intOf]; omega)
        | exact ⟨j + 1, by omega, by go_num, HST.out, HBY.out⟩
    · have e : j = xs.length := by omega
      subst e
      have hfa := fillV_all (fun k => (rgtV xs).getD k default) xs.length zs HZ.out
      have hru : (List.range xs.length).map (fun k => (rgtV xs).getD k default) = rgtV xs := by
        refine List.ext_getElem (by simp [rgtV]) fun k h1 h2 => ?_
        simp [List.getD, h2]
      rw [hfa, hru] at hro
      rcases Nat.eq_zero_or_pos xs.length with h0 | h0
      · have HNO := Lib.hid (fun a W => Tryd.strings_Join_none a xs.length ⟨#[32]⟩ W)
        have HE : Hid (rgsT xs xs.length = ⟨#[]⟩) := Lib.hid (by rw [h0]; rfl)
        rw [h0] at HNO
        have hnil : xs = [] := List.length_eq_zero_iff.1 h0
        have HNIL := Lib.hid hnil
        clear hnil
        have hbH := Lib.hid hb
        clear hro hfa hru hb
        rw [h0]
        go_wp2_with (go_at_call 19; refine (HNO.out _ _).mono ?_; rintro e w5 ⟨rfl, rfl⟩)
        go_ret
        exact ⟨by rw [HR.out, HE.out]; rfl, hbH.out⟩
      · have hx : (xs.map rgT).length = xs.length := by rw [List.length_map]
        have hjo : Lib.join ((xs.map rgT).map (·.data.toList)) [32] = (rgsT xs xs.length).data.toList := by
          have h := HJN.out
          rw [List.take_of_length_le (by rw [List.length_map]; exact Nat.le_refl _)] at h
          rw [← h]
          simp [mkB]
        have hlen : (Lib.join ((xs.map rgT).map (·.data.toList)) [32]).length ≤ 140737488355328 := by
          rw [hjo]
          have := HBD.out
          have e : (rgsT xs xs.length).data.toList.length = (rgsT xs xs.length).size := rfl
          omega
        have hjc := joinSep_any w1.heap.size xs.length xs.length _ wr hx h0 (owns_cells hro) (Nat.le_refl _) (by omega) hlen
        rw [hjo, mkB_back] at hjc
        have HJ := Lib.hid hjc
        have hbH := Lib.hid hb
        clear hjc hfa hru hx hjo hlen hro hb
        go_wp2_with (go_at_call 19; refine HJ.out.mono ?_; rintro e w5 ⟨rfl, hb5⟩)
        go_ret
        exact ⟨by rw [HR.out]; rfl, bnext hbH.out hb5⟩

end Go.Proofs.YthidaoemonjemacDoor
