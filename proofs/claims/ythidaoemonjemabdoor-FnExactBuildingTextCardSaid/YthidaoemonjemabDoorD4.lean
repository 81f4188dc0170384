/-
  A list of numbers as text, of the program and of the model.
-/
import Derived.Test.YthidaoemonjemabDoorM2
import Derived.Test.YthidaoemonjemabDoorS1
import Derived.Test.YthidaoemonjemabDoorD1
import Derived.Test.YthidaoemonjemabDoorD2
import Derived.Test.YthidaoemonjemabDoorB6
import Derived.Lib.ItoaLen
namespace Go.Proofs.YthidaoemonjemabDoor
open Go.ChangeShapes Go.WideShapes Go.ChangeAt Go.RowKit

def inV (z : Int) : Bool := inB z (-1000000000000) 1000000000000
def fitsL (zs : List Int) : Bool := zs.all inV && decide (zs.length ≤ 64)
/-- the numbers' decimals with commas between -/
def commaL (zs : List Int) : List UInt8 := Lib.join (zs.map Lib.itoa) [44]
def listL (zs : List Int) : List UInt8 := if fitsL zs then (if zs.length = 0 then [45] else commaL zs) else []
theorem allIn_inV (zs : List Int) : allIn (-1000000000000) 1000000000000 zs = zs.all inV := by
  induction zs with
  | nil => rfl
  | cons z r ih => rw [allIn_cons _ _ _ _ (by omega), ih]; rfl
theorem commaL_one (z : Int) : commaL [z] = Lib.itoa z := Lib.join_one _ _
theorem commaL_snoc (zs : List Int) (z : Int) (h : 0 < zs.length) : commaL (zs ++ [z]) = commaL zs ++ [44] ++ Lib.itoa z := by
  cases zs with
  | nil => simp at h
  | cons a r =>
    unfold commaL
    rw [List.cons_append, List.map_cons, List.map_cons, Lib.join_cons, Lib.join_cons, List.map_append]
    simp [Lib.joinTail]
theorem mkB_append (a b : List UInt8) : mkB (a ++ b) = mkB a ++ mkB b := by
  apply ByteArray.ext
  simp [mkB]
theorem mkB_size (l : List UInt8) : (mkB l).size = l.length := rfl
theorem itoa_bd (z : Int) (h : inV z = true) : (Lib.itoa z).length ≤ 21 := by
  have := inB_iff.1 h
  exact Lib.itoa_length_le z (by omega) (by omega)
theorem commaL_bd (zs : List Int) (h : zs.all inV = true) : (commaL zs).length ≤ 22 * zs.length := by
  cases zs with
  | nil => exact Nat.zero_le _
  | cons a r =>
    unfold commaL
    rw [List.map_cons, Lib.join_cons, List.length_append, Lib.joinTail_length, List.length_map]
    rw [List.all_cons, Bool.and_eq_true] at h
    have h1 := itoa_bd a h.1
    have h2 : ∀ l : List Int, l.all inV = true → Lib.lens (l.map Lib.itoa) ≤ 21 * l.length := by
      intro l
      induction l with
      | nil => intro _; exact Nat.zero_le _
      | cons b s ih =>
        intro hb
        rw [List.all_cons, Bool.and_eq_true] at hb
        have := ih hb.2
        have := itoa_bd b hb.1
        simp only [Lib.lens, List.map_cons, List.sum_cons, List.length_cons] at *
        omega
    have := h2 r h.2
    simp only [List.length_cons, List.length_nil]
    omega

theorem fitsL_true {zs : List Int} (h : fitsL zs = true) : zs.all inV = true ∧ zs.length ≤ 64 := by
  unfold fitsL at h
  rw [Bool.and_eq_true, decide_eq_true_eq] at h
  exact h
theorem l01List_any (A : Option Addr) (c n : Nat) (zs : List Int) (w : World) (hn : zs.length = n) (hf : fitsL zs = true) (hA : CellsAt w A (intsV zs)) :
    Calls Tryd.prog 48 #[.slice A n c] w fun e w' => e = .returned (.string (mkB (listL zs))) ∧ Below w.heap.size w w' := by
  have hm : n ≤ 64 := by rw [← hn]; exact (fitsL_true hf).2
  have HL := Lib.hid hn
  have HF := Lib.hid hf
  have HD : Hid (listL zs = if zs.length = 0 then [45] else commaL zs) := Lib.hid (if_pos hf)
  clear hn hf
  by_cases h0 : n = 0
  · subst h0
    have HE : Hid (mkB (listL zs) = ⟨#[45]⟩) := Lib.hid (by rw [HD.out, if_pos HL.out]; rfl)
    go_enter Tryd.func48, Tryd.ntmps48
    go_wp2
    go_ret
    exact ⟨by rw [HE.out]; rfl, Below.refl _ _⟩
  · have hz' : ((n : Int) == 0) = false := by rw [beq_eq_false_iff_ne]; omega
    have HE : Hid (listL zs = commaL zs) := Lib.hid (by rw [HD.out, if_neg (by rw [HL.out]; exact h0)])
    go_enter Tryd.func48, Tryd.ntmps48
    go_wp2
    go_loopw [3, 4] (fun o i wr => ∃ (k : Nat) (s : ByteArray), k ≤ n ∧ i = .int .i64 k ∧ o = .string s ∧ s.size ≤ 22 * k ∧ Hid (s = mkB (commaL (zs.take k))) ∧ Below w.heap.size w wr) (fun _ i _ => n - (intOf i).toNat)
    case atStart => exact ⟨0, _, Nat.zero_le _, rfl, rfl, Nat.le_refl _, Lib.hid rfl, Below.refl _ _⟩
    case round =>
      obtain ⟨k, s, hk, rfl, rfl, hs, Hs, hb⟩ := hrel
      by_cases hlt : k < n
      · have hkl : k < zs.length := by rw [HL.out]; exact hlt
        obtain ⟨b, o, rfl, h1⟩ := hA (by rw [intsV_length]; omega)
        have hlb := CellsAt.lies hA (by rw [intsV_length]; omega)
        have g1 : wr.cell? ⟨b, o + k, none⟩ = some (.int .i64 zs[k]) := by rw [hb.cell (p := ⟨b, o + k, none⟩) hlb, h1 k (by rw [intsV_length]; exact hkl), intsV_at _ _ hkl]
        have hz : inV zs[k] = true := List.all_eq_true.1 (fitsL_true HF.out).1 _ (List.getElem_mem hkl)
        have hz2 := inB_iff.1 hz
        have hzl := itoa_bd _ hz
        have hsz : (mkB (Lib.itoa zs[k])).size ≤ 21 := hzl
        have hone : k = 0 → zs.take (k + 1) = [zs[k]] := fun e => by subst e; rw [List.take_succ_eq_append_getElem hkl]; rfl
        have hsnoc : 0 < k → commaL (zs.take (k + 1)) = commaL (zs.take k) ++ [44] ++ Lib.itoa zs[k] := fun e => by
          rw [List.take_succ_eq_append_getElem hkl, commaL_snoc _ _ (by rw [List.length_take]; omega)]
        have H1 := Lib.hid hone
        have H2 := Lib.hid hsnoc
        generalize zs[k] = z at *
        clear h1 hA hkl hz hone hsnoc hzl
        generalize hq : mkB (Lib.itoa z) = q at *
        have Hq := Lib.hid hq
        clear hq
        by_cases hk0 : 0 < (k : Int)
        · have hcs : (s ++ ⟨#[44]⟩).size = s.size + 1 := by rw [ByteArray.size_append]; rfl
          have hcq : ((s ++ ⟨#[44]⟩) ++ q).size = s.size + 1 + q.size := by rw [ByteArray.size_append, hcs]
          have Hcq := Lib.hid hcq
          clear hcq
          go_wp2_with (go_at_call 77; refine (l01Dec_any _ _ (by omega) (by omega)).mono ?_; rintro e w1 ⟨rfl, hb1⟩; rw [Hq.out])
          go_roundw
          case rel => exact ⟨k + 1, _, by omega, by go_num, rfl, by rw [Hcq.out]; omega, Lib.hid (by rw [H2.out (by omega), mkB_append, mkB_append, ← Hs.out, Hq.out]; rfl), bnext hb hb1⟩
          case measure => simp [intOf]; omega
        · have e : k = 0 := by omega
          subst e
          have hs0 : s.size = 0 := by omega
          rw [Nat.add_zero] at g1
          have hcq : (s ++ q).size = q.size := by rw [ByteArray.size_append]; omega
          have Hcq := Lib.hid hcq
          clear hcq
          go_wp2_with (go_at_call 77; refine (l01Dec_any _ _ (by omega) (by omega)).mono ?_; rintro e w1 ⟨rfl, hb1⟩; rw [Hq.out])
          go_roundw
          case rel => exact ⟨1, _, by omega, by go_num, rfl, by rw [Hcq.out]; omega, Lib.hid (by rw [H1.out (by simp), commaL_one, Hq.out, Hs.out]; apply ByteArray.ext; simp [mkB, commaL, Lib.join]), bnext hb hb1⟩
          case measure => simp [intOf]; omega
      · have e : k = n := by omega
        subst e
        rw [List.take_of_length_le (by rw [HL.out]; exact Nat.le_refl _)] at Hs
        go_wp2
        go_ret
        exact ⟨by rw [HE.out, ← Hs.out]; rfl, hb⟩

theorem listL_bad {zs : List Int} (h : fitsL zs = false) : mkB (listL zs) = ⟨#[]⟩ := by unfold listL; rw [h]; rfl
theorem join_any (g n c : Nat) (xs : List ByteArray) (w : World) (hx : xs.length = n) (h0 : 0 < n) (hc : CellsAt w (some ⟨g, 0, none⟩) (xs.map Value.string)) (hcap : n ≤ c) (hN : n ≤ 140737488355328)
    (hlen : (Lib.join (xs.map (·.data.toList)) [44]).length ≤ 140737488355328) :
    Calls Tryd.prog 28 #[.slice (some ⟨g, 0, none⟩) n c, .string ⟨#[44]⟩] w fun e w' => e = .returned (.string (mkB (Lib.join (xs.map (·.data.toList)) [44]))) ∧ Below w.heap.size w w' := by
  subst hx
  have hl := CellsAt.lies hc (by rw [List.length_map]; exact h0)
  obtain ⟨b, o, e, h1⟩ := hc (by rw [List.length_map]; exact h0)
  injection e with e
  injection e with e1 e2
  subst e1; subst e2
  exact Tryd.strings_Join g 0 c xs ⟨#[44]⟩ w (fun j x hj => by
    have hjl := (List.getElem?_eq_some_iff.1 hj).1
    rw [h1 j (by rw [List.length_map]; exact hjl)]
    simp [hj]) hl hN hcap hlen
/-- the decimals as cells -/
def decV (zs : List Int) : List Value := (zs.map fun z => mkB (Lib.itoa z)).map Value.string
set_option maxRecDepth 100000 in
set_option maxHeartbeats 1600000 in
theorem implListText_any (A : Option Addr) (c n : Nat) (zs : List Int) (w : World) (hn : zs.length = n) (hbig : n ≤ maxLen) (hA : CellsAt w A (intsV zs)) (ht : PowTab w) :
    Calls Tryd.prog 29 #[.slice A n c] w fun e w' => e = .returned (.string (mkB (listL zs))) ∧ Below w.heap.size w w' := by
  have hm : n ≤ 9223372036854775807 := by unfold maxLen at hbig; omega
  have HL := Lib.hid hn
  have hall := allIn_inV zs
  have Hall := Lib.hid hall
  clear hn hall
  by_cases h64 : n ≤ 64
  · by_cases hv : zs.all inV = true
    · have hf : fitsL zs = true := by unfold fitsL; rw [hv, HL.out]; simpa using h64
      have HF := Lib.hid hf
      have HD : Hid (listL zs = if zs.length = 0 then [45] else commaL zs) := Lib.hid (if_pos hf)
      have Hv := Lib.hid hv
      clear hf hv
      by_cases h0 : n = 0
      · subst h0
        have HE : Hid (mkB (listL zs) = ⟨#[45]⟩) := Lib.hid (by rw [HD.out, if_pos HL.out]; rfl)
        go_enter Tryd.func29, Tryd.ntmps29
        go_wp2_with (go_at_call 51; refine (within64_cells _ _ _ _ _ zs _ HL.out hbig hA).mono ?_; rintro e w' ⟨rfl, rfl⟩; rw [Hall.out, Hv.out])
        go_ret
        exact ⟨by rw [HE.out]; rfl, Below.refl _ _⟩
      · have hz' : ((n : Int) == 0) = false := by rw [beq_eq_false_iff_ne]; omega
        have HE : Hid (listL zs = commaL zs) := Lib.hid (by rw [HD.out, if_neg (by rw [HL.out]; exact h0)])
        obtain ⟨i0, hi, hz0, hz1, hz2⟩ := info_parts infoStr
        go_enter Tryd.func29, Tryd.ntmps29
        go_wp2_with (first | (go_at_call 51; refine (within64_cells _ _ _ _ _ zs _ HL.out hbig hA).mono ?_; rintro e w' ⟨rfl, rfl⟩; rw [Hall.out, Hv.out]) | (refine wpList_make_full _ rfl _ _ _ rfl w.heap.size 9 i0 (.string ⟨#[]⟩) 1 Tryd.underlying53 hi hz0 hz1 _ _ _ _ n rfl rfl rfl rfl (by rw [hz2]; omega) hbig (Nat.le_refl _) ?_; intro w1 hown hgrow))
        have hb1 := Below.grown (Below.refl w.heap.size w) hgrow (Nat.le_refl _) (fun k hk => by cases hk)
        have hl1 := owns_len hown
        generalize (madeCells (Value.string { data := #[] }).cells (n * 1)).toList = xs at *
        have HX := Lib.hid hl1
        clear hl1
        have HR : Hid (∀ j, j < n → ∃ x : Int, (zs[j]? = some x ∧ (intsV zs)[j]? = some (.int .i64 x) ∧ (decV zs)[j]? = some (.string (mkB (Lib.itoa x)))) ∧ -1000000000000 ≤ x ∧ x ≤ 1000000000000) := Lib.hid fun j hj => by
          have hjl : j < zs.length := by rw [HL.out]; exact hj
          have := inB_iff.1 (List.all_eq_true.1 Hv.out _ (List.getElem_mem hjl))
          exact ⟨zs[j], ⟨List.getElem?_eq_getElem hjl, intsV_at _ _ hjl, by simp [decV, hjl]⟩, this⟩
        go_loopw [22] (fun i wr => ∃ j : Nat, j ≤ n ∧ i = .int .i64 j ∧ wr.ownsRow w.heap.size 9 1 (.slice (some ⟨w.heap.size, 0, none⟩) n n) n (fillV (fun j => (decV zs).getD j default) j xs) ∧ Below w.heap.size w wr) (fun i _ => n - (intOf i).toNat)
        case atStart => exact ⟨0, Nat.zero_le _, rfl, hown, hb1⟩
        case round =>
          obtain ⟨j, hj, rfl, hro, hb⟩ := hrel
          by_cases hlt : j < n
          · obtain ⟨b, o, rfl, h1⟩ := hA (by rw [intsV_length, HL.out]; omega)
            obtain ⟨x, ⟨hx1, hx2, hx3⟩, hx4, hx5⟩ := HR.out j hlt
            have hlb := CellsAt.lies hA (by rw [intsV_length, HL.out]; omega)
            have g1 : wr.cell? ⟨b, o + j, none⟩ = some (.int .i64 x) := by
              rw [hb.cell (p := ⟨b, o + j, none⟩) hlb, h1 j (by rw [intsV_length, HL.out]; exact hlt), hx2]
            have hfs := fillV_set (fun j => (decV zs).getD j default) xs j (by rw [HX.out]; exact hlt)
            have hgd : (decV zs).getD j default = .string (mkB (Lib.itoa x)) := by rw [List.getD, hx3]; rfl
            rw [hgd] at hfs
            have Hfs := Lib.hid hfs
            clear hfs hgd hx1 hx2 hx3 h1 hA
            go_wp2_with (go_at_call 56; refine (implDecimal_any _ _ (by omega) (by omega) (ht.next hb)).mono ?_; rintro e w2 ⟨rfl, hb2⟩; have hro1 := owns_below hro hb2 (Nat.le_refl _); have hc1 := hro1.cellAt j (by omega); have hf1 := hro1.frozenAt j; rw [fillV_get, List.getElem?_eq_getElem (by rw [HX.out]; exact hlt)] at hc1)
            go_roundw
            case rel =>
              have hst := hro1.stored j (.string (mkB (Lib.itoa x)))
              rw [Hfs.out] at hst
              exact ⟨j + 1, by omega, by go_num, hst.1, (bnext hb hb2).setCell (Nat.le_refl _) _⟩
            case measure => simp [intOf]; omega
          · have e : j = n := by omega
            subst e
            have hfa := fillV_all (fun k => (decV zs).getD k default) j xs HX.out
            have hru : (List.range j).map (fun k => (decV zs).getD k default) = decV zs := by
              refine List.ext_getElem (by simp [decV, HL.out]) fun k h1 h2 => ?_
              simp [List.getD, h2]
            rw [hfa, hru] at hro
            have hx : (zs.map fun z => mkB (Lib.itoa z)).length = j := by rw [List.length_map]; exact HL.out
            have hjo : Lib.join ((zs.map fun z => mkB (Lib.itoa z)).map (·.data.toList)) [44] = commaL zs := by
              unfold commaL
              rw [List.map_map]
              rfl
            have hlen : (Lib.join ((zs.map fun z => mkB (Lib.itoa z)).map (·.data.toList)) [44]).length ≤ 140737488355328 := by
              rw [hjo]
              have := commaL_bd zs Hv.out
              have := HL.out
              omega
            have hjc := join_any w.heap.size j j _ wr hx (by omega) (owns_cells hro) (Nat.le_refl _) (by omega) hlen
            rw [hjo] at hjc
            have HJ := Lib.hid hjc
            clear hjc hfa hru hx hjo hlen
            go_wp2_with (go_at_call 28; refine HJ.out.mono ?_; rintro e w2 ⟨rfl, hb2⟩)
            go_ret
            exact ⟨by rw [HE.out]; rfl, bnext hb hb2⟩
    · have hv' : zs.all inV = false := by simpa using hv
      have hf : fitsL zs = false := by unfold fitsL; rw [hv']; rfl
      have HE := Lib.hid (listL_bad hf)
      have Hv := Lib.hid hv'
      clear hv hv' hf
      go_enter Tryd.func29, Tryd.ntmps29
      go_wp2_with (first | (go_at_call 51; refine (within64_cells _ _ _ _ _ zs _ HL.out hbig hA).mono ?_; rintro e w' ⟨rfl, rfl⟩; rw [Hall.out, Hv.out]))
      go_ret
      exact ⟨by rw [HE.out]; rfl, Below.refl _ _⟩
  · have hf : fitsL zs = false := by unfold fitsL; rw [HL.out]; simp [h64]
    have HE := Lib.hid (listL_bad hf)
    go_enter Tryd.func29, Tryd.ntmps29
    go_wp2
    go_ret
    exact ⟨by rw [HE.out]; rfl, Below.refl _ _⟩
end Go.Proofs.YthidaoemonjemabDoor
