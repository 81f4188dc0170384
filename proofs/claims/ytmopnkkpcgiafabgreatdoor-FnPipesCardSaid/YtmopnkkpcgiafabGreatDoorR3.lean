/-
  Reading a list: the program's.
-/
import Derived.Test.YtmopnkkpcgiafabGreatDoorR2
import Derived.Test.YtmopnkkpcgiafabGreatDoorL0
namespace Go.Proofs.YtmopnkkpcgiafabGreatDoor
open Go.ChangeShapes Go.WideShapes Go.ChangeAt Go.RowKit

theorem splitK_pos (b : List UInt8) (k : Nat) (l : List UInt8) : 1 ≤ (Lib.splitK b 0 k l).length := by
  cases k with
  | zero => exact Nat.le_refl _
  | succ k => unfold Lib.splitK; split <;> simp
theorem splitK_le (b : List UInt8) : ∀ (k : Nat) (l : List UInt8), (Lib.splitK b 0 k l).length ≤ k + 1 := by
  intro k
  induction k with
  | zero => intro l; exact Nat.le_refl _
  | succ k ih =>
    intro l
    unfold Lib.splitK
    split
    · simp
    · have := ih (l.drop ((Lib.index l b).toNat + b.length))
      rw [List.length_cons]; omega
theorem splitK_piece (b : List UInt8) : ∀ (k : Nat) (l : List UInt8), ∀ p ∈ Lib.splitK b 0 k l, p.length ≤ l.length := by
  intro k
  induction k with
  | zero => intro l p hp; simp [Lib.splitK] at hp; subst hp; exact Nat.le_refl _
  | succ k ih =>
    intro l p hp
    unfold Lib.splitK at hp
    split at hp
    · simp at hp; subst hp; exact Nat.le_refl _
    · rcases List.mem_cons.1 hp with rfl | h
      · rw [List.length_take]; omega
      · have := ih _ p h
        rw [List.length_drop] at this; omega
theorem mkB_map (X : List ByteArray) : (X.map (·.data.toList)).map (fun p => Value.string (mkB p)) = X.map Value.string := by
  rw [List.map_map]
  exact List.map_congr_left fun x _ => by simp only [Function.comp]; rw [mkB_list]
/-- the parts that the library cuts -/
def partsK (s : ByteArray) : List (List UInt8) := Lib.splitK [44] 0 (min 65 (s.data.toList.length + 1) - 1) s.data.toList
theorem splitN_any (s : ByteArray) (w : World) (hs : s.size ≤ 1048576) (hm : MaxVar w) :
    Calls Tryz.prog 36 #[.string s, .string ⟨#[44]⟩, .int .i64 65] w fun e w' => ∃ A c, e = .returned (.slice A (partsK s).length c) ∧ CellsAt w' A (strsV (partsK s)) ∧ LiesIn w'.heap.size A ∧ Below w.heap.size w w' := by
  obtain ⟨m, hm⟩ := hm
  have hX := Lib.splitB_data ⟨#[44]⟩ 0 (min 65 (s.size + 1) - 1) s
  have hP : (Lib.splitB ⟨#[44]⟩ 0 (min 65 (s.size + 1) - 1) s).map (·.data.toList) = partsK s := by
    rw [hX]; unfold partsK; rw [size_list]
  have hlen : (partsK s).length = (Lib.splitB ⟨#[44]⟩ 0 (min 65 (s.size + 1) - 1) s).length := by rw [← hP, List.length_map]
  have hle := Lib.splitB_length_le ⟨#[44]⟩ 0 (min 65 (s.size + 1) - 1) s
  have hstr : strsV (partsK s) = (Lib.splitB ⟨#[44]⟩ 0 (min 65 (s.size + 1) - 1) s).map Value.string := by rw [← hP]; exact mkB_map _
  have h := Tryz.strings_SplitN s ⟨#[44]⟩ 65 m w (by omega) hm (by decide) (by decide) (by decide)
  refine h.mono ?_
  rintro e w' ⟨rfl, rfl⟩
  refine ⟨_, _, by rw [hlen], ?_, ?_, (Below.refl _ _).alloc (Nat.le_refl _) _⟩
  · rw [hstr]
    intro h0
    refine ⟨_, _, rfl, fun j hj => ?_⟩
    rw [List.length_map] at hj
    unfold Lib.cellsOf
    simp
    rw [List.getElem?_append_left (by rw [List.length_map]; exact hj)]
    simp
  · rintro b off e
    injection e with e
    injection e with e1 e2
    subst e1
    simp

set_option maxRecDepth 100000 in
set_option maxHeartbeats 1600000 in
theorem implReadList_any (s : ByteArray) (w : World) (hs : s.size ≤ 1048576) (hm : MaxVar w) (hv : ErrVars w) (ht : PowTab w) :
    Calls Tryz.prog 37 #[.string s] w (RetList (readL s.data.toList) w) := by
  obtain ⟨i0, hi, hz0, hz1, hz2⟩ := info_parts infoI64
  by_cases hd : s.data.toList = [45]
  · have hsd := dash_true s hd
    have HR := Lib.hid (readL_dash hd)
    subst hsd
    go_enter Tryz.func37, Tryz.ntmps37
    go_wp2
    go_ret2
    exact retList_some HR.out rfl (owns_none _ _ _) rfl (Below.refl _ _)
  · have hdb := dash_false s hd
    have HE : Hid (readL s.data.toList = if (partsK s).all numP = true ∧ listL ((partsK s).map valP) = s.data.toList then some ((partsK s).map valP) else none) := Lib.hid (implL_eq _ hd).symm
    have hpos : 1 ≤ (partsK s).length := splitK_pos _ _ _
    have hle : (partsK s).length ≤ 65 := by have := splitK_le [44] (min 65 (s.data.toList.length + 1) - 1) s.data.toList; unfold partsK; omega
    have HP : Hid (∀ p ∈ partsK s, p.length ≤ 1048576) := Lib.hid fun p hp => by
      have := splitK_piece _ _ _ p hp
      rw [size_list] at this; omega
    have HS := Lib.hid (splitN_any s w hs hm)
    generalize readL s.data.toList = R at *
    generalize partsK s = ps at *
    clear hd
    go_enter Tryz.func37, Tryz.ntmps37
    go_wp2_with (first | (go_at_call 36; refine HS.out.mono ?_; rintro e w1 ⟨A, c, rfl, hcells, hlies, hb1⟩) | (refine wpList_make_full _ rfl _ _ _ rfl w1.heap.size 2 i0 (.int .i64 0) 1 Tryz.underlying22 hi hz0 hz1 _ _ _ _ ps.length rfl rfl rfl rfl (by rw [hz2]; omega) (by unfold maxLen; omega) (Nat.le_refl _) ?_; intro w2 hown hgrow))
    have hb2 := Below.grown (Below.refl w1.heap.size w1) hgrow (Nat.le_refl _) (fun k hk => by cases hk)
    have hl1 := owns_len hown
    generalize (madeCells (Value.int IntKind.i64 0).cells (ps.length * 1)).toList = xs at *
    have HX := Lib.hid hl1
    clear hl1
    go_loopw [19] (fun i wr => ∃ j : Nat, j ≤ ps.length ∧ i = .int .i64 j ∧ wr.ownsRow w1.heap.size 2 1 (.slice (some ⟨w1.heap.size, 0, none⟩) ps.length ps.length) ps.length (fillV (fun j => (intsV (ps.map valP)).getD j default) j xs) ∧ Hid ((ps.take j).all numP = true) ∧ Below w1.heap.size w1 wr) (fun i _ => ps.length - (intOf i).toNat)
    case atStart => exact ⟨0, Nat.zero_le _, rfl, hown, Lib.hid rfl, hb2⟩
    case round =>
      obtain ⟨k, hk, rfl, hro, Hall, hb⟩ := hrel
      by_cases hlt : k < ps.length
      · obtain ⟨b, o, rfl, h1⟩ := hcells (by rw [strsV_length]; omega)
        have hlb := hlies b o rfl
        have g1 : wr.cell? ⟨b, o + k, none⟩ = some (.string (mkB ps[k])) := by rw [hb.cell (p := ⟨b, o + k, none⟩) hlb, h1 k (by rw [strsV_length]; exact hlt), strsV_at _ _ hlt]
        have Hpk := Lib.hid (HP.out _ (List.getElem_mem hlt))
        have Hts := Lib.hid (all_take_succ numP ps k hlt)
        have Hfs := Lib.hid (all_false_at numP ps k hlt)
        have hfs := fillV_set (fun j => (intsV (ps.map valP)).getD j default) xs k (by rw [HX.out]; exact hlt)
        have hgd : (intsV (ps.map valP)).getD k default = .int .i64 (valP ps[k]) := by simp [intsV, List.getD, hlt]
        rw [hgd] at hfs
        have Hfl := Lib.hid hfs
        clear hfs hgd
        generalize ps[k] = p at *
        have hnum := fun wx h1 h2 => implReadDecimal_any (mkB p) wx (by rw [mkB_size]; have := Hpk.out; omega) h1 h2
        have hnum' : ∀ wx, ErrVars wx → PowTab wx → Calls Tryz.prog 85 #[.string (mkB p)] wx fun e w' => e = .returned (.tuple #[.int .i64 (valP p), .bool (numP p)]) ∧ Below wx.heap.size wx w' := hnum
        have Hnum := Lib.hid hnum'
        have hc1 := hro.cellAt k (by omega)
        have hbw := bnext hb1 hb
        clear hnum hnum' h1 hcells hlies
        generalize mkB p = q at *
        generalize valP p = v at *
        by_cases hn : numP p = true
        · rw [hn] at Hnum
          have Ho := Lib.hid hn
          clear hn
          go_wp2_with (first | (go_at_call 85; refine (Hnum.out _ (hv.next hbw) (ht.next hbw)).mono ?_; rintro e w3 ⟨rfl, hb3⟩; have hro1 := owns_below hro hb3 (Nat.le_refl _); have hc1 := hro1.cellAt k (by omega); have hf1 := hro1.frozenAt k; rw [fillV_get, List.getElem?_eq_getElem (by rw [HX.out]; exact hlt)] at hc1))
          go_roundw
          case rel =>
            have hst := hro1.stored k (.int .i64 v)
            rw [Hfl.out] at hst
            exact ⟨k + 1, by omega, by go_num, hst.1, Lib.hid (by rw [Hts.out, Hall.out, Ho.out]; rfl), (bnext hb hb3).setCell (Nat.le_refl _) _⟩
          case measure => simp [intOf]; omega
        · have hn' : numP p = false := by simpa using hn
          rw [hn'] at Hnum
          have hrn : R = none := by rw [HE.out, if_neg]; exact fun e => by rw [Hfs.out hn'] at e; cases e.1
          have Hrn := Lib.hid hrn
          clear hn hn' hrn
          go_wp2_with (first | (go_at_call 85; refine (Hnum.out _ (hv.next hbw) (ht.next hbw)).mono ?_; rintro e w3 ⟨rfl, hb3⟩))
          go_ret2
          exact retList_none Hrn.out rfl (bnext hbw hb3)
      · have e : k = ps.length := by omega
        have hfa := fillV_all (fun k => (intsV (ps.map valP)).getD k default) k xs (by rw [HX.out, e])
        have hru : (List.range k).map (fun k => (intsV (ps.map valP)).getD k default) = intsV (ps.map valP) := by
          refine List.ext_getElem (by simp [intsV, e]) fun j h1 h2 => ?_
          simp [List.getD, h2]
        rw [hfa, hru] at hro
        rw [List.take_of_length_le (by omega)] at Hall
        subst e
        have hbw := bnext hb1 hb
        have hlt := fun wx hA ht => implListText_any (some ⟨w1.heap.size, 0, none⟩) ps.length ps.length (ps.map valP) wx (by rw [List.length_map]) (by unfold maxLen; omega) hA ht
        have hlt := hlt wr (owns_cells hro) (ht.next hbw)
        by_cases hsame : listL (ps.map valP) = s.data.toList
        · have hR : R = some (ps.map valP) := by rw [HE.out, if_pos ⟨Hall.out, hsame⟩]
          rw [hsame, mkB_list] at hlt
          have HR := Lib.hid hR
          have HLT := Lib.hid hlt
          clear hR hlt hsame hfa hru
          go_wp2_with (go_at_call 64; refine HLT.out.mono ?_; rintro e w3 ⟨rfl, hb3⟩)
          go_ret2
          exact retList_some HR.out rfl (owns_base (owns_below hro hb3 (Nat.le_refl _)) hb1.size) rfl (bnext hbw hb3)
        · have hR : R = none := by rw [HE.out, if_neg fun e => hsame e.2]
          have hne : ((mkB (listL (ps.map valP))).toList == s.toList) = false := by
            rw [beq_eq_false_iff_ne, ByteArray.toList_eq, ByteArray.toList_eq]
            exact hsame
          generalize mkB (listL (ps.map valP)) = q at *
          have HR := Lib.hid hR
          have HLT := Lib.hid hlt
          clear hR hlt hsame hfa hru
          go_wp2_with (go_at_call 64; refine HLT.out.mono ?_; rintro e w3 ⟨rfl, hb3⟩)
          go_ret2
          exact retList_none HR.out rfl (bnext hbw hb3)
end Go.Proofs.YtmopnkkpcgiafabGreatDoor
