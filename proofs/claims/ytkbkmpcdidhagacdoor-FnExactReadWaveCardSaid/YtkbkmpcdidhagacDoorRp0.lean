/-
  readPoints of the program: the points that a text has, at most so many.
-/
import Derived.Test.YtkbkmpcdidhagacDoorPt0
import Derived.Test.YtkbkmpcdidhagacDoorL0
import Derived.Test.YtkbkmpcdidhagacDoorR1
import Derived.Test.YtkbkmpcdidhagacDoorR2
import Derived.Test.YtkbkmpcdidhagacDoorR3
import Derived.Test.YtkbkmpcdidhagacDoorTw
import Derived.Test.YtkbkmpcdidhagacDoorGs
namespace Go.Proofs.YtkbkmpcdidhagacDoor
open Go.ChangeShapes Go.WideShapes Go.ChangeAt Go.RowKit

set_option maxRecDepth 100000
set_option maxHeartbeats 1600000
set_option linter.unusedVariables false

def cutA (p : List UInt8) : List UInt8 := (Lib.cut p [58]).1
def cutB (p : List UInt8) : List UInt8 := (Lib.cut p [58]).2.1
/-- the point of a part, by the program -/
def rdPt (p : List UInt8) : Int × Int := (valP (cutA p), valP (cutB p))
def rdOk (p : List UInt8) : Bool := numP (cutA p) && numP (cutB p)
theorem mkB_toList (l : List UInt8) : (mkB l).data.toList = l := by simp [mkB]
theorem cutA_le (p : List UInt8) : (cutA p).length ≤ p.length := by
  unfold cutA Lib.cut
  split
  · exact Nat.le_trans (by simp [List.length_take]; omega) (Nat.le_refl p.length)
  · exact Nat.le_refl _
theorem cutB_le (p : List UInt8) : (cutB p).length ≤ p.length := by
  unfold cutB Lib.cut
  split
  · exact Nat.le_trans (by simp [List.length_drop]) (Nat.le_refl p.length)
  · exact Nat.zero_le _
theorem mkB_size2 (l : List UInt8) : (mkB l).size = l.length := rfl
theorem cutPart_any (p : List UInt8) (w : World) (hp : p.length ≤ 1048576) (hm : MaxVar w) :
    Calls Tryd.prog 43 #[.string (mkB p), .string ⟨#[58]⟩] w fun e w' => (∃ b, e = .returned (.tuple #[.string (mkB (cutA p)), .string (mkB (cutB p)), .bool b])) ∧ Below w.heap.size w w' := by
  obtain ⟨m, hm0⟩ := hm
  have hC := Tryd.strings_Cut (mkB p) ⟨#[58]⟩ m w (by rw [mkB_size2]; omega) hm0
  refine hC.mono ?_
  rintro e w' ⟨rfl, ⟨n, rfl⟩⟩
  rw [mkB_toList]
  exact ⟨⟨_, rfl⟩, below_drewN (Below.refl _ _) n⟩
def partsN (k : Nat) (s : ByteArray) : List (List UInt8) := Lib.splitK [32] 0 (min k (s.data.toList.length + 1) - 1) s.data.toList
theorem splitPts_any (k : Nat) (s : ByteArray) (w : World) (hs : s.size ≤ 1048576) (hk1 : 1 ≤ k) (hk : k ≤ 1000) (hm : MaxVar w) :
    Calls Tryd.prog 42 #[.string s, .string ⟨#[32]⟩, .int .i64 k] w fun e w' => ∃ A c, e = .returned (.slice A (partsN k s).length c) ∧ CellsAt w' A (strsV (partsN k s)) ∧ LiesIn w'.heap.size A ∧ Below w.heap.size w w' := by
  obtain ⟨m, hm⟩ := hm
  have hX := Lib.splitB_data ⟨#[32]⟩ 0 (min k (s.size + 1) - 1) s
  have hP : (Lib.splitB ⟨#[32]⟩ 0 (min k (s.size + 1) - 1) s).map (·.data.toList) = partsN k s := by
    rw [hX]; unfold partsN; rw [size_list]
  have hlen : (partsN k s).length = (Lib.splitB ⟨#[32]⟩ 0 (min k (s.size + 1) - 1) s).length := by rw [← hP, List.length_map]
  have hle := Lib.splitB_length_le ⟨#[32]⟩ 0 (min k (s.size + 1) - 1) s
  have hstr : strsV (partsN k s) = (Lib.splitB ⟨#[32]⟩ 0 (min k (s.size + 1) - 1) s).map Value.string := by rw [← hP]; exact mkB_map _
  have h := Tryd.strings_SplitN s ⟨#[32]⟩ k m w (by omega) hm (by decide) hk1 (by omega)
  refine h.mono ?_
  rintro e w' ⟨rfl, rfl⟩
  refine ⟨_, _, by rw [hlen], ?_, ?_, (Below.refl _ _).alloc (Nat.le_refl _) _⟩
  · rw [hstr]
    intro h0
    refine ⟨_, _, rfl, fun j hj => ?_⟩
    rw [List.length_map] at hj
    unfold Lib.cellsOf
    simp
    rw [List.getElem?_append_left (by rw [List.length_map]; exact hj)]
    simp
  · rintro b off e
    injection e with e
    injection e with e1 e2
    subst e1
    simp
theorem infoPtR : (Tryd.prog.info? 42).map (fun i => (i.zero, i.size, i.bytes)) = some (some (.agg #[.int .i64 0, .int .i64 0]), 2, 16) := by kernel_rfl
/-- points or none, as a call returns them -/
def RetPtO (o : Option (List (Int × Int))) (w : World) (e : Ending) (w' : World) : Prop :=
  (∃ l, o = some l ∧ ∃ A c, e = .returned (.tuple #[.slice A l.length c, .bool true]) ∧ w'.ownsRow w.heap.size 42 2 (.slice A l.length c) l.length (rowsF ptCs l) ∧ Below w.heap.size w w') ∨
  (o = none ∧ e = .returned (.tuple #[.slice none 0 0, .bool false]) ∧ Below w.heap.size w w')
/-- what the program makes of a text -/
def readPts (m : Nat) (s : ByteArray) : Option (List (Int × Int)) :=
  if (partsN (m + 1) s).length ≤ m ∧ (partsN (m + 1) s).all rdOk = true then some ((partsN (m + 1) s).map rdPt) else none
theorem ownsP_base {w : World} {base base' K : Nat} {E : TypeId} {v : Value} {n : Nat} {vs : List Value} (h : w.ownsRow base E K v n vs) (hb : base' ≤ base) : w.ownsRow base' E K v n vs := by
  refine ⟨h.1, ?_⟩
  rcases h.2 with h2 | ⟨g, cap, cur, hv, hg0, h3⟩
  · exact .inl h2
  · exact .inr ⟨g, cap, cur, hv, by omega, h3⟩
theorem readPoints_any (m : Nat) (s : ByteArray) (w : World) (hm1 : 1 ≤ m) (hm9 : m ≤ 100) (hs : s.size ≤ 1048576) (hm : MaxVar w) (hv : ErrVars w) (ht : PowTab w) :
    Calls Tryd.prog 24 #[.string s, .int .i64 m] w (RetPtO (readPts m s) w) := by
  obtain ⟨i0, hi, hz0, hz1, hz2⟩ := info_parts infoPtR
  have hR : readPts m s = if (partsN (m + 1) s).length ≤ m ∧ (partsN (m + 1) s).all rdOk = true then some ((partsN (m + 1) s).map rdPt) else none := rfl
  have hpos : 1 ≤ (partsN (m + 1) s).length := splitK_pos _ _ _
  have hle : (partsN (m + 1) s).length ≤ m + 1 := by have := splitK_le [32] (min (m + 1) (s.data.toList.length + 1) - 1) s.data.toList; unfold partsN; omega
  have HP : Hid (∀ p ∈ partsN (m + 1) s, p.length ≤ 1048576) := Lib.hid fun p hp => by
    have := splitK_piece _ _ _ p hp
    rw [size_list] at this; omega
  have HS := Lib.hid (show Calls Tryd.prog 42 #[.string s, .string ⟨#[32]⟩, .int .i64 ((m : Int) + 1)] w _ from splitPts_any (m + 1) s w hs (by omega) (by omega) hm)
  have HM := Lib.hid hm
  have HV := Lib.hid hv
  have HT := Lib.hid ht
  have HR := Lib.hid hR
  generalize readPts m s = R at *
  generalize partsN (m + 1) s = ps at *
  clear hR hm hv ht
  have hnm : ps.length ≤ maxLen := by unfold maxLen; omega
  by_cases hlm : ps.length ≤ m
  rotate_left
  · have HN : Hid (R = none) := Lib.hid (by rw [HR.out, if_neg (fun h => hlm h.1)])
    have hlm2 : m < ps.length := by omega
    clear hlm HR HP
    go_enter Tryd.func24, Tryd.ntmps24
    go_wp2_with (go_at_call 42; refine HS.out.mono ?_; rintro e w1 ⟨A, c, rfl, hcells, hlies, hb1⟩; have HB1 := Lib.hid hb1; clear hb1 hcells hlies)
    go_ret2
    exact .inr ⟨HN.out, rfl, HB1.out⟩
  have hnlt : ¬ m < ps.length := by omega
  have HRN : Hid (ps.all rdOk = false → R = none) := Lib.hid fun h0 => by rw [HR.out, if_neg (fun h => by rw [h0] at h; exact absurd h.2 (by simp))]
  have HRY : Hid (ps.all rdOk = true → R = some (ps.map rdPt)) := Lib.hid fun h0 => by rw [HR.out, if_pos ⟨hlm, h0⟩]
  clear HR
  go_enter Tryd.func24, Tryd.ntmps24
  go_wp2_with (first | (go_at_call 42; refine HS.out.mono ?_; rintro e w1 ⟨A, c, rfl, hcells, hlies, hb1⟩) | (refine wpList_make_full _ rfl _ _ _ rfl w1.heap.size 42 i0 (.agg #[.int .i64 0, .int .i64 0]) 2 Tryd.underlying39 hi hz0 hz1 _ _ _ _ ps.length rfl rfl rfl rfl (by rw [hz2]; omega) hnm (Nat.le_refl _) ?_; intro w2 hown hgrow))
  have hb2 := Below.grown (Below.refl w1.heap.size w1) hgrow (Nat.le_refl _) (fun k hk => by cases hk)
  have hl1 := hown.1
  generalize (madeCells (Value.agg #[.int .i64 0, .int .i64 0]).cells (ps.length * 2)).toList = us at *
  have HX := Lib.hid hl1
  have HCE := Lib.hid hcells
  have HLI := Lib.hid hlies
  have HB1 := Lib.hid hb1
  clear hl1 hcells hlies hb1
  go_loopw [30] (fun i wr => ∃ k : Nat, k ≤ ps.length ∧ i = .int .i64 k ∧ wr.ownsRow w1.heap.size 42 2 (.slice (some ⟨w1.heap.size, 0, none⟩) ps.length ps.length) ps.length (fillF ptCs 2 ((ps.map rdPt).take k) us) ∧ Hid ((ps.take k).all rdOk = true) ∧ Below w1.heap.size w1 wr) (fun i _ => ps.length - (intOf i).toNat)
  case atStart => exact ⟨0, Nat.zero_le _, rfl, by rw [List.take_zero, fillF_nil]; exact hown, Lib.hid rfl, hb2⟩
  case round =>
    clear hown hgrow hb2
    obtain ⟨k, hk, rfl, hro, Hall, hb⟩ := hrel
    by_cases hlt : k < ps.length
    · obtain ⟨b, o, rfl, h1⟩ := HCE.out (by rw [strsV_length]; omega)
      have hlb := HLI.out b o rfl
      have g1 : wr.cell? ⟨b, o + k, none⟩ = some (.string (mkB ps[k])) := by rw [hb.cell (p := ⟨b, o + k, none⟩) hlb, h1 k (by rw [strsV_length]; exact hlt), strsV_at _ _ hlt]
      have hpk := HP.out _ (List.getElem_mem hlt)
      have Hts := Lib.hid (all_take_succ rdOk ps k hlt)
      have Hfs := Lib.hid (all_false_at rdOk ps k hlt)
      have hT : Hid ((ps.map rdPt).take (k + 1) = (ps.map rdPt).take k ++ [rdPt ps[k]]) := Lib.hid (by rw [List.take_succ_eq_append_getElem (by rw [List.length_map]; exact hlt), List.getElem_map])
      have hbw := bnext HB1.out hb
      have HC := Lib.hid (cutPart_any ps[k] wr hpk (HM.out.next hbw))
      have hcA := cutA_le ps[k]
      have hcB := cutB_le ps[k]
      have HR1 := Lib.hid (fun wx (hbx : Below w.heap.size w wx) => by
        have h := implReadDecimal_any (mkB (cutA ps[k])) wx (by rw [mkB_size2]; omega) (HV.out.next hbx) (HT.out.next hbx)
        rw [mkB_toList, decT_eq] at h
        exact h)
      have HR2 := Lib.hid (fun wx (hbx : Below w.heap.size w wx) => by
        have h := implReadDecimal_any (mkB (cutB ps[k])) wx (by rw [mkB_size2]; omega) (HV.out.next hbx) (HT.out.next hbx)
        rw [mkB_toList, decT_eq] at h
        exact h)
      have HPT : Hid (rdPt ps[k] = (valP (cutA ps[k]), valP (cutB ps[k]))) := Lib.hid rfl
      have HOKK : Hid (rdOk ps[k] = (numP (cutA ps[k]) && numP (cutB ps[k]))) := Lib.hid rfl
      generalize ps[k] = p at *
      generalize mkB (cutA p) = sa at *
      generalize mkB (cutB p) = sb at *
      generalize valP (cutA p) = va at *
      generalize valP (cutB p) = vb at *
      generalize hna : numP (cutA p) = na at *
      generalize hnb : numP (cutB p) = nb at *
      clear h1 hlb hpk hna hnb hcA hcB
      have tok : True := trivial
      cases hn : (na && nb)
      · have hno := Hfs.out (by rw [HOKK.out, hn])
        have HN : Hid (R = none) := Lib.hid (HRN.out hno)
        have HBW := Lib.hid hbw
        clear hno hro hb hbw
        cases na
        · go_wp2_with (first | (go_at_call 43; refine HC.out.mono ?_; rintro e w2 ⟨⟨cb, rfl⟩, hbc⟩; have HB2 := Lib.hid (bnext HBW.out hbc); clear hbc) | (go_at_call 44; clear tok; refine (HR1.out _ HB2.out).mono ?_; rintro e w3 ⟨rfl, hb3⟩; have HB3 := Lib.hid (bnext HB2.out hb3); clear hb3) | (go_at_call 44; refine (HR2.out _ HB3.out).mono ?_; rintro e w4 ⟨rfl, hb4⟩; have HB4 := Lib.hid (bnext HB3.out hb4); clear hb4))
          go_ret2
          exact .inr ⟨HN.out, rfl, HB4.out⟩
        · have hnq : nb = false := by simpa using hn
          subst hnq
          go_wp2_with (first | (go_at_call 43; refine HC.out.mono ?_; rintro e w2 ⟨⟨cb, rfl⟩, hbc⟩; have HB2 := Lib.hid (bnext HBW.out hbc); clear hbc) | (go_at_call 44; clear tok; refine (HR1.out _ HB2.out).mono ?_; rintro e w3 ⟨rfl, hb3⟩; have HB3 := Lib.hid (bnext HB2.out hb3); clear hb3) | (go_at_call 44; refine (HR2.out _ HB3.out).mono ?_; rintro e w4 ⟨rfl, hb4⟩; have HB4 := Lib.hid (bnext HB3.out hb4); clear hb4))
          go_ret2
          exact .inr ⟨HN.out, rfl, HB4.out⟩
      · rw [Bool.and_eq_true] at hn
        have HALL : Hid ((ps.take (k + 1)).all rdOk = true) := Lib.hid (by rw [Hts.out, Hall.out, HOKK.out, hn.1, hn.2]; rfl)
        obtain ⟨rfl, rfl⟩ := hn
        have HRO := Lib.hid hro
        have HBR := Lib.hid hb
        have HBW := Lib.hid hbw
        clear hro hb hbw
        have hkl : ((ps.map rdPt).take k).length = k := by rw [List.length_take, List.length_map]; omega
        have hbig : ((ps.map rdPt).take k).length * 2 + 2 ≤ us.length := by rw [HX.out, hkl]; omega
        obtain ⟨u0, hu0⟩ := fillF_at ptCsL ((ps.map rdPt).take k) us hbig 0 (by omega)
        obtain ⟨u1, hu1⟩ := fillF_at ptCsL ((ps.map rdPt).take k) us hbig 1 (by omega)
        rw [hkl] at hu0 hu1
        have hfs := fillF_set ptCsL ((ps.map rdPt).take k) us (va, vb) hbig
        rw [hkl] at hfs
        have HFS := Lib.hid hfs
        have HU0 := Lib.hid hu0
        have HU1 := Lib.hid hu1
        clear hfs hkl hbig hu0 hu1
        rw [HPT.out] at hT
        go_wp2_with (first | (go_at_call 43; refine HC.out.mono ?_; rintro e w2 ⟨⟨cb, rfl⟩, hbc⟩; have HB2 := Lib.hid (bnext HBW.out hbc); have HQ2 := Lib.hid hbc; clear hbc) | (go_at_call 44; clear tok; refine (HR1.out _ HB2.out).mono ?_; rintro e w3 ⟨rfl, hb3⟩; have HB3 := Lib.hid (bnext HB2.out hb3); have HQ3 := Lib.hid (bnext HQ2.out hb3); clear hb3) | (go_at_call 44; refine (HR2.out _ HB3.out).mono ?_; rintro e w4 ⟨rfl, hb4⟩; have hbt := bnext HQ3.out hb4; clear hb4; have hro1 := HRO.out.kept (row := none) ⟨hbt.os, hbt.tape, hbt.output, hbt.size, fun k hk _ => hbt.block k hk⟩ (.inr (by simp [Value.ownBlock])); have c0 := (hro1.cellAt (k * 2) (by omega)).trans HU0.out; have c1 := (hro1.cellAt (k * 2 + 1) (by omega)).trans HU1.out; have f0 := hro1.frozenAt (k * 2); have f1 := hro1.frozenAt (k * 2 + 1); have hst := ((hro1.stored (k * 2) (.int .i64 va)).1.stored (k * 2 + 1) (.int .i64 vb)).1; rw [show ((fillF ptCs 2 ((ps.map rdPt).take k) us).set (k * 2) (.int .i64 va)).set (k * 2 + 1) (.int .i64 vb) = _ from HFS.out, ← hT.out] at hst; have Hst := Lib.hid hst; have HBT := Lib.hid (bnext HBR.out hbt); clear hst hro1 hbt))
        go_roundw
        case rel => exact ⟨k + 1, by omega, by go_num, Hst.out, HALL, ((HBT.out.setCell (Nat.le_refl _) _).setCell (Nat.le_refl _) _)⟩
        case measure => simp [intOf]; omega
    · obtain rfl : k = ps.length := by omega
      rw [List.take_length] at Hall
      rw [← List.length_map (f := rdPt), List.take_length, fillF_all ptCsL (ps.map rdPt) us (by rw [HX.out, List.length_map])] at hro
      have HN : Hid (R = some (ps.map rdPt)) := Lib.hid (HRY.out Hall.out)
      have HFIN : Hid (RetPtO R w (.returned (.tuple #[.slice (some ⟨w1.heap.size, 0, none⟩) ps.length ps.length, .bool true])) wr) := Lib.hid (.inl ⟨_, HN.out, _, _, by rw [List.length_map], ownsP_base hro HB1.out.size, bnext HB1.out hb⟩)
      clear hro hb Hall
      go_wp2
      go_ret2
      exact HFIN.out

end Go.Proofs.YtkbkmpcdidhagacDoor
