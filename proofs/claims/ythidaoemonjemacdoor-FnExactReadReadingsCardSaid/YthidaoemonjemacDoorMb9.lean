/-
  ReadReadings of the program.
-/
import Derived.Test.YthidaoemonjemacDoorMb8
import Derived.Test.YthidaoemonjemacDoorR3
import Derived.Test.YthidaoemonjemacDoorRg2
namespace Go.Proofs.YthidaoemonjemacDoor
open Go.ChangeShapes Go.WideShapes Go.ChangeAt Go.RowKit

set_option maxRecDepth 100000
set_option maxHeartbeats 1600000
set_option linter.unusedVariables false

def partsR (s : ByteArray) : List (List UInt8) := Lib.splitK [32] 0 (min 49 (s.data.toList.length + 1) - 1) s.data.toList
theorem splitR_any (s : ByteArray) (w : World) (hs : s.size ≤ 1048576) (hm : MaxVar w) :
    Calls Tryd.prog 22 #[.string s, .string ⟨#[32]⟩, .int .i64 49] w fun e w' => ∃ A c, e = .returned (.slice A (partsR s).length c) ∧ CellsAt w' A (strsV (partsR s)) ∧ LiesIn w'.heap.size A ∧ Below w.heap.size w w' := by
  obtain ⟨m, hm⟩ := hm
  have hX := Lib.splitB_data ⟨#[32]⟩ 0 (min 49 (s.size + 1) - 1) s
  have hP : (Lib.splitB ⟨#[32]⟩ 0 (min 49 (s.size + 1) - 1) s).map (·.data.toList) = partsR s := by
    rw [hX]; unfold partsR; rw [size_list]
  have hlen : (partsR s).length = (Lib.splitB ⟨#[32]⟩ 0 (min 49 (s.size + 1) - 1) s).length := by rw [← hP, List.length_map]
  have hle := Lib.splitB_length_le ⟨#[32]⟩ 0 (min 49 (s.size + 1) - 1) s
  have hstr : strsV (partsR s) = (Lib.splitB ⟨#[32]⟩ 0 (min 49 (s.size + 1) - 1) s).map Value.string := by rw [← hP]; exact mkB_map _
  have h := Tryd.strings_SplitN s ⟨#[32]⟩ 49 m w (by omega) hm (by decide) (by decide) (by decide)
  refine h.mono ?_
  rintro e w' ⟨rfl, rfl⟩
  refine ⟨_, _, by rw [hlen], ?_, ?_, (Below.refl _ _).alloc (Nat.le_refl _) _⟩
  · rw [hstr]
    intro h0
    refine ⟨_, _, rfl, fun j hj => ?_⟩
    rw [List.length_map] at hj
    unfold Lib.cellsOf
    simp
    rw [List.getElem?_append_left (by rw [List.length_map]; exact hj)]
    simp
  · rintro b off e
    injection e with e
    injection e with e1 e2
    subst e1
    simp
/-- readings or none, as a call returns them -/
def RetRO (o : Option (List Rg)) (w : World) (e : Ending) (w' : World) : Prop :=
  (∃ l, o = some l ∧ ∃ A c, e = .returned (.tuple #[.slice A l.length c, .bool true]) ∧ w'.ownsRow w.heap.size 35 2 (.slice A l.length c) l.length (rowsF Rg.cs l) ∧ Below w.heap.size w w') ∨
  (o = none ∧ e = .returned (.tuple #[.slice none 0 0, .bool false]) ∧ Below w.heap.size w w')
/-- what the program makes of a text -/
def implR (s : ByteArray) : Option (List Rg) :=
  if s.data.toList = [] then some [] else if (partsR s).all rdOk = true ∧ okRs ((partsR s).map rdP) = true then some ((partsR s).map rdP) else none
theorem ownsF_base {w : World} {base base' K : Nat} {E : TypeId} {v : Value} {n : Nat} {vs : List Value} (h : w.ownsRow base E K v n vs) (hb : base' ≤ base) : w.ownsRow base' E K v n vs := by
  refine ⟨h.1, ?_⟩
  rcases h.2 with h2 | ⟨g, cap, cur, hv, hg0, h3⟩
  · exact .inl h2
  · exact .inr ⟨g, cap, cur, hv, by omega, h3⟩
theorem empty_trueR (s : ByteArray) (h : s.data.toList = []) : s = ⟨#[]⟩ := by
  apply ByteArray.ext
  simpa using h
theorem implReadReadings_any (s : ByteArray) (w : World) (hs : s.size ≤ 1048576) (hm : MaxVar w) (hv : ErrVars w) (ht : PowTab w) :
    Calls Tryd.prog 11 #[.string s] w (RetRO (implR s) w) := by
  obtain ⟨i0, hi, hz0, hz1, hz2⟩ := info_parts infoRg
  by_cases he : s.data.toList = []
  · have hR : implR s = some [] := by unfold implR; rw [if_pos he]
    have HR := Lib.hid hR
    have hse := empty_trueR s he
    clear hR he
    subst hse
    go_enter Tryd.func11, Tryd.ntmps11
    go_wp2
    go_ret2
    exact .inl ⟨[], HR.out, none, 0, rfl, World.ownsRow_nil _ _ _ _, Below.refl _ _⟩
  have hR : implR s = if (partsR s).all rdOk = true ∧ okRs ((partsR s).map rdP) = true then some ((partsR s).map rdP) else none := by unfold implR; rw [if_neg he]
  have hpos : 1 ≤ (partsR s).length := splitK_pos _ _ _
  have hle : (partsR s).length ≤ 49 := by have := splitK_le [32] (min 49 (s.data.toList.length + 1) - 1) s.data.toList; unfold partsR; omega
  have HP : Hid (∀ p ∈ partsR s, p.length ≤ 1048576) := Lib.hid fun p hp => by
    have := splitK_piece _ _ _ p hp
    rw [size_list] at this; omega
  have HS := Lib.hid (splitR_any s w hs hm)
  have HM := Lib.hid hm
  have HV := Lib.hid hv
  have HT := Lib.hid ht
  have HR := Lib.hid hR
  have heb : (s.toList == []) = false := by
    rw [beq_eq_false_iff_ne, ByteArray.toList_eq]
    exact he
  generalize implR s = R at *
  generalize partsR s = ps at *
  clear he hR hm hv ht
  have hnm : ps.length ≤ maxLen := by unfold maxLen; omega
  go_enter Tryd.func11, Tryd.ntmps11
  go_wp2_with (first | (go_at_call 22; refine HS.out.mono ?_; rintro e w1 ⟨A, c, rfl, hcells, hlies, hb1⟩) | (refine wpList_make_full _ rfl _ _ _ rfl w1.heap.size 35 i0 (.agg #[.int .i64 0, .int .i64 0]) 2 Tryd.underlying25 hi hz0 hz1 _ _ _ _ ps.length rfl rfl rfl rfl (by rw [hz2]; omega) hnm (Nat.le_refl _) ?_; intro w2 hown hgrow))
  have hb2 := Below.grown (Below.refl w1.heap.size w1) hgrow (Nat.le_refl _) (fun k hk => by cases hk)
  have hl1 := hown.1
  generalize (madeCells (Value.agg #[.int .i64 0, .int .i64 0]).cells (ps.length * 2)).toList = us at *
  have HX := Lib.hid hl1
  have HCE := Lib.hid hcells
  have HLI := Lib.hid hlies
  have HB1 := Lib.hid hb1
  clear hl1 hcells hlies hb1
  go_loopw [19] (fun i wr => ∃ k : Nat, k ≤ ps.length ∧ i = .int .i64 k ∧ wr.ownsRow w1.heap.size 35 2 (.slice (some ⟨w1.heap.size, 0, none⟩) ps.length ps.length) ps.length (fillF Rg.cs 2 ((ps.map rdP).take k) us) ∧ Hid ((ps.take k).all rdOk = true) ∧ Below w1.heap.size w1 wr) (fun i _ => ps.length - (intOf i).toNat)
  case atStart => exact ⟨0, Nat.zero_le _, rfl, by rw [List.take_zero, fillF_nil]; exact hown, Lib.hid rfl, hb2⟩
  case round =>
    clear hown hgrow hb2
    obtain ⟨k, hk, rfl, hro, Hall, hb⟩ := hrel
    by_cases hlt : k < ps.length
    · obtain ⟨b, o, rfl, h1⟩ := HCE.out (by rw [strsV_length]; omega)
      have hlb := HLI.out b o rfl
      have g1 : wr.cell? ⟨b, o + k, none⟩ = some (.string (mkB ps[k])) := by rw [hb.cell (p := ⟨b, o + k, none⟩) hlb, h1 k (by rw [strsV_length]; exact hlt), strsV_at _ _ hlt]
      have hpk := HP.out _ (List.getElem_mem hlt)
      have Hts := Lib.hid (all_take_succ rdOk ps k hlt)
      have Hfs := Lib.hid (all_false_at rdOk ps k hlt)
      have hT : Hid ((ps.map rdP).take (k + 1) = (ps.map rdP).take k ++ [rdP ps[k]]) := Lib.hid (by rw [List.take_succ_eq_append_getElem (by rw [List.length_map]; exact hlt), List.getElem_map])
      have hbw := bnext HB1.out hb
      have HRD := Lib.hid (by
        have h := readReading_any (mkB ps[k]) wr (by rw [mkB_size]; omega) (HM.out.next hbw) (HV.out.next hbw) (HT.out.next hbw)
        rw [mkB_toList] at h
        exact h)
      generalize ps[k] = p at *
      generalize rdP p = x at *
      clear h1 hlb hpk
      by_cases hn : rdOk p = true
      rotate_left
      · have hn : rdOk p = false := by simpa only [Bool.not_eq_true] using hn
        rw [hn] at HRD
        have hno := Hfs.out hn
        have HF := Lib.hid (show RetRO R w (.returned (.tuple #[.slice none 0 0, .bool false])) wr → True from fun _ => trivial)
        have HN : Hid (R = none) := Lib.hid (by rw [HR.out, if_neg (fun h => by rw [hno] at h; exact absurd h.1 (by simp))])
        have HBW := Lib.hid hbw
        clear hn hno hro hb hbw
        go_wp2_with (go_at_call 23; refine HRD.out.mono ?_; rintro e w3 ⟨rfl, hb3⟩; have HB3 := Lib.hid (bnext HBW.out hb3); clear hb3)
        go_ret2
        exact .inr ⟨HN.out, rfl, bal HB3.out _⟩
      rw [hn] at HRD
      have HALL : Hid ((ps.take (k + 1)).all rdOk = true) := Lib.hid (by rw [Hts.out, Hall.out, hn]; rfl)
      clear hn
      have HRO := Lib.hid hro
      have HBR := Lib.hid hb
      clear hro hb hbw
      have hkl : ((ps.map rdP).take k).length = k := by rw [List.length_take, List.length_map]; omega
      have hbig : ((ps.map rdP).take k).length * 2 + 2 ≤ us.length := by rw [HX.out, hkl]; omega
      obtain ⟨u0, hu0⟩ := fillF_at Rg.csL ((ps.map rdP).take k) us hbig 0 (by omega)
      obtain ⟨u1, hu1⟩ := fillF_at Rg.csL ((ps.map rdP).take k) us hbig 1 (by omega)
      rw [hkl] at hu0 hu1
      have hfs := fillF_set Rg.csL ((ps.map rdP).take k) us x hbig
      rw [hkl] at hfs
      have HFS := Lib.hid hfs
      have HU0 := Lib.hid hu0
      have HU1 := Lib.hid hu1
      clear hfs hkl hbig hu0 hu1
      go_upto_region 9 with (go_at_call 23; refine HRD.out.mono ?_; rintro e w3 ⟨rfl, hb3⟩; have HB3 := Lib.hid hb3; clear hb3)
      have hN := RgO.new w3 x 35
      have ⟨n0, n1⟩ := hN
      have hb4 := bal (bnext HBR.out HB3.out) (.cells #[.int .i64 x.h, .int .i64 x.c] 35)
      have hb34 := bal HB3.out (.cells #[.int .i64 x.h, .int .i64 x.c] 35)
      have hro1 := HRO.out.kept (row := none) ⟨hb34.os, hb34.tape, hb34.output, hb34.size, fun k hk _ => hb34.block k hk⟩ (.inr (by simp [Value.ownBlock]))
      have c0 := (hro1.cellAt (k * 2) (by omega)).trans HU0.out
      have c1 := (hro1.cellAt (k * 2 + 1) (by omega)).trans HU1.out
      have f0 := hro1.frozenAt (k * 2)
      have f1 := hro1.frozenAt (k * 2 + 1)
      have hst := ((hro1.stored (k * 2) (.int .i64 x.h)).1.stored (k * 2 + 1) (.int .i64 x.c)).1
      rw [show (((fillF Rg.cs 2 ((ps.map rdP).take k) us).set (k * 2) (.int .i64 x.h)).set (k * 2 + 1) (.int .i64 x.c)) = _ from HFS.out, ← hT.out] at hst
      have Hst := Lib.hid hst
      have HB4 := Lib.hid hb4
      clear hst hro1 hN hb4 hb34
      go_wp2
      go_roundw
      case rel => exact ⟨k + 1, by omega, by go_num, Hst.out, HALL, ((HB4.out.setCell (Nat.le_refl _) _).setCell (Nat.le_refl _) _)⟩
      case measure => simp [intOf]; omega
    · obtain rfl : k = ps.length := by omega
      rw [List.take_length] at Hall
      rw [← List.length_map (f := rdP), List.take_length, fillF_all Rg.csL (ps.map rdP) us (by rw [HX.out, List.length_map])] at hro
      rw [List.length_map] at hro
      have hcR := rowsF_owned hro
      have hall := Hall.out
      have hok : RgsOk wr (some ⟨w1.heap.size, 0, none⟩) ps.length (ps.map rdP) := ⟨⟨List.length_map .., by unfold maxLen; omega, hcR, fun _ _ => by first | trivial | exact True.intro⟩, by omega⟩
      have HVR := Lib.hid (implVR_any _ _ ps.length (ps.map rdP) wr hok)
      have HB5 := Lib.hid (bnext HB1.out hb)
      have HRO := Lib.hid hro
      have hsz := HB1.out.size
      have HSZ := Lib.hid hsz
      clear hcR hok hro hb
      by_cases hv : okRs (ps.map rdP) = true
      · have HN : Hid (R = some (ps.map rdP)) := Lib.hid (by rw [HR.out, if_pos ⟨hall, hv⟩])
        rw [hv] at HVR
        clear hv hall
        go_wp2_with (go_at_call 17; refine HVR.out.mono ?_; rintro e w5 ⟨rfl, hb5⟩; have HB6 := Lib.hid (bnext HB5.out hb5); have HO6 := Lib.hid (HRO.out.kept (row := none) ⟨hb5.os, hb5.tape, hb5.output, hb5.size, fun k hk _ => hb5.block k hk⟩ (.inr (by simp [Value.ownBlock]))); clear hb5)
        go_ret2
        refine .inl ⟨_, HN.out, _, _, by rw [List.length_map]; rfl, ?_, HB6.out⟩
        rw [List.length_map]
        exact ownsF_base HO6.out HSZ.out
      · have hv : okRs (ps.map rdP) = false := by simpa only [Bool.not_eq_true] using hv
        have HN : Hid (R = none) := Lib.hid (by rw [HR.out, if_neg (fun h => by rw [hv] at h; exact absurd h.2 (by simp))])
        rw [hv] at HVR
        clear hv hall
        go_wp2_with (go_at_call 17; refine HVR.out.mono ?_; rintro e w5 ⟨rfl, hb5⟩; have HB6 := Lib.hid (bnext HB5.out hb5); clear hb5)
        go_ret2
        exact .inr ⟨HN.out, rfl, HB6.out⟩

end Go.Proofs.YthidaoemonjemacDoor
