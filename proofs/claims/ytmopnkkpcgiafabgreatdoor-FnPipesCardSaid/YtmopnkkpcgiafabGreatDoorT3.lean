/-
  Reading a pipe: what is read, and the program's way.
-/
import Derived.Test.YtmopnkkpcgiafabGreatDoorT2
import Derived.Test.YtmopnkkpcgiafabGreatDoorR3
import Derived.Lib.IndexMore
import Derived.Deep.RegionHeld3
import Derived.Deep.RegionWith
namespace Go.Proofs.YtmopnkkpcgiafabGreatDoor
open Go.ChangeShapes Go.WideShapes Go.ChangeAt Go.RowKit

/-- five numbers and an Id make a valid pipe -/
def fiveOk (id : ByteArray) (zs : List Int) : Bool := decide (zs.length = 5) && okP id (zs.getD 0 0) (zs.getD 1 0) (zs.getD 2 0) (zs.getD 3 0) (zs.getD 4 0)
/-- a pipe out of an Id and a list that was read -/
def madeP (id : ByteArray) (o : Option (List Int)) : Option (List Int) := if fiveOk id (o.getD []) then some (o.getD []) else none
/-- a pipe as a value: the zero pipe where there is none -/
def pipeV (id : ByteArray) : Option (List Int) → Value
  | some zs => .agg #[.string id, .int .i64 (zs.getD 0 0), .int .i64 (zs.getD 1 0), .int .i64 (zs.getD 2 0), .int .i64 (zs.getD 3 0), .int .i64 (zs.getD 4 0)]
  | none => .agg #[.string ByteArray.empty, .int .i64 0, .int .i64 0, .int .i64 0, .int .i64 0, .int .i64 0]
theorem madeP_none {id : ByteArray} {o : Option (List Int)} (h : fiveOk id (o.getD []) = false) : madeP id o = none := by unfold madeP; rw [h]; rfl
theorem madeP_some {id : ByteArray} {o : Option (List Int)} (h : fiveOk id (o.getD []) = true) : madeP id o = some (o.getD []) := if_pos h
theorem list_five (zs : List Int) (h : zs.length = 5) : ∃ f t L d s, zs = [f, t, L, d, s] := by
  match zs, h with
  | [f, t, L, d, s], _ => exact ⟨f, t, L, d, s, rfl⟩

set_option maxRecDepth 100000 in
theorem pipeFrom_any (id nums : ByteArray) (w : World) (hi : id.size ≤ 1048576) (hs : nums.size ≤ 1048576) (hm : MaxVar w) (hv0 : ErrVars w) (ht : PowTab w) :
    Calls Tryz.prog 69 #[.string id, .string nums] w fun e w' => e = .returned (pipeV id (madeP id (readL nums.data.toList))) ∧ Below w.heap.size w w' := by
  have hR := Lib.hid (implReadList_any nums)
  generalize readL nums.data.toList = o at *
  have hb0 : Below w.heap.size w (w.alloc (.cells #[.string ByteArray.empty, .int .i64 0, .int .i64 0, .int .i64 0, .int .i64 0, .int .i64 0] 40)) := bal (Below.refl _ _) _
  have P0 := PipeAt.new w ByteArray.empty 0 0 0 0 0 40
  have F0 := Free6.new w #[.string ByteArray.empty, .int .i64 0, .int .i64 0, .int .i64 0, .int .i64 0, .int .i64 0] 40
  have hl0 : w.heap.size < (w.alloc (.cells #[.string ByteArray.empty, .int .i64 0, .int .i64 0, .int .i64 0, .int .i64 0, .int .i64 0] 40)).heap.size := by simp
  by_cases h5 : (o.getD []).length = 5
  · obtain ⟨f, t, L, d, s, h⟩ := list_five _ h5
    have hfo : fiveOk id (o.getD []) = okP id f t L d s := by rw [h]; rfl
    have hpv : fiveOk id (o.getD []) = true → pipeV id (madeP id o) = .agg #[.string id, .int .i64 f, .int .i64 t, .int .i64 L, .int .i64 d, .int .i64 s] := fun k => by rw [madeP_some k, h]; rfl
    have hpn : fiveOk id (o.getD []) = false → pipeV id (madeP id o) = pipeV id none := fun k => by rw [madeP_none k]
    rw [hfo] at hpv hpn
    have HPV := Lib.hid hpv
    have HPN := Lib.hid hpn
    have Hh := Lib.hid h
    clear hfo hpv hpn h
    go_enter Tryz.func69, Tryz.ntmps69
    go_wp2_with fail
    refine (hR.out _ hs (hm.next hb0) (hv0.next hb0) (ht.next hb0)).mono ?_
    rintro e w1 ⟨A, c, rfl, ho, hb1⟩
    rw [Hh.out] at ho ⊢
    obtain ⟨b, off, rfl, hc⟩ := owns_cells ho (by simp [intsV])
    have g0 : w1.cell? ⟨b, off, none⟩ = some (.int .i64 f) := hc 0 (by simp [intsV])
    have g1 : w1.cell? ⟨b, off + 1, none⟩ = some (.int .i64 t) := hc 1 (by simp [intsV])
    have g2 : w1.cell? ⟨b, off + 2, none⟩ = some (.int .i64 L) := hc 2 (by simp [intsV])
    have g3 : w1.cell? ⟨b, off + 3, none⟩ = some (.int .i64 d) := hc 3 (by simp [intsV])
    have g4 : w1.cell? ⟨b, off + 4, none⟩ = some (.int .i64 s) := hc 4 (by simp [intsV])
    obtain ⟨b0, b1, b2, b3, b4, b5⟩ := P0.next hb1
    obtain ⟨d0, d1, d2, d3, d4, d5⟩ := F0.keep (hb1.block _ hl0)
    have k0 : PipeAt w1 w.heap.size ByteArray.empty 0 0 0 0 0 := ⟨b0, b1, b2, b3, b4, b5⟩
    have hb := bnext hb0 hb1
    have Ho := Lib.hid ho
    clear ho hc
    have n0 := World.new_ne w1 _ g0
    have n1 := World.new_ne w1 _ g1
    have n2 := World.new_ne w1 _ g2
    have n3 := World.new_ne w1 _ g3
    have n4 := World.new_ne w1 _ g4
    go_wp2_with fail
    go_region_held3 (fun w' => w'.cell? ⟨b, off, none⟩ = some (.int .i64 f) ∧ w'.cell? ⟨b, off + 1, none⟩ = some (.int .i64 t) ∧ w'.cell? ⟨b, off + 2, none⟩ = some (.int .i64 L) ∧ w'.cell? ⟨b, off + 3, none⟩ = some (.int .i64 d) ∧ w'.cell? ⟨b, off + 4, none⟩ = some (.int .i64 s)) (go_keep) (fail)
    have hW : Below w1.heap.size w1 ((w1.alloc (.cells #[.string id, .int .i64 f, .int .i64 t, .int .i64 L, .int .i64 d, .int .i64 s] 40)).drew) := below_drewN (bal (Below.refl _ _) _) 1
    have hp2 : PipeAt ((w1.alloc (.cells #[.string id, .int .i64 f, .int .i64 t, .int .i64 L, .int .i64 d, .int .i64 s] 40)).drew) w1.heap.size id f t L d s := PipeAt.keep (PipeAt.new w1 id f t L d s 40) rfl
    have hl1 : w.heap.size < w1.heap.size := PipeAt.lies k0
    have f2 : Free6 w1 w.heap.size := ⟨d0, d1, d2, d3, d4, d5⟩
    have k2 := k0.next hW
    have f3 := f2.keep (hW.block _ hl1)
    have hb2 := bnext hb hW
    have hl2 : w.heap.size < ((w1.alloc (.cells #[.string id, .int .i64 f, .int .i64 t, .int .i64 L, .int .i64 d, .int .i64 s] 40)).drew).heap.size := PipeAt.lies k2
    clear g0 g1 g2 g3 g4 n0 n1 n2 n3 n4 b0 b1 b2 b3 b4 b5 d0 d1 d2 d3 d4 d5 hW hb k0 f2
    have ⟨p0, p1, p2, p3, p4, p5⟩ := hp2
    go_wp2_with fail
    refine (implValidPipe_any id f t L d s _ (by unfold maxLen; omega)).mono ?_
    rintro e w3 ⟨rfl, hb'⟩
    have k3 := k2.next hb'
    obtain ⟨d0, d1, d2, d3, d4, d5⟩ := f3.keep (hb'.block _ hl2)
    obtain ⟨b0, b1, b2, b3, b4, b5⟩ := k3
    have hq3 := hp2.next hb'
    have hb3 := bnext hb2 hb'
    have k3 : PipeAt w3 w.heap.size ByteArray.empty 0 0 0 0 0 := ⟨b0, b1, b2, b3, b4, b5⟩
    clear p0 p1 p2 p3 p4 p5
    have ⟨p0, p1, p2, p3, p4, p5⟩ := hq3
    clear hb' hp2 k2 f3
    by_cases HO : okP id f t L d s = true
    · rw [HO]
      go_wp2
      have hF := (((((k3.set0 id).set1 f).set2 t).set3 L).set4 d).set5 s
      refine bodyPost_ret (results_pipe Tryz.results69 _ _ w.heap.size id f t L d s rfl hF) rfl ⟨?_, ?_⟩
      · rw [HPV.out HO]
      · exact ((((((hb3.setCell (p := ⟨w.heap.size, 0, none⟩) (Nat.le_refl _) _).setCell (p := ⟨w.heap.size, 1, none⟩) (Nat.le_refl _) _).setCell (p := ⟨w.heap.size, 2, none⟩) (Nat.le_refl _) _).setCell (p := ⟨w.heap.size, 3, none⟩) (Nat.le_refl _) _).setCell (p := ⟨w.heap.size, 4, none⟩) (Nat.le_refl _) _).setCell (p := ⟨w.heap.size, 5, none⟩) (Nat.le_refl _) _)
    · have HO : okP id f t L d s = false := by simpa using HO
      rw [HO]
      go_wp2
      have hF := (((((k3.set0 ByteArray.empty).set1 0).set2 0).set3 0).set4 0).set5 0
      refine bodyPost_ret (results_pipe Tryz.results69 _ _ w.heap.size ByteArray.empty 0 0 0 0 0 rfl hF) rfl ⟨?_, ?_⟩
      · rw [HPN.out HO]; rfl
      · exact ((((((hb3.setCell (p := ⟨w.heap.size, 0, none⟩) (Nat.le_refl _) _).setCell (p := ⟨w.heap.size, 1, none⟩) (Nat.le_refl _) _).setCell (p := ⟨w.heap.size, 2, none⟩) (Nat.le_refl _) _).setCell (p := ⟨w.heap.size, 3, none⟩) (Nat.le_refl _) _).setCell (p := ⟨w.heap.size, 4, none⟩) (Nat.le_refl _) _).setCell (p := ⟨w.heap.size, 5, none⟩) (Nat.le_refl _) _)
  · have hv : madeP id o = none := madeP_none (by unfold fiveOk; rw [decide_eq_false h5]; rfl)
    rw [hv]
    clear hv
    have h5' : (((o.getD []).length : Int) == 5) = false := by rw [beq_eq_false_iff_ne]; omega
    have h5'' : (((o.getD []).length : Int) != 5) = true := by simpa using h5'
    go_enter Tryz.func69, Tryz.ntmps69
    go_wp2_with fail
    refine (hR.out _ hs (hm.next hb0) (hv0.next hb0) (ht.next hb0)).mono ?_
    rintro e w1 ⟨A, c, rfl, ho, hb1⟩
    obtain ⟨b0, b1, b2, b3, b4, b5⟩ := P0.next hb1
    obtain ⟨d0, d1, d2, d3, d4, d5⟩ := F0.keep (hb1.block _ hl0)
    have k0 : PipeAt w1 w.heap.size ByteArray.empty 0 0 0 0 0 := ⟨b0, b1, b2, b3, b4, b5⟩
    have hb := bnext hb0 hb1
    generalize (o.getD []).length = n at *
    go_wp2
    have hF := (((((k0.set0 ByteArray.empty).set1 0).set2 0).set3 0).set4 0).set5 0
    refine bodyPost_ret (results_pipe Tryz.results69 _ _ w.heap.size ByteArray.empty 0 0 0 0 0 rfl hF) rfl ⟨rfl, ?_⟩
    exact (((((hb.setCell (p := ⟨w.heap.size, 0, none⟩) (Nat.le_refl _) _).setCell (p := ⟨w.heap.size, 1, none⟩) (Nat.le_refl _) _).setCell (p := ⟨w.heap.size, 2, none⟩) (Nat.le_refl _) _).setCell (p := ⟨w.heap.size, 3, none⟩) (Nat.le_refl _) _).setCell (p := ⟨w.heap.size, 4, none⟩) (Nat.le_refl _) _).setCell (p := ⟨w.heap.size, 5, none⟩) (Nat.le_refl _) _

/-- the Id of a text of a pipe: what stands ahead of the first blank -/
def cutId (l : List UInt8) : ByteArray := mkB (l.take (Lib.index l [32]).toNat)
def readP (l : List UInt8) : Option (List Int) := if 0 ≤ Lib.index l [32] then madeP (cutId l) (readL (l.drop ((Lib.index l [32]).toNat + 1))) else none
theorem readL_nil : readL [] = none := rfl
theorem pipeV_zero (id : ByteArray) : pipeV id none = .agg #[.string ByteArray.empty, .int .i64 0, .int .i64 0, .int .i64 0, .int .i64 0, .int .i64 0] := rfl
theorem pipeV_five (id : ByteArray) (f t L d s : Int) : pipeV id (some [f, t, L, d, s]) = .agg #[.string id, .int .i64 f, .int .i64 t, .int .i64 L, .int .i64 d, .int .i64 s] := rfl
theorem fiveOk_none (id : ByteArray) : fiveOk id [] = false := rfl
theorem madeP_five {id : ByteArray} {o : Option (List Int)} {zs : List Int} (h : madeP id o = some zs) : ∃ f t L d s, zs = [f, t, L, d, s] ∧ okP id f t L d s = true ∧ o.getD [] = [f, t, L, d, s] := by
  unfold madeP at h
  split at h
  · next hf =>
    obtain ⟨rfl⟩ := h
    unfold fiveOk at hf
    rw [Bool.and_eq_true] at hf
    obtain ⟨f, t, L, d, s, h⟩ := list_five _ (of_decide_eq_true hf.1)
    have hk := hf.2
    rw [h] at hk
    exact ⟨f, t, L, d, s, h, hk, h⟩
  · cases h
theorem PipeAt.drew {w : World} {b : Nat} {id : ByteArray} {f t L d s : Int} (h : PipeAt w b id f t L d s) : PipeAt w.drew b id f t L d s := PipeAt.keep h rfl
theorem mkB_of (l : List UInt8) : (⟨l.toArray⟩ : ByteArray) = mkB l := rfl
theorem mkB_data (s : ByteArray) : mkB s.data.toList = s := rfl

theorem cut_any (s : ByteArray) (w : World) (hs : s.size ≤ 1048576) (hm : MaxVar w) :
    Calls Tryz.prog 68 #[.string s, .string ⟨#[32]⟩] w fun e w' => ∃ (a b : ByteArray) (k : Bool), e = .returned (.tuple #[.string a, .string b, .bool k]) ∧ a.size ≤ 1048576 ∧ b.size ≤ 1048576 ∧ madeP a (readL b.data.toList) = readP s.data.toList ∧ (readP s.data.toList ≠ none → a = cutId s.data.toList) ∧ Drawn w w' := by
  obtain ⟨m, hm⟩ := hm
  have hl := size_list s
  refine (Tryz.strings_Cut s ⟨#[32]⟩ m w (by omega) hm).mono ?_
  rintro e w' ⟨rfl, hd⟩
  by_cases hi : 0 ≤ Lib.index s.data.toList [32]
  · have hc : Lib.cut s.data.toList [32] = (s.data.toList.take (Lib.index s.data.toList [32]).toNat, s.data.toList.drop ((Lib.index s.data.toList [32]).toNat + 1), true) := by
      unfold Lib.cut; rw [if_pos hi]; rfl
    refine ⟨mkB (s.data.toList.take (Lib.index s.data.toList [32]).toNat), mkB (s.data.toList.drop ((Lib.index s.data.toList [32]).toNat + 1)), true, by show Ending.returned (.tuple #[.string ⟨(Lib.cut s.data.toList [32]).1.toArray⟩, .string ⟨(Lib.cut s.data.toList [32]).2.1.toArray⟩, .bool (Lib.cut s.data.toList [32]).2.2]) = _; rw [hc]; rfl, ?_, ?_, ?_, fun _ => rfl, hd⟩
    · show (mkB _).size ≤ _
      rw [mkB_size, List.length_take]; omega
    · show (mkB _).size ≤ _
      rw [mkB_size, List.length_drop]; omega
    · unfold readP
      rw [if_pos hi]
      rfl
  · have hc : Lib.cut s.data.toList [32] = (s.data.toList, [], false) := by
      unfold Lib.cut; rw [if_neg hi]
    refine ⟨s, mkB [], false, by show Ending.returned (.tuple #[.string ⟨(Lib.cut s.data.toList [32]).1.toArray⟩, .string ⟨(Lib.cut s.data.toList [32]).2.1.toArray⟩, .bool (Lib.cut s.data.toList [32]).2.2]) = _; rw [hc]; rfl, hs, ?_, ?_, ?_, hd⟩
    · show (mkB _).size ≤ _
      rw [mkB_size]; simp
    · unfold readP
      rw [if_neg hi]
      exact madeP_none (fiveOk_none _)
    · intro h
      unfold readP at h
      rw [if_neg hi] at h
      exact absurd rfl h

set_option maxRecDepth 100000 in
theorem implReadPipe_any (s : ByteArray) (w : World) (hs : s.size ≤ 1048576) (hm : MaxVar w) (hv : ErrVars w) (ht : PowTab w) :
    Calls Tryz.prog 28 #[.string s] w fun e w' => e = .returned (.tuple #[pipeV (cutId s.data.toList) (readP s.data.toList), .bool (readP s.data.toList).isSome]) ∧ Below w.heap.size w w' := by
  have hC := Lib.hid (cut_any s)
  generalize s.data.toList = l at *
  have hb0 : Below w.heap.size w (w.alloc (.cells #[.string ByteArray.empty, .int .i64 0, .int .i64 0, .int .i64 0, .int .i64 0, .int .i64 0] 40)) := bal (Below.refl _ _) _
  have P0 := PipeAt.new w ByteArray.empty 0 0 0 0 0 40
  have F0 := Free6.new w #[.string ByteArray.empty, .int .i64 0, .int .i64 0, .int .i64 0, .int .i64 0, .int .i64 0] 40
  go_enter Tryz.func28, Tryz.ntmps28
  go_wp2_with fail
  refine (hC.out _ hs (hm.next hb0)).mono ?_
  rintro e w1 ⟨a, b, k, rfl, ha, hb, hab, hid, hd⟩
  have hb1 := hd.below
  have hb01 := bnext hb0 hb1
  have P1 := P0.next hb1
  have F1 := F0.keep (hb1.block _ P0.lies)
  clear P0 F0 hb0
  go_wp2_with fail
  refine (pipeFrom_any a b _ ha hb (hm.next hb01) (hv.next hb01) (ht.next hb01)).mono ?_
  rintro e w2 ⟨rfl, hb2⟩
  rw [hab]
  have P2 := P1.next hb2
  have F2 := F1.keep (hb2.block _ P1.lies)
  have hb02 := bnext hb01 hb2
  clear P1 F1 hb1 hb2
  cases hr : readP l with
  | none =>
    rw [pipeV_zero]
    go_wp2_with fail
    have hx : Below w2.heap.size w2 (w2.alloc (.cells #[.string ByteArray.empty, .int .i64 0, .int .i64 0, .int .i64 0, .int .i64 0, .int .i64 0] 40)) := bal (Below.refl _ _) _
    have hq3 := PipeAt.new w2 ByteArray.empty 0 0 0 0 0 40
    have k3 := P2.next hx
    have f3 := F2.keep (hx.block _ P2.lies)
    have hb03 := bnext hb02 hx
    have hne : w.heap.size ≠ w2.heap.size := by have := P2.lies; omega
    generalize w2.alloc (.cells #[.string ByteArray.empty, .int .i64 0, .int .i64 0, .int .i64 0, .int .i64 0, .int .i64 0] 40) = w3 at *
    generalize w2.heap.size = B at *
    clear hx P2 F2 hb02 hb01
    obtain ⟨b0, b1, b2, b3, b4, b5⟩ := k3
    obtain ⟨d0, d1, d2, d3, d4, d5⟩ := f3
    have k3 : PipeAt w3 w.heap.size ByteArray.empty 0 0 0 0 0 := ⟨b0, b1, b2, b3, b4, b5⟩
    obtain ⟨p0, p1, p2, p3, p4, p5⟩ := hq3
    have hF := (((((k3.set0 ByteArray.empty).set1 0).set2 0).set3 0).set4 0).set5 0
    have hB := (Below.setCell (Below.setCell (Below.setCell (Below.setCell (Below.setCell (Below.setCell hb03 (p := ⟨w.heap.size, 0, none⟩) (Nat.le_refl _) (.string ByteArray.empty)) (p := ⟨w.heap.size, 1, none⟩) (Nat.le_refl _) (.int .i64 0)) (p := ⟨w.heap.size, 2, none⟩) (Nat.le_refl _) (.int .i64 0)) (p := ⟨w.heap.size, 3, none⟩) (Nat.le_refl _) (.int .i64 0)) (p := ⟨w.heap.size, 4, none⟩) (Nat.le_refl _) (.int .i64 0)) (p := ⟨w.heap.size, 5, none⟩) (Nat.le_refl _) (.int .i64 0))
    have HF := Lib.hid hF
    have HB := Lib.hid hB
    clear hF hB
    go_region_with (fail)
    all_goals
      go_wp2
      refine bodyPost_ret (results_pipe2 Tryz.results28 _ _ w.heap.size ByteArray.empty 0 0 0 0 0 rfl HF.out.drew) rfl ⟨by rw [hr]; rfl, ?_⟩
      exact below_drewN HB.out 1
  | some zs =>
    rw [hr] at hab
    obtain ⟨f, t, L, d, s, rfl, hok, _⟩ := madeP_five hab
    have hL := (okP_bd _ f t L d s hok).2.2.2.2.1
    obtain rfl := hid (by rw [hr]; simp)
    have hne1 : 1 ≤ (cutId l).size := by
      have := (okP_bd _ f t L d s hok).1
      unfold nameL at this
      rw [Bool.and_eq_true] at this
      have h2 := (of_decide_eq_true this.1).1
      rwa [size_list] at h2
    have HV : Hid (pipeV (cutId l) (readP l) = .agg #[.string (cutId l), .int .i64 f, .int .i64 t, .int .i64 L, .int .i64 d, .int .i64 s]) := Lib.hid (by rw [hr]; rfl)
    have HS : Hid ((readP l).isSome = true) := Lib.hid (by rw [hr]; rfl)
    rw [pipeV_five]
    clear hok hid hab hr
    generalize he : cutId l = id at *
    have HV2 : Hid (pipeV (cutId l) (readP l) = .agg #[.string id, .int .i64 f, .int .i64 t, .int .i64 L, .int .i64 d, .int .i64 s]) := Lib.hid (by rw [he]; exact HV.out)
    clear he
    have z1 : (id.toList == ([] : List UInt8)) = false := by
      have := empty_false id (by omega)
      cases h : id.toList with
      | nil => rw [h] at this; cases this
      | cons a r => rfl
    have z2 : ¬ id = ByteArray.empty := fun h => by rw [h] at hne1; simp at hne1
    have z3 : ¬ id = ⟨#[]⟩ := z2
    have z4 : id.toList.isEmpty = false := empty_false id (by omega)
    go_wp2_with fail
    have hx : Below w2.heap.size w2 (w2.alloc (.cells #[.string id, .int .i64 f, .int .i64 t, .int .i64 L, .int .i64 d, .int .i64 s] 40)) := bal (Below.refl _ _) _
    have hq3 := PipeAt.new w2 id f t L d s 40
    have k3 := P2.next hx
    have f3 := F2.keep (hx.block _ P2.lies)
    have hb03 := bnext hb02 hx
    have hne : w.heap.size ≠ w2.heap.size := by have := P2.lies; omega
    generalize w2.alloc (.cells #[.string id, .int .i64 f, .int .i64 t, .int .i64 L, .int .i64 d, .int .i64 s] 40) = w3 at *
    generalize w2.heap.size = B at *
    clear hx P2 F2 hb02 hb01
    obtain ⟨b0, b1, b2, b3, b4, b5⟩ := k3
    obtain ⟨d0, d1, d2, d3, d4, d5⟩ := f3
    have k3 : PipeAt w3 w.heap.size ByteArray.empty 0 0 0 0 0 := ⟨b0, b1, b2, b3, b4, b5⟩
    obtain ⟨p0, p1, p2, p3, p4, p5⟩ := hq3
    have hF := (((((k3.set0 id).set1 f).set2 t).set3 L).set4 d).set5 s
    have hB := (Below.setCell (Below.setCell (Below.setCell (Below.setCell (Below.setCell (Below.setCell hb03 (p := ⟨w.heap.size, 0, none⟩) (Nat.le_refl _) (.string id)) (p := ⟨w.heap.size, 1, none⟩) (Nat.le_refl _) (.int .i64 f)) (p := ⟨w.heap.size, 2, none⟩) (Nat.le_refl _) (.int .i64 t)) (p := ⟨w.heap.size, 3, none⟩) (Nat.le_refl _) (.int .i64 L)) (p := ⟨w.heap.size, 4, none⟩) (Nat.le_refl _) (.int .i64 d)) (p := ⟨w.heap.size, 5, none⟩) (Nat.le_refl _) (.int .i64 s))
    have HF := Lib.hid hF
    have HB := Lib.hid hB
    clear hF hB
    go_region_with (fail)
    all_goals
      go_wp2
      refine bodyPost_ret (results_pipe2 Tryz.results28 _ _ w.heap.size id f t L d s rfl HF.out.drew) rfl ⟨by rw [HV2.out, HS.out]; rfl, ?_⟩
      exact below_drewN HB.out 1

end Go.Proofs.YtmopnkkpcgiafabGreatDoor
