/-
  Chapter 5: what makes a building valid, its load.
-/
import Derived.Test.YthidaoemonjemabDoorBd2
import Derived.Test.YthidaoemonjemabDoorLd0
import Derived.Test.YthidaoemonjemabDoorB6
import Derived.Test.YthidaoemonjemabDoorP2
import Derived.Deep.RegionHeld3
namespace Go.Proofs.YthidaoemonjemabDoor
open Go.ChangeShapes Go.WideShapes Go.ChangeAt Go.RowKit

set_option maxRecDepth 100000
set_option linter.unusedVariables false

/-- a building that is valid -/
def Bl.ok (d : Bl) : Bool := nameL d.id.data.toList && (inB d.nd 0 15 && (inB d.ba 0 1000000 && (inB d.sl 0 100000 && (inB d.li (-4000) 4500 && (decide (d.pr.length = 24) && allIn 0 3000 d.pr)))))
theorem Bl.ok_parts {d : Bl} (h : d.ok = true) : nameL d.id.data.toList = true ∧ inB d.nd 0 15 = true ∧ inB d.ba 0 1000000 = true ∧ inB d.sl 0 100000 = true ∧ inB d.li (-4000) 4500 = true ∧ d.pr.length = 24 ∧ allIn 0 3000 d.pr = true := by
  unfold Bl.ok at h
  simp only [Bool.and_eq_true, decide_eq_true_eq] at h
  exact h

theorem l05One_any (b o : Nat) (x : Bd) (w : World) (hO : BdO w b o x) (hx : x.fine w) :
    Calls Tryd.prog 24 #[.pointer (some ⟨b, o, none⟩)] w fun e w' => e = .returned (.bool x.d.ok) ∧ Drawn w w' := by
  obtain ⟨hs, hz⟩ := hx
  have ⟨p0, p1, p2, p3, p4, p5⟩ := hO
  have hM := hz.2.1
  have HZ := Lib.hid hz.2.2.1
  clear hz hO
  by_cases h0 : nameL x.d.id.data.toList = true
  rotate_left
  · have h0' : nameL x.d.id.data.toList = false := by simpa using h0
    have HV : Hid (x.d.ok = false) := Lib.hid (by unfold Bl.ok; simp [*])
    go_enter Tryd.func24, Tryd.ntmps24
    go_wp2_with (first | (go_at_call 45; refine (l01Name_any _ _ hs).mono ?_; rintro e w' ⟨rfl, rfl⟩) | (go_at_call 46; refine (in_any _ _ _ _).mono ?_; rintro e w' ⟨rfl, rfl⟩) | (go_at_call 47; refine (l05Outdoor_any _ _).mono ?_; rintro e w' ⟨rfl, rfl⟩))
    go_ret
    exact ⟨by rw [HV.out]; rfl, Drawn.rfl' _⟩
  by_cases h1 : inB x.d.nd 0 15 = true
  rotate_left
  · have h1' : inB x.d.nd 0 15 = false := by simpa using h1
    have HV : Hid (x.d.ok = false) := Lib.hid (by unfold Bl.ok; simp [*])
    go_enter Tryd.func24, Tryd.ntmps24
    go_wp2_with (first | (go_at_call 45; refine (l01Name_any _ _ hs).mono ?_; rintro e w' ⟨rfl, rfl⟩) | (go_at_call 46; refine (in_any _ _ _ _).mono ?_; rintro e w' ⟨rfl, rfl⟩) | (go_at_call 47; refine (l05Outdoor_any _ _).mono ?_; rintro e w' ⟨rfl, rfl⟩))
    go_ret
    exact ⟨by rw [HV.out]; rfl, Drawn.rfl' _⟩
  by_cases h2 : inB x.d.ba 0 1000000 = true
  rotate_left
  · have h2' : inB x.d.ba 0 1000000 = false := by simpa using h2
    have HV : Hid (x.d.ok = false) := Lib.hid (by unfold Bl.ok; simp [*])
    go_enter Tryd.func24, Tryd.ntmps24
    go_wp2_with (first | (go_at_call 45; refine (l01Name_any _ _ hs).mono ?_; rintro e w' ⟨rfl, rfl⟩) | (go_at_call 46; refine (in_any _ _ _ _).mono ?_; rintro e w' ⟨rfl, rfl⟩) | (go_at_call 47; refine (l05Outdoor_any _ _).mono ?_; rintro e w' ⟨rfl, rfl⟩))
    go_ret
    exact ⟨by rw [HV.out]; rfl, Drawn.rfl' _⟩
  by_cases h3 : inB x.d.sl 0 100000 = true
  rotate_left
  · have h3' : inB x.d.sl 0 100000 = false := by simpa using h3
    have HV : Hid (x.d.ok = false) := Lib.hid (by unfold Bl.ok; simp [*])
    go_enter Tryd.func24, Tryd.ntmps24
    go_wp2_with (first | (go_at_call 45; refine (l01Name_any _ _ hs).mono ?_; rintro e w' ⟨rfl, rfl⟩) | (go_at_call 46; refine (in_any _ _ _ _).mono ?_; rintro e w' ⟨rfl, rfl⟩) | (go_at_call 47; refine (l05Outdoor_any _ _).mono ?_; rintro e w' ⟨rfl, rfl⟩))
    go_ret
    exact ⟨by rw [HV.out]; rfl, Drawn.rfl' _⟩
  by_cases h4 : inB x.d.li (-4000) 4500 = true
  rotate_left
  · have h4' : inB x.d.li (-4000) 4500 = false := by simpa using h4
    have HV : Hid (x.d.ok = false) := Lib.hid (by unfold Bl.ok; simp [*])
    go_enter Tryd.func24, Tryd.ntmps24
    go_wp2_with (first | (go_at_call 45; refine (l01Name_any _ _ hs).mono ?_; rintro e w' ⟨rfl, rfl⟩) | (go_at_call 46; refine (in_any _ _ _ _).mono ?_; rintro e w' ⟨rfl, rfl⟩) | (go_at_call 47; refine (l05Outdoor_any _ _).mono ?_; rintro e w' ⟨rfl, rfl⟩))
    go_ret
    exact ⟨by rw [HV.out]; rfl, Drawn.rfl' _⟩
  by_cases h5 : x.d.pr.length = 24
  rotate_left
  · have HV : Hid (x.d.ok = false) := Lib.hid (by unfold Bl.ok; simp [h5])
    have h5' : ((x.d.pr.length : Int) == 24) = false := by simpa using (by omega : ¬ (x.d.pr.length : Int) = 24)
    have h5n : ((x.d.pr.length : Int) != 24) = true := by simpa using (by omega : ¬ (x.d.pr.length : Int) = 24)
    clear h5
    go_enter Tryd.func24, Tryd.ntmps24
    go_wp2_with (first | (go_at_call 45; refine (l01Name_any _ _ hs).mono ?_; rintro e w' ⟨rfl, rfl⟩) | (go_at_call 46; refine (in_any _ _ _ _).mono ?_; rintro e w' ⟨rfl, rfl⟩) | (go_at_call 47; refine (l05Outdoor_any _ _).mono ?_; rintro e w' ⟨rfl, rfl⟩))
    go_ret
    exact ⟨by rw [HV.out]; rfl, Drawn.rfl' _⟩
  have HV : Hid (x.d.ok = allIn 0 3000 x.d.pr) := Lib.hid (by unfold Bl.ok; simp [*])
  have H5 := Lib.hid h5
  have h5' : ((x.d.pr.length : Int) == 24) = true := by simp [h5]
  have h5n : ((x.d.pr.length : Int) != 24) = false := by simp [h5]
  clear h5
  go_enter Tryd.func24, Tryd.ntmps24
  go_wp2_with (first | (go_at_call 45; refine (l01Name_any _ _ hs).mono ?_; rintro e w' ⟨rfl, rfl⟩) | (go_at_call 46; refine (in_any _ _ _ _).mono ?_; rintro e w' ⟨rfl, rfl⟩) | (go_at_call 47; refine (l05Outdoor_any _ _).mono ?_; rintro e w' ⟨rfl, rfl⟩))
  clear h5' h5n
  go_loopw [3] (fun i wr => ∃ k : Nat, k ≤ 24 ∧ i = .int .i64 k ∧ Hid (allIn 0 3000 (x.d.pr.take k) = true) ∧ Drawn w wr) (fun i _ => 24 - (intOf i).toNat)
  case atStart => exact ⟨0, Nat.zero_le _, rfl, Lib.hid (by simp [allIn]), Drawn.rfl' _⟩
  case round =>
    obtain ⟨k, hk, rfl, HA, ⟨nr, rfl⟩⟩ := hrel
    by_cases hlt : k < 24
    · have hlt' : (k : Int) < (x.d.pr.length : Int) := by have := H5.out; omega
      obtain ⟨b2, o2, hAd, hrow⟩ := HZ.out (by rw [List.length_map, H5.out]; omega)
      have hcell : w.cell? ⟨b2, o2 + k, none⟩ = some (.int .i64 (x.d.pr.getD k 0)) := by
        have := hrow k (by rw [List.length_map, H5.out]; exact hlt)
        rw [this]
        have hkl : k < x.d.pr.length := by rw [H5.out]; exact hlt
        simp [List.getD, hkl]
      rw [hAd] at p5
      have HTS := Lib.hid (allIn_take_succ 0 3000 x.d.pr k (by rw [H5.out]; exact hlt))
      have HFS := Lib.hid (allIn_false 0 3000 x.d.pr k (by rw [H5.out]; exact hlt))
      generalize x.d.pr.getD k 0 = z at *
      clear hrow hAd
      by_cases hz : inB z 0 3000 = true
      · have HI := Lib.hid (inB_iff.1 hz)
        go_wp2_with ((go_at_call 46; refine (in_any _ _ _ _).mono ?_; rintro e w' ⟨rfl, rfl⟩))
        go_roundw
        case rel => exact ⟨k + 1, by omega, by go_num, Lib.hid (by rw [HTS.out, HA.out, Bool.true_and]; exact decide_eq_true HI.out), ⟨_, rfl⟩⟩
        case measure => simp [intOf]; omega
      · have hz' : inB z 0 3000 = false := by simpa using hz
        have HN := Lib.hid (HFS.out (fun h => hz (inB_true h)))
        clear hz
        go_wp2_with ((go_at_call 46; refine (in_any _ _ _ _).mono ?_; rintro e w' ⟨rfl, rfl⟩))
        go_ret
        exact ⟨by rw [HV.out, HN.out]; rfl, ⟨_, rfl⟩⟩
    · have hlt' : ¬ (k : Int) < (x.d.pr.length : Int) := by have := H5.out; omega
      have HE : Hid (allIn 0 3000 x.d.pr = true) := Lib.hid (by have := HA.out; rw [List.take_of_length_le (by rw [H5.out]; omega)] at this; exact this)
      have hge : (x.d.pr.length : Int) ≤ (k : Int) := by omega
      go_wp2
      go_ret
      exact ⟨by rw [HV.out, HE.out]; rfl, ⟨_, rfl⟩⟩

theorem isValid_any (x : Bd) (w : World) (hx : x.okay w) :
    Calls Tryd.prog 27 #[.agg #[.string x.d.id, .int .i64 x.d.nd, .int .i64 x.d.ba, .int .i64 x.d.sl, .int .i64 x.d.li, .slice x.prA x.d.pr.length x.prc]] w fun e w' => e = .returned (.bool x.d.ok) ∧ Below w.heap.size w w' := by
  obtain ⟨⟨hs, hz⟩, hm⟩ := hx
  have hM := hz.2.1
  have hN := BdO.new w x 27
  have hb : Below w.heap.size w (w.alloc (.cells #[.string x.d.id, .int .i64 x.d.nd, .int .i64 x.d.ba, .int .i64 x.d.sl, .int .i64 x.d.li, .slice x.prA x.d.pr.length x.prc] 27)) := bal (Below.refl _ _) _
  have HZ := Lib.hid hz.2.2.1
  clear hz
  have ⟨p0, p1, p2, p3, p4, p5⟩ := hN
  go_enter Tryd.func27, Tryd.ntmps27
  go_wp2_with fail
  refine (implIsName_any _ _ hs).mono ?_
  rintro e w' ⟨rfl, hb'⟩
  have hN := hN.next hb'
  have hb := bnext hb hb'
  clear p0 p1 p2 p3 p4 p5 hb'
  have ⟨p0, p1, p2, p3, p4, p5⟩ := hN
  by_cases h0 : nameL x.d.id.data.toList = true
  rotate_left
  · have h0 : nameL x.d.id.data.toList = false := by simpa only [Bool.not_eq_true] using h0
    have HV : Hid (x.d.ok = false) := Lib.hid (by unfold Bl.ok; simp [*])
    rw [h0]
    go_wp2
    go_ret
    exact ⟨by rw [HV.out]; rfl, hb⟩
  rw [h0]
  go_wp2_with fail
  refine (isNode_any _ _).mono ?_
  rintro e w' ⟨rfl, hb'⟩
  have hN := hN.next hb'
  have hb := bnext hb hb'
  clear p0 p1 p2 p3 p4 p5 hb'
  have ⟨p0, p1, p2, p3, p4, p5⟩ := hN
  by_cases h1 : inB x.d.nd 0 15 = true
  rotate_left
  · have h1 : inB x.d.nd 0 15 = false := by simpa only [Bool.not_eq_true] using h1
    have HV : Hid (x.d.ok = false) := Lib.hid (by unfold Bl.ok; simp [*])
    rw [h1]
    go_wp2
    go_ret
    exact ⟨by rw [HV.out]; rfl, hb⟩
  rw [h1]
  go_wp2_with fail
  refine (one64Free _ 0 1000000 _ _ _ (by simp)).mono ?_
  rintro e w' ⟨rfl, hb'⟩
  have hN := hN.next hb'
  have hb := bnext hb hb'
  clear p0 p1 p2 p3 p4 p5 hb'
  have ⟨p0, p1, p2, p3, p4, p5⟩ := hN
  by_cases h2 : inB x.d.ba 0 1000000 = true
  rotate_left
  · have h2 : inB x.d.ba 0 1000000 = false := by simpa only [Bool.not_eq_true] using h2
    have HV : Hid (x.d.ok = false) := Lib.hid (by unfold Bl.ok; simp [*])
    rw [h2]
    go_wp2
    go_ret
    exact ⟨by rw [HV.out]; rfl, hb⟩
  rw [h2]
  go_wp2_with fail
  refine (one64Free _ 0 100000 _ _ _ (by simp)).mono ?_
  rintro e w' ⟨rfl, hb'⟩
  have hN := hN.next hb'
  have hb := bnext hb hb'
  clear p0 p1 p2 p3 p4 p5 hb'
  have ⟨p0, p1, p2, p3, p4, p5⟩ := hN
  by_cases h3 : inB x.d.sl 0 100000 = true
  rotate_left
  · have h3 : inB x.d.sl 0 100000 = false := by simpa only [Bool.not_eq_true] using h3
    have HV : Hid (x.d.ok = false) := Lib.hid (by unfold Bl.ok; simp [*])
    rw [h3]
    go_wp2
    go_ret
    exact ⟨by rw [HV.out]; rfl, hb⟩
  rw [h3]
  go_wp2_with fail
  refine (isOutdoor_any _ _).mono ?_
  rintro e w' ⟨rfl, hb'⟩
  have hN := hN.next hb'
  have hb := bnext hb hb'
  clear p0 p1 p2 p3 p4 p5 hb'
  have ⟨p0, p1, p2, p3, p4, p5⟩ := hN
  by_cases h4 : inB x.d.li (-4000) 4500 = true
  rotate_left
  · have h4 : inB x.d.li (-4000) 4500 = false := by simpa only [Bool.not_eq_true] using h4
    have HV : Hid (x.d.ok = false) := Lib.hid (by unfold Bl.ok; simp [*])
    rw [h4]
    go_wp2
    go_ret
    exact ⟨by rw [HV.out]; rfl, hb⟩
  rw [h4]
  by_cases h5 : x.d.pr.length = 24
  rotate_left
  · have HV : Hid (x.d.ok = false) := Lib.hid (by unfold Bl.ok; simp [h5])
    have h5' : ((x.d.pr.length : Int) == 24) = false := by simpa using (by omega : ¬ (x.d.pr.length : Int) = 24)
    have h5n : ((x.d.pr.length : Int) != 24) = true := by simpa using (by omega : ¬ (x.d.pr.length : Int) = 24)
    clear h5
    go_wp2
    go_ret
    exact ⟨by rw [HV.out]; rfl, hb⟩
  have HV : Hid (x.d.ok = allIn 0 3000 x.d.pr) := Lib.hid (by unfold Bl.ok; simp [*])
  have h5' : ((x.d.pr.length : Int) == 24) = true := by simp [h5]
  have h5n : ((x.d.pr.length : Int) != 24) = false := by simp [h5]
  clear h5
  go_wp2_with fail
  refine (within64_cells 0 3000 x.prA x.prc x.d.pr.length x.d.pr _ rfl hM (HZ.out.next hb)).mono ?_
  rintro e w' ⟨rfl, rfl⟩
  go_wp2
  go_ret
  exact ⟨by rw [HV.out]; rfl, hb⟩

/-- the load of a building -/
def loadI (d : Bl) (t h : Int) : Int := nearI (d.ba * d.pr.getD h.toNat 0) 1000 + nearI (d.sl * max 0 (d.li - t)) 100
theorem pr_bd {d : Bl} (h : d.ok = true) (k : Nat) : 0 ≤ d.pr.getD k 0 ∧ d.pr.getD k 0 ≤ 3000 := by
  have h7 := (Bl.ok_parts h).2.2.2.2.2.2
  by_cases hk : k < d.pr.length
  · unfold allIn at h7
    have := List.all_eq_true.1 h7 d.pr[k] (List.getElem_mem hk)
    have e : d.pr.getD k 0 = d.pr[k] := by simp [List.getD, hk]
    rw [e]
    simpa using this
  · have e : d.pr.getD k 0 = 0 := by simp [List.getD, Nat.le_of_not_lt hk]
    rw [e]; omega
theorem load_parts {d : Bl} (h : d.ok = true) (t : Int) (ht0 : -4000 ≤ t) (ht1 : t ≤ 4500) (k : Nat) :
    (0 ≤ d.ba * d.pr.getD k 0 ∧ d.ba * d.pr.getD k 0 ≤ 3000000000) ∧ (0 ≤ max 0 (d.li - t) ∧ max 0 (d.li - t) ≤ 8500) ∧ (0 ≤ d.sl * max 0 (d.li - t) ∧ d.sl * max 0 (d.li - t) ≤ 850000000) := by
  obtain ⟨-, -, h2, h3, h4, -, -⟩ := Bl.ok_parts h
  have h2 := inB_iff.1 h2
  have h3 := inB_iff.1 h3
  have h4 := inB_iff.1 h4
  have hp := pr_bd h k
  have hm : 0 ≤ max 0 (d.li - t) ∧ max 0 (d.li - t) ≤ 8500 := by omega
  have a1 := Int.mul_le_mul h2.2 hp.2 hp.1 (by omega)
  have a2 := Int.mul_nonneg h2.1 hp.1
  have b1 := Int.mul_le_mul h3.2 hm.2 hm.1 (by omega)
  have b2 := Int.mul_nonneg h3.1 hm.1
  exact ⟨⟨a2, by omega⟩, hm, ⟨b2, by omega⟩⟩
theorem near_le (a b c : Int) (hb : 0 < b) (h0 : 0 ≤ a) (h : a ≤ c * b) : 0 ≤ nearI a b ∧ nearI a b ≤ c :=
  ⟨nearI_nonneg a b hb h0, by have := nearI_mono a (c * b) b hb h; rw [nearI_whole c b hb] at this; exact this⟩
theorem load_bd {d : Bl} (h : d.ok = true) (t : Int) (ht0 : -4000 ≤ t) (ht1 : t ≤ 4500) (h' : Int) : 0 ≤ loadI d t h' ∧ loadI d t h' ≤ 11500000 := by
  obtain ⟨⟨a0, a1⟩, -, ⟨b0, b1⟩⟩ := load_parts h t ht0 ht1 h'.toNat
  have := near_le _ 1000 3000000 (by omega) a0 (by omega)
  have := near_le _ 100 8500000 (by omega) b0 (by omega)
  unfold loadI
  omega

theorem prCell (x : Bd) (w : World) (hz : CellsAt w x.prA (x.d.pr.map (Value.int .i64))) (h : x.d.pr.length = 24) (k : Nat) (hk : k < 24) : ∃ b o, x.prA = some ⟨b, o, none⟩ ∧ w.cell? ⟨b, o + k, none⟩ = some (.int .i64 (x.d.pr.getD k 0)) := by
  obtain ⟨b, o, e, hrow⟩ := hz (by rw [List.length_map, h]; omega)
  refine ⟨b, o, e, ?_⟩
  have := hrow k (by rw [List.length_map, h]; exact hk)
  rw [this]
  have hkl : k < x.d.pr.length := by rw [h]; exact hk
  simp [List.getD, hkl]
end Go.Proofs.YthidaoemonjemabDoor
