/-
  ValidNetwork of both sides, whole.
-/
import Derived.Test.YtdaedgdglammhaaH7
namespace Go.Proofs.Ytdaedgdglammhaa
open Go.ChangeShapes Go.WideShapes Go.ChangeAt Go.RowKit
set_option maxRecDepth 100000
set_option linter.unusedVariables false

theorem implValidNet_any (A : Option Addr) (n c : Nat) (B : Option Addr) (m d : Nat) (zs : List Int) (ps : List Pp) (w : World) (hz : zs.length = n) (hl : ps.length = m) (hn : n ≤ 1048576) (hm : m ≤ 1048576) (hA : CellsAt w A (intsV zs)) (hB : CellsAt w B (rowsP ps)) (hid : ∀ p ∈ ps, p.id.size ≤ maxLen) :
    Calls Try.prog 124 #[.agg #[.slice A n c, .slice B m d]] w fun e w' => e = .returned (.bool (netB zs ps)) ∧ Below w.heap.size w w' := by
  have hN := NetAt.new w A n c B m d 38
  have hb : Below w.heap.size w (w.alloc (.cells #[.slice A n c, .slice B m d] 38)) := bal (Below.refl _ _) _
  subst hz
  subst hl
  have HA := Lib.hid hA
  have HB := Lib.hid hB
  have HD := Lib.hid hid
  clear hA hB hid
  have ⟨n0, n1⟩ := hN
  have hbig : zs.length ≤ maxLen := by unfold maxLen; omega
  by_cases h1 : inB zs.length 1 16 = true
  · by_cases h2 : allIn (-100000) 100000 zs = true
    · by_cases h3 : ps.length ≤ 20
      · by_cases h4 : ps.all (fitB zs.length) = true
        · by_cases h5 : riseTo ps ps.length = true
          · have HV : Hid (netB zs ps = true) := Lib.hid (by unfold netB; simp [h1, h2, h3, h4, h5])
            go_enter Try.func124, Try.ntmps124
            go_wp2_with fail
            refine (oneInt _ 1 16 _ _ _ (by simp) (by omega)).mono ?_
            rintro e w1 ⟨rfl, hb1⟩
            rw [h1]
            have hN := hN.next hb1
            have hb := bnext hb hb1
            clear n0 n1 hb1
            have ⟨n0, n1⟩ := hN
            go_wp2_with fail
            refine (within64_cells (-100000) 100000 A c zs.length zs _ rfl hbig (HA.out.next hb)).mono ?_
            rintro e w2 ⟨rfl, rfl⟩
            rw [h2]
            go_wp2_with fail
            refine (contains_any A zs.length c B ps.length d w.heap.size ps _ hn rfl hm hN (HB.out.next hb) HD.out).mono ?_
            rintro e w3 ⟨rfl, hb3⟩
            rw [h4]
            have hN := hN.next hb3
            have hb := bnext hb hb3
            clear n0 n1 hb3
            have ⟨n0, n1⟩ := hN
            go_wp2_with fail
            refine (increasing_any A zs.length c B ps.length d ps _ rfl hm (HB.out.next hb)).mono ?_
            rintro e w4 ⟨rfl, hb4⟩
            rw [h5]
            have hN := hN.next hb4
            have hb := bnext hb hb4
            clear n0 n1 hb4
            have ⟨n0, n1⟩ := hN
            go_wp2
            go_ret
            exact ⟨by rw [HV.out]; rfl, hb⟩
          · have h5 : riseTo ps ps.length = false := by simpa using h5
            have HV : Hid (netB zs ps = false) := Lib.hid (by unfold netB; simp [h5])
            go_enter Try.func124, Try.ntmps124
            go_wp2_with fail
            refine (oneInt _ 1 16 _ _ _ (by simp) (by omega)).mono ?_
            rintro e w1 ⟨rfl, hb1⟩
            rw [h1]
            have hN := hN.next hb1
            have hb := bnext hb hb1
            clear n0 n1 hb1
            have ⟨n0, n1⟩ := hN
            go_wp2_with fail
            refine (within64_cells (-100000) 100000 A c zs.length zs _ rfl hbig (HA.out.next hb)).mono ?_
            rintro e w2 ⟨rfl, rfl⟩
            rw [h2]
            go_wp2_with fail
            refine (contains_any A zs.length c B ps.length d w.heap.size ps _ hn rfl hm hN (HB.out.next hb) HD.out).mono ?_
            rintro e w3 ⟨rfl, hb3⟩
            rw [h4]
            have hN := hN.next hb3
            have hb := bnext hb hb3
            clear n0 n1 hb3
            have ⟨n0, n1⟩ := hN
            go_wp2_with fail
            refine (increasing_any A zs.length c B ps.length d ps _ rfl hm (HB.out.next hb)).mono ?_
            rintro e w4 ⟨rfl, hb4⟩
            rw [h5]
            have hN := hN.next hb4
            have hb := bnext hb hb4
            clear n0 n1 hb4
            have ⟨n0, n1⟩ := hN
            go_wp2
            go_ret
            exact ⟨by rw [HV.out]; rfl, hb⟩
        · have h4 : ps.all (fitB zs.length) = false := by simpa only [Bool.not_eq_true] using h4
          have HV : Hid (netB zs ps = false) := Lib.hid (by unfold netB; simp [h4])
          go_enter Try.func124, Try.ntmps124
          go_wp2_with fail
          refine (oneInt _ 1 16 _ _ _ (by simp) (by omega)).mono ?_
          rintro e w1 ⟨rfl, hb1⟩
          rw [h1]
          have hN := hN.next hb1
          have hb := bnext hb hb1
          clear n0 n1 hb1
          have ⟨n0, n1⟩ := hN
          go_wp2_with fail
          refine (within64_cells (-100000) 100000 A c zs.length zs _ rfl hbig (HA.out.next hb)).mono ?_
          rintro e w2 ⟨rfl, rfl⟩
          rw [h2]
          go_wp2_with fail
          refine (contains_any A zs.length c B ps.length d w.heap.size ps _ hn rfl hm hN (HB.out.next hb) HD.out).mono ?_
          rintro e w3 ⟨rfl, hb3⟩
          rw [h4]
          have hN := hN.next hb3
          have hb := bnext hb hb3
          clear n0 n1 hb3
          have ⟨n0, n1⟩ := hN
          go_wp2
          go_ret
          exact ⟨by rw [HV.out]; rfl, hb⟩
      · have h3' : decide (ps.length ≤ 20) = false := decide_eq_false h3
        have h3 : 20 < ps.length := by omega
        have HV : Hid (netB zs ps = false) := Lib.hid (by unfold netB; rw [h3']; simp)
        clear h3'
        go_enter Try.func124, Try.ntmps124
        go_wp2_with fail
        refine (oneInt _ 1 16 _ _ _ (by simp) (by omega)).mono ?_
        rintro e w1 ⟨rfl, hb1⟩
        rw [h1]
        have hN := hN.next hb1
        have hb := bnext hb hb1
        clear n0 n1 hb1
        have ⟨n0, n1⟩ := hN
        go_wp2_with fail
        refine (within64_cells (-100000) 100000 A c zs.length zs _ rfl hbig (HA.out.next hb)).mono ?_
        rintro e w2 ⟨rfl, rfl⟩
        rw [h2]
        go_wp2
        go_ret
        exact ⟨by rw [HV.out]; rfl, hb⟩
    · have h2 : allIn (-100000) 100000 zs = false := by simpa only [Bool.not_eq_true] using h2
      have HV : Hid (netB zs ps = false) := Lib.hid (by unfold netB; simp [h2])
      go_enter Try.func124, Try.ntmps124
      go_wp2_with fail
      refine (oneInt _ 1 16 _ _ _ (by simp) (by omega)).mono ?_
      rintro e w1 ⟨rfl, hb1⟩
      rw [h1]
      have hN := hN.next hb1
      have hb := bnext hb hb1
      clear n0 n1 hb1
      have ⟨n0, n1⟩ := hN
      go_wp2_with fail
      refine (within64_cells (-100000) 100000 A c zs.length zs _ rfl hbig (HA.out.next hb)).mono ?_
      rintro e w2 ⟨rfl, rfl⟩
      rw [h2]
      go_wp2
      go_ret
      exact ⟨by rw [HV.out]; rfl, hb⟩
  · have h1 : inB zs.length 1 16 = false := by simpa only [Bool.not_eq_true] using h1
    have HV : Hid (netB zs ps = false) := Lib.hid (by unfold netB; simp [h1])
    go_enter Try.func124, Try.ntmps124
    go_wp2_with fail
    refine (oneInt _ 1 16 _ _ _ (by simp) (by omega)).mono ?_
    rintro e w1 ⟨rfl, hb1⟩
    rw [h1]
    have hN := hN.next hb1
    have hb := bnext hb hb1
    clear n0 n1 hb1
    have ⟨n0, n1⟩ := hN
    go_wp2
    go_ret
    exact ⟨by rw [HV.out]; rfl, hb⟩

end Go.Proofs.Ytdaedgdglammhaa
