/-
  The draw of waters that are mixed.
-/
import Derived.Test.YtgdafgnjaogmeabMx0
import Derived.Test.YtgdafgnjaogmeabM2
import Derived.Deep.AppendLies
import Derived.Deep.OwnRows
import Derived.RegionTactic
namespace Go.Proofs.Ytgdafgnjaogmeab
open Go.ChangeShapes Go.WideShapes Go.ChangeAt Go.RowKit Go.Shelf
set_option linter.unusedSimpArgs false
set_option maxRecDepth 100000
set_option maxHeartbeats 1600000
set_option linter.unusedVariables false


theorem drawFlow_any (B b : Nat) (T : Int) (w : World) (h : SrcUp B w b T) (hB : B ≤ w.heap.size) (hT : T ≤ 800) :
    Calls Try.prog 77 #[.pointer (some ⟨b, 0, none⟩)] w fun e w' => ∃ x : Int, e = .returned (.int .i64 x) ∧ -1 ≤ x ∧ x ≤ 100001 ∧ SrcUp B w' b (T + 4) ∧ w.grownBy w' (some b) := by
  have hbB := h.lt
  go_enter Try.func77, Try.ntmps77
  go_wp2_with fail
  refine (oneUp_any B b T _ _ h (by omega) (by omega) (by omega)).mono ?_
  rintro e w1 ⟨q, rfl, hs1, hg1⟩
  cases q with
  | true =>
    go_wp2_with fail
    have hx := bal (Below.refl _ w1) (.cells #[.int .i64 (-1), .int .i64 0, .int .i64 100000, .int .i64 100001] 2)
    have hz := hg1.size
    refine (amongUp_any B b (T + 2) _ 4 _ [-1, 0, 100000, 100001] _ (hs1.next (hx.mono (by omega))) (by omega) rfl (by omega) (by omega) (cells_lit w1 [-1, 0, 100000, 100001] _) (fun b' o' e => by cases e; omega)).mono ?_
    rintro e w2 ⟨x, rfl, hm, hs2, hg2⟩
    go_wp2
    go_ret
    refine ⟨x, rfl, ?_, ?_, hs2.mono (by omega), grown_then (grown_below hg1 hx) hg2⟩
    · simp at hm; omega
    · simp at hm; omega
  | false =>
    go_wp2_with fail
    refine (pickUp_any B b (T + 2) _ _ hs1 (by omega) (by omega) (by omega)).mono ?_
    rintro e w2 ⟨x, rfl, hx0, hx1, hs2, hg2⟩
    go_wp2
    go_ret
    exact ⟨_, rfl, by omega, by omega, hs2.mono (by omega), grown_then hg1 hg2⟩
/-- two lists of our own that grow, beside a source -/
def MixAt (w0 : World) (base : Nat) (w : World) (F T : Option Addr) (j c m d : Nat) (fs ts : List Int) : Prop :=
  w.ownsRow base 2 1 (.slice F j c) j (intsV fs) ∧ w.ownsRow base 2 1 (.slice T m d) m (intsV ts) ∧ (∀ k, (Value.slice F j c).ownBlock = some k → (Value.slice T m d).ownBlock ≠ some k) ∧ Below w0.heap.size w0 w
theorem MixAt.draw {w0 : World} {base : Nat} {w w' : World} {F T : Option Addr} {j c m d b : Nat} {fs ts : List Int} (h : MixAt w0 base w F T j c m d fs ts) (hg : w.grownBy w' (some b)) (h0 : w0.heap.size ≤ b) (h1 : b < base) : MixAt w0 base w' F T j c m d fs ts := by
  obtain ⟨hF, hT, hd, hb⟩ := h
  have ne : ∀ {v : Value} {n : Nat} {vs : List Value}, w.ownsRow base 2 1 v n vs → v.ownBlock = none ∨ v.ownBlock ≠ some b := fun {v n vs} hv => .inr fun e => by have := (hv.lt _ e).1; omega
  exact ⟨hF.kept hg (ne hF), hT.kept hg (ne hT), hd, hb.grown hg hb.size (fun k hk => by cases hk; exact h0)⟩
theorem MixAt.alloc {w0 : World} {base : Nat} {w : World} {F T : Option Addr} {j c m d : Nat} {fs ts : List Int} (h : MixAt w0 base w F T j c m d fs ts) (O : Obj) : MixAt w0 base (w.alloc O) F T j c m d fs ts := ⟨h.1.alloc O, h.2.1.alloc O, h.2.2.1, bal h.2.2.2 O⟩
theorem MixAt.pushF {w0 : World} {base : Nat} {w w' : World} {F T : Option Addr} {j c m d g cap : Nat} {fs ts : List Int} {x : Int} (h : MixAt w0 base w F T j c m d fs ts) (hw : w0.heap.size ≤ base) (ho : w'.ownsRow base 2 1 (.slice (some ⟨g, 0, none⟩) (j + 1) cap) (j + 1) (intsV fs ++ [.int .i64 x])) (hg : w.grownBy w' (Value.slice F j c).ownBlock) (ha : (Value.slice F j c).ownBlock = some g ∨ g = w.heap.size) :
    MixAt w0 base w' (some ⟨g, 0, none⟩) T (j + 1) cap m d (fs ++ [x]) ts := by
  obtain ⟨hF, hT, hd, hb⟩ := h
  refine ⟨by rw [intsV_snoc] at *; exact ho, hT.kept hg ?_, ?_, hb.grown hg hb.size (fun k hk => Nat.le_trans hw (hF.lt k hk).1)⟩
  · cases hT2 : (Value.slice T m d).ownBlock with
    | none => exact .inl rfl
    | some k => exact .inr fun e => hd k e.symm hT2
  · intro k hk e
    have hkg : k = g := by simpa [Value.ownBlock] using hk.symm
    subst hkg
    rcases ha with h1 | h1
    · exact hd _ h1 e
    · have := (hT.lt _ e).2; omega
theorem MixAt.pushT {w0 : World} {base : Nat} {w w' : World} {F T : Option Addr} {j c m d g cap : Nat} {fs ts : List Int} {x : Int} (h : MixAt w0 base w F T j c m d fs ts) (hw : w0.heap.size ≤ base) (ho : w'.ownsRow base 2 1 (.slice (some ⟨g, 0, none⟩) (m + 1) cap) (m + 1) (intsV ts ++ [.int .i64 x])) (hg : w.grownBy w' (Value.slice T m d).ownBlock) (ha : (Value.slice T m d).ownBlock = some g ∨ g = w.heap.size) :
    MixAt w0 base w' F (some ⟨g, 0, none⟩) j c (m + 1) cap fs (ts ++ [x]) := by
  obtain ⟨hF, hT, hd, hb⟩ := h
  refine ⟨hF.kept hg ?_, by rw [intsV_snoc] at *; exact ho, ?_, hb.grown hg hb.size (fun k hk => Nat.le_trans hw (hT.lt k hk).1)⟩
  · cases hF2 : (Value.slice F j c).ownBlock with
    | none => exact .inl rfl
    | some k => exact .inr fun e => hd k hF2 e.symm
  · intro k hk e
    have hkg : k = g := by simpa [Value.ownBlock] using e.symm
    subst hkg
    rcases ha with h1 | h1
    · exact hd _ hk h1
    · have := (hF.lt _ hk).2; omega
def RetMix (w : World) (e : Ending) (w' : World) : Prop :=
  ∃ (A B : Option Addr) (c d : Nat) (fs ts : List Int), e = .returned (.tuple #[.slice A fs.length c, .slice B ts.length d]) ∧ CellsAt w' A (intsV fs) ∧ CellsAt w' B (intsV ts) ∧ fs.length ≤ 100 ∧ ts.length ≤ 100 ∧ Below w.heap.size w w'
theorem drawMixWater_any (A : Option Addr) (n c : Nat) (zs : List Int) (w : World) (h : SliceIn .u8 w A n zs) :
    Calls Try.prog 27 #[.slice A n c] w (RetMix w) := by
  obtain ⟨i0, hi, hz0, hz1, hz2⟩ := info_parts infoI64
  go_enter Try.func27, Try.ntmps27
  go_wp2_with fail
  refine (fromUp_any A n c zs _ h).mono ?_
  rintro e w1 ⟨b, rfl, hb, hs1, hw⟩
  have hbl := hs1.lt
  have hw1 : w.heap.size ≤ w1.heap.size := hw.size
  have hM0 : MixAt w w1.heap.size ((w1.alloc (.cells #[] 2)).alloc (.cells #[] 2)) (some ⟨w1.heap.size, 0, none⟩) (some ⟨w1.heap.size + 1, 0, none⟩) 0 0 0 0 [] [] := by
    refine ⟨(owns_empty w1 w1.heap.size 2 (Nat.le_refl _)).alloc _, ?_, ?_, bal (bal hw _) _⟩
    · have := owns_empty (w1.alloc (.cells #[] 2)) w1.heap.size 2 (by simp)
      simp only [World.size_alloc] at this
      exact this
    · intro k hk e
      simp [Value.ownBlock] at hk e
      omega
  have hs2 : SrcUp w1.heap.size ((w1.alloc (.cells #[] 2)).alloc (.cells #[] 2)) b 0 := hs1.next (bal (bal (Below.refl _ _) _) _)
  clear hs1
  go_wp2_with fail
  refine (pickUp_any _ b _ 6 _ hs2 (by omega) (by omega) (by omega)).mono ?_
  rintro e w2 ⟨p, rfl, hp0, hp1, hs3, hg3⟩
  have hM := hM0.draw hg3 hb hbl
  have hsz : w1.heap.size ≤ w2.heap.size := by have := hg3.size; simp at this; omega
  obtain ⟨k, rfl⟩ := Int.eq_ofNat_of_zero_le hp0
  have hk5 : k ≤ 5 := by omega
  clear hM0 hs2 hg3 hp0 hp1
  go_wp2_with fail
  go_loopw [5, 6, 7] (fun fv tv kv wr => ∃ (j r : Nat) (F T : Option Addr) (c d : Nat) (fs ts : List Int), j + r = k ∧ kv = .int .i64 r ∧ fv = .slice F j c ∧ tv = .slice T j d ∧ MixAt w w1.heap.size wr F T j c j d fs ts ∧ SrcUp w1.heap.size wr b (2 + 8 * (j : Int)) ∧ w1.heap.size ≤ wr.heap.size) (fun _ _ kv _ => (intOf kv).toNat)
  case atStart => exact ⟨0, k, _, _, 0, 0, [], [], by omega, rfl, rfl, rfl, hM, hs3.mono (by omega), hsz⟩
  case round =>
    clear hM hs3 hsz
    obtain ⟨j, r, F, T, c2, d2, fs, ts, hjr, rfl, rfl, rfl, hM, hs, hsz⟩ := hrel
    by_cases hr : 0 < r
    · have hr1 : (0 : Int) < (r : Int) := by omega
      go_wp2_with fail
      refine (drawFlow_any _ b _ _ hs hsz (by omega)).mono ?_
      rintro e w3 ⟨x, rfl, hx0, hx1, hs3, hg3⟩
      have hM := (hM.draw hg3 hb hbl).alloc (.cells #[.int .i64 x] 2)
      have hs3 := hs3.next ((bal (Below.refl w3.heap.size w3) (.cells #[.int .i64 x] 2)).mono (by have := hg3.size; omega))
      have hsz := Nat.le_trans hsz hg3.size
      have hown4f := Lib.hid (fun k hk => (hM.1.lt k hk).1)
      go_wp2_with (at_builtin; refine wpList_append_lies _ rfl _ _ 33 rfl w1.heap.size 2 i0 (.int .i64 0) 1 8 Try.underlying33 hi hz0 hz1 hz2 rfl (by decide) _ _ _ rfl hM.1 ⟨w3.heap.size, 0, none⟩ 1 1 [.int .i64 x] rfl rfl (cell_one_new _ _ _) (by simp [Value.oneCell']) (by decide) (by unfold maxLen; omega) (by omega) (by simp; omega) _ rfl ?_; intro g cap w4 hown4 hgrow4 hat4 hlt4)
      have hM := hM.pushF hw1 hown4 hgrow4 hat4
      have hs4 := hs3.next ((Below.refl w1.heap.size _).grown hgrow4 (by simp; omega) (fun k hk => (hown4f.out _ hk)))
      have hsz := Nat.le_trans hsz (Nat.le_trans (by simp) hgrow4.size)
      clear hown4 hgrow4 hat4 hs3 hg3 hown4f
      go_wp2_with fail
      refine (drawDegrees_any _ b _ _ hs4 hsz (by omega)).mono ?_
      rintro e w5 ⟨y, rfl, hy0, hy1, hs5, hg5⟩
      have hM := (hM.draw hg5 hb hbl).alloc (.cells #[.int .i64 y] 2)
      have hs5 := hs5.next ((bal (Below.refl w5.heap.size w5) (.cells #[.int .i64 y] 2)).mono (by have := hg5.size; omega))
      have hsz := Nat.le_trans hsz hg5.size
      have hown6f := Lib.hid (fun k hk => (hM.2.1.lt k hk).1)
      go_wp2_with (at_builtin; refine wpList_append_lies _ rfl _ _ 33 rfl w1.heap.size 2 i0 (.int .i64 0) 1 8 Try.underlying33 hi hz0 hz1 hz2 rfl (by decide) _ _ _ rfl hM.2.1 ⟨w5.heap.size, 0, none⟩ 1 1 [.int .i64 y] rfl rfl (cell_one_new _ _ _) (by simp [Value.oneCell']) (by decide) (by unfold maxLen; omega) (by omega) (by simp; omega) _ rfl ?_; intro g6 cap6 w6 hown6 hgrow6 hat6 hlt6)
      have hM := hM.pushT hw1 hown6 hgrow6 hat6
      have hs6 := hs5.next ((Below.refl w1.heap.size _).grown hgrow6 (by simp; omega) (fun k hk => (hown6f.out _ hk)))
      have hsz := Nat.le_trans hsz (Nat.le_trans (by simp) hgrow6.size)
      have HM := Lib.hid hM
      have HS := Lib.hid hs6
      clear hown6 hgrow6 hat6 hs5 hg5 hown6f hM hs4 hs6
      go_roundw
      case rel => exact ⟨j + 1, r - 1, _, _, cap, cap6, fs ++ [x], ts ++ [y], by omega, by go_num, rfl, rfl, HM.out, HS.out.mono (by push_cast; omega), hsz⟩
      case measure => simp [intOf]; omega
    · have hr0 : r = 0 := by omega
      subst hr0
      have hrn : ¬ ((0 : Int) < ((0 : Nat) : Int)) := by omega
      go_wp2_with fail
      refine (pickUp_any _ b _ 16 _ hs (by omega) (by omega) (by omega)).mono ?_
      rintro e w3 ⟨x, rfl, hx0, hx1, hs3, hg3⟩
      have hM := hM.draw hg3 hb hbl
      have hsz := Nat.le_trans hsz hg3.size
      clear hs hg3
      have hlF : fs.length = j := by have := owns_len hM.1; rwa [intsV_length] at this
      have hlT : ts.length = j := by have := owns_len hM.2.1; rwa [intsV_length] at this
      have HLF := Lib.hid hlF
      have HLT := Lib.hid hlT
      clear hlF hlT
      by_cases h0 : x = 0
      · subst h0
        have hM2 := hM.alloc (.cells #[.int .i64 5] 2)
        go_wp2_with (at_builtin; refine wpList_append_lies _ rfl _ _ 33 rfl w1.heap.size 2 i0 (.int .i64 0) 1 8 Try.underlying33 hi hz0 hz1 hz2 rfl (by decide) _ _ _ rfl hM2.1 ⟨w3.heap.size, 0, none⟩ 1 1 [.int .i64 5] rfl rfl (cell_one_new _ _ _) (by simp [Value.oneCell']) (by decide) (by unfold maxLen; omega) (by omega) (by simp; omega) _ rfl ?_; intro g cap w4 hown4 hgrow4 hat4 hlt4)
        have hM := hM2.pushF hw1 hown4 hgrow4 hat4
        have HM := Lib.hid hM
        clear hM hM2 hown4 hgrow4 hat4
        go_ret2
        exact ⟨some ⟨g, 0, none⟩, T, cap, d2, fs ++ [5], ts, by rw [List.length_append, HLF.out, HLT.out]; rfl, owns_cells HM.out.1, owns_cells HM.out.2.1, by rw [List.length_append, HLF.out]; simp; omega, by rw [HLT.out]; omega, HM.out.2.2.2⟩
      · by_cases h1 : x = 1
        · subst h1
          have hx := bal (Below.refl w3.heap.size w3) (.cells #[.int .i64 1, .int .i64 64, .int .i64 65] 2)
          go_wp2_with fail
          refine (amongUp_any _ b _ _ 3 _ [1, 64, 65] _ (hs3.next (hx.mono (by omega))) (by omega) rfl (by omega) (by omega) (cells_lit w3 [1, 64, 65] _) (fun b' o' e => by cases e; omega)).mono ?_
          rintro e w4 ⟨y, rfl, hym, hs4, hg4⟩
          have hW4 := (hM.alloc (.cells #[.int .i64 1, .int .i64 64, .int .i64 65] 2)).draw hg4 hb hbl
          simp only [List.mem_cons, List.not_mem_nil, or_false] at hym
          obtain ⟨q, rfl⟩ := Int.eq_ofNat_of_zero_le (show 0 ≤ y by omega)
          have hq1 : 1 ≤ q := by omega
          have hq : q ≤ 65 := by omega
          have hMx : q ≤ maxLen := by unfold maxLen; omega
          have HW4 := Lib.hid hW4.2.2.2
          clear hym hs4 hg4 hx hM hW4 hs3
          have hmk : ∀ w' : World, (Instr.makeSlice 33 (.int .i64 (q : Int)) (.int .i64 (q : Int))).run Try.prog w' = .ok (.slice (some ⟨w'.heap.size, 0, none⟩) q q) (w'.alloc (.cells (madeCells #[.int .i64 0] q) 2)) := by
            intro w'
            exact run_make_row _ _ i0 _ Try.underlying33 hi hz0 hz1 rfl _ _ _ (by rw [hz2]; omega) (by omega) w'
          have hrw : ∀ w' : World, (w'.alloc (.cells (madeCells #[.int .i64 0] q) 2)).ownsRow w'.heap.size 2 1 (.slice (some ⟨w'.heap.size, 0, none⟩) q q) q (intsV (List.replicate q 0)) := by
            intro w'
            have hh := World.ownsRow_lit (base := w'.heap.size) (e := 2) (size := 1) w' (madeCells #[.int .i64 0] q) q (Nat.le_refl _) (by unfold maxLen; omega) (by simp [madeCells])
            rw [toList_madeCells_one] at hh
            have e : List.replicate q (Value.int .i64 0) = intsV (List.replicate q 0) := by simp [intsV]
            rw [e] at hh
            exact hh
          obtain ⟨MO, hMO⟩ : ∃ o : Obj, (.cells (madeCells #[.int .i64 0] q) 2) = o := ⟨_, rfl⟩
          rw [hMO] at hmk hrw
          have HRW := Lib.hid hrw
          clear hrw hMO
          go_wp2_with fail
          have HC1 := Lib.hid (show CellsAt (((w4.alloc MO).alloc MO).drew) (some ⟨w4.heap.size, 0, none⟩) (intsV (List.replicate q 0)) from ((owns_cells (HRW.out w4)).next (bal (Below.refl _ _) _)).next (below_drewN (Below.refl _ _) 1))
          have HC2 := Lib.hid (show CellsAt (((w4.alloc MO).alloc MO).drew) (some ⟨w4.heap.size + 1, 0, none⟩) (intsV (List.replicate q 0)) from by
            have h := owns_cells (HRW.out (w4.alloc MO))
            rw [World.size_alloc] at h
            exact h.next (below_drewN (Below.refl _ _) 1))
          have HB9 := Lib.hid (show Below w.heap.size w (((w4.alloc MO).alloc MO).drew) from below_drewN (bal (bal HW4.out _) _) 1)
          go_region
          all_goals go_wp2
          all_goals go_ret2
          · exact ⟨some ⟨w4.heap.size, 0, none⟩, some ⟨w4.heap.size + 1, 0, none⟩, q, q, List.replicate q 0, List.replicate q 0, by rw [List.length_replicate]; rfl, HC1.out, HC2.out, by rw [List.length_replicate]; omega, by rw [List.length_replicate]; omega, HB9.out⟩
          · exact ⟨some ⟨w4.heap.size + 1, 0, none⟩, some ⟨w4.heap.size, 0, none⟩, q, q, List.replicate q 0, List.replicate q 0, by rw [List.length_replicate]; rfl, HC2.out, HC1.out, by rw [List.length_replicate]; omega, by rw [List.length_replicate]; omega, HB9.out⟩
        · have e0 : (x == 0) = false := by simpa using h0
          have e1 : (x == 1) = false := by simpa using h1
          have HM := Lib.hid hM
          clear hM
          go_wp2
          go_ret2
          exact ⟨F, T, c2, d2, fs, ts, by rw [HLF.out, HLT.out]; rfl, owns_cells HM.out.1, owns_cells HM.out.2.1, by rw [HLF.out]; omega, by rw [HLT.out]; omega, HM.out.2.2.2⟩

end Go.Proofs.Ytgdafgnjaogmeab
