/-
  The laws' own helpers over Substation and lists of them: how great one is, a copy, whether two are the same.
-/
import Derived.Test.YtdaedgdglammhabSb0
import Derived.Test.YtdaedgdglammhabGs
import Derived.Deep.RegionHeld3
namespace Go.Proofs.Ytdaedgdglammhab
open Go.ChangeShapes Go.WideShapes Go.ChangeAt Go.RowKit
set_option linter.unusedVariables false
set_option linter.unusedSimpArgs false
set_option maxRecDepth 100000
set_option linter.unusedVariables false

theorem infoSb : (Try.prog.info? 34).map (fun i => (i.zero, i.size, i.bytes)) = some (some (.agg #[.string .empty, .int .i64 0, .int .i64 0, .int .i64 0, .int .i64 0]), 5, 48) := by kernel_rfl
theorem szSb_any (x : Sb) (m : Int) (w : World) (m0 : 0 ≤ m) (m1 : m ≤ 1048576) (h : x.fine) :
    Calls Try.prog 17 #[.agg #[.string x.id, .int .i64 x.nd, .int .i64 x.tr, .int .i64 x.su, .int .i64 x.re], .int .i64 m] w (SzR 0 m w) := by
  have g0 := h
  unfold Sb.fine at *
  have hm0 : (x.id.size : Int) ≤ 9223372036854775807 := by unfold maxLen at g0; omega
  have hb : Below w.heap.size w (w.alloc (.cells #[.string x.id, .int .i64 x.nd, .int .i64 x.tr, .int .i64 x.su, .int .i64 x.re] 30)) := bal (Below.refl _ _) _
  obtain ⟨n0, n1, n2, n3, n4⟩ := SbO.new w x 30
  by_cases h0 : m - x.id.size < 0
  · go_enter Try.func17, Try.ntmps17
    go_wp2
    go_ret
    exact ⟨-1, rfl, .inl rfl, hb⟩
  have h0' : 0 ≤ m - x.id.size := by omega
  go_enter Try.func17, Try.ntmps17
  go_wp2
  go_ret
  exact ⟨_, rfl, .inr ⟨by omega, by omega⟩, hb⟩
theorem szSbs_any (A : Option Addr) (n c : Nat) (xs : List Sb) (m : Int) (w : World) (m0 : 0 ≤ m) (m1 : m ≤ 1048576) (h : SbsIn w A n xs) :
    Calls Try.prog 12 #[.slice A n c, .int .i64 m] w (SzR n m w) := by
  obtain ⟨hn, hM, hA, hid⟩ := h
  have hm : (n : Int) ≤ 9223372036854775807 := by unfold maxLen at hM; omega
  by_cases h1 : m - n < 0
  · go_enter Try.func12, Try.ntmps12
    go_wp2
    go_ret
    exact ⟨-1, rfl, .inl rfl, Below.refl _ _⟩
  · have h1' : 0 ≤ m - n := by omega
    have HN := Lib.hid hn
    have HD := Lib.hid hid
    have HA := Lib.hid hA
    clear hn hid hA
    go_enter Try.func12, Try.ntmps12
    go_wp2
    go_loopw [1, 5] (fun v i wr => ∃ (r : Int) (k : Nat), k ≤ n ∧ v = .int .i64 r ∧ i = .int .i64 k ∧ 0 ≤ r ∧ r ≤ m - n ∧ Below w.heap.size w wr) (fun _ i _ => n - (intOf i).toNat)
    case atStart => exact ⟨_, 0, Nat.zero_le _, rfl, rfl, h1', by omega, Below.refl _ _⟩
    case round =>
      obtain ⟨r, k, hk, rfl, rfl, r0, r1, hb⟩ := hrel
      by_cases hlt : k < n
      · obtain ⟨b, off, rfl, hrow⟩ := SbO.at (HA.out.next hb) (by rw [HN.out]; omega)
        have hp := List.getElem?_eq_getElem (show k < xs.length by rw [HN.out]; exact hlt)
        have hs := HD.out _ (List.mem_of_getElem? hp)
        obtain ⟨p0, p1, p2, p3, p4⟩ := hrow k _ hp
        generalize xs[k]'(by rw [HN.out]; exact hlt) = p at *
        clear hp hrow
        go_wp2_with fail
        refine (szSb_any p r _ r0 (by omega) hs).mono ?_
        rintro e w1 ⟨q, rfl, hq, hb1⟩
        have hb2 := bnext hb hb1
        clear p0 p1 p2 p3 p4
        rcases hq with rfl | ⟨q0, q1⟩
        · go_wp2
          go_ret
          exact ⟨-1, rfl, .inl rfl, hb2⟩
        · have q1' : q ≤ m - n := by omega
          go_wp2
          go_roundw
          case rel => exact ⟨q, k + 1, by omega, rfl, by go_num, q0, q1', hb2⟩
          case measure => simp [intOf]; omega
      · go_wp2
        go_ret
        exact ⟨r, rfl, .inr ⟨r0, r1⟩, hb⟩
theorem toSb_any (x : Sb) (w : World) :
    Calls Try.prog 19 #[.agg #[.string x.id, .int .i64 x.nd, .int .i64 x.tr, .int .i64 x.su, .int .i64 x.re]] w fun e w' => e = .returned (.agg #[.string x.id, .int .i64 x.nd, .int .i64 x.tr, .int .i64 x.su, .int .i64 x.re]) ∧ Below w.heap.size w w' := by
  go_enter Try.func19, Try.ntmps19
  go_wp2
  exact bodyPost_ret (results_cell_row Try.results19 _ _ (w.heap.size + 1) 34 _ (0, 0) _ rfl (by
    refine ((bal (Below.refl _ _) _).block _ (by simp)).trans ?_
    rw [show w.heap.size + 1 = (w.alloc (.cells #[.string x.id, .int .i64 x.nd, .int .i64 x.tr, .int .i64 x.su, .int .i64 x.re] 30)).heap.size from (World.size_alloc _ _).symm]
    exact heap_alloc_new _ _) Try.underlying34 rfl (by kernel_rfl)) rfl ⟨rfl, bal (bal (bal (Below.refl _ _) _) _) _⟩
theorem eqSb_same (x : Sb) (w : World) :
    Calls Try.prog 46 #[.agg #[.string x.id, .int .i64 x.nd, .int .i64 x.tr, .int .i64 x.su, .int .i64 x.re], .agg #[.string x.id, .int .i64 x.nd, .int .i64 x.tr, .int .i64 x.su, .int .i64 x.re]] w fun e w' => e = .returned (.bool true) ∧ Below w.heap.size w w' := by
  have e1 : (x.nd != x.nd) = false := by simp
  have e2 : (x.tr != x.tr) = false := by simp
  have e3 : (x.su != x.su) = false := by simp
  have e4 : (x.re != x.re) = false := by simp
  go_enter Try.func46, Try.ntmps46
  go_wp2
  go_ret
  exact ⟨rfl, bal (bal (Below.refl _ _) _) _⟩
/-- a call that returns a new slice of them -/
def RetSbs (xs : List Sb) (w : World) (e : Ending) (w' : World) : Prop :=
  ∃ A c, e = .returned (.slice A xs.length c) ∧ w'.ownsRow w.heap.size 34 5 (.slice A xs.length c) xs.length (rowsF Sb.cs xs) ∧ Below w.heap.size w w'
theorem toSbs_any (A : Option Addr) (n c : Nat) (xs : List Sb) (w : World) (hn : n ≤ 1048576) (h : SbsIn w A n xs) :
    Calls Try.prog 14 #[.slice A n c] w (RetSbs xs w) := by
  obtain ⟨hl, hM, hA, hid⟩ := h
  subst hl
  obtain ⟨i0, hi, hz0, hz1, hz2⟩ := info_parts infoSb
  have hm : xs.length ≤ 9223372036854775807 := by omega
  clear hid
  go_enter Try.func14, Try.ntmps14
  go_wp2_with (refine wpList_make_full _ rfl _ _ _ rfl w.heap.size 34 i0 (.agg #[.string .empty, .int .i64 0, .int .i64 0, .int .i64 0, .int .i64 0]) 5 Try.underlying25 hi hz0 hz1 _ _ _ _ xs.length rfl rfl rfl rfl (by rw [hz2]; omega) hM (Nat.le_refl _) ?_; intro w1 hown hgrow)
  have hb1 := Below.grown (Below.refl w.heap.size w) hgrow (Nat.le_refl _) (fun k hk => by cases hk)
  have hl1 := hown.1
  generalize (madeCells (Value.agg #[.string .empty, .int .i64 0, .int .i64 0, .int .i64 0, .int .i64 0]).cells (xs.length * 5)).toList = us at *
  have HX := Lib.hid hl1
  have HA := Lib.hid hA
  clear hl1 hA
  go_loopw [4] (fun i wr => ∃ k : Nat, k ≤ xs.length ∧ i = .int .i64 k ∧ wr.ownsRow w.heap.size 34 5 (.slice (some ⟨w.heap.size, 0, none⟩) xs.length xs.length) xs.length (fillF Sb.cs 5 (xs.take k) us) ∧ Below w.heap.size w wr) (fun i _ => xs.length - (intOf i).toNat)
  case atStart => exact ⟨0, Nat.zero_le _, rfl, by rw [List.take_zero, fillF_nil]; exact hown, hb1⟩
  case round =>
    obtain ⟨k, hk, rfl, hro, hb⟩ := hrel
    by_cases hlt : k < xs.length
    · obtain ⟨b, off, rfl, hrow⟩ := SbO.at (HA.out.next hb) (by omega)
      have hp := List.getElem?_eq_getElem hlt
      obtain ⟨p0, p1, p2, p3, p4⟩ := hrow k _ hp
      have hT : Hid (xs.take (k + 1) = xs.take k ++ [xs[k]]) := Lib.hid (by rw [List.take_add_one, hp]; rfl)
      generalize xs[k] = p at *
      clear hp hrow
      go_wp2_with fail
      refine (toSb_any p _).mono ?_
      rintro e w1 ⟨rfl, hbt⟩
      have hb2 := bnext hb hbt
      have hro1 := hro.kept (row := none) ⟨hbt.os, hbt.tape, hbt.output, hbt.size, fun k hk _ => hbt.block k hk⟩ (.inr (by simp [Value.ownBlock]))
      clear p0 p1 p2 p3 p4 hro hb hbt
      have hkl : (xs.take k).length = k := by rw [List.length_take]; omega
      have hbig : (xs.take k).length * 5 + 5 ≤ us.length := by rw [HX.out, hkl]; omega
      obtain ⟨u0, hu0⟩ := fillF_at Sb.csL (xs.take k) us hbig 0 (by omega)
      obtain ⟨u1, hu1⟩ := fillF_at Sb.csL (xs.take k) us hbig 1 (by omega)
      obtain ⟨u2, hu2⟩ := fillF_at Sb.csL (xs.take k) us hbig 2 (by omega)
      obtain ⟨u3, hu3⟩ := fillF_at Sb.csL (xs.take k) us hbig 3 (by omega)
      obtain ⟨u4, hu4⟩ := fillF_at Sb.csL (xs.take k) us hbig 4 (by omega)
      rw [hkl] at hu0 hu1 hu2 hu3 hu4
      have c0 := (hro1.cellAt (k * 5) (by omega)).trans hu0
      have c1 := (hro1.cellAt (k * 5 + 1) (by omega)).trans hu1
      have c2 := (hro1.cellAt (k * 5 + 2) (by omega)).trans hu2
      have c3 := (hro1.cellAt (k * 5 + 3) (by omega)).trans hu3
      have c4 := (hro1.cellAt (k * 5 + 4) (by omega)).trans hu4
      have f0 := hro1.frozenAt (k * 5)
      have f1 := hro1.frozenAt (k * 5 + 1)
      have f2 := hro1.frozenAt (k * 5 + 2)
      have f3 := hro1.frozenAt (k * 5 + 3)
      have f4 := hro1.frozenAt (k * 5 + 4)
      have hst := (((((hro1.stored (k * 5) (.string p.id)).1.stored (k * 5 + 1) (.int .i64 p.nd)).1.stored (k * 5 + 2) (.int .i64 p.tr)).1.stored (k * 5 + 3) (.int .i64 p.su)).1.stored (k * 5 + 4) (.int .i64 p.re)).1
      have hfs := fillF_set Sb.csL (xs.take k) us p hbig
      rw [hkl] at hfs
      rw [show ((((((fillF Sb.cs 5 (xs.take k) us).set (k * 5) (.string p.id)).set (k * 5 + 1) (.int .i64 p.nd)).set (k * 5 + 2) (.int .i64 p.tr)).set (k * 5 + 3) (.int .i64 p.su)).set (k * 5 + 4) (.int .i64 p.re)) = _ from hfs, ← hT.out] at hst
      have Hst := Lib.hid hst
      clear hst hro1 hbig hkl hfs hu0 hu1 hu2 hu3 hu4
      go_wp2
      go_roundw
      case rel => exact ⟨k + 1, by omega, by go_num, Hst.out, (((((hb2.setCell (Nat.le_refl _) _).setCell (Nat.le_refl _) _).setCell (Nat.le_refl _) _).setCell (Nat.le_refl _) _).setCell (Nat.le_refl _) _)⟩
      case measure => simp [intOf]; omega
    · obtain rfl : k = xs.length := by omega
      rw [List.take_length, fillF_all Sb.csL xs us HX.out] at hro
      go_wp2
      go_ret
      exact ⟨_, _, rfl, hro, hb⟩
theorem eqSbs_same (A B : Option Addr) (c d : Nat) (xs : List Sb) (w : World) (hx : xs.length ≤ maxLen)
    (hA : CellsAt w A (rowsF Sb.cs xs)) (hB : CellsAt w B (rowsF Sb.cs xs)) :
    Calls Try.prog 16 #[.slice A xs.length c, .slice B xs.length d] w fun e w' => e = .returned (.bool true) ∧ Below w.heap.size w w' := by
  have hm : xs.length ≤ 9223372036854775807 := by unfold maxLen at hx; omega
  have HA := Lib.hid hA
  have HB := Lib.hid hB
  clear hA hB
  go_enter Try.func16, Try.ntmps16
  go_wp2
  go_loopw [5] (fun i wr => ∃ k : Nat, k ≤ xs.length ∧ i = .int .i64 k ∧ Below w.heap.size w wr) (fun i _ => xs.length - (intOf i).toNat)
  case atStart => exact ⟨0, Nat.zero_le _, rfl, Below.refl _ _⟩
  case round =>
    obtain ⟨k, hk, rfl, hb⟩ := hrel
    by_cases hlt : k < xs.length
    · obtain ⟨b1, o1, rfl, hr1⟩ := SbO.at (HA.out.next hb) (by omega)
      obtain ⟨b2, o2, rfl, hr2⟩ := SbO.at (HB.out.next hb) (by omega)
      have hp := List.getElem?_eq_getElem hlt
      have P := hr1 k _ hp
      have Q := hr2 k _ hp
      generalize xs[k] = p at *
      clear hp hr1 hr2
      have hb1 : Below w.heap.size w wr.drew := below_drewN hb 1
      have P1 : SbO wr.drew b1 (o1 + k * 5) p := P
      have Q1 : SbO wr.drew b2 (o2 + k * 5) p := Q
      have ⟨p0, p1, p2, p3, p4⟩ := P1
      have ⟨q0, q1, q2, q3, q4⟩ := Q1
      clear P Q hb
      go_wp2
      go_region_held3 (fun w' => w'.cell? ⟨b1, o1 + k * 5, none⟩ = some (.string p.id) ∧ w'.cell? ⟨b1, o1 + k * 5 + 1, none⟩ = some (.int .i64 p.nd) ∧ w'.cell? ⟨b1, o1 + k * 5 + 2, none⟩ = some (.int .i64 p.tr) ∧ w'.cell? ⟨b1, o1 + k * 5 + 3, none⟩ = some (.int .i64 p.su) ∧ w'.cell? ⟨b1, o1 + k * 5 + 4, none⟩ = some (.int .i64 p.re) ∧ w'.cell? ⟨b2, o2 + k * 5, none⟩ = some (.string p.id) ∧ w'.cell? ⟨b2, o2 + k * 5 + 1, none⟩ = some (.int .i64 p.nd) ∧ w'.cell? ⟨b2, o2 + k * 5 + 2, none⟩ = some (.int .i64 p.tr) ∧ w'.cell? ⟨b2, o2 + k * 5 + 3, none⟩ = some (.int .i64 p.su) ∧ w'.cell? ⟨b2, o2 + k * 5 + 4, none⟩ = some (.int .i64 p.re)) (exact ⟨p0, p1, p2, p3, p4, q0, q1, q2, q3, q4⟩) ((go_at_call 46; refine (eqSb_same _ _).mono ?_; rintro e w' ⟨rfl, hb'⟩; have hb := bnext hb1 hb'; have P := P1.next hb'; have Q := Q1.next hb'; have ⟨p0, p1, p2, p3, p4⟩ := P; have ⟨q0, q1, q2, q3, q4⟩ := Q))
      go_wp2
      go_roundw
      case rel => exact ⟨k + 1, by omega, by go_num, hb⟩
      case measure => simp [intOf]; omega
    · go_wp2
      go_ret
      exact ⟨rfl, hb⟩
theorem copySbs (A : Option Addr) (n c : Nat) (xs : List Sb) (w : World) (h : SbsOk w A n xs) :
    Calls Try.prog 14 #[.slice A n c] w fun e w' => ∃ A' c', e = .returned (.slice A' n c') ∧ w'.ownsRow w.heap.size 34 5 (.slice A' n c') n (rowsF Sb.cs xs) ∧ SbsOk w' A' n xs ∧ Below w.heap.size w w' := by
  obtain ⟨hI, hn⟩ := h
  have hl := hI.1
  refine (toSbs_any A n c xs w hn hI).mono ?_
  rintro e w' ⟨A', c', rfl, ho, hb⟩
  rw [hl] at ho
  exact ⟨A', c', by rw [hl], ho, ⟨⟨hl, hI.2.1, rowsF_owned ho, hI.2.2.2⟩, hn⟩, hb⟩
theorem sameSbs (A B : Option Addr) (n c d : Nat) (xs : List Sb) (w : World) (hn : xs.length = n) (hm : n ≤ maxLen) (hx : CellsAt w A (rowsF Sb.cs xs)) (hy : CellsAt w B (rowsF Sb.cs xs)) :
    Calls Try.prog 16 #[.slice A n c, .slice B n d] w fun e w' => e = .returned (.bool true) ∧ Below w.heap.size w w' := by
  subst hn
  exact eqSbs_same A B c d xs w hm hx hy
end Go.Proofs.Ytdaedgdglammhab
