/-
  The laws' own helpers over lists of Building: how great one is, a copy, whether two are the same; marks.
-/
import Derived.Test.YthidaoemonjemabBd2
namespace Go.Proofs.Ythidaoemonjemab
open Go.ChangeShapes Go.WideShapes Go.ChangeAt Go.RowKit
set_option maxRecDepth 100000
set_option linter.unusedVariables false

/-- how much is left: none, or all lists are short -/
def SzBds (n : Nat) (xs : List Bd) (m : Int) (w : World) (e : Ending) (w' : World) : Prop := ∃ r : Int, e = .returned (.int .i64 r) ∧ (r = -1 ∨ (0 ≤ r ∧ r ≤ m ∧ n ≤ 1048576 ∧ ∀ x ∈ xs, x.d.pr.length ≤ 1048576)) ∧ Below w.heap.size w w'
theorem szBds_any (A : Option Addr) (n c : Nat) (xs : List Bd) (m : Int) (w : World) (m0 : 0 ≤ m) (m1 : m ≤ 1048576) (h : BdsIn w A n xs) :
    Calls Try.prog 11 #[.slice A n c, .int .i64 m] w (SzBds n xs m w) := by
  obtain ⟨hn, hM, hA, hid⟩ := h
  have hm : (n : Int) ≤ 9223372036854775807 := by unfold maxLen at hM; omega
  by_cases h1 : m - n < 0
  · go_enter Try.func11, Try.ntmps11
    go_wp2
    go_ret
    exact ⟨-1, rfl, .inl rfl, Below.refl _ _⟩
  · have h1' : 0 ≤ m - n := by omega
    have hn1 : n ≤ 1048576 := by omega
    have HN := Lib.hid hn
    have HD := Lib.hid hid
    have HA := Lib.hid hA
    clear hn hid hA
    go_enter Try.func11, Try.ntmps11
    go_wp2
    go_loopw [1, 5] (fun v i wr => ∃ (r : Int) (k : Nat), k ≤ n ∧ v = .int .i64 r ∧ i = .int .i64 k ∧ 0 ≤ r ∧ r ≤ m ∧ Below w.heap.size w wr ∧ Hid (∀ x ∈ xs.take k, x.d.pr.length ≤ 1048576)) (fun _ i _ => n - (intOf i).toNat)
    case atStart => exact ⟨_, 0, Nat.zero_le _, rfl, rfl, h1', by omega, Below.refl _ _, Lib.hid (fun x h => by simp at h)⟩
    case round =>
      obtain ⟨r, k, hk, rfl, rfl, r0, r1, hb, HS⟩ := hrel
      by_cases hlt : k < n
      · obtain ⟨b, off, rfl, hrow⟩ := BdO.at (HA.out.next hb) (by rw [HN.out]; omega)
        have hp := List.getElem?_eq_getElem (show k < xs.length by rw [HN.out]; exact hlt)
        have hs := (HD.out _ (List.mem_of_getElem? hp)).go hb
        have hO := hrow k _ hp
        have hT : Hid (xs.take (k + 1) = xs.take k ++ [xs[k]'(by rw [HN.out]; exact hlt)]) := Lib.hid (by rw [List.take_add_one, hp]; rfl)
        generalize xs[k]'(by rw [HN.out]; exact hlt) = x at *
        obtain ⟨p0, p1, p2, p3, p4, p5⟩ := hO
        clear hp hrow
        go_wp2_with fail
        refine (szBd_any x r _ r0 (by omega) hs).mono ?_
        rintro e w1 ⟨q, rfl, hq, hb1⟩
        have hb2 := bnext hb hb1
        clear p0 p1 p2 p3 p4 p5
        rcases hq with rfl | ⟨q0, q1, q2⟩
        · go_wp2
          go_ret
          exact ⟨-1, rfl, .inl rfl, hb2⟩
        · have HS' : Hid (∀ x ∈ xs.take (k + 1), x.d.pr.length ≤ 1048576) := Lib.hid (by
            rw [hT.out]
            intro z hz
            rcases List.mem_append.1 hz with hz | hz
            · exact HS.out z hz
            · obtain rfl : z = x := by simpa using hz
              exact q2)
          go_wp2
          go_roundw
          case rel => exact ⟨q, k + 1, by omega, rfl, by go_num, q0, by omega, hb2, HS'⟩
          case measure => simp [intOf]; omega
      · have HS' : ∀ x ∈ xs, x.d.pr.length ≤ 1048576 := by
          have := HS.out
          rw [List.take_of_length_le (by rw [HN.out]; omega)] at this
          exact this
        have HS' := Lib.hid HS'
        go_wp2
        go_ret
        exact ⟨r, rfl, .inr ⟨r0, r1, hn1, HS'.out⟩, hb⟩

/-- the block of the list of one -/
def Bd.blk (y : Bd) : Option Nat := Value.ownBlock (.slice y.prA y.d.pr.length y.prc)
/-- each has a list of its own between two bounds, one behind the other -/
def OwnBds (w : World) (lo hi : Nat) (ys : List Bd) : Prop :=
  (∀ y ∈ ys, w.ownsRow lo 2 1 (.slice y.prA y.d.pr.length y.prc) y.d.pr.length (intsV y.d.pr) ∧ ∀ b, y.blk = some b → b < hi) ∧ ys.Pairwise (fun y z => ∀ a b, y.blk = some a → z.blk = some b → a < b)
theorem OwnBds.nil (w : World) (lo hi : Nat) : OwnBds w lo hi [] := ⟨fun _ h => (by cases h), List.Pairwise.nil⟩
theorem OwnBds.go {w w' : World} {lo hi : Nat} {ys : List Bd} (h : OwnBds w lo hi ys) (hb : Below w.heap.size w w') : OwnBds w' lo hi ys :=
  ⟨fun y hy => ⟨owns_below (h.1 y hy).1 hb (Nat.le_refl _), (h.1 y hy).2⟩, h.2⟩
theorem OwnBds.set {w : World} {lo hi : Nat} {ys : List Bd} (h : OwnBds w lo hi ys) {a : Addr} (ha : a.block < lo) (u : Value) : OwnBds (w.setCell a u) lo hi ys :=
  ⟨fun y hy => ⟨owns_set_low (h.1 y hy).1 ha u, (h.1 y hy).2⟩, h.2⟩
theorem OwnBds.more {w : World} {lo hi hi' : Nat} {ys : List Bd} (h : OwnBds w lo hi ys) (hh : hi ≤ hi') : OwnBds w lo hi' ys :=
  ⟨fun y hy => ⟨(h.1 y hy).1, fun b hb => Nat.lt_of_lt_of_le ((h.1 y hy).2 b hb) hh⟩, h.2⟩
theorem OwnBds.snoc {w : World} {lo hi : Nat} {ys : List Bd} {y : Bd} {base hi' : Nat} (h : OwnBds w lo hi ys) (hy : w.ownsRow base 2 1 (.slice y.prA y.d.pr.length y.prc) y.d.pr.length (intsV y.d.pr)) (hlo : lo ≤ base) (hhi : hi ≤ base) (hh : w.heap.size ≤ hi') (hh2 : hi ≤ hi') : OwnBds w lo hi' (ys ++ [y]) := by
  refine ⟨fun z hz => ?_, ?_⟩
  · rcases List.mem_append.1 hz with hz | hz
    · exact ⟨(h.1 z hz).1, fun b hb => Nat.lt_of_lt_of_le ((h.1 z hz).2 b hb) hh2⟩
    · obtain rfl : z = y := by simpa using hz
      exact ⟨owns_base hy hlo, fun b hb => Nat.lt_of_lt_of_le (hy.lt b hb).2 hh⟩
  · refine List.pairwise_append.2 ⟨h.2, List.pairwise_singleton _ _, fun a ha z hz p q hp hq => ?_⟩
    obtain rfl : z = y := by simpa using hz
    have h1 := (h.1 a ha).2 p hp
    have h2 := (hy.lt q hq).1
    omega
theorem OwnBds.fine {w : World} {lo hi : Nat} {ys : List Bd} {xs : List Bd} {w0 : World} (h : OwnBds w lo hi ys) (hd : ys.map Bd.d = xs.map Bd.d) (hx : ∀ x ∈ xs, x.fine w0) : ∀ y ∈ ys, y.fine w := by
  intro y hy
  have hm : y.d ∈ xs.map Bd.d := by rw [← hd]; exact List.mem_map.2 ⟨y, hy, rfl⟩
  obtain ⟨x, hx1, hx2⟩ := List.mem_map.1 hm
  obtain ⟨f1, f2⟩ := hx x hx1
  refine ⟨by rw [← hx2]; exact f1, by rfl, owns_max (h.1 y hy).1, owns_cells (h.1 y hy).1, ?_⟩
  rw [← hx2]
  exact f2.2.2.2

/-- the first ones are written, the rest is as it was -/
def fillBd (ys : List Bd) (us : List Value) : List Value := rowsBd ys ++ us.drop (ys.length * 6)
theorem fillBd_nil (us : List Value) : fillBd [] us = us := by unfold fillBd; simp [rowsBd_nil]
theorem fillBd_all (ys : List Bd) (us : List Value) (h : us.length = ys.length * 6) : fillBd ys us = rowsBd ys := by
  unfold fillBd; rw [List.drop_of_length_le (by omega), List.append_nil]
theorem setKBd (L R : List Value) (k : Nat) (h : L.length = k) (x0 x1 x2 x3 x4 x5 c0 c1 c2 c3 c4 c5 : Value) :
    (((((((L ++ x0 :: x1 :: x2 :: x3 :: x4 :: x5 :: R).set (k) c0).set (k + 1) c1).set (k + 2) c2).set (k + 3) c3).set (k + 4) c4).set (k + 5) c5) = L ++ [c0, c1, c2, c3, c4, c5] ++ R := by
  subst h
  simp [List.set_append_right]
theorem dropKBd (us : List Value) (k : Nat) (h : k + 6 ≤ us.length) : ∃ x0 x1 x2 x3 x4 x5, us.drop k = x0 :: x1 :: x2 :: x3 :: x4 :: x5 :: us.drop (k + 6) := by
  refine ⟨us[k], us[k + 1], us[k + 2], us[k + 3], us[k + 4], us[k + 5], ?_⟩
  rw [List.drop_eq_getElem_cons (by omega), List.drop_eq_getElem_cons (by omega), List.drop_eq_getElem_cons (by omega), List.drop_eq_getElem_cons (by omega), List.drop_eq_getElem_cons (by omega), List.drop_eq_getElem_cons (by omega)]
theorem fillBd_set (ys : List Bd) (us : List Value) (x : Bd) (h : ys.length * 6 + 6 ≤ us.length) :
    (((((((fillBd ys us).set (ys.length * 6) (.string x.d.id)).set (ys.length * 6 + 1) (.int .i64 x.d.nd)).set (ys.length * 6 + 2) (.int .i64 x.d.ba)).set (ys.length * 6 + 3) (.int .i64 x.d.sl)).set (ys.length * 6 + 4) (.int .i64 x.d.li)).set (ys.length * 6 + 5) (.slice x.prA x.d.pr.length x.prc)) = fillBd (ys ++ [x]) us := by
  obtain ⟨x0, x1, x2, x3, x4, x5, e⟩ := dropKBd us (ys.length * 6) h
  unfold fillBd
  rw [e, setKBd _ _ _ (rowsBd_length ys), rowsBd_append, rowsBd_one, List.length_append, List.length_singleton, show (ys.length + 1) * 6 = ys.length * 6 + 6 by omega]
  rfl
theorem fillBd_at (ys : List Bd) (us : List Value) (h : ys.length * 6 + 6 ≤ us.length) : ∀ j, j < 6 → ∃ x, (fillBd ys us)[ys.length * 6 + j]? = some x := fun j hj =>
  ⟨_, List.getElem?_eq_getElem (by unfold fillBd; rw [List.length_append, rowsBd_length, List.length_drop]; omega)⟩

/-- a call that returns a copy of a slice, all lists new -/
def RetBds (xs : List Bd) (w : World) (e : Ending) (w' : World) : Prop :=
  ∃ A c ys lo, e = .returned (.slice A xs.length c) ∧ ys.map Bd.d = xs.map Bd.d ∧ w'.ownsRow w.heap.size 61 6 (.slice A xs.length c) xs.length (rowsBd ys) ∧ w.heap.size ≤ lo ∧ LiesIn lo A ∧ OwnBds w' lo w'.heap.size ys ∧ Below w.heap.size w w'
theorem toBds_any (A : Option Addr) (n c : Nat) (xs : List Bd) (w : World) (hn : n ≤ 1048576) (h : BdsIn w A n xs) (hs : ∀ x ∈ xs, x.d.pr.length ≤ 1048576) :
    Calls Try.prog 13 #[.slice A n c] w (RetBds xs w) := by
  obtain ⟨hl, hM, hA, hf⟩ := h
  subst hl
  obtain ⟨i0, hi, hz0, hz1, hz2⟩ := info_parts infoBd
  have hm : xs.length ≤ 9223372036854775807 := by omega
  have HF := Lib.hid hf
  have HSS := Lib.hid hs
  clear hf hs
  go_enter Try.func13, Try.ntmps13
  go_wp2_with (refine wpList_make_full _ rfl _ _ _ rfl w.heap.size 61 i0 (.agg #[.string .empty, .int .i64 0, .int .i64 0, .int .i64 0, .int .i64 0, .slice none 0 0]) 6 Try.underlying27 hi hz0 hz1 _ _ _ _ xs.length rfl rfl rfl rfl (by rw [hz2]; omega) hM (Nat.le_refl _) ?_; intro w1 hown hgrow)
  have hb1 := Below.grown (Below.refl w.heap.size w) hgrow (Nat.le_refl _) (fun k hk => by cases hk)
  have hl1 := hown.1
  have hlt1 := (hown.lt w.heap.size rfl).2
  generalize (madeCells (Value.agg #[.string .empty, .int .i64 0, .int .i64 0, .int .i64 0, .int .i64 0, .slice none 0 0]).cells (xs.length * 6)).toList = us at *
  have HX := Lib.hid hl1
  have HA := Lib.hid hA
  clear hl1 hA
  go_loopw [4] (fun i wr => ∃ (k : Nat) (ys : List Bd), k ≤ xs.length ∧ i = .int .i64 k ∧ Hid (ys.length = k ∧ ys.map Bd.d = (xs.take k).map Bd.d) ∧ wr.ownsRow w.heap.size 61 6 (.slice (some ⟨w.heap.size, 0, none⟩) xs.length xs.length) xs.length (fillBd ys us) ∧ OwnBds wr (w.heap.size + 1) wr.heap.size ys ∧ w.heap.size < wr.heap.size ∧ Below w.heap.size w wr) (fun i _ => xs.length - (intOf i).toNat)
  case atStart => exact ⟨0, [], Nat.zero_le _, rfl, Lib.hid ⟨rfl, rfl⟩, by rw [fillBd_nil]; exact hown, OwnBds.nil _ _ _, hlt1, hb1⟩
  case round =>
    obtain ⟨k, ys, hk, rfl, HY, hro, hOw, hsz, hb⟩ := hrel
    by_cases hlt : k < xs.length
    · obtain ⟨b, off, rfl, hrow⟩ := BdO.at (HA.out.next hb) (by omega)
      have hp := List.getElem?_eq_getElem hlt
      have hx1 := (HF.out _ (List.mem_of_getElem? hp)).go hb
      have hx2 := HSS.out _ (List.mem_of_getElem? hp)
      have hO := hrow k _ hp
      have hT : Hid (xs.take (k + 1) = xs.take k ++ [xs[k]]) := Lib.hid (by rw [List.take_add_one, hp]; rfl)
      generalize xs[k] = x at *
      have ⟨p0, p1, p2, p3, p4, p5⟩ := hO
      clear hp hrow hO
      go_wp2_with fail
      refine (toBd_any x _ hx1 hx2).mono ?_
      rintro e w1 ⟨y, hyd, rfl, o1, hbt⟩
      have HYD := Lib.hid hyd
      clear hyd
      have hb2 := bnext hb hbt
      have hro1 := hro.kept (row := none) ⟨hbt.os, hbt.tape, hbt.output, hbt.size, fun k hk _ => hbt.block k hk⟩ (.inr (by simp [Value.ownBlock]))
      have hOw1 := (hOw.go hbt).snoc o1 (by omega) (Nat.le_refl _) (Nat.le_refl w1.heap.size) hbt.size
      have hsz1 := Nat.lt_of_lt_of_le hsz hbt.size
      have hbig : ys.length * 6 + 6 ≤ us.length := by rw [HX.out, HY.out.1]; omega
      clear p0 p1 p2 p3 p4 p5 hro hb hbt hOw hx1 hx2
      obtain ⟨u0, hu0⟩ := fillBd_at ys us hbig 0 (by omega)
      obtain ⟨u1, hu1⟩ := fillBd_at ys us hbig 1 (by omega)
      obtain ⟨u2, hu2⟩ := fillBd_at ys us hbig 2 (by omega)
      obtain ⟨u3, hu3⟩ := fillBd_at ys us hbig 3 (by omega)
      obtain ⟨u4, hu4⟩ := fillBd_at ys us hbig 4 (by omega)
      obtain ⟨u5, hu5⟩ := fillBd_at ys us hbig 5 (by omega)
      have hk6 := HY.out.1
      have c0 := (hro1.cellAt (ys.length * 6) (by rw [hk6]; omega)).trans hu0
      have c1 := (hro1.cellAt (ys.length * 6 + 1) (by rw [hk6]; omega)).trans hu1
      have c2 := (hro1.cellAt (ys.length * 6 + 2) (by rw [hk6]; omega)).trans hu2
      have c3 := (hro1.cellAt (ys.length * 6 + 3) (by rw [hk6]; omega)).trans hu3
      have c4 := (hro1.cellAt (ys.length * 6 + 4) (by rw [hk6]; omega)).trans hu4
      have c5 := (hro1.cellAt (ys.length * 6 + 5) (by rw [hk6]; omega)).trans hu5
      have f0 := hro1.frozenAt (ys.length * 6)
      have f1 := hro1.frozenAt (ys.length * 6 + 1)
      have f2 := hro1.frozenAt (ys.length * 6 + 2)
      have f3 := hro1.frozenAt (ys.length * 6 + 3)
      have f4 := hro1.frozenAt (ys.length * 6 + 4)
      have f5 := hro1.frozenAt (ys.length * 6 + 5)
      have hst := ((((((hro1.stored (ys.length * 6) (.string y.d.id)).1.stored (ys.length * 6 + 1) (.int .i64 y.d.nd)).1.stored (ys.length * 6 + 2) (.int .i64 y.d.ba)).1.stored (ys.length * 6 + 3) (.int .i64 y.d.sl)).1.stored (ys.length * 6 + 4) (.int .i64 y.d.li)).1.stored (ys.length * 6 + 5) (.slice y.prA y.d.pr.length y.prc)).1
      rw [fillBd_set ys us y hbig] at hst
      rw [hk6] at c0 c1 c2 c3 c4 c5 f0 f1 f2 f3 f4 f5 hst
      have Hst := Lib.hid hst
      clear hst hro1 hbig hk6 hu0 hu1 hu2 hu3 hu4 hu5
      go_wp2
      go_roundw
      case rel =>
        refine ⟨k + 1, ys ++ [y], by omega, by go_num, Lib.hid ⟨by rw [List.length_append, HY.out.1]; rfl, ?_⟩, Hst.out, (((((((hOw1.set (a := ⟨w.heap.size, k * 6, none⟩) (Nat.lt_succ_self _) (.string y.d.id)).set (a := ⟨w.heap.size, k * 6 + 1, none⟩) (Nat.lt_succ_self _) (.int .i64 y.d.nd)).set (a := ⟨w.heap.size, k * 6 + 2, none⟩) (Nat.lt_succ_self _) (.int .i64 y.d.ba)).set (a := ⟨w.heap.size, k * 6 + 3, none⟩) (Nat.lt_succ_self _) (.int .i64 y.d.sl)).set (a := ⟨w.heap.size, k * 6 + 4, none⟩) (Nat.lt_succ_self _) (.int .i64 y.d.li)).set (a := ⟨w.heap.size, k * 6 + 5, none⟩) (Nat.lt_succ_self _) (.slice y.prA y.d.pr.length y.prc)).more (by simp)), by simpa using hsz1, ((((((hb2.setCell (Nat.le_refl _) _).setCell (Nat.le_refl _) _).setCell (Nat.le_refl _) _).setCell (Nat.le_refl _) _).setCell (Nat.le_refl _) _).setCell (Nat.le_refl _) _)⟩
        rw [hT.out, List.map_append, List.map_append, HY.out.2, List.map_singleton, List.map_singleton, HYD.out]
      case measure => simp [intOf]; omega
    · obtain rfl : k = xs.length := by omega
      have hfa := fillBd_all ys us (by rw [HX.out, HY.out.1])
      rw [hfa] at hro
      have HD := Lib.hid HY.out.2
      rw [List.take_length] at HD
      clear hfa
      go_wp2
      go_ret
      exact ⟨_, _, ys, w.heap.size + 1, rfl, HD.out, hro, by omega, fun b o e => by injection e with e; injection e with e; omega, hOw, hb⟩

theorem eqBds_same (A B : Option Addr) (c d : Nat) (xs ys : List Bd) (n : Nat) (w : World) (hx : n ≤ maxLen) (hn : xs.length = n) (hd : xs.map Bd.d = ys.map Bd.d)
    (hA : CellsAt w A (rowsBd xs)) (hB : CellsAt w B (rowsBd ys)) (hfx : ∀ x ∈ xs, x.fine w) (hfy : ∀ y ∈ ys, y.fine w) :
    Calls Try.prog 16 #[.slice A n c, .slice B n d] w fun e w' => e = .returned (.bool true) ∧ Below w.heap.size w w' := by
  have hm : n ≤ 9223372036854775807 := by unfold maxLen at hx; omega
  have hl : ys.length = n := by have := congrArg List.length hd; simp at this; omega
  have HA := Lib.hid hA
  have HB := Lib.hid hB
  have HD := Lib.hid hd
  have HL := Lib.hid (And.intro hn hl)
  have HFX := Lib.hid hfx
  have HFY := Lib.hid hfy
  clear hA hB hd hl hn hfx hfy
  go_enter Try.func16, Try.ntmps16
  go_wp2
  go_loopw [5] (fun i wr => ∃ k : Nat, k ≤ n ∧ i = .int .i64 k ∧ Below w.heap.size w wr) (fun i _ => n - (intOf i).toNat)
  case atStart => exact ⟨0, Nat.zero_le _, rfl, Below.refl _ _⟩
  case round =>
    obtain ⟨k, hk, rfl, hb⟩ := hrel
    by_cases hlt : k < n
    · obtain ⟨b1, o1, rfl, hr1⟩ := BdO.at (HA.out.next hb) (by rw [HL.out.1]; omega)
      obtain ⟨b2, o2, rfl, hr2⟩ := BdO.at (HB.out.next hb) (by rw [HL.out.2]; omega)
      have hp := List.getElem?_eq_getElem (show k < xs.length by rw [HL.out.1]; exact hlt)
      have hq := List.getElem?_eq_getElem (show k < ys.length by rw [HL.out.2]; exact hlt)
      have P0 := hr1 k _ hp
      have Q0 := hr2 k _ hq
      have F0 := (HFX.out _ (List.mem_of_getElem? hp)).go hb
      have G0 := (HFY.out _ (List.mem_of_getElem? hq)).go hb
      have hde : (xs[k]'(by rw [HL.out.1]; exact hlt)).d = (ys[k]'(by rw [HL.out.2]; exact hlt)).d := by
        have := congrArg (fun l => l[k]?) HD.out
        simpa [hp, hq] using this
      generalize xs[k]'(by rw [HL.out.1]; exact hlt) = x at *
      generalize ys[k]'(by rw [HL.out.2]; exact hlt) = y at *
      clear hp hq hr1 hr2
      have HE := Lib.hid hde
      clear hde
      have hdr : Below wr.heap.size wr wr.drew := below_drewN (Below.refl _ _) 1
      have hb1 : Below w.heap.size w wr.drew := bnext hb hdr
      have F1 := Lib.hid (F0.go hdr)
      have G1 := Lib.hid (G0.go hdr)
      have P := P0.next hdr
      have Q := Q0.next hdr
      have ⟨p0, p1, p2, p3, p4, p5⟩ := P
      have ⟨q0, q1, q2, q3, q4, q5⟩ := Q
      clear P0 Q0 F0 G0 hb hdr
      go_wp2
      go_region_held3 (fun w' => w'.cell? ⟨b1, o1 + k * 6, none⟩ = some (.string x.d.id) ∧ w'.cell? ⟨b1, o1 + k * 6 + 1, none⟩ = some (.int .i64 x.d.nd) ∧ w'.cell? ⟨b1, o1 + k * 6 + 2, none⟩ = some (.int .i64 x.d.ba) ∧ w'.cell? ⟨b1, o1 + k * 6 + 3, none⟩ = some (.int .i64 x.d.sl) ∧ w'.cell? ⟨b1, o1 + k * 6 + 4, none⟩ = some (.int .i64 x.d.li) ∧ w'.cell? ⟨b1, o1 + k * 6 + 5, none⟩ = some (.slice x.prA x.d.pr.length x.prc) ∧ w'.cell? ⟨b2, o2 + k * 6, none⟩ = some (.string y.d.id) ∧ w'.cell? ⟨b2, o2 + k * 6 + 1, none⟩ = some (.int .i64 y.d.nd) ∧ w'.cell? ⟨b2, o2 + k * 6 + 2, none⟩ = some (.int .i64 y.d.ba) ∧ w'.cell? ⟨b2, o2 + k * 6 + 3, none⟩ = some (.int .i64 y.d.sl) ∧ w'.cell? ⟨b2, o2 + k * 6 + 4, none⟩ = some (.int .i64 y.d.li) ∧ w'.cell? ⟨b2, o2 + k * 6 + 5, none⟩ = some (.slice y.prA y.d.pr.length y.prc)) (exact ⟨p0, p1, p2, p3, p4, p5, q0, q1, q2, q3, q4, q5⟩) ((go_at_call 46; refine (eqBd_same x y _ HE.out F1.out G1.out).mono ?_; rintro e w' ⟨rfl, hb'⟩; have hb := bnext hb1 hb'; have P := P.next hb'; have Q := Q.next hb'; have ⟨p0, p1, p2, p3, p4, p5⟩ := P; have ⟨q0, q1, q2, q3, q4, q5⟩ := Q))
      go_wp2
      go_roundw
      case rel => exact ⟨k + 1, by omega, by go_num, hb⟩
      case measure => simp [intOf]; omega
    · go_wp2
      go_ret
      exact ⟨rfl, hb⟩
end Go.Proofs.Ythidaoemonjemab
