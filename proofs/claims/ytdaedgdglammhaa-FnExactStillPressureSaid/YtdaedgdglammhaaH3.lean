/-
  The laws' own helpers over pipes and networks: how great one is, a copy, whether two are the same.
-/
import Derived.Test.YtdaedgdglammhaaGs
import Derived.Test.YtdaedgdglammhaaH2
import Derived.Test.YtdaedgdglammhaaP5
import Derived.Test.YtdaedgdglammhaaEQ
namespace Go.Proofs.Ytdaedgdglammhaa
open Go.ChangeShapes Go.WideShapes Go.ChangeAt Go.RowKit
set_option maxRecDepth 100000
set_option linter.unusedVariables false

theorem infoPipe : (Try.prog.info? 89).map (fun i => (i.zero, i.size, i.bytes)) = some (some (.agg #[.string .empty, .int .i64 0, .int .i64 0, .int .i64 0, .int .i64 0, .int .i64 0]), 6, 56) := by kernel_rfl

/-- the first pipes are written, the rest is as it was -/
def fillP (ps : List Pp) (k : Nat) (xs : List Value) : List Value := rowsP (ps.take k) ++ xs.drop (k * 6)
theorem fillP_zero (ps : List Pp) (xs : List Value) : fillP ps 0 xs = xs := by unfold fillP; simp [rowsP_nil]
theorem fillP_all (ps : List Pp) (xs : List Value) (h : xs.length = ps.length * 6) : fillP ps ps.length xs = rowsP ps := by
  unfold fillP; rw [List.drop_of_length_le (by omega), List.take_length, List.append_nil]
theorem fillP_length (ps : List Pp) (k : Nat) (xs : List Value) (hk : k ≤ ps.length) (h : xs.length = ps.length * 6) : (fillP ps k xs).length = ps.length * 6 := by
  unfold fillP; rw [List.length_append, rowsP_length, List.length_take, List.length_drop]; omega
theorem set_six (L R : List Value) (k : Nat) (h : L.length = k) (x0 x1 x2 x3 x4 x5 c0 c1 c2 c3 c4 c5 : Value) :
    ((((((L ++ x0 :: x1 :: x2 :: x3 :: x4 :: x5 :: R).set k c0).set (k + 1) c1).set (k + 2) c2).set (k + 3) c3).set (k + 4) c4).set (k + 5) c5 = L ++ [c0, c1, c2, c3, c4, c5] ++ R := by
  subst h
  simp [List.set_append_right]
theorem drop_six (xs : List Value) (k : Nat) (h : k + 6 ≤ xs.length) : ∃ x0 x1 x2 x3 x4 x5, xs.drop k = x0 :: x1 :: x2 :: x3 :: x4 :: x5 :: xs.drop (k + 6) := by
  refine ⟨xs[k], xs[k + 1], xs[k + 2], xs[k + 3], xs[k + 4], xs[k + 5], ?_⟩
  rw [List.drop_eq_getElem_cons (by omega), List.drop_eq_getElem_cons (by omega), List.drop_eq_getElem_cons (by omega), List.drop_eq_getElem_cons (by omega), List.drop_eq_getElem_cons (by omega), List.drop_eq_getElem_cons (by omega)]
theorem fillP_set (ps : List Pp) (k : Nat) (xs : List Value) (p : Pp) (hp : ps[k]? = some p) (h : xs.length = ps.length * 6) :
    ((((((fillP ps k xs).set (k * 6) (.string p.id)).set (k * 6 + 1) (.int .i64 p.f)).set (k * 6 + 2) (.int .i64 p.t)).set (k * 6 + 3) (.int .i64 p.L)).set (k * 6 + 4) (.int .i64 p.d)).set (k * 6 + 5) (.int .i64 p.s) = fillP ps (k + 1) xs := by
  have hk : k < ps.length := (List.getElem?_eq_some_iff.1 hp).1
  obtain ⟨x0, x1, x2, x3, x4, x5, e⟩ := drop_six xs (k * 6) (by omega)
  unfold fillP
  rw [e, set_six _ _ _ (by rw [rowsP_length, List.length_take]; omega), List.take_add_one, hp]
  show _ = rowsP (List.take k ps ++ [p]) ++ _
  rw [rowsP_append, rowsP_one, show (k + 1) * 6 = k * 6 + 6 by omega]
  rfl
theorem fillP_at (ps : List Pp) (k : Nat) (xs : List Value) (hk : k < ps.length) (h : xs.length = ps.length * 6) : ∀ j, j < 6 → ∃ x, (fillP ps k xs)[k * 6 + j]? = some x := fun j hj =>
  ⟨_, List.getElem?_eq_getElem (by rw [fillP_length ps k xs (by omega) h]; omega)⟩

theorem szPipes_any (A : Option Addr) (n c : Nat) (ps : List Pp) (m : Int) (w : World) (m0 : 0 ≤ m) (m1 : m ≤ 1048576) (h : PipesIn w A n ps) :
    Calls Try.prog 62 #[.slice A n c, .int .i64 m] w (SzR n m w) := by
  obtain ⟨hn, hM, hA, hid⟩ := h
  have hm : (n : Int) ≤ 9223372036854775807 := by unfold maxLen at hM; omega
  by_cases h1 : m - n < 0
  · go_enter Try.func62, Try.ntmps62
    go_wp2
    go_ret
    exact ⟨-1, rfl, .inl rfl, Below.refl _ _⟩
  · have h1' : 0 ≤ m - n := by omega
    have HN := Lib.hid hn
    have HD := Lib.hid hid
    have HA := Lib.hid hA
    clear hn hid hA
    go_enter Try.func62, Try.ntmps62
    go_wp2
    go_loopw [1, 5] (fun v i wr => ∃ (r : Int) (k : Nat), k ≤ n ∧ v = .int .i64 r ∧ i = .int .i64 k ∧ 0 ≤ r ∧ r ≤ m - n ∧ Below w.heap.size w wr) (fun _ i _ => n - (intOf i).toNat)
    case atStart => exact ⟨_, 0, Nat.zero_le _, rfl, rfl, h1', by omega, Below.refl _ _⟩
    case round =>
      obtain ⟨r, k, hk, rfl, rfl, r0, r1, hb⟩ := hrel
      by_cases hlt : k < n
      · obtain ⟨b, off, rfl, hrow⟩ := pipe_at (HA.out.next hb) (by rw [HN.out]; omega)
        have hp := List.getElem?_eq_getElem (show k < ps.length by rw [HN.out]; exact hlt)
        have hs := HD.out _ (List.mem_of_getElem? hp)
        obtain ⟨p0, p1, p2, p3, p4, p5⟩ := hrow k _ hp
        generalize ps[k]'(by rw [HN.out]; exact hlt) = p at *
        clear hp hrow
        go_wp2_with fail
        refine (szPipe_any p.id p.f p.t p.L p.d p.s r _ r0 (by omega) hs).mono ?_
        rintro e w1 ⟨rfl, hb1⟩
        have hb2 := bnext hb hb1
        clear p0 p1 p2 p3 p4 p5
        by_cases h2 : r - p.id.size < 0
        · rw [if_pos h2]
          go_wp2
          go_ret
          exact ⟨-1, rfl, .inl rfl, hb2⟩
        · rw [if_neg h2]
          have h2' : 0 ≤ r - p.id.size := by omega
          have h3' : r - p.id.size ≤ m - n := by omega
          generalize r - (p.id.size : Int) = q at *
          go_wp2
          go_roundw
          case rel => exact ⟨q, k + 1, by omega, rfl, by go_num, h2', h3', hb2⟩
          case measure => simp [intOf]; omega
      · go_wp2
        go_ret
        exact ⟨r, rfl, .inr ⟨r0, r1⟩, hb⟩

/-- a call that returns a new slice of pipes -/
def RetPipes (ps : List Pp) (w : World) (e : Ending) (w' : World) : Prop :=
  ∃ A c, e = .returned (.slice A ps.length c) ∧ w'.ownsRow w.heap.size 89 6 (.slice A ps.length c) ps.length (rowsP ps) ∧ Below w.heap.size w w'

theorem toPipes_any (A : Option Addr) (n c : Nat) (ps : List Pp) (w : World) (hn : n ≤ 1048576) (h : PipesIn w A n ps) :
    Calls Try.prog 67 #[.slice A n c] w (RetPipes ps w) := by
  obtain ⟨hl, hM, hA, hid⟩ := h
  subst hl
  obtain ⟨i0, hi, hz0, hz1, hz2⟩ := info_parts infoPipe
  have hm : ps.length ≤ 9223372036854775807 := by omega
  clear hid
  go_enter Try.func67, Try.ntmps67
  go_wp2_with (refine wpList_make_full _ rfl _ _ _ rfl w.heap.size 89 i0 (.agg #[.string .empty, .int .i64 0, .int .i64 0, .int .i64 0, .int .i64 0, .int .i64 0]) 6 Try.underlying36 hi hz0 hz1 _ _ _ _ ps.length rfl rfl rfl rfl (by rw [hz2]; omega) hM (Nat.le_refl _) ?_; intro w1 hown hgrow)
  have hb1 := Below.grown (Below.refl w.heap.size w) hgrow (Nat.le_refl _) (fun k hk => by cases hk)
  have hl1 := hown.1
  generalize (madeCells (Value.agg #[.string .empty, .int .i64 0, .int .i64 0, .int .i64 0, .int .i64 0, .int .i64 0]).cells (ps.length * 6)).toList = xs at *
  have HX := Lib.hid hl1
  have HA := Lib.hid hA
  clear hl1 hA
  go_loopw [4] (fun i wr => ∃ k : Nat, k ≤ ps.length ∧ i = .int .i64 k ∧ wr.ownsRow w.heap.size 89 6 (.slice (some ⟨w.heap.size, 0, none⟩) ps.length ps.length) ps.length (fillP ps k xs) ∧ Below w.heap.size w wr) (fun i _ => ps.length - (intOf i).toNat)
  case atStart => exact ⟨0, Nat.zero_le _, rfl, by rw [fillP_zero]; exact hown, hb1⟩
  case round =>
    obtain ⟨k, hk, rfl, hro, hb⟩ := hrel
    by_cases hlt : k < ps.length
    · obtain ⟨b, off, rfl, hrow⟩ := pipe_at (HA.out.next hb) (by omega)
      have hp := List.getElem?_eq_getElem hlt
      obtain ⟨p0, p1, p2, p3, p4, p5⟩ := hrow k _ hp
      generalize ps[k] = p at *
      have HP := Lib.hid hp
      clear hp hrow
      go_wp2_with fail
      refine (toPipe_any p.id p.f p.t p.L p.d p.s _).mono ?_
      rintro e w1 ⟨rfl, hbt⟩
      have hb2 := bnext hb hbt
      have hro1 := hro.kept (row := none) ⟨hbt.os, hbt.tape, hbt.output, hbt.size, fun k hk _ => hbt.block k hk⟩ (.inr (by simp [Value.ownBlock]))
      clear p0 p1 p2 p3 p4 p5 hro hb hbt
      obtain ⟨y0, hy0⟩ := fillP_at ps k xs hlt HX.out 0 (by omega)
      obtain ⟨y1, hy1⟩ := fillP_at ps k xs hlt HX.out 1 (by omega)
      obtain ⟨y2, hy2⟩ := fillP_at ps k xs hlt HX.out 2 (by omega)
      obtain ⟨y3, hy3⟩ := fillP_at ps k xs hlt HX.out 3 (by omega)
      obtain ⟨y4, hy4⟩ := fillP_at ps k xs hlt HX.out 4 (by omega)
      obtain ⟨y5, hy5⟩ := fillP_at ps k xs hlt HX.out 5 (by omega)
      have c0 := (hro1.cellAt (k * 6) (by omega)).trans hy0
      have c1 := (hro1.cellAt (k * 6 + 1) (by omega)).trans hy1
      have c2 := (hro1.cellAt (k * 6 + 2) (by omega)).trans hy2
      have c3 := (hro1.cellAt (k * 6 + 3) (by omega)).trans hy3
      have c4 := (hro1.cellAt (k * 6 + 4) (by omega)).trans hy4
      have c5 := (hro1.cellAt (k * 6 + 5) (by omega)).trans hy5
      have f0 := hro1.frozenAt (k * 6)
      have f1 := hro1.frozenAt (k * 6 + 1)
      have f2 := hro1.frozenAt (k * 6 + 2)
      have f3 := hro1.frozenAt (k * 6 + 3)
      have f4 := hro1.frozenAt (k * 6 + 4)
      have f5 := hro1.frozenAt (k * 6 + 5)
      have hst := ((((((hro1.stored (k * 6) (.string p.id)).1.stored (k * 6 + 1) (.int .i64 p.f)).1.stored (k * 6 + 2) (.int .i64 p.t)).1.stored (k * 6 + 3) (.int .i64 p.L)).1.stored (k * 6 + 4) (.int .i64 p.d)).1.stored (k * 6 + 5) (.int .i64 p.s)).1
      rw [fillP_set ps k xs p HP.out HX.out] at hst
      have Hst := Lib.hid hst
      clear hst hro1 hy0 hy1 hy2 hy3 hy4 hy5
      go_wp2
      go_roundw
      case rel => exact ⟨k + 1, by omega, by go_num, Hst.out, (((((hb2.setCell (Nat.le_refl _) _).setCell (Nat.le_refl _) _).setCell (Nat.le_refl _) _).setCell (Nat.le_refl _) _).setCell (Nat.le_refl _) _).setCell (Nat.le_refl _) _⟩
      case measure => simp [intOf]; omega
    · obtain rfl : k = ps.length := by omega
      rw [fillP_all ps xs HX.out] at hro
      go_wp2
      go_ret
      exact ⟨_, _, rfl, hro, hb⟩

theorem eqPipes_same (A B : Option Addr) (c d : Nat) (ps : List Pp) (w : World) (hx : ps.length ≤ maxLen)
    (hA : CellsAt w A (rowsP ps)) (hB : CellsAt w B (rowsP ps)) :
    Calls Try.prog 74 #[.slice A ps.length c, .slice B ps.length d] w fun e w' => e = .returned (.bool true) ∧ Below w.heap.size w w' := by
  have hm : ps.length ≤ 9223372036854775807 := by unfold maxLen at hx; omega
  have HA := Lib.hid hA
  have HB := Lib.hid hB
  clear hA hB
  go_enter Try.func74, Try.ntmps74
  go_wp2
  go_loopw [5] (fun i wr => ∃ k : Nat, k ≤ ps.length ∧ i = .int .i64 k ∧ Below w.heap.size w wr) (fun i _ => ps.length - (intOf i).toNat)
  case atStart => exact ⟨0, Nat.zero_le _, rfl, Below.refl _ _⟩
  case round =>
    obtain ⟨k, hk, rfl, hb⟩ := hrel
    by_cases hlt : k < ps.length
    · obtain ⟨b1, o1, rfl, hr1⟩ := pipe_at (HA.out.next hb) (by omega)
      obtain ⟨b2, o2, rfl, hr2⟩ := pipe_at (HB.out.next hb) (by omega)
      have hp := List.getElem?_eq_getElem hlt
      have P := hr1 k _ hp
      have Q := hr2 k _ hp
      generalize ps[k] = p at *
      clear hp hr1 hr2
      have hb1 : Below w.heap.size w wr.drew := below_drewN hb 1
      have P1 : PipeO wr.drew b1 (o1 + k * 6) p := P
      have Q1 : PipeO wr.drew b2 (o2 + k * 6) p := Q
      have ⟨p0, p1, p2, p3, p4, p5⟩ := P1
      have ⟨q0, q1, q2, q3, q4, q5⟩ := Q1
      clear P Q hb
      go_wp2
      go_region_held3 (fun w' => w'.cell? ⟨b1, o1 + k * 6, none⟩ = some (.string p.id) ∧ w'.cell? ⟨b1, o1 + k * 6 + 1, none⟩ = some (.int .i64 p.f) ∧ w'.cell? ⟨b1, o1 + k * 6 + 2, none⟩ = some (.int .i64 p.t) ∧ w'.cell? ⟨b1, o1 + k * 6 + 3, none⟩ = some (.int .i64 p.L) ∧ w'.cell? ⟨b1, o1 + k * 6 + 4, none⟩ = some (.int .i64 p.d) ∧ w'.cell? ⟨b1, o1 + k * 6 + 5, none⟩ = some (.int .i64 p.s) ∧ w'.cell? ⟨b2, o2 + k * 6, none⟩ = some (.string p.id) ∧ w'.cell? ⟨b2, o2 + k * 6 + 1, none⟩ = some (.int .i64 p.f) ∧ w'.cell? ⟨b2, o2 + k * 6 + 2, none⟩ = some (.int .i64 p.t) ∧ w'.cell? ⟨b2, o2 + k * 6 + 3, none⟩ = some (.int .i64 p.L) ∧ w'.cell? ⟨b2, o2 + k * 6 + 4, none⟩ = some (.int .i64 p.d) ∧ w'.cell? ⟨b2, o2 + k * 6 + 5, none⟩ = some (.int .i64 p.s)) (exact ⟨p0, p1, p2, p3, p4, p5, q0, q1, q2, q3, q4, q5⟩) ((go_at_call 127; refine (eqPipe_same _ _ _ _ _ _ _).mono ?_; rintro e w' ⟨rfl, hb'⟩; have hb := bnext hb1 hb'; have P := P1.next hb'; have Q := Q1.next hb'; have ⟨p0, p1, p2, p3, p4, p5⟩ := P; have ⟨q0, q1, q2, q3, q4, q5⟩ := Q))
      go_wp2
      go_roundw
      case rel => exact ⟨k + 1, by omega, by go_num, hb⟩
      case measure => simp [intOf]; omega
    · go_wp2
      go_ret
      exact ⟨rfl, hb⟩

end Go.Proofs.Ytdaedgdglammhaa
