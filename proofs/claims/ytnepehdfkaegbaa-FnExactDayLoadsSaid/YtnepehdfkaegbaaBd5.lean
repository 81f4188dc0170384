/-
  Marks written into the lists of Building.
-/
import Derived.Test.YtnepehdfkaegbaaBd4
import Derived.Test.YtnepehdfkaegbaaM1
namespace Go.Proofs.Ytnepehdfkaegbaa
open Go.ChangeShapes Go.WideShapes Go.ChangeAt Go.RowKit
set_option maxRecDepth 100000
set_option linter.unusedVariables false

theorem grown_preBd {w a b : World} {row : Option Nat} (k : Below w.heap.size w a) (g : a.grownBy b row) : w.grownBy b row :=
  ⟨g.os.trans k.os, g.tape.trans k.tape, g.output.trans k.output, Nat.le_trans k.size g.size, fun i hi hne => (g.block i (Nat.lt_of_lt_of_le hi k.size) hne).trans (k.block i hi)⟩
/-- only blocks between two bounds have changed -/
def WrBd (w w' : World) (lo hi : Nat) : Prop := w'.os = w.os ∧ w'.tape = w.tape ∧ w'.output = w.output ∧ w.heap.size ≤ w'.heap.size ∧ ∀ b, b < w.heap.size → b < lo ∨ hi ≤ b → w'.heap[b]? = w.heap[b]?
theorem WrBd.refl (w : World) (lo hi : Nat) : WrBd w w lo hi := ⟨rfl, rfl, rfl, Nat.le_refl _, fun _ _ _ => rfl⟩
theorem WrBd.grown {w a b : World} {lo hi : Nat} {row : Option Nat} (h : WrBd w a lo hi) (g : a.grownBy b row) (hr : ∀ k, row = some k → lo ≤ k ∧ k < hi) : WrBd w b lo hi := by
  obtain ⟨h1, h2, h3, h4, h5⟩ := h
  refine ⟨g.os.trans h1, g.tape.trans h2, g.output.trans h3, Nat.le_trans h4 g.size, fun k hk hor => (g.block k (Nat.lt_of_lt_of_le hk h4) (fun e => ?_)).trans (h5 k hk hor)⟩
  have := hr k e.symm
  omega
theorem WrBd.below {w w' a : World} {lo hi B : Nat} (h : WrBd w w' lo hi) (hb : Below B a w) (hB : B ≤ lo) (hB2 : B ≤ w.heap.size) : Below B a w' :=
  ⟨h.1.trans hb.os, h.2.1.trans hb.tape, h.2.2.1.trans hb.output, Nat.le_trans hb.size h.2.2.2.1, fun k hk => (h.2.2.2.2 k (by omega) (.inl (by omega))).trans (hb.block k hk)⟩
theorem markBd_any (x : Bd) (lo : Nat) (k : Int) (w : World) (hk0 : 0 ≤ k) (hk1 : k ≤ 4611686018427387904) (hl : x.d.pr.length ≤ 1048576)
    (ho : w.ownsRow lo 2 1 (.slice x.prA x.d.pr.length x.prc) x.d.pr.length (intsV x.d.pr)) :
    Calls Try.prog 39 #[.agg #[.string x.d.id, .int .i64 x.d.nd, .int .i64 x.d.ba, .int .i64 x.d.sl, .int .i64 x.d.li, .slice x.prA x.d.pr.length x.prc], .int .i64 k] w fun e w' => e = .returned (.int .i64 (k + x.d.pr.length)) ∧ w.grownBy w' x.blk := by
  have hb : Below w.heap.size w (w.alloc (.cells #[.string x.d.id, .int .i64 x.d.nd, .int .i64 x.d.ba, .int .i64 x.d.sl, .int .i64 x.d.li, .slice x.prA x.d.pr.length x.prc] 40)) := bal (Below.refl _ _) _
  have ⟨n0, n1, n2, n3, n4, n5⟩ := BdO.new w x 40
  have HO := Lib.hid (owns_below ho hb (Nat.le_refl _))
  clear ho
  go_enter Try.func39, Try.ntmps39
  go_wp2_with fail
  refine (markInts_any x.prA x.prc x.d.pr.length lo _ k _ hk0 (by omega) HO.out).mono ?_
  rintro e w1 ⟨rfl, -, hg⟩
  go_wp2
  go_ret
  exact ⟨rfl, grown_preBd hb hg⟩
theorem setMBd (L R : List Value) (k : Nat) (h : L.length = k) (x0 x1 x2 x3 x4 c0 c1 c2 c3 c4 : Value) :
    ((((((L ++ x0 :: x1 :: x2 :: x3 :: x4 :: R).set (k) c0).set (k + 1) c1).set (k + 2) c2).set (k + 3) c3).set (k + 4) c4) = L ++ c0 :: c1 :: c2 :: c3 :: c4 :: R := by
  subst h
  simp [List.set_append_right]
theorem rowsBd_mark (zs : List Bd) (j : Nat) (x : Bd) (hx : zs[j]? = some x) (v0 : ByteArray) (v1 : Int) (v2 : Int) (v3 : Int) (v4 : Int) :
    ((((((rowsBd zs).set (j * 6) (.string v0)).set (j * 6 + 1) (.int .i64 v1)).set (j * 6 + 2) (.int .i64 v2)).set (j * 6 + 3) (.int .i64 v3)).set (j * 6 + 4) (.int .i64 v4)) = rowsBd (zs.set j ⟨⟨v0, v1, v2, v3, v4, x.d.pr⟩, x.prA, x.prc⟩) := by
  obtain ⟨hl, rfl⟩ := List.getElem?_eq_some_iff.1 hx
  have e1 : rowsBd zs = rowsBd (zs.take j) ++ .string zs[j].d.id :: .int .i64 zs[j].d.nd :: .int .i64 zs[j].d.ba :: .int .i64 zs[j].d.sl :: .int .i64 zs[j].d.li :: (.slice zs[j].prA zs[j].d.pr.length zs[j].prc :: rowsBd (zs.drop (j + 1))) := by
    have e0 : rowsBd zs = rowsBd (zs.take j ++ zs.drop j) := by rw [List.take_append_drop]
    rw [e0, rowsBd_append, List.drop_eq_getElem_cons hl, rowsBd_cons]
    rfl
  have e2 : ∀ y, zs.set j y = zs.take j ++ y :: zs.drop (j + 1) := fun y => by rw [List.set_eq_take_append_cons_drop, if_pos hl]
  rw [e2, rowsBd_append, rowsBd_cons, e1, setMBd _ _ _ (by rw [rowsBd_length, List.length_take]; omega)]
  rfl
theorem ownsKBd {w w' : World} {base : Nat} {E : TypeId} {A : Option Addr} {n c : Nat} {vs : List Value} (h : w.ownsRow base E 6 (.slice A n c) n vs) (hb : Below w.heap.size w w') : w'.ownsRow base E 6 (.slice A n c) n vs := by
  refine h.kept (row := none) ⟨hb.os, hb.tape, hb.output, hb.size, fun k hk _ => hb.block k (by omega)⟩ ?_
  cases A with
  | none => exact .inl rfl
  | some a => exact .inr (by simp [Value.ownBlock])
theorem markBds_any (A : Option Addr) (n c : Nat) (ys : List Bd) (g0 lo hi : Nat) (k : Int) (w : World) (hk0 : 0 ≤ k) (hk1 : k ≤ 1099511627776) (hn : n ≤ 1048576) (hl : ys.length = n) (hS : ∀ y ∈ ys, y.d.pr.length ≤ 1048576) (hR : w.ownsRow g0 40 6 (.slice A n c) n (rowsBd ys)) (hO : OwnBds w lo hi ys) (hA : LiesIn lo A) (hAh : LiesIn hi A) (hg0 : g0 ≤ lo) :
    Calls Try.prog 43 #[.slice A n c, .int .i64 k] w fun e w' => ∃ r : Int, e = .returned (.int .i64 r) ∧ 0 ≤ r ∧ r ≤ k + n * 2000000 ∧ WrBd w w' g0 hi := by
  subst hl
  have hm : ys.length ≤ 9223372036854775807 := by omega
  by_cases h0 : 0 < ys.length
  rotate_left
  · have e : ys.length = 0 := by omega
    rw [e]
    go_enter Try.func43, Try.ntmps43
    go_wp2
    go_loopw [1, 5] (fun m i wr => m = .int .i64 k ∧ i = .int .i64 0 ∧ w = wr) (fun _ _ _ => 0)
    case atStart => exact ⟨rfl, rfl, rfl⟩
    case round =>
      obtain ⟨rfl, rfl, rfl⟩ := hrel
      go_wp2
      go_ret
      exact ⟨k, rfl, hk0, by omega, WrBd.refl _ _ _⟩
  obtain ⟨g, rfl⟩ : ∃ g, A = some ⟨g, 0, none⟩ := by
    rcases hR.2 with ⟨hv, hn⟩ | ⟨g, cap, cur, hv, _⟩
    · omega
    · injection hv with hA; exact ⟨g, hA⟩
  have hg1 : g0 ≤ g := (hR.lt g rfl).1
  have hg2 : g < lo := hA g 0 rfl
  have HS := Lib.hid hS
  have HP := Lib.hid hO.2
  have HB := Lib.hid (fun (y : Bd) (hy : y ∈ ys) => (hO.1 y hy))
  have HGL := Lib.hid (And.intro hg1 hg2)
  have HGH := Lib.hid (hAh g 0 rfl)
  clear hS hO hA hAh
  go_enter Try.func43, Try.ntmps43
  go_wp2
  go_loopw [1, 5] (fun v i wr => ∃ (j : Nat) (s : Int) (zs : List Bd), j ≤ ys.length ∧ v = .int .i64 s ∧ i = .int .i64 j ∧ 0 ≤ s ∧ s ≤ k + j * 2000000 ∧ WrBd w wr g0 hi ∧ wr.ownsRow g0 40 6 (.slice (some ⟨g, 0, none⟩) ys.length c) ys.length (rowsBd zs) ∧ Hid (zs.length = ys.length ∧ (∀ i, j ≤ i → zs[i]? = ys[i]?) ∧ ∀ (i : Nat) (x : Bd), j ≤ i → ys[i]? = some x → wr.ownsRow lo 2 1 (.slice x.prA x.d.pr.length x.prc) x.d.pr.length (intsV x.d.pr))) (fun _ i _ => ys.length - (intOf i).toNat)
  case atStart => exact ⟨0, k, ys, Nat.zero_le _, rfl, rfl, hk0, by omega, WrBd.refl _ _ _, hR, Lib.hid ⟨rfl, fun _ _ => rfl, fun i x _ hx => (HB.out x (List.mem_of_getElem? hx)).1⟩⟩
  case round =>
    clear hR
    obtain ⟨j, s, zs, hj, rfl, rfl, s0, s1, hW, hro, HR⟩ := hrel
    by_cases hlt : j < ys.length
    · have hp := List.getElem?_eq_getElem hlt
      have hpz : zs[j]? = some ys[j] := (HR.out.2.1 j (Nat.le_refl _)).trans hp
      have ho := HR.out.2.2 j _ (Nat.le_refl _) hp
      have hl := HS.out _ (List.mem_of_getElem? hp)
      have hbk := HB.out _ (List.mem_of_getElem? hp)
      have HNX := Lib.hid (show ∀ (i : Nat) (x : Bd), j + 1 ≤ i → ys[i]? = some x → ∀ a b, ys[j].blk = some a → x.blk = some b → a < b from fun i x hi hx => by
        obtain ⟨hil, rfl⟩ := List.getElem?_eq_some_iff.1 hx
        exact (List.pairwise_iff_getElem.1 HP.out) j i hlt hil (by omega))
      generalize ys[j] = x at *
      have HBK := Lib.hid hbk
      have HPZ := Lib.hid hpz
      clear hp hpz hbk
      go_wp2_with fail
      refine (markText_any s _ (by omega)).mono ?_
      rintro e w1 ⟨rfl, hbt⟩
      have hgr1 := grown_below (grown_refl wr (some g)) hbt
      have hro1 := ownsKBd hro hbt
      have ho1 := owns_below ho hbt (Nat.le_refl _)
      have hP : BdO w1 g (j * 6) x := BdO.of_cells fun q hq => (hro1.cellAt (j * 6 + q) (by omega)).trans (rowsBd_at zs j x HPZ.out q hq)
      have ⟨c0, c1, c2, c3, c4, c5⟩ := hP
      have f0 := hro1.frozenAt (j * 6)
      have f1 := hro1.frozenAt (j * 6 + 1)
      have f2 := hro1.frozenAt (j * 6 + 2)
      have f3 := hro1.frozenAt (j * 6 + 3)
      have f4 := hro1.frozenAt (j * 6 + 4)
      have f5 := hro1.frozenAt (j * 6 + 5)
      have hst := (((((hro1.stored (j * 6) (.string (mText s))).1.stored (j * 6 + 1) (.int .i64 (s + 1))).1.stored (j * 6 + 2) (.int .i64 (s + 1 + 1))).1.stored (j * 6 + 3) (.int .i64 (s + 1 + 1 + 1))).1.stored (j * 6 + 4) (.int .i64 (s + 1 + 1 + 1 + 1))).1
      rw [rowsBd_mark zs j x HPZ.out] at hst
      have ho2 := (owns_set_low (owns_set_low (owns_set_low (owns_set_low (owns_set_low ho1 (a := ⟨g, j * 6, none⟩) HGL.out.2 (.string (mText s))) (a := ⟨g, j * 6 + 1, none⟩) HGL.out.2 (.int .i64 (s + 1))) (a := ⟨g, j * 6 + 2, none⟩) HGL.out.2 (.int .i64 (s + 1 + 1))) (a := ⟨g, j * 6 + 3, none⟩) HGL.out.2 (.int .i64 (s + 1 + 1 + 1))) (a := ⟨g, j * 6 + 4, none⟩) HGL.out.2 (.int .i64 (s + 1 + 1 + 1 + 1)))
      have Hst := Lib.hid hst
      have HO2 := Lib.hid ho2
      have hgr2 := (grown_set (grown_set (grown_set (grown_set (grown_set hgr1 (j * 6) none (.string (mText s))) (j * 6 + 1) none (.int .i64 (s + 1))) (j * 6 + 2) none (.int .i64 (s + 1 + 1))) (j * 6 + 3) none (.int .i64 (s + 1 + 1 + 1))) (j * 6 + 4) none (.int .i64 (s + 1 + 1 + 1 + 1)))
      have HGR := Lib.hid hgr2
      have HW := Lib.hid hW
      have c9 := hst.cellAt (j * 6 + 5) (by omega)
      rw [rowsBd_at (zs.set j _) j _ (by rw [List.getElem?_set_self (by rw [HR.out.1]; omega)]) 5 (by omega)] at c9
      have C9 := Lib.hid c9
      have hl' : (x.d.pr.length : Int) ≤ 1048576 := by omega
      have HRL := Lib.hid (show ∀ (i : Nat) (y : Bd), j + 1 ≤ i → ys[i]? = some y → World.ownsRow ((((((w1.setCell ⟨g, j * 6, none⟩ (.string (mText s))).setCell ⟨g, j * 6 + 1, none⟩ (.int .i64 (s + 1))).setCell ⟨g, j * 6 + 2, none⟩ (.int .i64 (s + 1 + 1))).setCell ⟨g, j * 6 + 3, none⟩ (.int .i64 (s + 1 + 1 + 1))).setCell ⟨g, j * 6 + 4, none⟩ (.int .i64 (s + 1 + 1 + 1 + 1)))) lo 2 1 (.slice y.prA y.d.pr.length y.prc) y.d.pr.length (intsV y.d.pr) from fun i y hi hy => (owns_set_low (owns_set_low (owns_set_low (owns_set_low (owns_set_low (owns_below (HR.out.2.2 i y (by omega) hy) hbt (Nat.le_refl _)) (a := ⟨g, j * 6, none⟩) HGL.out.2 (.string (mText s))) (a := ⟨g, j * 6 + 1, none⟩) HGL.out.2 (.int .i64 (s + 1))) (a := ⟨g, j * 6 + 2, none⟩) HGL.out.2 (.int .i64 (s + 1 + 1))) (a := ⟨g, j * 6 + 3, none⟩) HGL.out.2 (.int .i64 (s + 1 + 1 + 1))) (a := ⟨g, j * 6 + 4, none⟩) HGL.out.2 (.int .i64 (s + 1 + 1 + 1 + 1))))
      have hjb : s + 5 + x.d.pr.length ≤ k + ((j + 1 : Nat) : Int) * 2000000 := by omega
      have HJB := Lib.hid hjb
      clear hjb
      clear hst ho2 hgr2 hgr1 hro hro1 ho ho1 hbt hP hW c9
      go_wp2_with fail
      refine (markInts_any x.prA x.prc x.d.pr.length lo _ (s + 1 + 1 + 1 + 1 + 1) _ (by omega) (by omega) HO2.out).mono ?_
      rintro e w6 ⟨rfl, -, hg⟩
      have hne : (Value.slice (some ⟨g, 0, none⟩) ys.length c).ownBlock ≠ x.blk := fun e => by
        have e2 : x.blk = some g := by rw [← e]; rfl
        have := (HBK.out.1.lt g e2).1
        have := HGL.out.2
        omega
      have hro2 := Hst.out.kept hg (.inr hne)
      have hW2 := (HW.out.grown HGR.out (fun q hq => by
        injection hq with hq
        subst hq
        exact ⟨HGL.out.1, HGH.out⟩)).grown hg (fun q hq => ⟨Nat.le_trans hg0 (HBK.out.1.lt q hq).1, HBK.out.2 q hq⟩)
      have HR2 := Lib.hid (show ∀ (i : Nat) (y : Bd), j + 1 ≤ i → ys[i]? = some y → w6.ownsRow lo 2 1 (.slice y.prA y.d.pr.length y.prc) y.d.pr.length (intsV y.d.pr) from fun i y hi hy => by
        refine (HRL.out i y hi hy).kept hg ?_
        cases hq : y.blk with
        | none => exact .inl hq
        | some q =>
          refine .inr fun e => ?_
          have e1 : x.blk = some q := by rw [← hq]; exact e.symm
          have := HNX.out i y hi hy q q e1 hq
          omega)
      have HZ := Lib.hid (show (zs.set j ⟨⟨mText s, s + 1, s + 1 + 1, s + 1 + 1 + 1, s + 1 + 1 + 1 + 1, x.d.pr⟩, x.prA, x.prc⟩).length = ys.length ∧ ∀ i, j + 1 ≤ i → (zs.set j ⟨⟨mText s, s + 1, s + 1 + 1, s + 1 + 1 + 1, s + 1 + 1 + 1 + 1, x.d.pr⟩, x.prA, x.prc⟩)[i]? = ys[i]? from ⟨by rw [List.length_set]; exact HR.out.1, fun i hi => by rw [List.getElem?_set_ne (by omega)]; exact HR.out.2.1 i (by omega)⟩)
      have hr0 : 0 ≤ s + 1 + 1 + 1 + 1 + 1 + (x.d.pr.length : Int) := by omega
      have HRO := Lib.hid hro2
      have HWW := Lib.hid hW2
      clear hg hne hro2 hW2 c0 c1 c2 c3 c4 c5
      go_wp2
      go_roundw
      case rel => exact ⟨j + 1, _, _, by omega, rfl, by go_num, hr0, by have := HJB.out; omega, HWW.out, HRO.out, Lib.hid ⟨HZ.out.1, HZ.out.2, HR2.out⟩⟩
      case measure => simp [intOf]; omega
    · have e : j = ys.length := by omega
      subst e
      go_wp2
      go_ret
      exact ⟨s, rfl, s0, s1, hW⟩
theorem copyOwnBds (A : Option Addr) (n c : Nat) (xs : List Bd) (w : World) (h : BdsOk w A n xs) :
    Calls Try.prog 28 #[.slice A n c] w fun e w' => ∃ A' c' ys lo, e = .returned (.slice A' n c') ∧ ys.map Bd.d = xs.map Bd.d ∧ w.heap.size ≤ lo ∧ LiesIn lo A' ∧ LiesIn w'.heap.size A' ∧ w'.ownsRow w.heap.size 40 6 (.slice A' n c') n (rowsBd ys) ∧ OwnBds w' lo w'.heap.size ys ∧ BdsOk w' A' n ys ∧ Below w.heap.size w w' := by
  obtain ⟨hI, hn, hs⟩ := h
  have hl := hI.1
  refine (toBds_any A n c xs w hn hI hs).mono ?_
  rintro e w' ⟨A', c', ys, lo, rfl, hd, ho, hlo, hA, how, hb⟩
  rw [hl] at ho
  have hly : ys.length = n := by have := congrArg List.length hd; simp at this; omega
  refine ⟨A', c', ys, lo, by rw [hl], hd, hlo, hA, (fun b off e => (ho.lt b (by rw [e]; rfl)).2), ho, how, ⟨⟨hly, hI.2.1, pcells_ofBd ho, how.fine hd hI.2.2.2⟩, hn, fun y hy => ?_⟩, hb⟩
  have hm : y.d ∈ xs.map Bd.d := by rw [← hd]; exact List.mem_map.2 ⟨y, hy, rfl⟩
  obtain ⟨x, hx1, hx2⟩ := List.mem_map.1 hm
  rw [← hx2]
  exact hs x hx1
theorem copyOwnBd (x : Bd) (w : World) (h : x.okay w) :
    Calls Try.prog 32 #[.agg #[.string x.d.id, .int .i64 x.d.nd, .int .i64 x.d.ba, .int .i64 x.d.sl, .int .i64 x.d.li, .slice x.prA x.d.pr.length x.prc]] w fun e w' => ∃ y : Bd, y.d = x.d ∧ e = .returned (.agg #[.string y.d.id, .int .i64 y.d.nd, .int .i64 y.d.ba, .int .i64 y.d.sl, .int .i64 y.d.li, .slice y.prA y.d.pr.length y.prc]) ∧ w'.ownsRow w.heap.size 2 1 (.slice y.prA y.d.pr.length y.prc) y.d.pr.length (intsV y.d.pr) ∧ y.okay w' ∧ Below w.heap.size w w' := by
  refine (toBd_any x w h.1 h.2).mono ?_
  rintro e w' ⟨y, hd, rfl, o, hb⟩
  exact ⟨y, hd, rfl, o, ⟨⟨by rw [hd]; exact h.1.1, rfl, owns_max o, owns_cells o, by rw [hd]; exact h.1.2.2.2.2⟩, by rw [hd]; exact h.2⟩, hb⟩
end Go.Proofs.Ytnepehdfkaegbaa
