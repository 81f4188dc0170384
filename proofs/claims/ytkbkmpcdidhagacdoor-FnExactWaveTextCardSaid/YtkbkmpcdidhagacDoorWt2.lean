/-
  WaveText: both sides.
-/
import Derived.Test.YtkbkmpcdidhagacDoorWt1
namespace Go.Proofs.YtkbkmpcdidhagacDoor
open Go.ChangeShapes Go.WideShapes Go.ChangeAt Go.RowKit Go.Shelf

set_option maxRecDepth 100000
set_option linter.unusedVariables false

theorem spPoint_any (x : Sp) (w : World) :
    Calls Tryd.prog 19 #[.agg #[.int .i64 x.t, .int .i64 x.d]] w fun e w' => e = .returned (.agg #[.int .i64 (spPt x).1, .int .i64 (spPt x).2]) ∧ Below w.heap.size w w' := by
  let W1 := w.alloc (.cells #[.int .i64 x.t, .int .i64 x.d] 35)
  have e0 : (W1.alloc (.cells #[.int .i64 0, .int .i64 0] 42)).cell? ⟨w.heap.size, 0, none⟩ = some (.int .i64 x.t) := ((SpO.new w x 35).alloc (.cells #[.int .i64 0, .int .i64 0] 42)).1
  have e1 : (W1.alloc (.cells #[.int .i64 0, .int .i64 0] 42)).cell? ⟨w.heap.size, 1, none⟩ = some (.int .i64 x.d) := by
    have := ((SpO.new w x 35).alloc (.cells #[.int .i64 0, .int .i64 0] 42)).2
    rw [Nat.zero_add] at this
    exact this
  dsimp only [W1] at e0 e1
  clear W1
  go_enter Tryd.func19, Tryd.ntmps19
  go_wp2
  exact bodyPost_ret (results_cell_row Tryd.results19 _ _ (w.heap.size + 1) 42 #[.int .i64 x.t, .int .i64 x.d] (0, 0) _ rfl (by
      have := heap_alloc_new (w.alloc (.cells #[.int .i64 x.t, .int .i64 x.d] 35)) (.cells #[.int .i64 x.t, .int .i64 x.d] 42)
      rw [World.size_alloc] at this
      exact this) Tryd.underlying42 rfl (by kernel_rfl)) rfl ⟨rfl, bal (bal (Below.refl _ _) _) _⟩
theorem infoPt : (Tryd.prog.info? 42).map (fun i => (i.zero, i.size, i.bytes)) = some (some (.agg #[.int .i64 0, .int .i64 0]), 2, 16) := by kernel_rfl
def RetPts (ps : List (Int × Int)) (w : World) (e : Ending) (w' : World) : Prop :=
  ∃ A c, e = .returned (.slice A ps.length c) ∧ w'.ownsRow w.heap.size 42 2 (.slice A ps.length c) ps.length (rowsF ptCs ps) ∧ Below w.heap.size w w'
theorem owns2_cells {w : World} {base : Nat} {E : TypeId} {A : Option Addr} {n c : Nat} {vs : List Value} (h : w.ownsRow base E 2 (.slice A n c) n vs) : CellsAt w A vs := by
  intro hp
  rcases h.2 with ⟨hv, hn⟩ | ⟨g, cap, cur, hv, _, hg, _⟩
  · have := h.1; omega
  · injection hv with hA
    subst hA
    exact ⟨g, 0, rfl, fun j hj => by rw [Nat.zero_add]; exact h.cellAt j (by have := h.1; omega)⟩
theorem convSpP_any (A : Option Addr) (n c : Nat) (xs : List Sp) (w : World) (h : SpsOk w A n xs) :
    Calls Tryd.prog 18 #[.slice A n c, .func (.func 19) #[] #[]] w (RetPts (xs.map spPt) w) := by
  have hn := h.2
  obtain rfl := h.1.1
  have HB := Lib.hid h.cells
  have hM : xs.length ≤ maxLen := by unfold maxLen; omega
  have hm : xs.length ≤ 9223372036854775807 := by omega
  obtain ⟨i0, hi, hz0, hz1, hz2⟩ := info_parts infoPt
  clear h
  go_enter Tryd.func18, Tryd.ntmps18
  go_wp2_with (refine wpList_make_full _ rfl _ _ _ rfl w.heap.size 42 i0 (.agg #[.int .i64 0, .int .i64 0]) 2 Tryd.underlying38 hi hz0 hz1 _ _ _ _ xs.length rfl rfl rfl rfl (by rw [hz2]; omega) hM (Nat.le_refl _) ?_; intro w1 hown hgrow)
  have hb1 := Below.grown (Below.refl w.heap.size w) hgrow (Nat.le_refl _) (fun k hk => by cases hk)
  have hl1 := hown.1
  generalize (madeCells (Value.agg #[.int .i64 0, .int .i64 0]).cells (xs.length * 2)).toList = us at *
  have HX := Lib.hid hl1
  clear hl1
  go_loopw [13] (fun i wr => ∃ k : Nat, k ≤ xs.length ∧ i = .int .i64 k ∧ wr.ownsRow w.heap.size 42 2 (.slice (some ⟨w.heap.size, 0, none⟩) xs.length xs.length) xs.length (fillF ptCs 2 ((xs.map spPt).take k) us) ∧ Below w.heap.size w wr) (fun i _ => xs.length - (intOf i).toNat)
  case atStart => exact ⟨0, Nat.zero_le _, rfl, by rw [List.take_zero, fillF_nil]; exact hown, hb1⟩
  case round =>
    obtain ⟨k, hk, rfl, hro, hb⟩ := hrel
    by_cases hlt : k < xs.length
    · obtain ⟨b, off, rfl, hrow⟩ := SpO.at (HB.out.next hb) (by omega)
      have hp := spAt_some xs k hlt
      have ⟨p0, p1⟩ := hrow k _ hp
      have hT : Hid ((xs.map spPt).take (k + 1) = (xs.map spPt).take k ++ [spPt (spAt xs k)]) := Lib.hid (by rw [List.take_add_one, List.getElem?_map, hp]; rfl)
      generalize spAt xs k = x at *
      have HC := Lib.hid (fun wx => spPoint_any x wx)
      clear hp hrow
      generalize spPt x = p at *
      go_wp2_with fail
      refine (HC.out _).mono ?_
      rintro e w1 ⟨rfl, hbt'⟩
      have hbt := bnext (bal (Below.refl _ _) (.cells #[.int .i64 x.t, .int .i64 x.d] 35) : Below wr.heap.size wr _) hbt'
      have hb2 := bnext hb hbt
      have hro1 := hro.kept (row := none) ⟨hbt.os, hbt.tape, hbt.output, hbt.size, fun k hk _ => hbt.block k hk⟩ (.inr (by simp [Value.ownBlock]))
      clear p0 p1 hro hb hbt hbt'
      have hkl : ((xs.map spPt).take k).length = k := by rw [List.length_take, List.length_map]; omega
      have hbig : ((xs.map spPt).take k).length * 2 + 2 ≤ us.length := by rw [HX.out, hkl]; omega
      obtain ⟨u0, hu0⟩ := fillF_at ptCsL ((xs.map spPt).take k) us hbig 0 (by omega)
      obtain ⟨u1, hu1⟩ := fillF_at ptCsL ((xs.map spPt).take k) us hbig 1 (by omega)
      rw [hkl] at hu0 hu1
      have c0 := (hro1.cellAt (k * 2) (by omega)).trans hu0
      have c1 := (hro1.cellAt (k * 2 + 1) (by omega)).trans hu1
      have f0 := hro1.frozenAt (k * 2)
      have f1 := hro1.frozenAt (k * 2 + 1)
      have hst := ((hro1.stored (k * 2) (.int .i64 p.1)).1.stored (k * 2 + 1) (.int .i64 p.2)).1
      have hfs := fillF_set ptCsL ((xs.map spPt).take k) us p hbig
      rw [hkl] at hfs
      rw [show ((fillF ptCs 2 ((xs.map spPt).take k) us).set (k * 2) (.int .i64 p.1)).set (k * 2 + 1) (.int .i64 p.2) = _ from hfs, ← hT.out] at hst
      have Hst := Lib.hid hst
      clear hst hro1 hbig hkl hfs hu0 hu1
      go_wp2
      go_roundw
      case rel => exact ⟨k + 1, by omega, by go_num, Hst.out, (hb2.setCell (Nat.le_refl _) _).setCell (Nat.le_refl _) _⟩
      case measure => simp [intOf]; omega
    · obtain rfl : k = xs.length := by omega
      rw [List.take_of_length_le (by rw [List.length_map]; exact Nat.le_refl _), fillF_all ptCsL _ us (by rw [List.length_map]; exact HX.out)] at hro
      have HFIN : Hid (RetPts (xs.map spPt) w (.returned (.slice (some ⟨w.heap.size, 0, none⟩) xs.length xs.length)) wr) := Lib.hid ⟨_, _, by rw [List.length_map], by rw [List.length_map]; exact hro, hb⟩
      go_wp2
      go_ret
      exact HFIN.out
theorem specWaveText_ds (A : Option Addr) (n c : Nat) (xs : List Sp) (w : World) (h : SpsOk w A n xs) :
    Calls Tryd.prog 6 #[.slice A n c] w fun e w' => e = .returned (.string (waveTextR0 xs)) ∧ Below w.heap.size w w' := by
  have HO := Lib.hid (l09Ok_any A n c xs w h)
  have HT := Lib.hid (fun (k : Nat) (ho : okW xs = true) => l09Text_any A n c xs (w.drewN k) (h.go (below_drewN (Below.refl _ _) k)) ho)
  have HR : Hid (waveTextR0 xs = _) := Lib.hid (by unfold waveTextR0; rfl)
  clear h
  by_cases ho : okW xs = true
  · have HT2 := Lib.hid (fun k => HT.out k ho)
    rw [ho, if_pos rfl] at HR
    rw [ho] at HO
    clear HT ho
    generalize spsT xs xs.length = s at *
    go_enter Tryd.func6, Tryd.ntmps6
    go_wp2_with fail
    refine HO.out.mono ?_
    rintro e w1 ⟨rfl, ⟨k, rfl⟩⟩
    go_wp2_with fail
    refine (HT2.out _).mono ?_
    rintro e w2 ⟨rfl, hb2⟩
    go_wp2
    go_ret
    exact ⟨by rw [HR.out]; rfl, bnext (below_drewN (Below.refl _ _) k) hb2⟩
  · have ho : okW xs = false := by simpa only [Bool.not_eq_true] using ho
    rw [ho, if_neg (by simp)] at HR
    rw [ho] at HO
    go_enter Tryd.func6, Tryd.ntmps6
    go_wp2_with fail
    refine HO.out.mono ?_
    rintro e w1 ⟨rfl, ⟨k, rfl⟩⟩
    go_wp2
    go_ret
    exact ⟨by rw [HR.out]; rfl, below_drewN (Below.refl _ _) k⟩
theorem implWaveText_ds (A : Option Addr) (n c : Nat) (xs : List Sp) (w : World) (h : SpsOk w A n xs) (ht : PowTab w) :
    Calls Tryd.prog 8 #[.slice A n c] w fun e w' => e = .returned (.string (waveTextR0 xs)) ∧ Below w.heap.size w w' := by
  have HO := Lib.hid (implVW_any A n c xs w h)
  have HR : Hid (waveTextR0 xs = _) := Lib.hid (by unfold waveTextR0; rfl)
  have HX := Lib.hid h
  have HT := Lib.hid ht
  by_cases ho : okW xs = true
  rotate_left
  · have ho : okW xs = false := by simpa only [Bool.not_eq_true] using ho
    rw [ho, if_neg (by simp)] at HR
    rw [ho] at HO
    clear h ht
    go_enter Tryd.func8, Tryd.ntmps8
    go_wp2_with fail
    refine HO.out.mono ?_
    rintro e w1 ⟨rfl, hb1⟩
    go_wp2
    go_ret
    exact ⟨by rw [HR.out]; rfl, hb1⟩
  have hk := okW_parts ho
  have hl := h.1.1
  have HEQ := Lib.hid (spsT_eq xs xs.length (Nat.le_refl _))
  have HIN : Hid (∀ i, i < (xs.map spPt).length → ptIn (ptAt (xs.map spPt) i) = true) := Lib.hid fun i hi => by
    rw [List.length_map] at hi
    have a := okW_one ho i hi
    rw [ptAt_get (by rw [List.getElem?_map, spAt_some xs i hi]; rfl)]
    exact spIn ⟨⟨a.1, a.2.1⟩, ⟨a.2.2.1, a.2.2.2⟩⟩
  have hlm : (xs.map spPt).length = xs.length := List.length_map _
  rw [ho, if_pos rfl] at HR
  rw [ho] at HO
  clear h ht ho
  go_enter Tryd.func8, Tryd.ntmps8
  go_wp2_with fail
  refine HO.out.mono ?_
  rintro e w1 ⟨rfl, hb1⟩
  go_wp2_with fail
  refine (convSpP_any A n c xs w1 (HX.out.go hb1)).mono ?_
  rintro e w2 ⟨B, d, rfl, hown, hb2⟩
  have hb := bnext hb1 hb2
  have hln : (xs.map spPt).length = n := by rw [hlm]; exact hl
  rw [hln] at hown
  have HPS := Lib.hid (pointsString_any B n d (xs.map spPt) w2 ⟨⟨hln, owns2_cells hown⟩, by omega⟩ (by omega) HIN.out (HT.out.next hb) (by omega))
  clear hown hb2
  go_wp2_with fail
  refine HPS.out.mono ?_
  rintro e w3 ⟨rfl, hb3⟩
  go_wp2
  go_ret
  exact ⟨by rw [HR.out, HEQ.out, hl]; rfl, bnext hb hb3⟩
end Go.Proofs.YtkbkmpcdidhagacDoor
