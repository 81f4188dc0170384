/-
  A pump at another speed: the program stores its points in place.
-/
import Derived.Test.YtkbkmpcdidhagabPu5
import Derived.Test.YtkbkmpcdidhagabA2
import Derived.Test.YtkbkmpcdidhagabQt
namespace Go.Proofs.Ytkbkmpcdidhagab
open Go.ChangeShapes Go.WideShapes Go.ChangeAt Go.RowKit Go.Shelf

set_option maxRecDepth 100000
set_option maxHeartbeats 1600000
set_option linter.unusedVariables false

/-- a point at another speed -/
def slP (th : Int) (p : Int × Int) : Int × Int := (nearI (p.1 * th) 1000, nearI (p.2 * th * th) 1000000)
theorem PmpO.setOther {w : World} {b : Nat} {id : ByteArray} {v : Value} (h : w.cell? ⟨b, 0, none⟩ = some (.string id) ∧ w.cell? ⟨b, 1, none⟩ = some v) (b' o' : Nat) (u : Value) (hne : b ≠ b') :
    (w.setCell ⟨b', o', none⟩ u).cell? ⟨b, 0, none⟩ = some (.string id) ∧ (w.setCell ⟨b', o', none⟩ u).cell? ⟨b, 1, none⟩ = some v := by
  have k := Below.heap_setCell w ⟨b', o', none⟩ u b hne
  unfold World.cell? at h ⊢
  rw [k]
  exact h
theorem mul_bdV {a b A B : Int} (a0 : 0 ≤ a) (a1 : a ≤ A) (b0 : 0 ≤ b) (b1 : b ≤ B) : 0 ≤ a * b ∧ a * b ≤ A * B :=
  ⟨Int.mul_nonneg a0 b0, Int.mul_le_mul a1 b1 b0 (by omega)⟩
theorem setSpeed_any (b : Nat) (id : ByteArray) (B : Option Addr) (d base : Nat) (ps : List (Int × Int)) (th : Int) (w : World) (hO : PmpO w b id B d ps) (ho : w.ownsRow base 90 2 (.slice B ps.length d) ps.length (rowsF ptCs ps))
    (hne : ∀ k, (Value.slice B ps.length d).ownBlock = some k → k ≠ b) (hps : ∀ i, i < ps.length → (0 ≤ (ptAt ps i).1 ∧ (ptAt ps i).1 ≤ 100000) ∧ (0 ≤ (ptAt ps i).2 ∧ (ptAt ps i).2 ≤ 2000000)) (h8 : ps.length ≤ 1048576) (hth : 100 ≤ th ∧ th ≤ 1200) (hbase : base ≤ w.heap.size) :
    Calls Try.prog 68 #[.pointer (some ⟨b, 0, none⟩), .int .i64 th] w fun e w' => e = .returned (.tuple #[]) ∧ PmpO w' b id B d (ps.map (slP th)) ∧ w'.ownsRow base 90 2 (.slice B ps.length d) ps.length (rowsF ptCs (ps.map (slP th))) ∧ Below base w w' := by
  have hX : (rowsF ptCs ps).length = ps.length * 2 := by rw [rowsF_length ptCsL]
  have hus : ∀ k, k < ps.length → (rowsF ptCs ps)[k * 2]? = some (.int .i64 (ptAt ps k).1) ∧ (rowsF ptCs ps)[k * 2 + 1]? = some (.int .i64 (ptAt ps k).2) := by
    intro k hk
    exact ⟨rowsF_at ptCsL ps k _ (ptAt_some ps k hk) 0 (by omega), rowsF_at ptCsL ps k _ (ptAt_some ps k hk) 1 (by omega)⟩
  have hget : ∀ k, k ≤ ps.length → ∀ j, k * 2 ≤ j → (fillF ptCs 2 ((ps.map (slP th)).take k) (rowsF ptCs ps))[j]? = (rowsF ptCs ps)[j]? := by
    intro k hk j hj
    have hl : ((ps.map (slP th)).take k).length = k := by rw [List.length_take, List.length_map]; omega
    unfold fillF
    rw [List.getElem?_append_right (by rw [rowsF_length ptCsL, hl]; exact hj), rowsF_length ptCsL, hl, List.getElem?_drop]
    congr 1
    omega
  have HX := Lib.hid hX
  have HUS := Lib.hid hus
  have HGET := Lib.hid hget
  have HPS := Lib.hid hps
  have hB0 : Below base w w := Below.refl _ _
  have HNE := Lib.hid hne
  have hFA : Hid (∀ us : List Value, us.length = ps.length * 2 → fillF ptCs 2 (ps.map (slP th)) us = rowsF ptCs (ps.map (slP th))) := Lib.hid fun us h => fillF_all ptCsL _ us (by rw [List.length_map]; exact h)
  have ho0 : w.ownsRow base 90 2 (.slice B ps.length d) ps.length (fillF ptCs 2 ((ps.map (slP th)).take 0) (rowsF ptCs ps)) := by rw [List.take_zero, fillF_nil]; exact ho
  have hO0 : w.cell? ⟨b, 0, none⟩ = some (.string id) ∧ w.cell? ⟨b, 1, none⟩ = some (.slice B ps.length d) := hO
  have hOW := Lib.hid hO0
  have ⟨n0, n1⟩ := hO0
  have hOF := Lib.hid ho0
  generalize rowsF ptCs ps = us at *
  clear hX hus hget hps hne hO ho hO0 ho0
  go_enter Try.func68, Try.ntmps68
  go_wp2_with fail
  go_loopw [11] (fun i wr => ∃ k : Nat, k ≤ ps.length ∧ i = .int .i64 k ∧ Hid (wr.cell? ⟨b, 0, none⟩ = some (.string id) ∧ wr.cell? ⟨b, 1, none⟩ = some (.slice B ps.length d)) ∧ wr.ownsRow base 90 2 (.slice B ps.length d) ps.length (fillF ptCs 2 ((ps.map (slP th)).take k) us) ∧ Below base w wr) (fun i _ => ps.length - (intOf i).toNat)
  case atStart => exact ⟨0, Nat.zero_le _, rfl, hOW, hOF.out, hB0⟩
  case round =>
    clear n0 n1 hB0
    obtain ⟨k, hk, rfl, HQ, hro, hb⟩ := hrel
    by_cases hlt : k < ps.length
    · obtain ⟨g, hbg, rfl⟩ : ∃ g, base ≤ g ∧ B = some ⟨g, 0, none⟩ := by
        rcases hro.2 with ⟨_, h⟩ | ⟨g, cap, cur, hv, hg0, _⟩
        · omega
        · injection hv with h1 h2 h3
          exact ⟨_, hg0, h1⟩
      have hgb : b ≠ g := fun e => HNE.out g rfl e.symm
      have hT : Hid ((ps.map (slP th)).take (k + 1) = (ps.map (slP th)).take k ++ [slP th (ptAt ps k)]) := Lib.hid (by rw [List.take_add_one, List.getElem?_map, ptAt_some ps k hlt]; rfl)
      have hkl : ((ps.map (slP th)).take k).length = k := by rw [List.length_take, List.length_map]; omega
      have hxb := HPS.out k hlt
      have hu := HUS.out k hlt
      have g0 := (HGET.out k hk (k * 2) (Nat.le_refl _)).trans hu.1
      have g1 := (HGET.out k hk (k * 2 + 1) (by omega)).trans hu.2
      have hfs := fillF_set ptCsL ((ps.map (slP th)).take k) us (slP th (ptAt ps k)) (by rw [HX.out, hkl]; omega)
      rw [hkl, ← hT.out] at hfs
      generalize ptAt ps k = x at *
      obtain ⟨x1, x2⟩ := x
      have hxl : (0 ≤ x1 ∧ x1 ≤ 100000) ∧ (0 ≤ x2 ∧ x2 ≤ 2000000) := hxb
      have hm1 := mul_bdV hxl.1.1 hxl.1.2 (show (0 : Int) ≤ th by omega) hth.2
      have hm2 := mul_bdV hxl.2.1 hxl.2.2 (show (0 : Int) ≤ th by omega) hth.2
      have hm3 := mul_bdV hm2.1 hm2.2 (show (0 : Int) ≤ th by omega) hth.2
      have hw1 : IntKind.i64.wrap (x1 * th) = x1 * th := IntWalk.i64_in _ (by omega)
      have hw2 : IntKind.i64.wrap (x2 * th) = x2 * th := IntWalk.i64_in _ (by omega)
      have hw3 : IntKind.i64.wrap (x2 * th * th) = x2 * th * th := IntWalk.i64_in _ (by omega)
      have HN1 := Lib.hid (fun wx => nearest_any (x1 * th) 1000 wx (by omega) (by omega) (by omega) (by omega) (by omega))
      have HN2 := Lib.hid (fun wx => nearest_any (x2 * th * th) 1000000 wx (by omega) (by omega) (by omega) (by omega) (by omega))
      have hfs : ((fillF ptCs 2 ((ps.map (slP th)).take k) us).set (k * 2) (.int .i64 (nearI (x1 * th) 1000))).set (k * 2 + 1) (.int .i64 (nearI (x2 * th * th) 1000000)) = fillF ptCs 2 ((ps.map (slP th)).take (k + 1)) us := hfs
      have HFS := Lib.hid hfs
      have HG0 := Lib.hid g0
      have HG1 := Lib.hid g1
      generalize nearI (x1 * th) 1000 = y1 at *
      generalize nearI (x2 * th * th) 1000000 = y2 at *
      have c0 := (hro.cellAt (k * 2) (by omega)).trans g0
      have c1 := (hro.cellAt (k * 2 + 1) (by omega)).trans g1
      have hgl : g < wr.heap.size := (hro.lt g rfl).2
      have hbl : b < wr.heap.size := World.block_lt_of_cell? _ _ HQ.out.1
      have ⟨q0, q1⟩ := HQ.out
      have HRO := Lib.hid hro
      have HB := Lib.hid hb
      clear hfs hro hb g0 g1 hu hxb hm1 hm2 hm3 hxl q0
      go_wp2_with fail
      have hba : Below wr.heap.size wr (wr.alloc (.cells #[.int .i64 x1, .int .i64 x2] 90)) := bal (Below.refl _ _) _
      have hX0 := PtO.new wr (x1, x2) 90
      have HQ0 : Hid ((wr.alloc (.cells #[.int .i64 x1, .int .i64 x2] 90)).cell? ⟨b, 0, none⟩ = some (.string id) ∧ (wr.alloc (.cells #[.int .i64 x1, .int .i64 x2] 90)).cell? ⟨b, 1, none⟩ = some (.slice (some ⟨g, 0, none⟩) ps.length d)) := Lib.hid ⟨(hba.cell (p := ⟨b, 0, none⟩) hbl).trans HQ.out.1, (hba.cell (p := ⟨b, 1, none⟩) hbl).trans HQ.out.2⟩
      have HRO0 := Lib.hid (rowsF_below HRO.out hba (Nat.le_refl _))
      have HB0 := Lib.hid (HB.out.alloc (show base ≤ wr.heap.size by omega) (.cells #[.int .i64 x1, .int .i64 x2] 90))
      clear hba c0 c1 q1
      generalize wr.alloc (.cells #[.int .i64 x1, .int .i64 x2] 90) = W0 at *
      obtain ⟨x0, x9⟩ : W0.cell? ⟨wr.heap.size, 0, none⟩ = some (.int .i64 x1) ∧ W0.cell? ⟨wr.heap.size, 1, none⟩ = some (.int .i64 x2) := hX0
      have ⟨q0, q1⟩ := HQ0.out
      refine quiet_tail 10 (by kernel_rfl) (by kernel_rfl) ?_
      simp only [List.take_succ_cons, List.take_zero, List.drop_succ_cons, List.drop_zero]
      go_simp
      repeat (go_big_quiet_step ((go_at_call 77; exact quiet_drawn (HN1.out _))))
      refine wpQuiet_nil ?_
      intro nq
      have hro1 := rowsF_below HRO0.out (below_drewN (Below.refl W0.heap.size W0) nq) (Nat.le_refl _)
      have c0 := (hro1.cellAt (k * 2) (by omega)).trans HG0.out
      have f0 := hro1.frozenAt (k * 2)
      have hst1 := (hro1.stored (k * 2) (.int .i64 y1)).1
      have HST1 := Lib.hid hst1
      have hQ1 := PmpO.setOther (w := W0.drewN nq) HQ0.out g (k * 2) (.int .i64 y1) hgb
      have HQ1 := Lib.hid hQ1
      have hX1 : ((W0.drewN nq).setCell ⟨g, k * 2, none⟩ (.int .i64 y1)).cell? ⟨wr.heap.size, 1, none⟩ = some (.int .i64 x2) := by
        have kk := Below.heap_setCell (W0.drewN nq) ⟨g, k * 2, none⟩ (.int .i64 y1) wr.heap.size (show wr.heap.size ≠ g by omega)
        have e : W0.cell? ⟨wr.heap.size, 1, none⟩ = some (.int .i64 x2) := x9
        unfold World.cell? at e ⊢
        rw [kk]
        exact e
      have HX1 := Lib.hid hX1
      have HB1 := Lib.hid ((below_drewN HB0.out nq).setCell (p := ⟨g, k * 2, none⟩) hbg (.int .i64 y1))
      clear hst1 hro1 hQ1 hX1 x0 x9 q0 q1
      go_wp2_with fail
      clear c0 f0
      generalize (W0.drewN nq).setCell ⟨g, k * 2, none⟩ (.int .i64 y1) = W1 at *
      have ⟨q0, q1⟩ := HQ1.out
      have x9 := HX1.out
      refine quiet_tail 12 (by kernel_rfl) (by kernel_rfl) ?_
      simp only [List.take_succ_cons, List.take_zero, List.drop_succ_cons, List.drop_zero]
      go_simp
      repeat (go_big_quiet_step ((go_at_call 77; exact quiet_drawn (HN2.out _))))
      refine wpQuiet_nil ?_
      intro nr
      have hro2 := rowsF_below HST1.out (below_drewN (Below.refl W1.heap.size W1) nr) (Nat.le_refl _)
      have c1 := (hro2.cellAt (k * 2 + 1) (by omega)).trans ((List.getElem?_set_ne (show k * 2 ≠ k * 2 + 1 by omega)).trans HG1.out)
      have f1 := hro2.frozenAt (k * 2 + 1)
      have hst2 := (hro2.stored (k * 2 + 1) (.int .i64 y2)).1
      rw [HFS.out] at hst2
      have HST2 := Lib.hid hst2
      have HQ2 := Lib.hid (PmpO.setOther (w := W1.drewN nr) HQ1.out g (k * 2 + 1) (.int .i64 y2) hgb)
      have HB2 := Lib.hid ((below_drewN HB1.out nr).setCell (p := ⟨g, k * 2 + 1, none⟩) hbg (.int .i64 y2))
      clear hst2 hro2 x9 q0 q1
      go_wp2
      go_roundw
      case rel => exact ⟨k + 1, by omega, by go_num, HQ2, HST2.out, HB2.out⟩
      case measure => simp [intOf]; omega
    · obtain rfl : k = ps.length := by omega
      rw [List.take_of_length_le (by rw [List.length_map]; exact Nat.le_refl _), hFA.out us HX.out] at hro
      have HRO := Lib.hid hro
      have HB := Lib.hid hb
      clear hro hb
      go_wp2
      go_end0
      exact ⟨rfl, ⟨HQ.out.1, by rw [List.length_map]; exact HQ.out.2⟩, HRO.out, HB.out⟩

end Go.Proofs.Ytkbkmpcdidhagab
