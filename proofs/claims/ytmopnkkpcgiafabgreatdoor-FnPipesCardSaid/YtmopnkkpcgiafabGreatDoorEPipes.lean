/-
  FnPipes: for every input the law returns true and its arguments read as before. No condition.
-/
import Derived.Test.YtmopnkkpcgiafabGreatDoorX2
import Derived.Test.YtmopnkkpcgiafabGreatDoorL1
import Derived.Deep.DeepCutAuto
import Derived.Test.YtmopnkkpcgiafabGreatDoorCards
import Derived.Test.YtmopnkkpcgiafabGreatDoorTie
import Derived.Test.YtmopnkkpcgiafabGreatDoorG0
import Derived.Deep.DeepHandedRow
import Derived.Deep.DeepWitnessRowRef
import Derived.LaidMore
import Derived.Lay
import Derived.Lib.LaidTab
import Derived.ShutString
import Derived.ChangeOld
namespace Go.Proofs.YtmopnkkpcgiafabGreatDoor.fnPipes
open Go.ChangeShapes Go.WideShapes Go.ChangeAt Go.RowKit
open Go.ChangeMaps (open_string shut_string)
set_option linter.unusedVariables false

def Facts (w : World) : Prop := MaxVar w ∧ ErrVars w ∧ PowTab w
theorem laid_facts {W : World} (h : laidMetH Tryz.prog Rows.fnPipesRow.laid W) (hS : W.ShapedOpen Tryz.prog) : Facts W := by
  rw [MakeChecks.laidMetH_plain _ _ _ (by kernel_rfl)] at h
  exact ⟨maxVar_shaped hS, errVars_laid h.tail.tail.tail.tail, powTab_laid h.tail.tail⟩
theorem Facts.next {w w' : World} (h : Facts w) (hb : Below w.heap.size w w') : Facts w' := ⟨h.1.next hb, h.2.1.next hb, h.2.2.next hb⟩
set_option maxRecDepth 100000
set_option maxHeartbeats 6400000

theorem walk (a0 : Option Addr) (len0 cap0 : Nat) (z0 : List Int) (a1 : Option Addr) (len1 cap1 : Nat) (z1 : List Int) (w : World) (w0 : SliceIn .u8 w a0 len0 z0) (w1 : SliceIn .u8 w a1 len1 z1) (hL : Facts w) :
    Calls Tryz.prog 5 #[.slice a0 len0 cap0, .slice a1 len1 cap1] w fun e w' => e = .returned (.bool true) ∧ Below w.heap.size w w' := by
  have w1a := w1
  clear w1
  have hn0 : len0 ≤ 9223372036854775807 := by have := w0.2.1; unfold maxLen at this; omega
  have hn1 : len1 ≤ 9223372036854775807 := by have := w1a.2.1; unfold maxLen at this; omega
  by_cases hz0 : len0 ≤ 1048576
  · by_cases hz1 : len1 ≤ 1048576
    · skip
      go_enter Tryz.func5, Tryz.ntmps5
      go_wp2_with fail
      refine (long_no a0 a1 cap0 cap1 len0 len1 _ hz0 hz1).mono ?_
      rintro e w' ⟨rfl, rfl⟩
      go_wp2_with fail
      refine (r8Pipe_any a0 len0 cap0 z0 _ w0).mono ?_
      rintro e w0x ⟨L, d, s, rfl, hL, hd, hs, hx⟩
      have HI : InDraw L d s := ⟨hL, hd, hs⟩
      have p := PipeAt.new w0x mainB 0 1 L d s 40
      have hb := bal hx (.cells #[.string mainB, .int .i64 0, .int .i64 1, .int .i64 L, .int .i64 d, .int .i64 s] 40)
      clear hx hL hd hs
      have ⟨p0, p1, p2, p3, p4, p5⟩ := p
      go_wp2_with fail
      refine (mTurn HI 0 1 _ (by omega) (by omega) (by omega)).mono ?_
      rintro e wn ⟨rfl, hx⟩
      clear p0 p1 p2 p3 p4 p5
      have p := p.next hx
      have hb := bnext hb hx
      have p := p.alloc (.cells #[.string mainB, .int .i64 1, .int .i64 0, .int .i64 L, .int .i64 d, .int .i64 s] 40)
      have q := PipeAt.new wn mainB 1 0 L d s 40
      have hb := bal hb (.cells #[.string mainB, .int .i64 1, .int .i64 0, .int .i64 L, .int .i64 d, .int .i64 s] 40)
      clear hx
      have ⟨p0, p1, p2, p3, p4, p5⟩ := p
      have ⟨q0, q1, q2, q3, q4, q5⟩ := q
      go_wp2_with fail
      refine (mTurn HI 1 0 _ (by omega) (by omega) (by omega)).mono ?_
      rintro e wn ⟨rfl, hx⟩
      clear p0 p1 p2 p3 p4 p5 q0 q1 q2 q3 q4 q5
      have p := p.next hx
      have q := q.next hx
      have hb := bnext hb hx
      have p := p.alloc (.cells #[.string mainB, .int .i64 0, .int .i64 1, .int .i64 L, .int .i64 d, .int .i64 s] 40)
      have q := q.alloc (.cells #[.string mainB, .int .i64 0, .int .i64 1, .int .i64 L, .int .i64 d, .int .i64 s] 40)
      have r := PipeAt.new wn mainB 0 1 L d s 40
      have hb := bal hb (.cells #[.string mainB, .int .i64 0, .int .i64 1, .int .i64 L, .int .i64 d, .int .i64 s] 40)
      clear hx
      have ⟨p0, p1, p2, p3, p4, p5⟩ := p
      have ⟨q0, q1, q2, q3, q4, q5⟩ := q
      have ⟨r0, r1, r2, r3, r4, r5⟩ := r
      go_wp2_with fail
      refine (pText HI _ (hL.2.2.next hb)).mono ?_
      rintro e wn ⟨rfl, hx⟩
      clear p0 p1 p2 p3 p4 p5 q0 q1 q2 q3 q4 q5 r0 r1 r2 r3 r4 r5
      have p := p.next hx
      have q := q.next hx
      have r := r.next hx
      have hb := bnext hb hx
      clear hx
      have ⟨p0, p1, p2, p3, p4, p5⟩ := p
      have ⟨q0, q1, q2, q3, q4, q5⟩ := q
      have ⟨r0, r1, r2, r3, r4, r5⟩ := r
      go_wp2_with fail
      refine (mRead HI _ (hL.1.next hb) (hL.2.1.next hb) (hL.2.2.next hb)).mono ?_
      rintro e wn ⟨rfl, hx⟩
      clear p0 p1 p2 p3 p4 p5 q0 q1 q2 q3 q4 q5 r0 r1 r2 r3 r4 r5
      have p := p.next hx
      have q := q.next hx
      have r := r.next hx
      have hb := bnext hb hx
      have p := p.alloc (.cells #[.string mainB, .int .i64 0, .int .i64 1, .int .i64 L, .int .i64 d, .int .i64 s] 40)
      have q := q.alloc (.cells #[.string mainB, .int .i64 0, .int .i64 1, .int .i64 L, .int .i64 d, .int .i64 s] 40)
      have r := r.alloc (.cells #[.string mainB, .int .i64 0, .int .i64 1, .int .i64 L, .int .i64 d, .int .i64 s] 40)
      have t := PipeAt.new wn mainB 0 1 L d s 40
      have hb := bal hb (.cells #[.string mainB, .int .i64 0, .int .i64 1, .int .i64 L, .int .i64 d, .int .i64 s] 40)
      clear hx
      have ⟨p0, p1, p2, p3, p4, p5⟩ := p
      have ⟨q0, q1, q2, q3, q4, q5⟩ := q
      have ⟨r0, r1, r2, r3, r4, r5⟩ := r
      have ⟨t0, t1, t2, t3, t4, t5⟩ := t
      go_wp2_with fail
      clear p0 p1 p2 p3 p4 p5 q0 q1 q2 q3 q4 q5 r0 r1 r2 r3 r4 r5 t0 t1 t2 t3 t4 t5
      clear q r t
      have ⟨p0, p1, p2, p3, p4, p5⟩ := p
      go_wp2_with fail
      refine (wide_any a1 len1 cap1 z1 0 20000 _ (w1a.next hb) (by omega) (by omega) (by omega)).mono ?_
      rintro e wn ⟨x, rfl, x0, x1, hx⟩
      have hx := hx.below
      clear p0 p1 p2 p3 p4 p5
      have p := p.next hx
      have hb := bnext hb hx
      clear hx
      have ⟨p0, p1, p2, p3, p4, p5⟩ := p
      go_wp2_with fail
      refine (mDrop HI.wide x _ (by omega)).mono ?_
      rintro e wn ⟨X, cx, rfl, hX, hx⟩
      clear p0 p1 p2 p3 p4 p5
      have p := p.next hx
      have hb := bnext hb hx
      clear hx
      have ⟨p0, p1, p2, p3, p4, p5⟩ := p
      go_wp2_with fail
      refine (mDrop HI.wide (-x) _ (by omega)).mono ?_
      rintro e wn ⟨Y, cy, rfl, hY, hx⟩
      clear p0 p1 p2 p3 p4 p5
      have p := p.next hx
      have hb := bnext hb hx
      clear hx
      have ⟨p0, p1, p2, p3, p4, p5⟩ := p
      go_wp2_with fail
      refine (mDrop HI.wide (x + 1) _ (by omega)).mono ?_
      rintro e wn ⟨Z, cz, rfl, hZ, hx⟩
      clear p0 p1 p2 p3 p4 p5
      have p := p.next hx
      have hb := bnext hb hx
      clear hx
      have ⟨p0, p1, p2, p3, p4, p5⟩ := p
      have h5 := (pow5_bd d (by have := HI.2.1; omega) (by have := HI.2.1; omega)).2.2.2.1
      have hneg := drop_neg L d x h5
      have hnn := drop_nn L d x h5 (by have := HI.1; omega) x0
      have hmo := drop_mono L d x (x + 1) h5 (by have := HI.1; omega) x0 (by omega)
      unfold DropIs at hX hY hZ
      rw [hneg] at hY
      generalize dropI L d (x + 1) = D1 at *
      generalize hD : dropI L d x = D at *
      have HD := Lib.hid hD
      clear hD hneg h5
      rcases hX with ⟨rfl, rfl, hXa, hXb⟩ | ⟨rfl, hXo⟩
      · have hY : cy = 0 ∧ Y = -X := by
          rcases hY with ⟨h1, h2, _⟩ | ⟨_, h⟩
          · exact ⟨h1, h2⟩
          · omega
        obtain ⟨rfl, rfl⟩ := hY
        have hDD : (-X != -X) = false := by simp
        have hD0 : ¬ X < 0 := by omega
        rcases hZ with ⟨rfl, hZ1, _, _⟩ | ⟨rfl, _⟩
        · have hZ2 : ¬ Z < X := by omega
          clear hZ1 hmo
          go_wp2_with fail
          refine (wide_any a1 len1 cap1 z1 2 60000 _ (w1a.next hb) (by omega) (by omega) (by omega)).mono ?_
          rintro e wn ⟨g, rfl, g0, g1, hx⟩
          have hx := hx.below
          clear p0 p1 p2 p3 p4 p5
          have p := p.next hx
          have hb := bnext hb hx
          clear hx
          have ⟨p0, p1, p2, p3, p4, p5⟩ := p
          go_wp2_with fail
          refine (mFlow HI g _ (by omega)).mono ?_
          rintro e wn ⟨m, rfl, m0, m1, hm2, hm3, hm4, hx⟩
          clear p0 p1 p2 p3 p4 p5
          have p := p.next hx
          have hb := bnext hb hx
          clear hx
          have ⟨p0, p1, p2, p3, p4, p5⟩ := p
          go_wp2_with fail
          refine (mDrop HI.wide m _ (by omega)).mono ?_
          rintro e wn ⟨At, ca, rfl, hA, hx⟩
          clear p0 p1 p2 p3 p4 p5
          have p := p.next hx
          have hb := bnext hb hx
          clear hx
          have ⟨p0, p1, p2, p3, p4, p5⟩ := p
          have hA : ca = 0 ∧ At ≤ g := by
            rcases hA with ⟨u0, u1, _⟩ | ⟨_, u1⟩
            · exact ⟨u0, by omega⟩
            · omega
          obtain ⟨rfl, hAg⟩ := hA
          by_cases hm : m < 100000
          · go_wp2_with fail
            refine (mDrop HI.wide (m + 1) _ (by omega)).mono ?_
            rintro e wn ⟨N, ce, rfl, hN, hx⟩
            clear p0 p1 p2 p3 p4 p5
            have p := p.next hx
            have hb := bnext hb hx
            clear hx
            have ⟨p0, p1, p2, p3, p4, p5⟩ := p
            have hgt := hm4 hm
            clear hm4
            rcases hN with ⟨rfl, hN1, _, _⟩ | ⟨rfl, _⟩
            · have hN2 : ¬ N ≤ g := by omega
              clear hN1 hgt hm hm2 hm3
              go_wp2_with fail
              have hbw := hb.size
              refine (mWidth HI x g _ (by omega) (by omega)).mono ?_
              rintro e wn ⟨W, ci, rfl, hW, hx⟩
              clear p0 p1 p2 p3 p4 p5
              have p := p.next hx
              have hbw := Nat.le_trans hbw hx.size
              have hb := bnext hb hx
              clear hx
              have ⟨p0, p1, p2, p3, p4, p5⟩ := p
              rcases hW with ⟨rfl, hW0, hW1, hWle, hWlt⟩ | rfl
              · have hnn := drop_nn L W x (pow5_bd W hW0 hW1).2.2.2.1 (by have := HI.1; omega) x0
                go_wp2_with fail
                have hWI : InWide L W s := ⟨HI.1, ⟨hW0, hW1⟩, HI.2.2⟩
                have v := PipeAt.new wn mainB 0 1 L W s 40
                have fv := Free6.new wn #[.string mainB, .int .i64 0, .int .i64 1, .int .i64 L, .int .i64 W, .int .i64 s] 40
                have hvl : wn.heap.size < (wn.alloc (.cells #[.string mainB, .int .i64 0, .int .i64 1, .int .i64 L, .int .i64 W, .int .i64 s] 40)).heap.size := by simp
                have hb := bal hb (.cells #[.string mainB, .int .i64 0, .int .i64 1, .int .i64 L, .int .i64 W, .int .i64 s] 40)
                have hwb : w.heap.size ≤ wn.heap.size := hbw
                clear p0 p1 p2 p3 p4 p5 p
                refine (sDrop hWI x _ (by omega)).mono ?_
                rintro e wo ⟨U, cu, rfl, hU, hx⟩
                have hU : cu = 0 ∧ U ≤ g := by
                  rcases hU with ⟨u0, u1, _⟩ | ⟨_, u1⟩
                  · exact ⟨u0, by omega⟩
                  · omega
                obtain ⟨rfl, hUg⟩ := hU
                have v := v.next hx
                have fv := fv.keep (hx.block _ hvl)
                have hbo := bnext hb hx
                clear hx hvl
                have ⟨v0, v1, v2, v3, v4, v5⟩ := v
                have ⟨f0, f1, f2, f3, f4, f5⟩ := fv
                by_cases hmin : W = 20
                · subst hmin
                  go_wp2
                  go_ret
                  exact ⟨rfl, hbo⟩
                · have hmin1 : (W == 20) = false := by simpa using hmin
                  have hgt := hWlt (by omega)
                  have hWI2 : InWide L (W - 1) s := ⟨HI.1, ⟨by omega, by omega⟩, HI.2.2⟩
                  have hb2 := hbo.setCell (p := ⟨wn.heap.size, 4, none⟩) hwb (.int .i64 (W - 1))
                  have v9 := v.set4 (W - 1)
                  have ⟨y0, y1, y2, y3, y4, y5⟩ := v9
                  have hW2 : 20 ≤ W - 1 := by omega
                  have hW3 : W - 1 ≤ 1000 := by omega
                  clear hmin hWlt
                  go_wp2_with fail
                  refine (sDrop hWI2 x _ (by omega)).mono ?_
                  rintro e wq ⟨M, cm, rfl, hM, hx⟩
                  have hb3 := bnext hb2 hx
                  clear hx
                  rcases hM with ⟨rfl, hM1, _, _⟩ | ⟨rfl, _⟩
                  · have hM2 : g < M := by omega
                    go_wp2
                    go_ret
                    exact ⟨rfl, hb3⟩
                  · go_wp2
                    go_ret
                    exact ⟨rfl, hb3⟩
              · go_wp2
                go_ret
                exact ⟨rfl, hb⟩
            · clear hgt hm hm2 hm3
              go_wp2_with fail
              have hbw := hb.size
              refine (mWidth HI x g _ (by omega) (by omega)).mono ?_
              rintro e wn ⟨W, ci, rfl, hW, hx⟩
              clear p0 p1 p2 p3 p4 p5
              have p := p.next hx
              have hbw := Nat.le_trans hbw hx.size
              have hb := bnext hb hx
              clear hx
              have ⟨p0, p1, p2, p3, p4, p5⟩ := p
              rcases hW with ⟨rfl, hW0, hW1, hWle, hWlt⟩ | rfl
              · have hnn := drop_nn L W x (pow5_bd W hW0 hW1).2.2.2.1 (by have := HI.1; omega) x0
                go_wp2_with fail
                have hWI : InWide L W s := ⟨HI.1, ⟨hW0, hW1⟩, HI.2.2⟩
                have v := PipeAt.new wn mainB 0 1 L W s 40
                have fv := Free6.new wn #[.string mainB, .int .i64 0, .int .i64 1, .int .i64 L, .int .i64 W, .int .i64 s] 40
                have hvl : wn.heap.size < (wn.alloc (.cells #[.string mainB, .int .i64 0, .int .i64 1, .int .i64 L, .int .i64 W, .int .i64 s] 40)).heap.size := by simp
                have hb := bal hb (.cells #[.string mainB, .int .i64 0, .int .i64 1, .int .i64 L, .int .i64 W, .int .i64 s] 40)
                have hwb : w.heap.size ≤ wn.heap.size := hbw
                clear p0 p1 p2 p3 p4 p5 p
                refine (sDrop hWI x _ (by omega)).mono ?_
                rintro e wo ⟨U, cu, rfl, hU, hx⟩
                have hU : cu = 0 ∧ U ≤ g := by
                  rcases hU with ⟨u0, u1, _⟩ | ⟨_, u1⟩
                  · exact ⟨u0, by omega⟩
                  · omega
                obtain ⟨rfl, hUg⟩ := hU
                have v := v.next hx
                have fv := fv.keep (hx.block _ hvl)
                have hbo := bnext hb hx
                clear hx hvl
                have ⟨v0, v1, v2, v3, v4, v5⟩ := v
                have ⟨f0, f1, f2, f3, f4, f5⟩ := fv
                by_cases hmin : W = 20
                · subst hmin
                  go_wp2
                  go_ret
                  exact ⟨rfl, hbo⟩
                · have hmin1 : (W == 20) = false := by simpa using hmin
                  have hgt := hWlt (by omega)
                  have hWI2 : InWide L (W - 1) s := ⟨HI.1, ⟨by omega, by omega⟩, HI.2.2⟩
                  have hb2 := hbo.setCell (p := ⟨wn.heap.size, 4, none⟩) hwb (.int .i64 (W - 1))
                  have v9 := v.set4 (W - 1)
                  have ⟨y0, y1, y2, y3, y4, y5⟩ := v9
                  have hW2 : 20 ≤ W - 1 := by omega
                  have hW3 : W - 1 ≤ 1000 := by omega
                  clear hmin hWlt
                  go_wp2_with fail
                  refine (sDrop hWI2 x _ (by omega)).mono ?_
                  rintro e wq ⟨M, cm, rfl, hM, hx⟩
                  have hb3 := bnext hb2 hx
                  clear hx
                  rcases hM with ⟨rfl, hM1, _, _⟩ | ⟨rfl, _⟩
                  · have hM2 : g < M := by omega
                    go_wp2
                    go_ret
                    exact ⟨rfl, hb3⟩
                  · go_wp2
                    go_ret
                    exact ⟨rfl, hb3⟩
              · go_wp2
                go_ret
                exact ⟨rfl, hb⟩
          · have hm5 : 100000 < m + 1 := by omega
            go_wp2_with fail
            refine (mFar HI.wide (m + 1) _ hm5).mono ?_
            rintro e wn ⟨rfl, hx⟩
            clear p0 p1 p2 p3 p4 p5
            have p := p.next hx
            have hb := bnext hb hx
            clear hx
            have ⟨p0, p1, p2, p3, p4, p5⟩ := p
            clear hm hm4 hm2 hm3
            go_wp2_with fail
            have hbw := hb.size
            refine (mWidth HI x g _ (by omega) (by omega)).mono ?_
            rintro e wn ⟨W, ci, rfl, hW, hx⟩
            clear p0 p1 p2 p3 p4 p5
            have p := p.next hx
            have hbw := Nat.le_trans hbw hx.size
            have hb := bnext hb hx
            clear hx
            have ⟨p0, p1, p2, p3, p4, p5⟩ := p
            rcases hW with ⟨rfl, hW0, hW1, hWle, hWlt⟩ | rfl
            · have hnn := drop_nn L W x (pow5_bd W hW0 hW1).2.2.2.1 (by have := HI.1; omega) x0
              go_wp2_with fail
              have hWI : InWide L W s := ⟨HI.1, ⟨hW0, hW1⟩, HI.2.2⟩
              have v := PipeAt.new wn mainB 0 1 L W s 40
              have fv := Free6.new wn #[.string mainB, .int .i64 0, .int .i64 1, .int .i64 L, .int .i64 W, .int .i64 s] 40
              have hvl : wn.heap.size < (wn.alloc (.cells #[.string mainB, .int .i64 0, .int .i64 1, .int .i64 L, .int .i64 W, .int .i64 s] 40)).heap.size := by simp
              have hb := bal hb (.cells #[.string mainB, .int .i64 0, .int .i64 1, .int .i64 L, .int .i64 W, .int .i64 s] 40)
              have hwb : w.heap.size ≤ wn.heap.size := hbw
              clear p0 p1 p2 p3 p4 p5 p
              refine (sDrop hWI x _ (by omega)).mono ?_
              rintro e wo ⟨U, cu, rfl, hU, hx⟩
              have hU : cu = 0 ∧ U ≤ g := by
                rcases hU with ⟨u0, u1, _⟩ | ⟨_, u1⟩
                · exact ⟨u0, by omega⟩
                · omega
              obtain ⟨rfl, hUg⟩ := hU
              have v := v.next hx
              have fv := fv.keep (hx.block _ hvl)
              have hbo := bnext hb hx
              clear hx hvl
              have ⟨v0, v1, v2, v3, v4, v5⟩ := v
              have ⟨f0, f1, f2, f3, f4, f5⟩ := fv
              by_cases hmin : W = 20
              · subst hmin
                go_wp2
                go_ret
                exact ⟨rfl, hbo⟩
              · have hmin1 : (W == 20) = false := by simpa using hmin
                have hgt := hWlt (by omega)
                have hWI2 : InWide L (W - 1) s := ⟨HI.1, ⟨by omega, by omega⟩, HI.2.2⟩
                have hb2 := hbo.setCell (p := ⟨wn.heap.size, 4, none⟩) hwb (.int .i64 (W - 1))
                have v9 := v.set4 (W - 1)
                have ⟨y0, y1, y2, y3, y4, y5⟩ := v9
                have hW2 : 20 ≤ W - 1 := by omega
                have hW3 : W - 1 ≤ 1000 := by omega
                clear hmin hWlt
                go_wp2_with fail
                refine (sDrop hWI2 x _ (by omega)).mono ?_
                rintro e wq ⟨M, cm, rfl, hM, hx⟩
                have hb3 := bnext hb2 hx
                clear hx
                rcases hM with ⟨rfl, hM1, _, _⟩ | ⟨rfl, _⟩
                · have hM2 : g < M := by omega
                  go_wp2
                  go_ret
                  exact ⟨rfl, hb3⟩
                · go_wp2
                  go_ret
                  exact ⟨rfl, hb3⟩
            · go_wp2
              go_ret
              exact ⟨rfl, hb⟩
        · clear hmo
          go_wp2_with fail
          refine (wide_any a1 len1 cap1 z1 2 60000 _ (w1a.next hb) (by omega) (by omega) (by omega)).mono ?_
          rintro e wn ⟨g, rfl, g0, g1, hx⟩
          have hx := hx.below
          clear p0 p1 p2 p3 p4 p5
          have p := p.next hx
          have hb := bnext hb hx
          clear hx
          have ⟨p0, p1, p2, p3, p4, p5⟩ := p
          go_wp2_with fail
          refine (mFlow HI g _ (by omega)).mono ?_
          rintro e wn ⟨m, rfl, m0, m1, hm2, hm3, hm4, hx⟩
          clear p0 p1 p2 p3 p4 p5
          have p := p.next hx
          have hb := bnext hb hx
          clear hx
          have ⟨p0, p1, p2, p3, p4, p5⟩ := p
          go_wp2_with fail
          refine (mDrop HI.wide m _ (by omega)).mono ?_
          rintro e wn ⟨At, ca, rfl, hA, hx⟩
          clear p0 p1 p2 p3 p4 p5
          have p := p.next hx
          have hb := bnext hb hx
          clear hx
          have ⟨p0, p1, p2, p3, p4, p5⟩ := p
          have hA : ca = 0 ∧ At ≤ g := by
            rcases hA with ⟨u0, u1, _⟩ | ⟨_, u1⟩
            · exact ⟨u0, by omega⟩
            · omega
          obtain ⟨rfl, hAg⟩ := hA
          by_cases hm : m < 100000
          · go_wp2_with fail
            refine (mDrop HI.wide (m + 1) _ (by omega)).mono ?_
            rintro e wn ⟨N, ce, rfl, hN, hx⟩
            clear p0 p1 p2 p3 p4 p5
            have p := p.next hx
            have hb := bnext hb hx
            clear hx
            have ⟨p0, p1, p2, p3, p4, p5⟩ := p
            have hgt := hm4 hm
            clear hm4
            rcases hN with ⟨rfl, hN1, _, _⟩ | ⟨rfl, _⟩
            · have hN2 : ¬ N ≤ g := by omega
              clear hN1 hgt hm hm2 hm3
              go_wp2_with fail
              have hbw := hb.size
              refine (mWidth HI x g _ (by omega) (by omega)).mono ?_
              rintro e wn ⟨W, ci, rfl, hW, hx⟩
              clear p0 p1 p2 p3 p4 p5
              have p := p.next hx
              have hbw := Nat.le_trans hbw hx.size
              have hb := bnext hb hx
              clear hx
              have ⟨p0, p1, p2, p3, p4, p5⟩ := p
              rcases hW with ⟨rfl, hW0, hW1, hWle, hWlt⟩ | rfl
              · have hnn := drop_nn L W x (pow5_bd W hW0 hW1).2.2.2.1 (by have := HI.1; omega) x0
                go_wp2_with fail
                have hWI : InWide L W s := ⟨HI.1, ⟨hW0, hW1⟩, HI.2.2⟩
                have v := PipeAt.new wn mainB 0 1 L W s 40
                have fv := Free6.new wn #[.string mainB, .int .i64 0, .int .i64 1, .int .i64 L, .int .i64 W, .int .i64 s] 40
                have hvl : wn.heap.size < (wn.alloc (.cells #[.string mainB, .int .i64 0, .int .i64 1, .int .i64 L, .int .i64 W, .int .i64 s] 40)).heap.size := by simp
                have hb := bal hb (.cells #[.string mainB, .int .i64 0, .int .i64 1, .int .i64 L, .int .i64 W, .int .i64 s] 40)
                have hwb : w.heap.size ≤ wn.heap.size := hbw
                clear p0 p1 p2 p3 p4 p5 p
                refine (sDrop hWI x _ (by omega)).mono ?_
                rintro e wo ⟨U, cu, rfl, hU, hx⟩
                have hU : cu = 0 ∧ U ≤ g := by
                  rcases hU with ⟨u0, u1, _⟩ | ⟨_, u1⟩
                  · exact ⟨u0, by omega⟩
                  · omega
                obtain ⟨rfl, hUg⟩ := hU
                have v := v.next hx
                have fv := fv.keep (hx.block _ hvl)
                have hbo := bnext hb hx
                clear hx hvl
                have ⟨v0, v1, v2, v3, v4, v5⟩ := v
                have ⟨f0, f1, f2, f3, f4, f5⟩ := fv
                by_cases hmin : W = 20
                · subst hmin
                  go_wp2
                  go_ret
                  exact ⟨rfl, hbo⟩
                · have hmin1 : (W == 20) = false := by simpa using hmin
                  have hgt := hWlt (by omega)
                  have hWI2 : InWide L (W - 1) s := ⟨HI.1, ⟨by omega, by omega⟩, HI.2.2⟩
                  have hb2 := hbo.setCell (p := ⟨wn.heap.size, 4, none⟩) hwb (.int .i64 (W - 1))
                  have v9 := v.set4 (W - 1)
                  have ⟨y0, y1, y2, y3, y4, y5⟩ := v9
                  have hW2 : 20 ≤ W - 1 := by omega
                  have hW3 : W - 1 ≤ 1000 := by omega
                  clear hmin hWlt
                  go_wp2_with fail
                  refine (sDrop hWI2 x _ (by omega)).mono ?_
                  rintro e wq ⟨M, cm, rfl, hM, hx⟩
                  have hb3 := bnext hb2 hx
                  clear hx
                  rcases hM with ⟨rfl, hM1, _, _⟩ | ⟨rfl, _⟩
                  · have hM2 : g < M := by omega
                    go_wp2
                    go_ret
                    exact ⟨rfl, hb3⟩
                  · go_wp2
                    go_ret
                    exact ⟨rfl, hb3⟩
              · go_wp2
                go_ret
                exact ⟨rfl, hb⟩
            · clear hgt hm hm2 hm3
              go_wp2_with fail
              have hbw := hb.size
              refine (mWidth HI x g _ (by omega) (by omega)).mono ?_
              rintro e wn ⟨W, ci, rfl, hW, hx⟩
              clear p0 p1 p2 p3 p4 p5
              have p := p.next hx
              have hbw := Nat.le_trans hbw hx.size
              have hb := bnext hb hx
              clear hx
              have ⟨p0, p1, p2, p3, p4, p5⟩ := p
              rcases hW with ⟨rfl, hW0, hW1, hWle, hWlt⟩ | rfl
              · have hnn := drop_nn L W x (pow5_bd W hW0 hW1).2.2.2.1 (by have := HI.1; omega) x0
                go_wp2_with fail
                have hWI : InWide L W s := ⟨HI.1, ⟨hW0, hW1⟩, HI.2.2⟩
                have v := PipeAt.new wn mainB 0 1 L W s 40
                have fv := Free6.new wn #[.string mainB, .int .i64 0, .int .i64 1, .int .i64 L, .int .i64 W, .int .i64 s] 40
                have hvl : wn.heap.size < (wn.alloc (.cells #[.string mainB, .int .i64 0, .int .i64 1, .int .i64 L, .int .i64 W, .int .i64 s] 40)).heap.size := by simp
                have hb := bal hb (.cells #[.string mainB, .int .i64 0, .int .i64 1, .int .i64 L, .int .i64 W, .int .i64 s] 40)
                have hwb : w.heap.size ≤ wn.heap.size := hbw
                clear p0 p1 p2 p3 p4 p5 p
                refine (sDrop hWI x _ (by omega)).mono ?_
                rintro e wo ⟨U, cu, rfl, hU, hx⟩
                have hU : cu = 0 ∧ U ≤ g := by
                  rcases hU with ⟨u0, u1, _⟩ | ⟨_, u1⟩
                  · exact ⟨u0, by omega⟩
                  · omega
                obtain ⟨rfl, hUg⟩ := hU
                have v := v.next hx
                have fv := fv.keep (hx.block _ hvl)
                have hbo := bnext hb hx
                clear hx hvl
                have ⟨v0, v1, v2, v3, v4, v5⟩ := v
                have ⟨f0, f1, f2, f3, f4, f5⟩ := fv
                by_cases hmin : W = 20
                · subst hmin
                  go_wp2
                  go_ret
                  exact ⟨rfl, hbo⟩
                · have hmin1 : (W == 20) = false := by simpa using hmin
                  have hgt := hWlt (by omega)
                  have hWI2 : InWide L (W - 1) s := ⟨HI.1, ⟨by omega, by omega⟩, HI.2.2⟩
                  have hb2 := hbo.setCell (p := ⟨wn.heap.size, 4, none⟩) hwb (.int .i64 (W - 1))
                  have v9 := v.set4 (W - 1)
                  have ⟨y0, y1, y2, y3, y4, y5⟩ := v9
                  have hW2 : 20 ≤ W - 1 := by omega
                  have hW3 : W - 1 ≤ 1000 := by omega
                  clear hmin hWlt
                  go_wp2_with fail
                  refine (sDrop hWI2 x _ (by omega)).mono ?_
                  rintro e wq ⟨M, cm, rfl, hM, hx⟩
                  have hb3 := bnext hb2 hx
                  clear hx
                  rcases hM with ⟨rfl, hM1, _, _⟩ | ⟨rfl, _⟩
                  · have hM2 : g < M := by omega
                    go_wp2
                    go_ret
                    exact ⟨rfl, hb3⟩
                  · go_wp2
                    go_ret
                    exact ⟨rfl, hb3⟩
              · go_wp2
                go_ret
                exact ⟨rfl, hb⟩
          · have hm5 : 100000 < m + 1 := by omega
            go_wp2_with fail
            refine (mFar HI.wide (m + 1) _ hm5).mono ?_
            rintro e wn ⟨rfl, hx⟩
            clear p0 p1 p2 p3 p4 p5
            have p := p.next hx
            have hb := bnext hb hx
            clear hx
            have ⟨p0, p1, p2, p3, p4, p5⟩ := p
            clear hm hm4 hm2 hm3
            go_wp2_with fail
            have hbw := hb.size
            refine (mWidth HI x g _ (by omega) (by omega)).mono ?_
            rintro e wn ⟨W, ci, rfl, hW, hx⟩
            clear p0 p1 p2 p3 p4 p5
            have p := p.next hx
            have hbw := Nat.le_trans hbw hx.size
            have hb := bnext hb hx
            clear hx
            have ⟨p0, p1, p2, p3, p4, p5⟩ := p
            rcases hW with ⟨rfl, hW0, hW1, hWle, hWlt⟩ | rfl
            · have hnn := drop_nn L W x (pow5_bd W hW0 hW1).2.2.2.1 (by have := HI.1; omega) x0
              go_wp2_with fail
              have hWI : InWide L W s := ⟨HI.1, ⟨hW0, hW1⟩, HI.2.2⟩
              have v := PipeAt.new wn mainB 0 1 L W s 40
              have fv := Free6.new wn #[.string mainB, .int .i64 0, .int .i64 1, .int .i64 L, .int .i64 W, .int .i64 s] 40
              have hvl : wn.heap.size < (wn.alloc (.cells #[.string mainB, .int .i64 0, .int .i64 1, .int .i64 L, .int .i64 W, .int .i64 s] 40)).heap.size := by simp
              have hb := bal hb (.cells #[.string mainB, .int .i64 0, .int .i64 1, .int .i64 L, .int .i64 W, .int .i64 s] 40)
              have hwb : w.heap.size ≤ wn.heap.size := hbw
              clear p0 p1 p2 p3 p4 p5 p
              refine (sDrop hWI x _ (by omega)).mono ?_
              rintro e wo ⟨U, cu, rfl, hU, hx⟩
              have hU : cu = 0 ∧ U ≤ g := by
                rcases hU with ⟨u0, u1, _⟩ | ⟨_, u1⟩
                · exact ⟨u0, by omega⟩
                · omega
              obtain ⟨rfl, hUg⟩ := hU
              have v := v.next hx
              have fv := fv.keep (hx.block _ hvl)
              have hbo := bnext hb hx
              clear hx hvl
              have ⟨v0, v1, v2, v3, v4, v5⟩ := v
              have ⟨f0, f1, f2, f3, f4, f5⟩ := fv
              by_cases hmin : W = 20
              · subst hmin
                go_wp2
                go_ret
                exact ⟨rfl, hbo⟩
              · have hmin1 : (W == 20) = false := by simpa using hmin
                have hgt := hWlt (by omega)
                have hWI2 : InWide L (W - 1) s := ⟨HI.1, ⟨by omega, by omega⟩, HI.2.2⟩
                have hb2 := hbo.setCell (p := ⟨wn.heap.size, 4, none⟩) hwb (.int .i64 (W - 1))
                have v9 := v.set4 (W - 1)
                have ⟨y0, y1, y2, y3, y4, y5⟩ := v9
                have hW2 : 20 ≤ W - 1 := by omega
                have hW3 : W - 1 ≤ 1000 := by omega
                clear hmin hWlt
                go_wp2_with fail
                refine (sDrop hWI2 x _ (by omega)).mono ?_
                rintro e wq ⟨M, cm, rfl, hM, hx⟩
                have hb3 := bnext hb2 hx
                clear hx
                rcases hM with ⟨rfl, hM1, _, _⟩ | ⟨rfl, _⟩
                · have hM2 : g < M := by omega
                  go_wp2
                  go_ret
                  exact ⟨rfl, hb3⟩
                · go_wp2
                  go_ret
                  exact ⟨rfl, hb3⟩
            · go_wp2
              go_ret
              exact ⟨rfl, hb⟩
      · have hY : cy = 6 := by
          rcases hY with ⟨_, h1, h2, h3⟩ | ⟨h, _⟩
          · omega
          · exact h
        subst hY
        clear hZ
        go_wp2
        go_ret
        exact ⟨rfl, hb⟩
    · go_enter Tryz.func5, Tryz.ntmps5
      go_wp2_with fail
      refine (long_yes2 a0 a1 cap0 cap1 len0 len1 _ hz0 (by omega) hn1).mono ?_
      rintro e w' ⟨rfl, rfl⟩
      go_wp2
      go_ret
      exact ⟨rfl, Below.refl _ _⟩
  · go_enter Tryz.func5, Tryz.ntmps5
    go_wp2_with fail
    refine (long_yes1 a0 a1 cap0 cap1 len0 len1 _ (by omega) hn0).mono ?_
    rintro e w' ⟨rfl, rfl⟩
    go_wp2
    go_ret
    exact ⟨rfl, Below.refl _ _⟩

theorem own : ownKnob Tryz.prog.godebug = none := by kernel_rfl
theorem laidOut : laidOutB Tryz.prog = true := by kernel_rfl

/-- A WORLD FOR THE WITNESS: the heap that the start-up code's own run leaves. -/
theorem laid_met (os : Os) : laidMet Tryz.prog Rows.fnPipesRow.laid ((World.laidAll Tryz.prog os Rows.fnPipesRow.laid).forCall (fun _ _ => 0) ⟨#[], #[.slice none 0 0, .slice none 0 0], []⟩).memory :=
  laidMet_laidAll _ (by kernel_rfl) (by kernel_rfl)
theorem reads (os : Os) {H : Type} (enc : TypeId × Value → H) : ∃ x places, DataW.whole enc Tryz.prog ((World.laidAll Tryz.prog os Rows.fnPipesRow.laid).forCall (fun _ _ => 0) ⟨#[], #[.slice none 0 0, .slice none 0 0], []⟩).memory Tryz.f5.params.toList Rows.fnPipesSpec.vars false (#[.slice none 0 0, .slice none 0 0] : Array Value).toList 8 = some (x, [], places) :=
  ⟨[.nil, .nil], [], by kernel_rfl⟩

set_option maxRecDepth 100000 in
theorem lifted (os : Os) (started : os.Started) (H : Type) (enc : TypeId × Value → H) (F : Stop.Interp) :
    ReturnsInHanded {} Tryz.checked os 5 .any ((OpenSpec.ofChange Rows.fnPipesSpec).preRow enc Tryz.prog Tryz.f5 Rows.fnPipesRow.domain false Rows.fnPipesRow.laid) (((OpenSpec.ofChange Rows.fnPipesSpec).at F).post enc Tryz.prog Tryz.f5 false true false false) := by
  obtain ⟨x, places, hx⟩ := reads os enc
  refine returnsInHanded_of_row (C := Tryz.checked) (s := OpenSpec.ofChange Rows.fnPipesSpec) own started (by kernel_rfl) Tryz.func5
    (witness_row_atRef (enc := enc) (C := Tryz.checked) false (World.laidAll Tryz.prog os Rows.fnPipesRow.laid) #[.slice none 0 0, .slice none 0 0] (World.laidAll_os _ _ _) (by kernel_rfl) (by kernel_rfl) (by kernel_rfl)
      (OpenSpec.preRow_of_cond 8 hx (by kernel_rfl) (fun k hk => by cases hk) (by kernel_rfl) (laid_met os))) ?_
  intro W base args ds gs before hval0 hW hcnd _ _ hLaid hShaped _
  have hL := laid_facts hLaid hShaped
  have hval : ∀ (j : Nat) t v, Tryz.f5.params[j]? = some t → args[j]? = some v → Value.okWide Tryz.prog W .any base t v := hval0
  have hW' := hW
  obtain ⟨p, q, hA0, hV, rfl, hfz, hnd⟩ := hW
  have hA : DataW.TrodAll enc Tryz.prog W 0 (fun _ => true) true Tryz.f5.params.toList args.toList ds p := hA0
  rw [Tryz.params5] at hA hval
  obtain ⟨v0, vs0, d0, ds0, p0, q0, hargs, rfl, rfl, h0, r0⟩ := trodAll_cons hA
  obtain ⟨v1, vs1, d1, ds1, p1, q1, rfl, rfl, rfl, h1, r1⟩ := trodAll_cons r0
  obtain ⟨rfl, rfl, rfl⟩ := trodAll_nil r1
  obtain rfl : args = #[v0, v1] := by cases args; simp_all
  obtain ⟨rfl, rfl⟩ := trodVars_none hV
  obtain ⟨a0, len0, cap0, rfl⟩ := okWide_slice Tryz.underlying31 (hval 0 31 v0 rfl rfl)
  have k0 := h0
  have lt0 : ∀ x ∈ p0, x.block < W.heap.size := by obtain ⟨m, hm⟩ := k0; exact DataW.trod_lt m _ _ _ hm
  obtain ⟨z0, w0⟩ : ∃ zs, SliceIn .u8 W a0 len0 zs := by
    obtain ⟨fuel, hf⟩ := h0
    rcases open_ints Tryz.underlying31 Tryz.underlying5 (by kernel_rfl) hf with ⟨hcs, _⟩ | ⟨x, l, c, zs, hcs, _, hl, hm, hz, _, hcell, hwz⟩
    · simp [Value.cells] at hcs
      obtain ⟨rfl, rfl, rfl⟩ := hcs
      exact ⟨[], SliceIn.nil _ _⟩
    · simp [Value.cells] at hcs
      obtain ⟨rfl, rfl, rfl⟩ := hcs
      exact ⟨_, SliceIn.row hl hm (by simpa using hz) hcell hwz⟩
  obtain ⟨a1, len1, cap1, rfl⟩ := okWide_slice Tryz.underlying31 (hval 1 31 v1 rfl rfl)
  have k1 := h1
  have lt1 : ∀ x ∈ p1, x.block < W.heap.size := by obtain ⟨m, hm⟩ := k1; exact DataW.trod_lt m _ _ _ hm
  obtain ⟨z1, w1⟩ : ∃ zs, SliceIn .u8 W a1 len1 zs := by
    obtain ⟨fuel, hf⟩ := h1
    rcases open_ints Tryz.underlying31 Tryz.underlying5 (by kernel_rfl) hf with ⟨hcs, _⟩ | ⟨x, l, c, zs, hcs, _, hl, hm, hz, _, hcell, hwz⟩
    · simp [Value.cells] at hcs
      obtain ⟨rfl, rfl, rfl⟩ := hcs
      exact ⟨[], SliceIn.nil _ _⟩
    · simp [Value.cells] at hcs
      obtain ⟨rfl, rfl, rfl⟩ := hcs
      exact ⟨_, SliceIn.row hl hm (by simpa using hz) hcell hwz⟩
  clear hA0 hval0
  refine (walk a0 len0 cap0 z0 a1 len1 cap1 z1 W w0 w1 hL).mono fun e W' ⟨he, bel⟩ => ?_
  subst he
  exact ⟨_, rfl, _, _, _, [], _, [], hW', trodAll_mk1 (shut_bool Tryz.underlying4 _), (trodAll_cons_mk (Below.trod laidOut (by kernel_rfl) (of_decide_eq_true (by kernel_rfl)) k0 bel lt0) (trodAll_cons_mk (Below.trod laidOut (by kernel_rfl) (of_decide_eq_true (by kernel_rfl)) k1 bel lt1) trodAll_mk0)), rfl, bel.frame _, fun h => by cases h⟩

theorem said : Rows.FnPipesSaid :=
  OpenClaim.holds_of_cond 5 Tryz.f5 rfl rfl rfl rfl rfl rfl rfl ⟨rfl, rfl, rfl, rfl, rfl⟩ rfl rfl rfl rfl rfl (by kernel_rfl) Tryz.func5 (by kernel_rfl)
    (of_decide_eq_true (by kernel_rfl)) (by unfold Func.isWrapper; first | (rw [if_pos (by decide +kernel)]; kernel_rfl) | (rw [if_neg (by decide +kernel)]; exact ⟨rfl, rfl⟩))
    (fun os started H enc _ F => by rw [OpenClaim.pre_eq_preRow]; exact lifted os started H enc F)

theorem plain (f : FuncId) (fn : Func) (hf : Tryz.pinned.checked.prog.funcNamed "loop.example/g01011/laws.FnPipes" = some f) (hfn : Tryz.pinned.checked.prog.funcs[f]? = some fn) :
    true = Tryz.pinned.checked.prog.looks [] ∧ ∀ (j : Nat) t, fn.params[j]? = some t → Tryz.pinned.checked.prog.wantsStandIn t = false := by
  obtain rfl : f = 5 := Option.some.inj ((show Tryz.prog.funcNamed "loop.example/g01011/laws.FnPipes" = some 5 by kernel_rfl).symm.trans hf) |>.symm
  obtain rfl : fn = Tryz.f5 := (Option.some.inj (Tryz.func5.symm.trans hfn)).symm
  refine ⟨by kernel_rfl, fun j t ht => ?_⟩
  rw [Tryz.params5] at ht
  have hm : t ∈ [31, 31] := by simpa using Array.mem_of_getElem? ht
  have hall : ([31, 31].all fun u => !Tryz.prog.wantsStandIn u) = true := by kernel_rfl
  exact (show Tryz.prog.wantsStandIn t = false by simpa using List.all_eq_true.1 hall t hm)

theorem proved : Rows.FnPipesCardSaid :=
  Claim7.holds_tied_plain_at .later [] _ _ _ _ said (fun _ h => by cases h) (by kernel_rfl) (fun _ h => by cases h) fnPipes_row_tie rfl ⟨rfl, rfl⟩ (by kernel_rfl) rfl plain (by kernel_rfl)
#print axioms proved
end Go.Proofs.YtmopnkkpcgiafabGreatDoor.fnPipes

