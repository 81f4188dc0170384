/-
  What FnPipes asks of a drawn pipe: turning, texts, drops, flows and widths, answers as variables with what is known of them.
-/
import Derived.Test.YtmopnkkpcgiafabGreatDoorX1
import Derived.Test.YtmopnkkpcgiafabGreatDoorT1
import Derived.Test.YtmopnkkpcgiafabGreatDoorT5
import Derived.Test.YtmopnkkpcgiafabGreatDoorP7
import Derived.Test.YtmopnkkpcgiafabGreatDoorP8
namespace Go.Proofs.YtmopnkkpcgiafabGreatDoor
open Go.ChangeShapes Go.WideShapes Go.ChangeAt Go.RowKit
set_option linter.unusedVariables false
set_option linter.unusedSimpArgs false

/-- a pipe's numbers, whatever its diameter -/
def InWide (L d s : Int) : Prop := (20 ≤ L ∧ L ≤ 919) ∧ (20 ≤ d ∧ d ≤ 1000) ∧ (100 ≤ s ∧ s ≤ 699)
theorem InDraw.wide {L d s : Int} (h : InDraw L d s) : InWide L d s := ⟨h.1, ⟨by have := h.2.1; omega, by have := h.2.1; omega⟩, h.2.2⟩
theorem ok_wide {L d s : Int} (h : InWide L d s) (f t : Int) (hf : 0 ≤ f ∧ f ≤ 15) (ht : 0 ≤ t ∧ t ≤ 15) (hne : f ≠ t) : okP mainB f t L d s = true := by
  obtain ⟨hL, hd, hs⟩ := h
  have e0 : nameL mainB.data.toList = true := by decide
  have e1 : inB f 0 15 = true := inB_true hf
  have e2 : inB t 0 15 = true := inB_true ht
  have e3 : inB L 1 10000 = true := inB_true (by omega)
  have e4 : inB d 20 1000 = true := inB_true (by omega)
  have e5 : inB s 0 5000 = true := inB_true (by omega)
  unfold okP
  simp [e0, e1, e2, e3, e4, e5, hne]
theorem mTurn {L d s : Int} (h : InDraw L d s) (f t : Int) (w : World) (hf : 0 ≤ f ∧ f ≤ 15) (ht : 0 ≤ t ∧ t ≤ 15) (hne : f ≠ t) :
    Calls Tryz.prog 27 #[.agg #[.string mainB, .int .i64 f, .int .i64 t, .int .i64 L, .int .i64 d, .int .i64 s]] w fun e w' => e = .returned (.tuple #[.agg #[.string mainB, .int .i64 t, .int .i64 f, .int .i64 L, .int .i64 d, .int .i64 s], .int .i64 0]) ∧ Below w.heap.size w w' := by
  have k := implTurnPipe_any mainB f t L d s w (by decide)
  unfold turnR at k
  rw [if_pos (ok_wide h.wide f t hf ht hne)] at k
  exact k
theorem pText {L d s : Int} (h : InDraw L d s) (w : World) (hpt : PowTab w) :
    Calls Tryz.prog 29 #[.agg #[.string mainB, .int .i64 0, .int .i64 1, .int .i64 L, .int .i64 d, .int .i64 s]] w fun e w' => e = .returned (.string (pipeB mainB 0 1 L d s)) ∧ Below w.heap.size w w' := by
  have k := implPipeText_any mainB 0 1 L d s w (by decide) hpt
  unfold textB at k
  rw [if_pos (ok_main h)] at k
  exact k
theorem pipeB_size {L d s : Int} (h : InDraw L d s) : (pipeB mainB 0 1 L d s).size ≤ 1048576 := by
  have hs := five_small (fits_five (ok_main h))
  unfold pipeB
  rw [ByteArray.size_append, ByteArray.size_append]
  have e1 : mainB.size = 4 := rfl
  have e2 : (mkB [32]).size = 1 := rfl
  omega
theorem mRead {L d s : Int} (h : InDraw L d s) (w : World) (hm : MaxVar w) (hv : ErrVars w) (ht : PowTab w) :
    Calls Tryz.prog 28 #[.string (pipeB mainB 0 1 L d s)] w fun e w' => e = .returned (.tuple #[.agg #[.string mainB, .int .i64 0, .int .i64 1, .int .i64 L, .int .i64 d, .int .i64 s], .bool true]) ∧ Below w.heap.size w w' := by
  have k := implReadPipe_any (pipeB mainB 0 1 L d s) w (pipeB_size h) hm hv ht
  obtain ⟨e1, e2⟩ := read_pipe (ok_main h)
  rw [e1, e2, pipeV_five] at k
  exact k
/-- what is known of a drop: the number where it is a pressure, else that it is not -/
def DropIs (L d q x xc : Int) : Prop := (xc = 0 ∧ x = dropI L d q ∧ -100000000 ≤ x ∧ x ≤ 100000000) ∨ (xc = 6 ∧ (dropI L d q < -100000000 ∨ 100000000 < dropI L d q))
theorem drop_ans {L d s : Int} (h : InWide L d s) (q : Int) (hq : -100000 ≤ q ∧ q ≤ 100000) : DropIs L d q (dropOV mainB 0 1 L d s q) (dropOC mainB 0 1 L d s q) := by
  have ho := ok_wide h 0 1 (by omega) (by omega) (by omega)
  have hb : inB q (-100000) 100000 = true := inB_true hq
  unfold DropIs dropOV dropOC
  rw [ho, hb]
  by_cases hd : inB (dropI L d q) (-100000000) 100000000 = true
  · rw [hd]
    left
    have := inB_iff.1 hd
    simp
    omega
  · have hd' : inB (dropI L d q) (-100000000) 100000000 = false := by simpa using hd
    rw [hd']
    right
    refine ⟨by simp, ?_⟩
    by_cases h1 : dropI L d q < -100000000
    · exact .inl h1
    · right
      by_cases h2 : 100000000 < dropI L d q
      · exact h2
      · exact absurd (inB_true ⟨by omega, by omega⟩) hd
theorem mDrop {L d s : Int} (h : InWide L d s) (q : Int) (w : World) (hq : -100000 ≤ q ∧ q ≤ 100000) :
    Calls Tryz.prog 31 #[.agg #[.string mainB, .int .i64 0, .int .i64 1, .int .i64 L, .int .i64 d, .int .i64 s], .int .i64 q] w fun e w' => ∃ x xc : Int, e = .returned (.tuple #[.int .i64 x, .int .i64 xc]) ∧ DropIs L d q x xc ∧ Below w.heap.size w w' :=
  (implDropOf_any mainB 0 1 L d s q w (by decide)).mono fun _ _ ⟨he, hw⟩ => ⟨_, _, he, drop_ans h q hq, hw⟩
theorem sDrop {L d s : Int} (h : InWide L d s) (q : Int) (w : World) (hq : -100000 ≤ q ∧ q ≤ 100000) :
    Calls Tryz.prog 34 #[.agg #[.string mainB, .int .i64 0, .int .i64 1, .int .i64 L, .int .i64 d, .int .i64 s], .int .i64 q] w fun e w' => ∃ x xc : Int, e = .returned (.tuple #[.int .i64 x, .int .i64 xc]) ∧ DropIs L d q x xc ∧ Below w.heap.size w w' :=
  (specDropOf_any mainB 0 1 L d s q w (by decide)).mono fun _ _ ⟨he, hw⟩ => ⟨_, _, he, drop_ans h q hq, hw⟩
theorem mFar {L d s : Int} (h : InWide L d s) (q : Int) (w : World) (hq : 100000 < q) :
    Calls Tryz.prog 31 #[.agg #[.string mainB, .int .i64 0, .int .i64 1, .int .i64 L, .int .i64 d, .int .i64 s], .int .i64 q] w fun e w' => e = .returned (.tuple #[.int .i64 0, .int .i64 2]) ∧ Below w.heap.size w w' := by
  have k := implDropOf_any mainB 0 1 L d s q w (by decide)
  have ho := ok_wide h 0 1 (by omega) (by omega) (by omega)
  have hb : inB q (-100000) 100000 = false := inB_false (by omega)
  unfold dropOV dropOC at k
  simp only [ho, hb, Bool.and_false, Bool.false_and, Bool.true_and, Bool.false_eq_true, if_false, if_true] at k
  exact k
/-- the greatest flow with at most a drop -/
theorem mFlow {L d s : Int} (h : InDraw L d s) (g : Int) (w : World) (hg : 0 ≤ g ∧ g ≤ 100000000) :
    Calls Tryz.prog 32 #[.agg #[.string mainB, .int .i64 0, .int .i64 1, .int .i64 L, .int .i64 d, .int .i64 s], .int .i64 g] w fun e w' => ∃ m : Int, e = .returned (.tuple #[.int .i64 m, .int .i64 0]) ∧ 0 ≤ m ∧ m ≤ 100000 ∧ dropI L d m ≤ g ∧ 0 ≤ dropI L d m ∧ (m < 100000 → g < dropI L d (m + 1)) ∧ Below w.heap.size w w' := by
  have k := implFlowFor_any mainB 0 1 L d s g w (by decide)
  have ho := ok_main h
  have hb : inB g 0 100000000 = true := inB_true hg
  obtain ⟨hL, hd, hs⟩ := h
  simp only [ffrV, ffrC, ho, hb, Bool.and_self, if_true] at k
  obtain ⟨l1, l2, l3', l4'⟩ := flow_spec L d g (by omega) (by omega) (by omega)
  have l3 : ∀ x, 0 ≤ x → x < flowI L d g + 1 → dropI L d x < g + 1 := l3'
  have l4 : flowI L d g + 1 ≤ 100000 → g + 1 ≤ dropI L d (flowI L d g + 1) := l4'
  have h5 := (pow5_bd d (by omega) (by omega)).2.2.2.1
  have hz := drop_zero L d h5
  have hm : 0 ≤ flowI L d g := by
    by_cases hh : flowI L d g + 1 ≤ 0
    · have := l4 (by omega)
      have e : flowI L d g + 1 = 0 := by omega
      rw [e, hz] at this
      omega
    · omega
  refine k.mono fun _ _ ⟨he, hw⟩ => ⟨_, he, hm, by omega, ?_, drop_nn L d _ h5 (by omega) hm, fun hh => ?_, hw⟩
  · have := l3 (flowI L d g) (by omega) (by omega)
    omega
  · have := l4 (by omega)
    omega
/-- the least diameter with at most a drop -/
theorem mWidth {L d s : Int} (h : InDraw L d s) (q g : Int) (w : World) (hq : 0 ≤ q ∧ q ≤ 100000) (hg : 0 ≤ g ∧ g ≤ 100000000) :
    Calls Tryz.prog 33 #[.agg #[.string mainB, .int .i64 0, .int .i64 1, .int .i64 L, .int .i64 d, .int .i64 s], .int .i64 q, .int .i64 g] w fun e w' => ∃ x xc : Int, e = .returned (.tuple #[.int .i64 x, .int .i64 xc]) ∧ ((xc = 0 ∧ 20 ≤ x ∧ x ≤ 1000 ∧ dropI L x q ≤ g ∧ (20 < x → g < dropI L (x - 1) q)) ∨ xc = 3) ∧ Below w.heap.size w w' := by
  have k := implWidthFor_any mainB 0 1 L d s q g w (by decide)
  have ho := ok_main h
  have hb : inB g 0 100000000 = true := inB_true hg
  have hb2 : inB q (-100000) 100000 = true := inB_true (by omega)
  obtain ⟨hL, hd, hs⟩ := h
  obtain ⟨l1, l2, l3, l4⟩ := width_spec L q g (by omega)
  have ha : absI q = q := absI_of q hq.1
  by_cases hx : inB (widthI L q g) 20 1000 = true
  · simp only [wfrV, wfrC, ho, hb, hb2, hx, Bool.and_self, if_true] at k
    have hx2 := inB_iff.1 hx
    refine k.mono fun _ _ ⟨he, hw⟩ => ⟨_, _, he, .inl ⟨rfl, hx2.1, hx2.2, ?_, fun hh => ?_⟩, hw⟩
    · have := l4 hx2.2
      dsimp only at this
      rw [ha] at this
      omega
    · have := l3 (widthI L q g - 1) (by omega) (by omega)
      dsimp only at this
      rw [ha] at this
      omega
  · have hx' : inB (widthI L q g) 20 1000 = false := by simpa using hx
    simp only [wfrV, wfrC, ho, hb, hb2, hx', Bool.and_self, if_true, Bool.and_false, Bool.false_eq_true, if_false] at k
    exact k.mono fun _ _ ⟨he, hw⟩ => ⟨_, _, he, .inr rfl, hw⟩

end Go.Proofs.YtmopnkkpcgiafabGreatDoor
