/-
  FlowFor and WidthFor: both sides answer the last flow, and the first width, with which a drop is not too great.
-/
import Derived.Test.YtmopnkkpcgiafabGreatDoorP3
namespace Go.Proofs.YtmopnkkpcgiafabGreatDoor
open Go.ChangeShapes Go.WideShapes Go.ChangeAt Go.RowKit Go.Shelf
set_option linter.unusedSimpArgs false


/-- the greatest flow whose drop is at most g -/
def flowI (L d g : Int) : Int := leastI 0 100000 (g + 1) (fun q => dropI L d q) - 1
theorem flow_spec (L d g : Int) (l0 : 0 ≤ L) (d0 : 20 ≤ d) (d1 : d ≤ 1000) : Least 0 100000 (g + 1) (fun q => dropI L d q) (flowI L d g + 1) := by
  have := leastI_spec 0 100000 (g + 1) (fun q => dropI L d q) (by omega) (fun x y x0 h _ => drop_mono L d x y (pow5_bd d d0 d1).2.2.2.1 l0 x0 h)
  unfold flowI
  rw [Int.sub_add_cancel]
  exact this
theorem firstDrop_any (id : ByteArray) (f t L d s : Int) (g : Int) (w : World) (l0 : 0 ≤ L) (l1 : L ≤ 10000) (d0 : 20 ≤ d) (d1 : d ≤ 1000) :
    Calls Tryz.prog 76 #[.int .i64 0, .int .i64 100000, .int .i64 (g + 1), .func (.func 73) #[.agg #[.string id, .int .i64 f, .int .i64 t, .int .i64 L, .int .i64 d, .int .i64 s]] #[]] w fun e w' => e = .returned (.int .i64 (flowI L d g + 1)) ∧ Below w.heap.size w w' := by
  have h := firstFrom_any 73 #[.agg #[.string id, .int .i64 f, .int .i64 t, .int .i64 L, .int .i64 d, .int .i64 s]] #[] 0 100000 (g + 1) (fun q => dropI L d q) w (enters_of Tryz.func73 (by kernel_rfl) rfl) (by omega) (by omega) (by omega)
    (fun wr x x0 x1 _ => by simpa using drop_any id f t L d s x wr l0 l1 d0 d1 (by omega) x1) (fun x y x0 h _ => drop_mono L d x y (pow5_bd d d0 d1).2.2.2.1 l0 x0 h)
  unfold flowI
  rw [Int.sub_add_cancel]
  exact h

def ffrV (id : ByteArray) (f t L d s : Int) (g : Int) : Int := if okP id f t L d s && inB g 0 100000000 then (flowI L d g) else 0
def ffrC (id : ByteArray) (f t L d s : Int) (g : Int) : Int := if okP id f t L d s then (if inB g 0 100000000 then 0 else 2) else 1

set_option maxHeartbeats 3200000 in
theorem implFlowFor_any (id : ByteArray) (f t L d s : Int) (g : Int) (w : World) (hs : id.size ≤ maxLen) : Calls Tryz.prog 32 #[.agg #[.string id, .int .i64 f, .int .i64 t, .int .i64 L, .int .i64 d, .int .i64 s], .int .i64 g] w fun e w' => e = .returned (.tuple #[.int .i64 (ffrV id f t L d s g), .int .i64 (ffrC id f t L d s g)]) ∧ Below w.heap.size w w' := by
  by_cases ho : okP id f t L d s = true
  · skip
    by_cases k1 : inB g 0 100000000 = true
    · skip
      have hv : ffrV id f t L d s g = flowI L d g := by unfold ffrV; simp [*]
      have hc : ffrC id f t L d s g = 0 := by unfold ffrC; simp [*]
      rw [hv, hc]
      clear hv hc
      have hcv : codeP id f t L d s true = 0 := by unfold codeP; simp [*]
      have HPC : Hid (∀ wx, Calls Tryz.prog 71 #[.agg #[.string id, .int .i64 f, .int .i64 t, .int .i64 L, .int .i64 d, .int .i64 s], .bool true] wx fun e w' => e = .returned (.int .i64 0) ∧ Below wx.heap.size wx w') := Lib.hid fun wx => by
        have := pipeCode_any id f t L d s true wx hs
        rw [hcv] at this
        exact this
      clear hcv
      obtain ⟨-, -, -, -, ⟨l0, l1⟩, ⟨d0, d1⟩, ⟨s0, s1⟩⟩ := okP_bd id f t L d s ho
      have kg := inB_iff.1 k1
      have hF := flow_spec L d g (by omega) d0 d1
      obtain ⟨r0, r1, -, -⟩ := hF
      have HF := Lib.hid (fun wx => firstDrop_any id f t L d s g wx (by omega) l1 d0 d1)
      generalize flowI L d g = r at *
      have hp := PipeAt.new w id f t L d s 40
      have hb : Below w.heap.size w (w.alloc (.cells #[.string id, .int .i64 f, .int .i64 t, .int .i64 L, .int .i64 d, .int .i64 s] 40)) := bal (Below.refl _ _) _
      go_enter Tryz.func32, Tryz.ntmps32
      go_wp2_with fail
      have hb : Below w.heap.size w (w.alloc (.cells #[.string id, .int .i64 f, .int .i64 t, .int .i64 L, .int .i64 d, .int .i64 s] 40)).drew := below_drewN hb 1
      have hp : PipeAt (w.alloc (.cells #[.string id, .int .i64 f, .int .i64 t, .int .i64 L, .int .i64 d, .int .i64 s] 40)).drew w.heap.size id f t L d s := hp
      have ⟨p0, p1, p2, p3, p4, p5⟩ := hp
      go_region_held3 (fun w' => w'.cell? ⟨w.heap.size, 0, none⟩ = some (.string id) ∧ w'.cell? ⟨w.heap.size, 1, none⟩ = some (.int .i64 f) ∧ w'.cell? ⟨w.heap.size, 2, none⟩ = some (.int .i64 t) ∧ w'.cell? ⟨w.heap.size, 3, none⟩ = some (.int .i64 L) ∧ w'.cell? ⟨w.heap.size, 4, none⟩ = some (.int .i64 d) ∧ w'.cell? ⟨w.heap.size, 5, none⟩ = some (.int .i64 s)) (exact ⟨p0, p1, p2, p3, p4, p5⟩) (first | (go_at_call 75; refine (isPressure_any _ _).mono ?_; rintro e w' ⟨rfl, hb'⟩; have hb := bnext hb hb'; have hp := PipeAt.next hp hb'; have ⟨p0, p1, p2, p3, p4, p5⟩ := hp) | (go_at_call 71; refine (HPC.out _).mono ?_; rintro e w' ⟨rfl, hb'⟩; have hb := bnext hb hb'; have hp := PipeAt.next hp hb'; have ⟨p0, p1, p2, p3, p4, p5⟩ := hp))
      go_wp2_with (first | (go_at_call 76; refine (HF.out _).mono ?_; rintro e w' ⟨rfl, hb'⟩; first | have hb := bnext hb hb' | have hb := bnext (bal hb _) hb' | have hb := bnext (bal (bal hb _) _) hb' | have hb := bnext (bal (bal (bal hb _) _) _) hb' | have hb := bnext (bal (bal (bal (bal hb _) _) _) _) hb' | have hb := bnext (bal (bal (bal (bal (bal hb _) _) _) _) _) hb'))
      all_goals go_ret2
      all_goals (first | exact ⟨rfl, hb⟩ | exact ⟨rfl, (bal hb _)⟩ | exact ⟨rfl, (bal (bal hb _) _)⟩ | exact ⟨rfl, (bal (bal (bal hb _) _) _)⟩)
    · have k1' : inB g 0 100000000 = false := by simpa using k1
      have hv : ffrV id f t L d s g = 0 := by unfold ffrV; simp [*]
      have hc : ffrC id f t L d s g = 2 := by unfold ffrC; simp [*]
      rw [hv, hc]
      clear hv hc
      have hcv : codeP id f t L d s false = 2 := by unfold codeP; simp [*]
      have HPC : Hid (∀ wx, Calls Tryz.prog 71 #[.agg #[.string id, .int .i64 f, .int .i64 t, .int .i64 L, .int .i64 d, .int .i64 s], .bool false] wx fun e w' => e = .returned (.int .i64 2) ∧ Below wx.heap.size wx w') := Lib.hid fun wx => by
        have := pipeCode_any id f t L d s false wx hs
        rw [hcv] at this
        exact this
      clear hcv
      have hp := PipeAt.new w id f t L d s 40
      have hb : Below w.heap.size w (w.alloc (.cells #[.string id, .int .i64 f, .int .i64 t, .int .i64 L, .int .i64 d, .int .i64 s] 40)) := bal (Below.refl _ _) _
      go_enter Tryz.func32, Tryz.ntmps32
      go_wp2_with fail
      have hb : Below w.heap.size w (w.alloc (.cells #[.string id, .int .i64 f, .int .i64 t, .int .i64 L, .int .i64 d, .int .i64 s] 40)).drew := below_drewN hb 1
      have hp : PipeAt (w.alloc (.cells #[.string id, .int .i64 f, .int .i64 t, .int .i64 L, .int .i64 d, .int .i64 s] 40)).drew w.heap.size id f t L d s := hp
      have ⟨p0, p1, p2, p3, p4, p5⟩ := hp
      go_region_held3 (fun w' => w'.cell? ⟨w.heap.size, 0, none⟩ = some (.string id) ∧ w'.cell? ⟨w.heap.size, 1, none⟩ = some (.int .i64 f) ∧ w'.cell? ⟨w.heap.size, 2, none⟩ = some (.int .i64 t) ∧ w'.cell? ⟨w.heap.size, 3, none⟩ = some (.int .i64 L) ∧ w'.cell? ⟨w.heap.size, 4, none⟩ = some (.int .i64 d) ∧ w'.cell? ⟨w.heap.size, 5, none⟩ = some (.int .i64 s)) (exact ⟨p0, p1, p2, p3, p4, p5⟩) (first | (go_at_call 75; refine (isPressure_any _ _).mono ?_; rintro e w' ⟨rfl, hb'⟩; have hb := bnext hb hb'; have hp := PipeAt.next hp hb'; have ⟨p0, p1, p2, p3, p4, p5⟩ := hp) | (go_at_call 71; refine (HPC.out _).mono ?_; rintro e w' ⟨rfl, hb'⟩; have hb := bnext hb hb'; have hp := PipeAt.next hp hb'; have ⟨p0, p1, p2, p3, p4, p5⟩ := hp))
      go_wp2
      all_goals go_ret2
      all_goals (first | exact ⟨rfl, hb⟩ | exact ⟨rfl, (bal hb _)⟩ | exact ⟨rfl, (bal (bal hb _) _)⟩ | exact ⟨rfl, (bal (bal (bal hb _) _) _)⟩)
  · have ho' : okP id f t L d s = false := by simpa using ho
    by_cases k1 : inB g 0 100000000 = true
    · skip
      have hv : ffrV id f t L d s g = 0 := by unfold ffrV; simp [*]
      have hc : ffrC id f t L d s g = 1 := by unfold ffrC; simp [*]
      rw [hv, hc]
      clear hv hc
      have hcv : codeP id f t L d s true = 1 := by unfold codeP; simp [*]
      have HPC : Hid (∀ wx, Calls Tryz.prog 71 #[.agg #[.string id, .int .i64 f, .int .i64 t, .int .i64 L, .int .i64 d, .int .i64 s], .bool true] wx fun e w' => e = .returned (.int .i64 1) ∧ Below wx.heap.size wx w') := Lib.hid fun wx => by
        have := pipeCode_any id f t L d s true wx hs
        rw [hcv] at this
        exact this
      clear hcv
      have hp := PipeAt.new w id f t L d s 40
      have hb : Below w.heap.size w (w.alloc (.cells #[.string id, .int .i64 f, .int .i64 t, .int .i64 L, .int .i64 d, .int .i64 s] 40)) := bal (Below.refl _ _) _
      go_enter Tryz.func32, Tryz.ntmps32
      go_wp2_with fail
      have hb : Below w.heap.size w (w.alloc (.cells #[.string id, .int .i64 f, .int .i64 t, .int .i64 L, .int .i64 d, .int .i64 s] 40)).drew := below_drewN hb 1
      have hp : PipeAt (w.alloc (.cells #[.string id, .int .i64 f, .int .i64 t, .int .i64 L, .int .i64 d, .int .i64 s] 40)).drew w.heap.size id f t L d s := hp
      have ⟨p0, p1, p2, p3, p4, p5⟩ := hp
      go_region_held3 (fun w' => w'.cell? ⟨w.heap.size, 0, none⟩ = some (.string id) ∧ w'.cell? ⟨w.heap.size, 1, none⟩ = some (.int .i64 f) ∧ w'.cell? ⟨w.heap.size, 2, none⟩ = some (.int .i64 t) ∧ w'.cell? ⟨w.heap.size, 3, none⟩ = some (.int .i64 L) ∧ w'.cell? ⟨w.heap.size, 4, none⟩ = some (.int .i64 d) ∧ w'.cell? ⟨w.heap.size, 5, none⟩ = some (.int .i64 s)) (exact ⟨p0, p1, p2, p3, p4, p5⟩) (first | (go_at_call 75; refine (isPressure_any _ _).mono ?_; rintro e w' ⟨rfl, hb'⟩; have hb := bnext hb hb'; have hp := PipeAt.next hp hb'; have ⟨p0, p1, p2, p3, p4, p5⟩ := hp) | (go_at_call 71; refine (HPC.out _).mono ?_; rintro e w' ⟨rfl, hb'⟩; have hb := bnext hb hb'; have hp := PipeAt.next hp hb'; have ⟨p0, p1, p2, p3, p4, p5⟩ := hp))
      go_wp2
      all_goals go_ret2
      all_goals (first | exact ⟨rfl, hb⟩ | exact ⟨rfl, (bal hb _)⟩ | exact ⟨rfl, (bal (bal hb _) _)⟩ | exact ⟨rfl, (bal (bal (bal hb _) _) _)⟩)
    · have k1' : inB g 0 100000000 = false := by simpa using k1
      have hv : ffrV id f t L d s g = 0 := by unfold ffrV; simp [*]
      have hc : ffrC id f t L d s g = 1 := by unfold ffrC; simp [*]
      rw [hv, hc]
      clear hv hc
      have hcv : codeP id f t L d s false = 1 := by unfold codeP; simp [*]
      have HPC : Hid (∀ wx, Calls Tryz.prog 71 #[.agg #[.string id, .int .i64 f, .int .i64 t, .int .i64 L, .int .i64 d, .int .i64 s], .bool false] wx fun e w' => e = .returned (.int .i64 1) ∧ Below wx.heap.size wx w') := Lib.hid fun wx => by
        have := pipeCode_any id f t L d s false wx hs
        rw [hcv] at this
        exact this
      clear hcv
      have hp := PipeAt.new w id f t L d s 40
      have hb : Below w.heap.size w (w.alloc (.cells #[.string id, .int .i64 f, .int .i64 t, .int .i64 L, .int .i64 d, .int .i64 s] 40)) := bal (Below.refl _ _) _
      go_enter Tryz.func32, Tryz.ntmps32
      go_wp2_with fail
      have hb : Below w.heap.size w (w.alloc (.cells #[.string id, .int .i64 f, .int .i64 t, .int .i64 L, .int .i64 d, .int .i64 s] 40)).drew := below_drewN hb 1
      have hp : PipeAt (w.alloc (.cells #[.string id, .int .i64 f, .int .i64 t, .int .i64 L, .int .i64 d, .int .i64 s] 40)).drew w.heap.size id f t L d s := hp
      have ⟨p0, p1, p2, p3, p4, p5⟩ := hp
      go_region_held3 (fun w' => w'.cell? ⟨w.heap.size, 0, none⟩ = some (.string id) ∧ w'.cell? ⟨w.heap.size, 1, none⟩ = some (.int .i64 f) ∧ w'.cell? ⟨w.heap.size, 2, none⟩ = some (.int .i64 t) ∧ w'.cell? ⟨w.heap.size, 3, none⟩ = some (.int .i64 L) ∧ w'.cell? ⟨w.heap.size, 4, none⟩ = some (.int .i64 d) ∧ w'.cell? ⟨w.heap.size, 5, none⟩ = some (.int .i64 s)) (exact ⟨p0, p1, p2, p3, p4, p5⟩) (first | (go_at_call 75; refine (isPressure_any _ _).mono ?_; rintro e w' ⟨rfl, hb'⟩; have hb := bnext hb hb'; have hp := PipeAt.next hp hb'; have ⟨p0, p1, p2, p3, p4, p5⟩ := hp) | (go_at_call 71; refine (HPC.out _).mono ?_; rintro e w' ⟨rfl, hb'⟩; have hb := bnext hb hb'; have hp := PipeAt.next hp hb'; have ⟨p0, p1, p2, p3, p4, p5⟩ := hp))
      go_wp2
      all_goals go_ret2
      all_goals (first | exact ⟨rfl, hb⟩ | exact ⟨rfl, (bal hb _)⟩ | exact ⟨rfl, (bal (bal hb _) _)⟩ | exact ⟨rfl, (bal (bal (bal hb _) _) _)⟩)

end Go.Proofs.YtmopnkkpcgiafabGreatDoor
