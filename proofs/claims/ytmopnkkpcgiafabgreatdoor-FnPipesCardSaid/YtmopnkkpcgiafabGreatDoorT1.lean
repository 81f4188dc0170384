/-
  TurnPipe of both sides: a valid pipe with its ends exchanged.
-/
import Derived.Test.YtmopnkkpcgiafabGreatDoorP9
import Derived.Test.YtmopnkkpcgiafabGreatDoorP3
namespace Go.Proofs.YtmopnkkpcgiafabGreatDoor
open Go.ChangeShapes Go.WideShapes Go.ChangeAt Go.RowKit

/-- a pipe with a code -/
def pipeR (id : ByteArray) (f t L d s c : Int) : Ending := .returned (.tuple #[.agg #[.string id, .int .i64 f, .int .i64 t, .int .i64 L, .int .i64 d, .int .i64 s], .int .i64 c])
def turnR (id : ByteArray) (f t L d s : Int) : Ending := if okP id f t L d s then pipeR id t f L d s 0 else pipeR ByteArray.empty 0 0 0 0 0 1
theorem implTurnPipe_any (id : ByteArray) (f t L d s : Int) (w : World) (hs : id.size ≤ maxLen) :
    Calls Tryz.prog 27 #[.agg #[.string id, .int .i64 f, .int .i64 t, .int .i64 L, .int .i64 d, .int .i64 s]] w fun e w' => e = turnR id f t L d s ∧ Below w.heap.size w w' := by
  by_cases HO : okP id f t L d s = true
  · have hv : turnR id f t L d s = pipeR id t f L d s 0 := if_pos HO
    rw [hv]
    clear hv
    have hb : Below w.heap.size w ((w.alloc (.cells #[.string id, .int .i64 f, .int .i64 t, .int .i64 L, .int .i64 d, .int .i64 s] 40)).alloc (.cells #[.string ByteArray.empty, .int .i64 0, .int .i64 0, .int .i64 0, .int .i64 0, .int .i64 0] 40)) := bal (bal (Below.refl _ _) _) _
    have hb1 : Below (w.alloc (.cells #[.string id, .int .i64 f, .int .i64 t, .int .i64 L, .int .i64 d, .int .i64 s] 40)).heap.size (w.alloc (.cells #[.string id, .int .i64 f, .int .i64 t, .int .i64 L, .int .i64 d, .int .i64 s] 40)) ((w.alloc (.cells #[.string id, .int .i64 f, .int .i64 t, .int .i64 L, .int .i64 d, .int .i64 s] 40)).alloc (.cells #[.string ByteArray.empty, .int .i64 0, .int .i64 0, .int .i64 0, .int .i64 0, .int .i64 0] 40)) := bal (Below.refl _ _) _
    have P0 : PipeAt ((w.alloc (.cells #[.string id, .int .i64 f, .int .i64 t, .int .i64 L, .int .i64 d, .int .i64 s] 40)).alloc (.cells #[.string ByteArray.empty, .int .i64 0, .int .i64 0, .int .i64 0, .int .i64 0, .int .i64 0] 40)) w.heap.size id f t L d s := (PipeAt.new w id f t L d s 40).next hb1
    have F0 : Free6 ((w.alloc (.cells #[.string id, .int .i64 f, .int .i64 t, .int .i64 L, .int .i64 d, .int .i64 s] 40)).alloc (.cells #[.string ByteArray.empty, .int .i64 0, .int .i64 0, .int .i64 0, .int .i64 0, .int .i64 0] 40)) w.heap.size := (Free6.new w #[.string id, .int .i64 f, .int .i64 t, .int .i64 L, .int .i64 d, .int .i64 s] 40).keep (hb1.block _ (by simp))
    have e1 : (w.alloc (.cells #[.string id, .int .i64 f, .int .i64 t, .int .i64 L, .int .i64 d, .int .i64 s] 40)).heap.size = w.heap.size + 1 := by simp
    have P1 : PipeAt ((w.alloc (.cells #[.string id, .int .i64 f, .int .i64 t, .int .i64 L, .int .i64 d, .int .i64 s] 40)).alloc (.cells #[.string ByteArray.empty, .int .i64 0, .int .i64 0, .int .i64 0, .int .i64 0, .int .i64 0] 40)) (w.heap.size + 1) ByteArray.empty 0 0 0 0 0 := by rw [← e1]; exact PipeAt.new (w.alloc (.cells #[.string id, .int .i64 f, .int .i64 t, .int .i64 L, .int .i64 d, .int .i64 s] 40)) ByteArray.empty 0 0 0 0 0 40
    have F1 : Free6 ((w.alloc (.cells #[.string id, .int .i64 f, .int .i64 t, .int .i64 L, .int .i64 d, .int .i64 s] 40)).alloc (.cells #[.string ByteArray.empty, .int .i64 0, .int .i64 0, .int .i64 0, .int .i64 0, .int .i64 0] 40)) (w.heap.size + 1) := by rw [← e1]; exact Free6.new (w.alloc (.cells #[.string id, .int .i64 f, .int .i64 t, .int .i64 L, .int .i64 d, .int .i64 s] 40)) #[.string ByteArray.empty, .int .i64 0, .int .i64 0, .int .i64 0, .int .i64 0, .int .i64 0] 40
    go_enter Tryz.func27, Tryz.ntmps27
    go_wp2_with fail
    refine (implValidPipe_any id f t L d s _ hs).mono ?_
    rintro e w1 ⟨rfl, hb2⟩
    rw [HO]
    have hl0 : w.heap.size < ((w.alloc (.cells #[.string id, .int .i64 f, .int .i64 t, .int .i64 L, .int .i64 d, .int .i64 s] 40)).alloc (.cells #[.string ByteArray.empty, .int .i64 0, .int .i64 0, .int .i64 0, .int .i64 0, .int .i64 0] 40)).heap.size := by simp; omega
    have hl1 : w.heap.size + 1 < ((w.alloc (.cells #[.string id, .int .i64 f, .int .i64 t, .int .i64 L, .int .i64 d, .int .i64 s] 40)).alloc (.cells #[.string ByteArray.empty, .int .i64 0, .int .i64 0, .int .i64 0, .int .i64 0, .int .i64 0] 40)).heap.size := by simp
    have Q0 := P0.next hb2
    have Q1 := P1.next hb2
    have G0 := F0.keep (hb2.block _ hl0)
    have G1 := F1.keep (hb2.block _ hl1)
    have hb' := bnext hb hb2
    clear P0 P1 F0 F1 hb2 hb hb1
    obtain ⟨a0, a1, a2, a3, a4, a5⟩ := Q0
    obtain ⟨b0, b1, b2, b3, b4, b5⟩ := Q1
    obtain ⟨c0, c1, c2, c3, c4, c5⟩ := G0
    obtain ⟨d0, d1, d2, d3, d4, d5⟩ := G1
    go_wp2
    have hk1 := Below.heap_setCell w1 ⟨w.heap.size, 1, none⟩ (.int .i64 t) (w.heap.size + 1) (by simp)
    have hk2 := Below.heap_setCell (w1.setCell ⟨w.heap.size, 1, none⟩ (.int .i64 t)) ⟨w.heap.size, 2, none⟩ (.int .i64 f) (w.heap.size + 1) (by simp)
    have k0 : PipeAt w1 (w.heap.size + 1) ByteArray.empty 0 0 0 0 0 := ⟨b0, b1, b2, b3, b4, b5⟩
    have hF := ((((((PipeAt.keep (PipeAt.keep k0 hk1) hk2).set0 id).set1 t).set2 f).set3 L).set4 d).set5 s
    refine bodyPost_ret (results_pipe2 Tryz.results27 _ _ (w.heap.size + 1) id t f L d s rfl hF) rfl ⟨rfl, ?_⟩
    exact ((((((((hb'.setCell (p := ⟨w.heap.size, 1, none⟩) (Nat.le_refl _) _).setCell (p := ⟨w.heap.size, 2, none⟩) (Nat.le_refl _) _).setCell (p := ⟨w.heap.size + 1, 0, none⟩) (Nat.le_succ _) _).setCell (p := ⟨w.heap.size + 1, 1, none⟩) (Nat.le_succ _) _).setCell (p := ⟨w.heap.size + 1, 2, none⟩) (Nat.le_succ _) _).setCell (p := ⟨w.heap.size + 1, 3, none⟩) (Nat.le_succ _) _).setCell (p := ⟨w.heap.size + 1, 4, none⟩) (Nat.le_succ _) _).setCell (p := ⟨w.heap.size + 1, 5, none⟩) (Nat.le_succ _) _)
  · have HO : okP id f t L d s = false := by simpa using HO
    have hv : turnR id f t L d s = pipeR ByteArray.empty 0 0 0 0 0 1 := by unfold turnR; rw [HO]; rfl
    rw [hv]
    clear hv
    have hb : Below w.heap.size w ((w.alloc (.cells #[.string id, .int .i64 f, .int .i64 t, .int .i64 L, .int .i64 d, .int .i64 s] 40)).alloc (.cells #[.string ByteArray.empty, .int .i64 0, .int .i64 0, .int .i64 0, .int .i64 0, .int .i64 0] 40)) := bal (bal (Below.refl _ _) _) _
    have hb1 : Below (w.alloc (.cells #[.string id, .int .i64 f, .int .i64 t, .int .i64 L, .int .i64 d, .int .i64 s] 40)).heap.size (w.alloc (.cells #[.string id, .int .i64 f, .int .i64 t, .int .i64 L, .int .i64 d, .int .i64 s] 40)) ((w.alloc (.cells #[.string id, .int .i64 f, .int .i64 t, .int .i64 L, .int .i64 d, .int .i64 s] 40)).alloc (.cells #[.string ByteArray.empty, .int .i64 0, .int .i64 0, .int .i64 0, .int .i64 0, .int .i64 0] 40)) := bal (Below.refl _ _) _
    have P0 : PipeAt ((w.alloc (.cells #[.string id, .int .i64 f, .int .i64 t, .int .i64 L, .int .i64 d, .int .i64 s] 40)).alloc (.cells #[.string ByteArray.empty, .int .i64 0, .int .i64 0, .int .i64 0, .int .i64 0, .int .i64 0] 40)) w.heap.size id f t L d s := (PipeAt.new w id f t L d s 40).next hb1
    have F0 : Free6 ((w.alloc (.cells #[.string id, .int .i64 f, .int .i64 t, .int .i64 L, .int .i64 d, .int .i64 s] 40)).alloc (.cells #[.string ByteArray.empty, .int .i64 0, .int .i64 0, .int .i64 0, .int .i64 0, .int .i64 0] 40)) w.heap.size := (Free6.new w #[.string id, .int .i64 f, .int .i64 t, .int .i64 L, .int .i64 d, .int .i64 s] 40).keep (hb1.block _ (by simp))
    have e1 : (w.alloc (.cells #[.string id, .int .i64 f, .int .i64 t, .int .i64 L, .int .i64 d, .int .i64 s] 40)).heap.size = w.heap.size + 1 := by simp
    have P1 : PipeAt ((w.alloc (.cells #[.string id, .int .i64 f, .int .i64 t, .int .i64 L, .int .i64 d, .int .i64 s] 40)).alloc (.cells #[.string ByteArray.empty, .int .i64 0, .int .i64 0, .int .i64 0, .int .i64 0, .int .i64 0] 40)) (w.heap.size + 1) ByteArray.empty 0 0 0 0 0 := by rw [← e1]; exact PipeAt.new (w.alloc (.cells #[.string id, .int .i64 f, .int .i64 t, .int .i64 L, .int .i64 d, .int .i64 s] 40)) ByteArray.empty 0 0 0 0 0 40
    have F1 : Free6 ((w.alloc (.cells #[.string id, .int .i64 f, .int .i64 t, .int .i64 L, .int .i64 d, .int .i64 s] 40)).alloc (.cells #[.string ByteArray.empty, .int .i64 0, .int .i64 0, .int .i64 0, .int .i64 0, .int .i64 0] 40)) (w.heap.size + 1) := by rw [← e1]; exact Free6.new (w.alloc (.cells #[.string id, .int .i64 f, .int .i64 t, .int .i64 L, .int .i64 d, .int .i64 s] 40)) #[.string ByteArray.empty, .int .i64 0, .int .i64 0, .int .i64 0, .int .i64 0, .int .i64 0] 40
    go_enter Tryz.func27, Tryz.ntmps27
    go_wp2_with fail
    refine (implValidPipe_any id f t L d s _ hs).mono ?_
    rintro e w1 ⟨rfl, hb2⟩
    rw [HO]
    have hl0 : w.heap.size < ((w.alloc (.cells #[.string id, .int .i64 f, .int .i64 t, .int .i64 L, .int .i64 d, .int .i64 s] 40)).alloc (.cells #[.string ByteArray.empty, .int .i64 0, .int .i64 0, .int .i64 0, .int .i64 0, .int .i64 0] 40)).heap.size := by simp; omega
    have hl1 : w.heap.size + 1 < ((w.alloc (.cells #[.string id, .int .i64 f, .int .i64 t, .int .i64 L, .int .i64 d, .int .i64 s] 40)).alloc (.cells #[.string ByteArray.empty, .int .i64 0, .int .i64 0, .int .i64 0, .int .i64 0, .int .i64 0] 40)).heap.size := by simp
    have Q0 := P0.next hb2
    have Q1 := P1.next hb2
    have G0 := F0.keep (hb2.block _ hl0)
    have G1 := F1.keep (hb2.block _ hl1)
    have hb' := bnext hb hb2
    clear P0 P1 F0 F1 hb2 hb hb1
    obtain ⟨a0, a1, a2, a3, a4, a5⟩ := Q0
    obtain ⟨b0, b1, b2, b3, b4, b5⟩ := Q1
    obtain ⟨c0, c1, c2, c3, c4, c5⟩ := G0
    obtain ⟨d0, d1, d2, d3, d4, d5⟩ := G1
    go_wp2
    have k0 : PipeAt w1 (w.heap.size + 1) ByteArray.empty 0 0 0 0 0 := ⟨b0, b1, b2, b3, b4, b5⟩
    have hF := (((((k0.set0 ByteArray.empty).set1 0).set2 0).set3 0).set4 0).set5 0
    refine bodyPost_ret (results_pipe2 Tryz.results27 _ _ (w.heap.size + 1) ByteArray.empty 0 0 0 0 0 rfl hF) rfl ⟨rfl, ?_⟩
    exact ((((((hb'.setCell (p := ⟨w.heap.size + 1, 0, none⟩) (Nat.le_succ _) _).setCell (p := ⟨w.heap.size + 1, 1, none⟩) (Nat.le_succ _) _).setCell (p := ⟨w.heap.size + 1, 2, none⟩) (Nat.le_succ _) _).setCell (p := ⟨w.heap.size + 1, 3, none⟩) (Nat.le_succ _) _).setCell (p := ⟨w.heap.size + 1, 4, none⟩) (Nat.le_succ _) _).setCell (p := ⟨w.heap.size + 1, 5, none⟩) (Nat.le_succ _) _)
end Go.Proofs.YtmopnkkpcgiafabGreatDoor
