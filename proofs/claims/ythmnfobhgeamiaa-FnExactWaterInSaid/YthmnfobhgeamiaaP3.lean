/-
  Drops, water, losses: what both sides answer of a valid pipe; bounds of its numbers.
-/
import Derived.Test.YthmnfobhgeamiaaP2
import Derived.Deep.RegionHeld3
namespace Go.Proofs.Ythmnfobhgeamiaa
open Go.ChangeShapes Go.WideShapes Go.ChangeAt Go.RowKit Go.Shelf
set_option linter.unusedSimpArgs false


theorem Drawn.below {w w' : World} (h : Drawn w w') : Below w.heap.size w w' := by
  obtain ⟨n, rfl⟩ := h
  exact below_drewN (Below.refl _ _) _
theorem okP_bd (id : ByteArray) (f t L d s : Int) (h : okP id f t L d s = true) : nameL id.data.toList = true ∧ (0 ≤ f ∧ f ≤ 15) ∧ (0 ≤ t ∧ t ≤ 15) ∧ f ≠ t ∧ (1 ≤ L ∧ L ≤ 10000) ∧ (20 ≤ d ∧ d ≤ 1000) ∧ (0 ≤ s ∧ s ≤ 5000) := by
  unfold okP at h
  simp only [Bool.and_eq_true, inB_iff, Bool.not_eq_true', decide_eq_false_iff_not] at h
  obtain ⟨a, b, c, e, g, i, j⟩ := h
  exact ⟨a, b, c, e, g, i, j⟩

def dropOV (id : ByteArray) (f t L d s : Int) (q : Int) : Int := if okP id f t L d s && inB q (-100000) 100000 && inB (dropI L d q) (-100000000) 100000000 then (dropI L d q) else 0
def dropOC (id : ByteArray) (f t L d s : Int) (q : Int) : Int := if okP id f t L d s then (if inB q (-100000) 100000 then (if inB (dropI L d q) (-100000000) 100000000 then 0 else 6) else 2) else 1

set_option maxHeartbeats 3200000 in
theorem implDropOf_any (id : ByteArray) (f t L d s : Int) (q : Int) (w : World) (hs : id.size ≤ maxLen) : Calls Try.prog 34 #[.agg #[.string id, .int .i64 f, .int .i64 t, .int .i64 L, .int .i64 d, .int .i64 s], .int .i64 q] w fun e w' => e = .returned (.tuple #[.int .i64 (dropOV id f t L d s q), .int .i64 (dropOC id f t L d s q)]) ∧ Below w.heap.size w w' := by
  by_cases ho : okP id f t L d s = true
  · skip
    by_cases k1 : inB q (-100000) 100000 = true
    · skip
      by_cases kd : inB (dropI L d q) (-100000000) 100000000 = true
      · skip
        have hv : dropOV id f t L d s q = dropI L d q := by unfold dropOV; simp [*]
        have hc : dropOC id f t L d s q = 0 := by unfold dropOC; simp [*]
        rw [hv, hc]
        clear hv hc
        have hcv : codeP id f t L d s true = 0 := by unfold codeP; simp [*]
        have HPC : Hid (∀ wx, Calls Try.prog 67 #[.agg #[.string id, .int .i64 f, .int .i64 t, .int .i64 L, .int .i64 d, .int .i64 s], .bool true] wx fun e w' => e = .returned (.int .i64 0) ∧ Below wx.heap.size wx w') := Lib.hid fun wx => by
          have := pipeCode_any id f t L d s true wx hs
          rw [hcv] at this
          exact this
        clear hcv
        obtain ⟨-, -, -, -, ⟨l0, l1⟩, ⟨d0, d1⟩, ⟨s0, s1⟩⟩ := okP_bd id f t L d s ho
        have hlim := drop_lim L d q (by omega) l1 (inB_iff.1 k1).1 (inB_iff.1 k1).2 d0 d1
        have HD := Lib.hid (fun wx => drop_any id f t L d s q wx (by omega) l1 d0 d1 (inB_iff.1 k1).1 (inB_iff.1 k1).2)
        have hr : ¬ 100000000 < absI (dropI L d q) := by have := inB_iff.1 kd; unfold absI; split <;> omega
        generalize dropI L d q = r at *
        have hr2 : absI r ≤ 100000000 := by omega
        have hp := PipeAt.new w id f t L d s 33
        have hb : Below w.heap.size w (w.alloc (.cells #[.string id, .int .i64 f, .int .i64 t, .int .i64 L, .int .i64 d, .int .i64 s] 33)) := bal (Below.refl _ _) _
        go_enter Try.func34, Try.ntmps34
        go_wp2_with fail
        have hb : Below w.heap.size w (w.alloc (.cells #[.string id, .int .i64 f, .int .i64 t, .int .i64 L, .int .i64 d, .int .i64 s] 33)).drew := below_drewN hb 1
        have hp : PipeAt (w.alloc (.cells #[.string id, .int .i64 f, .int .i64 t, .int .i64 L, .int .i64 d, .int .i64 s] 33)).drew w.heap.size id f t L d s := hp
        have ⟨p0, p1, p2, p3, p4, p5⟩ := hp
        go_region_held3 (fun w' => w'.cell? ⟨w.heap.size, 0, none⟩ = some (.string id) ∧ w'.cell? ⟨w.heap.size, 1, none⟩ = some (.int .i64 f) ∧ w'.cell? ⟨w.heap.size, 2, none⟩ = some (.int .i64 t) ∧ w'.cell? ⟨w.heap.size, 3, none⟩ = some (.int .i64 L) ∧ w'.cell? ⟨w.heap.size, 4, none⟩ = some (.int .i64 d) ∧ w'.cell? ⟨w.heap.size, 5, none⟩ = some (.int .i64 s)) (exact ⟨p0, p1, p2, p3, p4, p5⟩) (first | (go_at_call 63; refine (isFlow_any _ _).mono ?_; rintro e w' ⟨rfl, hb'⟩; have hb := bnext hb hb'; have hp := PipeAt.next hp hb'; have ⟨p0, p1, p2, p3, p4, p5⟩ := hp) | (go_at_call 67; refine (HPC.out _).mono ?_; rintro e w' ⟨rfl, hb'⟩; have hb := bnext hb hb'; have hp := PipeAt.next hp hb'; have ⟨p0, p1, p2, p3, p4, p5⟩ := hp))
        go_wp2_with (first | (go_at_call 68; refine (HD.out _).mono ?_; rintro e w' ⟨rfl, hb'⟩; first | have hb := bnext hb hb' | have hb := bnext (bal hb _) hb' | have hb := bnext (bal (bal hb _) _) hb' | have hb := bnext (bal (bal (bal hb _) _) _) hb' | have hb := bnext (bal (bal (bal (bal hb _) _) _) _) hb' | have hb := bnext (bal (bal (bal (bal (bal hb _) _) _) _) _) hb') | (go_at_call 69; refine (absolute_any _ _ (by omega) (by omega)).mono ?_; rintro e w' ⟨rfl, rfl⟩))
        all_goals go_ret2
        all_goals (first | exact ⟨rfl, hb⟩ | exact ⟨rfl, (bal hb _)⟩ | exact ⟨rfl, (bal (bal hb _) _)⟩ | exact ⟨rfl, (bal (bal (bal hb _) _) _)⟩)
      · have kd' : inB (dropI L d q) (-100000000) 100000000 = false := by simpa using kd
        have hv : dropOV id f t L d s q = 0 := by unfold dropOV; simp [*]
        have hc : dropOC id f t L d s q = 6 := by unfold dropOC; simp [*]
        rw [hv, hc]
        clear hv hc
        have hcv : codeP id f t L d s true = 0 := by unfold codeP; simp [*]
        have HPC : Hid (∀ wx, Calls Try.prog 67 #[.agg #[.string id, .int .i64 f, .int .i64 t, .int .i64 L, .int .i64 d, .int .i64 s], .bool true] wx fun e w' => e = .returned (.int .i64 0) ∧ Below wx.heap.size wx w') := Lib.hid fun wx => by
          have := pipeCode_any id f t L d s true wx hs
          rw [hcv] at this
          exact this
        clear hcv
        obtain ⟨-, -, -, -, ⟨l0, l1⟩, ⟨d0, d1⟩, ⟨s0, s1⟩⟩ := okP_bd id f t L d s ho
        have hlim := drop_lim L d q (by omega) l1 (inB_iff.1 k1).1 (inB_iff.1 k1).2 d0 d1
        have HD := Lib.hid (fun wx => drop_any id f t L d s q wx (by omega) l1 d0 d1 (inB_iff.1 k1).1 (inB_iff.1 k1).2)
        have hr : 100000000 < absI (dropI L d q) := by 
          by_cases hh : -100000000 ≤ dropI L d q ∧ dropI L d q ≤ 100000000
          · rw [inB_true hh] at kd'; cases kd'
          · unfold absI; split <;> omega
        generalize dropI L d q = r at *
        have hp := PipeAt.new w id f t L d s 33
        have hb : Below w.heap.size w (w.alloc (.cells #[.string id, .int .i64 f, .int .i64 t, .int .i64 L, .int .i64 d, .int .i64 s] 33)) := bal (Below.refl _ _) _
        go_enter Try.func34, Try.ntmps34
        go_wp2_with fail
        have hb : Below w.heap.size w (w.alloc (.cells #[.string id, .int .i64 f, .int .i64 t, .int .i64 L, .int .i64 d, .int .i64 s] 33)).drew := below_drewN hb 1
        have hp : PipeAt (w.alloc (.cells #[.string id, .int .i64 f, .int .i64 t, .int .i64 L, .int .i64 d, .int .i64 s] 33)).drew w.heap.size id f t L d s := hp
        have ⟨p0, p1, p2, p3, p4, p5⟩ := hp
        go_region_held3 (fun w' => w'.cell? ⟨w.heap.size, 0, none⟩ = some (.string id) ∧ w'.cell? ⟨w.heap.size, 1, none⟩ = some (.int .i64 f) ∧ w'.cell? ⟨w.heap.size, 2, none⟩ = some (.int .i64 t) ∧ w'.cell? ⟨w.heap.size, 3, none⟩ = some (.int .i64 L) ∧ w'.cell? ⟨w.heap.size, 4, none⟩ = some (.int .i64 d) ∧ w'.cell? ⟨w.heap.size, 5, none⟩ = some (.int .i64 s)) (exact ⟨p0, p1, p2, p3, p4, p5⟩) (first | (go_at_call 63; refine (isFlow_any _ _).mono ?_; rintro e w' ⟨rfl, hb'⟩; have hb := bnext hb hb'; have hp := PipeAt.next hp hb'; have ⟨p0, p1, p2, p3, p4, p5⟩ := hp) | (go_at_call 67; refine (HPC.out _).mono ?_; rintro e w' ⟨rfl, hb'⟩; have hb := bnext hb hb'; have hp := PipeAt.next hp hb'; have ⟨p0, p1, p2, p3, p4, p5⟩ := hp))
        go_wp2_with (first | (go_at_call 68; refine (HD.out _).mono ?_; rintro e w' ⟨rfl, hb'⟩; first | have hb := bnext hb hb' | have hb := bnext (bal hb _) hb' | have hb := bnext (bal (bal hb _) _) hb' | have hb := bnext (bal (bal (bal hb _) _) _) hb' | have hb := bnext (bal (bal (bal (bal hb _) _) _) _) hb' | have hb := bnext (bal (bal (bal (bal (bal hb _) _) _) _) _) hb') | (go_at_call 69; refine (absolute_any _ _ (by omega) (by omega)).mono ?_; rintro e w' ⟨rfl, rfl⟩))
        all_goals go_ret2
        all_goals (first | exact ⟨rfl, hb⟩ | exact ⟨rfl, (bal hb _)⟩ | exact ⟨rfl, (bal (bal hb _) _)⟩ | exact ⟨rfl, (bal (bal (bal hb _) _) _)⟩)
    · have k1' : inB q (-100000) 100000 = false := by simpa using k1
      have hv : dropOV id f t L d s q = 0 := by unfold dropOV; simp [*]
      have hc : dropOC id f t L d s q = 2 := by unfold dropOC; simp [*]
      rw [hv, hc]
      clear hv hc
      have hcv : codeP id f t L d s false = 2 := by unfold codeP; simp [*]
      have HPC : Hid (∀ wx, Calls Try.prog 67 #[.agg #[.string id, .int .i64 f, .int .i64 t, .int .i64 L, .int .i64 d, .int .i64 s], .bool false] wx fun e w' => e = .returned (.int .i64 2) ∧ Below wx.heap.size wx w') := Lib.hid fun wx => by
        have := pipeCode_any id f t L d s false wx hs
        rw [hcv] at this
        exact this
      clear hcv
      have hp := PipeAt.new w id f t L d s 33
      have hb : Below w.heap.size w (w.alloc (.cells #[.string id, .int .i64 f, .int .i64 t, .int .i64 L, .int .i64 d, .int .i64 s] 33)) := bal (Below.refl _ _) _
      go_enter Try.func34, Try.ntmps34
      go_wp2_with fail
      have hb : Below w.heap.size w (w.alloc (.cells #[.string id, .int .i64 f, .int .i64 t, .int .i64 L, .int .i64 d, .int .i64 s] 33)).drew := below_drewN hb 1
      have hp : PipeAt (w.alloc (.cells #[.string id, .int .i64 f, .int .i64 t, .int .i64 L, .int .i64 d, .int .i64 s] 33)).drew w.heap.size id f t L d s := hp
      have ⟨p0, p1, p2, p3, p4, p5⟩ := hp
      go_region_held3 (fun w' => w'.cell? ⟨w.heap.size, 0, none⟩ = some (.string id) ∧ w'.cell? ⟨w.heap.size, 1, none⟩ = some (.int .i64 f) ∧ w'.cell? ⟨w.heap.size, 2, none⟩ = some (.int .i64 t) ∧ w'.cell? ⟨w.heap.size, 3, none⟩ = some (.int .i64 L) ∧ w'.cell? ⟨w.heap.size, 4, none⟩ = some (.int .i64 d) ∧ w'.cell? ⟨w.heap.size, 5, none⟩ = some (.int .i64 s)) (exact ⟨p0, p1, p2, p3, p4, p5⟩) (first | (go_at_call 63; refine (isFlow_any _ _).mono ?_; rintro e w' ⟨rfl, hb'⟩; have hb := bnext hb hb'; have hp := PipeAt.next hp hb'; have ⟨p0, p1, p2, p3, p4, p5⟩ := hp) | (go_at_call 67; refine (HPC.out _).mono ?_; rintro e w' ⟨rfl, hb'⟩; have hb := bnext hb hb'; have hp := PipeAt.next hp hb'; have ⟨p0, p1, p2, p3, p4, p5⟩ := hp))
      go_wp2
      all_goals go_ret2
      all_goals (first | exact ⟨rfl, hb⟩ | exact ⟨rfl, (bal hb _)⟩ | exact ⟨rfl, (bal (bal hb _) _)⟩ | exact ⟨rfl, (bal (bal (bal hb _) _) _)⟩)
  · have ho' : okP id f t L d s = false := by simpa using ho
    by_cases k1 : inB q (-100000) 100000 = true
    · skip
      have hv : dropOV id f t L d s q = 0 := by unfold dropOV; simp [*]
      have hc : dropOC id f t L d s q = 1 := by unfold dropOC; simp [*]
      rw [hv, hc]
      clear hv hc
      have hcv : codeP id f t L d s true = 1 := by unfold codeP; simp [*]
      have HPC : Hid (∀ wx, Calls Try.prog 67 #[.agg #[.string id, .int .i64 f, .int .i64 t, .int .i64 L, .int .i64 d, .int .i64 s], .bool true] wx fun e w' => e = .returned (.int .i64 1) ∧ Below wx.heap.size wx w') := Lib.hid fun wx => by
        have := pipeCode_any id f t L d s true wx hs
        rw [hcv] at this
        exact this
      clear hcv
      have hp := PipeAt.new w id f t L d s 33
      have hb : Below w.heap.size w (w.alloc (.cells #[.string id, .int .i64 f, .int .i64 t, .int .i64 L, .int .i64 d, .int .i64 s] 33)) := bal (Below.refl _ _) _
      go_enter Try.func34, Try.ntmps34
      go_wp2_with fail
      have hb : Below w.heap.size w (w.alloc (.cells #[.string id, .int .i64 f, .int .i64 t, .int .i64 L, .int .i64 d, .int .i64 s] 33)).drew := below_drewN hb 1
      have hp : PipeAt (w.alloc (.cells #[.string id, .int .i64 f, .int .i64 t, .int .i64 L, .int .i64 d, .int .i64 s] 33)).drew w.heap.size id f t L d s := hp
      have ⟨p0, p1, p2, p3, p4, p5⟩ := hp
      go_region_held3 (fun w' => w'.cell? ⟨w.heap.size, 0, none⟩ = some (.string id) ∧ w'.cell? ⟨w.heap.size, 1, none⟩ = some (.int .i64 f) ∧ w'.cell? ⟨w.heap.size, 2, none⟩ = some (.int .i64 t) ∧ w'.cell? ⟨w.heap.size, 3, none⟩ = some (.int .i64 L) ∧ w'.cell? ⟨w.heap.size, 4, none⟩ = some (.int .i64 d) ∧ w'.cell? ⟨w.heap.size, 5, none⟩ = some (.int .i64 s)) (exact ⟨p0, p1, p2, p3, p4, p5⟩) (first | (go_at_call 63; refine (isFlow_any _ _).mono ?_; rintro e w' ⟨rfl, hb'⟩; have hb := bnext hb hb'; have hp := PipeAt.next hp hb'; have ⟨p0, p1, p2, p3, p4, p5⟩ := hp) | (go_at_call 67; refine (HPC.out _).mono ?_; rintro e w' ⟨rfl, hb'⟩; have hb := bnext hb hb'; have hp := PipeAt.next hp hb'; have ⟨p0, p1, p2, p3, p4, p5⟩ := hp))
      go_wp2
      all_goals go_ret2
      all_goals (first | exact ⟨rfl, hb⟩ | exact ⟨rfl, (bal hb _)⟩ | exact ⟨rfl, (bal (bal hb _) _)⟩ | exact ⟨rfl, (bal (bal (bal hb _) _) _)⟩)
    · have k1' : inB q (-100000) 100000 = false := by simpa using k1
      have hv : dropOV id f t L d s q = 0 := by unfold dropOV; simp [*]
      have hc : dropOC id f t L d s q = 1 := by unfold dropOC; simp [*]
      rw [hv, hc]
      clear hv hc
      have hcv : codeP id f t L d s false = 1 := by unfold codeP; simp [*]
      have HPC : Hid (∀ wx, Calls Try.prog 67 #[.agg #[.string id, .int .i64 f, .int .i64 t, .int .i64 L, .int .i64 d, .int .i64 s], .bool false] wx fun e w' => e = .returned (.int .i64 1) ∧ Below wx.heap.size wx w') := Lib.hid fun wx => by
        have := pipeCode_any id f t L d s false wx hs
        rw [hcv] at this
        exact this
      clear hcv
      have hp := PipeAt.new w id f t L d s 33
      have hb : Below w.heap.size w (w.alloc (.cells #[.string id, .int .i64 f, .int .i64 t, .int .i64 L, .int .i64 d, .int .i64 s] 33)) := bal (Below.refl _ _) _
      go_enter Try.func34, Try.ntmps34
      go_wp2_with fail
      have hb : Below w.heap.size w (w.alloc (.cells #[.string id, .int .i64 f, .int .i64 t, .int .i64 L, .int .i64 d, .int .i64 s] 33)).drew := below_drewN hb 1
      have hp : PipeAt (w.alloc (.cells #[.string id, .int .i64 f, .int .i64 t, .int .i64 L, .int .i64 d, .int .i64 s] 33)).drew w.heap.size id f t L d s := hp
      have ⟨p0, p1, p2, p3, p4, p5⟩ := hp
      go_region_held3 (fun w' => w'.cell? ⟨w.heap.size, 0, none⟩ = some (.string id) ∧ w'.cell? ⟨w.heap.size, 1, none⟩ = some (.int .i64 f) ∧ w'.cell? ⟨w.heap.size, 2, none⟩ = some (.int .i64 t) ∧ w'.cell? ⟨w.heap.size, 3, none⟩ = some (.int .i64 L) ∧ w'.cell? ⟨w.heap.size, 4, none⟩ = some (.int .i64 d) ∧ w'.cell? ⟨w.heap.size, 5, none⟩ = some (.int .i64 s)) (exact ⟨p0, p1, p2, p3, p4, p5⟩) (first | (go_at_call 63; refine (isFlow_any _ _).mono ?_; rintro e w' ⟨rfl, hb'⟩; have hb := bnext hb hb'; have hp := PipeAt.next hp hb'; have ⟨p0, p1, p2, p3, p4, p5⟩ := hp) | (go_at_call 67; refine (HPC.out _).mono ?_; rintro e w' ⟨rfl, hb'⟩; have hb := bnext hb hb'; have hp := PipeAt.next hp hb'; have ⟨p0, p1, p2, p3, p4, p5⟩ := hp))
      go_wp2
      all_goals go_ret2
      all_goals (first | exact ⟨rfl, hb⟩ | exact ⟨rfl, (bal hb _)⟩ | exact ⟨rfl, (bal (bal hb _) _)⟩ | exact ⟨rfl, (bal (bal (bal hb _) _) _)⟩)

set_option maxHeartbeats 3200000 in
theorem specDropOf_any (id : ByteArray) (f t L d s : Int) (q : Int) (w : World) (hs : id.size ≤ maxLen) : Calls Try.prog 32 #[.agg #[.string id, .int .i64 f, .int .i64 t, .int .i64 L, .int .i64 d, .int .i64 s], .int .i64 q] w fun e w' => e = .returned (.tuple #[.int .i64 (dropOV id f t L d s q), .int .i64 (dropOC id f t L d s q)]) ∧ Below w.heap.size w w' := by
  by_cases ho : okP id f t L d s = true
  · skip
    by_cases k1 : inB q (-100000) 100000 = true
    · skip
      by_cases kd : inB (dropI L d q) (-100000000) 100000000 = true
      · skip
        have hv : dropOV id f t L d s q = dropI L d q := by unfold dropOV; simp [*]
        have hc : dropOC id f t L d s q = 0 := by unfold dropOC; simp [*]
        rw [hv, hc]
        clear hv hc
        obtain ⟨-, -, -, -, ⟨l0, l1⟩, ⟨d0, d1⟩, ⟨s0, s1⟩⟩ := okP_bd id f t L d s ho
        have hlim := drop_lim L d q (by omega) l1 (inB_iff.1 k1).1 (inB_iff.1 k1).2 d0 d1
        have HR := Lib.hid (fun (b : Nat) wx (h : PipeAt wx b id f t L d s) => l03Raw_any b id f t L d s d q wx h (by omega) l1 d0 d1 (inB_iff.1 k1).1 (inB_iff.1 k1).2)
        have hr : ¬ 100000000 < absI (dropI L d q) := by have := inB_iff.1 kd; unfold absI; split <;> omega
        generalize dropI L d q = r at *
        have hr2 : absI r ≤ 100000000 := by omega
        have hp := PipeAt.new w id f t L d s 33
        have hb : Below w.heap.size w (w.alloc (.cells #[.string id, .int .i64 f, .int .i64 t, .int .i64 L, .int .i64 d, .int .i64 s] 33)) := bal (Below.refl _ _) _
        have ⟨p0, p1, p2, p3, p4, p5⟩ := hp
        have hcv : codeP id f t L d s (inB q (-100000) 100000) = 0 := by unfold codeP; simp [*]
        have HAK : Hid (∀ (b : Nat) wx, PipeAt wx b id f t L d s → Calls Try.prog 65 #[.pointer (some ⟨b, 0, none⟩), .int .i64 q] wx fun e w' => e = .returned (.int .i64 0) ∧ Drawn wx w') := Lib.hid fun b wx h => by
          have := l03Ask_any b id f t L d s q wx h hs
          rw [hcv] at this
          exact this
        clear hcv
        go_enter Try.func32, Try.ntmps32
        go_wp2_with (first | (go_at_call 65; refine (HAK.out _ _ hp).mono ?_; rintro e w' ⟨rfl, hd'⟩; have hb' := Drawn.below hd'; first | (have hb := bnext hb hb'; have hp := PipeAt.next hp hb'; have ⟨p0, p1, p2, p3, p4, p5⟩ := hp) | (have hb := bnext (bal hb _) hb'; have hp := PipeAt.next (PipeAt.alloc hp _) hb'; have ⟨p0, p1, p2, p3, p4, p5⟩ := hp) | (have hb := bnext (bal (bal hb _) _) hb'; have hp := PipeAt.next (PipeAt.alloc (PipeAt.alloc hp _) _) hb'; have ⟨p0, p1, p2, p3, p4, p5⟩ := hp) | (have hb := bnext (bal (bal (bal hb _) _) _) hb'; have hp := PipeAt.next (PipeAt.alloc (PipeAt.alloc (PipeAt.alloc hp _) _) _) hb'; have ⟨p0, p1, p2, p3, p4, p5⟩ := hp)) | (go_at_call 81; refine (HR.out _ _ hp).mono ?_; rintro e w' ⟨rfl, hd'⟩; have hb' := Drawn.below hd'; first | (have hb := bnext hb hb'; have hp := PipeAt.next hp hb'; have ⟨p0, p1, p2, p3, p4, p5⟩ := hp) | (have hb := bnext (bal hb _) hb'; have hp := PipeAt.next (PipeAt.alloc hp _) hb'; have ⟨p0, p1, p2, p3, p4, p5⟩ := hp) | (have hb := bnext (bal (bal hb _) _) hb'; have hp := PipeAt.next (PipeAt.alloc (PipeAt.alloc hp _) _) hb'; have ⟨p0, p1, p2, p3, p4, p5⟩ := hp) | (have hb := bnext (bal (bal (bal hb _) _) _) hb'; have hp := PipeAt.next (PipeAt.alloc (PipeAt.alloc (PipeAt.alloc hp _) _) _) hb'; have ⟨p0, p1, p2, p3, p4, p5⟩ := hp)) | (go_at_call 82; refine (l03Abs_any _ _ (by omega) (by omega)).mono ?_; rintro e w' ⟨rfl, rfl⟩) | go_in)
        go_ret2
        first | exact ⟨rfl, hb⟩ | exact ⟨rfl, (bal hb _)⟩ | exact ⟨rfl, (bal (bal hb _) _)⟩ | exact ⟨rfl, (bal (bal (bal hb _) _) _)⟩
      · have kd' : inB (dropI L d q) (-100000000) 100000000 = false := by simpa using kd
        have hv : dropOV id f t L d s q = 0 := by unfold dropOV; simp [*]
        have hc : dropOC id f t L d s q = 6 := by unfold dropOC; simp [*]
        rw [hv, hc]
        clear hv hc
        obtain ⟨-, -, -, -, ⟨l0, l1⟩, ⟨d0, d1⟩, ⟨s0, s1⟩⟩ := okP_bd id f t L d s ho
        have hlim := drop_lim L d q (by omega) l1 (inB_iff.1 k1).1 (inB_iff.1 k1).2 d0 d1
        have HR := Lib.hid (fun (b : Nat) wx (h : PipeAt wx b id f t L d s) => l03Raw_any b id f t L d s d q wx h (by omega) l1 d0 d1 (inB_iff.1 k1).1 (inB_iff.1 k1).2)
        have hr : 100000000 < absI (dropI L d q) := by
          by_cases hh : -100000000 ≤ dropI L d q ∧ dropI L d q ≤ 100000000
          · rw [inB_true hh] at kd'; cases kd'
          · unfold absI; split <;> omega
        generalize dropI L d q = r at *
        have hp := PipeAt.new w id f t L d s 33
        have hb : Below w.heap.size w (w.alloc (.cells #[.string id, .int .i64 f, .int .i64 t, .int .i64 L, .int .i64 d, .int .i64 s] 33)) := bal (Below.refl _ _) _
        have ⟨p0, p1, p2, p3, p4, p5⟩ := hp
        have hcv : codeP id f t L d s (inB q (-100000) 100000) = 0 := by unfold codeP; simp [*]
        have HAK : Hid (∀ (b : Nat) wx, PipeAt wx b id f t L d s → Calls Try.prog 65 #[.pointer (some ⟨b, 0, none⟩), .int .i64 q] wx fun e w' => e = .returned (.int .i64 0) ∧ Drawn wx w') := Lib.hid fun b wx h => by
          have := l03Ask_any b id f t L d s q wx h hs
          rw [hcv] at this
          exact this
        clear hcv
        go_enter Try.func32, Try.ntmps32
        go_wp2_with (first | (go_at_call 65; refine (HAK.out _ _ hp).mono ?_; rintro e w' ⟨rfl, hd'⟩; have hb' := Drawn.below hd'; first | (have hb := bnext hb hb'; have hp := PipeAt.next hp hb'; have ⟨p0, p1, p2, p3, p4, p5⟩ := hp) | (have hb := bnext (bal hb _) hb'; have hp := PipeAt.next (PipeAt.alloc hp _) hb'; have ⟨p0, p1, p2, p3, p4, p5⟩ := hp) | (have hb := bnext (bal (bal hb _) _) hb'; have hp := PipeAt.next (PipeAt.alloc (PipeAt.alloc hp _) _) hb'; have ⟨p0, p1, p2, p3, p4, p5⟩ := hp) | (have hb := bnext (bal (bal (bal hb _) _) _) hb'; have hp := PipeAt.next (PipeAt.alloc (PipeAt.alloc (PipeAt.alloc hp _) _) _) hb'; have ⟨p0, p1, p2, p3, p4, p5⟩ := hp)) | (go_at_call 81; refine (HR.out _ _ hp).mono ?_; rintro e w' ⟨rfl, hd'⟩; have hb' := Drawn.below hd'; first | (have hb := bnext hb hb'; have hp := PipeAt.next hp hb'; have ⟨p0, p1, p2, p3, p4, p5⟩ := hp) | (have hb := bnext (bal hb _) hb'; have hp := PipeAt.next (PipeAt.alloc hp _) hb'; have ⟨p0, p1, p2, p3, p4, p5⟩ := hp) | (have hb := bnext (bal (bal hb _) _) hb'; have hp := PipeAt.next (PipeAt.alloc (PipeAt.alloc hp _) _) hb'; have ⟨p0, p1, p2, p3, p4, p5⟩ := hp) | (have hb := bnext (bal (bal (bal hb _) _) _) hb'; have hp := PipeAt.next (PipeAt.alloc (PipeAt.alloc (PipeAt.alloc hp _) _) _) hb'; have ⟨p0, p1, p2, p3, p4, p5⟩ := hp)) | (go_at_call 82; refine (l03Abs_any _ _ (by omega) (by omega)).mono ?_; rintro e w' ⟨rfl, rfl⟩) | go_in)
        go_ret2
        first | exact ⟨rfl, hb⟩ | exact ⟨rfl, (bal hb _)⟩ | exact ⟨rfl, (bal (bal hb _) _)⟩ | exact ⟨rfl, (bal (bal (bal hb _) _) _)⟩
    · have k1' : inB q (-100000) 100000 = false := by simpa using k1
      have hv : dropOV id f t L d s q = 0 := by unfold dropOV; simp [*]
      have hc : dropOC id f t L d s q = 2 := by unfold dropOC; simp [*]
      rw [hv, hc]
      clear hv hc
      have hp := PipeAt.new w id f t L d s 33
      have hb : Below w.heap.size w (w.alloc (.cells #[.string id, .int .i64 f, .int .i64 t, .int .i64 L, .int .i64 d, .int .i64 s] 33)) := bal (Below.refl _ _) _
      have ⟨p0, p1, p2, p3, p4, p5⟩ := hp
      have hcv : codeP id f t L d s (inB q (-100000) 100000) = 2 := by unfold codeP; simp [*]
      have HAK : Hid (∀ (b : Nat) wx, PipeAt wx b id f t L d s → Calls Try.prog 65 #[.pointer (some ⟨b, 0, none⟩), .int .i64 q] wx fun e w' => e = .returned (.int .i64 2) ∧ Drawn wx w') := Lib.hid fun b wx h => by
        have := l03Ask_any b id f t L d s q wx h hs
        rw [hcv] at this
        exact this
      clear hcv
      go_enter Try.func32, Try.ntmps32
      go_wp2_with (first | (go_at_call 65; refine (HAK.out _ _ hp).mono ?_; rintro e w' ⟨rfl, hd'⟩; have hb' := Drawn.below hd'; first | (have hb := bnext hb hb'; have hp := PipeAt.next hp hb'; have ⟨p0, p1, p2, p3, p4, p5⟩ := hp) | (have hb := bnext (bal hb _) hb'; have hp := PipeAt.next (PipeAt.alloc hp _) hb'; have ⟨p0, p1, p2, p3, p4, p5⟩ := hp) | (have hb := bnext (bal (bal hb _) _) hb'; have hp := PipeAt.next (PipeAt.alloc (PipeAt.alloc hp _) _) hb'; have ⟨p0, p1, p2, p3, p4, p5⟩ := hp) | (have hb := bnext (bal (bal (bal hb _) _) _) hb'; have hp := PipeAt.next (PipeAt.alloc (PipeAt.alloc (PipeAt.alloc hp _) _) _) hb'; have ⟨p0, p1, p2, p3, p4, p5⟩ := hp)))
      go_ret2
      first | exact ⟨rfl, hb⟩ | exact ⟨rfl, (bal hb _)⟩ | exact ⟨rfl, (bal (bal hb _) _)⟩ | exact ⟨rfl, (bal (bal (bal hb _) _) _)⟩
  · have ho' : okP id f t L d s = false := by simpa using ho
    by_cases k1 : inB q (-100000) 100000 = true
    · skip
      have hv : dropOV id f t L d s q = 0 := by unfold dropOV; simp [*]
      have hc : dropOC id f t L d s q = 1 := by unfold dropOC; simp [*]
      rw [hv, hc]
      clear hv hc
      have hp := PipeAt.new w id f t L d s 33
      have hb : Below w.heap.size w (w.alloc (.cells #[.string id, .int .i64 f, .int .i64 t, .int .i64 L, .int .i64 d, .int .i64 s] 33)) := bal (Below.refl _ _) _
      have ⟨p0, p1, p2, p3, p4, p5⟩ := hp
      have hcv : codeP id f t L d s (inB q (-100000) 100000) = 1 := by unfold codeP; simp [*]
      have HAK : Hid (∀ (b : Nat) wx, PipeAt wx b id f t L d s → Calls Try.prog 65 #[.pointer (some ⟨b, 0, none⟩), .int .i64 q] wx fun e w' => e = .returned (.int .i64 1) ∧ Drawn wx w') := Lib.hid fun b wx h => by
        have := l03Ask_any b id f t L d s q wx h hs
        rw [hcv] at this
        exact this
      clear hcv
      go_enter Try.func32, Try.ntmps32
      go_wp2_with (first | (go_at_call 65; refine (HAK.out _ _ hp).mono ?_; rintro e w' ⟨rfl, hd'⟩; have hb' := Drawn.below hd'; first | (have hb := bnext hb hb'; have hp := PipeAt.next hp hb'; have ⟨p0, p1, p2, p3, p4, p5⟩ := hp) | (have hb := bnext (bal hb _) hb'; have hp := PipeAt.next (PipeAt.alloc hp _) hb'; have ⟨p0, p1, p2, p3, p4, p5⟩ := hp) | (have hb := bnext (bal (bal hb _) _) hb'; have hp := PipeAt.next (PipeAt.alloc (PipeAt.alloc hp _) _) hb'; have ⟨p0, p1, p2, p3, p4, p5⟩ := hp) | (have hb := bnext (bal (bal (bal hb _) _) _) hb'; have hp := PipeAt.next (PipeAt.alloc (PipeAt.alloc (PipeAt.alloc hp _) _) _) hb'; have ⟨p0, p1, p2, p3, p4, p5⟩ := hp)))
      go_ret2
      first | exact ⟨rfl, hb⟩ | exact ⟨rfl, (bal hb _)⟩ | exact ⟨rfl, (bal (bal hb _) _)⟩ | exact ⟨rfl, (bal (bal (bal hb _) _) _)⟩
    · have k1' : inB q (-100000) 100000 = false := by simpa using k1
      have hv : dropOV id f t L d s q = 0 := by unfold dropOV; simp [*]
      have hc : dropOC id f t L d s q = 1 := by unfold dropOC; simp [*]
      rw [hv, hc]
      clear hv hc
      have hp := PipeAt.new w id f t L d s 33
      have hb : Below w.heap.size w (w.alloc (.cells #[.string id, .int .i64 f, .int .i64 t, .int .i64 L, .int .i64 d, .int .i64 s] 33)) := bal (Below.refl _ _) _
      have ⟨p0, p1, p2, p3, p4, p5⟩ := hp
      have hcv : codeP id f t L d s (inB q (-100000) 100000) = 1 := by unfold codeP; simp [*]
      have HAK : Hid (∀ (b : Nat) wx, PipeAt wx b id f t L d s → Calls Try.prog 65 #[.pointer (some ⟨b, 0, none⟩), .int .i64 q] wx fun e w' => e = .returned (.int .i64 1) ∧ Drawn wx w') := Lib.hid fun b wx h => by
        have := l03Ask_any b id f t L d s q wx h hs
        rw [hcv] at this
        exact this
      clear hcv
      go_enter Try.func32, Try.ntmps32
      go_wp2_with (first | (go_at_call 65; refine (HAK.out _ _ hp).mono ?_; rintro e w' ⟨rfl, hd'⟩; have hb' := Drawn.below hd'; first | (have hb := bnext hb hb'; have hp := PipeAt.next hp hb'; have ⟨p0, p1, p2, p3, p4, p5⟩ := hp) | (have hb := bnext (bal hb _) hb'; have hp := PipeAt.next (PipeAt.alloc hp _) hb'; have ⟨p0, p1, p2, p3, p4, p5⟩ := hp) | (have hb := bnext (bal (bal hb _) _) hb'; have hp := PipeAt.next (PipeAt.alloc (PipeAt.alloc hp _) _) hb'; have ⟨p0, p1, p2, p3, p4, p5⟩ := hp) | (have hb := bnext (bal (bal (bal hb _) _) _) hb'; have hp := PipeAt.next (PipeAt.alloc (PipeAt.alloc (PipeAt.alloc hp _) _) _) hb'; have ⟨p0, p1, p2, p3, p4, p5⟩ := hp)))
      go_ret2
      first | exact ⟨rfl, hb⟩ | exact ⟨rfl, (bal hb _)⟩ | exact ⟨rfl, (bal (bal hb _) _)⟩ | exact ⟨rfl, (bal (bal (bal hb _) _) _)⟩

theorem water_any (id : ByteArray) (f t L d s : Int) (w : World) (l0 : 0 ≤ L) (l1 : L ≤ 10000) (d0 : 20 ≤ d) (d1 : d ≤ 1000) : Calls Try.prog 73 #[.agg #[.string id, .int .i64 f, .int .i64 t, .int .i64 L, .int .i64 d, .int .i64 s]] w fun e w' => e = .returned (.int .i64 (waterI L d)) ∧ Below w.heap.size w w' := by
  have k := water_num L d l0 l1 d0 d1
  unfold waterI
  have hp := PipeAt.new w id f t L d s 33
  have hb : Below w.heap.size w (w.alloc (.cells #[.string id, .int .i64 f, .int .i64 t, .int .i64 L, .int .i64 d, .int .i64 s] 33)) := bal (Below.refl _ _) _
  have ⟨p0, p1, p2, p3, p4, p5⟩ := hp
  go_enter Try.func73, Try.ntmps73
  go_wp2_with ((go_at_call 60; refine (nearest_any _ _ _ (by omega) (by omega) (by omega) (by omega) (by omega)).mono ?_; rintro e w' ⟨rfl, ⟨nq, rfl⟩⟩; have hb := below_drewN hb nq))
  go_ret
  first | exact ⟨rfl, hb⟩ | exact ⟨rfl, (bal hb _)⟩ | exact ⟨rfl, (bal (bal hb _) _)⟩ | exact ⟨rfl, (bal (bal (bal hb _) _) _)⟩ | exact ⟨rfl, (bal (bal (bal (bal hb _) _) _) _)⟩ | exact ⟨rfl, (bal (bal (bal (bal (bal hb _) _) _) _) _)⟩

theorem l03Water_any (b : Nat) (id : ByteArray) (f t L d s : Int) (w : World) (hp : PipeAt w b id f t L d s) (l0 : 0 ≤ L) (l1 : L ≤ 10000) (d0 : 20 ≤ d) (d1 : d ≤ 1000) : Calls Try.prog 71 #[.pointer (some ⟨b, 0, none⟩)] w fun e w' => e = .returned (.int .i64 (waterI L d)) ∧ Drawn w w' := by
  have k := water_num L d l0 l1 d0 d1
  have HD := Lib.hid (fun wx => l01Div_any (L * d * d * 7854) 10000 wx (by omega) (by omega) (by omega) (by omega) (by omega))
  have e1 : IntKind.i64.wrap (L * d) = L * d := IntWalk.i64_in _ (by omega)
  have e2 : IntKind.i64.wrap (L * d * d) = L * d * d := IntWalk.i64_in _ (by omega)
  have e3 : IntKind.i64.wrap (L * d * d * 7854) = L * d * d * 7854 := IntWalk.i64_in _ (by omega)
  unfold waterI
  clear k l0 l1 d0 d1
  have ⟨p0, p1, p2, p3, p4, p5⟩ := hp
  go_enter Try.func71, Try.ntmps71
  go_wp2
  go_quiet ((go_at_call 58; exact quiet_same (HD.out _)))
  go_wp2
  go_ret
  exact ⟨rfl, ⟨_, rfl⟩⟩

end Go.Proofs.Ythmnfobhgeamiaa
