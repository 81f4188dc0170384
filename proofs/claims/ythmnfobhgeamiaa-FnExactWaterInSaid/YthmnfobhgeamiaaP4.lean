/-
  WaterIn, DelayOf, SpeedOf and LossOf of both sides.
-/
import Derived.Test.YthmnfobhgeamiaaP3
import Derived.Test.YthmnfobhgeamiaaLd0
namespace Go.Proofs.Ythmnfobhgeamiaa
open Go.ChangeShapes Go.WideShapes Go.ChangeAt Go.RowKit Go.Shelf
set_option linter.unusedSimpArgs false


def watV (id : ByteArray) (f t L d s : Int)  : Int := if okP id f t L d s then (waterI L d) else 0
def watC (id : ByteArray) (f t L d s : Int)  : Int := if okP id f t L d s then 0 else 1

set_option maxHeartbeats 3200000 in
theorem implWaterIn_any (id : ByteArray) (f t L d s : Int)  (w : World) (hs : id.size ≤ maxLen) : Calls Try.prog 36 #[.agg #[.string id, .int .i64 f, .int .i64 t, .int .i64 L, .int .i64 d, .int .i64 s]] w fun e w' => e = .returned (.tuple #[.int .i64 (watV id f t L d s ), .int .i64 (watC id f t L d s )]) ∧ Below w.heap.size w w' := by
  by_cases ho : okP id f t L d s = true
  · skip
    have hv : watV id f t L d s  = waterI L d := by unfold watV; simp [*]
    have hc : watC id f t L d s  = 0 := by unfold watC; simp [*]
    rw [hv, hc]
    clear hv hc
    have HVP : Hid (∀ wx, Calls Try.prog 72 #[.agg #[.string id, .int .i64 f, .int .i64 t, .int .i64 L, .int .i64 d, .int .i64 s]] wx fun e w' => e = .returned (.bool true) ∧ Below wx.heap.size wx w') := Lib.hid fun wx => by
      have := implValidPipe_any id f t L d s wx hs
      rw [ho] at this
      exact this
    obtain ⟨-, -, -, -, ⟨l0, l1⟩, ⟨d0, d1⟩, ⟨s0, s1⟩⟩ := okP_bd id f t L d s ho
    have hw := water_bd L d (by omega) l1 d0 d1
    have HWI := Lib.hid (fun wx => water_any id f t L d s wx (by omega) l1 d0 d1)
    generalize waterI L d = r at *
    have hp := PipeAt.new w id f t L d s 33
    have hb : Below w.heap.size w (w.alloc (.cells #[.string id, .int .i64 f, .int .i64 t, .int .i64 L, .int .i64 d, .int .i64 s] 33)) := bal (Below.refl _ _) _
    have ⟨p0, p1, p2, p3, p4, p5⟩ := hp
    go_enter Try.func36, Try.ntmps36
    go_wp2_with (first | (go_at_call 72; refine (HVP.out _).mono ?_; rintro e w' ⟨rfl, hb'⟩; first | (have hb := bnext hb hb'; have hp := PipeAt.next hp hb'; have ⟨p0, p1, p2, p3, p4, p5⟩ := hp) | (have hb := bnext (bal hb _) hb'; have hp := PipeAt.next (PipeAt.alloc hp _) hb'; have ⟨p0, p1, p2, p3, p4, p5⟩ := hp) | (have hb := bnext (bal (bal hb _) _) hb'; have hp := PipeAt.next (PipeAt.alloc (PipeAt.alloc hp _) _) hb'; have ⟨p0, p1, p2, p3, p4, p5⟩ := hp) | (have hb := bnext (bal (bal (bal hb _) _) _) hb'; have hp := PipeAt.next (PipeAt.alloc (PipeAt.alloc (PipeAt.alloc hp _) _) _) hb'; have ⟨p0, p1, p2, p3, p4, p5⟩ := hp)) | (go_at_call 73; refine (HWI.out _).mono ?_; rintro e w' ⟨rfl, hb'⟩; first | have hb := bnext hb hb' | have hb := bnext (bal hb _) hb' | have hb := bnext (bal (bal hb _) _) hb' | have hb := bnext (bal (bal (bal hb _) _) _) hb' | have hb := bnext (bal (bal (bal (bal hb _) _) _) _) hb' | have hb := bnext (bal (bal (bal (bal (bal hb _) _) _) _) _) hb'))
    go_ret2
    first | exact ⟨rfl, hb⟩ | exact ⟨rfl, (bal hb _)⟩ | exact ⟨rfl, (bal (bal hb _) _)⟩ | exact ⟨rfl, (bal (bal (bal hb _) _) _)⟩
  · have ho' : okP id f t L d s = false := by simpa using ho
    have hv : watV id f t L d s  = 0 := by unfold watV; simp [*]
    have hc : watC id f t L d s  = 1 := by unfold watC; simp [*]
    rw [hv, hc]
    clear hv hc
    have HVP : Hid (∀ wx, Calls Try.prog 72 #[.agg #[.string id, .int .i64 f, .int .i64 t, .int .i64 L, .int .i64 d, .int .i64 s]] wx fun e w' => e = .returned (.bool false) ∧ Below wx.heap.size wx w') := Lib.hid fun wx => by
      have := implValidPipe_any id f t L d s wx hs
      rw [ho'] at this
      exact this
    have hp := PipeAt.new w id f t L d s 33
    have hb : Below w.heap.size w (w.alloc (.cells #[.string id, .int .i64 f, .int .i64 t, .int .i64 L, .int .i64 d, .int .i64 s] 33)) := bal (Below.refl _ _) _
    have ⟨p0, p1, p2, p3, p4, p5⟩ := hp
    go_enter Try.func36, Try.ntmps36
    go_wp2_with (first | (go_at_call 72; refine (HVP.out _).mono ?_; rintro e w' ⟨rfl, hb'⟩; first | (have hb := bnext hb hb'; have hp := PipeAt.next hp hb'; have ⟨p0, p1, p2, p3, p4, p5⟩ := hp) | (have hb := bnext (bal hb _) hb'; have hp := PipeAt.next (PipeAt.alloc hp _) hb'; have ⟨p0, p1, p2, p3, p4, p5⟩ := hp) | (have hb := bnext (bal (bal hb _) _) hb'; have hp := PipeAt.next (PipeAt.alloc (PipeAt.alloc hp _) _) hb'; have ⟨p0, p1, p2, p3, p4, p5⟩ := hp) | (have hb := bnext (bal (bal (bal hb _) _) _) hb'; have hp := PipeAt.next (PipeAt.alloc (PipeAt.alloc (PipeAt.alloc hp _) _) _) hb'; have ⟨p0, p1, p2, p3, p4, p5⟩ := hp)))
    go_ret2
    first | exact ⟨rfl, hb⟩ | exact ⟨rfl, (bal hb _)⟩ | exact ⟨rfl, (bal (bal hb _) _)⟩ | exact ⟨rfl, (bal (bal (bal hb _) _) _)⟩

set_option maxHeartbeats 3200000 in
theorem specWaterIn_any (id : ByteArray) (f t L d s : Int)  (w : World) (hs : id.size ≤ maxLen) : Calls Try.prog 35 #[.agg #[.string id, .int .i64 f, .int .i64 t, .int .i64 L, .int .i64 d, .int .i64 s]] w fun e w' => e = .returned (.tuple #[.int .i64 (watV id f t L d s ), .int .i64 (watC id f t L d s )]) ∧ Below w.heap.size w w' := by
  by_cases ho : okP id f t L d s = true
  · skip
    have hv : watV id f t L d s  = waterI L d := by unfold watV; simp [*]
    have hc : watC id f t L d s  = 0 := by unfold watC; simp [*]
    rw [hv, hc]
    clear hv hc
    obtain ⟨-, -, -, -, ⟨l0, l1⟩, ⟨d0, d1⟩, ⟨s0, s1⟩⟩ := okP_bd id f t L d s ho
    have hw := water_bd L d (by omega) l1 d0 d1
    have HWS := Lib.hid (fun (b : Nat) wx (h : PipeAt wx b id f t L d s) => l03Water_any b id f t L d s wx h (by omega) l1 d0 d1)
    generalize waterI L d = r at *
    have hp := PipeAt.new w id f t L d s 33
    have hb : Below w.heap.size w (w.alloc (.cells #[.string id, .int .i64 f, .int .i64 t, .int .i64 L, .int .i64 d, .int .i64 s] 33)) := bal (Below.refl _ _) _
    have ⟨p0, p1, p2, p3, p4, p5⟩ := hp
    have HOK : Hid (∀ (b : Nat) wx, PipeAt wx b id f t L d s → Calls Try.prog 70 #[.pointer (some ⟨b, 0, none⟩)] wx fun e w' => e = .returned (.bool true) ∧ Drawn wx w') := Lib.hid fun b wx h => by
      have := l03Ok_any b id f t L d s wx h hs
      rw [ho] at this
      exact this
    go_enter Try.func35, Try.ntmps35
    go_wp2_with (first | (go_at_call 70; refine (HOK.out _ _ hp).mono ?_; rintro e w' ⟨rfl, hd'⟩; have hb' := Drawn.below hd'; first | (have hb := bnext hb hb'; have hp := PipeAt.next hp hb'; have ⟨p0, p1, p2, p3, p4, p5⟩ := hp) | (have hb := bnext (bal hb _) hb'; have hp := PipeAt.next (PipeAt.alloc hp _) hb'; have ⟨p0, p1, p2, p3, p4, p5⟩ := hp) | (have hb := bnext (bal (bal hb _) _) hb'; have hp := PipeAt.next (PipeAt.alloc (PipeAt.alloc hp _) _) hb'; have ⟨p0, p1, p2, p3, p4, p5⟩ := hp) | (have hb := bnext (bal (bal (bal hb _) _) _) hb'; have hp := PipeAt.next (PipeAt.alloc (PipeAt.alloc (PipeAt.alloc hp _) _) _) hb'; have ⟨p0, p1, p2, p3, p4, p5⟩ := hp)) | (go_at_call 71; refine (HWS.out _ _ hp).mono ?_; rintro e w' ⟨rfl, hd'⟩; have hb' := Drawn.below hd'; first | (have hb := bnext hb hb'; have hp := PipeAt.next hp hb'; have ⟨p0, p1, p2, p3, p4, p5⟩ := hp) | (have hb := bnext (bal hb _) hb'; have hp := PipeAt.next (PipeAt.alloc hp _) hb'; have ⟨p0, p1, p2, p3, p4, p5⟩ := hp) | (have hb := bnext (bal (bal hb _) _) hb'; have hp := PipeAt.next (PipeAt.alloc (PipeAt.alloc hp _) _) hb'; have ⟨p0, p1, p2, p3, p4, p5⟩ := hp) | (have hb := bnext (bal (bal (bal hb _) _) _) hb'; have hp := PipeAt.next (PipeAt.alloc (PipeAt.alloc (PipeAt.alloc hp _) _) _) hb'; have ⟨p0, p1, p2, p3, p4, p5⟩ := hp)))
    go_ret2
    first | exact ⟨rfl, hb⟩ | exact ⟨rfl, (bal hb _)⟩ | exact ⟨rfl, (bal (bal hb _) _)⟩ | exact ⟨rfl, (bal (bal (bal hb _) _) _)⟩
  · have ho' : okP id f t L d s = false := by simpa using ho
    have hv : watV id f t L d s  = 0 := by unfold watV; simp [*]
    have hc : watC id f t L d s  = 1 := by unfold watC; simp [*]
    rw [hv, hc]
    clear hv hc
    have hp := PipeAt.new w id f t L d s 33
    have hb : Below w.heap.size w (w.alloc (.cells #[.string id, .int .i64 f, .int .i64 t, .int .i64 L, .int .i64 d, .int .i64 s] 33)) := bal (Below.refl _ _) _
    have ⟨p0, p1, p2, p3, p4, p5⟩ := hp
    have HOK : Hid (∀ (b : Nat) wx, PipeAt wx b id f t L d s → Calls Try.prog 70 #[.pointer (some ⟨b, 0, none⟩)] wx fun e w' => e = .returned (.bool false) ∧ Drawn wx w') := Lib.hid fun b wx h => by
      have := l03Ok_any b id f t L d s wx h hs
      rw [ho'] at this
      exact this
    go_enter Try.func35, Try.ntmps35
    go_wp2_with (first | (go_at_call 70; refine (HOK.out _ _ hp).mono ?_; rintro e w' ⟨rfl, hd'⟩; have hb' := Drawn.below hd'; first | (have hb := bnext hb hb'; have hp := PipeAt.next hp hb'; have ⟨p0, p1, p2, p3, p4, p5⟩ := hp) | (have hb := bnext (bal hb _) hb'; have hp := PipeAt.next (PipeAt.alloc hp _) hb'; have ⟨p0, p1, p2, p3, p4, p5⟩ := hp) | (have hb := bnext (bal (bal hb _) _) hb'; have hp := PipeAt.next (PipeAt.alloc (PipeAt.alloc hp _) _) hb'; have ⟨p0, p1, p2, p3, p4, p5⟩ := hp) | (have hb := bnext (bal (bal (bal hb _) _) _) hb'; have hp := PipeAt.next (PipeAt.alloc (PipeAt.alloc (PipeAt.alloc hp _) _) _) hb'; have ⟨p0, p1, p2, p3, p4, p5⟩ := hp)))
    go_ret2
    first | exact ⟨rfl, hb⟩ | exact ⟨rfl, (bal hb _)⟩ | exact ⟨rfl, (bal (bal hb _) _)⟩ | exact ⟨rfl, (bal (bal (bal hb _) _) _)⟩

/-- how long water is in a pipe -/
def delayI (L d q : Int) : Int := (waterI L d + absI q - 1) / absI q
def dlyV (id : ByteArray) (f t L d s : Int) (q : Int) : Int := if okP id f t L d s && inB q (-100000) 100000 && (q != 0) then (delayI L d q) else 0
def dlyC (id : ByteArray) (f t L d s : Int) (q : Int) : Int := if okP id f t L d s then (if inB q (-100000) 100000 then (if (q != 0) then 0 else 6) else 2) else 1

set_option maxHeartbeats 3200000 in
theorem implDelayOf_any (id : ByteArray) (f t L d s : Int) (q : Int) (w : World) (hs : id.size ≤ maxLen) : Calls Try.prog 38 #[.agg #[.string id, .int .i64 f, .int .i64 t, .int .i64 L, .int .i64 d, .int .i64 s], .int .i64 q] w fun e w' => e = .returned (.tuple #[.int .i64 (dlyV id f t L d s q), .int .i64 (dlyC id f t L d s q)]) ∧ Below w.heap.size w w' := by
  by_cases ho : okP id f t L d s = true
  · skip
    by_cases k1 : inB q (-100000) 100000 = true
    · skip
      by_cases kz : (q != 0) = true
      · skip
        have hv : dlyV id f t L d s q = delayI L d q := by unfold dlyV; simp [*]
        have hc : dlyC id f t L d s q = 0 := by unfold dlyC; simp [*]
        rw [hv, hc]
        clear hv hc
        have hcv : codeP id f t L d s true = 0 := by unfold codeP; simp [*]
        have HPC : Hid (∀ wx, Calls Try.prog 67 #[.agg #[.string id, .int .i64 f, .int .i64 t, .int .i64 L, .int .i64 d, .int .i64 s], .bool true] wx fun e w' => e = .returned (.int .i64 0) ∧ Below wx.heap.size wx w') := Lib.hid fun wx => by
          have := pipeCode_any id f t L d s true wx hs
          rw [hcv] at this
          exact this
        clear hcv
        obtain ⟨-, -, -, -, ⟨l0, l1⟩, ⟨d0, d1⟩, ⟨s0, s1⟩⟩ := okP_bd id f t L d s ho
        have hw := water_bd L d (by omega) l1 d0 d1
        have ha := absI_bd q 100000 (inB_iff.1 k1).1 (inB_iff.1 k1).2
        have kq := inB_iff.1 k1
        have z : (q == 0) = false := by simpa using kz
        have a1 : 1 ≤ absI q := by
          have : q ≠ 0 := by simpa using kz
          rw [absI_nat]; omega
        have HWI := Lib.hid (fun wx => water_any id f t L d s wx (by omega) l1 d0 d1)
        have HA := Lib.hid (fun wx => absolute_any q wx (by omega) (by omega))
        have HZ := Lib.hid kz
        clear kz
        unfold delayI
        generalize waterI L d = r at *
        have z0 : 0 ≤ r + absI q - 1 := by omega
        generalize absI q = u at *
        have HR := Lib.hid (fun wx => roundedUp_any r u wx (by omega) (by omega) (by omega) (by omega))
        have hp := PipeAt.new w id f t L d s 33
        have hb : Below w.heap.size w (w.alloc (.cells #[.string id, .int .i64 f, .int .i64 t, .int .i64 L, .int .i64 d, .int .i64 s] 33)) := bal (Below.refl _ _) _
        go_enter Try.func38, Try.ntmps38
        go_wp2_with fail
        have hb : Below w.heap.size w (w.alloc (.cells #[.string id, .int .i64 f, .int .i64 t, .int .i64 L, .int .i64 d, .int .i64 s] 33)).drew := below_drewN hb 1
        have hp : PipeAt (w.alloc (.cells #[.string id, .int .i64 f, .int .i64 t, .int .i64 L, .int .i64 d, .int .i64 s] 33)).drew w.heap.size id f t L d s := hp
        have ⟨p0, p1, p2, p3, p4, p5⟩ := hp
        go_region_held3 (fun w' => w'.cell? ⟨w.heap.size, 0, none⟩ = some (.string id) ∧ w'.cell? ⟨w.heap.size, 1, none⟩ = some (.int .i64 f) ∧ w'.cell? ⟨w.heap.size, 2, none⟩ = some (.int .i64 t) ∧ w'.cell? ⟨w.heap.size, 3, none⟩ = some (.int .i64 L) ∧ w'.cell? ⟨w.heap.size, 4, none⟩ = some (.int .i64 d) ∧ w'.cell? ⟨w.heap.size, 5, none⟩ = some (.int .i64 s)) (exact ⟨p0, p1, p2, p3, p4, p5⟩) (first | (go_at_call 63; refine (isFlow_any _ _).mono ?_; rintro e w' ⟨rfl, hb'⟩; have hb := bnext hb hb'; have hp := PipeAt.next hp hb'; have ⟨p0, p1, p2, p3, p4, p5⟩ := hp) | (go_at_call 67; refine (HPC.out _).mono ?_; rintro e w' ⟨rfl, hb'⟩; have hb := bnext hb hb'; have hp := PipeAt.next hp hb'; have ⟨p0, p1, p2, p3, p4, p5⟩ := hp))
        go_wp2_with (first | (go_at_call 69; refine (HA.out _).mono ?_; rintro e w' ⟨rfl, rfl⟩) | (go_at_call 73; refine (HWI.out _).mono ?_; rintro e w' ⟨rfl, hb'⟩; first | have hb := bnext hb hb' | have hb := bnext (bal hb _) hb' | have hb := bnext (bal (bal hb _) _) hb' | have hb := bnext (bal (bal (bal hb _) _) _) hb' | have hb := bnext (bal (bal (bal (bal hb _) _) _) _) hb' | have hb := bnext (bal (bal (bal (bal (bal hb _) _) _) _) _) hb') | (go_at_call 75; refine (HR.out _).mono ?_; rintro e w' ⟨rfl, ⟨nq, rfl⟩⟩; have hb := below_drewN hb nq))
        all_goals go_ret2
        all_goals (first | exact ⟨rfl, hb⟩ | exact ⟨rfl, (bal hb _)⟩ | exact ⟨rfl, (bal (bal hb _) _)⟩ | exact ⟨rfl, (bal (bal (bal hb _) _) _)⟩)
      · have kz' : (q != 0) = false := by simpa using kz
        have hv : dlyV id f t L d s q = 0 := by unfold dlyV; simp [*]
        have hc : dlyC id f t L d s q = 6 := by unfold dlyC; simp [*]
        rw [hv, hc]
        clear hv hc
        have hcv : codeP id f t L d s true = 0 := by unfold codeP; simp [*]
        have HPC : Hid (∀ wx, Calls Try.prog 67 #[.agg #[.string id, .int .i64 f, .int .i64 t, .int .i64 L, .int .i64 d, .int .i64 s], .bool true] wx fun e w' => e = .returned (.int .i64 0) ∧ Below wx.heap.size wx w') := Lib.hid fun wx => by
          have := pipeCode_any id f t L d s true wx hs
          rw [hcv] at this
          exact this
        clear hcv
        have z : (q == 0) = true := by simpa using kz'
        have hp := PipeAt.new w id f t L d s 33
        have hb : Below w.heap.size w (w.alloc (.cells #[.string id, .int .i64 f, .int .i64 t, .int .i64 L, .int .i64 d, .int .i64 s] 33)) := bal (Below.refl _ _) _
        go_enter Try.func38, Try.ntmps38
        go_wp2_with fail
        have hb : Below w.heap.size w (w.alloc (.cells #[.string id, .int .i64 f, .int .i64 t, .int .i64 L, .int .i64 d, .int .i64 s] 33)).drew := below_drewN hb 1
        have hp : PipeAt (w.alloc (.cells #[.string id, .int .i64 f, .int .i64 t, .int .i64 L, .int .i64 d, .int .i64 s] 33)).drew w.heap.size id f t L d s := hp
        have ⟨p0, p1, p2, p3, p4, p5⟩ := hp
        go_region_held3 (fun w' => w'.cell? ⟨w.heap.size, 0, none⟩ = some (.string id) ∧ w'.cell? ⟨w.heap.size, 1, none⟩ = some (.int .i64 f) ∧ w'.cell? ⟨w.heap.size, 2, none⟩ = some (.int .i64 t) ∧ w'.cell? ⟨w.heap.size, 3, none⟩ = some (.int .i64 L) ∧ w'.cell? ⟨w.heap.size, 4, none⟩ = some (.int .i64 d) ∧ w'.cell? ⟨w.heap.size, 5, none⟩ = some (.int .i64 s)) (exact ⟨p0, p1, p2, p3, p4, p5⟩) (first | (go_at_call 63; refine (isFlow_any _ _).mono ?_; rintro e w' ⟨rfl, hb'⟩; have hb := bnext hb hb'; have hp := PipeAt.next hp hb'; have ⟨p0, p1, p2, p3, p4, p5⟩ := hp) | (go_at_call 67; refine (HPC.out _).mono ?_; rintro e w' ⟨rfl, hb'⟩; have hb := bnext hb hb'; have hp := PipeAt.next hp hb'; have ⟨p0, p1, p2, p3, p4, p5⟩ := hp))
        go_wp2_with (first | (go_at_call 69; refine (HA.out _).mono ?_; rintro e w' ⟨rfl, rfl⟩) | (go_at_call 73; refine (HWI.out _).mono ?_; rintro e w' ⟨rfl, hb'⟩; first | have hb := bnext hb hb' | have hb := bnext (bal hb _) hb' | have hb := bnext (bal (bal hb _) _) hb' | have hb := bnext (bal (bal (bal hb _) _) _) hb' | have hb := bnext (bal (bal (bal (bal hb _) _) _) _) hb' | have hb := bnext (bal (bal (bal (bal (bal hb _) _) _) _) _) hb') | (go_at_call 75; refine (HR.out _).mono ?_; rintro e w' ⟨rfl, ⟨nq, rfl⟩⟩; have hb := below_drewN hb nq))
        all_goals go_ret2
        all_goals (first | exact ⟨rfl, hb⟩ | exact ⟨rfl, (bal hb _)⟩ | exact ⟨rfl, (bal (bal hb _) _)⟩ | exact ⟨rfl, (bal (bal (bal hb _) _) _)⟩)
    · have k1' : inB q (-100000) 100000 = false := by simpa using k1
      have hv : dlyV id f t L d s q = 0 := by unfold dlyV; simp [*]
      have hc : dlyC id f t L d s q = 2 := by unfold dlyC; simp [*]
      rw [hv, hc]
      clear hv hc
      have hcv : codeP id f t L d s false = 2 := by unfold codeP; simp [*]
      have HPC : Hid (∀ wx, Calls Try.prog 67 #[.agg #[.string id, .int .i64 f, .int .i64 t, .int .i64 L, .int .i64 d, .int .i64 s], .bool false] wx fun e w' => e = .returned (.int .i64 2) ∧ Below wx.heap.size wx w') := Lib.hid fun wx => by
        have := pipeCode_any id f t L d s false wx hs
        rw [hcv] at this
        exact this
      clear hcv
      have hp := PipeAt.new w id f t L d s 33
      have hb : Below w.heap.size w (w.alloc (.cells #[.string id, .int .i64 f, .int .i64 t, .int .i64 L, .int .i64 d, .int .i64 s] 33)) := bal (Below.refl _ _) _
      go_enter Try.func38, Try.ntmps38
      go_wp2_with fail
      have hb : Below w.heap.size w (w.alloc (.cells #[.string id, .int .i64 f, .int .i64 t, .int .i64 L, .int .i64 d, .int .i64 s] 33)).drew := below_drewN hb 1
      have hp : PipeAt (w.alloc (.cells #[.string id, .int .i64 f, .int .i64 t, .int .i64 L, .int .i64 d, .int .i64 s] 33)).drew w.heap.size id f t L d s := hp
      have ⟨p0, p1, p2, p3, p4, p5⟩ := hp
      go_region_held3 (fun w' => w'.cell? ⟨w.heap.size, 0, none⟩ = some (.string id) ∧ w'.cell? ⟨w.heap.size, 1, none⟩ = some (.int .i64 f) ∧ w'.cell? ⟨w.heap.size, 2, none⟩ = some (.int .i64 t) ∧ w'.cell? ⟨w.heap.size, 3, none⟩ = some (.int .i64 L) ∧ w'.cell? ⟨w.heap.size, 4, none⟩ = some (.int .i64 d) ∧ w'.cell? ⟨w.heap.size, 5, none⟩ = some (.int .i64 s)) (exact ⟨p0, p1, p2, p3, p4, p5⟩) (first | (go_at_call 63; refine (isFlow_any _ _).mono ?_; rintro e w' ⟨rfl, hb'⟩; have hb := bnext hb hb'; have hp := PipeAt.next hp hb'; have ⟨p0, p1, p2, p3, p4, p5⟩ := hp) | (go_at_call 67; refine (HPC.out _).mono ?_; rintro e w' ⟨rfl, hb'⟩; have hb := bnext hb hb'; have hp := PipeAt.next hp hb'; have ⟨p0, p1, p2, p3, p4, p5⟩ := hp))
      go_wp2
      all_goals go_ret2
      all_goals (first | exact ⟨rfl, hb⟩ | exact ⟨rfl, (bal hb _)⟩ | exact ⟨rfl, (bal (bal hb _) _)⟩ | exact ⟨rfl, (bal (bal (bal hb _) _) _)⟩)
  · have ho' : okP id f t L d s = false := by simpa using ho
    by_cases k1 : inB q (-100000) 100000 = true
    · skip
      have hv : dlyV id f t L d s q = 0 := by unfold dlyV; simp [*]
      have hc : dlyC id f t L d s q = 1 := by unfold dlyC; simp [*]
      rw [hv, hc]
      clear hv hc
      have hcv : codeP id f t L d s true = 1 := by unfold codeP; simp [*]
      have HPC : Hid (∀ wx, Calls Try.prog 67 #[.agg #[.string id, .int .i64 f, .int .i64 t, .int .i64 L, .int .i64 d, .int .i64 s], .bool true] wx fun e w' => e = .returned (.int .i64 1) ∧ Below wx.heap.size wx w') := Lib.hid fun wx => by
        have := pipeCode_any id f t L d s true wx hs
        rw [hcv] at this
        exact this
      clear hcv
      have hp := PipeAt.new w id f t L d s 33
      have hb : Below w.heap.size w (w.alloc (.cells #[.string id, .int .i64 f, .int .i64 t, .int .i64 L, .int .i64 d, .int .i64 s] 33)) := bal (Below.refl _ _) _
      go_enter Try.func38, Try.ntmps38
      go_wp2_with fail
      have hb : Below w.heap.size w (w.alloc (.cells #[.string id, .int .i64 f, .int .i64 t, .int .i64 L, .int .i64 d, .int .i64 s] 33)).drew := below_drewN hb 1
      have hp : PipeAt (w.alloc (.cells #[.string id, .int .i64 f, .int .i64 t, .int .i64 L, .int .i64 d, .int .i64 s] 33)).drew w.heap.size id f t L d s := hp
      have ⟨p0, p1, p2, p3, p4, p5⟩ := hp
      go_region_held3 (fun w' => w'.cell? ⟨w.heap.size, 0, none⟩ = some (.string id) ∧ w'.cell? ⟨w.heap.size, 1, none⟩ = some (.int .i64 f) ∧ w'.cell? ⟨w.heap.size, 2, none⟩ = some (.int .i64 t) ∧ w'.cell? ⟨w.heap.size, 3, none⟩ = some (.int .i64 L) ∧ w'.cell? ⟨w.heap.size, 4, none⟩ = some (.int .i64 d) ∧ w'.cell? ⟨w.heap.size, 5, none⟩ = some (.int .i64 s)) (exact ⟨p0, p1, p2, p3, p4, p5⟩) (first | (go_at_call 63; refine (isFlow_any _ _).mono ?_; rintro e w' ⟨rfl, hb'⟩; have hb := bnext hb hb'; have hp := PipeAt.next hp hb'; have ⟨p0, p1, p2, p3, p4, p5⟩ := hp) | (go_at_call 67; refine (HPC.out _).mono ?_; rintro e w' ⟨rfl, hb'⟩; have hb := bnext hb hb'; have hp := PipeAt.next hp hb'; have ⟨p0, p1, p2, p3, p4, p5⟩ := hp))
      go_wp2
      all_goals go_ret2
      all_goals (first | exact ⟨rfl, hb⟩ | exact ⟨rfl, (bal hb _)⟩ | exact ⟨rfl, (bal (bal hb _) _)⟩ | exact ⟨rfl, (bal (bal (bal hb _) _) _)⟩)
    · have k1' : inB q (-100000) 100000 = false := by simpa using k1
      have hv : dlyV id f t L d s q = 0 := by unfold dlyV; simp [*]
      have hc : dlyC id f t L d s q = 1 := by unfold dlyC; simp [*]
      rw [hv, hc]
      clear hv hc
      have hcv : codeP id f t L d s false = 1 := by unfold codeP; simp [*]
      have HPC : Hid (∀ wx, Calls Try.prog 67 #[.agg #[.string id, .int .i64 f, .int .i64 t, .int .i64 L, .int .i64 d, .int .i64 s], .bool false] wx fun e w' => e = .returned (.int .i64 1) ∧ Below wx.heap.size wx w') := Lib.hid fun wx => by
        have := pipeCode_any id f t L d s false wx hs
        rw [hcv] at this
        exact this
      clear hcv
      have hp := PipeAt.new w id f t L d s 33
      have hb : Below w.heap.size w (w.alloc (.cells #[.string id, .int .i64 f, .int .i64 t, .int .i64 L, .int .i64 d, .int .i64 s] 33)) := bal (Below.refl _ _) _
      go_enter Try.func38, Try.ntmps38
      go_wp2_with fail
      have hb : Below w.heap.size w (w.alloc (.cells #[.string id, .int .i64 f, .int .i64 t, .int .i64 L, .int .i64 d, .int .i64 s] 33)).drew := below_drewN hb 1
      have hp : PipeAt (w.alloc (.cells #[.string id, .int .i64 f, .int .i64 t, .int .i64 L, .int .i64 d, .int .i64 s] 33)).drew w.heap.size id f t L d s := hp
      have ⟨p0, p1, p2, p3, p4, p5⟩ := hp
      go_region_held3 (fun w' => w'.cell? ⟨w.heap.size, 0, none⟩ = some (.string id) ∧ w'.cell? ⟨w.heap.size, 1, none⟩ = some (.int .i64 f) ∧ w'.cell? ⟨w.heap.size, 2, none⟩ = some (.int .i64 t) ∧ w'.cell? ⟨w.heap.size, 3, none⟩ = some (.int .i64 L) ∧ w'.cell? ⟨w.heap.size, 4, none⟩ = some (.int .i64 d) ∧ w'.cell? ⟨w.heap.size, 5, none⟩ = some (.int .i64 s)) (exact ⟨p0, p1, p2, p3, p4, p5⟩) (first | (go_at_call 63; refine (isFlow_any _ _).mono ?_; rintro e w' ⟨rfl, hb'⟩; have hb := bnext hb hb'; have hp := PipeAt.next hp hb'; have ⟨p0, p1, p2, p3, p4, p5⟩ := hp) | (go_at_call 67; refine (HPC.out _).mono ?_; rintro e w' ⟨rfl, hb'⟩; have hb := bnext hb hb'; have hp := PipeAt.next hp hb'; have ⟨p0, p1, p2, p3, p4, p5⟩ := hp))
      go_wp2
      all_goals go_ret2
      all_goals (first | exact ⟨rfl, hb⟩ | exact ⟨rfl, (bal hb _)⟩ | exact ⟨rfl, (bal (bal hb _) _)⟩ | exact ⟨rfl, (bal (bal (bal hb _) _) _)⟩)

theorem l03Delay_any (b : Nat) (id : ByteArray) (f t L d s : Int) (q : Int) (w : World) (hp : PipeAt w b id f t L d s) (l0 : 0 ≤ L) (l1 : L ≤ 10000) (d0 : 20 ≤ d) (d1 : d ≤ 1000) (q0 : -100000 ≤ q) (q1 : q ≤ 100000) (hq : q ≠ 0) :
    Calls Try.prog 74 #[.pointer (some ⟨b, 0, none⟩), .int .i64 q] w fun e w' => e = .returned (.int .i64 (delayI L d q)) ∧ Drawn w w' := by
  have hw := water_bd L d l0 l1 d0 d1
  have ha := absI_bd q 100000 q0 q1
  have a1 : 1 ≤ absI q := by rw [absI_nat]; omega
  have HW := Lib.hid (l03Water_any b id f t L d s w hp l0 l1 d0 d1)
  have HA := Lib.hid (fun wx => l03Abs_any q wx (by omega) (by omega))
  have z0 : 0 ≤ waterI L d + absI q - 1 := by omega
  have hdv := div_bd (waterI L d + absI q - 1) (absI q) (by omega) a1
  unfold delayI
  generalize waterI L d = r at *
  generalize absI q = u at *
  clear l0 l1 d0 d1 q0 q1 hq
  go_enter Try.func74, Try.ntmps74
  go_wp2_with (first | (go_at_call 82; refine (HA.out _).mono ?_; rintro e w' ⟨rfl, rfl⟩) | (go_at_call 71; refine HW.out.mono ?_; rintro e w' ⟨rfl, ⟨nq, rfl⟩⟩))
  go_ret
  exact ⟨rfl, ⟨_, rfl⟩⟩

set_option maxHeartbeats 3200000 in
theorem specDelayOf_any (id : ByteArray) (f t L d s : Int) (q : Int) (w : World) (hs : id.size ≤ maxLen) : Calls Try.prog 37 #[.agg #[.string id, .int .i64 f, .int .i64 t, .int .i64 L, .int .i64 d, .int .i64 s], .int .i64 q] w fun e w' => e = .returned (.tuple #[.int .i64 (dlyV id f t L d s q), .int .i64 (dlyC id f t L d s q)]) ∧ Below w.heap.size w w' := by
  by_cases ho : okP id f t L d s = true
  · skip
    by_cases k1 : inB q (-100000) 100000 = true
    · skip
      by_cases kz : (q != 0) = true
      · skip
        have hv : dlyV id f t L d s q = delayI L d q := by unfold dlyV; simp [*]
        have hc : dlyC id f t L d s q = 0 := by unfold dlyC; simp [*]
        rw [hv, hc]
        clear hv hc
        obtain ⟨-, -, -, -, ⟨l0, l1⟩, ⟨d0, d1⟩, ⟨s0, s1⟩⟩ := okP_bd id f t L d s ho
        have ha := absI_bd q 100000 (inB_iff.1 k1).1 (inB_iff.1 k1).2
        have kq := inB_iff.1 k1
        have z : (q == 0) = false := by simpa using kz
        have a1 : 1 ≤ absI q := by
          have : q ≠ 0 := by simpa using kz
          rw [absI_nat]; omega
        have HDS := Lib.hid (fun (b : Nat) wx (h : PipeAt wx b id f t L d s) => l03Delay_any b id f t L d s q wx h (by omega) l1 d0 d1 kq.1 kq.2 (by simpa using kz))
        have HZ := Lib.hid kz
        clear kz
        generalize delayI L d q = r at *
        have hp := PipeAt.new w id f t L d s 33
        have hb : Below w.heap.size w (w.alloc (.cells #[.string id, .int .i64 f, .int .i64 t, .int .i64 L, .int .i64 d, .int .i64 s] 33)) := bal (Below.refl _ _) _
        have ⟨p0, p1, p2, p3, p4, p5⟩ := hp
        have hcv : codeP id f t L d s (inB q (-100000) 100000) = 0 := by unfold codeP; simp [*]
        have HAK : Hid (∀ (b : Nat) wx, PipeAt wx b id f t L d s → Calls Try.prog 65 #[.pointer (some ⟨b, 0, none⟩), .int .i64 q] wx fun e w' => e = .returned (.int .i64 0) ∧ Drawn wx w') := Lib.hid fun b wx h => by
          have := l03Ask_any b id f t L d s q wx h hs
          rw [hcv] at this
          exact this
        clear hcv
        go_enter Try.func37, Try.ntmps37
        go_wp2_with (first | (go_at_call 65; refine (HAK.out _ _ hp).mono ?_; rintro e w' ⟨rfl, hd'⟩; have hb' := Drawn.below hd'; first | (have hb := bnext hb hb'; have hp := PipeAt.next hp hb'; have ⟨p0, p1, p2, p3, p4, p5⟩ := hp) | (have hb := bnext (bal hb _) hb'; have hp := PipeAt.next (PipeAt.alloc hp _) hb'; have ⟨p0, p1, p2, p3, p4, p5⟩ := hp) | (have hb := bnext (bal (bal hb _) _) hb'; have hp := PipeAt.next (PipeAt.alloc (PipeAt.alloc hp _) _) hb'; have ⟨p0, p1, p2, p3, p4, p5⟩ := hp) | (have hb := bnext (bal (bal (bal hb _) _) _) hb'; have hp := PipeAt.next (PipeAt.alloc (PipeAt.alloc (PipeAt.alloc hp _) _) _) hb'; have ⟨p0, p1, p2, p3, p4, p5⟩ := hp)) | (go_at_call 74; refine (HDS.out _ _ hp).mono ?_; rintro e w' ⟨rfl, hd'⟩; have hb' := Drawn.below hd'; first | (have hb := bnext hb hb'; have hp := PipeAt.next hp hb'; have ⟨p0, p1, p2, p3, p4, p5⟩ := hp) | (have hb := bnext (bal hb _) hb'; have hp := PipeAt.next (PipeAt.alloc hp _) hb'; have ⟨p0, p1, p2, p3, p4, p5⟩ := hp) | (have hb := bnext (bal (bal hb _) _) hb'; have hp := PipeAt.next (PipeAt.alloc (PipeAt.alloc hp _) _) hb'; have ⟨p0, p1, p2, p3, p4, p5⟩ := hp) | (have hb := bnext (bal (bal (bal hb _) _) _) hb'; have hp := PipeAt.next (PipeAt.alloc (PipeAt.alloc (PipeAt.alloc hp _) _) _) hb'; have ⟨p0, p1, p2, p3, p4, p5⟩ := hp)))
        go_ret2
        first | exact ⟨rfl, hb⟩ | exact ⟨rfl, (bal hb _)⟩ | exact ⟨rfl, (bal (bal hb _) _)⟩ | exact ⟨rfl, (bal (bal (bal hb _) _) _)⟩
      · have kz' : (q != 0) = false := by simpa using kz
        have hv : dlyV id f t L d s q = 0 := by unfold dlyV; simp [*]
        have hc : dlyC id f t L d s q = 6 := by unfold dlyC; simp [*]
        rw [hv, hc]
        clear hv hc
        have z : (q == 0) = true := by simpa using kz'
        have hp := PipeAt.new w id f t L d s 33
        have hb : Below w.heap.size w (w.alloc (.cells #[.string id, .int .i64 f, .int .i64 t, .int .i64 L, .int .i64 d, .int .i64 s] 33)) := bal (Below.refl _ _) _
        have ⟨p0, p1, p2, p3, p4, p5⟩ := hp
        have hcv : codeP id f t L d s (inB q (-100000) 100000) = 0 := by unfold codeP; simp [*]
        have HAK : Hid (∀ (b : Nat) wx, PipeAt wx b id f t L d s → Calls Try.prog 65 #[.pointer (some ⟨b, 0, none⟩), .int .i64 q] wx fun e w' => e = .returned (.int .i64 0) ∧ Drawn wx w') := Lib.hid fun b wx h => by
          have := l03Ask_any b id f t L d s q wx h hs
          rw [hcv] at this
          exact this
        clear hcv
        go_enter Try.func37, Try.ntmps37
        go_wp2_with (first | (go_at_call 65; refine (HAK.out _ _ hp).mono ?_; rintro e w' ⟨rfl, hd'⟩; have hb' := Drawn.below hd'; first | (have hb := bnext hb hb'; have hp := PipeAt.next hp hb'; have ⟨p0, p1, p2, p3, p4, p5⟩ := hp) | (have hb := bnext (bal hb _) hb'; have hp := PipeAt.next (PipeAt.alloc hp _) hb'; have ⟨p0, p1, p2, p3, p4, p5⟩ := hp) | (have hb := bnext (bal (bal hb _) _) hb'; have hp := PipeAt.next (PipeAt.alloc (PipeAt.alloc hp _) _) hb'; have ⟨p0, p1, p2, p3, p4, p5⟩ := hp) | (have hb := bnext (bal (bal (bal hb _) _) _) hb'; have hp := PipeAt.next (PipeAt.alloc (PipeAt.alloc (PipeAt.alloc hp _) _) _) hb'; have ⟨p0, p1, p2, p3, p4, p5⟩ := hp)) | (go_at_call 74; refine (HDS.out _ _ hp).mono ?_; rintro e w' ⟨rfl, hd'⟩; have hb' := Drawn.below hd'; first | (have hb := bnext hb hb'; have hp := PipeAt.next hp hb'; have ⟨p0, p1, p2, p3, p4, p5⟩ := hp) | (have hb := bnext (bal hb _) hb'; have hp := PipeAt.next (PipeAt.alloc hp _) hb'; have ⟨p0, p1, p2, p3, p4, p5⟩ := hp) | (have hb := bnext (bal (bal hb _) _) hb'; have hp := PipeAt.next (PipeAt.alloc (PipeAt.alloc hp _) _) hb'; have ⟨p0, p1, p2, p3, p4, p5⟩ := hp) | (have hb := bnext (bal (bal (bal hb _) _) _) hb'; have hp := PipeAt.next (PipeAt.alloc (PipeAt.alloc (PipeAt.alloc hp _) _) _) hb'; have ⟨p0, p1, p2, p3, p4, p5⟩ := hp)))
        go_ret2
        first | exact ⟨rfl, hb⟩ | exact ⟨rfl, (bal hb _)⟩ | exact ⟨rfl, (bal (bal hb _) _)⟩ | exact ⟨rfl, (bal (bal (bal hb _) _) _)⟩
    · have k1' : inB q (-100000) 100000 = false := by simpa using k1
      have hv : dlyV id f t L d s q = 0 := by unfold dlyV; simp [*]
      have hc : dlyC id f t L d s q = 2 := by unfold dlyC; simp [*]
      rw [hv, hc]
      clear hv hc
      have hp := PipeAt.new w id f t L d s 33
      have hb : Below w.heap.size w (w.alloc (.cells #[.string id, .int .i64 f, .int .i64 t, .int .i64 L, .int .i64 d, .int .i64 s] 33)) := bal (Below.refl _ _) _
      have ⟨p0, p1, p2, p3, p4, p5⟩ := hp
      have hcv : codeP id f t L d s (inB q (-100000) 100000) = 2 := by unfold codeP; simp [*]
      have HAK : Hid (∀ (b : Nat) wx, PipeAt wx b id f t L d s → Calls Try.prog 65 #[.pointer (some ⟨b, 0, none⟩), .int .i64 q] wx fun e w' => e = .returned (.int .i64 2) ∧ Drawn wx w') := Lib.hid fun b wx h => by
        have := l03Ask_any b id f t L d s q wx h hs
        rw [hcv] at this
        exact this
      clear hcv
      go_enter Try.func37, Try.ntmps37
      go_wp2_with (first | (go_at_call 65; refine (HAK.out _ _ hp).mono ?_; rintro e w' ⟨rfl, hd'⟩; have hb' := Drawn.below hd'; first | (have hb := bnext hb hb'; have hp := PipeAt.next hp hb'; have ⟨p0, p1, p2, p3, p4, p5⟩ := hp) | (have hb := bnext (bal hb _) hb'; have hp := PipeAt.next (PipeAt.alloc hp _) hb'; have ⟨p0, p1, p2, p3, p4, p5⟩ := hp) | (have hb := bnext (bal (bal hb _) _) hb'; have hp := PipeAt.next (PipeAt.alloc (PipeAt.alloc hp _) _) hb'; have ⟨p0, p1, p2, p3, p4, p5⟩ := hp) | (have hb := bnext (bal (bal (bal hb _) _) _) hb'; have hp := PipeAt.next (PipeAt.alloc (PipeAt.alloc (PipeAt.alloc hp _) _) _) hb'; have ⟨p0, p1, p2, p3, p4, p5⟩ := hp)))
      go_ret2
      first | exact ⟨rfl, hb⟩ | exact ⟨rfl, (bal hb _)⟩ | exact ⟨rfl, (bal (bal hb _) _)⟩ | exact ⟨rfl, (bal (bal (bal hb _) _) _)⟩
  · have ho' : okP id f t L d s = false := by simpa using ho
    by_cases k1 : inB q (-100000) 100000 = true
    · skip
      have hv : dlyV id f t L d s q = 0 := by unfold dlyV; simp [*]
      have hc : dlyC id f t L d s q = 1 := by unfold dlyC; simp [*]
      rw [hv, hc]
      clear hv hc
      have hp := PipeAt.new w id f t L d s 33
      have hb : Below w.heap.size w (w.alloc (.cells #[.string id, .int .i64 f, .int .i64 t, .int .i64 L, .int .i64 d, .int .i64 s] 33)) := bal (Below.refl _ _) _
      have ⟨p0, p1, p2, p3, p4, p5⟩ := hp
      have hcv : codeP id f t L d s (inB q (-100000) 100000) = 1 := by unfold codeP; simp [*]
      have HAK : Hid (∀ (b : Nat) wx, PipeAt wx b id f t L d s → Calls Try.prog 65 #[.pointer (some ⟨b, 0, none⟩), .int .i64 q] wx fun e w' => e = .returned (.int .i64 1) ∧ Drawn wx w') := Lib.hid fun b wx h => by
        have := l03Ask_any b id f t L d s q wx h hs
        rw [hcv] at this
        exact this
      clear hcv
      go_enter Try.func37, Try.ntmps37
      go_wp2_with (first | (go_at_call 65; refine (HAK.out _ _ hp).mono ?_; rintro e w' ⟨rfl, hd'⟩; have hb' := Drawn.below hd'; first | (have hb := bnext hb hb'; have hp := PipeAt.next hp hb'; have ⟨p0, p1, p2, p3, p4, p5⟩ := hp) | (have hb := bnext (bal hb _) hb'; have hp := PipeAt.next (PipeAt.alloc hp _) hb'; have ⟨p0, p1, p2, p3, p4, p5⟩ := hp) | (have hb := bnext (bal (bal hb _) _) hb'; have hp := PipeAt.next (PipeAt.alloc (PipeAt.alloc hp _) _) hb'; have ⟨p0, p1, p2, p3, p4, p5⟩ := hp) | (have hb := bnext (bal (bal (bal hb _) _) _) hb'; have hp := PipeAt.next (PipeAt.alloc (PipeAt.alloc (PipeAt.alloc hp _) _) _) hb'; have ⟨p0, p1, p2, p3, p4, p5⟩ := hp)))
      go_ret2
      first | exact ⟨rfl, hb⟩ | exact ⟨rfl, (bal hb _)⟩ | exact ⟨rfl, (bal (bal hb _) _)⟩ | exact ⟨rfl, (bal (bal (bal hb _) _) _)⟩
    · have k1' : inB q (-100000) 100000 = false := by simpa using k1
      have hv : dlyV id f t L d s q = 0 := by unfold dlyV; simp [*]
      have hc : dlyC id f t L d s q = 1 := by unfold dlyC; simp [*]
      rw [hv, hc]
      clear hv hc
      have hp := PipeAt.new w id f t L d s 33
      have hb : Below w.heap.size w (w.alloc (.cells #[.string id, .int .i64 f, .int .i64 t, .int .i64 L, .int .i64 d, .int .i64 s] 33)) := bal (Below.refl _ _) _
      have ⟨p0, p1, p2, p3, p4, p5⟩ := hp
      have hcv : codeP id f t L d s (inB q (-100000) 100000) = 1 := by unfold codeP; simp [*]
      have HAK : Hid (∀ (b : Nat) wx, PipeAt wx b id f t L d s → Calls Try.prog 65 #[.pointer (some ⟨b, 0, none⟩), .int .i64 q] wx fun e w' => e = .returned (.int .i64 1) ∧ Drawn wx w') := Lib.hid fun b wx h => by
        have := l03Ask_any b id f t L d s q wx h hs
        rw [hcv] at this
        exact this
      clear hcv
      go_enter Try.func37, Try.ntmps37
      go_wp2_with (first | (go_at_call 65; refine (HAK.out _ _ hp).mono ?_; rintro e w' ⟨rfl, hd'⟩; have hb' := Drawn.below hd'; first | (have hb := bnext hb hb'; have hp := PipeAt.next hp hb'; have ⟨p0, p1, p2, p3, p4, p5⟩ := hp) | (have hb := bnext (bal hb _) hb'; have hp := PipeAt.next (PipeAt.alloc hp _) hb'; have ⟨p0, p1, p2, p3, p4, p5⟩ := hp) | (have hb := bnext (bal (bal hb _) _) hb'; have hp := PipeAt.next (PipeAt.alloc (PipeAt.alloc hp _) _) hb'; have ⟨p0, p1, p2, p3, p4, p5⟩ := hp) | (have hb := bnext (bal (bal (bal hb _) _) _) hb'; have hp := PipeAt.next (PipeAt.alloc (PipeAt.alloc (PipeAt.alloc hp _) _) _) hb'; have ⟨p0, p1, p2, p3, p4, p5⟩ := hp)))
      go_ret2
      first | exact ⟨rfl, hb⟩ | exact ⟨rfl, (bal hb _)⟩ | exact ⟨rfl, (bal (bal hb _) _)⟩ | exact ⟨rfl, (bal (bal (bal hb _) _) _)⟩

/-- centimetres a second -/
def speedI (d q : Int) : Int := nearI (q * 1000000) (7854 * d * d)
def spdV (id : ByteArray) (f t L d s : Int) (q : Int) : Int := if okP id f t L d s && inB q (-100000) 100000 then (speedI d q) else 0
def spdC (id : ByteArray) (f t L d s : Int) (q : Int) : Int := if okP id f t L d s then (if inB q (-100000) 100000 then 0 else 2) else 1

set_option maxHeartbeats 3200000 in
theorem implSpeedOf_any (id : ByteArray) (f t L d s : Int) (q : Int) (w : World) (hs : id.size ≤ maxLen) : Calls Try.prog 40 #[.agg #[.string id, .int .i64 f, .int .i64 t, .int .i64 L, .int .i64 d, .int .i64 s], .int .i64 q] w fun e w' => e = .returned (.tuple #[.int .i64 (spdV id f t L d s q), .int .i64 (spdC id f t L d s q)]) ∧ Below w.heap.size w w' := by
  by_cases ho : okP id f t L d s = true
  · skip
    by_cases k1 : inB q (-100000) 100000 = true
    · skip
      have hv : spdV id f t L d s q = speedI d q := by unfold spdV; simp [*]
      have hc : spdC id f t L d s q = 0 := by unfold spdC; simp [*]
      rw [hv, hc]
      clear hv hc
      have hcv : codeP id f t L d s true = 0 := by unfold codeP; simp [*]
      have HPC : Hid (∀ wx, Calls Try.prog 67 #[.agg #[.string id, .int .i64 f, .int .i64 t, .int .i64 L, .int .i64 d, .int .i64 s], .bool true] wx fun e w' => e = .returned (.int .i64 0) ∧ Below wx.heap.size wx w') := Lib.hid fun wx => by
        have := pipeCode_any id f t L d s true wx hs
        rw [hcv] at this
        exact this
      clear hcv
      obtain ⟨-, -, -, -, ⟨l0, l1⟩, ⟨d0, d1⟩, ⟨s0, s1⟩⟩ := okP_bd id f t L d s ho
      have kq := inB_iff.1 k1
      have k5 := mul_range (7854 * d) d 7854000 1000 (by omega) (by omega) (by omega) d1
      have k6 : 0 < 7854 * d * d := Int.mul_pos (by omega) (by omega)
      unfold speedI
      rw [Int.mul_comm q 1000000]
      have hp := PipeAt.new w id f t L d s 33
      have hb : Below w.heap.size w (w.alloc (.cells #[.string id, .int .i64 f, .int .i64 t, .int .i64 L, .int .i64 d, .int .i64 s] 33)) := bal (Below.refl _ _) _
      go_enter Try.func40, Try.ntmps40
      go_wp2_with fail
      have hb : Below w.heap.size w (w.alloc (.cells #[.string id, .int .i64 f, .int .i64 t, .int .i64 L, .int .i64 d, .int .i64 s] 33)).drew := below_drewN hb 1
      have hp : PipeAt (w.alloc (.cells #[.string id, .int .i64 f, .int .i64 t, .int .i64 L, .int .i64 d, .int .i64 s] 33)).drew w.heap.size id f t L d s := hp
      have ⟨p0, p1, p2, p3, p4, p5⟩ := hp
      go_region_held3 (fun w' => w'.cell? ⟨w.heap.size, 0, none⟩ = some (.string id) ∧ w'.cell? ⟨w.heap.size, 1, none⟩ = some (.int .i64 f) ∧ w'.cell? ⟨w.heap.size, 2, none⟩ = some (.int .i64 t) ∧ w'.cell? ⟨w.heap.size, 3, none⟩ = some (.int .i64 L) ∧ w'.cell? ⟨w.heap.size, 4, none⟩ = some (.int .i64 d) ∧ w'.cell? ⟨w.heap.size, 5, none⟩ = some (.int .i64 s)) (exact ⟨p0, p1, p2, p3, p4, p5⟩) (first | (go_at_call 63; refine (isFlow_any _ _).mono ?_; rintro e w' ⟨rfl, hb'⟩; have hb := bnext hb hb'; have hp := PipeAt.next hp hb'; have ⟨p0, p1, p2, p3, p4, p5⟩ := hp) | (go_at_call 67; refine (HPC.out _).mono ?_; rintro e w' ⟨rfl, hb'⟩; have hb := bnext hb hb'; have hp := PipeAt.next hp hb'; have ⟨p0, p1, p2, p3, p4, p5⟩ := hp))
      go_wp2_with (first | (go_at_call 60; refine (nearest_any _ _ _ (by omega) (by omega) (by omega) (by omega) (by omega)).mono ?_; rintro e w' ⟨rfl, ⟨nq, rfl⟩⟩; have hb := below_drewN hb nq))
      all_goals go_ret2
      all_goals (first | exact ⟨rfl, hb⟩ | exact ⟨rfl, (bal hb _)⟩ | exact ⟨rfl, (bal (bal hb _) _)⟩ | exact ⟨rfl, (bal (bal (bal hb _) _) _)⟩)
    · have k1' : inB q (-100000) 100000 = false := by simpa using k1
      have hv : spdV id f t L d s q = 0 := by unfold spdV; simp [*]
      have hc : spdC id f t L d s q = 2 := by unfold spdC; simp [*]
      rw [hv, hc]
      clear hv hc
      have hcv : codeP id f t L d s false = 2 := by unfold codeP; simp [*]
      have HPC : Hid (∀ wx, Calls Try.prog 67 #[.agg #[.string id, .int .i64 f, .int .i64 t, .int .i64 L, .int .i64 d, .int .i64 s], .bool false] wx fun e w' => e = .returned (.int .i64 2) ∧ Below wx.heap.size wx w') := Lib.hid fun wx => by
        have := pipeCode_any id f t L d s false wx hs
        rw [hcv] at this
        exact this
      clear hcv
      have hp := PipeAt.new w id f t L d s 33
      have hb : Below w.heap.size w (w.alloc (.cells #[.string id, .int .i64 f, .int .i64 t, .int .i64 L, .int .i64 d, .int .i64 s] 33)) := bal (Below.refl _ _) _
      go_enter Try.func40, Try.ntmps40
      go_wp2_with fail
      have hb : Below w.heap.size w (w.alloc (.cells #[.string id, .int .i64 f, .int .i64 t, .int .i64 L, .int .i64 d, .int .i64 s] 33)).drew := below_drewN hb 1
      have hp : PipeAt (w.alloc (.cells #[.string id, .int .i64 f, .int .i64 t, .int .i64 L, .int .i64 d, .int .i64 s] 33)).drew w.heap.size id f t L d s := hp
      have ⟨p0, p1, p2, p3, p4, p5⟩ := hp
      go_region_held3 (fun w' => w'.cell? ⟨w.heap.size, 0, none⟩ = some (.string id) ∧ w'.cell? ⟨w.heap.size, 1, none⟩ = some (.int .i64 f) ∧ w'.cell? ⟨w.heap.size, 2, none⟩ = some (.int .i64 t) ∧ w'.cell? ⟨w.heap.size, 3, none⟩ = some (.int .i64 L) ∧ w'.cell? ⟨w.heap.size, 4, none⟩ = some (.int .i64 d) ∧ w'.cell? ⟨w.heap.size, 5, none⟩ = some (.int .i64 s)) (exact ⟨p0, p1, p2, p3, p4, p5⟩) (first | (go_at_call 63; refine (isFlow_any _ _).mono ?_; rintro e w' ⟨rfl, hb'⟩; have hb := bnext hb hb'; have hp := PipeAt.next hp hb'; have ⟨p0, p1, p2, p3, p4, p5⟩ := hp) | (go_at_call 67; refine (HPC.out _).mono ?_; rintro e w' ⟨rfl, hb'⟩; have hb := bnext hb hb'; have hp := PipeAt.next hp hb'; have ⟨p0, p1, p2, p3, p4, p5⟩ := hp))
      go_wp2
      all_goals go_ret2
      all_goals (first | exact ⟨rfl, hb⟩ | exact ⟨rfl, (bal hb _)⟩ | exact ⟨rfl, (bal (bal hb _) _)⟩ | exact ⟨rfl, (bal (bal (bal hb _) _) _)⟩)
  · have ho' : okP id f t L d s = false := by simpa using ho
    by_cases k1 : inB q (-100000) 100000 = true
    · skip
      have hv : spdV id f t L d s q = 0 := by unfold spdV; simp [*]
      have hc : spdC id f t L d s q = 1 := by unfold spdC; simp [*]
      rw [hv, hc]
      clear hv hc
      have hcv : codeP id f t L d s true = 1 := by unfold codeP; simp [*]
      have HPC : Hid (∀ wx, Calls Try.prog 67 #[.agg #[.string id, .int .i64 f, .int .i64 t, .int .i64 L, .int .i64 d, .int .i64 s], .bool true] wx fun e w' => e = .returned (.int .i64 1) ∧ Below wx.heap.size wx w') := Lib.hid fun wx => by
        have := pipeCode_any id f t L d s true wx hs
        rw [hcv] at this
        exact this
      clear hcv
      have hp := PipeAt.new w id f t L d s 33
      have hb : Below w.heap.size w (w.alloc (.cells #[.string id, .int .i64 f, .int .i64 t, .int .i64 L, .int .i64 d, .int .i64 s] 33)) := bal (Below.refl _ _) _
      go_enter Try.func40, Try.ntmps40
      go_wp2_with fail
      have hb : Below w.heap.size w (w.alloc (.cells #[.string id, .int .i64 f, .int .i64 t, .int .i64 L, .int .i64 d, .int .i64 s] 33)).drew := below_drewN hb 1
      have hp : PipeAt (w.alloc (.cells #[.string id, .int .i64 f, .int .i64 t, .int .i64 L, .int .i64 d, .int .i64 s] 33)).drew w.heap.size id f t L d s := hp
      have ⟨p0, p1, p2, p3, p4, p5⟩ := hp
      go_region_held3 (fun w' => w'.cell? ⟨w.heap.size, 0, none⟩ = some (.string id) ∧ w'.cell? ⟨w.heap.size, 1, none⟩ = some (.int .i64 f) ∧ w'.cell? ⟨w.heap.size, 2, none⟩ = some (.int .i64 t) ∧ w'.cell? ⟨w.heap.size, 3, none⟩ = some (.int .i64 L) ∧ w'.cell? ⟨w.heap.size, 4, none⟩ = some (.int .i64 d) ∧ w'.cell? ⟨w.heap.size, 5, none⟩ = some (.int .i64 s)) (exact ⟨p0, p1, p2, p3, p4, p5⟩) (first | (go_at_call 63; refine (isFlow_any _ _).mono ?_; rintro e w' ⟨rfl, hb'⟩; have hb := bnext hb hb'; have hp := PipeAt.next hp hb'; have ⟨p0, p1, p2, p3, p4, p5⟩ := hp) | (go_at_call 67; refine (HPC.out _).mono ?_; rintro e w' ⟨rfl, hb'⟩; have hb := bnext hb hb'; have hp := PipeAt.next hp hb'; have ⟨p0, p1, p2, p3, p4, p5⟩ := hp))
      go_wp2
      all_goals go_ret2
      all_goals (first | exact ⟨rfl, hb⟩ | exact ⟨rfl, (bal hb _)⟩ | exact ⟨rfl, (bal (bal hb _) _)⟩ | exact ⟨rfl, (bal (bal (bal hb _) _) _)⟩)
    · have k1' : inB q (-100000) 100000 = false := by simpa using k1
      have hv : spdV id f t L d s q = 0 := by unfold spdV; simp [*]
      have hc : spdC id f t L d s q = 1 := by unfold spdC; simp [*]
      rw [hv, hc]
      clear hv hc
      have hcv : codeP id f t L d s false = 1 := by unfold codeP; simp [*]
      have HPC : Hid (∀ wx, Calls Try.prog 67 #[.agg #[.string id, .int .i64 f, .int .i64 t, .int .i64 L, .int .i64 d, .int .i64 s], .bool false] wx fun e w' => e = .returned (.int .i64 1) ∧ Below wx.heap.size wx w') := Lib.hid fun wx => by
        have := pipeCode_any id f t L d s false wx hs
        rw [hcv] at this
        exact this
      clear hcv
      have hp := PipeAt.new w id f t L d s 33
      have hb : Below w.heap.size w (w.alloc (.cells #[.string id, .int .i64 f, .int .i64 t, .int .i64 L, .int .i64 d, .int .i64 s] 33)) := bal (Below.refl _ _) _
      go_enter Try.func40, Try.ntmps40
      go_wp2_with fail
      have hb : Below w.heap.size w (w.alloc (.cells #[.string id, .int .i64 f, .int .i64 t, .int .i64 L, .int .i64 d, .int .i64 s] 33)).drew := below_drewN hb 1
      have hp : PipeAt (w.alloc (.cells #[.string id, .int .i64 f, .int .i64 t, .int .i64 L, .int .i64 d, .int .i64 s] 33)).drew w.heap.size id f t L d s := hp
      have ⟨p0, p1, p2, p3, p4, p5⟩ := hp
      go_region_held3 (fun w' => w'.cell? ⟨w.heap.size, 0, none⟩ = some (.string id) ∧ w'.cell? ⟨w.heap.size, 1, none⟩ = some (.int .i64 f) ∧ w'.cell? ⟨w.heap.size, 2, none⟩ = some (.int .i64 t) ∧ w'.cell? ⟨w.heap.size, 3, none⟩ = some (.int .i64 L) ∧ w'.cell? ⟨w.heap.size, 4, none⟩ = some (.int .i64 d) ∧ w'.cell? ⟨w.heap.size, 5, none⟩ = some (.int .i64 s)) (exact ⟨p0, p1, p2, p3, p4, p5⟩) (first | (go_at_call 63; refine (isFlow_any _ _).mono ?_; rintro e w' ⟨rfl, hb'⟩; have hb := bnext hb hb'; have hp := PipeAt.next hp hb'; have ⟨p0, p1, p2, p3, p4, p5⟩ := hp) | (go_at_call 67; refine (HPC.out _).mono ?_; rintro e w' ⟨rfl, hb'⟩; have hb := bnext hb hb'; have hp := PipeAt.next hp hb'; have ⟨p0, p1, p2, p3, p4, p5⟩ := hp))
      go_wp2
      all_goals go_ret2
      all_goals (first | exact ⟨rfl, hb⟩ | exact ⟨rfl, (bal hb _)⟩ | exact ⟨rfl, (bal (bal hb _) _)⟩ | exact ⟨rfl, (bal (bal (bal hb _) _) _)⟩)

set_option maxHeartbeats 3200000 in
theorem specSpeedOf_any (id : ByteArray) (f t L d s : Int) (q : Int) (w : World) (hs : id.size ≤ maxLen) : Calls Try.prog 39 #[.agg #[.string id, .int .i64 f, .int .i64 t, .int .i64 L, .int .i64 d, .int .i64 s], .int .i64 q] w fun e w' => e = .returned (.tuple #[.int .i64 (spdV id f t L d s q), .int .i64 (spdC id f t L d s q)]) ∧ Below w.heap.size w w' := by
  by_cases ho : okP id f t L d s = true
  · skip
    by_cases k1 : inB q (-100000) 100000 = true
    · skip
      have hv : spdV id f t L d s q = speedI d q := by unfold spdV; simp [*]
      have hc : spdC id f t L d s q = 0 := by unfold spdC; simp [*]
      rw [hv, hc]
      clear hv hc
      obtain ⟨-, -, -, -, ⟨l0, l1⟩, ⟨d0, d1⟩, ⟨s0, s1⟩⟩ := okP_bd id f t L d s ho
      have kq := inB_iff.1 k1
      have k5 := mul_range (7854 * d) d 7854000 1000 (by omega) (by omega) (by omega) d1
      have k6 : 0 < 7854 * d * d := Int.mul_pos (by omega) (by omega)
      unfold speedI
      have hp := PipeAt.new w id f t L d s 33
      have hb : Below w.heap.size w (w.alloc (.cells #[.string id, .int .i64 f, .int .i64 t, .int .i64 L, .int .i64 d, .int .i64 s] 33)) := bal (Below.refl _ _) _
      have ⟨p0, p1, p2, p3, p4, p5⟩ := hp
      have hcv : codeP id f t L d s (inB q (-100000) 100000) = 0 := by unfold codeP; simp [*]
      have HAK : Hid (∀ (b : Nat) wx, PipeAt wx b id f t L d s → Calls Try.prog 65 #[.pointer (some ⟨b, 0, none⟩), .int .i64 q] wx fun e w' => e = .returned (.int .i64 0) ∧ Drawn wx w') := Lib.hid fun b wx h => by
        have := l03Ask_any b id f t L d s q wx h hs
        rw [hcv] at this
        exact this
      clear hcv
      go_enter Try.func39, Try.ntmps39
      go_wp2_with (first | (go_at_call 65; refine (HAK.out _ _ hp).mono ?_; rintro e w' ⟨rfl, hd'⟩; have hb' := Drawn.below hd'; first | (have hb := bnext hb hb'; have hp := PipeAt.next hp hb'; have ⟨p0, p1, p2, p3, p4, p5⟩ := hp) | (have hb := bnext (bal hb _) hb'; have hp := PipeAt.next (PipeAt.alloc hp _) hb'; have ⟨p0, p1, p2, p3, p4, p5⟩ := hp) | (have hb := bnext (bal (bal hb _) _) hb'; have hp := PipeAt.next (PipeAt.alloc (PipeAt.alloc hp _) _) hb'; have ⟨p0, p1, p2, p3, p4, p5⟩ := hp) | (have hb := bnext (bal (bal (bal hb _) _) _) hb'; have hp := PipeAt.next (PipeAt.alloc (PipeAt.alloc (PipeAt.alloc hp _) _) _) hb'; have ⟨p0, p1, p2, p3, p4, p5⟩ := hp)) | (go_at_call 58; refine (l01Div_any _ _ _ (by omega) (by omega) (by omega) (by omega) (by omega)).mono ?_; rintro e w' ⟨rfl, rfl⟩))
      go_ret2
      first | exact ⟨rfl, hb⟩ | exact ⟨rfl, (bal hb _)⟩ | exact ⟨rfl, (bal (bal hb _) _)⟩ | exact ⟨rfl, (bal (bal (bal hb _) _) _)⟩
    · have k1' : inB q (-100000) 100000 = false := by simpa using k1
      have hv : spdV id f t L d s q = 0 := by unfold spdV; simp [*]
      have hc : spdC id f t L d s q = 2 := by unfold spdC; simp [*]
      rw [hv, hc]
      clear hv hc
      have hp := PipeAt.new w id f t L d s 33
      have hb : Below w.heap.size w (w.alloc (.cells #[.string id, .int .i64 f, .int .i64 t, .int .i64 L, .int .i64 d, .int .i64 s] 33)) := bal (Below.refl _ _) _
      have ⟨p0, p1, p2, p3, p4, p5⟩ := hp
      have hcv : codeP id f t L d s (inB q (-100000) 100000) = 2 := by unfold codeP; simp [*]
      have HAK : Hid (∀ (b : Nat) wx, PipeAt wx b id f t L d s → Calls Try.prog 65 #[.pointer (some ⟨b, 0, none⟩), .int .i64 q] wx fun e w' => e = .returned (.int .i64 2) ∧ Drawn wx w') := Lib.hid fun b wx h => by
        have := l03Ask_any b id f t L d s q wx h hs
        rw [hcv] at this
        exact this
      clear hcv
      go_enter Try.func39, Try.ntmps39
      go_wp2_with (first | (go_at_call 65; refine (HAK.out _ _ hp).mono ?_; rintro e w' ⟨rfl, hd'⟩; have hb' := Drawn.below hd'; first | (have hb := bnext hb hb'; have hp := PipeAt.next hp hb'; have ⟨p0, p1, p2, p3, p4, p5⟩ := hp) | (have hb := bnext (bal hb _) hb'; have hp := PipeAt.next (PipeAt.alloc hp _) hb'; have ⟨p0, p1, p2, p3, p4, p5⟩ := hp) | (have hb := bnext (bal (bal hb _) _) hb'; have hp := PipeAt.next (PipeAt.alloc (PipeAt.alloc hp _) _) hb'; have ⟨p0, p1, p2, p3, p4, p5⟩ := hp) | (have hb := bnext (bal (bal (bal hb _) _) _) hb'; have hp := PipeAt.next (PipeAt.alloc (PipeAt.alloc (PipeAt.alloc hp _) _) _) hb'; have ⟨p0, p1, p2, p3, p4, p5⟩ := hp)))
      go_ret2
      first | exact ⟨rfl, hb⟩ | exact ⟨rfl, (bal hb _)⟩ | exact ⟨rfl, (bal (bal hb _) _)⟩ | exact ⟨rfl, (bal (bal (bal hb _) _) _)⟩
  · have ho' : okP id f t L d s = false := by simpa using ho
    by_cases k1 : inB q (-100000) 100000 = true
    · skip
      have hv : spdV id f t L d s q = 0 := by unfold spdV; simp [*]
      have hc : spdC id f t L d s q = 1 := by unfold spdC; simp [*]
      rw [hv, hc]
      clear hv hc
      have hp := PipeAt.new w id f t L d s 33
      have hb : Below w.heap.size w (w.alloc (.cells #[.string id, .int .i64 f, .int .i64 t, .int .i64 L, .int .i64 d, .int .i64 s] 33)) := bal (Below.refl _ _) _
      have ⟨p0, p1, p2, p3, p4, p5⟩ := hp
      have hcv : codeP id f t L d s (inB q (-100000) 100000) = 1 := by unfold codeP; simp [*]
      have HAK : Hid (∀ (b : Nat) wx, PipeAt wx b id f t L d s → Calls Try.prog 65 #[.pointer (some ⟨b, 0, none⟩), .int .i64 q] wx fun e w' => e = .returned (.int .i64 1) ∧ Drawn wx w') := Lib.hid fun b wx h => by
        have := l03Ask_any b id f t L d s q wx h hs
        rw [hcv] at this
        exact this
      clear hcv
      go_enter Try.func39, Try.ntmps39
      go_wp2_with (first | (go_at_call 65; refine (HAK.out _ _ hp).mono ?_; rintro e w' ⟨rfl, hd'⟩; have hb' := Drawn.below hd'; first | (have hb := bnext hb hb'; have hp := PipeAt.next hp hb'; have ⟨p0, p1, p2, p3, p4, p5⟩ := hp) | (have hb := bnext (bal hb _) hb'; have hp := PipeAt.next (PipeAt.alloc hp _) hb'; have ⟨p0, p1, p2, p3, p4, p5⟩ := hp) | (have hb := bnext (bal (bal hb _) _) hb'; have hp := PipeAt.next (PipeAt.alloc (PipeAt.alloc hp _) _) hb'; have ⟨p0, p1, p2, p3, p4, p5⟩ := hp) | (have hb := bnext (bal (bal (bal hb _) _) _) hb'; have hp := PipeAt.next (PipeAt.alloc (PipeAt.alloc (PipeAt.alloc hp _) _) _) hb'; have ⟨p0, p1, p2, p3, p4, p5⟩ := hp)))
      go_ret2
      first | exact ⟨rfl, hb⟩ | exact ⟨rfl, (bal hb _)⟩ | exact ⟨rfl, (bal (bal hb _) _)⟩ | exact ⟨rfl, (bal (bal (bal hb _) _) _)⟩
    · have k1' : inB q (-100000) 100000 = false := by simpa using k1
      have hv : spdV id f t L d s q = 0 := by unfold spdV; simp [*]
      have hc : spdC id f t L d s q = 1 := by unfold spdC; simp [*]
      rw [hv, hc]
      clear hv hc
      have hp := PipeAt.new w id f t L d s 33
      have hb : Below w.heap.size w (w.alloc (.cells #[.string id, .int .i64 f, .int .i64 t, .int .i64 L, .int .i64 d, .int .i64 s] 33)) := bal (Below.refl _ _) _
      have ⟨p0, p1, p2, p3, p4, p5⟩ := hp
      have hcv : codeP id f t L d s (inB q (-100000) 100000) = 1 := by unfold codeP; simp [*]
      have HAK : Hid (∀ (b : Nat) wx, PipeAt wx b id f t L d s → Calls Try.prog 65 #[.pointer (some ⟨b, 0, none⟩), .int .i64 q] wx fun e w' => e = .returned (.int .i64 1) ∧ Drawn wx w') := Lib.hid fun b wx h => by
        have := l03Ask_any b id f t L d s q wx h hs
        rw [hcv] at this
        exact this
      clear hcv
      go_enter Try.func39, Try.ntmps39
      go_wp2_with (first | (go_at_call 65; refine (HAK.out _ _ hp).mono ?_; rintro e w' ⟨rfl, hd'⟩; have hb' := Drawn.below hd'; first | (have hb := bnext hb hb'; have hp := PipeAt.next hp hb'; have ⟨p0, p1, p2, p3, p4, p5⟩ := hp) | (have hb := bnext (bal hb _) hb'; have hp := PipeAt.next (PipeAt.alloc hp _) hb'; have ⟨p0, p1, p2, p3, p4, p5⟩ := hp) | (have hb := bnext (bal (bal hb _) _) hb'; have hp := PipeAt.next (PipeAt.alloc (PipeAt.alloc hp _) _) hb'; have ⟨p0, p1, p2, p3, p4, p5⟩ := hp) | (have hb := bnext (bal (bal (bal hb _) _) _) hb'; have hp := PipeAt.next (PipeAt.alloc (PipeAt.alloc (PipeAt.alloc hp _) _) _) hb'; have ⟨p0, p1, p2, p3, p4, p5⟩ := hp)))
      go_ret2
      first | exact ⟨rfl, hb⟩ | exact ⟨rfl, (bal hb _)⟩ | exact ⟨rfl, (bal (bal hb _) _)⟩ | exact ⟨rfl, (bal (bal (bal hb _) _) _)⟩

def losV (id : ByteArray) (f t L d s : Int) (a : Int) (c : Int) : Int := if okP id f t L d s && inB a (-5000) 20000 && inB c (-5000) 20000 then (lossI s L a c) else 0
def losC (id : ByteArray) (f t L d s : Int) (a : Int) (c : Int) : Int := if okP id f t L d s then (if inB a (-5000) 20000 && inB c (-5000) 20000 then 0 else 2) else 1

end Go.Proofs.Ythmnfobhgeamiaa
