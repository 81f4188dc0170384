import Derived.Test.YtgdafgnjaogmeaaMg5197dbb5
import Derived.Test.YtgdafgnjaogmeaaMg1f22ea59
/-
  WaterIn, DelayOf, SpeedOf and LossOf of both sides.
-/
namespace Go.Proofs.Ytgdafgnjaogmeaa
open Go.ChangeShapes Go.WideShapes Go.ChangeAt Go.RowKit Go.Shelf
set_option linter.unusedSimpArgs false


def watV (id : ByteArray) (f t L d s : Int)  : Int := if okP id f t L d s then (waterI L d) else 0
def watC (id : ByteArray) (f t L d s : Int)  : Int := if okP id f t L d s then 0 else 1

/-- how long water is in a pipe -/
def delayI (L d q : Int) : Int := (waterI L d + absI q - 1) / absI q
def dlyV (id : ByteArray) (f t L d s : Int) (q : Int) : Int := if okP id f t L d s && inB q (-100000) 100000 && (q != 0) then (delayI L d q) else 0
def dlyC (id : ByteArray) (f t L d s : Int) (q : Int) : Int := if okP id f t L d s then (if inB q (-100000) 100000 then (if (q != 0) then 0 else 6) else 2) else 1

/-- centimetres a second -/
def speedI (d q : Int) : Int := nearI (q * 1000000) (7854 * d * d)
def spdV (id : ByteArray) (f t L d s : Int) (q : Int) : Int := if okP id f t L d s && inB q (-100000) 100000 then (speedI d q) else 0
def spdC (id : ByteArray) (f t L d s : Int) (q : Int) : Int := if okP id f t L d s then (if inB q (-100000) 100000 then 0 else 2) else 1

def losV (id : ByteArray) (f t L d s : Int) (a : Int) (c : Int) : Int := if okP id f t L d s && inB a (-5000) 20000 && inB c (-5000) 20000 then (lossI s L a c) else 0
def losC (id : ByteArray) (f t L d s : Int) (a : Int) (c : Int) : Int := if okP id f t L d s then (if inB a (-5000) 20000 && inB c (-5000) 20000 then 0 else 2) else 1

set_option maxHeartbeats 3200000 in
theorem implLossOf_any (id : ByteArray) (f t L d s : Int) (a : Int) (c : Int) (w : World) (hs : id.size ≤ maxLen) : Calls Try.prog 64 #[.agg #[.string id, .int .i64 f, .int .i64 t, .int .i64 L, .int .i64 d, .int .i64 s], .int .i64 a, .int .i64 c] w fun e w' => e = .returned (.tuple #[.int .i64 (losV id f t L d s a c), .int .i64 (losC id f t L d s a c)]) ∧ Below w.heap.size w w' := by
  by_cases ho : okP id f t L d s = true
  · skip
    by_cases k1 : inB a (-5000) 20000 = true
    · skip
      by_cases k2 : inB c (-5000) 20000 = true
      · skip
        have hv : losV id f t L d s a c = lossI s L a c := by unfold losV; simp [*]
        have hc : losC id f t L d s a c = 0 := by unfold losC; simp [*]
        rw [hv, hc]
        clear hv hc
        have hcv : codeP id f t L d s true = 0 := by unfold codeP; simp [*]
        have HPC : Hid (∀ wx, Calls Try.prog 83 #[.agg #[.string id, .int .i64 f, .int .i64 t, .int .i64 L, .int .i64 d, .int .i64 s], .bool true] wx fun e w' => e = .returned (.int .i64 0) ∧ Below wx.heap.size wx w') := Lib.hid fun wx => by
          have := pipeCode_any id f t L d s true wx hs
          rw [hcv] at this
          exact this
        clear hcv
        have HC0 : Hid (∀ wx, Calls Try.prog 121 #[.int .i64 a] wx fun e w' => e = .returned (.bool true) ∧ Below wx.heap.size wx w') := Lib.hid fun wx => by
          have := isTemperature_any a wx
          rw [k1] at this
          exact this
        have HC1 : Hid (∀ wx, Calls Try.prog 121 #[.int .i64 c] wx fun e w' => e = .returned (.bool true) ∧ Below wx.heap.size wx w') := Lib.hid fun wx => by
          have := isTemperature_any c wx
          rw [k2] at this
          exact this
        obtain ⟨-, -, -, -, ⟨l0, l1⟩, ⟨d0, d1⟩, ⟨s0, s1⟩⟩ := okP_bd id f t L d s ho
        have ka := inB_iff.1 k1
        have kc := inB_iff.1 k2
        have HL := Lib.hid (fun wx => lostHeat_any id f t L d s a c wx s0 s1 (by omega) l1 ka.1 ka.2 kc.1 kc.2)
        generalize lossI s L a c = r at *
        have hp := PipeAt.new w id f t L d s 29
        have hb : Below w.heap.size w (w.alloc (.cells #[.string id, .int .i64 f, .int .i64 t, .int .i64 L, .int .i64 d, .int .i64 s] 29)) := bal (Below.refl _ _) _
        go_enter Try.func64, Try.ntmps64
        go_wp2_with fail
        have hb : Below w.heap.size w (w.alloc (.cells #[.string id, .int .i64 f, .int .i64 t, .int .i64 L, .int .i64 d, .int .i64 s] 29)).drew := below_drewN hb 1
        have hp : PipeAt (w.alloc (.cells #[.string id, .int .i64 f, .int .i64 t, .int .i64 L, .int .i64 d, .int .i64 s] 29)).drew w.heap.size id f t L d s := hp
        have ⟨p0, p1, p2, p3, p4, p5⟩ := hp
        go_region_held3 (fun w' => w'.cell? ⟨w.heap.size, 0, none⟩ = some (.string id) ∧ w'.cell? ⟨w.heap.size, 1, none⟩ = some (.int .i64 f) ∧ w'.cell? ⟨w.heap.size, 2, none⟩ = some (.int .i64 t) ∧ w'.cell? ⟨w.heap.size, 3, none⟩ = some (.int .i64 L) ∧ w'.cell? ⟨w.heap.size, 4, none⟩ = some (.int .i64 d) ∧ w'.cell? ⟨w.heap.size, 5, none⟩ = some (.int .i64 s)) (exact ⟨p0, p1, p2, p3, p4, p5⟩) (first | (go_at_call 121; (with_reducible refine (HC0.out _).mono ?_); rintro e w' ⟨rfl, hb'⟩; have hb := bnext hb hb'; have hp := PipeAt.next hp hb'; have ⟨p0, p1, p2, p3, p4, p5⟩ := hp) | (go_at_call 121; (with_reducible refine (HC1.out _).mono ?_); rintro e w' ⟨rfl, hb'⟩; have hb := bnext hb hb'; have hp := PipeAt.next hp hb'; have ⟨p0, p1, p2, p3, p4, p5⟩ := hp) | (go_at_call 83; refine (HPC.out _).mono ?_; rintro e w' ⟨rfl, hb'⟩; have hb := bnext hb hb'; have hp := PipeAt.next hp hb'; have ⟨p0, p1, p2, p3, p4, p5⟩ := hp))
        go_wp2_with (first | (go_at_call 122; refine (HL.out _).mono ?_; rintro e w' ⟨rfl, hb'⟩; first | have hb := bnext hb hb' | have hb := bnext (bal hb _) hb' | have hb := bnext (bal (bal hb _) _) hb' | have hb := bnext (bal (bal (bal hb _) _) _) hb' | have hb := bnext (bal (bal (bal (bal hb _) _) _) _) hb' | have hb := bnext (bal (bal (bal (bal (bal hb _) _) _) _) _) hb'))
        all_goals go_ret2
        all_goals (first | exact ⟨rfl, hb⟩ | exact ⟨rfl, (bal hb _)⟩ | exact ⟨rfl, (bal (bal hb _) _)⟩ | exact ⟨rfl, (bal (bal (bal hb _) _) _)⟩)
      · have k2' : inB c (-5000) 20000 = false := by simpa using k2
        have hv : losV id f t L d s a c = 0 := by unfold losV; simp [*]
        have hc : losC id f t L d s a c = 2 := by unfold losC; simp [*]
        rw [hv, hc]
        clear hv hc
        have hcv : codeP id f t L d s false = 2 := by unfold codeP; simp [*]
        have HPC : Hid (∀ wx, Calls Try.prog 83 #[.agg #[.string id, .int .i64 f, .int .i64 t, .int .i64 L, .int .i64 d, .int .i64 s], .bool false] wx fun e w' => e = .returned (.int .i64 2) ∧ Below wx.heap.size wx w') := Lib.hid fun wx => by
          have := pipeCode_any id f t L d s false wx hs
          rw [hcv] at this
          exact this
        clear hcv
        have HC0 : Hid (∀ wx, Calls Try.prog 121 #[.int .i64 a] wx fun e w' => e = .returned (.bool true) ∧ Below wx.heap.size wx w') := Lib.hid fun wx => by
          have := isTemperature_any a wx
          rw [k1] at this
          exact this
        have HC1 : Hid (∀ wx, Calls Try.prog 121 #[.int .i64 c] wx fun e w' => e = .returned (.bool false) ∧ Below wx.heap.size wx w') := Lib.hid fun wx => by
          have := isTemperature_any c wx
          rw [k2'] at this
          exact this
        have hp := PipeAt.new w id f t L d s 29
        have hb : Below w.heap.size w (w.alloc (.cells #[.string id, .int .i64 f, .int .i64 t, .int .i64 L, .int .i64 d, .int .i64 s] 29)) := bal (Below.refl _ _) _
        go_enter Try.func64, Try.ntmps64
        go_wp2_with fail
        have hb : Below w.heap.size w (w.alloc (.cells #[.string id, .int .i64 f, .int .i64 t, .int .i64 L, .int .i64 d, .int .i64 s] 29)).drew := below_drewN hb 1
        have hp : PipeAt (w.alloc (.cells #[.string id, .int .i64 f, .int .i64 t, .int .i64 L, .int .i64 d, .int .i64 s] 29)).drew w.heap.size id f t L d s := hp
        have ⟨p0, p1, p2, p3, p4, p5⟩ := hp
        go_region_held3 (fun w' => w'.cell? ⟨w.heap.size, 0, none⟩ = some (.string id) ∧ w'.cell? ⟨w.heap.size, 1, none⟩ = some (.int .i64 f) ∧ w'.cell? ⟨w.heap.size, 2, none⟩ = some (.int .i64 t) ∧ w'.cell? ⟨w.heap.size, 3, none⟩ = some (.int .i64 L) ∧ w'.cell? ⟨w.heap.size, 4, none⟩ = some (.int .i64 d) ∧ w'.cell? ⟨w.heap.size, 5, none⟩ = some (.int .i64 s)) (exact ⟨p0, p1, p2, p3, p4, p5⟩) (first | (go_at_call 121; (with_reducible refine (HC0.out _).mono ?_); rintro e w' ⟨rfl, hb'⟩; have hb := bnext hb hb'; have hp := PipeAt.next hp hb'; have ⟨p0, p1, p2, p3, p4, p5⟩ := hp) | (go_at_call 121; (with_reducible refine (HC1.out _).mono ?_); rintro e w' ⟨rfl, hb'⟩; have hb := bnext hb hb'; have hp := PipeAt.next hp hb'; have ⟨p0, p1, p2, p3, p4, p5⟩ := hp) | (go_at_call 83; refine (HPC.out _).mono ?_; rintro e w' ⟨rfl, hb'⟩; have hb := bnext hb hb'; have hp := PipeAt.next hp hb'; have ⟨p0, p1, p2, p3, p4, p5⟩ := hp))
        go_wp2
        all_goals go_ret2
        all_goals (first | exact ⟨rfl, hb⟩ | exact ⟨rfl, (bal hb _)⟩ | exact ⟨rfl, (bal (bal hb _) _)⟩ | exact ⟨rfl, (bal (bal (bal hb _) _) _)⟩)
    · have k1' : inB a (-5000) 20000 = false := by simpa using k1
      have hv : losV id f t L d s a c = 0 := by unfold losV; simp [*]
      have hc : losC id f t L d s a c = 2 := by unfold losC; simp [*]
      rw [hv, hc]
      clear hv hc
      have hcv : codeP id f t L d s false = 2 := by unfold codeP; simp [*]
      have HPC : Hid (∀ wx, Calls Try.prog 83 #[.agg #[.string id, .int .i64 f, .int .i64 t, .int .i64 L, .int .i64 d, .int .i64 s], .bool false] wx fun e w' => e = .returned (.int .i64 2) ∧ Below wx.heap.size wx w') := Lib.hid fun wx => by
        have := pipeCode_any id f t L d s false wx hs
        rw [hcv] at this
        exact this
      clear hcv
      have HC0 : Hid (∀ wx, Calls Try.prog 121 #[.int .i64 a] wx fun e w' => e = .returned (.bool false) ∧ Below wx.heap.size wx w') := Lib.hid fun wx => by
        have := isTemperature_any a wx
        rw [k1'] at this
        exact this
      have hp := PipeAt.new w id f t L d s 29
      have hb : Below w.heap.size w (w.alloc (.cells #[.string id, .int .i64 f, .int .i64 t, .int .i64 L, .int .i64 d, .int .i64 s] 29)) := bal (Below.refl _ _) _
      go_enter Try.func64, Try.ntmps64
      go_wp2_with fail
      have hb : Below w.heap.size w (w.alloc (.cells #[.string id, .int .i64 f, .int .i64 t, .int .i64 L, .int .i64 d, .int .i64 s] 29)).drew := below_drewN hb 1
      have hp : PipeAt (w.alloc (.cells #[.string id, .int .i64 f, .int .i64 t, .int .i64 L, .int .i64 d, .int .i64 s] 29)).drew w.heap.size id f t L d s := hp
      have ⟨p0, p1, p2, p3, p4, p5⟩ := hp
      refine wp_region_held_drew (S := fun w' => w'.cell? ⟨w.heap.size, 0, none⟩ = some (.string id) ∧ w'.cell? ⟨w.heap.size, 1, none⟩ = some (.int .i64 f) ∧ w'.cell? ⟨w.heap.size, 2, none⟩ = some (.int .i64 t) ∧ w'.cell? ⟨w.heap.size, 3, none⟩ = some (.int .i64 L) ∧ w'.cell? ⟨w.heap.size, 4, none⟩ = some (.int .i64 d) ∧ w'.cell? ⟨w.heap.size, 5, none⟩ = some (.int .i64 s)) (by kernel_rfl) (⟨p0, p1, p2, p3, p4, p5⟩) (fun hHeld => ?_)
      refine wpAnyH_take (i := 0) (v := .agg #[.string id, .int .i64 f, .int .i64 t, .int .i64 L, .int .i64 d, .int .i64 s]) rfl (by kernel_rfl) (by kernel_rfl) (by kernel_rfl) (fun _ _ _ h => h) (Or.inl ⟨by rfl, ?_⟩) (by assumption) ?_
      · intro wz hSw
        (try dsimp only at hSw)
        go_split_ands
        go_simp
      try simp only [Act.put, List.setIfInBounds_toArray, List.set_cons_zero, List.set_cons_succ]
      refine wpAnyH_take (i := 1) (v := .int .i64 a) rfl (by kernel_rfl) (by kernel_rfl) (by kernel_rfl) (fun _ _ _ h => h) (Or.inl ⟨by rfl, ?_⟩) (by assumption) ?_
      · intro wz hSw
        (try dsimp only at hSw)
        go_split_ands
        go_simp
      try simp only [Act.put, List.setIfInBounds_toArray, List.set_cons_zero, List.set_cons_succ]
      refine wpAnyH_ready (rs := [2]) (by kernel_rfl) (by simp) ?_
      refine AllReadyH.cons rfl (fun K hK => ?_) AllReadyH.nil
      go_simp
      (first | (go_at_call 121; (with_reducible refine (HC0.out _).mono ?_); rintro e w' ⟨rfl, hb'⟩; have hb := bnext hb hb'; have hp := PipeAt.next hp hb'; have ⟨p0, p1, p2, p3, p4, p5⟩ := hp) | (go_at_call 83; refine (HPC.out _).mono ?_; rintro e w' ⟨rfl, hb'⟩; have hb := bnext hb hb'; have hp := PipeAt.next hp hb'; have ⟨p0, p1, p2, p3, p4, p5⟩ := hp))
      go_wp2_with fail
      refine hK.out _ _ (⟨p0, p1, p2, p3, p4, p5⟩) (fun hHeld => ?_)
      clear hK K
      try simp only [Act.put, List.setIfInBounds_toArray, List.set_cons_zero, List.set_cons_succ]
      refine wpAnyH_take (i := 3) (v := .bool false) rfl (by kernel_rfl) (by kernel_rfl) (by kernel_rfl) (fun _ _ _ h => h) (Or.inl ⟨by rfl, ?_⟩) (by assumption) ?_
      · intro wz hSw
        (try dsimp only at hSw)
        go_split_ands
        go_simp
      try simp only [Act.put, List.setIfInBounds_toArray, List.set_cons_zero, List.set_cons_succ]
      refine wpAnyH_take (i := 4) (v := undef) rfl (by kernel_rfl) (by kernel_rfl) (by kernel_rfl) (fun _ _ _ h => h) (Or.inr ⟨by rfl, rfl⟩) (by assumption) ?_
      try simp only [Act.put, List.setIfInBounds_toArray, List.set_cons_zero, List.set_cons_succ]
      refine wpAnyH_take (i := 5) (v := undef) rfl (by kernel_rfl) (by kernel_rfl) (by kernel_rfl) (fun _ _ _ h => h) (Or.inr ⟨by rfl, rfl⟩) (by assumption) ?_
      try simp only [Act.put, List.setIfInBounds_toArray, List.set_cons_zero, List.set_cons_succ]
      refine wpAnyH_take (i := 6) (v := .bool false) rfl (by kernel_rfl) (by kernel_rfl) (by kernel_rfl) (fun _ _ _ h => h) (Or.inl ⟨by rfl, ?_⟩) (by assumption) ?_
      · intro wz hSw
        (try dsimp only at hSw)
        go_split_ands
        go_simp
      try simp only [Act.put, List.setIfInBounds_toArray, List.set_cons_zero, List.set_cons_succ]
      refine wpAnyH_ready (rs := [7]) (by kernel_rfl) (by simp) ?_
      refine AllReadyH.cons rfl (fun K hK => ?_) AllReadyH.nil
      go_simp
      (first | (go_at_call 121; (with_reducible refine (HC0.out _).mono ?_); rintro e w' ⟨rfl, hb'⟩; have hb := bnext hb hb'; have hp := PipeAt.next hp hb'; have ⟨p0, p1, p2, p3, p4, p5⟩ := hp) | (go_at_call 83; refine (HPC.out _).mono ?_; rintro e w' ⟨rfl, hb'⟩; have hb := bnext hb hb'; have hp := PipeAt.next hp hb'; have ⟨p0, p1, p2, p3, p4, p5⟩ := hp))
      go_wp2_with fail
      refine hK.out _ _ (⟨p0, p1, p2, p3, p4, p5⟩) (fun hHeld => ?_)
      clear hK K
      try simp only [Act.put, List.setIfInBounds_toArray, List.set_cons_zero, List.set_cons_succ]
      refine wpAnyH_take (i := 8) (v := .int .i64 2) rfl (by kernel_rfl) (by kernel_rfl) (by kernel_rfl) (fun _ _ _ h => h) (Or.inl ⟨by rfl, ?_⟩) (by assumption) ?_
      · intro wz hSw
        (try dsimp only at hSw)
        go_split_ands
        go_simp
      try simp only [Act.put, List.setIfInBounds_toArray, List.set_cons_zero, List.set_cons_succ]
      refine wpAnyH_done (by kernel_rfl) ?_ _
      go_wp2
      all_goals go_ret2
      all_goals (first | exact ⟨rfl, hb⟩ | exact ⟨rfl, (bal hb _)⟩ | exact ⟨rfl, (bal (bal hb _) _)⟩ | exact ⟨rfl, (bal (bal (bal hb _) _) _)⟩)
  · have ho' : okP id f t L d s = false := by simpa using ho
    by_cases k1 : inB a (-5000) 20000 = true
    · skip
      by_cases k2 : inB c (-5000) 20000 = true
      · skip
        have hv : losV id f t L d s a c = 0 := by unfold losV; simp [*]
        have hc : losC id f t L d s a c = 1 := by unfold losC; simp [*]
        rw [hv, hc]
        clear hv hc
        have hcv : codeP id f t L d s true = 1 := by unfold codeP; simp [*]
        have HPC : Hid (∀ wx, Calls Try.prog 83 #[.agg #[.string id, .int .i64 f, .int .i64 t, .int .i64 L, .int .i64 d, .int .i64 s], .bool true] wx fun e w' => e = .returned (.int .i64 1) ∧ Below wx.heap.size wx w') := Lib.hid fun wx => by
          have := pipeCode_any id f t L d s true wx hs
          rw [hcv] at this
          exact this
        clear hcv
        have HC0 : Hid (∀ wx, Calls Try.prog 121 #[.int .i64 a] wx fun e w' => e = .returned (.bool true) ∧ Below wx.heap.size wx w') := Lib.hid fun wx => by
          have := isTemperature_any a wx
          rw [k1] at this
          exact this
        have HC1 : Hid (∀ wx, Calls Try.prog 121 #[.int .i64 c] wx fun e w' => e = .returned (.bool true) ∧ Below wx.heap.size wx w') := Lib.hid fun wx => by
          have := isTemperature_any c wx
          rw [k2] at this
          exact this
        have hp := PipeAt.new w id f t L d s 29
        have hb : Below w.heap.size w (w.alloc (.cells #[.string id, .int .i64 f, .int .i64 t, .int .i64 L, .int .i64 d, .int .i64 s] 29)) := bal (Below.refl _ _) _
        go_enter Try.func64, Try.ntmps64
        go_wp2_with fail
        have hb : Below w.heap.size w (w.alloc (.cells #[.string id, .int .i64 f, .int .i64 t, .int .i64 L, .int .i64 d, .int .i64 s] 29)).drew := below_drewN hb 1
        have hp : PipeAt (w.alloc (.cells #[.string id, .int .i64 f, .int .i64 t, .int .i64 L, .int .i64 d, .int .i64 s] 29)).drew w.heap.size id f t L d s := hp
        have ⟨p0, p1, p2, p3, p4, p5⟩ := hp
        go_region_held3 (fun w' => w'.cell? ⟨w.heap.size, 0, none⟩ = some (.string id) ∧ w'.cell? ⟨w.heap.size, 1, none⟩ = some (.int .i64 f) ∧ w'.cell? ⟨w.heap.size, 2, none⟩ = some (.int .i64 t) ∧ w'.cell? ⟨w.heap.size, 3, none⟩ = some (.int .i64 L) ∧ w'.cell? ⟨w.heap.size, 4, none⟩ = some (.int .i64 d) ∧ w'.cell? ⟨w.heap.size, 5, none⟩ = some (.int .i64 s)) (exact ⟨p0, p1, p2, p3, p4, p5⟩) (first | (go_at_call 121; (with_reducible refine (HC0.out _).mono ?_); rintro e w' ⟨rfl, hb'⟩; have hb := bnext hb hb'; have hp := PipeAt.next hp hb'; have ⟨p0, p1, p2, p3, p4, p5⟩ := hp) | (go_at_call 121; (with_reducible refine (HC1.out _).mono ?_); rintro e w' ⟨rfl, hb'⟩; have hb := bnext hb hb'; have hp := PipeAt.next hp hb'; have ⟨p0, p1, p2, p3, p4, p5⟩ := hp) | (go_at_call 83; refine (HPC.out _).mono ?_; rintro e w' ⟨rfl, hb'⟩; have hb := bnext hb hb'; have hp := PipeAt.next hp hb'; have ⟨p0, p1, p2, p3, p4, p5⟩ := hp))
        go_wp2
        all_goals go_ret2
        all_goals (first | exact ⟨rfl, hb⟩ | exact ⟨rfl, (bal hb _)⟩ | exact ⟨rfl, (bal (bal hb _) _)⟩ | exact ⟨rfl, (bal (bal (bal hb _) _) _)⟩)
      · have k2' : inB c (-5000) 20000 = false := by simpa using k2
        have hv : losV id f t L d s a c = 0 := by unfold losV; simp [*]
        have hc : losC id f t L d s a c = 1 := by unfold losC; simp [*]
        rw [hv, hc]
        clear hv hc
        have hcv : codeP id f t L d s false = 1 := by unfold codeP; simp [*]
        have HPC : Hid (∀ wx, Calls Try.prog 83 #[.agg #[.string id, .int .i64 f, .int .i64 t, .int .i64 L, .int .i64 d, .int .i64 s], .bool false] wx fun e w' => e = .returned (.int .i64 1) ∧ Below wx.heap.size wx w') := Lib.hid fun wx => by
          have := pipeCode_any id f t L d s false wx hs
          rw [hcv] at this
          exact this
        clear hcv
        have HC0 : Hid (∀ wx, Calls Try.prog 121 #[.int .i64 a] wx fun e w' => e = .returned (.bool true) ∧ Below wx.heap.size wx w') := Lib.hid fun wx => by
          have := isTemperature_any a wx
          rw [k1] at this
          exact this
        have HC1 : Hid (∀ wx, Calls Try.prog 121 #[.int .i64 c] wx fun e w' => e = .returned (.bool false) ∧ Below wx.heap.size wx w') := Lib.hid fun wx => by
          have := isTemperature_any c wx
          rw [k2'] at this
          exact this
        have hp := PipeAt.new w id f t L d s 29
        have hb : Below w.heap.size w (w.alloc (.cells #[.string id, .int .i64 f, .int .i64 t, .int .i64 L, .int .i64 d, .int .i64 s] 29)) := bal (Below.refl _ _) _
        go_enter Try.func64, Try.ntmps64
        go_wp2_with fail
        have hb : Below w.heap.size w (w.alloc (.cells #[.string id, .int .i64 f, .int .i64 t, .int .i64 L, .int .i64 d, .int .i64 s] 29)).drew := below_drewN hb 1
        have hp : PipeAt (w.alloc (.cells #[.string id, .int .i64 f, .int .i64 t, .int .i64 L, .int .i64 d, .int .i64 s] 29)).drew w.heap.size id f t L d s := hp
        have ⟨p0, p1, p2, p3, p4, p5⟩ := hp
        go_region_held3 (fun w' => w'.cell? ⟨w.heap.size, 0, none⟩ = some (.string id) ∧ w'.cell? ⟨w.heap.size, 1, none⟩ = some (.int .i64 f) ∧ w'.cell? ⟨w.heap.size, 2, none⟩ = some (.int .i64 t) ∧ w'.cell? ⟨w.heap.size, 3, none⟩ = some (.int .i64 L) ∧ w'.cell? ⟨w.heap.size, 4, none⟩ = some (.int .i64 d) ∧ w'.cell? ⟨w.heap.size, 5, none⟩ = some (.int .i64 s)) (exact ⟨p0, p1, p2, p3, p4, p5⟩) (first | (go_at_call 121; (with_reducible refine (HC0.out _).mono ?_); rintro e w' ⟨rfl, hb'⟩; have hb := bnext hb hb'; have hp := PipeAt.next hp hb'; have ⟨p0, p1, p2, p3, p4, p5⟩ := hp) | (go_at_call 121; (with_reducible refine (HC1.out _).mono ?_); rintro e w' ⟨rfl, hb'⟩; have hb := bnext hb hb'; have hp := PipeAt.next hp hb'; have ⟨p0, p1, p2, p3, p4, p5⟩ := hp) | (go_at_call 83; refine (HPC.out _).mono ?_; rintro e w' ⟨rfl, hb'⟩; have hb := bnext hb hb'; have hp := PipeAt.next hp hb'; have ⟨p0, p1, p2, p3, p4, p5⟩ := hp))
        go_wp2
        all_goals go_ret2
        all_goals (first | exact ⟨rfl, hb⟩ | exact ⟨rfl, (bal hb _)⟩ | exact ⟨rfl, (bal (bal hb _) _)⟩ | exact ⟨rfl, (bal (bal (bal hb _) _) _)⟩)
    · have k1' : inB a (-5000) 20000 = false := by simpa using k1
      have hv : losV id f t L d s a c = 0 := by unfold losV; simp [*]
      have hc : losC id f t L d s a c = 1 := by unfold losC; simp [*]
      rw [hv, hc]
      clear hv hc
      have hcv : codeP id f t L d s false = 1 := by unfold codeP; simp [*]
      have HPC : Hid (∀ wx, Calls Try.prog 83 #[.agg #[.string id, .int .i64 f, .int .i64 t, .int .i64 L, .int .i64 d, .int .i64 s], .bool false] wx fun e w' => e = .returned (.int .i64 1) ∧ Below wx.heap.size wx w') := Lib.hid fun wx => by
        have := pipeCode_any id f t L d s false wx hs
        rw [hcv] at this
        exact this
      clear hcv
      have HC0 : Hid (∀ wx, Calls Try.prog 121 #[.int .i64 a] wx fun e w' => e = .returned (.bool false) ∧ Below wx.heap.size wx w') := Lib.hid fun wx => by
        have := isTemperature_any a wx
        rw [k1'] at this
        exact this
      have hp := PipeAt.new w id f t L d s 29
      have hb : Below w.heap.size w (w.alloc (.cells #[.string id, .int .i64 f, .int .i64 t, .int .i64 L, .int .i64 d, .int .i64 s] 29)) := bal (Below.refl _ _) _
      go_enter Try.func64, Try.ntmps64
      go_wp2_with fail
      have hb : Below w.heap.size w (w.alloc (.cells #[.string id, .int .i64 f, .int .i64 t, .int .i64 L, .int .i64 d, .int .i64 s] 29)).drew := below_drewN hb 1
      have hp : PipeAt (w.alloc (.cells #[.string id, .int .i64 f, .int .i64 t, .int .i64 L, .int .i64 d, .int .i64 s] 29)).drew w.heap.size id f t L d s := hp
      have ⟨p0, p1, p2, p3, p4, p5⟩ := hp
      refine wp_region_held_drew (S := fun w' => w'.cell? ⟨w.heap.size, 0, none⟩ = some (.string id) ∧ w'.cell? ⟨w.heap.size, 1, none⟩ = some (.int .i64 f) ∧ w'.cell? ⟨w.heap.size, 2, none⟩ = some (.int .i64 t) ∧ w'.cell? ⟨w.heap.size, 3, none⟩ = some (.int .i64 L) ∧ w'.cell? ⟨w.heap.size, 4, none⟩ = some (.int .i64 d) ∧ w'.cell? ⟨w.heap.size, 5, none⟩ = some (.int .i64 s)) (by kernel_rfl) (⟨p0, p1, p2, p3, p4, p5⟩) (fun hHeld => ?_)
      refine wpAnyH_take (i := 0) (v := .agg #[.string id, .int .i64 f, .int .i64 t, .int .i64 L, .int .i64 d, .int .i64 s]) rfl (by kernel_rfl) (by kernel_rfl) (by kernel_rfl) (fun _ _ _ h => h) (Or.inl ⟨by rfl, ?_⟩) (by assumption) ?_
      · intro wz hSw
        (try dsimp only at hSw)
        go_split_ands
        go_simp
      try simp only [Act.put, List.setIfInBounds_toArray, List.set_cons_zero, List.set_cons_succ]
      refine wpAnyH_take (i := 1) (v := .int .i64 a) rfl (by kernel_rfl) (by kernel_rfl) (by kernel_rfl) (fun _ _ _ h => h) (Or.inl ⟨by rfl, ?_⟩) (by assumption) ?_
      · intro wz hSw
        (try dsimp only at hSw)
        go_split_ands
        go_simp
      try simp only [Act.put, List.setIfInBounds_toArray, List.set_cons_zero, List.set_cons_succ]
      refine wpAnyH_ready (rs := [2]) (by kernel_rfl) (by simp) ?_
      refine AllReadyH.cons rfl (fun K hK => ?_) AllReadyH.nil
      go_simp
      (first | (go_at_call 121; (with_reducible refine (HC0.out _).mono ?_); rintro e w' ⟨rfl, hb'⟩; have hb := bnext hb hb'; have hp := PipeAt.next hp hb'; have ⟨p0, p1, p2, p3, p4, p5⟩ := hp) | (go_at_call 83; refine (HPC.out _).mono ?_; rintro e w' ⟨rfl, hb'⟩; have hb := bnext hb hb'; have hp := PipeAt.next hp hb'; have ⟨p0, p1, p2, p3, p4, p5⟩ := hp))
      go_wp2_with fail
      refine hK.out _ _ (⟨p0, p1, p2, p3, p4, p5⟩) (fun hHeld => ?_)
      clear hK K
      try simp only [Act.put, List.setIfInBounds_toArray, List.set_cons_zero, List.set_cons_succ]
      refine wpAnyH_take (i := 3) (v := .bool false) rfl (by kernel_rfl) (by kernel_rfl) (by kernel_rfl) (fun _ _ _ h => h) (Or.inl ⟨by rfl, ?_⟩) (by assumption) ?_
      · intro wz hSw
        (try dsimp only at hSw)
        go_split_ands
        go_simp
      try simp only [Act.put, List.setIfInBounds_toArray, List.set_cons_zero, List.set_cons_succ]
      refine wpAnyH_take (i := 4) (v := undef) rfl (by kernel_rfl) (by kernel_rfl) (by kernel_rfl) (fun _ _ _ h => h) (Or.inr ⟨by rfl, rfl⟩) (by assumption) ?_
      try simp only [Act.put, List.setIfInBounds_toArray, List.set_cons_zero, List.set_cons_succ]
      refine wpAnyH_take (i := 5) (v := undef) rfl (by kernel_rfl) (by kernel_rfl) (by kernel_rfl) (fun _ _ _ h => h) (Or.inr ⟨by rfl, rfl⟩) (by assumption) ?_
      try simp only [Act.put, List.setIfInBounds_toArray, List.set_cons_zero, List.set_cons_succ]
      refine wpAnyH_take (i := 6) (v := .bool false) rfl (by kernel_rfl) (by kernel_rfl) (by kernel_rfl) (fun _ _ _ h => h) (Or.inl ⟨by rfl, ?_⟩) (by assumption) ?_
      · intro wz hSw
        (try dsimp only at hSw)
        go_split_ands
        go_simp
      try simp only [Act.put, List.setIfInBounds_toArray, List.set_cons_zero, List.set_cons_succ]
      refine wpAnyH_ready (rs := [7]) (by kernel_rfl) (by simp) ?_
      refine AllReadyH.cons rfl (fun K hK => ?_) AllReadyH.nil
      go_simp
      (first | (go_at_call 121; (with_reducible refine (HC0.out _).mono ?_); rintro e w' ⟨rfl, hb'⟩; have hb := bnext hb hb'; have hp := PipeAt.next hp hb'; have ⟨p0, p1, p2, p3, p4, p5⟩ := hp) | (go_at_call 83; refine (HPC.out _).mono ?_; rintro e w' ⟨rfl, hb'⟩; have hb := bnext hb hb'; have hp := PipeAt.next hp hb'; have ⟨p0, p1, p2, p3, p4, p5⟩ := hp))
      go_wp2_with fail
      refine hK.out _ _ (⟨p0, p1, p2, p3, p4, p5⟩) (fun hHeld => ?_)
      clear hK K
      try simp only [Act.put, List.setIfInBounds_toArray, List.set_cons_zero, List.set_cons_succ]
      refine wpAnyH_take (i := 8) (v := .int .i64 1) rfl (by kernel_rfl) (by kernel_rfl) (by kernel_rfl) (fun _ _ _ h => h) (Or.inl ⟨by rfl, ?_⟩) (by assumption) ?_
      · intro wz hSw
        (try dsimp only at hSw)
        go_split_ands
        go_simp
      try simp only [Act.put, List.setIfInBounds_toArray, List.set_cons_zero, List.set_cons_succ]
      refine wpAnyH_done (by kernel_rfl) ?_ _
      go_wp2
      all_goals go_ret2
      all_goals (first | exact ⟨rfl, hb⟩ | exact ⟨rfl, (bal hb _)⟩ | exact ⟨rfl, (bal (bal hb _) _)⟩ | exact ⟨rfl, (bal (bal (bal hb _) _) _)⟩)

end Go.Proofs.Ytgdafgnjaogmeaa
