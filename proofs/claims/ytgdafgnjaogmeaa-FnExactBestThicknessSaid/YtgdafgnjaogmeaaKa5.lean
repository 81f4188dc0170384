/-
  CoatCost of both sides.
-/
import Derived.Test.YtgdafgnjaogmeaaKa0
import Derived.Test.YtgdafgnjaogmeaaB6
import Derived.Deep.RegionHeld3
namespace Go.Proofs.Ytgdafgnjaogmeaa
open Go.ChangeShapes Go.WideShapes Go.ChangeAt Go.RowKit Go.Shelf
set_option linter.unusedSimpArgs false
set_option maxRecDepth 100000
set_option maxHeartbeats 1600000
set_option linter.unusedVariables false


/-- what a coat costs -/
def coatCost (L t c : Int) : Int := L * nearI ((t * t + 100) * c) 100
theorem coatCost_num (t c : Int) (t0 : 1 ≤ t) (t1 : t ≤ 300) (c0 : 0 ≤ c) (c1 : c ≤ 1000) : (0 ≤ t * t ∧ t * t ≤ 90000) ∧ (0 ≤ (t * t + 100) * c ∧ (t * t + 100) * c ≤ 90100000) := by
  have h1 := mul_range t t 300 300 (by omega) t1 (by omega) t1
  have h2 := mul_range (t * t + 100) c 90100 1000 (by omega) (by omega) c0 c1
  omega
theorem coatCost_near (t c : Int) (t0 : 1 ≤ t) (t1 : t ≤ 300) (c0 : 0 ≤ c) (c1 : c ≤ 1000) : 0 ≤ nearI ((t * t + 100) * c) 100 ∧ nearI ((t * t + 100) * c) 100 ≤ 901000 := by
  have h := coatCost_num t c t0 t1 c0 c1
  have h2 := nearI_mono ((t * t + 100) * c) (901000 * 100) 100 (by omega) (by omega)
  rw [nearI_whole 901000 100 (by omega)] at h2
  exact ⟨nearI_nonneg _ 100 (by omega) h.2.1, h2⟩
theorem coatCost_bd (L t c : Int) (l0 : 0 ≤ L) (l1 : L ≤ 10000) (t0 : 1 ≤ t) (t1 : t ≤ 300) (c0 : 0 ≤ c) (c1 : c ≤ 1000) : 0 ≤ coatCost L t c ∧ coatCost L t c ≤ 9010000000 := by
  have h := coatCost_near t c t0 t1 c0 c1
  have := mul_range L (nearI ((t * t + 100) * c) 100) 10000 901000 l0 l1 h.1 h.2
  unfold coatCost
  omega
theorem l10Costs_any (L t c : Int) (w : World) (l0 : 0 ≤ L) (l1 : L ≤ 10000) (t0 : 1 ≤ t) (t1 : t ≤ 300) (c0 : 0 ≤ c) (c1 : c ≤ 1000) :
    Calls Try.prog 82 #[.int .i64 L, .int .i64 t, .int .i64 c] w fun e w' => e = .returned (.int .i64 (coatCost L t c)) ∧ w = w' := by
  have h := coatCost_num t c t0 t1 c0 c1
  have hb := coatCost_bd L t c l0 l1 t0 t1 c0 c1
  have HD := Lib.hid (fun wx => l01Div_any ((t * t + 100) * c) 100 wx (by omega) (by omega) (by omega) (by omega) (by omega))
  unfold coatCost at hb ⊢
  generalize nearI ((t * t + 100) * c) 100 = n at *
  go_enter Try.func82, Try.ntmps82
  go_wp2_with ((go_at_call 76; refine (HD.out _).mono ?_; rintro e w' ⟨rfl, rfl⟩))
  go_ret
  exact ⟨rfl, rfl⟩

def ccoV (id : ByteArray) (f t L d s : Int) (a : Int) (c : Int) : Int := if okP id f t L d s && inB a 1 300 && inB c 0 1000 then (coatCost L a c) else 0
def ccoC (id : ByteArray) (f t L d s : Int) (a : Int) (c : Int) : Int := if okP id f t L d s then (if inB a 1 300 && inB c 0 1000 then 0 else 2) else 1

set_option maxHeartbeats 3200000 in
theorem specCoatCost_any (id : ByteArray) (f t L d s : Int) (a : Int) (c : Int) (w : World) (hs : id.size ≤ maxLen) : Calls Try.prog 34 #[.agg #[.string id, .int .i64 f, .int .i64 t, .int .i64 L, .int .i64 d, .int .i64 s], .int .i64 a, .int .i64 c] w fun e w' => e = .returned (.tuple #[.int .i64 (ccoV id f t L d s a c), .int .i64 (ccoC id f t L d s a c)]) ∧ Below w.heap.size w w' := by
  by_cases ho : okP id f t L d s = true
  · skip
    by_cases k1 : inB a 1 300 = true
    · skip
      by_cases k2 : inB c 0 1000 = true
      · skip
        have hv : ccoV id f t L d s a c = coatCost L a c := by unfold ccoV; simp [*]
        have hc : ccoC id f t L d s a c = 0 := by unfold ccoC; simp [*]
        rw [hv, hc]
        clear hv hc
        obtain ⟨-, -, -, -, ⟨l0, l1⟩, ⟨d0, d1⟩, ⟨s0, s1⟩⟩ := okP_bd id f t L d s ho
        have ka := inB_iff.1 k1
        have kc := inB_iff.1 k2
        have HL := Lib.hid (fun wx => l10Costs_any L a c wx (by omega) l1 ka.1 ka.2 kc.1 kc.2)
        generalize coatCost L a c = r at *
        have hp := PipeAt.new w id f t L d s 29
        have hb : Below w.heap.size w (w.alloc (.cells #[.string id, .int .i64 f, .int .i64 t, .int .i64 L, .int .i64 d, .int .i64 s] 29)) := bal (Below.refl _ _) _
        have ⟨p0, p1, p2, p3, p4, p5⟩ := hp
        have HOK : Hid (∀ (b : Nat) wx, PipeAt wx b id f t L d s → Calls Try.prog 61 #[.pointer (some ⟨b, 0, none⟩)] wx fun e w' => e = .returned (.bool true) ∧ Drawn wx w') := Lib.hid fun b wx h => by
          have := l03Ok_any b id f t L d s wx h hs
          rw [ho] at this
          exact this
        go_enter Try.func34, Try.ntmps34
        go_wp2_with (first | (go_at_call 61; refine (HOK.out _ _ hp).mono ?_; rintro e w' ⟨rfl, hd'⟩; have hb' := Drawn.below hd'; first | (have hb := bnext hb hb'; have hp := PipeAt.next hp hb'; have ⟨p0, p1, p2, p3, p4, p5⟩ := hp) | (have hb := bnext (bal hb _) hb'; have hp := PipeAt.next (PipeAt.alloc hp _) hb'; have ⟨p0, p1, p2, p3, p4, p5⟩ := hp) | (have hb := bnext (bal (bal hb _) _) hb'; have hp := PipeAt.next (PipeAt.alloc (PipeAt.alloc hp _) _) hb'; have ⟨p0, p1, p2, p3, p4, p5⟩ := hp) | (have hb := bnext (bal (bal (bal hb _) _) _) hb'; have hp := PipeAt.next (PipeAt.alloc (PipeAt.alloc (PipeAt.alloc hp _) _) _) hb'; have ⟨p0, p1, p2, p3, p4, p5⟩ := hp)) | (go_at_call 53; refine (in_any _ _ _ _).mono ?_; rintro e w' ⟨rfl, rfl⟩) | (go_at_call 82; refine (HL.out _).mono ?_; rintro e w' ⟨rfl, rfl⟩))
        go_ret2
        first | exact ⟨rfl, hb⟩ | exact ⟨rfl, (bal hb _)⟩ | exact ⟨rfl, (bal (bal hb _) _)⟩ | exact ⟨rfl, (bal (bal (bal hb _) _) _)⟩
      · have k2' : inB c 0 1000 = false := by simpa using k2
        have hv : ccoV id f t L d s a c = 0 := by unfold ccoV; simp [*]
        have hc : ccoC id f t L d s a c = 2 := by unfold ccoC; simp [*]
        rw [hv, hc]
        clear hv hc
        have hp := PipeAt.new w id f t L d s 29
        have hb : Below w.heap.size w (w.alloc (.cells #[.string id, .int .i64 f, .int .i64 t, .int .i64 L, .int .i64 d, .int .i64 s] 29)) := bal (Below.refl _ _) _
        have ⟨p0, p1, p2, p3, p4, p5⟩ := hp
        have HOK : Hid (∀ (b : Nat) wx, PipeAt wx b id f t L d s → Calls Try.prog 61 #[.pointer (some ⟨b, 0, none⟩)] wx fun e w' => e = .returned (.bool true) ∧ Drawn wx w') := Lib.hid fun b wx h => by
          have := l03Ok_any b id f t L d s wx h hs
          rw [ho] at this
          exact this
        go_enter Try.func34, Try.ntmps34
        go_wp2_with (first | (go_at_call 61; refine (HOK.out _ _ hp).mono ?_; rintro e w' ⟨rfl, hd'⟩; have hb' := Drawn.below hd'; first | (have hb := bnext hb hb'; have hp := PipeAt.next hp hb'; have ⟨p0, p1, p2, p3, p4, p5⟩ := hp) | (have hb := bnext (bal hb _) hb'; have hp := PipeAt.next (PipeAt.alloc hp _) hb'; have ⟨p0, p1, p2, p3, p4, p5⟩ := hp) | (have hb := bnext (bal (bal hb _) _) hb'; have hp := PipeAt.next (PipeAt.alloc (PipeAt.alloc hp _) _) hb'; have ⟨p0, p1, p2, p3, p4, p5⟩ := hp) | (have hb := bnext (bal (bal (bal hb _) _) _) hb'; have hp := PipeAt.next (PipeAt.alloc (PipeAt.alloc (PipeAt.alloc hp _) _) _) hb'; have ⟨p0, p1, p2, p3, p4, p5⟩ := hp)) | (go_at_call 53; refine (in_any _ _ _ _).mono ?_; rintro e w' ⟨rfl, rfl⟩))
        go_ret2
        first | exact ⟨rfl, hb⟩ | exact ⟨rfl, (bal hb _)⟩ | exact ⟨rfl, (bal (bal hb _) _)⟩ | exact ⟨rfl, (bal (bal (bal hb _) _) _)⟩
    · have k1' : inB a 1 300 = false := by simpa using k1
      have hv : ccoV id f t L d s a c = 0 := by unfold ccoV; simp [*]
      have hc : ccoC id f t L d s a c = 2 := by unfold ccoC; simp [*]
      rw [hv, hc]
      clear hv hc
      have hp := PipeAt.new w id f t L d s 29
      have hb : Below w.heap.size w (w.alloc (.cells #[.string id, .int .i64 f, .int .i64 t, .int .i64 L, .int .i64 d, .int .i64 s] 29)) := bal (Below.refl _ _) _
      have ⟨p0, p1, p2, p3, p4, p5⟩ := hp
      have HOK : Hid (∀ (b : Nat) wx, PipeAt wx b id f t L d s → Calls Try.prog 61 #[.pointer (some ⟨b, 0, none⟩)] wx fun e w' => e = .returned (.bool true) ∧ Drawn wx w') := Lib.hid fun b wx h => by
        have := l03Ok_any b id f t L d s wx h hs
        rw [ho] at this
        exact this
      go_enter Try.func34, Try.ntmps34
      go_wp2_with (first | (go_at_call 61; refine (HOK.out _ _ hp).mono ?_; rintro e w' ⟨rfl, hd'⟩; have hb' := Drawn.below hd'; first | (have hb := bnext hb hb'; have hp := PipeAt.next hp hb'; have ⟨p0, p1, p2, p3, p4, p5⟩ := hp) | (have hb := bnext (bal hb _) hb'; have hp := PipeAt.next (PipeAt.alloc hp _) hb'; have ⟨p0, p1, p2, p3, p4, p5⟩ := hp) | (have hb := bnext (bal (bal hb _) _) hb'; have hp := PipeAt.next (PipeAt.alloc (PipeAt.alloc hp _) _) hb'; have ⟨p0, p1, p2, p3, p4, p5⟩ := hp) | (have hb := bnext (bal (bal (bal hb _) _) _) hb'; have hp := PipeAt.next (PipeAt.alloc (PipeAt.alloc (PipeAt.alloc hp _) _) _) hb'; have ⟨p0, p1, p2, p3, p4, p5⟩ := hp)) | (go_at_call 53; refine (in_any _ _ _ _).mono ?_; rintro e w' ⟨rfl, rfl⟩))
      go_ret2
      first | exact ⟨rfl, hb⟩ | exact ⟨rfl, (bal hb _)⟩ | exact ⟨rfl, (bal (bal hb _) _)⟩ | exact ⟨rfl, (bal (bal (bal hb _) _) _)⟩
  · have ho' : okP id f t L d s = false := by simpa using ho
    by_cases k1 : inB a 1 300 = true
    · skip
      by_cases k2 : inB c 0 1000 = true
      · skip
        have hv : ccoV id f t L d s a c = 0 := by unfold ccoV; simp [*]
        have hc : ccoC id f t L d s a c = 1 := by unfold ccoC; simp [*]
        rw [hv, hc]
        clear hv hc
        have hp := PipeAt.new w id f t L d s 29
        have hb : Below w.heap.size w (w.alloc (.cells #[.string id, .int .i64 f, .int .i64 t, .int .i64 L, .int .i64 d, .int .i64 s] 29)) := bal (Below.refl _ _) _
        have ⟨p0, p1, p2, p3, p4, p5⟩ := hp
        have HOK : Hid (∀ (b : Nat) wx, PipeAt wx b id f t L d s → Calls Try.prog 61 #[.pointer (some ⟨b, 0, none⟩)] wx fun e w' => e = .returned (.bool false) ∧ Drawn wx w') := Lib.hid fun b wx h => by
          have := l03Ok_any b id f t L d s wx h hs
          rw [ho'] at this
          exact this
        go_enter Try.func34, Try.ntmps34
        go_wp2_with (first | (go_at_call 61; refine (HOK.out _ _ hp).mono ?_; rintro e w' ⟨rfl, hd'⟩; have hb' := Drawn.below hd'; first | (have hb := bnext hb hb'; have hp := PipeAt.next hp hb'; have ⟨p0, p1, p2, p3, p4, p5⟩ := hp) | (have hb := bnext (bal hb _) hb'; have hp := PipeAt.next (PipeAt.alloc hp _) hb'; have ⟨p0, p1, p2, p3, p4, p5⟩ := hp) | (have hb := bnext (bal (bal hb _) _) hb'; have hp := PipeAt.next (PipeAt.alloc (PipeAt.alloc hp _) _) hb'; have ⟨p0, p1, p2, p3, p4, p5⟩ := hp) | (have hb := bnext (bal (bal (bal hb _) _) _) hb'; have hp := PipeAt.next (PipeAt.alloc (PipeAt.alloc (PipeAt.alloc hp _) _) _) hb'; have ⟨p0, p1, p2, p3, p4, p5⟩ := hp)) | (go_at_call 53; refine (in_any _ _ _ _).mono ?_; rintro e w' ⟨rfl, rfl⟩))
        go_ret2
        first | exact ⟨rfl, hb⟩ | exact ⟨rfl, (bal hb _)⟩ | exact ⟨rfl, (bal (bal hb _) _)⟩ | exact ⟨rfl, (bal (bal (bal hb _) _) _)⟩
      · have k2' : inB c 0 1000 = false := by simpa using k2
        have hv : ccoV id f t L d s a c = 0 := by unfold ccoV; simp [*]
        have hc : ccoC id f t L d s a c = 1 := by unfold ccoC; simp [*]
        rw [hv, hc]
        clear hv hc
        have hp := PipeAt.new w id f t L d s 29
        have hb : Below w.heap.size w (w.alloc (.cells #[.string id, .int .i64 f, .int .i64 t, .int .i64 L, .int .i64 d, .int .i64 s] 29)) := bal (Below.refl _ _) _
        have ⟨p0, p1, p2, p3, p4, p5⟩ := hp
        have HOK : Hid (∀ (b : Nat) wx, PipeAt wx b id f t L d s → Calls Try.prog 61 #[.pointer (some ⟨b, 0, none⟩)] wx fun e w' => e = .returned (.bool false) ∧ Drawn wx w') := Lib.hid fun b wx h => by
          have := l03Ok_any b id f t L d s wx h hs
          rw [ho'] at this
          exact this
        go_enter Try.func34, Try.ntmps34
        go_wp2_with (first | (go_at_call 61; refine (HOK.out _ _ hp).mono ?_; rintro e w' ⟨rfl, hd'⟩; have hb' := Drawn.below hd'; first | (have hb := bnext hb hb'; have hp := PipeAt.next hp hb'; have ⟨p0, p1, p2, p3, p4, p5⟩ := hp) | (have hb := bnext (bal hb _) hb'; have hp := PipeAt.next (PipeAt.alloc hp _) hb'; have ⟨p0, p1, p2, p3, p4, p5⟩ := hp) | (have hb := bnext (bal (bal hb _) _) hb'; have hp := PipeAt.next (PipeAt.alloc (PipeAt.alloc hp _) _) hb'; have ⟨p0, p1, p2, p3, p4, p5⟩ := hp) | (have hb := bnext (bal (bal (bal hb _) _) _) hb'; have hp := PipeAt.next (PipeAt.alloc (PipeAt.alloc (PipeAt.alloc hp _) _) _) hb'; have ⟨p0, p1, p2, p3, p4, p5⟩ := hp)) | (go_at_call 53; refine (in_any _ _ _ _).mono ?_; rintro e w' ⟨rfl, rfl⟩))
        go_ret2
        first | exact ⟨rfl, hb⟩ | exact ⟨rfl, (bal hb _)⟩ | exact ⟨rfl, (bal (bal hb _) _)⟩ | exact ⟨rfl, (bal (bal (bal hb _) _) _)⟩
    · have k1' : inB a 1 300 = false := by simpa using k1
      have hv : ccoV id f t L d s a c = 0 := by unfold ccoV; simp [*]
      have hc : ccoC id f t L d s a c = 1 := by unfold ccoC; simp [*]
      rw [hv, hc]
      clear hv hc
      have hp := PipeAt.new w id f t L d s 29
      have hb : Below w.heap.size w (w.alloc (.cells #[.string id, .int .i64 f, .int .i64 t, .int .i64 L, .int .i64 d, .int .i64 s] 29)) := bal (Below.refl _ _) _
      have ⟨p0, p1, p2, p3, p4, p5⟩ := hp
      have HOK : Hid (∀ (b : Nat) wx, PipeAt wx b id f t L d s → Calls Try.prog 61 #[.pointer (some ⟨b, 0, none⟩)] wx fun e w' => e = .returned (.bool false) ∧ Drawn wx w') := Lib.hid fun b wx h => by
        have := l03Ok_any b id f t L d s wx h hs
        rw [ho'] at this
        exact this
      go_enter Try.func34, Try.ntmps34
      go_wp2_with (first | (go_at_call 61; refine (HOK.out _ _ hp).mono ?_; rintro e w' ⟨rfl, hd'⟩; have hb' := Drawn.below hd'; first | (have hb := bnext hb hb'; have hp := PipeAt.next hp hb'; have ⟨p0, p1, p2, p3, p4, p5⟩ := hp) | (have hb := bnext (bal hb _) hb'; have hp := PipeAt.next (PipeAt.alloc hp _) hb'; have ⟨p0, p1, p2, p3, p4, p5⟩ := hp) | (have hb := bnext (bal (bal hb _) _) hb'; have hp := PipeAt.next (PipeAt.alloc (PipeAt.alloc hp _) _) hb'; have ⟨p0, p1, p2, p3, p4, p5⟩ := hp) | (have hb := bnext (bal (bal (bal hb _) _) _) hb'; have hp := PipeAt.next (PipeAt.alloc (PipeAt.alloc (PipeAt.alloc hp _) _) _) hb'; have ⟨p0, p1, p2, p3, p4, p5⟩ := hp)) | (go_at_call 53; refine (in_any _ _ _ _).mono ?_; rintro e w' ⟨rfl, rfl⟩))
      go_ret2
      first | exact ⟨rfl, hb⟩ | exact ⟨rfl, (bal hb _)⟩ | exact ⟨rfl, (bal (bal hb _) _)⟩ | exact ⟨rfl, (bal (bal (bal hb _) _) _)⟩

set_option maxHeartbeats 3200000 in
theorem implCoatCost_any (id : ByteArray) (f t L d s : Int) (a : Int) (c : Int) (w : World) (hs : id.size ≤ maxLen) : Calls Try.prog 35 #[.agg #[.string id, .int .i64 f, .int .i64 t, .int .i64 L, .int .i64 d, .int .i64 s], .int .i64 a, .int .i64 c] w fun e w' => e = .returned (.tuple #[.int .i64 (ccoV id f t L d s a c), .int .i64 (ccoC id f t L d s a c)]) ∧ Below w.heap.size w w' := by
  have hp := PipeAt.new w id f t L d s 29
  have hb : Below w.heap.size w (w.alloc (.cells #[.string id, .int .i64 f, .int .i64 t, .int .i64 L, .int .i64 d, .int .i64 s] 29)) := bal (Below.refl _ _) _
  have HT := Lib.hid (fun wx => isThickness_any a wx)
  have HPC := Lib.hid (fun (r : Bool) wx => pipeCode_any id f t L d s r wx hs)
  have HV : Hid (ccoC id f t L d s a c = codeP id f t L d s (inB a 1 300 && inB c 0 1000) ∧ ccoV id f t L d s a c = if codeP id f t L d s (inB a 1 300 && inB c 0 1000) = 0 then coatCost L a c else 0) := Lib.hid (by
    unfold ccoC ccoV codeP
    cases okP id f t L d s <;> cases inB a 1 300 <;> cases inB c 0 1000 <;> simp)
  by_cases k1 : inB a 1 300 = true
  · rw [k1] at HT HV
    rw [Bool.true_and] at HV
    have HPC := Lib.hid (fun wx => HPC.out (inB c 0 1000) wx)
    by_cases h0 : codeP id f t L d s (inB c 0 1000) = 0
    · have ho : okP id f t L d s = true := by
        cases h : okP id f t L d s
        · unfold codeP at h0; rw [h] at h0; cases h0
        · rfl
      have k2 : inB c 0 1000 = true := by
        cases h : inB c 0 1000
        · unfold codeP at h0; rw [h, ho] at h0; cases h0
        · rfl
      obtain ⟨-, -, -, -, ⟨l0, l1⟩, -, -⟩ := okP_bd id f t L d s ho
      have ka := inB_iff.1 k1
      have kc := inB_iff.1 k2
      rw [h0, if_pos rfl] at HV
      rw [h0] at HPC
      have hnm := coatCost_num a c ka.1 ka.2 kc.1 kc.2
      have hbd := coatCost_bd L a c (by omega) l1 ka.1 ka.2 kc.1 kc.2
      have HN := Lib.hid (fun wx => nearest_any ((a * a + 100) * c) 100 wx (by omega) (by omega) (by omega) (by omega) (by omega))
      unfold coatCost at hbd HV
      generalize nearI ((a * a + 100) * c) 100 = n at *
      clear k1 k2 h0 ho
      have ⟨p0, p1, p2, p3, p4, p5⟩ := hp
      go_enter Try.func35, Try.ntmps35
      go_wp2_with fail
      have hb : Below w.heap.size w (w.alloc (.cells #[.string id, .int .i64 f, .int .i64 t, .int .i64 L, .int .i64 d, .int .i64 s] 29)).drew := below_drewN hb 1
      have hp : PipeAt (w.alloc (.cells #[.string id, .int .i64 f, .int .i64 t, .int .i64 L, .int .i64 d, .int .i64 s] 29)).drew w.heap.size id f t L d s := hp
      have ⟨p0, p1, p2, p3, p4, p5⟩ := hp
      go_region_held3 (fun w' => w'.cell? ⟨w.heap.size, 0, none⟩ = some (.string id) ∧ w'.cell? ⟨w.heap.size, 1, none⟩ = some (.int .i64 f) ∧ w'.cell? ⟨w.heap.size, 2, none⟩ = some (.int .i64 t) ∧ w'.cell? ⟨w.heap.size, 3, none⟩ = some (.int .i64 L) ∧ w'.cell? ⟨w.heap.size, 4, none⟩ = some (.int .i64 d) ∧ w'.cell? ⟨w.heap.size, 5, none⟩ = some (.int .i64 s)) (first | exact ⟨p0, p1, p2, p3, p4, p5⟩ | exact PipeAt.alloc hp _) (first | (go_at_call 57; refine (HT.out _).mono ?_; rintro e w' ⟨rfl, hb'⟩; first | (have hb := bnext hb hb'; have hp := PipeAt.next hp hb'; have ⟨p0, p1, p2, p3, p4, p5⟩ := hp) | (have hb := bnext (bal hb _) hb'; have hp := PipeAt.next (PipeAt.alloc hp _) hb'; have ⟨p0, p1, p2, p3, p4, p5⟩ := hp)) | (go_at_call 56; (with_reducible refine (one64Free _ _ _ _ _ _ ?hn).mono ?_); (case hn => simp); rintro e w' ⟨rfl, hb'⟩; first | (have hb := bnext hb hb'; have hp := PipeAt.next hp hb'; have ⟨p0, p1, p2, p3, p4, p5⟩ := hp) | (have hb := bnext (bal hb _) hb'; have hp := PipeAt.next (PipeAt.alloc hp _) hb'; have ⟨p0, p1, p2, p3, p4, p5⟩ := hp)) | (go_at_call 83; refine (HPC.out _).mono ?_; rintro e w' ⟨rfl, hb'⟩; first | (have hb := bnext hb hb'; have hp := PipeAt.next hp hb'; have ⟨p0, p1, p2, p3, p4, p5⟩ := hp) | (have hb := bnext (bal hb _) hb'; have hp := PipeAt.next (PipeAt.alloc hp _) hb'; have ⟨p0, p1, p2, p3, p4, p5⟩ := hp)))
      go_wp2
      go_quiet ((go_at_call 60; exact quiet_drawn (HN.out _)))
      go_wp2
      go_ret2
      exact ⟨by rw [HV.out.1, HV.out.2]; rfl, below_drewN hb _⟩
    · have h0' : (codeP id f t L d s (inB c 0 1000) == 0) = false := by simpa using h0
      have h0n : (codeP id f t L d s (inB c 0 1000) != 0) = true := by simpa using h0
      rw [if_neg h0] at HV
      generalize codeP id f t L d s (inB c 0 1000) = code at *
      clear h0
      have ⟨p0, p1, p2, p3, p4, p5⟩ := hp
      go_enter Try.func35, Try.ntmps35
      go_wp2_with fail
      have hb : Below w.heap.size w (w.alloc (.cells #[.string id, .int .i64 f, .int .i64 t, .int .i64 L, .int .i64 d, .int .i64 s] 29)).drew := below_drewN hb 1
      have hp : PipeAt (w.alloc (.cells #[.string id, .int .i64 f, .int .i64 t, .int .i64 L, .int .i64 d, .int .i64 s] 29)).drew w.heap.size id f t L d s := hp
      have ⟨p0, p1, p2, p3, p4, p5⟩ := hp
      go_region_held3 (fun w' => w'.cell? ⟨w.heap.size, 0, none⟩ = some (.string id) ∧ w'.cell? ⟨w.heap.size, 1, none⟩ = some (.int .i64 f) ∧ w'.cell? ⟨w.heap.size, 2, none⟩ = some (.int .i64 t) ∧ w'.cell? ⟨w.heap.size, 3, none⟩ = some (.int .i64 L) ∧ w'.cell? ⟨w.heap.size, 4, none⟩ = some (.int .i64 d) ∧ w'.cell? ⟨w.heap.size, 5, none⟩ = some (.int .i64 s)) (first | exact ⟨p0, p1, p2, p3, p4, p5⟩ | exact PipeAt.alloc hp _) (first | (go_at_call 57; refine (HT.out _).mono ?_; rintro e w' ⟨rfl, hb'⟩; first | (have hb := bnext hb hb'; have hp := PipeAt.next hp hb'; have ⟨p0, p1, p2, p3, p4, p5⟩ := hp) | (have hb := bnext (bal hb _) hb'; have hp := PipeAt.next (PipeAt.alloc hp _) hb'; have ⟨p0, p1, p2, p3, p4, p5⟩ := hp)) | (go_at_call 56; (with_reducible refine (one64Free _ _ _ _ _ _ ?hn).mono ?_); (case hn => simp); rintro e w' ⟨rfl, hb'⟩; first | (have hb := bnext hb hb'; have hp := PipeAt.next hp hb'; have ⟨p0, p1, p2, p3, p4, p5⟩ := hp) | (have hb := bnext (bal hb _) hb'; have hp := PipeAt.next (PipeAt.alloc hp _) hb'; have ⟨p0, p1, p2, p3, p4, p5⟩ := hp)) | (go_at_call 83; refine (HPC.out _).mono ?_; rintro e w' ⟨rfl, hb'⟩; first | (have hb := bnext hb hb'; have hp := PipeAt.next hp hb'; have ⟨p0, p1, p2, p3, p4, p5⟩ := hp) | (have hb := bnext (bal hb _) hb'; have hp := PipeAt.next (PipeAt.alloc hp _) hb'; have ⟨p0, p1, p2, p3, p4, p5⟩ := hp)))
      go_wp2
      go_ret2
      exact ⟨by rw [HV.out.1, HV.out.2]; rfl, hb⟩
  · have k1 : inB a 1 300 = false := by simpa only [Bool.not_eq_true] using k1
    rw [k1] at HT HV
    rw [Bool.false_and] at HV
    have HPC := Lib.hid (fun wx => HPC.out false wx)
    have h0 : codeP id f t L d s false ≠ 0 := by unfold codeP; split <;> simp
    have h0' : (codeP id f t L d s false == 0) = false := by simpa using h0
    have h0n : (codeP id f t L d s false != 0) = true := by simpa using h0
    rw [if_neg h0] at HV
    generalize codeP id f t L d s false = code at *
    clear h0
    have ⟨p0, p1, p2, p3, p4, p5⟩ := hp
    go_enter Try.func35, Try.ntmps35
    go_wp2_with fail
    have hb : Below w.heap.size w (w.alloc (.cells #[.string id, .int .i64 f, .int .i64 t, .int .i64 L, .int .i64 d, .int .i64 s] 29)).drew := below_drewN hb 1
    have hp : PipeAt (w.alloc (.cells #[.string id, .int .i64 f, .int .i64 t, .int .i64 L, .int .i64 d, .int .i64 s] 29)).drew w.heap.size id f t L d s := hp
    have ⟨p0, p1, p2, p3, p4, p5⟩ := hp
    first | (go_region_held (fun w' => w'.cell? ⟨w.heap.size, 0, none⟩ = some (.string id) ∧ w'.cell? ⟨w.heap.size, 1, none⟩ = some (.int .i64 f) ∧ w'.cell? ⟨w.heap.size, 2, none⟩ = some (.int .i64 t) ∧ w'.cell? ⟨w.heap.size, 3, none⟩ = some (.int .i64 L) ∧ w'.cell? ⟨w.heap.size, 4, none⟩ = some (.int .i64 d) ∧ w'.cell? ⟨w.heap.size, 5, none⟩ = some (.int .i64 s)) (first | exact ⟨p0, p1, p2, p3, p4, p5⟩ | exact PipeAt.alloc hp _) (first | (go_at_call 57; refine (HT.out _).mono ?_; rintro e w' ⟨rfl, hb'⟩; first | (have hb := bnext hb hb'; have hp := PipeAt.next hp hb'; have ⟨p0, p1, p2, p3, p4, p5⟩ := hp) | (have hb := bnext (bal hb _) hb'; have hp := PipeAt.next (PipeAt.alloc hp _) hb'; have ⟨p0, p1, p2, p3, p4, p5⟩ := hp)) | (go_at_call 83; refine (HPC.out _).mono ?_; rintro e w' ⟨rfl, hb'⟩; first | (have hb := bnext hb hb'; have hp := PipeAt.next hp hb'; have ⟨p0, p1, p2, p3, p4, p5⟩ := hp) | (have hb := bnext (bal hb _) hb'; have hp := PipeAt.next (PipeAt.alloc hp _) hb'; have ⟨p0, p1, p2, p3, p4, p5⟩ := hp)))) | fail
    all_goals go_wp2
    all_goals go_ret2
    all_goals exact ⟨by rw [HV.out.1, HV.out.2]; rfl, hb⟩

end Go.Proofs.Ytgdafgnjaogmeaa
