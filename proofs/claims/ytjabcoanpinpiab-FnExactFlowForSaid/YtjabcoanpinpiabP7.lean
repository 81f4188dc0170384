/-
  FlowFor and WidthFor: both sides answer the last flow, and the first width, with which a drop is not too great.
-/
import Derived.Test.YtjabcoanpinpiabP3
namespace Go.Proofs.Ytjabcoanpinpiab
open Go.ChangeShapes Go.WideShapes Go.ChangeAt Go.RowKit Go.Shelf
set_option linter.unusedSimpArgs false


/-- the greatest flow whose drop is at most g -/
def flowI (L d g : Int) : Int := leastI 0 100000 (g + 1) (fun q => dropI L d q) - 1
theorem flow_spec (L d g : Int) (l0 : 0 ≤ L) (d0 : 20 ≤ d) (d1 : d ≤ 1000) : Least 0 100000 (g + 1) (fun q => dropI L d q) (flowI L d g + 1) := by
  have := leastI_spec 0 100000 (g + 1) (fun q => dropI L d q) (by omega) (fun x y x0 h _ => drop_mono L d x y (pow5_bd d d0 d1).2.2.2.1 l0 x0 h)
  unfold flowI
  rw [Int.sub_add_cancel]
  exact this
theorem firstDrop_any (id : ByteArray) (f t L d s : Int) (g : Int) (w : World) (l0 : 0 ≤ L) (l1 : L ≤ 10000) (d0 : 20 ≤ d) (d1 : d ≤ 1000) :
    Calls Try.prog 54 #[.int .i64 0, .int .i64 100000, .int .i64 (g + 1), .func (.func 49) #[.agg #[.string id, .int .i64 f, .int .i64 t, .int .i64 L, .int .i64 d, .int .i64 s]] #[]] w fun e w' => e = .returned (.int .i64 (flowI L d g + 1)) ∧ Below w.heap.size w w' := by
  have h := firstFrom_any 49 #[.agg #[.string id, .int .i64 f, .int .i64 t, .int .i64 L, .int .i64 d, .int .i64 s]] #[] 0 100000 (g + 1) (fun q => dropI L d q) w (enters_of Try.func49 (by kernel_rfl) rfl) (by omega) (by omega) (by omega)
    (fun wr x x0 x1 _ => by simpa using drop_any id f t L d s x wr l0 l1 d0 d1 (by omega) x1) (fun x y x0 h _ => drop_mono L d x y (pow5_bd d d0 d1).2.2.2.1 l0 x0 h)
  unfold flowI
  rw [Int.sub_add_cancel]
  exact h

def ffrV (id : ByteArray) (f t L d s : Int) (g : Int) : Int := if okP id f t L d s && inB g 0 100000000 then (flowI L d g) else 0
def ffrC (id : ByteArray) (f t L d s : Int) (g : Int) : Int := if okP id f t L d s then (if inB g 0 100000000 then 0 else 2) else 1

set_option maxHeartbeats 3200000 in
theorem implFlowFor_any (id : ByteArray) (f t L d s : Int) (g : Int) (w : World) (hs : id.size ≤ maxLen) : Calls Try.prog 24 #[.agg #[.string id, .int .i64 f, .int .i64 t, .int .i64 L, .int .i64 d, .int .i64 s], .int .i64 g] w fun e w' => e = .returned (.tuple #[.int .i64 (ffrV id f t L d s g), .int .i64 (ffrC id f t L d s g)]) ∧ Below w.heap.size w w' := by
  by_cases ho : okP id f t L d s = true
  · skip
    by_cases k1 : inB g 0 100000000 = true
    · skip
      have hv : ffrV id f t L d s g = flowI L d g := by unfold ffrV; simp [*]
      have hc : ffrC id f t L d s g = 0 := by unfold ffrC; simp [*]
      rw [hv, hc]
      clear hv hc
      have hcv : codeP id f t L d s true = 0 := by unfold codeP; simp [*]
      have HPC : Hid (∀ wx, Calls Try.prog 47 #[.agg #[.string id, .int .i64 f, .int .i64 t, .int .i64 L, .int .i64 d, .int .i64 s], .bool true] wx fun e w' => e = .returned (.int .i64 0) ∧ Below wx.heap.size wx w') := Lib.hid fun wx => by
        have := pipeCode_any id f t L d s true wx hs
        rw [hcv] at this
        exact this
      clear hcv
      obtain ⟨-, -, -, -, ⟨l0, l1⟩, ⟨d0, d1⟩, ⟨s0, s1⟩⟩ := okP_bd id f t L d s ho
      have kg := inB_iff.1 k1
      have hF := flow_spec L d g (by omega) d0 d1
      obtain ⟨r0, r1, -, -⟩ := hF
      have HF := Lib.hid (fun wx => firstDrop_any id f t L d s g wx (by omega) l1 d0 d1)
      generalize flowI L d g = r at *
      have hp := PipeAt.new w id f t L d s 29
      have hb : Below w.heap.size w (w.alloc (.cells #[.string id, .int .i64 f, .int .i64 t, .int .i64 L, .int .i64 d, .int .i64 s] 29)) := bal (Below.refl _ _) _
      go_enter Try.func24, Try.ntmps24
      go_wp2_with fail
      have hb : Below w.heap.size w (w.alloc (.cells #[.string id, .int .i64 f, .int .i64 t, .int .i64 L, .int .i64 d, .int .i64 s] 29)).drew := below_drewN hb 1
      have hp : PipeAt (w.alloc (.cells #[.string id, .int .i64 f, .int .i64 t, .int .i64 L, .int .i64 d, .int .i64 s] 29)).drew w.heap.size id f t L d s := hp
      have ⟨p0, p1, p2, p3, p4, p5⟩ := hp
      go_region_held3 (fun w' => w'.cell? ⟨w.heap.size, 0, none⟩ = some (.string id) ∧ w'.cell? ⟨w.heap.size, 1, none⟩ = some (.int .i64 f) ∧ w'.cell? ⟨w.heap.size, 2, none⟩ = some (.int .i64 t) ∧ w'.cell? ⟨w.heap.size, 3, none⟩ = some (.int .i64 L) ∧ w'.cell? ⟨w.heap.size, 4, none⟩ = some (.int .i64 d) ∧ w'.cell? ⟨w.heap.size, 5, none⟩ = some (.int .i64 s)) (exact ⟨p0, p1, p2, p3, p4, p5⟩) (first | (go_at_call 53; refine (isPressure_any _ _).mono ?_; rintro e w' ⟨rfl, hb'⟩; have hb := bnext hb hb'; have hp := PipeAt.next hp hb'; have ⟨p0, p1, p2, p3, p4, p5⟩ := hp) | (go_at_call 47; refine (HPC.out _).mono ?_; rintro e w' ⟨rfl, hb'⟩; have hb := bnext hb hb'; have hp := PipeAt.next hp hb'; have ⟨p0, p1, p2, p3, p4, p5⟩ := hp))
      go_wp2_with (first | (go_at_call 54; refine (HF.out _).mono ?_; rintro e w' ⟨rfl, hb'⟩; first | have hb := bnext hb hb' | have hb := bnext (bal hb _) hb' | have hb := bnext (bal (bal hb _) _) hb' | have hb := bnext (bal (bal (bal hb _) _) _) hb' | have hb := bnext (bal (bal (bal (bal hb _) _) _) _) hb' | have hb := bnext (bal (bal (bal (bal (bal hb _) _) _) _) _) hb'))
      all_goals go_ret2
      all_goals (first | exact ⟨rfl, hb⟩ | exact ⟨rfl, (bal hb _)⟩ | exact ⟨rfl, (bal (bal hb _) _)⟩ | exact ⟨rfl, (bal (bal (bal hb _) _) _)⟩)
    · have k1' : inB g 0 100000000 = false := by simpa using k1
      have hv : ffrV id f t L d s g = 0 := by unfold ffrV; simp [*]
      have hc : ffrC id f t L d s g = 2 := by unfold ffrC; simp [*]
      rw [hv, hc]
      clear hv hc
      have hcv : codeP id f t L d s false = 2 := by unfold codeP; simp [*]
      have HPC : Hid (∀ wx, Calls Try.prog 47 #[.agg #[.string id, .int .i64 f, .int .i64 t, .int .i64 L, .int .i64 d, .int .i64 s], .bool false] wx fun e w' => e = .returned (.int .i64 2) ∧ Below wx.heap.size wx w') := Lib.hid fun wx => by
        have := pipeCode_any id f t L d s false wx hs
        rw [hcv] at this
        exact this
      clear hcv
      have hp := PipeAt.new w id f t L d s 29
      have hb : Below w.heap.size w (w.alloc (.cells #[.string id, .int .i64 f, .int .i64 t, .int .i64 L, .int .i64 d, .int .i64 s] 29)) := bal (Below.refl _ _) _
      go_enter Try.func24, Try.ntmps24
      go_wp2_with fail
      have hb : Below w.heap.size w (w.alloc (.cells #[.string id, .int .i64 f, .int .i64 t, .int .i64 L, .int .i64 d, .int .i64 s] 29)).drew := below_drewN hb 1
      have hp : PipeAt (w.alloc (.cells #[.string id, .int .i64 f, .int .i64 t, .int .i64 L, .int .i64 d, .int .i64 s] 29)).drew w.heap.size id f t L d s := hp
      have ⟨p0, p1, p2, p3, p4, p5⟩ := hp
      go_region_held3 (fun w' => w'.cell? ⟨w.heap.size, 0, none⟩ = some (.string id) ∧ w'.cell? ⟨w.heap.size, 1, none⟩ = some (.int .i64 f) ∧ w'.cell? ⟨w.heap.size, 2, none⟩ = some (.int .i64 t) ∧ w'.cell? ⟨w.heap.size, 3, none⟩ = some (.int .i64 L) ∧ w'.cell? ⟨w.heap.size, 4, none⟩ = some (.int .i64 d) ∧ w'.cell? ⟨w.heap.size, 5, none⟩ = some (.int .i64 s)) (exact ⟨p0, p1, p2, p3, p4, p5⟩) (first | (go_at_call 53; refine (isPressure_any _ _).mono ?_; rintro e w' ⟨rfl, hb'⟩; have hb := bnext hb hb'; have hp := PipeAt.next hp hb'; have ⟨p0, p1, p2, p3, p4, p5⟩ := hp) | (go_at_call 47; refine (HPC.out _).mono ?_; rintro e w' ⟨rfl, hb'⟩; have hb := bnext hb hb'; have hp := PipeAt.next hp hb'; have ⟨p0, p1, p2, p3, p4, p5⟩ := hp))
      go_wp2
      all_goals go_ret2
      all_goals (first | exact ⟨rfl, hb⟩ | exact ⟨rfl, (bal hb _)⟩ | exact ⟨rfl, (bal (bal hb _) _)⟩ | exact ⟨rfl, (bal (bal (bal hb _) _) _)⟩)
  · have ho' : okP id f t L d s = false := by simpa using ho
    by_cases k1 : inB g 0 100000000 = true
    · skip
      have hv : ffrV id f t L d s g = 0 := by unfold ffrV; simp [*]
      have hc : ffrC id f t L d s g = 1 := by unfold ffrC; simp [*]
      rw [hv, hc]
      clear hv hc
      have hcv : codeP id f t L d s true = 1 := by unfold codeP; simp [*]
      have HPC : Hid (∀ wx, Calls Try.prog 47 #[.agg #[.string id, .int .i64 f, .int .i64 t, .int .i64 L, .int .i64 d, .int .i64 s], .bool true] wx fun e w' => e = .returned (.int .i64 1) ∧ Below wx.heap.size wx w') := Lib.hid fun wx => by
        have := pipeCode_any id f t L d s true wx hs
        rw [hcv] at this
        exact this
      clear hcv
      have hp := PipeAt.new w id f t L d s 29
      have hb : Below w.heap.size w (w.alloc (.cells #[.string id, .int .i64 f, .int .i64 t, .int .i64 L, .int .i64 d, .int .i64 s] 29)) := bal (Below.refl _ _) _
      go_enter Try.func24, Try.ntmps24
      go_wp2_with fail
      have hb : Below w.heap.size w (w.alloc (.cells #[.string id, .int .i64 f, .int .i64 t, .int .i64 L, .int .i64 d, .int .i64 s] 29)).drew := below_drewN hb 1
      have hp : PipeAt (w.alloc (.cells #[.string id, .int .i64 f, .int .i64 t, .int .i64 L, .int .i64 d, .int .i64 s] 29)).drew w.heap.size id f t L d s := hp
      have ⟨p0, p1, p2, p3, p4, p5⟩ := hp
      go_region_held3 (fun w' => w'.cell? ⟨w.heap.size, 0, none⟩ = some (.string id) ∧ w'.cell? ⟨w.heap.size, 1, none⟩ = some (.int .i64 f) ∧ w'.cell? ⟨w.heap.size, 2, none⟩ = some (.int .i64 t) ∧ w'.cell? ⟨w.heap.size, 3, none⟩ = some (.int .i64 L) ∧ w'.cell? ⟨w.heap.size, 4, none⟩ = some (.int .i64 d) ∧ w'.cell? ⟨w.heap.size, 5, none⟩ = some (.int .i64 s)) (exact ⟨p0, p1, p2, p3, p4, p5⟩) (first | (go_at_call 53; refine (isPressure_any _ _).mono ?_; rintro e w' ⟨rfl, hb'⟩; have hb := bnext hb hb'; have hp := PipeAt.next hp hb'; have ⟨p0, p1, p2, p3, p4, p5⟩ := hp) | (go_at_call 47; refine (HPC.out _).mono ?_; rintro e w' ⟨rfl, hb'⟩; have hb := bnext hb hb'; have hp := PipeAt.next hp hb'; have ⟨p0, p1, p2, p3, p4, p5⟩ := hp))
      go_wp2
      all_goals go_ret2
      all_goals (first | exact ⟨rfl, hb⟩ | exact ⟨rfl, (bal hb _)⟩ | exact ⟨rfl, (bal (bal hb _) _)⟩ | exact ⟨rfl, (bal (bal (bal hb _) _) _)⟩)
    · have k1' : inB g 0 100000000 = false := by simpa using k1
      have hv : ffrV id f t L d s g = 0 := by unfold ffrV; simp [*]
      have hc : ffrC id f t L d s g = 1 := by unfold ffrC; simp [*]
      rw [hv, hc]
      clear hv hc
      have hcv : codeP id f t L d s false = 1 := by unfold codeP; simp [*]
      have HPC : Hid (∀ wx, Calls Try.prog 47 #[.agg #[.string id, .int .i64 f, .int .i64 t, .int .i64 L, .int .i64 d, .int .i64 s], .bool false] wx fun e w' => e = .returned (.int .i64 1) ∧ Below wx.heap.size wx w') := Lib.hid fun wx => by
        have := pipeCode_any id f t L d s false wx hs
        rw [hcv] at this
        exact this
      clear hcv
      have hp := PipeAt.new w id f t L d s 29
      have hb : Below w.heap.size w (w.alloc (.cells #[.string id, .int .i64 f, .int .i64 t, .int .i64 L, .int .i64 d, .int .i64 s] 29)) := bal (Below.refl _ _) _
      go_enter Try.func24, Try.ntmps24
      go_wp2_with fail
      have hb : Below w.heap.size w (w.alloc (.cells #[.string id, .int .i64 f, .int .i64 t, .int .i64 L, .int .i64 d, .int .i64 s] 29)).drew := below_drewN hb 1
      have hp : PipeAt (w.alloc (.cells #[.string id, .int .i64 f, .int .i64 t, .int .i64 L, .int .i64 d, .int .i64 s] 29)).drew w.heap.size id f t L d s := hp
      have ⟨p0, p1, p2, p3, p4, p5⟩ := hp
      go_region_held3 (fun w' => w'.cell? ⟨w.heap.size, 0, none⟩ = some (.string id) ∧ w'.cell? ⟨w.heap.size, 1, none⟩ = some (.int .i64 f) ∧ w'.cell? ⟨w.heap.size, 2, none⟩ = some (.int .i64 t) ∧ w'.cell? ⟨w.heap.size, 3, none⟩ = some (.int .i64 L) ∧ w'.cell? ⟨w.heap.size, 4, none⟩ = some (.int .i64 d) ∧ w'.cell? ⟨w.heap.size, 5, none⟩ = some (.int .i64 s)) (exact ⟨p0, p1, p2, p3, p4, p5⟩) (first | (go_at_call 53; refine (isPressure_any _ _).mono ?_; rintro e w' ⟨rfl, hb'⟩; have hb := bnext hb hb'; have hp := PipeAt.next hp hb'; have ⟨p0, p1, p2, p3, p4, p5⟩ := hp) | (go_at_call 47; refine (HPC.out _).mono ?_; rintro e w' ⟨rfl, hb'⟩; have hb := bnext hb hb'; have hp := PipeAt.next hp hb'; have ⟨p0, p1, p2, p3, p4, p5⟩ := hp))
      go_wp2
      all_goals go_ret2
      all_goals (first | exact ⟨rfl, hb⟩ | exact ⟨rfl, (bal hb _)⟩ | exact ⟨rfl, (bal (bal hb _) _)⟩ | exact ⟨rfl, (bal (bal (bal hb _) _) _)⟩)

set_option maxHeartbeats 3200000 in
theorem specFlowFor_any (id : ByteArray) (f t L d s : Int) (g : Int) (w : World) (hs : id.size ≤ maxLen) : Calls Try.prog 23 #[.agg #[.string id, .int .i64 f, .int .i64 t, .int .i64 L, .int .i64 d, .int .i64 s], .int .i64 g] w fun e w' => e = .returned (.tuple #[.int .i64 (ffrV id f t L d s g), .int .i64 (ffrC id f t L d s g)]) ∧ Below w.heap.size w w' := by
  by_cases ho : okP id f t L d s = true
  · skip
    by_cases k1 : inB g 0 100000000 = true
    · skip
      have hv : ffrV id f t L d s g = flowI L d g := by unfold ffrV; simp [*]
      have hc : ffrC id f t L d s g = 0 := by unfold ffrC; simp [*]
      rw [hv, hc]
      clear hv hc
      obtain ⟨-, -, -, -, ⟨l0, l1⟩, ⟨d0, d1⟩, ⟨s0, s1⟩⟩ := okP_bd id f t L d s ho
      have kg := inB_iff.1 k1
      have hF := flow_spec L d g (by omega) d0 d1
      have HL := Lib.hid hF
      have HM : Hid (∀ x y, 0 ≤ x → x ≤ y → y ≤ 100000 → dropI L d x ≤ dropI L d y) := Lib.hid (fun x y x0 h _ => drop_mono L d x y (pow5_bd d d0 d1).2.2.2.1 (by omega) x0 h)
      have H0 := Lib.hid (drop_zero L d (pow5_bd d d0 d1).2.2.2.1)
      have HR := Lib.hid (fun (x : Int) (x0 : 0 ≤ x) (x1 : x ≤ 100000) (b : Nat) wx (h : PipeAt wx b id f t L d s) => l03Raw_any b id f t L d s d x wx h (by omega) l1 d0 d1 (by omega) x1)
      clear hF
      generalize flowI L d g = r at HL ⊢
      have hp := PipeAt.new w id f t L d s 29
      have hb : Below w.heap.size w (w.alloc (.cells #[.string id, .int .i64 f, .int .i64 t, .int .i64 L, .int .i64 d, .int .i64 s] 29)) := bal (Below.refl _ _) _
      have ⟨p0, p1, p2, p3, p4, p5⟩ := hp
      have HOK : Hid (∀ (b : Nat) wx, PipeAt wx b id f t L d s → Calls Try.prog 43 #[.pointer (some ⟨b, 0, none⟩)] wx fun e w' => e = .returned (.bool true) ∧ Drawn wx w') := Lib.hid fun b wx h => by
        have := l03Ok_any b id f t L d s wx h hs
        rw [ho] at this
        exact this
      go_enter Try.func23, Try.ntmps23
      go_wp2_with (first | (go_at_call 43; refine (HOK.out _ _ hp).mono ?_; rintro e w' ⟨rfl, hd'⟩; have hb' := Drawn.below hd'; first | (have hb := bnext hb hb'; have hp := PipeAt.next hp hb'; have ⟨p0, p1, p2, p3, p4, p5⟩ := hp) | (have hb := bnext (bal hb _) hb'; have hp := PipeAt.next (PipeAt.alloc hp _) hb'; have ⟨p0, p1, p2, p3, p4, p5⟩ := hp) | (have hb := bnext (bal (bal hb _) _) hb'; have hp := PipeAt.next (PipeAt.alloc (PipeAt.alloc hp _) _) hb'; have ⟨p0, p1, p2, p3, p4, p5⟩ := hp) | (have hb := bnext (bal (bal (bal hb _) _) _) hb'; have hp := PipeAt.next (PipeAt.alloc (PipeAt.alloc (PipeAt.alloc hp _) _) _) hb'; have ⟨p0, p1, p2, p3, p4, p5⟩ := hp)) | (go_at_call 51; refine (l03Press_any _ _).mono ?_; rintro e w' ⟨rfl, rfl⟩))
      go_loopw [6, 7] (fun va vb wr => ∃ l h : Int, va = .int .i64 l ∧ vb = .int .i64 h ∧ 0 ≤ l ∧ l ≤ h ∧ h ≤ 100000 ∧ PipeAt wr w.heap.size id f t L d s ∧ Below w.heap.size w wr ∧ Hid (dropI L d l ≤ g ∧ (h < 100000 → g < dropI L d (h + 1)))) (fun va vb _ => (intOf vb - intOf va).toNat)
      case atStart => exact ⟨_, _, rfl, rfl, by omega, by omega, by omega, hp, hb, Lib.hid ⟨by rw [H0.out]; exact kg.1, fun h => by omega⟩⟩
      case round =>
        obtain ⟨l, h, rfl, rfl, h0, h1, h2, hp, hb, I⟩ := hrel
        have ⟨p0, p1, p2, p3, p4, p5⟩ := hp
        by_cases hlt : l < h
        · have hq0 : l < (l + h + 1) / 2 := by omega
          have hq1 : (l + h + 1) / 2 ≤ h := by omega
          have hs0 : 0 ≤ l + h + 1 := by omega
          have HX := Lib.hid (HR.out ((l + h + 1) / 2) (by omega) (by omega))
          by_cases hg : dropI L d ((l + h + 1) / 2) ≤ g
          · have hg' : decide (dropI L d ((l + h + 1) / 2) ≤ g) = true := by simpa using hg
            have HG := Lib.hid hg
            clear hg
            go_wp2_with ((go_at_call 52; refine (HX.out _ _ hp).mono ?_; rintro e w' ⟨rfl, hd'⟩; have hb' := Drawn.below hd'; first | (have hb := bnext hb hb'; have hp := PipeAt.next hp hb'; have ⟨p0, p1, p2, p3, p4, p5⟩ := hp) | (have hb := bnext (bal hb _) hb'; have hp := PipeAt.next (PipeAt.alloc hp _) hb'; have ⟨p0, p1, p2, p3, p4, p5⟩ := hp) | (have hb := bnext (bal (bal hb _) _) hb'; have hp := PipeAt.next (PipeAt.alloc (PipeAt.alloc hp _) _) hb'; have ⟨p0, p1, p2, p3, p4, p5⟩ := hp) | (have hb := bnext (bal (bal (bal hb _) _) _) hb'; have hp := PipeAt.next (PipeAt.alloc (PipeAt.alloc (PipeAt.alloc hp _) _) _) hb'; have ⟨p0, p1, p2, p3, p4, p5⟩ := hp)))
            go_roundw
            case rel => exact ⟨(l + h + 1) / 2, h, rfl, rfl, by omega, hq1, h2, hp, hb, Lib.hid ⟨HG.out, I.out.2⟩⟩
            case measure => simp [intOf]; omega
          · have hg' : decide (dropI L d ((l + h + 1) / 2) ≤ g) = false := by simpa using hg
            have HG := Lib.hid hg
            clear hg
            go_wp2_with ((go_at_call 52; refine (HX.out _ _ hp).mono ?_; rintro e w' ⟨rfl, hd'⟩; have hb' := Drawn.below hd'; first | (have hb := bnext hb hb'; have hp := PipeAt.next hp hb'; have ⟨p0, p1, p2, p3, p4, p5⟩ := hp) | (have hb := bnext (bal hb _) hb'; have hp := PipeAt.next (PipeAt.alloc hp _) hb'; have ⟨p0, p1, p2, p3, p4, p5⟩ := hp) | (have hb := bnext (bal (bal hb _) _) hb'; have hp := PipeAt.next (PipeAt.alloc (PipeAt.alloc hp _) _) hb'; have ⟨p0, p1, p2, p3, p4, p5⟩ := hp) | (have hb := bnext (bal (bal (bal hb _) _) _) hb'; have hp := PipeAt.next (PipeAt.alloc (PipeAt.alloc (PipeAt.alloc hp _) _) _) hb'; have ⟨p0, p1, p2, p3, p4, p5⟩ := hp)))
            go_roundw
            case rel => exact ⟨l, (l + h + 1) / 2 - 1, rfl, rfl, h0, by omega, by omega, hp, hb, Lib.hid ⟨I.out.1, fun _ => by have := HG.out; rw [Int.sub_add_cancel]; omega⟩⟩
            case measure => simp [intOf]; omega
        · have e : l + 1 = r + 1 := (show Least 0 100000 (g + 1) (fun q => dropI L d q) (l + 1) from ⟨by omega, by omega, fun x a b => by
            have := HM.out x l a (by omega) (by omega)
            have := I.out.1
            show dropI L d x < g + 1
            omega, fun hx => by
            have := I.out.2 (by omega)
            have e2 : h + 1 = l + 1 := by omega
            rw [e2] at this
            show g + 1 ≤ dropI L d (l + 1)
            omega⟩).eq HL.out
          obtain rfl : l = r := by omega
          go_wp2
          go_ret2
          exact ⟨rfl, hb⟩
    · have k1' : inB g 0 100000000 = false := by simpa using k1
      have hv : ffrV id f t L d s g = 0 := by unfold ffrV; simp [*]
      have hc : ffrC id f t L d s g = 2 := by unfold ffrC; simp [*]
      rw [hv, hc]
      clear hv hc
      have hp := PipeAt.new w id f t L d s 29
      have hb : Below w.heap.size w (w.alloc (.cells #[.string id, .int .i64 f, .int .i64 t, .int .i64 L, .int .i64 d, .int .i64 s] 29)) := bal (Below.refl _ _) _
      have ⟨p0, p1, p2, p3, p4, p5⟩ := hp
      have HOK : Hid (∀ (b : Nat) wx, PipeAt wx b id f t L d s → Calls Try.prog 43 #[.pointer (some ⟨b, 0, none⟩)] wx fun e w' => e = .returned (.bool true) ∧ Drawn wx w') := Lib.hid fun b wx h => by
        have := l03Ok_any b id f t L d s wx h hs
        rw [ho] at this
        exact this
      go_enter Try.func23, Try.ntmps23
      go_wp2_with (first | (go_at_call 43; refine (HOK.out _ _ hp).mono ?_; rintro e w' ⟨rfl, hd'⟩; have hb' := Drawn.below hd'; first | (have hb := bnext hb hb'; have hp := PipeAt.next hp hb'; have ⟨p0, p1, p2, p3, p4, p5⟩ := hp) | (have hb := bnext (bal hb _) hb'; have hp := PipeAt.next (PipeAt.alloc hp _) hb'; have ⟨p0, p1, p2, p3, p4, p5⟩ := hp) | (have hb := bnext (bal (bal hb _) _) hb'; have hp := PipeAt.next (PipeAt.alloc (PipeAt.alloc hp _) _) hb'; have ⟨p0, p1, p2, p3, p4, p5⟩ := hp) | (have hb := bnext (bal (bal (bal hb _) _) _) hb'; have hp := PipeAt.next (PipeAt.alloc (PipeAt.alloc (PipeAt.alloc hp _) _) _) hb'; have ⟨p0, p1, p2, p3, p4, p5⟩ := hp)) | (go_at_call 51; refine (l03Press_any _ _).mono ?_; rintro e w' ⟨rfl, rfl⟩))
      go_ret2
      first | exact ⟨rfl, hb⟩ | exact ⟨rfl, (bal hb _)⟩ | exact ⟨rfl, (bal (bal hb _) _)⟩ | exact ⟨rfl, (bal (bal (bal hb _) _) _)⟩
  · have ho' : okP id f t L d s = false := by simpa using ho
    by_cases k1 : inB g 0 100000000 = true
    · skip
      have hv : ffrV id f t L d s g = 0 := by unfold ffrV; simp [*]
      have hc : ffrC id f t L d s g = 1 := by unfold ffrC; simp [*]
      rw [hv, hc]
      clear hv hc
      have hp := PipeAt.new w id f t L d s 29
      have hb : Below w.heap.size w (w.alloc (.cells #[.string id, .int .i64 f, .int .i64 t, .int .i64 L, .int .i64 d, .int .i64 s] 29)) := bal (Below.refl _ _) _
      have ⟨p0, p1, p2, p3, p4, p5⟩ := hp
      have HOK : Hid (∀ (b : Nat) wx, PipeAt wx b id f t L d s → Calls Try.prog 43 #[.pointer (some ⟨b, 0, none⟩)] wx fun e w' => e = .returned (.bool false) ∧ Drawn wx w') := Lib.hid fun b wx h => by
        have := l03Ok_any b id f t L d s wx h hs
        rw [ho'] at this
        exact this
      go_enter Try.func23, Try.ntmps23
      go_wp2_with (first | (go_at_call 43; refine (HOK.out _ _ hp).mono ?_; rintro e w' ⟨rfl, hd'⟩; have hb' := Drawn.below hd'; first | (have hb := bnext hb hb'; have hp := PipeAt.next hp hb'; have ⟨p0, p1, p2, p3, p4, p5⟩ := hp) | (have hb := bnext (bal hb _) hb'; have hp := PipeAt.next (PipeAt.alloc hp _) hb'; have ⟨p0, p1, p2, p3, p4, p5⟩ := hp) | (have hb := bnext (bal (bal hb _) _) hb'; have hp := PipeAt.next (PipeAt.alloc (PipeAt.alloc hp _) _) hb'; have ⟨p0, p1, p2, p3, p4, p5⟩ := hp) | (have hb := bnext (bal (bal (bal hb _) _) _) hb'; have hp := PipeAt.next (PipeAt.alloc (PipeAt.alloc (PipeAt.alloc hp _) _) _) hb'; have ⟨p0, p1, p2, p3, p4, p5⟩ := hp)) | (go_at_call 51; refine (l03Press_any _ _).mono ?_; rintro e w' ⟨rfl, rfl⟩))
      go_ret2
      first | exact ⟨rfl, hb⟩ | exact ⟨rfl, (bal hb _)⟩ | exact ⟨rfl, (bal (bal hb _) _)⟩ | exact ⟨rfl, (bal (bal (bal hb _) _) _)⟩
    · have k1' : inB g 0 100000000 = false := by simpa using k1
      have hv : ffrV id f t L d s g = 0 := by unfold ffrV; simp [*]
      have hc : ffrC id f t L d s g = 1 := by unfold ffrC; simp [*]
      rw [hv, hc]
      clear hv hc
      have hp := PipeAt.new w id f t L d s 29
      have hb : Below w.heap.size w (w.alloc (.cells #[.string id, .int .i64 f, .int .i64 t, .int .i64 L, .int .i64 d, .int .i64 s] 29)) := bal (Below.refl _ _) _
      have ⟨p0, p1, p2, p3, p4, p5⟩ := hp
      have HOK : Hid (∀ (b : Nat) wx, PipeAt wx b id f t L d s → Calls Try.prog 43 #[.pointer (some ⟨b, 0, none⟩)] wx fun e w' => e = .returned (.bool false) ∧ Drawn wx w') := Lib.hid fun b wx h => by
        have := l03Ok_any b id f t L d s wx h hs
        rw [ho'] at this
        exact this
      go_enter Try.func23, Try.ntmps23
      go_wp2_with (first | (go_at_call 43; refine (HOK.out _ _ hp).mono ?_; rintro e w' ⟨rfl, hd'⟩; have hb' := Drawn.below hd'; first | (have hb := bnext hb hb'; have hp := PipeAt.next hp hb'; have ⟨p0, p1, p2, p3, p4, p5⟩ := hp) | (have hb := bnext (bal hb _) hb'; have hp := PipeAt.next (PipeAt.alloc hp _) hb'; have ⟨p0, p1, p2, p3, p4, p5⟩ := hp) | (have hb := bnext (bal (bal hb _) _) hb'; have hp := PipeAt.next (PipeAt.alloc (PipeAt.alloc hp _) _) hb'; have ⟨p0, p1, p2, p3, p4, p5⟩ := hp) | (have hb := bnext (bal (bal (bal hb _) _) _) hb'; have hp := PipeAt.next (PipeAt.alloc (PipeAt.alloc (PipeAt.alloc hp _) _) _) hb'; have ⟨p0, p1, p2, p3, p4, p5⟩ := hp)) | (go_at_call 51; refine (l03Press_any _ _).mono ?_; rintro e w' ⟨rfl, rfl⟩))
      go_ret2
      first | exact ⟨rfl, hb⟩ | exact ⟨rfl, (bal hb _)⟩ | exact ⟨rfl, (bal (bal hb _) _)⟩ | exact ⟨rfl, (bal (bal (bal hb _) _) _)⟩

end Go.Proofs.Ytjabcoanpinpiab
