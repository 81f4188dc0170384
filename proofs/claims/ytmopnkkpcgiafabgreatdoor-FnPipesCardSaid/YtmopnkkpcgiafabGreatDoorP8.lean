/-
  WidthFor: both sides answer the first width with which a drop is not too great.
-/
import Derived.Test.YtmopnkkpcgiafabGreatDoorP3
namespace Go.Proofs.YtmopnkkpcgiafabGreatDoor
open Go.ChangeShapes Go.WideShapes Go.ChangeAt Go.RowKit Go.Shelf
set_option linter.unusedSimpArgs false


/-- the least width with which the drop of a flow is at most g; 1001 if there is none -/
def widthI (L q g : Int) : Int := leastI 20 1000 (-g) (fun x => -dropI L x (absI q))
theorem width_mono (L q : Int) (l0 : 0 ≤ L) : ∀ x y, 20 ≤ x → x ≤ y → y ≤ 1000 → -dropI L x (absI q) ≤ -dropI L y (absI q) := fun x y x0 h y1 => by
  have := drop_anti L x y (absI q) x0 h (pow5_bd x x0 (by omega)).2.2.2.1 l0 (absI_nn q)
  omega
theorem width_spec (L q g : Int) (l0 : 0 ≤ L) : Least 20 1000 (-g) (fun x => -dropI L x (absI q)) (widthI L q g) :=
  leastI_spec 20 1000 (-g) (fun x => -dropI L x (absI q)) (by omega) (width_mono L q l0)
/-- the pipe with another diameter: its drop, negated -/
theorem narrow_any (b c : Nat) (id : ByteArray) (f t L d s : Int) (q x : Int) (w : World) (hp : PipeAt w b id f t L d s) (hq : w.cell? ⟨c, 0, none⟩ = some (.int .i64 q)) (l0 : 0 ≤ L) (l1 : L ≤ 10000) (x0 : 20 ≤ x) (x1 : x ≤ 1000) (q0 : -100000 ≤ q) (q1 : q ≤ 100000) :
    Calls Tryz.prog 77 #[.int .i64 x, .pointer (some ⟨b, 0, none⟩), .pointer (some ⟨c, 0, none⟩)] w fun e w' => e = .returned (.int .i64 (-dropI L x (absI q))) ∧ Below w.heap.size w w' := by
  have ha := absI_bd q 100000 q0 q1
  have HA := Lib.hid (fun wx => absolute_any q wx (by omega) (by omega))
  have HD := Lib.hid (fun wx => drop_any id f t L x s (absI q) wx l0 l1 x0 x1 (by omega) ha.2)
  have hlim := drop_lim L x (absI q) l0 l1 (by omega) ha.2 x0 x1
  have e1 : IntKind.i64.wrap (-dropI L x (absI q)) = -dropI L x (absI q) := IntWalk.i64_in _ (by omega)
  generalize dropI L x (absI q) = r at *
  generalize absI q = u at *
  have HE := Lib.hid e1
  clear e1
  have hp2 := PipeAt.new w id f t L x s 40
  have hb : Below w.heap.size w (w.alloc (.cells #[.string id, .int .i64 f, .int .i64 t, .int .i64 L, .int .i64 x, .int .i64 s] 40)) := bal (Below.refl _ _) _
  have hc2 := (hb.cell (p := ⟨c, 0, none⟩) (World.block_lt_of_cell? _ _ hq)).trans hq
  have ⟨p0, p1, p2, p3, p4, p5⟩ := hp
  go_enter Tryz.func77, Tryz.ntmps77
  go_wp2_with fail
  clear p0 p1 p2 p3 p4 p5
  have hb : Below w.heap.size w (w.alloc (.cells #[.string id, .int .i64 f, .int .i64 t, .int .i64 L, .int .i64 x, .int .i64 s] 40)).drew := below_drewN hb 1
  have hp : PipeAt (w.alloc (.cells #[.string id, .int .i64 f, .int .i64 t, .int .i64 L, .int .i64 x, .int .i64 s] 40)).drew w.heap.size id f t L x s := hp2
  have pq : (w.alloc (.cells #[.string id, .int .i64 f, .int .i64 t, .int .i64 L, .int .i64 x, .int .i64 s] 40)).drew.cell? ⟨c, 0, none⟩ = some (.int .i64 q) := hc2
  have ⟨p0, p1, p2, p3, p4, p5⟩ := hp
  have e1 := HE.out
  go_region_held3 (fun w' => w'.cell? ⟨w.heap.size, 0, none⟩ = some (.string id) ∧ w'.cell? ⟨w.heap.size, 1, none⟩ = some (.int .i64 f) ∧ w'.cell? ⟨w.heap.size, 2, none⟩ = some (.int .i64 t) ∧ w'.cell? ⟨w.heap.size, 3, none⟩ = some (.int .i64 L) ∧ w'.cell? ⟨w.heap.size, 4, none⟩ = some (.int .i64 x) ∧ w'.cell? ⟨w.heap.size, 5, none⟩ = some (.int .i64 s) ∧ w'.cell? ⟨c, 0, none⟩ = some (.int .i64 q)) (exact ⟨p0, p1, p2, p3, p4, p5, pq⟩)
    (first | (go_at_call 74; refine (HA.out _).mono ?_; rintro e w' ⟨rfl, rfl⟩) | (go_at_call 73; refine (HD.out _).mono ?_; rintro e w' ⟨rfl, hb'⟩; have hb := bnext hb hb'; have hp := PipeAt.next hp hb'; have ⟨p0, p1, p2, p3, p4, p5⟩ := hp; have pq := (hb'.cell (World.block_lt_of_cell? _ _ pq)).trans pq))
  all_goals go_wp2
  all_goals go_ret
  all_goals exact ⟨rfl, hb⟩

theorem firstWidth_any (b c : Nat) (id : ByteArray) (f t L d s : Int) (q g : Int) (w : World) (hp : PipeAt w b id f t L d s) (hq : w.cell? ⟨c, 0, none⟩ = some (.int .i64 q)) (l0 : 0 ≤ L) (l1 : L ≤ 10000) (q0 : -100000 ≤ q) (q1 : q ≤ 100000) :
    Calls Tryz.prog 76 #[.int .i64 20, .int .i64 1000, .int .i64 (-g), .func (.func 77) #[] #[.pointer (some ⟨b, 0, none⟩), .pointer (some ⟨c, 0, none⟩)]] w fun e w' => e = .returned (.int .i64 (widthI L q g)) ∧ Below w.heap.size w w' :=
  firstFrom_any 77 #[] #[.pointer (some ⟨b, 0, none⟩), .pointer (some ⟨c, 0, none⟩)] 20 1000 (-g) (fun x => -dropI L x (absI q)) w (enters_of Tryz.func77 (by kernel_rfl) rfl) (by omega) (by omega) (by omega)
    (fun wr x x0 x1 hb => by
      have := narrow_any b c id f t L d s q x wr (hp.next hb) ((hb.cell (World.block_lt_of_cell? _ _ hq)).trans hq) l0 l1 x0 x1 q0 q1
      simpa using this) (width_mono L q l0)

def wfrV (id : ByteArray) (f t L d s : Int) (q : Int) (g : Int) : Int := if okP id f t L d s && inB q (-100000) 100000 && inB g 0 100000000 && inB (widthI L q g) 20 1000 then (widthI L q g) else 0
def wfrC (id : ByteArray) (f t L d s : Int) (q : Int) (g : Int) : Int := if okP id f t L d s then (if inB q (-100000) 100000 && inB g 0 100000000 then (if inB (widthI L q g) 20 1000 then 0 else 3) else 2) else 1

set_option maxHeartbeats 3200000 in
theorem implWidthFor_any (id : ByteArray) (f t L d s : Int) (q : Int) (g : Int) (w : World) (hs : id.size ≤ maxLen) : Calls Tryz.prog 33 #[.agg #[.string id, .int .i64 f, .int .i64 t, .int .i64 L, .int .i64 d, .int .i64 s], .int .i64 q, .int .i64 g] w fun e w' => e = .returned (.tuple #[.int .i64 (wfrV id f t L d s q g), .int .i64 (wfrC id f t L d s q g)]) ∧ Below w.heap.size w w' := by
  by_cases ho : okP id f t L d s = true
  · skip
    by_cases k1 : inB q (-100000) 100000 = true
    · skip
      by_cases k2 : inB g 0 100000000 = true
      · skip
        by_cases kw : inB (widthI L q g) 20 1000 = true
        · skip
          have hv : wfrV id f t L d s q g = widthI L q g := by unfold wfrV; simp [*]
          have hc : wfrC id f t L d s q g = 0 := by unfold wfrC; simp [*]
          rw [hv, hc]
          clear hv hc
          have hcv : codeP id f t L d s true = 0 := by unfold codeP; simp [*]
          have HPC : Hid (∀ wx, Calls Tryz.prog 71 #[.agg #[.string id, .int .i64 f, .int .i64 t, .int .i64 L, .int .i64 d, .int .i64 s], .bool true] wx fun e w' => e = .returned (.int .i64 0) ∧ Below wx.heap.size wx w') := Lib.hid fun wx => by
            have := pipeCode_any id f t L d s true wx hs
            rw [hcv] at this
            exact this
          clear hcv
          have HC0 : Hid (∀ wx, Calls Tryz.prog 72 #[.int .i64 q] wx fun e w' => e = .returned (.bool true) ∧ Below wx.heap.size wx w') := Lib.hid fun wx => by
            have := isFlow_any q wx
            rw [k1] at this
            exact this
          have HC1 : Hid (∀ wx, Calls Tryz.prog 75 #[.int .i64 g] wx fun e w' => e = .returned (.bool true) ∧ Below wx.heap.size wx w') := Lib.hid fun wx => by
            have := isPressure_any g wx
            rw [k2] at this
            exact this
          obtain ⟨-, -, -, -, ⟨l0, l1⟩, ⟨d0, d1⟩, ⟨s0, s1⟩⟩ := okP_bd id f t L d s ho
          have kq := inB_iff.1 k1
          have kg := inB_iff.1 k2
          have hF := width_spec L q g (by omega)
          have kr := (inB_iff.1 kw).2
          have HF := Lib.hid (fun wx (h : PipeAt wx w.heap.size id f t L d s) (hq : wx.cell? ⟨w.heap.size + 1, 0, none⟩ = some (.int .i64 q)) => firstWidth_any w.heap.size (w.heap.size + 1) id f t L d s q g wx h hq (by omega) l1 kq.1 kq.2)
          have HL := Lib.hid hF
          clear hF
          generalize widthI L q g = r at *
          have hp : PipeAt ((w.alloc (.cells #[.string id, .int .i64 f, .int .i64 t, .int .i64 L, .int .i64 d, .int .i64 s] 40)).alloc (.cells #[.int .i64 q] 2)) w.heap.size id f t L d s := PipeAt.alloc (PipeAt.new w id f t L d s 40) _
          have hb : Below w.heap.size w ((w.alloc (.cells #[.string id, .int .i64 f, .int .i64 t, .int .i64 L, .int .i64 d, .int .i64 s] 40)).alloc (.cells #[.int .i64 q] 2)) := bal (bal (Below.refl _ _) _) _
          have pq : ((w.alloc (.cells #[.string id, .int .i64 f, .int .i64 t, .int .i64 L, .int .i64 d, .int .i64 s] 40)).alloc (.cells #[.int .i64 q] 2)).cell? ⟨w.heap.size + 1, 0, none⟩ = some (.int .i64 q) := by rw [World.cell?_alloc2_new]; rfl
          go_enter Tryz.func33, Tryz.ntmps33
          go_wp2_with fail
          have hb : Below w.heap.size w ((w.alloc (.cells #[.string id, .int .i64 f, .int .i64 t, .int .i64 L, .int .i64 d, .int .i64 s] 40)).alloc (.cells #[.int .i64 q] 2)).drew := below_drewN hb 1
          have hp : PipeAt ((w.alloc (.cells #[.string id, .int .i64 f, .int .i64 t, .int .i64 L, .int .i64 d, .int .i64 s] 40)).alloc (.cells #[.int .i64 q] 2)).drew w.heap.size id f t L d s := hp
          have ⟨p0, p1, p2, p3, p4, p5⟩ := hp
          go_region_held3 (fun w' => w'.cell? ⟨w.heap.size, 0, none⟩ = some (.string id) ∧ w'.cell? ⟨w.heap.size, 1, none⟩ = some (.int .i64 f) ∧ w'.cell? ⟨w.heap.size, 2, none⟩ = some (.int .i64 t) ∧ w'.cell? ⟨w.heap.size, 3, none⟩ = some (.int .i64 L) ∧ w'.cell? ⟨w.heap.size, 4, none⟩ = some (.int .i64 d) ∧ w'.cell? ⟨w.heap.size, 5, none⟩ = some (.int .i64 s) ∧ w'.cell? ⟨w.heap.size + 1, 0, none⟩ = some (.int .i64 q)) (exact ⟨p0, p1, p2, p3, p4, p5, pq⟩) (first | (go_at_call 72; (with_reducible refine (HC0.out _).mono ?_); rintro e w' ⟨rfl, hb'⟩; have hb := bnext hb hb'; have hp := PipeAt.next hp hb'; have ⟨p0, p1, p2, p3, p4, p5⟩ := hp; have pq := (hb'.cell (World.block_lt_of_cell? _ _ pq)).trans pq) | (go_at_call 75; (with_reducible refine (HC1.out _).mono ?_); rintro e w' ⟨rfl, hb'⟩; have hb := bnext hb hb'; have hp := PipeAt.next hp hb'; have ⟨p0, p1, p2, p3, p4, p5⟩ := hp; have pq := (hb'.cell (World.block_lt_of_cell? _ _ pq)).trans pq) | (go_at_call 71; refine (HPC.out _).mono ?_; rintro e w' ⟨rfl, hb'⟩; have hb := bnext hb hb'; have hp := PipeAt.next hp hb'; have ⟨p0, p1, p2, p3, p4, p5⟩ := hp; have pq := (hb'.cell (World.block_lt_of_cell? _ _ pq)).trans pq))
          go_wp2_with (first | (go_at_call 76; refine (HF.out _ hp pq).mono ?_; rintro e w' ⟨rfl, hb'⟩; first | have hb := bnext hb hb' | have hb := bnext (bal hb _) hb' | have hb := bnext (bal (bal hb _) _) hb' | have hb := bnext (bal (bal (bal hb _) _) _) hb' | have hb := bnext (bal (bal (bal (bal hb _) _) _) _) hb' | have hb := bnext (bal (bal (bal (bal (bal hb _) _) _) _) _) hb'))
          all_goals go_ret2
          all_goals (first | exact ⟨rfl, hb⟩ | exact ⟨rfl, (bal hb _)⟩ | exact ⟨rfl, (bal (bal hb _) _)⟩ | exact ⟨rfl, (bal (bal (bal hb _) _) _)⟩)
        · have kw' : inB (widthI L q g) 20 1000 = false := by simpa using kw
          have hv : wfrV id f t L d s q g = 0 := by unfold wfrV; simp [*]
          have hc : wfrC id f t L d s q g = 3 := by unfold wfrC; simp [*]
          rw [hv, hc]
          clear hv hc
          have hcv : codeP id f t L d s true = 0 := by unfold codeP; simp [*]
          have HPC : Hid (∀ wx, Calls Tryz.prog 71 #[.agg #[.string id, .int .i64 f, .int .i64 t, .int .i64 L, .int .i64 d, .int .i64 s], .bool true] wx fun e w' => e = .returned (.int .i64 0) ∧ Below wx.heap.size wx w') := Lib.hid fun wx => by
            have := pipeCode_any id f t L d s true wx hs
            rw [hcv] at this
            exact this
          clear hcv
          have HC0 : Hid (∀ wx, Calls Tryz.prog 72 #[.int .i64 q] wx fun e w' => e = .returned (.bool true) ∧ Below wx.heap.size wx w') := Lib.hid fun wx => by
            have := isFlow_any q wx
            rw [k1] at this
            exact this
          have HC1 : Hid (∀ wx, Calls Tryz.prog 75 #[.int .i64 g] wx fun e w' => e = .returned (.bool true) ∧ Below wx.heap.size wx w') := Lib.hid fun wx => by
            have := isPressure_any g wx
            rw [k2] at this
            exact this
          obtain ⟨-, -, -, -, ⟨l0, l1⟩, ⟨d0, d1⟩, ⟨s0, s1⟩⟩ := okP_bd id f t L d s ho
          have kq := inB_iff.1 k1
          have kg := inB_iff.1 k2
          have hF := width_spec L q g (by omega)
          have kr : 1000 < widthI L q g := by
            by_cases hh : widthI L q g ≤ 1000
            · rw [inB_true ⟨hF.1, hh⟩] at kw'; cases kw'
            · omega
          have HF := Lib.hid (fun wx (h : PipeAt wx w.heap.size id f t L d s) (hq : wx.cell? ⟨w.heap.size + 1, 0, none⟩ = some (.int .i64 q)) => firstWidth_any w.heap.size (w.heap.size + 1) id f t L d s q g wx h hq (by omega) l1 kq.1 kq.2)
          have HL := Lib.hid hF
          clear hF
          generalize widthI L q g = r at *
          have hp : PipeAt ((w.alloc (.cells #[.string id, .int .i64 f, .int .i64 t, .int .i64 L, .int .i64 d, .int .i64 s] 40)).alloc (.cells #[.int .i64 q] 2)) w.heap.size id f t L d s := PipeAt.alloc (PipeAt.new w id f t L d s 40) _
          have hb : Below w.heap.size w ((w.alloc (.cells #[.string id, .int .i64 f, .int .i64 t, .int .i64 L, .int .i64 d, .int .i64 s] 40)).alloc (.cells #[.int .i64 q] 2)) := bal (bal (Below.refl _ _) _) _
          have pq : ((w.alloc (.cells #[.string id, .int .i64 f, .int .i64 t, .int .i64 L, .int .i64 d, .int .i64 s] 40)).alloc (.cells #[.int .i64 q] 2)).cell? ⟨w.heap.size + 1, 0, none⟩ = some (.int .i64 q) := by rw [World.cell?_alloc2_new]; rfl
          go_enter Tryz.func33, Tryz.ntmps33
          go_wp2_with fail
          have hb : Below w.heap.size w ((w.alloc (.cells #[.string id, .int .i64 f, .int .i64 t, .int .i64 L, .int .i64 d, .int .i64 s] 40)).alloc (.cells #[.int .i64 q] 2)).drew := below_drewN hb 1
          have hp : PipeAt ((w.alloc (.cells #[.string id, .int .i64 f, .int .i64 t, .int .i64 L, .int .i64 d, .int .i64 s] 40)).alloc (.cells #[.int .i64 q] 2)).drew w.heap.size id f t L d s := hp
          have ⟨p0, p1, p2, p3, p4, p5⟩ := hp
          go_region_held3 (fun w' => w'.cell? ⟨w.heap.size, 0, none⟩ = some (.string id) ∧ w'.cell? ⟨w.heap.size, 1, none⟩ = some (.int .i64 f) ∧ w'.cell? ⟨w.heap.size, 2, none⟩ = some (.int .i64 t) ∧ w'.cell? ⟨w.heap.size, 3, none⟩ = some (.int .i64 L) ∧ w'.cell? ⟨w.heap.size, 4, none⟩ = some (.int .i64 d) ∧ w'.cell? ⟨w.heap.size, 5, none⟩ = some (.int .i64 s) ∧ w'.cell? ⟨w.heap.size + 1, 0, none⟩ = some (.int .i64 q)) (exact ⟨p0, p1, p2, p3, p4, p5, pq⟩) (first | (go_at_call 72; (with_reducible refine (HC0.out _).mono ?_); rintro e w' ⟨rfl, hb'⟩; have hb := bnext hb hb'; have hp := PipeAt.next hp hb'; have ⟨p0, p1, p2, p3, p4, p5⟩ := hp; have pq := (hb'.cell (World.block_lt_of_cell? _ _ pq)).trans pq) | (go_at_call 75; (with_reducible refine (HC1.out _).mono ?_); rintro e w' ⟨rfl, hb'⟩; have hb := bnext hb hb'; have hp := PipeAt.next hp hb'; have ⟨p0, p1, p2, p3, p4, p5⟩ := hp; have pq := (hb'.cell (World.block_lt_of_cell? _ _ pq)).trans pq) | (go_at_call 71; refine (HPC.out _).mono ?_; rintro e w' ⟨rfl, hb'⟩; have hb := bnext hb hb'; have hp := PipeAt.next hp hb'; have ⟨p0, p1, p2, p3, p4, p5⟩ := hp; have pq := (hb'.cell (World.block_lt_of_cell? _ _ pq)).trans pq))
          go_wp2_with (first | (go_at_call 76; refine (HF.out _ hp pq).mono ?_; rintro e w' ⟨rfl, hb'⟩; first | have hb := bnext hb hb' | have hb := bnext (bal hb _) hb' | have hb := bnext (bal (bal hb _) _) hb' | have hb := bnext (bal (bal (bal hb _) _) _) hb' | have hb := bnext (bal (bal (bal (bal hb _) _) _) _) hb' | have hb := bnext (bal (bal (bal (bal (bal hb _) _) _) _) _) hb'))
          all_goals go_ret2
          all_goals (first | exact ⟨rfl, hb⟩ | exact ⟨rfl, (bal hb _)⟩ | exact ⟨rfl, (bal (bal hb _) _)⟩ | exact ⟨rfl, (bal (bal (bal hb _) _) _)⟩)
      · have k2' : inB g 0 100000000 = false := by simpa using k2
        have hv : wfrV id f t L d s q g = 0 := by unfold wfrV; simp [*]
        have hc : wfrC id f t L d s q g = 2 := by unfold wfrC; simp [*]
        rw [hv, hc]
        clear hv hc
        have hcv : codeP id f t L d s false = 2 := by unfold codeP; simp [*]
        have HPC : Hid (∀ wx, Calls Tryz.prog 71 #[.agg #[.string id, .int .i64 f, .int .i64 t, .int .i64 L, .int .i64 d, .int .i64 s], .bool false] wx fun e w' => e = .returned (.int .i64 2) ∧ Below wx.heap.size wx w') := Lib.hid fun wx => by
          have := pipeCode_any id f t L d s false wx hs
          rw [hcv] at this
          exact this
        clear hcv
        have HC0 : Hid (∀ wx, Calls Tryz.prog 72 #[.int .i64 q] wx fun e w' => e = .returned (.bool true) ∧ Below wx.heap.size wx w') := Lib.hid fun wx => by
          have := isFlow_any q wx
          rw [k1] at this
          exact this
        have HC1 : Hid (∀ wx, Calls Tryz.prog 75 #[.int .i64 g] wx fun e w' => e = .returned (.bool false) ∧ Below wx.heap.size wx w') := Lib.hid fun wx => by
          have := isPressure_any g wx
          rw [k2'] at this
          exact this
        have hp : PipeAt ((w.alloc (.cells #[.string id, .int .i64 f, .int .i64 t, .int .i64 L, .int .i64 d, .int .i64 s] 40)).alloc (.cells #[.int .i64 q] 2)) w.heap.size id f t L d s := PipeAt.alloc (PipeAt.new w id f t L d s 40) _
        have hb : Below w.heap.size w ((w.alloc (.cells #[.string id, .int .i64 f, .int .i64 t, .int .i64 L, .int .i64 d, .int .i64 s] 40)).alloc (.cells #[.int .i64 q] 2)) := bal (bal (Below.refl _ _) _) _
        have pq : ((w.alloc (.cells #[.string id, .int .i64 f, .int .i64 t, .int .i64 L, .int .i64 d, .int .i64 s] 40)).alloc (.cells #[.int .i64 q] 2)).cell? ⟨w.heap.size + 1, 0, none⟩ = some (.int .i64 q) := by rw [World.cell?_alloc2_new]; rfl
        go_enter Tryz.func33, Tryz.ntmps33
        go_wp2_with fail
        have hb : Below w.heap.size w ((w.alloc (.cells #[.string id, .int .i64 f, .int .i64 t, .int .i64 L, .int .i64 d, .int .i64 s] 40)).alloc (.cells #[.int .i64 q] 2)).drew := below_drewN hb 1
        have hp : PipeAt ((w.alloc (.cells #[.string id, .int .i64 f, .int .i64 t, .int .i64 L, .int .i64 d, .int .i64 s] 40)).alloc (.cells #[.int .i64 q] 2)).drew w.heap.size id f t L d s := hp
        have ⟨p0, p1, p2, p3, p4, p5⟩ := hp
        go_region_held3 (fun w' => w'.cell? ⟨w.heap.size, 0, none⟩ = some (.string id) ∧ w'.cell? ⟨w.heap.size, 1, none⟩ = some (.int .i64 f) ∧ w'.cell? ⟨w.heap.size, 2, none⟩ = some (.int .i64 t) ∧ w'.cell? ⟨w.heap.size, 3, none⟩ = some (.int .i64 L) ∧ w'.cell? ⟨w.heap.size, 4, none⟩ = some (.int .i64 d) ∧ w'.cell? ⟨w.heap.size, 5, none⟩ = some (.int .i64 s) ∧ w'.cell? ⟨w.heap.size + 1, 0, none⟩ = some (.int .i64 q)) (exact ⟨p0, p1, p2, p3, p4, p5, pq⟩) (first | (go_at_call 72; (with_reducible refine (HC0.out _).mono ?_); rintro e w' ⟨rfl, hb'⟩; have hb := bnext hb hb'; have hp := PipeAt.next hp hb'; have ⟨p0, p1, p2, p3, p4, p5⟩ := hp; have pq := (hb'.cell (World.block_lt_of_cell? _ _ pq)).trans pq) | (go_at_call 75; (with_reducible refine (HC1.out _).mono ?_); rintro e w' ⟨rfl, hb'⟩; have hb := bnext hb hb'; have hp := PipeAt.next hp hb'; have ⟨p0, p1, p2, p3, p4, p5⟩ := hp; have pq := (hb'.cell (World.block_lt_of_cell? _ _ pq)).trans pq) | (go_at_call 71; refine (HPC.out _).mono ?_; rintro e w' ⟨rfl, hb'⟩; have hb := bnext hb hb'; have hp := PipeAt.next hp hb'; have ⟨p0, p1, p2, p3, p4, p5⟩ := hp; have pq := (hb'.cell (World.block_lt_of_cell? _ _ pq)).trans pq))
        go_wp2
        all_goals go_ret2
        all_goals (first | exact ⟨rfl, hb⟩ | exact ⟨rfl, (bal hb _)⟩ | exact ⟨rfl, (bal (bal hb _) _)⟩ | exact ⟨rfl, (bal (bal (bal hb _) _) _)⟩)
    · have k1' : inB q (-100000) 100000 = false := by simpa using k1
      have hv : wfrV id f t L d s q g = 0 := by unfold wfrV; simp [*]
      have hc : wfrC id f t L d s q g = 2 := by unfold wfrC; simp [*]
      rw [hv, hc]
      clear hv hc
      have hcv : codeP id f t L d s false = 2 := by unfold codeP; simp [*]
      have HPC : Hid (∀ wx, Calls Tryz.prog 71 #[.agg #[.string id, .int .i64 f, .int .i64 t, .int .i64 L, .int .i64 d, .int .i64 s], .bool false] wx fun e w' => e = .returned (.int .i64 2) ∧ Below wx.heap.size wx w') := Lib.hid fun wx => by
        have := pipeCode_any id f t L d s false wx hs
        rw [hcv] at this
        exact this
      clear hcv
      have HC0 : Hid (∀ wx, Calls Tryz.prog 72 #[.int .i64 q] wx fun e w' => e = .returned (.bool false) ∧ Below wx.heap.size wx w') := Lib.hid fun wx => by
        have := isFlow_any q wx
        rw [k1'] at this
        exact this
      have hp : PipeAt ((w.alloc (.cells #[.string id, .int .i64 f, .int .i64 t, .int .i64 L, .int .i64 d, .int .i64 s] 40)).alloc (.cells #[.int .i64 q] 2)) w.heap.size id f t L d s := PipeAt.alloc (PipeAt.new w id f t L d s 40) _
      have hb : Below w.heap.size w ((w.alloc (.cells #[.string id, .int .i64 f, .int .i64 t, .int .i64 L, .int .i64 d, .int .i64 s] 40)).alloc (.cells #[.int .i64 q] 2)) := bal (bal (Below.refl _ _) _) _
      have pq : ((w.alloc (.cells #[.string id, .int .i64 f, .int .i64 t, .int .i64 L, .int .i64 d, .int .i64 s] 40)).alloc (.cells #[.int .i64 q] 2)).cell? ⟨w.heap.size + 1, 0, none⟩ = some (.int .i64 q) := by rw [World.cell?_alloc2_new]; rfl
      go_enter Tryz.func33, Tryz.ntmps33
      go_wp2_with fail
      have hb : Below w.heap.size w ((w.alloc (.cells #[.string id, .int .i64 f, .int .i64 t, .int .i64 L, .int .i64 d, .int .i64 s] 40)).alloc (.cells #[.int .i64 q] 2)).drew := below_drewN hb 1
      have hp : PipeAt ((w.alloc (.cells #[.string id, .int .i64 f, .int .i64 t, .int .i64 L, .int .i64 d, .int .i64 s] 40)).alloc (.cells #[.int .i64 q] 2)).drew w.heap.size id f t L d s := hp
      have ⟨p0, p1, p2, p3, p4, p5⟩ := hp
      refine wp_region_held_drew (S := fun w' => w'.cell? ⟨w.heap.size, 0, none⟩ = some (.string id) ∧ w'.cell? ⟨w.heap.size, 1, none⟩ = some (.int .i64 f) ∧ w'.cell? ⟨w.heap.size, 2, none⟩ = some (.int .i64 t) ∧ w'.cell? ⟨w.heap.size, 3, none⟩ = some (.int .i64 L) ∧ w'.cell? ⟨w.heap.size, 4, none⟩ = some (.int .i64 d) ∧ w'.cell? ⟨w.heap.size, 5, none⟩ = some (.int .i64 s) ∧ w'.cell? ⟨w.heap.size + 1, 0, none⟩ = some (.int .i64 q)) (by kernel_rfl) (⟨p0, p1, p2, p3, p4, p5, pq⟩) (fun hHeld => ?_)
      refine wpAnyH_take (i := 0) (v := .agg #[.string id, .int .i64 f, .int .i64 t, .int .i64 L, .int .i64 d, .int .i64 s]) rfl (by kernel_rfl) (by kernel_rfl) (by kernel_rfl) (fun _ _ _ h => h) (Or.inl ⟨by rfl, ?_⟩) (by assumption) ?_
      · intro wz hSw
        (try dsimp only at hSw)
        go_split_ands
        go_simp
      try simp only [Act.put, List.setIfInBounds_toArray, List.set_cons_zero, List.set_cons_succ]
      refine wpAnyH_take (i := 1) (v := .int .i64 q) rfl (by kernel_rfl) (by kernel_rfl) (by kernel_rfl) (fun _ _ _ h => h) (Or.inl ⟨by rfl, ?_⟩) (by assumption) ?_
      · intro wz hSw
        (try dsimp only at hSw)
        go_split_ands
        go_simp
      try simp only [Act.put, List.setIfInBounds_toArray, List.set_cons_zero, List.set_cons_succ]
      refine wpAnyH_ready (rs := [2]) (by kernel_rfl) (by simp) ?_
      refine AllReadyH.cons rfl (fun K hK => ?_) AllReadyH.nil
      go_simp
      (first | (go_at_call 72; (with_reducible refine (HC0.out _).mono ?_); rintro e w' ⟨rfl, hb'⟩; have hb := bnext hb hb'; have hp := PipeAt.next hp hb'; have ⟨p0, p1, p2, p3, p4, p5⟩ := hp; have pq := (hb'.cell (World.block_lt_of_cell? _ _ pq)).trans pq) | (go_at_call 71; refine (HPC.out _).mono ?_; rintro e w' ⟨rfl, hb'⟩; have hb := bnext hb hb'; have hp := PipeAt.next hp hb'; have ⟨p0, p1, p2, p3, p4, p5⟩ := hp; have pq := (hb'.cell (World.block_lt_of_cell? _ _ pq)).trans pq))
      go_wp2_with fail
      refine hK.out _ _ (⟨p0, p1, p2, p3, p4, p5, pq⟩) (fun hHeld => ?_)
      clear hK K
      try simp only [Act.put, List.setIfInBounds_toArray, List.set_cons_zero, List.set_cons_succ]
      refine wpAnyH_take (i := 3) (v := .bool false) rfl (by kernel_rfl) (by kernel_rfl) (by kernel_rfl) (fun _ _ _ h => h) (Or.inl ⟨by rfl, ?_⟩) (by assumption) ?_
      · intro wz hSw
        (try dsimp only at hSw)
        go_split_ands
        go_simp
      try simp only [Act.put, List.setIfInBounds_toArray, List.set_cons_zero, List.set_cons_succ]
      refine wpAnyH_take (i := 4) (v := undef) rfl (by kernel_rfl) (by kernel_rfl) (by kernel_rfl) (fun _ _ _ h => h) (Or.inr ⟨by rfl, rfl⟩) (by assumption) ?_
      try simp only [Act.put, List.setIfInBounds_toArray, List.set_cons_zero, List.set_cons_succ]
      refine wpAnyH_take (i := 5) (v := undef) rfl (by kernel_rfl) (by kernel_rfl) (by kernel_rfl) (fun _ _ _ h => h) (Or.inr ⟨by rfl, rfl⟩) (by assumption) ?_
      try simp only [Act.put, List.setIfInBounds_toArray, List.set_cons_zero, List.set_cons_succ]
      refine wpAnyH_take (i := 6) (v := .bool false) rfl (by kernel_rfl) (by kernel_rfl) (by kernel_rfl) (fun _ _ _ h => h) (Or.inl ⟨by rfl, ?_⟩) (by assumption) ?_
      · intro wz hSw
        (try dsimp only at hSw)
        go_split_ands
        go_simp
      try simp only [Act.put, List.setIfInBounds_toArray, List.set_cons_zero, List.set_cons_succ]
      refine wpAnyH_ready (rs := [7]) (by kernel_rfl) (by simp) ?_
      refine AllReadyH.cons rfl (fun K hK => ?_) AllReadyH.nil
      go_simp
      (first | (go_at_call 72; (with_reducible refine (HC0.out _).mono ?_); rintro e w' ⟨rfl, hb'⟩; have hb := bnext hb hb'; have hp := PipeAt.next hp hb'; have ⟨p0, p1, p2, p3, p4, p5⟩ := hp; have pq := (hb'.cell (World.block_lt_of_cell? _ _ pq)).trans pq) | (go_at_call 71; refine (HPC.out _).mono ?_; rintro e w' ⟨rfl, hb'⟩; have hb := bnext hb hb'; have hp := PipeAt.next hp hb'; have ⟨p0, p1, p2, p3, p4, p5⟩ := hp; have pq := (hb'.cell (World.block_lt_of_cell? _ _ pq)).trans pq))
      go_wp2_with fail
      refine hK.out _ _ (⟨p0, p1, p2, p3, p4, p5, pq⟩) (fun hHeld => ?_)
      clear hK K
      try simp only [Act.put, List.setIfInBounds_toArray, List.set_cons_zero, List.set_cons_succ]
      refine wpAnyH_take (i := 8) (v := .int .i64 2) rfl (by kernel_rfl) (by kernel_rfl) (by kernel_rfl) (fun _ _ _ h => h) (Or.inl ⟨by rfl, ?_⟩) (by assumption) ?_
      · intro wz hSw
        (try dsimp only at hSw)
        go_split_ands
        go_simp
      try simp only [Act.put, List.setIfInBounds_toArray, List.set_cons_zero, List.set_cons_succ]
      refine wpAnyH_done (by kernel_rfl) ?_ _
      go_wp2
      all_goals go_ret2
      all_goals (first | exact ⟨rfl, hb⟩ | exact ⟨rfl, (bal hb _)⟩ | exact ⟨rfl, (bal (bal hb _) _)⟩ | exact ⟨rfl, (bal (bal (bal hb _) _) _)⟩)
  · have ho' : okP id f t L d s = false := by simpa using ho
    by_cases k1 : inB q (-100000) 100000 = true
    · skip
      by_cases k2 : inB g 0 100000000 = true
      · skip
        have hv : wfrV id f t L d s q g = 0 := by unfold wfrV; simp [*]
        have hc : wfrC id f t L d s q g = 1 := by unfold wfrC; simp [*]
        rw [hv, hc]
        clear hv hc
        have hcv : codeP id f t L d s true = 1 := by unfold codeP; simp [*]
        have HPC : Hid (∀ wx, Calls Tryz.prog 71 #[.agg #[.string id, .int .i64 f, .int .i64 t, .int .i64 L, .int .i64 d, .int .i64 s], .bool true] wx fun e w' => e = .returned (.int .i64 1) ∧ Below wx.heap.size wx w') := Lib.hid fun wx => by
          have := pipeCode_any id f t L d s true wx hs
          rw [hcv] at this
          exact this
        clear hcv
        have HC0 : Hid (∀ wx, Calls Tryz.prog 72 #[.int .i64 q] wx fun e w' => e = .returned (.bool true) ∧ Below wx.heap.size wx w') := Lib.hid fun wx => by
          have := isFlow_any q wx
          rw [k1] at this
          exact this
        have HC1 : Hid (∀ wx, Calls Tryz.prog 75 #[.int .i64 g] wx fun e w' => e = .returned (.bool true) ∧ Below wx.heap.size wx w') := Lib.hid fun wx => by
          have := isPressure_any g wx
          rw [k2] at this
          exact this
        have hp : PipeAt ((w.alloc (.cells #[.string id, .int .i64 f, .int .i64 t, .int .i64 L, .int .i64 d, .int .i64 s] 40)).alloc (.cells #[.int .i64 q] 2)) w.heap.size id f t L d s := PipeAt.alloc (PipeAt.new w id f t L d s 40) _
        have hb : Below w.heap.size w ((w.alloc (.cells #[.string id, .int .i64 f, .int .i64 t, .int .i64 L, .int .i64 d, .int .i64 s] 40)).alloc (.cells #[.int .i64 q] 2)) := bal (bal (Below.refl _ _) _) _
        have pq : ((w.alloc (.cells #[.string id, .int .i64 f, .int .i64 t, .int .i64 L, .int .i64 d, .int .i64 s] 40)).alloc (.cells #[.int .i64 q] 2)).cell? ⟨w.heap.size + 1, 0, none⟩ = some (.int .i64 q) := by rw [World.cell?_alloc2_new]; rfl
        go_enter Tryz.func33, Tryz.ntmps33
        go_wp2_with fail
        have hb : Below w.heap.size w ((w.alloc (.cells #[.string id, .int .i64 f, .int .i64 t, .int .i64 L, .int .i64 d, .int .i64 s] 40)).alloc (.cells #[.int .i64 q] 2)).drew := below_drewN hb 1
        have hp : PipeAt ((w.alloc (.cells #[.string id, .int .i64 f, .int .i64 t, .int .i64 L, .int .i64 d, .int .i64 s] 40)).alloc (.cells #[.int .i64 q] 2)).drew w.heap.size id f t L d s := hp
        have ⟨p0, p1, p2, p3, p4, p5⟩ := hp
        go_region_held3 (fun w' => w'.cell? ⟨w.heap.size, 0, none⟩ = some (.string id) ∧ w'.cell? ⟨w.heap.size, 1, none⟩ = some (.int .i64 f) ∧ w'.cell? ⟨w.heap.size, 2, none⟩ = some (.int .i64 t) ∧ w'.cell? ⟨w.heap.size, 3, none⟩ = some (.int .i64 L) ∧ w'.cell? ⟨w.heap.size, 4, none⟩ = some (.int .i64 d) ∧ w'.cell? ⟨w.heap.size, 5, none⟩ = some (.int .i64 s) ∧ w'.cell? ⟨w.heap.size + 1, 0, none⟩ = some (.int .i64 q)) (exact ⟨p0, p1, p2, p3, p4, p5, pq⟩) (first | (go_at_call 72; (with_reducible refine (HC0.out _).mono ?_); rintro e w' ⟨rfl, hb'⟩; have hb := bnext hb hb'; have hp := PipeAt.next hp hb'; have ⟨p0, p1, p2, p3, p4, p5⟩ := hp; have pq := (hb'.cell (World.block_lt_of_cell? _ _ pq)).trans pq) | (go_at_call 75; (with_reducible refine (HC1.out _).mono ?_); rintro e w' ⟨rfl, hb'⟩; have hb := bnext hb hb'; have hp := PipeAt.next hp hb'; have ⟨p0, p1, p2, p3, p4, p5⟩ := hp; have pq := (hb'.cell (World.block_lt_of_cell? _ _ pq)).trans pq) | (go_at_call 71; refine (HPC.out _).mono ?_; rintro e w' ⟨rfl, hb'⟩; have hb := bnext hb hb'; have hp := PipeAt.next hp hb'; have ⟨p0, p1, p2, p3, p4, p5⟩ := hp; have pq := (hb'.cell (World.block_lt_of_cell? _ _ pq)).trans pq))
        go_wp2
        all_goals go_ret2
        all_goals (first | exact ⟨rfl, hb⟩ | exact ⟨rfl, (bal hb _)⟩ | exact ⟨rfl, (bal (bal hb _) _)⟩ | exact ⟨rfl, (bal (bal (bal hb _) _) _)⟩)
      · have k2' : inB g 0 100000000 = false := by simpa using k2
        have hv : wfrV id f t L d s q g = 0 := by unfold wfrV; simp [*]
        have hc : wfrC id f t L d s q g = 1 := by unfold wfrC; simp [*]
        rw [hv, hc]
        clear hv hc
        have hcv : codeP id f t L d s false = 1 := by unfold codeP; simp [*]
        have HPC : Hid (∀ wx, Calls Tryz.prog 71 #[.agg #[.string id, .int .i64 f, .int .i64 t, .int .i64 L, .int .i64 d, .int .i64 s], .bool false] wx fun e w' => e = .returned (.int .i64 1) ∧ Below wx.heap.size wx w') := Lib.hid fun wx => by
          have := pipeCode_any id f t L d s false wx hs
          rw [hcv] at this
          exact this
        clear hcv
        have HC0 : Hid (∀ wx, Calls Tryz.prog 72 #[.int .i64 q] wx fun e w' => e = .returned (.bool true) ∧ Below wx.heap.size wx w') := Lib.hid fun wx => by
          have := isFlow_any q wx
          rw [k1] at this
          exact this
        have HC1 : Hid (∀ wx, Calls Tryz.prog 75 #[.int .i64 g] wx fun e w' => e = .returned (.bool false) ∧ Below wx.heap.size wx w') := Lib.hid fun wx => by
          have := isPressure_any g wx
          rw [k2'] at this
          exact this
        have hp : PipeAt ((w.alloc (.cells #[.string id, .int .i64 f, .int .i64 t, .int .i64 L, .int .i64 d, .int .i64 s] 40)).alloc (.cells #[.int .i64 q] 2)) w.heap.size id f t L d s := PipeAt.alloc (PipeAt.new w id f t L d s 40) _
        have hb : Below w.heap.size w ((w.alloc (.cells #[.string id, .int .i64 f, .int .i64 t, .int .i64 L, .int .i64 d, .int .i64 s] 40)).alloc (.cells #[.int .i64 q] 2)) := bal (bal (Below.refl _ _) _) _
        have pq : ((w.alloc (.cells #[.string id, .int .i64 f, .int .i64 t, .int .i64 L, .int .i64 d, .int .i64 s] 40)).alloc (.cells #[.int .i64 q] 2)).cell? ⟨w.heap.size + 1, 0, none⟩ = some (.int .i64 q) := by rw [World.cell?_alloc2_new]; rfl
        go_enter Tryz.func33, Tryz.ntmps33
        go_wp2_with fail
        have hb : Below w.heap.size w ((w.alloc (.cells #[.string id, .int .i64 f, .int .i64 t, .int .i64 L, .int .i64 d, .int .i64 s] 40)).alloc (.cells #[.int .i64 q] 2)).drew := below_drewN hb 1
        have hp : PipeAt ((w.alloc (.cells #[.string id, .int .i64 f, .int .i64 t, .int .i64 L, .int .i64 d, .int .i64 s] 40)).alloc (.cells #[.int .i64 q] 2)).drew w.heap.size id f t L d s := hp
        have ⟨p0, p1, p2, p3, p4, p5⟩ := hp
        go_region_held3 (fun w' => w'.cell? ⟨w.heap.size, 0, none⟩ = some (.string id) ∧ w'.cell? ⟨w.heap.size, 1, none⟩ = some (.int .i64 f) ∧ w'.cell? ⟨w.heap.size, 2, none⟩ = some (.int .i64 t) ∧ w'.cell? ⟨w.heap.size, 3, none⟩ = some (.int .i64 L) ∧ w'.cell? ⟨w.heap.size, 4, none⟩ = some (.int .i64 d) ∧ w'.cell? ⟨w.heap.size, 5, none⟩ = some (.int .i64 s) ∧ w'.cell? ⟨w.heap.size + 1, 0, none⟩ = some (.int .i64 q)) (exact ⟨p0, p1, p2, p3, p4, p5, pq⟩) (first | (go_at_call 72; (with_reducible refine (HC0.out _).mono ?_); rintro e w' ⟨rfl, hb'⟩; have hb := bnext hb hb'; have hp := PipeAt.next hp hb'; have ⟨p0, p1, p2, p3, p4, p5⟩ := hp; have pq := (hb'.cell (World.block_lt_of_cell? _ _ pq)).trans pq) | (go_at_call 75; (with_reducible refine (HC1.out _).mono ?_); rintro e w' ⟨rfl, hb'⟩; have hb := bnext hb hb'; have hp := PipeAt.next hp hb'; have ⟨p0, p1, p2, p3, p4, p5⟩ := hp; have pq := (hb'.cell (World.block_lt_of_cell? _ _ pq)).trans pq) | (go_at_call 71; refine (HPC.out _).mono ?_; rintro e w' ⟨rfl, hb'⟩; have hb := bnext hb hb'; have hp := PipeAt.next hp hb'; have ⟨p0, p1, p2, p3, p4, p5⟩ := hp; have pq := (hb'.cell (World.block_lt_of_cell? _ _ pq)).trans pq))
        go_wp2
        all_goals go_ret2
        all_goals (first | exact ⟨rfl, hb⟩ | exact ⟨rfl, (bal hb _)⟩ | exact ⟨rfl, (bal (bal hb _) _)⟩ | exact ⟨rfl, (bal (bal (bal hb _) _) _)⟩)
    · have k1' : inB q (-100000) 100000 = false := by simpa using k1
      have hv : wfrV id f t L d s q g = 0 := by unfold wfrV; simp [*]
      have hc : wfrC id f t L d s q g = 1 := by unfold wfrC; simp [*]
      rw [hv, hc]
      clear hv hc
      have hcv : codeP id f t L d s false = 1 := by unfold codeP; simp [*]
      have HPC : Hid (∀ wx, Calls Tryz.prog 71 #[.agg #[.string id, .int .i64 f, .int .i64 t, .int .i64 L, .int .i64 d, .int .i64 s], .bool false] wx fun e w' => e = .returned (.int .i64 1) ∧ Below wx.heap.size wx w') := Lib.hid fun wx => by
        have := pipeCode_any id f t L d s false wx hs
        rw [hcv] at this
        exact this
      clear hcv
      have HC0 : Hid (∀ wx, Calls Tryz.prog 72 #[.int .i64 q] wx fun e w' => e = .returned (.bool false) ∧ Below wx.heap.size wx w') := Lib.hid fun wx => by
        have := isFlow_any q wx
        rw [k1'] at this
        exact this
      have hp : PipeAt ((w.alloc (.cells #[.string id, .int .i64 f, .int .i64 t, .int .i64 L, .int .i64 d, .int .i64 s] 40)).alloc (.cells #[.int .i64 q] 2)) w.heap.size id f t L d s := PipeAt.alloc (PipeAt.new w id f t L d s 40) _
      have hb : Below w.heap.size w ((w.alloc (.cells #[.string id, .int .i64 f, .int .i64 t, .int .i64 L, .int .i64 d, .int .i64 s] 40)).alloc (.cells #[.int .i64 q] 2)) := bal (bal (Below.refl _ _) _) _
      have pq : ((w.alloc (.cells #[.string id, .int .i64 f, .int .i64 t, .int .i64 L, .int .i64 d, .int .i64 s] 40)).alloc (.cells #[.int .i64 q] 2)).cell? ⟨w.heap.size + 1, 0, none⟩ = some (.int .i64 q) := by rw [World.cell?_alloc2_new]; rfl
      go_enter Tryz.func33, Tryz.ntmps33
      go_wp2_with fail
      have hb : Below w.heap.size w ((w.alloc (.cells #[.string id, .int .i64 f, .int .i64 t, .int .i64 L, .int .i64 d, .int .i64 s] 40)).alloc (.cells #[.int .i64 q] 2)).drew := below_drewN hb 1
      have hp : PipeAt ((w.alloc (.cells #[.string id, .int .i64 f, .int .i64 t, .int .i64 L, .int .i64 d, .int .i64 s] 40)).alloc (.cells #[.int .i64 q] 2)).drew w.heap.size id f t L d s := hp
      have ⟨p0, p1, p2, p3, p4, p5⟩ := hp
      refine wp_region_held_drew (S := fun w' => w'.cell? ⟨w.heap.size, 0, none⟩ = some (.string id) ∧ w'.cell? ⟨w.heap.size, 1, none⟩ = some (.int .i64 f) ∧ w'.cell? ⟨w.heap.size, 2, none⟩ = some (.int .i64 t) ∧ w'.cell? ⟨w.heap.size, 3, none⟩ = some (.int .i64 L) ∧ w'.cell? ⟨w.heap.size, 4, none⟩ = some (.int .i64 d) ∧ w'.cell? ⟨w.heap.size, 5, none⟩ = some (.int .i64 s) ∧ w'.cell? ⟨w.heap.size + 1, 0, none⟩ = some (.int .i64 q)) (by kernel_rfl) (⟨p0, p1, p2, p3, p4, p5, pq⟩) (fun hHeld => ?_)
      refine wpAnyH_take (i := 0) (v := .agg #[.string id, .int .i64 f, .int .i64 t, .int .i64 L, .int .i64 d, .int .i64 s]) rfl (by kernel_rfl) (by kernel_rfl) (by kernel_rfl) (fun _ _ _ h => h) (Or.inl ⟨by rfl, ?_⟩) (by assumption) ?_
      · intro wz hSw
        (try dsimp only at hSw)
        go_split_ands
        go_simp
      try simp only [Act.put, List.setIfInBounds_toArray, List.set_cons_zero, List.set_cons_succ]
      refine wpAnyH_take (i := 1) (v := .int .i64 q) rfl (by kernel_rfl) (by kernel_rfl) (by kernel_rfl) (fun _ _ _ h => h) (Or.inl ⟨by rfl, ?_⟩) (by assumption) ?_
      · intro wz hSw
        (try dsimp only at hSw)
        go_split_ands
        go_simp
      try simp only [Act.put, List.setIfInBounds_toArray, List.set_cons_zero, List.set_cons_succ]
      refine wpAnyH_ready (rs := [2]) (by kernel_rfl) (by simp) ?_
      refine AllReadyH.cons rfl (fun K hK => ?_) AllReadyH.nil
      go_simp
      (first | (go_at_call 72; (with_reducible refine (HC0.out _).mono ?_); rintro e w' ⟨rfl, hb'⟩; have hb := bnext hb hb'; have hp := PipeAt.next hp hb'; have ⟨p0, p1, p2, p3, p4, p5⟩ := hp; have pq := (hb'.cell (World.block_lt_of_cell? _ _ pq)).trans pq) | (go_at_call 71; refine (HPC.out _).mono ?_; rintro e w' ⟨rfl, hb'⟩; have hb := bnext hb hb'; have hp := PipeAt.next hp hb'; have ⟨p0, p1, p2, p3, p4, p5⟩ := hp; have pq := (hb'.cell (World.block_lt_of_cell? _ _ pq)).trans pq))
      go_wp2_with fail
      refine hK.out _ _ (⟨p0, p1, p2, p3, p4, p5, pq⟩) (fun hHeld => ?_)
      clear hK K
      try simp only [Act.put, List.setIfInBounds_toArray, List.set_cons_zero, List.set_cons_succ]
      refine wpAnyH_take (i := 3) (v := .bool false) rfl (by kernel_rfl) (by kernel_rfl) (by kernel_rfl) (fun _ _ _ h => h) (Or.inl ⟨by rfl, ?_⟩) (by assumption) ?_
      · intro wz hSw
        (try dsimp only at hSw)
        go_split_ands
        go_simp
      try simp only [Act.put, List.setIfInBounds_toArray, List.set_cons_zero, List.set_cons_succ]
      refine wpAnyH_take (i := 4) (v := undef) rfl (by kernel_rfl) (by kernel_rfl) (by kernel_rfl) (fun _ _ _ h => h) (Or.inr ⟨by rfl, rfl⟩) (by assumption) ?_
      try simp only [Act.put, List.setIfInBounds_toArray, List.set_cons_zero, List.set_cons_succ]
      refine wpAnyH_take (i := 5) (v := undef) rfl (by kernel_rfl) (by kernel_rfl) (by kernel_rfl) (fun _ _ _ h => h) (Or.inr ⟨by rfl, rfl⟩) (by assumption) ?_
      try simp only [Act.put, List.setIfInBounds_toArray, List.set_cons_zero, List.set_cons_succ]
      refine wpAnyH_take (i := 6) (v := .bool false) rfl (by kernel_rfl) (by kernel_rfl) (by kernel_rfl) (fun _ _ _ h => h) (Or.inl ⟨by rfl, ?_⟩) (by assumption) ?_
      · intro wz hSw
        (try dsimp only at hSw)
        go_split_ands
        go_simp
      try simp only [Act.put, List.setIfInBounds_toArray, List.set_cons_zero, List.set_cons_succ]
      refine wpAnyH_ready (rs := [7]) (by kernel_rfl) (by simp) ?_
      refine AllReadyH.cons rfl (fun K hK => ?_) AllReadyH.nil
      go_simp
      (first | (go_at_call 72; (with_reducible refine (HC0.out _).mono ?_); rintro e w' ⟨rfl, hb'⟩; have hb := bnext hb hb'; have hp := PipeAt.next hp hb'; have ⟨p0, p1, p2, p3, p4, p5⟩ := hp; have pq := (hb'.cell (World.block_lt_of_cell? _ _ pq)).trans pq) | (go_at_call 71; refine (HPC.out _).mono ?_; rintro e w' ⟨rfl, hb'⟩; have hb := bnext hb hb'; have hp := PipeAt.next hp hb'; have ⟨p0, p1, p2, p3, p4, p5⟩ := hp; have pq := (hb'.cell (World.block_lt_of_cell? _ _ pq)).trans pq))
      go_wp2_with fail
      refine hK.out _ _ (⟨p0, p1, p2, p3, p4, p5, pq⟩) (fun hHeld => ?_)
      clear hK K
      try simp only [Act.put, List.setIfInBounds_toArray, List.set_cons_zero, List.set_cons_succ]
      refine wpAnyH_take (i := 8) (v := .int .i64 1) rfl (by kernel_rfl) (by kernel_rfl) (by kernel_rfl) (fun _ _ _ h => h) (Or.inl ⟨by rfl, ?_⟩) (by assumption) ?_
      · intro wz hSw
        (try dsimp only at hSw)
        go_split_ands
        go_simp
      try simp only [Act.put, List.setIfInBounds_toArray, List.set_cons_zero, List.set_cons_succ]
      refine wpAnyH_done (by kernel_rfl) ?_ _
      go_wp2
      all_goals go_ret2
      all_goals (first | exact ⟨rfl, hb⟩ | exact ⟨rfl, (bal hb _)⟩ | exact ⟨rfl, (bal (bal hb _) _)⟩ | exact ⟨rfl, (bal (bal (bal hb _) _) _)⟩)

end Go.Proofs.YtmopnkkpcgiafabGreatDoor
