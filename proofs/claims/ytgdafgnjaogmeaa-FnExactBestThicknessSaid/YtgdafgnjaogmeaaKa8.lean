/-
  BestThickness of both sides.
-/
import Derived.Test.YtgdafgnjaogmeaaKa7
namespace Go.Proofs.Ytgdafgnjaogmeaa
open Go.ChangeShapes Go.WideShapes Go.ChangeAt Go.RowKit Go.Shelf
set_option linter.unusedSimpArgs false
set_option maxRecDepth 100000
set_option maxHeartbeats 6400000
set_option linter.unusedVariables false


def btB (k c h y a g : Int) : Bool := inB k 1 1000 && (inB c 0 1000 && (inB h 0 1000 && (inB y 1 100 && climB a g)))
def btX (L d k c h y a g : Int) : Int × Int := leastTo (thickF L d k c h y a g) 1 299
def btC (id : ByteArray) (f t L d s : Int) (k c h y a g : Int) : Int := codeP id f t L d s (btB k c h y a g)
def btV (id : ByteArray) (f t L d s : Int) (k c h y a g : Int) : Int := if btC id f t L d s k c h y a g = 0 then (btX L d k c h y a g).1 else 0
def btW (id : ByteArray) (f t L d s : Int) (k c h y a g : Int) : Int := if btC id f t L d s k c h y a g = 0 then (btX L d k c h y a g).2 else 0
theorem thickF_bd (L d k c h y a g n : Int) (l0 : 0 ≤ L) (l1 : L ≤ 10000) (n0 : 1 ≤ n) (n1 : n ≤ 300) (c0 : 0 ≤ c) (c1 : c ≤ 1000) (h0 : 0 ≤ h) (h1 : h ≤ 1000) (y0 : 0 ≤ y) (y1 : y ≤ 100) (a1 : a ≤ 20000) (g0 : -5000 ≤ g) : 0 ≤ thickF L d k c h y a g n ∧ thickF L d k c h y a g n ≤ 19960000000 := by
  have hcb := coatI_bd d n k
  have h2 := coatCost_bd L n c l0 l1 n0 n1 c0 c1
  have h3 := heat_bd (lossI (coatI d n k) L a g) h y (loss_le _ L a g (by omega) (by omega) l0 l1 a1 g0) h0 h1 y0 y1
  unfold thickF
  omega
theorem code_leaf (id : ByteArray) (f t L d s : Int) (k c h y a g : Int) (v : Int) (hx : codeP id f t L d s (btB k c h y a g) = v) (hv : v ≠ 0) : btV id f t L d s k c h y a g = 0 ∧ btW id f t L d s k c h y a g = 0 ∧ btC id f t L d s k c h y a g = v := by
  refine ⟨?_, ?_, hx⟩
  · unfold btV btC; rw [hx, if_neg hv]
  · unfold btW btC; rw [hx, if_neg hv]
theorem code_main (id : ByteArray) (f t L d s : Int) (k c h y a g : Int) (hx : codeP id f t L d s (btB k c h y a g) = 0) : btV id f t L d s k c h y a g = (btX L d k c h y a g).1 ∧ btW id f t L d s k c h y a g = (btX L d k c h y a g).2 ∧ btC id f t L d s k c h y a g = 0 := by
  refine ⟨?_, ?_, hx⟩
  · unfold btV btC; rw [hx, if_pos rfl]
  · unfold btW btC; rw [hx, if_pos rfl]

set_option maxHeartbeats 6400000 in
theorem implBestThickness_any (id : ByteArray) (f t L d s : Int) (k c h y a g : Int) (w : World) (hs : id.size ≤ maxLen) : Calls Try.prog 37 #[.agg #[.string id, .int .i64 f, .int .i64 t, .int .i64 L, .int .i64 d, .int .i64 s], .int .i64 k, .int .i64 c, .int .i64 h, .int .i64 y, .int .i64 a, .int .i64 g] w fun e w' => e = .returned (.tuple #[.int .i64 (btV id f t L d s k c h y a g), .int .i64 (btW id f t L d s k c h y a g), .int .i64 (btC id f t L d s k c h y a g)]) ∧ Below w.heap.size w w' := by
  have hb : Below w.heap.size w ((((((w.alloc (.cells #[.string id, .int .i64 f, .int .i64 t, .int .i64 L, .int .i64 d, .int .i64 s] 29)).alloc (.cells #[.int .i64 k] 2)).alloc (.cells #[.int .i64 c] 2)).alloc (.cells #[.int .i64 h] 2)).alloc (.cells #[.int .i64 y] 2)).alloc (.cells #[.int .i64 a, .int .i64 g] 87)) := (bal (bal (bal (bal (bal (bal (Below.refl _ _) _) _) _) _) _) _)
  have hp : PipeAt ((((((w.alloc (.cells #[.string id, .int .i64 f, .int .i64 t, .int .i64 L, .int .i64 d, .int .i64 s] 29)).alloc (.cells #[.int .i64 k] 2)).alloc (.cells #[.int .i64 c] 2)).alloc (.cells #[.int .i64 h] 2)).alloc (.cells #[.int .i64 y] 2)).alloc (.cells #[.int .i64 a, .int .i64 g] 87)) w.heap.size id f t L d s := (PipeAt.new w id f t L d s 29).next (bal (bal (bal (bal (bal (Below.refl _ _) _) _) _) _) _)
  have e0 : (w.alloc (.cells #[.string id, .int .i64 f, .int .i64 t, .int .i64 L, .int .i64 d, .int .i64 s] 29)).heap.size = w.heap.size + 1 := by simp
  have qk : One ((((((w.alloc (.cells #[.string id, .int .i64 f, .int .i64 t, .int .i64 L, .int .i64 d, .int .i64 s] 29)).alloc (.cells #[.int .i64 k] 2)).alloc (.cells #[.int .i64 c] 2)).alloc (.cells #[.int .i64 h] 2)).alloc (.cells #[.int .i64 y] 2)).alloc (.cells #[.int .i64 a, .int .i64 g] 87)) (w.heap.size + 1) (.int .i64 k) := by rw [← e0]; exact (One.new (w.alloc (.cells #[.string id, .int .i64 f, .int .i64 t, .int .i64 L, .int .i64 d, .int .i64 s] 29)) _ _).next (bal (bal (bal (bal (Below.refl _ _) _) _) _) _)
  have e1 : ((w.alloc (.cells #[.string id, .int .i64 f, .int .i64 t, .int .i64 L, .int .i64 d, .int .i64 s] 29)).alloc (.cells #[.int .i64 k] 2)).heap.size = w.heap.size + 2 := by simp
  have qp : One ((((((w.alloc (.cells #[.string id, .int .i64 f, .int .i64 t, .int .i64 L, .int .i64 d, .int .i64 s] 29)).alloc (.cells #[.int .i64 k] 2)).alloc (.cells #[.int .i64 c] 2)).alloc (.cells #[.int .i64 h] 2)).alloc (.cells #[.int .i64 y] 2)).alloc (.cells #[.int .i64 a, .int .i64 g] 87)) (w.heap.size + 2) (.int .i64 c) := by rw [← e1]; exact (One.new ((w.alloc (.cells #[.string id, .int .i64 f, .int .i64 t, .int .i64 L, .int .i64 d, .int .i64 s] 29)).alloc (.cells #[.int .i64 k] 2)) _ _).next (bal (bal (bal (Below.refl _ _) _) _) _)
  have e2 : (((w.alloc (.cells #[.string id, .int .i64 f, .int .i64 t, .int .i64 L, .int .i64 d, .int .i64 s] 29)).alloc (.cells #[.int .i64 k] 2)).alloc (.cells #[.int .i64 c] 2)).heap.size = w.heap.size + 3 := by simp
  have qh : One ((((((w.alloc (.cells #[.string id, .int .i64 f, .int .i64 t, .int .i64 L, .int .i64 d, .int .i64 s] 29)).alloc (.cells #[.int .i64 k] 2)).alloc (.cells #[.int .i64 c] 2)).alloc (.cells #[.int .i64 h] 2)).alloc (.cells #[.int .i64 y] 2)).alloc (.cells #[.int .i64 a, .int .i64 g] 87)) (w.heap.size + 3) (.int .i64 h) := by rw [← e2]; exact (One.new (((w.alloc (.cells #[.string id, .int .i64 f, .int .i64 t, .int .i64 L, .int .i64 d, .int .i64 s] 29)).alloc (.cells #[.int .i64 k] 2)).alloc (.cells #[.int .i64 c] 2)) _ _).next (bal (bal (Below.refl _ _) _) _)
  have e3 : ((((w.alloc (.cells #[.string id, .int .i64 f, .int .i64 t, .int .i64 L, .int .i64 d, .int .i64 s] 29)).alloc (.cells #[.int .i64 k] 2)).alloc (.cells #[.int .i64 c] 2)).alloc (.cells #[.int .i64 h] 2)).heap.size = w.heap.size + 4 := by simp
  have qy : One ((((((w.alloc (.cells #[.string id, .int .i64 f, .int .i64 t, .int .i64 L, .int .i64 d, .int .i64 s] 29)).alloc (.cells #[.int .i64 k] 2)).alloc (.cells #[.int .i64 c] 2)).alloc (.cells #[.int .i64 h] 2)).alloc (.cells #[.int .i64 y] 2)).alloc (.cells #[.int .i64 a, .int .i64 g] 87)) (w.heap.size + 4) (.int .i64 y) := by rw [← e3]; exact (One.new ((((w.alloc (.cells #[.string id, .int .i64 f, .int .i64 t, .int .i64 L, .int .i64 d, .int .i64 s] 29)).alloc (.cells #[.int .i64 k] 2)).alloc (.cells #[.int .i64 c] 2)).alloc (.cells #[.int .i64 h] 2)) _ _).next (bal (Below.refl _ _) _)
  have e4 : (((((w.alloc (.cells #[.string id, .int .i64 f, .int .i64 t, .int .i64 L, .int .i64 d, .int .i64 s] 29)).alloc (.cells #[.int .i64 k] 2)).alloc (.cells #[.int .i64 c] 2)).alloc (.cells #[.int .i64 h] 2)).alloc (.cells #[.int .i64 y] 2)).heap.size = w.heap.size + 5 := by simp
  have qc : Two ((((((w.alloc (.cells #[.string id, .int .i64 f, .int .i64 t, .int .i64 L, .int .i64 d, .int .i64 s] 29)).alloc (.cells #[.int .i64 k] 2)).alloc (.cells #[.int .i64 c] 2)).alloc (.cells #[.int .i64 h] 2)).alloc (.cells #[.int .i64 y] 2)).alloc (.cells #[.int .i64 a, .int .i64 g] 87)) (w.heap.size + 5) (.int .i64 a) (.int .i64 g) := by rw [← e4]; exact Two.new (((((w.alloc (.cells #[.string id, .int .i64 f, .int .i64 t, .int .i64 L, .int .i64 d, .int .i64 s] 29)).alloc (.cells #[.int .i64 k] 2)).alloc (.cells #[.int .i64 c] 2)).alloc (.cells #[.int .i64 h] 2)).alloc (.cells #[.int .i64 y] 2)) _ _ _
  clear e0 e1 e2 e3 e4
  have HK := Lib.hid (fun wx => isConductivity_any k wx)
  have HCL : Hid (∀ wx, Calls Try.prog 71 #[.agg #[.int .i64 a, .int .i64 g]] wx fun e w' => e = .returned (.bool (climB a g)) ∧ Below wx.heap.size wx w') := Lib.hid (fun wx => climate_any a g wx)
  have HPC := Lib.hid (fun (r : Bool) wx => pipeCode_any id f t L d s r wx hs)
  by_cases hc0 : inB k 1 1000 = true
  rotate_left
  · have hc0 : inB k 1 1000 = false := by simpa only [Bool.not_eq_true] using hc0
    have hB : btB k c h y a g = false := by unfold btB; simp [hc0]
    have HPC := Lib.hid (fun wx => HPC.out false wx)
    have hne : codeP id f t L d s false ≠ 0 := by unfold codeP; split <;> simp
    have HV := Lib.hid (code_leaf id f t L d s k c h y a g (codeP id f t L d s false) (by rw [hB]) hne)
    have h0n : (codeP id f t L d s false != 0) = true := by simpa using hne
    have h0e : (codeP id f t L d s false == 0) = false := by simpa using hne
    generalize codeP id f t L d s false = code at *
    clear hne hB
    have ⟨p0, p1, p2, p3, p4, p5⟩ := hp
    have ⟨k0, k1⟩ := qk
    have ⟨r0, r1⟩ := qp
    have ⟨h0, h1⟩ := qh
    have ⟨y0, y1⟩ := qy
    have ⟨c0, c1, c2, c3⟩ := qc
    go_enter Try.func37, Try.ntmps37
    go_wp2_with fail
    refine (HK.out _).mono ?_
    rintro e w' ⟨rfl, hb'⟩
    rw [hc0]
    clear p0 p1 p2 p3 p4 p5 k0 k1 r0 r1 h0 h1 y0 y1 c0 c1 c2 c3
    have hp := hp.next hb'
    have qk := qk.next hb'
    have qp := qp.next hb'
    have qh := qh.next hb'
    have qy := qy.next hb'
    have qc := qc.next hb'
    have hb := bnext hb hb'
    clear hb'
    have ⟨p0, p1, p2, p3, p4, p5⟩ := hp
    have ⟨k0, k1⟩ := qk
    have ⟨r0, r1⟩ := qp
    have ⟨h0, h1⟩ := qh
    have ⟨y0, y1⟩ := qy
    have ⟨c0, c1, c2, c3⟩ := qc
    go_wp2_with fail
    refine (HPC.out _).mono ?_
    rintro e w' ⟨rfl, hb'⟩
    have hb := bnext hb hb'
    go_wp2
    go_ret3
    exact ⟨by rw [HV.out.1, HV.out.2.1, HV.out.2.2]; rfl, hb⟩
  by_cases hc1 : inB c 0 1000 = true
  rotate_left
  · have hc1 : inB c 0 1000 = false := by simpa only [Bool.not_eq_true] using hc1
    have hB : btB k c h y a g = false := by unfold btB; simp [hc0, hc1]
    have HPC := Lib.hid (fun wx => HPC.out false wx)
    have hne : codeP id f t L d s false ≠ 0 := by unfold codeP; split <;> simp
    have HV := Lib.hid (code_leaf id f t L d s k c h y a g (codeP id f t L d s false) (by rw [hB]) hne)
    have h0n : (codeP id f t L d s false != 0) = true := by simpa using hne
    have h0e : (codeP id f t L d s false == 0) = false := by simpa using hne
    generalize codeP id f t L d s false = code at *
    clear hne hB
    have ⟨p0, p1, p2, p3, p4, p5⟩ := hp
    have ⟨k0, k1⟩ := qk
    have ⟨r0, r1⟩ := qp
    have ⟨h0, h1⟩ := qh
    have ⟨y0, y1⟩ := qy
    have ⟨c0, c1, c2, c3⟩ := qc
    go_enter Try.func37, Try.ntmps37
    go_wp2_with fail
    refine (HK.out _).mono ?_
    rintro e w' ⟨rfl, hb'⟩
    rw [hc0]
    clear p0 p1 p2 p3 p4 p5 k0 k1 r0 r1 h0 h1 y0 y1 c0 c1 c2 c3
    have hp := hp.next hb'
    have qk := qk.next hb'
    have qp := qp.next hb'
    have qh := qh.next hb'
    have qy := qy.next hb'
    have qc := qc.next hb'
    have hb := bnext hb hb'
    clear hb'
    have ⟨p0, p1, p2, p3, p4, p5⟩ := hp
    have ⟨k0, k1⟩ := qk
    have ⟨r0, r1⟩ := qp
    have ⟨h0, h1⟩ := qh
    have ⟨y0, y1⟩ := qy
    have ⟨c0, c1, c2, c3⟩ := qc
    go_wp2_with fail
    refine (one64Free _ 0 1000 c _ _ (by simp)).mono ?_
    rintro e w' ⟨rfl, hb'⟩
    rw [hc1]
    clear p0 p1 p2 p3 p4 p5 k0 k1 r0 r1 h0 h1 y0 y1 c0 c1 c2 c3
    have hp := hp.next hb'
    have qk := qk.next hb'
    have qp := qp.next hb'
    have qh := qh.next hb'
    have qy := qy.next hb'
    have qc := qc.next hb'
    have hb := bnext hb hb'
    clear hb'
    have ⟨p0, p1, p2, p3, p4, p5⟩ := hp
    have ⟨k0, k1⟩ := qk
    have ⟨r0, r1⟩ := qp
    have ⟨h0, h1⟩ := qh
    have ⟨y0, y1⟩ := qy
    have ⟨c0, c1, c2, c3⟩ := qc
    go_wp2_with fail
    refine (HPC.out _).mono ?_
    rintro e w' ⟨rfl, hb'⟩
    have hb := bnext hb hb'
    go_wp2
    go_ret3
    exact ⟨by rw [HV.out.1, HV.out.2.1, HV.out.2.2]; rfl, hb⟩
  by_cases hc2 : inB h 0 1000 = true
  rotate_left
  · have hc2 : inB h 0 1000 = false := by simpa only [Bool.not_eq_true] using hc2
    have hB : btB k c h y a g = false := by unfold btB; simp [hc0, hc1, hc2]
    have HPC := Lib.hid (fun wx => HPC.out false wx)
    have hne : codeP id f t L d s false ≠ 0 := by unfold codeP; split <;> simp
    have HV := Lib.hid (code_leaf id f t L d s k c h y a g (codeP id f t L d s false) (by rw [hB]) hne)
    have h0n : (codeP id f t L d s false != 0) = true := by simpa using hne
    have h0e : (codeP id f t L d s false == 0) = false := by simpa using hne
    generalize codeP id f t L d s false = code at *
    clear hne hB
    have ⟨p0, p1, p2, p3, p4, p5⟩ := hp
    have ⟨k0, k1⟩ := qk
    have ⟨r0, r1⟩ := qp
    have ⟨h0, h1⟩ := qh
    have ⟨y0, y1⟩ := qy
    have ⟨c0, c1, c2, c3⟩ := qc
    go_enter Try.func37, Try.ntmps37
    go_wp2_with fail
    refine (HK.out _).mono ?_
    rintro e w' ⟨rfl, hb'⟩
    rw [hc0]
    clear p0 p1 p2 p3 p4 p5 k0 k1 r0 r1 h0 h1 y0 y1 c0 c1 c2 c3
    have hp := hp.next hb'
    have qk := qk.next hb'
    have qp := qp.next hb'
    have qh := qh.next hb'
    have qy := qy.next hb'
    have qc := qc.next hb'
    have hb := bnext hb hb'
    clear hb'
    have ⟨p0, p1, p2, p3, p4, p5⟩ := hp
    have ⟨k0, k1⟩ := qk
    have ⟨r0, r1⟩ := qp
    have ⟨h0, h1⟩ := qh
    have ⟨y0, y1⟩ := qy
    have ⟨c0, c1, c2, c3⟩ := qc
    go_wp2_with fail
    refine (one64Free _ 0 1000 c _ _ (by simp)).mono ?_
    rintro e w' ⟨rfl, hb'⟩
    rw [hc1]
    clear p0 p1 p2 p3 p4 p5 k0 k1 r0 r1 h0 h1 y0 y1 c0 c1 c2 c3
    have hp := hp.next hb'
    have qk := qk.next hb'
    have qp := qp.next hb'
    have qh := qh.next hb'
    have qy := qy.next hb'
    have qc := qc.next hb'
    have hb := bnext hb hb'
    clear hb'
    have ⟨p0, p1, p2, p3, p4, p5⟩ := hp
    have ⟨k0, k1⟩ := qk
    have ⟨r0, r1⟩ := qp
    have ⟨h0, h1⟩ := qh
    have ⟨y0, y1⟩ := qy
    have ⟨c0, c1, c2, c3⟩ := qc
    go_wp2_with fail
    refine (one64Free _ 0 1000 h _ _ (by simp)).mono ?_
    rintro e w' ⟨rfl, hb'⟩
    rw [hc2]
    clear p0 p1 p2 p3 p4 p5 k0 k1 r0 r1 h0 h1 y0 y1 c0 c1 c2 c3
    have hp := hp.next hb'
    have qk := qk.next hb'
    have qp := qp.next hb'
    have qh := qh.next hb'
    have qy := qy.next hb'
    have qc := qc.next hb'
    have hb := bnext hb hb'
    clear hb'
    have ⟨p0, p1, p2, p3, p4, p5⟩ := hp
    have ⟨k0, k1⟩ := qk
    have ⟨r0, r1⟩ := qp
    have ⟨h0, h1⟩ := qh
    have ⟨y0, y1⟩ := qy
    have ⟨c0, c1, c2, c3⟩ := qc
    go_wp2_with fail
    refine (HPC.out _).mono ?_
    rintro e w' ⟨rfl, hb'⟩
    have hb := bnext hb hb'
    go_wp2
    go_ret3
    exact ⟨by rw [HV.out.1, HV.out.2.1, HV.out.2.2]; rfl, hb⟩
  by_cases hc3 : inB y 1 100 = true
  rotate_left
  · have hc3 : inB y 1 100 = false := by simpa only [Bool.not_eq_true] using hc3
    have hB : btB k c h y a g = false := by unfold btB; simp [hc0, hc1, hc2, hc3]
    have HPC := Lib.hid (fun wx => HPC.out false wx)
    have hne : codeP id f t L d s false ≠ 0 := by unfold codeP; split <;> simp
    have HV := Lib.hid (code_leaf id f t L d s k c h y a g (codeP id f t L d s false) (by rw [hB]) hne)
    have h0n : (codeP id f t L d s false != 0) = true := by simpa using hne
    have h0e : (codeP id f t L d s false == 0) = false := by simpa using hne
    generalize codeP id f t L d s false = code at *
    clear hne hB
    have ⟨p0, p1, p2, p3, p4, p5⟩ := hp
    have ⟨k0, k1⟩ := qk
    have ⟨r0, r1⟩ := qp
    have ⟨h0, h1⟩ := qh
    have ⟨y0, y1⟩ := qy
    have ⟨c0, c1, c2, c3⟩ := qc
    go_enter Try.func37, Try.ntmps37
    go_wp2_with fail
    refine (HK.out _).mono ?_
    rintro e w' ⟨rfl, hb'⟩
    rw [hc0]
    clear p0 p1 p2 p3 p4 p5 k0 k1 r0 r1 h0 h1 y0 y1 c0 c1 c2 c3
    have hp := hp.next hb'
    have qk := qk.next hb'
    have qp := qp.next hb'
    have qh := qh.next hb'
    have qy := qy.next hb'
    have qc := qc.next hb'
    have hb := bnext hb hb'
    clear hb'
    have ⟨p0, p1, p2, p3, p4, p5⟩ := hp
    have ⟨k0, k1⟩ := qk
    have ⟨r0, r1⟩ := qp
    have ⟨h0, h1⟩ := qh
    have ⟨y0, y1⟩ := qy
    have ⟨c0, c1, c2, c3⟩ := qc
    go_wp2_with fail
    refine (one64Free _ 0 1000 c _ _ (by simp)).mono ?_
    rintro e w' ⟨rfl, hb'⟩
    rw [hc1]
    clear p0 p1 p2 p3 p4 p5 k0 k1 r0 r1 h0 h1 y0 y1 c0 c1 c2 c3
    have hp := hp.next hb'
    have qk := qk.next hb'
    have qp := qp.next hb'
    have qh := qh.next hb'
    have qy := qy.next hb'
    have qc := qc.next hb'
    have hb := bnext hb hb'
    clear hb'
    have ⟨p0, p1, p2, p3, p4, p5⟩ := hp
    have ⟨k0, k1⟩ := qk
    have ⟨r0, r1⟩ := qp
    have ⟨h0, h1⟩ := qh
    have ⟨y0, y1⟩ := qy
    have ⟨c0, c1, c2, c3⟩ := qc
    go_wp2_with fail
    refine (one64Free _ 0 1000 h _ _ (by simp)).mono ?_
    rintro e w' ⟨rfl, hb'⟩
    rw [hc2]
    clear p0 p1 p2 p3 p4 p5 k0 k1 r0 r1 h0 h1 y0 y1 c0 c1 c2 c3
    have hp := hp.next hb'
    have qk := qk.next hb'
    have qp := qp.next hb'
    have qh := qh.next hb'
    have qy := qy.next hb'
    have qc := qc.next hb'
    have hb := bnext hb hb'
    clear hb'
    have ⟨p0, p1, p2, p3, p4, p5⟩ := hp
    have ⟨k0, k1⟩ := qk
    have ⟨r0, r1⟩ := qp
    have ⟨h0, h1⟩ := qh
    have ⟨y0, y1⟩ := qy
    have ⟨c0, c1, c2, c3⟩ := qc
    go_wp2_with fail
    refine (one64Free _ 1 100 y _ _ (by simp)).mono ?_
    rintro e w' ⟨rfl, hb'⟩
    rw [hc3]
    clear p0 p1 p2 p3 p4 p5 k0 k1 r0 r1 h0 h1 y0 y1 c0 c1 c2 c3
    have hp := hp.next hb'
    have qk := qk.next hb'
    have qp := qp.next hb'
    have qh := qh.next hb'
    have qy := qy.next hb'
    have qc := qc.next hb'
    have hb := bnext hb hb'
    clear hb'
    have ⟨p0, p1, p2, p3, p4, p5⟩ := hp
    have ⟨k0, k1⟩ := qk
    have ⟨r0, r1⟩ := qp
    have ⟨h0, h1⟩ := qh
    have ⟨y0, y1⟩ := qy
    have ⟨c0, c1, c2, c3⟩ := qc
    go_wp2_with fail
    refine (HPC.out _).mono ?_
    rintro e w' ⟨rfl, hb'⟩
    have hb := bnext hb hb'
    go_wp2
    go_ret3
    exact ⟨by rw [HV.out.1, HV.out.2.1, HV.out.2.2]; rfl, hb⟩
  by_cases hc4 : climB a g = true
  rotate_left
  · have hc4 : climB a g = false := by simpa only [Bool.not_eq_true] using hc4
    have hB : btB k c h y a g = false := by unfold btB; simp [hc0, hc1, hc2, hc3, hc4]
    have HPC := Lib.hid (fun wx => HPC.out false wx)
    have hne : codeP id f t L d s false ≠ 0 := by unfold codeP; split <;> simp
    have HV := Lib.hid (code_leaf id f t L d s k c h y a g (codeP id f t L d s false) (by rw [hB]) hne)
    have h0n : (codeP id f t L d s false != 0) = true := by simpa using hne
    have h0e : (codeP id f t L d s false == 0) = false := by simpa using hne
    generalize codeP id f t L d s false = code at *
    clear hne hB
    have ⟨p0, p1, p2, p3, p4, p5⟩ := hp
    have ⟨k0, k1⟩ := qk
    have ⟨r0, r1⟩ := qp
    have ⟨h0, h1⟩ := qh
    have ⟨y0, y1⟩ := qy
    have ⟨c0, c1, c2, c3⟩ := qc
    go_enter Try.func37, Try.ntmps37
    go_wp2_with fail
    refine (HK.out _).mono ?_
    rintro e w' ⟨rfl, hb'⟩
    rw [hc0]
    clear p0 p1 p2 p3 p4 p5 k0 k1 r0 r1 h0 h1 y0 y1 c0 c1 c2 c3
    have hp := hp.next hb'
    have qk := qk.next hb'
    have qp := qp.next hb'
    have qh := qh.next hb'
    have qy := qy.next hb'
    have qc := qc.next hb'
    have hb := bnext hb hb'
    clear hb'
    have ⟨p0, p1, p2, p3, p4, p5⟩ := hp
    have ⟨k0, k1⟩ := qk
    have ⟨r0, r1⟩ := qp
    have ⟨h0, h1⟩ := qh
    have ⟨y0, y1⟩ := qy
    have ⟨c0, c1, c2, c3⟩ := qc
    go_wp2_with fail
    refine (one64Free _ 0 1000 c _ _ (by simp)).mono ?_
    rintro e w' ⟨rfl, hb'⟩
    rw [hc1]
    clear p0 p1 p2 p3 p4 p5 k0 k1 r0 r1 h0 h1 y0 y1 c0 c1 c2 c3
    have hp := hp.next hb'
    have qk := qk.next hb'
    have qp := qp.next hb'
    have qh := qh.next hb'
    have qy := qy.next hb'
    have qc := qc.next hb'
    have hb := bnext hb hb'
    clear hb'
    have ⟨p0, p1, p2, p3, p4, p5⟩ := hp
    have ⟨k0, k1⟩ := qk
    have ⟨r0, r1⟩ := qp
    have ⟨h0, h1⟩ := qh
    have ⟨y0, y1⟩ := qy
    have ⟨c0, c1, c2, c3⟩ := qc
    go_wp2_with fail
    refine (one64Free _ 0 1000 h _ _ (by simp)).mono ?_
    rintro e w' ⟨rfl, hb'⟩
    rw [hc2]
    clear p0 p1 p2 p3 p4 p5 k0 k1 r0 r1 h0 h1 y0 y1 c0 c1 c2 c3
    have hp := hp.next hb'
    have qk := qk.next hb'
    have qp := qp.next hb'
    have qh := qh.next hb'
    have qy := qy.next hb'
    have qc := qc.next hb'
    have hb := bnext hb hb'
    clear hb'
    have ⟨p0, p1, p2, p3, p4, p5⟩ := hp
    have ⟨k0, k1⟩ := qk
    have ⟨r0, r1⟩ := qp
    have ⟨h0, h1⟩ := qh
    have ⟨y0, y1⟩ := qy
    have ⟨c0, c1, c2, c3⟩ := qc
    go_wp2_with fail
    refine (one64Free _ 1 100 y _ _ (by simp)).mono ?_
    rintro e w' ⟨rfl, hb'⟩
    rw [hc3]
    clear p0 p1 p2 p3 p4 p5 k0 k1 r0 r1 h0 h1 y0 y1 c0 c1 c2 c3
    have hp := hp.next hb'
    have qk := qk.next hb'
    have qp := qp.next hb'
    have qh := qh.next hb'
    have qy := qy.next hb'
    have qc := qc.next hb'
    have hb := bnext hb hb'
    clear hb'
    have ⟨p0, p1, p2, p3, p4, p5⟩ := hp
    have ⟨k0, k1⟩ := qk
    have ⟨r0, r1⟩ := qp
    have ⟨h0, h1⟩ := qh
    have ⟨y0, y1⟩ := qy
    have ⟨c0, c1, c2, c3⟩ := qc
    go_wp2_with fail
    refine (HCL.out _).mono ?_
    rintro e w' ⟨rfl, hb'⟩
    rw [hc4]
    clear p0 p1 p2 p3 p4 p5 k0 k1 r0 r1 h0 h1 y0 y1 c0 c1 c2 c3
    have hp := hp.next hb'
    have qk := qk.next hb'
    have qp := qp.next hb'
    have qh := qh.next hb'
    have qy := qy.next hb'
    have qc := qc.next hb'
    have hb := bnext hb hb'
    clear hb'
    have ⟨p0, p1, p2, p3, p4, p5⟩ := hp
    have ⟨k0, k1⟩ := qk
    have ⟨r0, r1⟩ := qp
    have ⟨h0, h1⟩ := qh
    have ⟨y0, y1⟩ := qy
    have ⟨c0, c1, c2, c3⟩ := qc
    go_wp2_with fail
    refine (HPC.out _).mono ?_
    rintro e w' ⟨rfl, hb'⟩
    have hb := bnext hb hb'
    go_wp2
    go_ret3
    exact ⟨by rw [HV.out.1, HV.out.2.1, HV.out.2.2]; rfl, hb⟩
  have hB : btB k c h y a g = true := by unfold btB; simp [hc0, hc1, hc2, hc3, hc4]
  have HPC := Lib.hid (fun wx => HPC.out true wx)
  by_cases ho : okP id f t L d s = true
  rotate_left
  · have hne : codeP id f t L d s true = 1 := by unfold codeP; rw [if_neg ho]
    have HV := Lib.hid (code_leaf id f t L d s k c h y a g 1 (by rw [hB, hne]) (by omega))
    rw [hne] at HPC
    clear hne hB
    have ⟨p0, p1, p2, p3, p4, p5⟩ := hp
    have ⟨k0, k1⟩ := qk
    have ⟨r0, r1⟩ := qp
    have ⟨h0, h1⟩ := qh
    have ⟨y0, y1⟩ := qy
    have ⟨c0, c1, c2, c3⟩ := qc
    go_enter Try.func37, Try.ntmps37
    go_wp2_with fail
    refine (HK.out _).mono ?_
    rintro e w' ⟨rfl, hb'⟩
    rw [hc0]
    clear p0 p1 p2 p3 p4 p5 k0 k1 r0 r1 h0 h1 y0 y1 c0 c1 c2 c3
    have hp := hp.next hb'
    have qk := qk.next hb'
    have qp := qp.next hb'
    have qh := qh.next hb'
    have qy := qy.next hb'
    have qc := qc.next hb'
    have hb := bnext hb hb'
    clear hb'
    have ⟨p0, p1, p2, p3, p4, p5⟩ := hp
    have ⟨k0, k1⟩ := qk
    have ⟨r0, r1⟩ := qp
    have ⟨h0, h1⟩ := qh
    have ⟨y0, y1⟩ := qy
    have ⟨c0, c1, c2, c3⟩ := qc
    go_wp2_with fail
    refine (one64Free _ 0 1000 c _ _ (by simp)).mono ?_
    rintro e w' ⟨rfl, hb'⟩
    rw [hc1]
    clear p0 p1 p2 p3 p4 p5 k0 k1 r0 r1 h0 h1 y0 y1 c0 c1 c2 c3
    have hp := hp.next hb'
    have qk := qk.next hb'
    have qp := qp.next hb'
    have qh := qh.next hb'
    have qy := qy.next hb'
    have qc := qc.next hb'
    have hb := bnext hb hb'
    clear hb'
    have ⟨p0, p1, p2, p3, p4, p5⟩ := hp
    have ⟨k0, k1⟩ := qk
    have ⟨r0, r1⟩ := qp
    have ⟨h0, h1⟩ := qh
    have ⟨y0, y1⟩ := qy
    have ⟨c0, c1, c2, c3⟩ := qc
    go_wp2_with fail
    refine (one64Free _ 0 1000 h _ _ (by simp)).mono ?_
    rintro e w' ⟨rfl, hb'⟩
    rw [hc2]
    clear p0 p1 p2 p3 p4 p5 k0 k1 r0 r1 h0 h1 y0 y1 c0 c1 c2 c3
    have hp := hp.next hb'
    have qk := qk.next hb'
    have qp := qp.next hb'
    have qh := qh.next hb'
    have qy := qy.next hb'
    have qc := qc.next hb'
    have hb := bnext hb hb'
    clear hb'
    have ⟨p0, p1, p2, p3, p4, p5⟩ := hp
    have ⟨k0, k1⟩ := qk
    have ⟨r0, r1⟩ := qp
    have ⟨h0, h1⟩ := qh
    have ⟨y0, y1⟩ := qy
    have ⟨c0, c1, c2, c3⟩ := qc
    go_wp2_with fail
    refine (one64Free _ 1 100 y _ _ (by simp)).mono ?_
    rintro e w' ⟨rfl, hb'⟩
    rw [hc3]
    clear p0 p1 p2 p3 p4 p5 k0 k1 r0 r1 h0 h1 y0 y1 c0 c1 c2 c3
    have hp := hp.next hb'
    have qk := qk.next hb'
    have qp := qp.next hb'
    have qh := qh.next hb'
    have qy := qy.next hb'
    have qc := qc.next hb'
    have hb := bnext hb hb'
    clear hb'
    have ⟨p0, p1, p2, p3, p4, p5⟩ := hp
    have ⟨k0, k1⟩ := qk
    have ⟨r0, r1⟩ := qp
    have ⟨h0, h1⟩ := qh
    have ⟨y0, y1⟩ := qy
    have ⟨c0, c1, c2, c3⟩ := qc
    go_wp2_with fail
    refine (HCL.out _).mono ?_
    rintro e w' ⟨rfl, hb'⟩
    rw [hc4]
    clear p0 p1 p2 p3 p4 p5 k0 k1 r0 r1 h0 h1 y0 y1 c0 c1 c2 c3
    have hp := hp.next hb'
    have qk := qk.next hb'
    have qp := qp.next hb'
    have qh := qh.next hb'
    have qy := qy.next hb'
    have qc := qc.next hb'
    have hb := bnext hb hb'
    clear hb'
    have ⟨p0, p1, p2, p3, p4, p5⟩ := hp
    have ⟨k0, k1⟩ := qk
    have ⟨r0, r1⟩ := qp
    have ⟨h0, h1⟩ := qh
    have ⟨y0, y1⟩ := qy
    have ⟨c0, c1, c2, c3⟩ := qc
    go_wp2_with fail
    refine (HPC.out _).mono ?_
    rintro e w' ⟨rfl, hb'⟩
    have hb := bnext hb hb'
    go_wp2
    go_ret3
    exact ⟨by rw [HV.out.1, HV.out.2.1, HV.out.2.2]; rfl, hb⟩
  have hz : codeP id f t L d s true = 0 := by unfold codeP; rw [if_pos ho]; rfl
  have HV := Lib.hid (code_main id f t L d s k c h y a g (by rw [hB, hz]))
  rw [hz] at HPC
  obtain ⟨-, -, -, -, ⟨l0, l1⟩, -, -⟩ := okP_bd id f t L d s ho
  have bk := inB_iff.1 hc0
  have bc := inB_iff.1 hc1
  have bh := inB_iff.1 hc2
  have by' := inB_iff.1 hc3
  have bg := climB_iff.1 hc4
  clear hz hB
  have ⟨p0, p1, p2, p3, p4, p5⟩ := hp
  have ⟨k0, k1⟩ := qk
  have ⟨r0, r1⟩ := qp
  have ⟨h0, h1⟩ := qh
  have ⟨y0, y1⟩ := qy
  have ⟨c0, c1, c2, c3⟩ := qc
  go_enter Try.func37, Try.ntmps37
  go_wp2_with fail
  refine (HK.out _).mono ?_
  rintro e w' ⟨rfl, hb'⟩
  rw [hc0]
  clear p0 p1 p2 p3 p4 p5 k0 k1 r0 r1 h0 h1 y0 y1 c0 c1 c2 c3
  have hp := hp.next hb'
  have qk := qk.next hb'
  have qp := qp.next hb'
  have qh := qh.next hb'
  have qy := qy.next hb'
  have qc := qc.next hb'
  have hb := bnext hb hb'
  clear hb'
  have ⟨p0, p1, p2, p3, p4, p5⟩ := hp
  have ⟨k0, k1⟩ := qk
  have ⟨r0, r1⟩ := qp
  have ⟨h0, h1⟩ := qh
  have ⟨y0, y1⟩ := qy
  have ⟨c0, c1, c2, c3⟩ := qc
  go_wp2_with fail
  refine (one64Free _ 0 1000 c _ _ (by simp)).mono ?_
  rintro e w' ⟨rfl, hb'⟩
  rw [hc1]
  clear p0 p1 p2 p3 p4 p5 k0 k1 r0 r1 h0 h1 y0 y1 c0 c1 c2 c3
  have hp := hp.next hb'
  have qk := qk.next hb'
  have qp := qp.next hb'
  have qh := qh.next hb'
  have qy := qy.next hb'
  have qc := qc.next hb'
  have hb := bnext hb hb'
  clear hb'
  have ⟨p0, p1, p2, p3, p4, p5⟩ := hp
  have ⟨k0, k1⟩ := qk
  have ⟨r0, r1⟩ := qp
  have ⟨h0, h1⟩ := qh
  have ⟨y0, y1⟩ := qy
  have ⟨c0, c1, c2, c3⟩ := qc
  go_wp2_with fail
  refine (one64Free _ 0 1000 h _ _ (by simp)).mono ?_
  rintro e w' ⟨rfl, hb'⟩
  rw [hc2]
  clear p0 p1 p2 p3 p4 p5 k0 k1 r0 r1 h0 h1 y0 y1 c0 c1 c2 c3
  have hp := hp.next hb'
  have qk := qk.next hb'
  have qp := qp.next hb'
  have qh := qh.next hb'
  have qy := qy.next hb'
  have qc := qc.next hb'
  have hb := bnext hb hb'
  clear hb'
  have ⟨p0, p1, p2, p3, p4, p5⟩ := hp
  have ⟨k0, k1⟩ := qk
  have ⟨r0, r1⟩ := qp
  have ⟨h0, h1⟩ := qh
  have ⟨y0, y1⟩ := qy
  have ⟨c0, c1, c2, c3⟩ := qc
  go_wp2_with fail
  refine (one64Free _ 1 100 y _ _ (by simp)).mono ?_
  rintro e w' ⟨rfl, hb'⟩
  rw [hc3]
  clear p0 p1 p2 p3 p4 p5 k0 k1 r0 r1 h0 h1 y0 y1 c0 c1 c2 c3
  have hp := hp.next hb'
  have qk := qk.next hb'
  have qp := qp.next hb'
  have qh := qh.next hb'
  have qy := qy.next hb'
  have qc := qc.next hb'
  have hb := bnext hb hb'
  clear hb'
  have ⟨p0, p1, p2, p3, p4, p5⟩ := hp
  have ⟨k0, k1⟩ := qk
  have ⟨r0, r1⟩ := qp
  have ⟨h0, h1⟩ := qh
  have ⟨y0, y1⟩ := qy
  have ⟨c0, c1, c2, c3⟩ := qc
  go_wp2_with fail
  refine (HCL.out _).mono ?_
  rintro e w' ⟨rfl, hb'⟩
  rw [hc4]
  clear p0 p1 p2 p3 p4 p5 k0 k1 r0 r1 h0 h1 y0 y1 c0 c1 c2 c3
  have hp := hp.next hb'
  have qk := qk.next hb'
  have qp := qp.next hb'
  have qh := qh.next hb'
  have qy := qy.next hb'
  have qc := qc.next hb'
  have hb := bnext hb hb'
  clear hb'
  have ⟨p0, p1, p2, p3, p4, p5⟩ := hp
  have ⟨k0, k1⟩ := qk
  have ⟨r0, r1⟩ := qp
  have ⟨h0, h1⟩ := qh
  have ⟨y0, y1⟩ := qy
  have ⟨c0, c1, c2, c3⟩ := qc
  go_wp2_with fail
  refine (HPC.out _).mono ?_
  rintro e w' ⟨rfl, hb'⟩
  clear p0 p1 p2 p3 p4 p5 k0 k1 r0 r1 h0 h1 y0 y1 c0 c1 c2 c3
  have hp := hp.next hb'
  have qk := qk.next hb'
  have qp := qp.next hb'
  have qh := qh.next hb'
  have qy := qy.next hb'
  have qc := qc.next hb'
  have hb := bnext hb hb'
  clear hb'
  have ⟨p0, p1, p2, p3, p4, p5⟩ := hp
  have ⟨k0, k1⟩ := qk
  have ⟨r0, r1⟩ := qp
  have ⟨h0, h1⟩ := qh
  have ⟨y0, y1⟩ := qy
  have ⟨c0, c1, c2, c3⟩ := qc
  have HFL := firstLeast_any (thickF L d k c h y a g) w.heap.size (w.heap.size + 2) (w.heap.size + 5) (w.heap.size + 1) (w.heap.size + 3) (w.heap.size + 4) 299 w' (by omega) (fun n n0 n1 => by have := thickF_bd L d k c h y a g n (by omega) l1 n0 (by omega) bc.1 bc.2 bh.1 bh.2 (by omega) by'.2 bg.1.2 bg.2.1; omega) (fun wr n n0 n1 hbx => thick1_any id f t L d s k c h y a g n w.heap.size (w.heap.size + 2) (w.heap.size + 5) (w.heap.size + 1) (w.heap.size + 3) (w.heap.size + 4) wr hs ho ⟨n0, by omega⟩ bk bc bh ⟨by omega, by'.2⟩ bg.1 bg.2 (hp.next hbx) (qp.next hbx).1 (qc.next hbx).1 (qc.next hbx).2.1 (qk.next hbx).1 (qh.next hbx).1 (qy.next hbx).1)
  have e300 : (((299 : Nat) : Int) + 1) = 300 := rfl
  rw [e300] at HFL
  have HFL := Lib.hid HFL
  have HX : Hid (btX L d k c h y a g = leastTo (thickF L d k c h y a g) 1 299) := Lib.hid rfl
  generalize leastTo (thickF L d k c h y a g) 1 299 = r at *
  clear p0 p1 p2 p3 p4 p5 k0 k1 r0 r1 h0 h1 y0 y1 c0 c1 c2 c3
  clear hp qk qp qh qy qc e300
  go_wp2_with fail
  refine HFL.out.mono ?_
  rintro e w9 ⟨rfl, hb'⟩
  have hb := bnext hb hb'
  go_wp2
  go_ret3
  exact ⟨by rw [HV.out.1, HV.out.2.1, HV.out.2.2, HX.out]; rfl, hb⟩

end Go.Proofs.Ytgdafgnjaogmeaa
