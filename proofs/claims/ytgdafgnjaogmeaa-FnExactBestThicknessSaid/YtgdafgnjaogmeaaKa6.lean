/-
  BestThickness of both sides.
-/
import Derived.Test.YtgdafgnjaogmeaaKa1
import Derived.Test.YtgdafgnjaogmeaaKa5
import Derived.Test.YtgdafgnjaogmeaaKa2
namespace Go.Proofs.Ytgdafgnjaogmeaa
open Go.ChangeShapes Go.WideShapes Go.ChangeAt Go.RowKit Go.Shelf
set_option linter.unusedSimpArgs false
set_option maxRecDepth 100000
set_option maxHeartbeats 3200000
set_option linter.unusedVariables false


/-- what the heat costs that is lost -/
def heatI (x h y : Int) : Int := nearI (max x 0 * 876 * h * y) 100000
/-- what a thickness costs -/
def thickF (L d k c h y a g : Int) (n : Int) : Int := coatCost L n c + heatI (lossI (coatI d n k) L a g) h y
/-- the first least among the first k + 1 numbers -/
def leastTo (F : Int → Int) (lo : Int) : Nat → Int × Int
  | 0 => (lo, F lo)
  | k + 1 => if F (lo + (k + 1 : Nat)) < (leastTo F lo k).2 then (lo + (k + 1 : Nat), F (lo + (k + 1 : Nat))) else leastTo F lo k
theorem leastTo_at (F : Int → Int) (lo : Int) : ∀ k, lo ≤ (leastTo F lo k).1 ∧ (leastTo F lo k).1 ≤ lo + k ∧ (leastTo F lo k).2 = F (leastTo F lo k).1
  | 0 => by unfold leastTo; simp
  | k + 1 => by
    obtain ⟨h1, h2, h3⟩ := leastTo_at F lo k
    unfold leastTo
    split
    · refine ⟨by dsimp only; omega, by dsimp only; omega, rfl⟩
    · exact ⟨h1, by push_cast; omega, h3⟩
theorem coatI_bd (d n k : Int) : 1 ≤ coatI d n k ∧ coatI d n k ≤ 5000 := by unfold coatI clampI; omega
theorem loss_le (s L a g : Int) (s0 : 0 ≤ s) (s1 : s ≤ 5000) (l0 : 0 ≤ L) (l1 : L ≤ 10000) (a1 : a ≤ 20000) (g0 : -5000 ≤ g) : lossI s L a g ≤ 12500000 := by
  unfold lossI
  have h := mul_range s L 5000 10000 s0 s1 l0 l1
  have h2 : s * L * (a - g) ≤ 12500000 * 100000 := by
    by_cases hc : 0 ≤ a - g
    · have := mul_range (s * L) (a - g) 50000000 25000 h.1 (by omega) hc (by omega)
      omega
    · have : s * L * (a - g) ≤ 0 := Int.mul_nonpos_of_nonneg_of_nonpos h.1 (by omega)
      omega
  have := nearI_mono _ (12500000 * 100000) 100000 (by omega) h2
  rw [nearI_whole 12500000 100000 (by omega)] at this
  exact this
theorem heat_num (x h y : Int) (x1 : x ≤ 12500000) (h0 : 0 ≤ h) (h1 : h ≤ 1000) (y0 : 0 ≤ y) (y1 : y ≤ 100) : (0 ≤ max x 0 ∧ max x 0 ≤ 12500000) ∧ (0 ≤ max x 0 * 876 * h ∧ max x 0 * 876 * h ≤ 10950000000000) ∧ (0 ≤ max x 0 * 876 * h * y ∧ max x 0 * 876 * h * y ≤ 1095000000000000) := by
  have m : 0 ≤ max x 0 ∧ max x 0 ≤ 12500000 := by omega
  have p1 := mul_range (max x 0 * 876) h 10950000000 1000 (by omega) (by omega) h0 h1
  have p2 := mul_range (max x 0 * 876 * h) y 10950000000000 100 p1.1 (by omega) y0 y1
  exact ⟨m, ⟨p1.1, by omega⟩, ⟨p2.1, by omega⟩⟩
theorem heat_bd (x h y : Int) (x1 : x ≤ 12500000) (h0 : 0 ≤ h) (h1 : h ≤ 1000) (y0 : 0 ≤ y) (y1 : y ≤ 100) : 0 ≤ heatI x h y ∧ heatI x h y ≤ 10950000000 := by
  have hn := heat_num x h y x1 h0 h1 y0 y1
  unfold heatI
  have h2 := nearI_mono _ (10950000000 * 100000) 100000 (by omega) (show max x 0 * 876 * h * y ≤ 10950000000 * 100000 by have := hn.2.2.2; omega)
  rw [nearI_whole 10950000000 100000 (by omega)] at h2
  exact ⟨nearI_nonneg _ _ (by omega) hn.2.2.1, h2⟩
theorem heatCost_any (x h y : Int) (w : World) (x1 : x ≤ 12500000) (h0 : 0 ≤ h) (h1 : h ≤ 1000) (y0 : 0 ≤ y) (y1 : y ≤ 100) :
    Calls Try.prog 87 #[.int .i64 x, .int .i64 h, .int .i64 y] w fun e w' => e = .returned (.int .i64 (heatI x h y)) ∧ Drawn w w' := by
  have hn := heat_num x h y x1 h0 h1 y0 y1
  unfold heatI
  by_cases hx : x < 0
  · have hm : max x 0 = 0 := by omega
    have h9 : (0 : Int) * 876 * h * y = 0 := by rw [Int.zero_mul, Int.zero_mul, Int.zero_mul]
    rw [hm, h9, nearI_zero 100000 (by omega)]
    have HN : Hid (∀ wx, Calls Try.prog 60 #[.int .i64 0, .int .i64 100000] wx fun e w' => e = .returned (.int .i64 0) ∧ Drawn wx w') := Lib.hid (fun wx => by
      have := nearest_any 0 100000 wx (by omega) (by omega) (by omega) (by omega) (by omega)
      rw [nearI_zero 100000 (by omega)] at this
      exact this)
    clear hm h9 hn
    go_enter Try.func87, Try.ntmps87
    go_wp2_with fail
    refine (HN.out _).mono ?_
    rintro e w1 ⟨rfl, hd⟩
    go_wp2
    go_ret
    exact ⟨rfl, hd⟩
  · have hm : max x 0 = x := by omega
    rw [hm] at hn ⊢
    have HN := Lib.hid (fun wx => nearest_any (x * 876 * h * y) 100000 wx (by omega) (by omega) (by omega) (by omega) (by omega))
    generalize nearI (x * 876 * h * y) 100000 = r at *
    clear hm
    go_enter Try.func87, Try.ntmps87
    go_wp2_with fail
    refine (HN.out _).mono ?_
    rintro e w1 ⟨rfl, hd⟩
    go_wp2
    go_ret
    exact ⟨rfl, hd⟩
theorem coated_any (id : ByteArray) (f t L d s : Int) (n k : Int) (w : World) (hd : 20 ≤ d ∧ d ≤ 1000) (hn : 1 ≤ n ∧ n ≤ 300) (hk : 1 ≤ k ∧ k ≤ 1000) :
    Calls Try.prog 89 #[.agg #[.string id, .int .i64 f, .int .i64 t, .int .i64 L, .int .i64 d, .int .i64 s], .int .i64 n, .int .i64 k] w fun e w' => e = .returned (.agg #[.string id, .int .i64 f, .int .i64 t, .int .i64 L, .int .i64 d, .int .i64 (coatI d n k)]) ∧ Below w.heap.size w w' := by
  have hb : Below w.heap.size w ((w.alloc (.cells #[.string id, .int .i64 f, .int .i64 t, .int .i64 L, .int .i64 d, .int .i64 s] 29)).alloc (.cells #[.string ByteArray.empty, .int .i64 0, .int .i64 0, .int .i64 0, .int .i64 0, .int .i64 0] 29)) := bal (bal (Below.refl _ _) _) _
  have hb1 : Below (w.alloc (.cells #[.string id, .int .i64 f, .int .i64 t, .int .i64 L, .int .i64 d, .int .i64 s] 29)).heap.size (w.alloc (.cells #[.string id, .int .i64 f, .int .i64 t, .int .i64 L, .int .i64 d, .int .i64 s] 29)) ((w.alloc (.cells #[.string id, .int .i64 f, .int .i64 t, .int .i64 L, .int .i64 d, .int .i64 s] 29)).alloc (.cells #[.string ByteArray.empty, .int .i64 0, .int .i64 0, .int .i64 0, .int .i64 0, .int .i64 0] 29)) := bal (Below.refl _ _) _
  have P0 : PipeAt ((w.alloc (.cells #[.string id, .int .i64 f, .int .i64 t, .int .i64 L, .int .i64 d, .int .i64 s] 29)).alloc (.cells #[.string ByteArray.empty, .int .i64 0, .int .i64 0, .int .i64 0, .int .i64 0, .int .i64 0] 29)) w.heap.size id f t L d s := (PipeAt.new w id f t L d s 29).next hb1
  have F0 : Free6 ((w.alloc (.cells #[.string id, .int .i64 f, .int .i64 t, .int .i64 L, .int .i64 d, .int .i64 s] 29)).alloc (.cells #[.string ByteArray.empty, .int .i64 0, .int .i64 0, .int .i64 0, .int .i64 0, .int .i64 0] 29)) w.heap.size := (Free6.new w #[.string id, .int .i64 f, .int .i64 t, .int .i64 L, .int .i64 d, .int .i64 s] 29).keep (hb1.block _ (by simp))
  have e1 : (w.alloc (.cells #[.string id, .int .i64 f, .int .i64 t, .int .i64 L, .int .i64 d, .int .i64 s] 29)).heap.size = w.heap.size + 1 := by simp
  have P1 : PipeAt ((w.alloc (.cells #[.string id, .int .i64 f, .int .i64 t, .int .i64 L, .int .i64 d, .int .i64 s] 29)).alloc (.cells #[.string ByteArray.empty, .int .i64 0, .int .i64 0, .int .i64 0, .int .i64 0, .int .i64 0] 29)) (w.heap.size + 1) ByteArray.empty 0 0 0 0 0 := by rw [← e1]; exact PipeAt.new (w.alloc (.cells #[.string id, .int .i64 f, .int .i64 t, .int .i64 L, .int .i64 d, .int .i64 s] 29)) ByteArray.empty 0 0 0 0 0 29
  have F1 : Free6 ((w.alloc (.cells #[.string id, .int .i64 f, .int .i64 t, .int .i64 L, .int .i64 d, .int .i64 s] 29)).alloc (.cells #[.string ByteArray.empty, .int .i64 0, .int .i64 0, .int .i64 0, .int .i64 0, .int .i64 0] 29)) (w.heap.size + 1) := by rw [← e1]; exact Free6.new (w.alloc (.cells #[.string id, .int .i64 f, .int .i64 t, .int .i64 L, .int .i64 d, .int .i64 s] 29)) #[.string ByteArray.empty, .int .i64 0, .int .i64 0, .int .i64 0, .int .i64 0, .int .i64 0] 29
  have hl0 : w.heap.size < ((w.alloc (.cells #[.string id, .int .i64 f, .int .i64 t, .int .i64 L, .int .i64 d, .int .i64 s] 29)).alloc (.cells #[.string ByteArray.empty, .int .i64 0, .int .i64 0, .int .i64 0, .int .i64 0, .int .i64 0] 29)).heap.size := by simp; omega
  have hl1 : w.heap.size + 1 < ((w.alloc (.cells #[.string id, .int .i64 f, .int .i64 t, .int .i64 L, .int .i64 d, .int .i64 s] 29)).alloc (.cells #[.string ByteArray.empty, .int .i64 0, .int .i64 0, .int .i64 0, .int .i64 0, .int .i64 0] 29)).heap.size := by simp
  have HC : Hid (∀ wx, Calls Try.prog 15 #[.int .i64 d, .int .i64 n, .int .i64 k] wx fun e w' => e = .returned (.tuple #[.int .i64 (coatI d n k), .int .i64 0]) ∧ Below wx.heap.size wx w') := Lib.hid (fun wx => by
    have h := implCoatLoss_any d n k wx
    have hv : coatV d n k = coatI d n k := by unfold coatV; rw [inB_true hd, inB_true hn, inB_true hk]; rfl
    have hc : coatC d n k = 0 := by unfold coatC; rw [inB_true hd, inB_true hn, inB_true hk]; rfl
    rw [hv, hc] at h
    exact h)
  generalize coatI d n k = r at *
  clear hd hn hk
  have ⟨p0, p1, p2, p3, p4, p5⟩ := P0
  go_enter Try.func89, Try.ntmps89
  go_wp2_with fail
  refine (HC.out _).mono ?_
  rintro e w1 ⟨rfl, hb2⟩
  have Q0 := P0.next hb2
  have Q1 := P1.next hb2
  have G0 := F0.keep (hb2.block _ hl0)
  have G1 := F1.keep (hb2.block _ hl1)
  have hb' := bnext hb hb2
  clear P0 P1 F0 F1 hb2 hb hb1 p0 p1 p2 p3 p4 p5
  obtain ⟨a0, a1, a2, a3, a4, a5⟩ := Q0
  obtain ⟨b0, b1, b2, b3, b4, b5⟩ := Q1
  obtain ⟨c0, c1, c2, c3, c4, c5⟩ := G0
  obtain ⟨d0, d1, d2, d3, d4, d5⟩ := G1
  go_wp2
  have hk1 := Below.heap_setCell w1 ⟨w.heap.size, 5, none⟩ (.int .i64 r) (w.heap.size + 1) (by simp)
  have k0 : PipeAt w1 (w.heap.size + 1) ByteArray.empty 0 0 0 0 0 := ⟨b0, b1, b2, b3, b4, b5⟩
  have hF := (((((((PipeAt.keep k0 hk1).set0 id).set1 f).set2 t).set3 L).set4 d).set5 r)
  refine bodyPost_ret (results_pipe Try.results89 _ _ (w.heap.size + 1) id f t L d r rfl hF) rfl ⟨rfl, ?_⟩
  exact (((((((hb'.setCell (p := ⟨w.heap.size, 5, none⟩) (Nat.le_refl _) _).setCell (p := ⟨w.heap.size + 1, 0, none⟩) (Nat.le_succ _) _).setCell (p := ⟨w.heap.size + 1, 1, none⟩) (Nat.le_succ _) _).setCell (p := ⟨w.heap.size + 1, 2, none⟩) (Nat.le_succ _) _).setCell (p := ⟨w.heap.size + 1, 3, none⟩) (Nat.le_succ _) _).setCell (p := ⟨w.heap.size + 1, 4, none⟩) (Nat.le_succ _) _).setCell (p := ⟨w.heap.size + 1, 5, none⟩) (Nat.le_succ _) _)

set_option maxHeartbeats 6400000 in
theorem thick1_any (id : ByteArray) (f t L d s : Int) (k c h y a g n : Int) (pb cp cb kb eb yb : Nat) (w : World) (hs : id.size ≤ maxLen) (ho : okP id f t L d s = true) (hn : 1 ≤ n ∧ n ≤ 300) (hk : 1 ≤ k ∧ k ≤ 1000) (hc : 0 ≤ c ∧ c ≤ 1000) (hh : 0 ≤ h ∧ h ≤ 1000) (hy : 0 ≤ y ∧ y ≤ 100) (ha : -5000 ≤ a ∧ a ≤ 20000) (hg : -5000 ≤ g ∧ g ≤ 20000)
    (hp : PipeAt w pb id f t L d s) (q5 : w.cell? ⟨cp, 0, none⟩ = some (.int .i64 c)) (q0 : w.cell? ⟨cb, 0, none⟩ = some (.int .i64 a)) (q1 : w.cell? ⟨cb, 1, none⟩ = some (.int .i64 g)) (q2 : w.cell? ⟨kb, 0, none⟩ = some (.int .i64 k)) (q3 : w.cell? ⟨eb, 0, none⟩ = some (.int .i64 h)) (q4 : w.cell? ⟨yb, 0, none⟩ = some (.int .i64 y)) :
    Calls Try.prog 86 #[.int .i64 n, .pointer (some ⟨pb, 0, none⟩), .pointer (some ⟨cp, 0, none⟩), .pointer (some ⟨cb, 0, none⟩), .pointer (some ⟨kb, 0, none⟩), .pointer (some ⟨eb, 0, none⟩), .pointer (some ⟨yb, 0, none⟩)] w fun e w' => e = .returned (.int .i64 (thickF L d k c h y a g n)) ∧ Below w.heap.size w w' := by
  obtain ⟨-, -, -, -, ⟨l0, l1⟩, ⟨d0, d1⟩, ⟨s0, s1⟩⟩ := okP_bd id f t L d s ho
  have hcb := coatI_bd d n k
  have HCC : Hid (∀ wx, Calls Try.prog 35 #[.agg #[.string id, .int .i64 f, .int .i64 t, .int .i64 L, .int .i64 d, .int .i64 s], .int .i64 n, .int .i64 c] wx fun e w' => e = .returned (.tuple #[.int .i64 (coatCost L n c), .int .i64 0]) ∧ Below wx.heap.size wx w') := Lib.hid (fun wx => by
    have h := implCoatCost_any id f t L d s n c wx hs
    have hv : ccoV id f t L d s n c = coatCost L n c := by unfold ccoV; rw [ho, inB_true hn, inB_true hc]; rfl
    have hz : ccoC id f t L d s n c = 0 := by unfold ccoC; rw [ho, inB_true hn, inB_true hc]; rfl
    rw [hv, hz] at h
    exact h)
  have HCT := Lib.hid (fun wx => coated_any id f t L d s n k wx ⟨d0, d1⟩ hn hk)
  have hok2 : (⟨id, f, t, L, d, coatI d n k⟩ : Pp).ok = true := by
    unfold Pp.ok okP at *
    simp only [Bool.and_eq_true, inB_iff] at ho ⊢
    exact ⟨ho.1, ho.2.1, ho.2.2.1, ho.2.2.2.1, ho.2.2.2.2.1, ho.2.2.2.2.2.1, by omega, by omega⟩
  have HLS := Lib.hid (fun wx => lossM_any ⟨id, f, t, L, d, coatI d n k⟩ a g wx hok2 ha.1 ha.2 hg.1 hg.2)
  have hle := loss_le (coatI d n k) L a g (by omega) (by omega) (by omega) l1 ha.2 hg.1
  have hge := lossW_bd hok2 a g ha.1 ha.2 hg.1 hg.2
  have HHC := Lib.hid (fun wx => heatCost_any (lossI (coatI d n k) L a g) h y wx hle hh.1 hh.2 hy.1 hy.2)
  have hbd1 := coatCost_bd L n c (by omega) l1 hn.1 hn.2 hc.1 hc.2
  have hbd2 := heat_bd (lossI (coatI d n k) L a g) h y hle hh.1 hh.2 hy.1 hy.2
  have HF : Hid (thickF L d k c h y a g n = coatCost L n c + heatI (lossI (coatI d n k) L a g) h y) := Lib.hid rfl
  unfold lossW at HLS
  dsimp only at HLS
  generalize heatI (lossI (coatI d n k) L a g) h y = u at *
  generalize lossI (coatI d n k) L a g = x at *
  generalize coatCost L n c = v at *
  generalize coatI d n k = r at *
  have ew : IntKind.i64.wrap (v + u) = v + u := IntWalk.i64_in _ (by omega)
  have hb : Below w.heap.size w w := Below.refl _ _
  have ⟨p0, p1, p2, p3, p4, p5⟩ := hp
  clear hcb hok2 hle hge ho hn hk hc hh hy ha hg l0 l1 d0 d1 s0 s1
  go_enter Try.func86, Try.ntmps86
  go_wp2_with fail
  refine (HCC.out _).mono ?_
  rintro e w1 ⟨rfl, hb'⟩
  have hb := bnext hb hb'; have hp := PipeAt.next hp hb'; have ⟨p0, p1, p2, p3, p4, p5⟩ := hp; have q0 := (Below.cell hb' (p := ⟨cb, 0, none⟩) (World.block_lt_of_cell? _ _ q0)).trans q0; have q1 := (Below.cell hb' (p := ⟨cb, 1, none⟩) (World.block_lt_of_cell? _ _ q1)).trans q1; have q2 := (Below.cell hb' (p := ⟨kb, 0, none⟩) (World.block_lt_of_cell? _ _ q2)).trans q2; have q3 := (Below.cell hb' (p := ⟨eb, 0, none⟩) (World.block_lt_of_cell? _ _ q3)).trans q3; have q4 := (Below.cell hb' (p := ⟨yb, 0, none⟩) (World.block_lt_of_cell? _ _ q4)).trans q4
  clear q5
  have hd1 : Below w1.heap.size w1 w1.drew := below_drewN (Below.refl _ _) 1
  have hb := bnext hb hd1; have hp := PipeAt.next hp hd1; have ⟨p0, p1, p2, p3, p4, p5⟩ := hp; have q0 := (Below.cell hd1 (p := ⟨cb, 0, none⟩) (World.block_lt_of_cell? _ _ q0)).trans q0; have q1 := (Below.cell hd1 (p := ⟨cb, 1, none⟩) (World.block_lt_of_cell? _ _ q1)).trans q1; have q2 := (Below.cell hd1 (p := ⟨kb, 0, none⟩) (World.block_lt_of_cell? _ _ q2)).trans q2; have q3 := (Below.cell hd1 (p := ⟨eb, 0, none⟩) (World.block_lt_of_cell? _ _ q3)).trans q3; have q4 := (Below.cell hd1 (p := ⟨yb, 0, none⟩) (World.block_lt_of_cell? _ _ q4)).trans q4
  go_wp2_with fail
  go_region_held3 (fun w' => w'.cell? ⟨pb, 0, none⟩ = some (.string id) ∧ w'.cell? ⟨pb, 1, none⟩ = some (.int .i64 f) ∧ w'.cell? ⟨pb, 2, none⟩ = some (.int .i64 t) ∧ w'.cell? ⟨pb, 3, none⟩ = some (.int .i64 L) ∧ w'.cell? ⟨pb, 4, none⟩ = some (.int .i64 d) ∧ w'.cell? ⟨pb, 5, none⟩ = some (.int .i64 s) ∧ w'.cell? ⟨cb, 0, none⟩ = some (.int .i64 a) ∧ w'.cell? ⟨cb, 1, none⟩ = some (.int .i64 g) ∧ w'.cell? ⟨kb, 0, none⟩ = some (.int .i64 k) ∧ w'.cell? ⟨eb, 0, none⟩ = some (.int .i64 h) ∧ w'.cell? ⟨yb, 0, none⟩ = some (.int .i64 y)) (exact ⟨p0, p1, p2, p3, p4, p5, q0, q1, q2, q3, q4⟩) (first | (go_at_call 89; refine (HCT.out _).mono ?_; rintro e w' ⟨rfl, hb'⟩; have hb := bnext hb hb'; have hp := PipeAt.next hp hb'; have ⟨p0, p1, p2, p3, p4, p5⟩ := hp; have q0 := (Below.cell hb' (p := ⟨cb, 0, none⟩) (World.block_lt_of_cell? _ _ q0)).trans q0; have q1 := (Below.cell hb' (p := ⟨cb, 1, none⟩) (World.block_lt_of_cell? _ _ q1)).trans q1; have q2 := (Below.cell hb' (p := ⟨kb, 0, none⟩) (World.block_lt_of_cell? _ _ q2)).trans q2; have q3 := (Below.cell hb' (p := ⟨eb, 0, none⟩) (World.block_lt_of_cell? _ _ q3)).trans q3; have q4 := (Below.cell hb' (p := ⟨yb, 0, none⟩) (World.block_lt_of_cell? _ _ q4)).trans q4) | (go_at_call 88; refine (HLS.out _).mono ?_; rintro e w' ⟨rfl, hb'⟩; have hb := bnext hb hb'; have hp := PipeAt.next hp hb'; have ⟨p0, p1, p2, p3, p4, p5⟩ := hp; have q0 := (Below.cell hb' (p := ⟨cb, 0, none⟩) (World.block_lt_of_cell? _ _ q0)).trans q0; have q1 := (Below.cell hb' (p := ⟨cb, 1, none⟩) (World.block_lt_of_cell? _ _ q1)).trans q1; have q2 := (Below.cell hb' (p := ⟨kb, 0, none⟩) (World.block_lt_of_cell? _ _ q2)).trans q2; have q3 := (Below.cell hb' (p := ⟨eb, 0, none⟩) (World.block_lt_of_cell? _ _ q3)).trans q3; have q4 := (Below.cell hb' (p := ⟨yb, 0, none⟩) (World.block_lt_of_cell? _ _ q4)).trans q4) | (go_at_call 87; refine (HHC.out _).mono ?_; rintro e w' ⟨rfl, hd⟩; have hb' := drawn_below hd; have hb := bnext hb hb'; have hp := PipeAt.next hp hb'; have ⟨p0, p1, p2, p3, p4, p5⟩ := hp; have q0 := (Below.cell hb' (p := ⟨cb, 0, none⟩) (World.block_lt_of_cell? _ _ q0)).trans q0; have q1 := (Below.cell hb' (p := ⟨cb, 1, none⟩) (World.block_lt_of_cell? _ _ q1)).trans q1; have q2 := (Below.cell hb' (p := ⟨kb, 0, none⟩) (World.block_lt_of_cell? _ _ q2)).trans q2; have q3 := (Below.cell hb' (p := ⟨eb, 0, none⟩) (World.block_lt_of_cell? _ _ q3)).trans q3; have q4 := (Below.cell hb' (p := ⟨yb, 0, none⟩) (World.block_lt_of_cell? _ _ q4)).trans q4))
  go_wp2
  go_ret
  exact ⟨by rw [HF.out]; rfl, hb⟩

end Go.Proofs.Ytgdafgnjaogmeaa
