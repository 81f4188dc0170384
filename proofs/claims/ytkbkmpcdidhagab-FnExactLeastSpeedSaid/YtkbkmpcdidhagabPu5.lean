/-
  The head of a pump at a flow: both sides.
-/
import Derived.Test.YtkbkmpcdidhagabPu4
import Derived.Test.YtkbkmpcdidhagabW1
import Derived.Test.YtkbkmpcdidhagabTw
namespace Go.Proofs.Ytkbkmpcdidhagab
open Go.ChangeShapes Go.WideShapes Go.ChangeAt Go.RowKit Go.Shelf

set_option maxRecDepth 100000
set_option linter.unusedVariables false

/-- the head at a flow -/
def headI (ps : List (Int × Int)) (q : Int) : Int := if q ≤ (ptAt ps (ps.length - 1)).1 then curveL ps q else 0
theorem rises_of (l : List (Int × Int)) (h : ∀ i, i + 1 < l.length → (l.getD i (0, 0)).1 < (l.getD (i + 1) (0, 0)).1 ∧ (l.getD (i + 1) (0, 0)).2 ≤ (l.getD i (0, 0)).2) : Rises (downL l) := by
  induction l with
  | nil => simp [downL, Rises]
  | cons p r ih =>
    match r, ih, h with
    | [], _, _ => simp [downL, Rises]
    | q :: t, ih, h =>
      have h0 := h 0 (by simp)
      have hr := ih (fun i hi => by
        have := h (i + 1) (by simp at hi ⊢; omega)
        simpa using this)
      simp only [downL, List.map_cons, Rises] at hr ⊢
      simp at h0
      exact ⟨h0.1, by omega, hr⟩
theorem okC_rises {ps : List (Int × Int)} (h : okC ps = true) : Rises (downL ps) := rises_of ps fun i hi => okC_two h i hi
theorem curve_bd {ps : List (Int × Int)} (h : okC ps = true) (x : Int) : 0 ≤ curveL ps x ∧ curveL ps x ≤ 2000000 := by
  have hr := okC_rises h
  have hd := curve_down ps x
  have h2 := okC_parts h
  have hone := okC_one h
  constructor
  · have := curve_high (downL ps) x 0 hr (fun p hp => by
      unfold downL at hp
      obtain ⟨q, hq, rfl⟩ := List.mem_map.1 hp
      obtain ⟨i, hi, rfl⟩ := List.getElem_of_mem hq
      have := hone i hi
      rw [← show ps[i] = ptAt ps i from Option.some.inj ((List.getElem?_eq_getElem hi).symm.trans (ptAt_some ps i hi))] at this
      show -(ps[i]).2 ≤ 0
      omega) (by
      intro e
      have := congrArg List.length e
      unfold downL at this
      rw [List.length_map] at this
      simp at this
      rw [this] at h2
      simp at h2)
    rw [hd] at this
    omega
  · match ps, hr, hd, h2, hone with
    | [], _, _, h2, _ => have := h2.1; simp at this
    | p :: r, hr, hd, h2, hone =>
      have := curve_low (p.1, -p.2) (downL r) x hr
      have e : downL (p :: r) = (p.1, -p.2) :: downL r := rfl
      rw [← e, hd] at this
      have h0 := hone 0 (by simp)
      simp [ptAt] at h0
      simp at this
      omega
theorem head_bd {ps : List (Int × Int)} (h : okC ps = true) (q : Int) : 0 ≤ headI ps q ∧ headI ps q ≤ 2000000 := by
  unfold headI
  split
  · exact curve_bd h q
  · omega
theorem head_anti {ps : List (Int × Int)} (h : okC ps = true) (q r : Int) (hqr : q ≤ r) : headI ps r ≤ headI ps q := by
  by_cases h1 : r ≤ (ptAt ps (ps.length - 1)).1
  · have := curve_mono (downL ps) q r (okC_rises h) hqr
    rw [curve_down, curve_down] at this
    unfold headI
    rw [if_pos h1, if_pos (by omega)]
    omega
  · have e : headI ps r = 0 := by unfold headI; rw [if_neg h1]
    rw [e]
    exact (head_bd h q).1
theorem atPlace_any (B : Option Addr) (n d : Nat) (ps : List (Int × Int)) (bp bx : Nat) (x : Int) (i : Nat) (w : World) (h : PtsOk w B n ps) (hi : i < n)
    (h1 : One w bp (.slice B n d)) (h2 : One w bx (.int .i64 x)) :
    Calls Try.prog 135 #[.int .i64 i, .pointer (some ⟨bp, 0, none⟩), .pointer (some ⟨bx, 0, none⟩)] w fun e w' => e = .returned (.bool (decide (x ≤ (ps.getD i (0, 0)).1))) ∧ Below w.heap.size w w' := by
  have hn := h.2
  obtain rfl := h.1.1
  obtain ⟨b, o, rfl, hrow⟩ := PtO.at h.cells (by omega)
  have ⟨p0, p1⟩ := hrow i _ (ptAt_some ps i hi)
  unfold ptAt at p0 p1
  generalize ps.getD i (0, 0) = p at *
  have ⟨c1, f1⟩ := h1
  have ⟨c2, f2⟩ := h2
  clear h hrow
  go_enter Try.func135, Try.ntmps135
  go_wp2
  go_quiet (fail)
  go_wp2
  go_ret
  exact ⟨rfl, below_drewN (Below.refl _ _) _⟩
theorem pointsAt_any (B : Option Addr) (n d : Nat) (ps : List (Int × Int)) (x : Int) (w : World) (h : PtsOk w B n ps) (hn2 : 2 ≤ n) (hn8 : n ≤ 1000)
    (hr : ∀ i j, i ≤ j → j < n → (ps.getD i (0, 0)).1 ≤ (ps.getD j (0, 0)).1)
    (hb : ∀ i, i < n → (-536870912 ≤ (ps.getD i (0, 0)).1 ∧ (ps.getD i (0, 0)).1 ≤ 536870912) ∧ (-536870912 ≤ (ps.getD i (0, 0)).2 ∧ (ps.getD i (0, 0)).2 ≤ 536870912)) :
    Calls Try.prog 108 #[.slice B n d, .int .i64 x] w fun e w' => e = .returned (.int .i64 (curveL ps x)) ∧ Below w.heap.size w w' := by
  have eg : ∀ args w, (callFunc 135 args).run Try.prog w = .ok (.enter 135 args) w := enters_of Try.func135 (by kernel_rfl) rfl
  obtain ⟨W0, hW0⟩ : ∃ W0, W0 = (w.alloc (.cells #[.slice B n d] 85)).alloc (.cells #[.int .i64 x] 2) := ⟨_, rfl⟩
  have hba : Below w.heap.size w (w.alloc (.cells #[.slice B n d] 85)) := bal (Below.refl _ _) _
  have hb0 : Below w.heap.size w W0 := by rw [hW0]; exact bal hba _
  have hB1 : One W0 w.heap.size (.slice B n d) := by rw [hW0]; exact (One.new w (.slice B n d) 85).next (bal (Below.refl _ _) _)
  have hB2 : One W0 (w.heap.size + 1) (.int .i64 x) := by rw [hW0]; have := One.new (w.alloc (.cells #[.slice B n d] 85)) (.int .i64 x) 2; simpa using this
  have hsz : W0.heap.size = w.heap.size + 1 + 1 := by rw [hW0]; simp
  have HW0 := Lib.hid hW0
  have HB0 := Lib.hid hb0
  have HBX := Lib.hid (And.intro hB1 hB2)
  have HLN := Lib.hid h.1.1
  have hF := search_any 135 #[.pointer (some ⟨w.heap.size, 0, none⟩), .pointer (some ⟨w.heap.size + 1, 0, none⟩)] n (fun i => decide (x ≤ (ps.getD i (0, 0)).1)) W0 eg (by omega)
    (fun wr i hi hbr => atPlace_any B n d ps w.heap.size (w.heap.size + 1) x i wr (h.go (bnext hb0 hbr)) hi (hB1.next hbr) (hB2.next hbr))
    (fun a b hab hb2 ha => by
      have := hr a b hab hb2
      simp only [decide_eq_true_eq] at ha ⊢
      omega)
  have hS := countF_spec (fun i => decide (x ≤ (ps.getD i (0, 0)).1)) n (fun a b hab hb2 ha => by
      have := hr a b hab hb2
      simp only [decide_eq_true_eq] at ha ⊢
      omega)
  generalize countF (fun i => decide (x ≤ (ps.getD i (0, 0)).1)) n = c at *
  obtain ⟨s1, s2, s3⟩ := hS
  obtain ⟨m, hm⟩ : ∃ m, n = m + 1 := ⟨n - 1, by omega⟩
  obtain ⟨k, hk, hk9⟩ : ∃ k : Nat, clampI 1 ((n : Int) - 1) (c : Int) = (k : Int) + 1 ∧ k + 1 ≤ m ∧ (k + 1 = c ∨ c ≤ 1 ∧ k = 0 ∨ c = n ∧ k + 1 = m) := by
    by_cases h1 : c ≤ 1
    · exact ⟨0, by unfold clampI; omega, by omega, by omega⟩
    · by_cases h2 : c = n
      · exact ⟨m - 1, by unfold clampI; omega, by omega, by omega⟩
      · exact ⟨c - 1, by unfold clampI; omega, by omega, by omega⟩
  have hl := h.1.1
  have hC := curve_at ps x k (by omega) (fun j a b => by
    have := s2 j (by omega)
    simp only [decide_eq_false_iff_not] at this
    omega) (by
    by_cases h : c < n
    · have := s3 (k + 1) (by omega) (by omega)
      simp only [decide_eq_true_eq] at this
      exact .inl this
    · exact .inr (by omega))
  obtain ⟨bt, ot, rfl, hrow⟩ := PtO.at h.cells (by omega)
  have P1 := hrow k _ (ptAt_some ps k (by omega))
  have P2 := hrow (k + 1) _ (ptAt_some ps (k + 1) (by omega))
  unfold ptAt at P1 P2
  obtain ⟨⟨b1, b2⟩, ⟨b3, b4⟩⟩ := hb k (by omega)
  obtain ⟨⟨b5, b6⟩, ⟨b7, b8⟩⟩ := hb (k + 1) (by omega)
  have hcl : ∀ wx, Calls Try.prog 136 #[.int .i64 1, .int .i64 ((n : Int) - 1), .int .i64 c] wx fun e w' => e = .returned (.int .i64 ((k : Int) + 1)) ∧ wx = w' := fun wx => by
    have := clampInt_any 1 ((n : Int) - 1) (c : Int) wx
    rw [hk] at this
    exact this
  have hfin := fun wx => blend_any (ps.getD k (0, 0)).1 (ps.getD k (0, 0)).2 (ps.getD (k + 1) (0, 0)).1 (ps.getD (k + 1) (0, 0)).2 x wx ⟨b1, b2⟩ ⟨b3, b4⟩ ⟨b5, b6⟩ ⟨b7, b8⟩
  rw [← hC] at hfin
  generalize curveL ps x = R at *
  generalize ps.getD k (0, 0) = pa at *
  generalize ps.getD (k + 1) (0, 0) = pb at *
  have HFin := Lib.hid hfin
  have HCl := Lib.hid hcl
  have HS := Lib.hid hF
  have hk8 : k + 1 ≤ m := hk9.1
  have hkn : k + 1 < n := by omega
  have HP := Lib.hid (And.intro (P1.next hb0) (P2.next hb0))
  have hlt0 : bt < w.heap.size := P1.lies
  have Hsz := Lib.hid hsz
  have ⟨x1, f1⟩ := hB1
  have ⟨x2, f2⟩ := hB2
  clear hfin hcl hF hk9 hC s1 s2 s3 hr hb hk hl eg hsz hrow P1 P2 hW0 hba hb0 hB1 hB2 h hm
  go_enter Try.func108, Try.ntmps108
  go_wp2_with fail
  rw [← HW0.out]
  refine HS.out.mono ?_
  rintro e w1 ⟨rfl, hb2⟩
  have hsz1 : w.heap.size + 1 + 1 ≤ w1.heap.size := Hsz.out ▸ hb2.size
  have HB := Lib.hid hb2
  have HX1 := Lib.hid (And.intro (HBX.out.1.next hb2) (HBX.out.2.next hb2))
  have P1 := HP.out.1.next hb2
  have P2 := HP.out.2.next hb2
  clear x1 f1 x2 f2 hb2
  have ⟨x1, f1⟩ := HX1.out.1
  have ⟨x2, f2⟩ := HX1.out.2
  have ⟨d1, d2⟩ := P1
  have ⟨d3, d4⟩ := P2
  have m1 : w.heap.size < w1.heap.size := by omega
  have m2 : w.heap.size < w1.heap.size + 1 := by omega
  have m3 : w.heap.size + 1 < w1.heap.size := by omega
  have m4 : w.heap.size + 1 < w1.heap.size + 1 := by omega
  have m5 : bt < w1.heap.size := by omega
  have m6 : bt < w1.heap.size + 1 := by omega
  have hi2 : (0 : Int) ≤ (k : Int) + 1 - 1 := by omega
  have hi6 : (n : Int) ≤ 1000 := by omega
  have hi7 : (2 : Int) ≤ (n : Int) := by omega
  go_wp2_with fail
  refine (HCl.out _).mono ?_
  rintro e w2 ⟨rfl, rfl⟩
  go_wp2_with fail
  go_region
  all_goals go_wp2_with (go_at_call 137; refine (HFin.out _).mono ?_; rintro e w' ⟨rfl, ⟨nn, rfl⟩⟩)
  all_goals go_ret
  all_goals exact ⟨rfl, below_drewN (bal (bal (bnext HB0.out HB.out) _) _) _⟩
theorem pmpHead_any (b : Nat) (id : ByteArray) (B : Option Addr) (d : Nat) (ps : List (Int × Int)) (q : Int) (w : World) (hO : PmpO w b id B d ps) (h : PtsOk w B ps.length ps) (hv : okC ps = true) :
    Calls Try.prog 58 #[.pointer (some ⟨b, 0, none⟩), .int .i64 q] w fun e w' => e = .returned (.int .i64 (headI ps q)) ∧ Below w.heap.size w w' := by
  have h2 := okC_parts hv
  have hl0 : 0 < ps.length := by omega
  have HLF := Lib.hid (lastFlow_any b id B d ps w hO h hl0)
  have HAT := Lib.hid (fun k => pointsAt_any B ps.length d ps q (w.drewN k) (h.go (below_drewN (Below.refl _ _) k)) h2.1 (by omega) (fun i j hij hj => okC_le hv i j hij hj) (fun i hi => by have := okC_one hv i hi; unfold ptAt at this; omega))
  have HV : Hid (headI ps q = if q ≤ (ptAt ps (ps.length - 1)).1 then curveL ps q else 0) := Lib.hid rfl
  have ⟨n0, n1⟩ := hO
  generalize (ptAt ps (ps.length - 1)).1 = lf at *
  clear h hO hv h2
  by_cases hq : q ≤ lf
  · have HV : Hid (headI ps q = curveL ps q) := Lib.hid (by rw [HV.out, if_pos hq])
    generalize curveL ps q = R at *
    go_enter Try.func58, Try.ntmps58
    go_wp2_with fail
    refine HLF.out.mono ?_
    rintro e w1 ⟨rfl, ⟨k, rfl⟩⟩
    go_wp2_with fail
    refine (HAT.out k).mono ?_
    rintro e w2 ⟨rfl, hb⟩
    go_wp2
    go_ret
    exact ⟨by rw [HV.out]; rfl, bnext (below_drewN (Below.refl _ _) k) hb⟩
  · have HV : Hid (headI ps q = 0) := Lib.hid (by rw [HV.out, if_neg hq])
    have hq' : lf < q := by omega
    clear hq
    go_enter Try.func58, Try.ntmps58
    go_wp2_with fail
    refine HLF.out.mono ?_
    rintro e w1 ⟨rfl, ⟨k, rfl⟩⟩
    go_wp2
    go_ret
    exact ⟨by rw [HV.out]; rfl, below_drewN (Below.refl _ _) k⟩
theorem okPu_parts {d : PmD} (h : okPu d = true) : nameL d.id.data.toList = true ∧ okC (crv d.cv) = true ∧ crv d.cv = d.cv.map toPt ∧ ∀ z ∈ d.cv, z.length = 2 := by
  unfold okPu at h
  rw [Bool.and_eq_true] at h
  have h2 : okC (crv d.cv) = true := by rw [okC_crv]; exact h.2
  have h3 : d.cv.all (fun z => decide (z.length = 2)) = true := by
    by_cases h9 : d.cv.all (fun z => decide (z.length = 2)) = true
    · exact h9
    · unfold crv at h2
      rw [if_neg h9] at h2
      have := (okC_parts h2).1
      simp at this
  exact ⟨h.1, h2, by unfold crv; rw [if_pos h3], fun z hz => of_decide_eq_true (List.all_eq_true.1 h3 z hz)⟩
theorem l08Head_any (b : Nat) (x : Pm) (q : Int) (w : World) (hO : PmO w b 0 x) (h : x.okay w) (hv : okPu x.d = true) :
    Calls Try.prog 55 #[.pointer (some ⟨b, 0, none⟩), .int .i64 q] w fun e w' => e = .returned (.int .i64 (headI (crv x.d.cv) q)) ∧ Drawn w w' := by
  obtain ⟨-, hok, hcrv, htwo⟩ := okPu_parts hv
  have hlen : (crv x.d.cv).length = x.d.cv.length := by rw [hcrv, List.length_map]
  have hl := okC_parts hok
  rw [hlen] at hl
  have HF := Lib.hid h.1
  have HOK := Lib.hid hok
  have HLEN := Lib.hid hlen
  -- a row of the table
  have hrow : ∀ k, k < x.d.cv.length → ∃ bt ot bz oz rc, x.cvA = some ⟨bt, ot, none⟩ ∧ w.cell? ⟨bt, ot + k, none⟩ = some (.slice (some ⟨bz, oz, none⟩) 2 rc) ∧ w.cell? ⟨bz, oz, none⟩ = some (.int .i64 (ptAt (crv x.d.cv) k).1) ∧ w.cell? ⟨bz, oz + 1, none⟩ = some (.int .i64 (ptAt (crv x.d.cv) k).2) := fun k hk => by
    obtain ⟨bt, ot, hA, hr⟩ := HF.out.2.2.at (by omega)
    have hlr : k < x.rs.length := by rw [HF.out.2.2.1]; exact hk
    have hp := List.getElem?_eq_getElem hlr
    have p0 := hr k _ hp
    have hfr := HF.out.2.2.2.2.2 _ (List.mem_of_getElem? hp)
    have hzq : x.d.cv[k]? = some (x.rs[k]).z := by rw [← HF.out.2.1, List.getElem?_map, hp]; rfl
    have h2 := htwo _ (List.mem_of_getElem? hzq)
    have hpt : ptAt (crv x.d.cv) k = toPt (x.rs[k]).z := ptAt_get (by rw [hcrv, List.getElem?_map, hzq]; rfl)
    rw [hpt]
    generalize x.rs[k] = r at *
    obtain ⟨bz, oz, hzA, hzc⟩ := hfr.2.2.1 (by rw [List.length_map, h2]; omega)
    refine ⟨bt, ot, bz, oz, r.c, hA, by rw [p0, hzA, h2], ?_, ?_⟩
    · have := hzc 0 (by rw [List.length_map, h2]; omega)
      rw [Nat.add_zero] at this
      rw [this, List.getElem?_map]
      unfold toPt
      rw [List.getD, List.getElem?_eq_getElem (by omega)]; rfl
    · have := hzc 1 (by rw [List.length_map, h2]; omega)
      rw [this, List.getElem?_map]
      unfold toPt
      rw [List.getD, List.getD, List.getElem?_eq_getElem (by omega), List.getElem?_eq_getElem (by omega)]; rfl
  have HROW := Lib.hid hrow
  have hl2 : 2 ≤ x.d.cv.length := hl.1
  have hl8 : x.d.cv.length ≤ 8 := hl.2.1
  have ⟨n0, n1⟩ := hO
  have HC : Hid (∀ k, k + 1 < x.d.cv.length → (∀ j, 1 ≤ j → j ≤ k → (ptAt (crv x.d.cv) j).1 < q) → q ≤ (ptAt (crv x.d.cv) (k + 1)).1 → headI (crv x.d.cv) q = lineI (ptAt (crv x.d.cv) k).1 (ptAt (crv x.d.cv) k).2 (ptAt (crv x.d.cv) (k + 1)).1 (ptAt (crv x.d.cv) (k + 1)).2 q) := Lib.hid fun k hk hj he => by
    unfold headI
    have hle := okC_le HOK.out (k + 1) ((crv x.d.cv).length - 1) (by rw [HLEN.out]; omega) (by rw [HLEN.out]; omega)
    rw [if_pos (by omega)]
    exact curve_at (crv x.d.cv) q k (by rw [HLEN.out]; omega) hj (.inl he)
  have HE : Hid ((∀ j, 1 ≤ j → j < x.d.cv.length → (ptAt (crv x.d.cv) j).1 < q) → headI (crv x.d.cv) q = 0) := Lib.hid fun hj => by
    have := hj (x.d.cv.length - 1) (by omega) (by omega)
    unfold headI
    rw [HLEN.out, if_neg (by omega)]
  have HBD := Lib.hid (fun k (hk : k < x.d.cv.length) => okC_one HOK.out k (by rw [HLEN.out]; exact hk))
  clear hrow hv hok hcrv htwo hlen hl h hO
  generalize headI (crv x.d.cv) q = R at *
  go_enter Try.func55, Try.ntmps55
  go_wp2
  go_loopw [5] (fun i wr => ∃ k : Nat, 1 ≤ k ∧ k ≤ x.d.cv.length ∧ i = .int .i64 k ∧ Hid (∀ j, 1 ≤ j → j < k → (ptAt (crv x.d.cv) j).1 < q) ∧ Drawn w wr) (fun i _ => x.d.cv.length - (intOf i).toNat)
  case atStart => exact ⟨1, by omega, by omega, rfl, Lib.hid (fun j h1 h2 => by omega), Drawn.rfl' _⟩
  case round =>
    obtain ⟨k, hk1, hk, rfl, HJ, ⟨nr, rfl⟩⟩ := hrel
    by_cases hlt : k < x.d.cv.length
    · obtain ⟨r, hr⟩ : ∃ r, k = r + 1 := ⟨k - 1, by omega⟩
      obtain ⟨bt, ot, bz, oz, rc, hA, p0, p1, p2⟩ := HROW.out k hlt
      obtain ⟨bt', ot', by', oy, rc', hA', q0, q1, q2⟩ := HROW.out r (by omega)
      rw [hA] at hA'
      cases hA'
      have HA := Lib.hid hA
      rw [hA] at n1
      clear hA
      have HCk : Hid (q ≤ (ptAt (crv x.d.cv) k).1 → R = lineI (ptAt (crv x.d.cv) r).1 (ptAt (crv x.d.cv) r).2 (ptAt (crv x.d.cv) k).1 (ptAt (crv x.d.cv) k).2 q) := Lib.hid fun he => by
        rw [hr] at he ⊢
        exact HC.out r (by omega) (fun j h1 h2 => HJ.out j h1 (by omega)) he
      have b1 := HBD.out k hlt
      have b2 := HBD.out r (by omega)
      have HJ2 : Hid ((ptAt (crv x.d.cv) k).1 < q → ∀ j, 1 ≤ j → j < k + 1 → (ptAt (crv x.d.cv) j).1 < q) := Lib.hid fun he j h1 h2 => by
        by_cases e : j = k
        · subst e; exact he
        · exact HJ.out j h1 (by omega)
      have hi2 : (0 : Int) ≤ (k : Int) - 1 := by omega
      have hi3 : ((k : Int) - 1).toNat = r := by omega
      have hi4 : (k : Int) - 1 < (x.d.cv.length : Int) := by omega
      have HR := Lib.hid hr
      clear hr
      generalize hpk : ptAt (crv x.d.cv) k = pk at b1 p1 p2 HCk HJ2
      generalize hpr : ptAt (crv x.d.cv) r = pr at b2 q1 q2 HCk
      clear hpk hpr
      by_cases hq : q ≤ pk.1
      · have HV : Hid (R = lineI pr.1 pr.2 pk.1 pk.2 q) := Lib.hid (HCk.out hq)
        have HLI := Lib.hid (fun wx => line_any pr.1 pr.2 pk.1 pk.2 q wx (by omega) (by omega) (by omega) (by omega))
        go_wp2
        go_quiet ((go_at_call 107; exact quiet_same2 (HLI.out _)))
        go_wp2
        go_ret
        exact ⟨by rw [HV.out]; rfl, ⟨_, World.drewN_drewN ..⟩⟩
      · have HJ3 := Lib.hid (HJ2.out (by omega))
        have hq' : pk.1 < q := by omega
        clear hq
        go_wp2
        go_roundw
        case rel => exact ⟨k + 1, by omega, by omega, by go_num, HJ3, ⟨_, rfl⟩⟩
        case measure => simp [intOf]; omega
    · have e : k = x.d.cv.length := by omega
      have HV : Hid (R = 0) := Lib.hid (HE.out (fun j h1 h2 => HJ.out j h1 (by omega)))
      have hk9 : ¬ ((k : Int) < (x.d.cv.length : Int)) := by omega
      go_wp2
      go_ret
      exact ⟨by rw [HV.out]; rfl, ⟨_, rfl⟩⟩
end Go.Proofs.Ytkbkmpcdidhagab
