/-
  NodeLoads of both sides.
-/
import Derived.Test.YtnepehdfkaegbaaLd4
import Derived.Deep.RegionWith
import Derived.Laws.OwnMore
namespace Go.Proofs.Ytnepehdfkaegbaa
open Go.ChangeShapes Go.WideShapes Go.ChangeAt Go.RowKit

set_option maxRecDepth 100000
set_option maxHeartbeats 4000000
set_option linter.unusedVariables false

def addAt (l : List Int) (i : Nat) (v : Int) : List Int := l.set i (l.getD i 0 + v)
theorem addAt_length (l : List Int) (i : Nat) (v : Int) : (addAt l i v).length = l.length := by simp [addAt]
theorem addAt_bd (l : List Int) (i : Nat) (v K M : Int) (h : ∀ z ∈ l, 0 ≤ z ∧ z ≤ K) (hv0 : 0 ≤ v) (hv : K + v ≤ M) (hi : i < l.length) : ∀ z ∈ addAt l i v, 0 ≤ z ∧ z ≤ M := by
  intro z hz
  unfold addAt at hz
  have h0 := h (l.getD i 0) (by simp [List.getD, hi])
  rcases List.mem_or_eq_of_mem_set hz with h1 | h1
  · have := h z h1; omega
  · omega
def nodesTo (ds : List Bl) (n : Nat) (t h : Int) (k : Nat) : List Int := (ds.take k).foldl (fun l d => addAt l d.nd.toNat (loadI d t h)) (List.replicate n 0)
theorem nodesTo_zero (ds : List Bl) (n : Nat) (t h : Int) : nodesTo ds n t h 0 = List.replicate n 0 := by simp [nodesTo]
theorem nodesTo_succ (ds : List Bl) (n : Nat) (t h : Int) (k : Nat) (d : Bl) (hd : ds[k]? = some d) : nodesTo ds n t h (k + 1) = addAt (nodesTo ds n t h k) d.nd.toNat (loadI d t h) := by
  unfold nodesTo
  rw [List.take_add_one, hd]
  simp
theorem foldAdd_length (f : Bl → Nat) (g : Bl → Int) : ∀ (ds : List Bl) (l : List Int), (ds.foldl (fun l d => addAt l (f d) (g d)) l).length = l.length
  | [], _ => rfl
  | d :: r, l => by rw [List.foldl_cons, foldAdd_length f g r, addAt_length]
theorem nodesTo_length (ds : List Bl) (n : Nat) (t h : Int) (k : Nat) : (nodesTo ds n t h k).length = n := by
  unfold nodesTo
  rw [foldAdd_length, List.length_replicate]
theorem nodesTo_bd (ds : List Bl) (n : Nat) (t h : Int) (hok : ds.all Bl.ok = true) (hin : ∀ d ∈ ds, 0 ≤ d.nd ∧ d.nd.toNat < n) (ht0 : -4000 ≤ t) (ht1 : t ≤ 4500) : ∀ k, k ≤ ds.length → ∀ z ∈ nodesTo ds n t h k, 0 ≤ z ∧ z ≤ (k : Int) * 11500000
  | 0, _, z, hz => by
    rw [nodesTo_zero] at hz
    have := List.eq_of_mem_replicate hz
    omega
  | k + 1, hk, z, hz => by
    have hlt : k < ds.length := by omega
    have hd := List.getElem?_eq_getElem hlt
    have hm := List.getElem_mem hlt
    rw [nodesTo_succ ds n t h k _ hd] at hz
    have hb := load_bd (List.all_eq_true.1 hok _ hm) t ht0 ht1 h
    exact addAt_bd _ _ _ ((k : Int) * 11500000) _ (nodesTo_bd ds n t h hok hin ht0 ht1 k (by omega)) hb.1 (by omega) (by rw [nodesTo_length]; exact (hin _ hm).2) z hz
def insideB (ds : List Bl) (n : Int) : Bool := ds.all fun d => decide (d.nd < n)
def nlB (n t h : Int) : Bool := inB n 1 16 && (inB t (-4000) 4500 && inB h 0 23)
def nodeLoadsX (ds : List Bl) (n t h : Int) : List Int := if okBs ds && nlB n t h && insideB ds n then nodesTo ds n.toNat t h ds.length else []
def nodeLoadsC (ds : List Bl) (n t h : Int) : Int := if okBs ds then (if nlB n t h then (if insideB ds n then 0 else 6) else 2) else 1
theorem nodeLoadsX_short (ds : List Bl) (n t h : Int) : (nodeLoadsX ds n t h).length ≤ 1048576 := by
  unfold nodeLoadsX
  split
  · rename_i hh
    simp only [Bool.and_eq_true, nlB, inB_iff] at hh
    rw [nodesTo_length]
    omega
  · simp
theorem intsV_set (l : List Int) (i : Nat) (v : Int) : (intsV l).set i (.int .i64 (l.getD i 0 + v)) = intsV (addAt l i v) := by
  unfold intsV addAt
  rw [List.map_set]
theorem fill_zero (n : Nat) : (madeCells (Value.int .i64 0).cells (n * 1)).toList = intsV (List.replicate n 0) := by
  rw [Nat.mul_one]
  show (madeCells #[.int .i64 0] n).toList = _
  rw [toList_madeCells_one]
  simp [intsV]

theorem l05Inside_any (A : Option Addr) (n c : Nat) (xs : List Bd) (m : Int) (w : World) (hx : BdsOk w A n xs) :
    Calls Try.prog 84 #[.slice A n c, .int .i64 m] w fun e w' => e = .returned (.bool (insideB (xs.map Bd.d) m)) ∧ Drawn w w' := by
  obtain rfl := hx.1.1
  have hn := hx.2.1
  have HB := Lib.hid hx.cells
  clear hx
  go_enter Try.func84, Try.ntmps84
  go_wp2
  go_loopw [5] (fun i wr => ∃ q : Nat, q ≤ xs.length ∧ i = .int .i64 q ∧ Hid (insideB ((xs.map Bd.d).take q) m = true) ∧ Drawn w wr) (fun i _ => xs.length - (intOf i).toNat)
  case atStart => exact ⟨0, Nat.zero_le _, rfl, Lib.hid (by simp [insideB]), Drawn.rfl' _⟩
  case round =>
    obtain ⟨q, hq, rfl, HS, ⟨nr, rfl⟩⟩ := hrel
    by_cases hlq : q < xs.length
    · obtain ⟨b2, o2, rfl, hrow⟩ := BdO.at HB.out (by omega)
      have hp := List.getElem?_eq_getElem hlq
      have P := hrow q _ hp
      have hsuc : insideB ((xs.map Bd.d).take (q + 1)) m = (insideB ((xs.map Bd.d).take q) m && decide (xs[q].d.nd < m)) := by
        have := all_take_succ (fun d : Bl => decide (d.nd < m)) (xs.map Bd.d) q (by simpa using hlq)
        simpa [insideB] using this
      have hnot : decide (xs[q].d.nd < m) = false → insideB (xs.map Bd.d) m = false := fun hh => all_false_at (fun d : Bl => decide (d.nd < m)) (xs.map Bd.d) q (by simpa using hlq) (by simpa using hh)
      generalize xs[q] = x at *
      have HSU := Lib.hid hsuc
      have HNO := Lib.hid hnot
      obtain ⟨p0, p1, p2, p3, p4, p5⟩ := P
      clear p0 p2 p3 p4 p5 hp hrow hsuc hnot
      by_cases hl : x.d.nd < m
      · have HL := Lib.hid (decide_eq_true hl)
        go_wp2
        go_roundw
        case rel => exact ⟨q + 1, by omega, by go_num, Lib.hid (by rw [HSU.out, HS.out, HL.out]; rfl), ⟨_, rfl⟩⟩
        case measure => simp [intOf]; omega
      · have HL := Lib.hid (HNO.out (decide_eq_false hl))
        have hl' : m ≤ x.d.nd := by omega
        go_wp2
        go_ret
        exact ⟨by rw [HL.out]; rfl, ⟨_, rfl⟩⟩
    · have e : q = xs.length := by omega
      subst e
      have HE := Lib.hid (by have := HS.out; rw [List.take_of_length_le (by simp)] at this; exact this)
      go_wp2
      go_ret
      exact ⟨by rw [HE.out]; rfl, ⟨_, rfl⟩⟩
theorem l05Nodes_any (A : Option Addr) (n c : Nat) (xs : List Bd) (m : Nat) (t h : Int) (w : World) (hx : BdsOk w A n xs) (hok : (xs.map Bd.d).all Bl.ok = true) (hl : n ≤ 12) (hin : insideB (xs.map Bd.d) m = true) (hm : m ≤ 16) (ht0 : -4000 ≤ t) (ht1 : t ≤ 4500) (hh0 : 0 ≤ h) (hh1 : h < 24) :
    Calls Try.prog 85 #[.slice A n c, .int .i64 m, .int .i64 t, .int .i64 h] w (RetRow 2 (intsV (nodesTo (xs.map Bd.d) m t h n)) w) := by
  obtain rfl := hx.1.1
  have HB := Lib.hid hx.cells
  have HD := Lib.hid hx.1.2.2.2
  have hnd : ∀ x ∈ xs, 0 ≤ x.d.nd ∧ x.d.nd < m := fun x hxm => by
    have h1 := List.all_eq_true.1 hok x.d (List.mem_map.2 ⟨x, hxm, rfl⟩)
    have h2 := List.all_eq_true.1 hin x.d (List.mem_map.2 ⟨x, hxm, rfl⟩)
    have h3 := inB_iff.1 (Bl.ok_parts h1).2.1
    exact ⟨h3.1, by simpa using h2⟩
  have HBD := Lib.hid (nodesTo_bd (xs.map Bd.d) m t h hok (fun d hd => by
    obtain ⟨x, hx1, rfl⟩ := List.mem_map.1 hd
    have := hnd x hx1
    omega) ht0 ht1)
  have HND := Lib.hid hnd
  have HL := Lib.hid (fun (b o : Nat) (x : Bd) (wx : World) (P : BdO wx b o x) (hx : x.fine wx) (ok : x.d.ok = true) => l05Load_any b o x t h wx P hx ok ht0 ht1 hh0 hh1)
  have HLB := Lib.hid (fun (x : Bd) (ok : x.d.ok = true) => load_bd ok t ht0 ht1 h)
  have HOK := Lib.hid (fun (x : Bd) (hx : x ∈ xs) => List.all_eq_true.1 hok x.d (List.mem_map.2 ⟨x, hx, rfl⟩))
  have HLEN := Lib.hid (nodesTo_length (xs.map Bd.d) m t h)
  obtain ⟨i0, hi, hz0, hz1, hz2⟩ := info_parts infoI64
  have hM : m ≤ maxLen := by unfold maxLen; omega
  have hmm : m ≤ 9223372036854775807 := by omega
  clear hx hok hin hnd
  go_enter Try.func85, Try.ntmps85
  go_wp2_with (refine wpList_make_full _ rfl _ _ _ rfl w.heap.size 2 i0 (.int .i64 0) 1 Try.underlying26 hi hz0 hz1 _ _ _ _ m rfl rfl rfl rfl (by rw [hz2]; omega) hM (Nat.le_refl _) ?_; intro w1 hown hgrow)
  have hb1 := Below.grown (Below.refl w.heap.size w) hgrow (Nat.le_refl _) (fun k hk => by cases hk)
  rw [fill_zero] at hown
  go_loopw [10] (fun i wr => ∃ q : Nat, q ≤ xs.length ∧ i = .int .i64 q ∧ wr.ownsRow w.heap.size 2 1 (.slice (some ⟨w.heap.size, 0, none⟩) m m) m (intsV (nodesTo (xs.map Bd.d) m t h q)) ∧ Below w.heap.size w wr) (fun i _ => xs.length - (intOf i).toNat)
  case atStart => exact ⟨0, Nat.zero_le _, rfl, by rw [nodesTo_zero]; exact hown, hb1⟩
  case round =>
    obtain ⟨q, hq, rfl, hro, hb⟩ := hrel
    by_cases hlq : q < xs.length
    · obtain ⟨b2, o2, rfl, hrow⟩ := BdO.at (HB.out.next hb) (by omega)
      have hp := List.getElem?_eq_getElem hlq
      have P := hrow q _ hp
      have hmem := List.mem_of_getElem? hp
      have hs := (HD.out _ hmem).go hb
      have hk := HOK.out _ hmem
      have hnn := HND.out _ hmem
      have hd : (xs.map Bd.d)[q]? = some xs[q].d := by simp [hp]
      have HSU := Lib.hid (nodesTo_succ (xs.map Bd.d) m t h q _ hd)
      have hu := HLB.out _ hk
      have hbq := HBD.out q (by simp; omega)
      generalize xs[q] = x at *
      have hLl := HLEN.out q
      have HSU2 := Lib.hid (intsV_set (nodesTo (xs.map Bd.d) m t h q) x.d.nd.toNat (loadI x.d t h))
      have hzb := hbq ((nodesTo (xs.map Bd.d) m t h q).getD x.d.nd.toNat 0) (by
        have hlt : x.d.nd.toNat < (nodesTo (xs.map Bd.d) m t h q).length := by rw [hLl]; omega
        simp [List.getD, hlt])
      have hc1 := hro.cellAt x.d.nd.toNat (by omega)
      have hf1 := hro.frozenAt x.d.nd.toNat
      rw [intsV_at _ _ (by rw [hLl]; omega)] at hc1
      have hge : (nodesTo (xs.map Bd.d) m t h q)[x.d.nd.toNat]'(by rw [hLl]; omega) = (nodesTo (xs.map Bd.d) m t h q).getD x.d.nd.toNat 0 := by
        have hlt : x.d.nd.toNat < (nodesTo (xs.map Bd.d) m t h q).length := by rw [hLl]; omega
        simp [List.getD, hlt]
      rw [hge] at hc1
      have HC := Lib.hid (fun k => HL.out b2 (o2 + q * 6) x (wr.drewN k) P (hs.go (below_drewN (Below.refl _ _) k)) hk)
      clear hge hbq hLl hp hmem hd hrow hs hk
      have hst := (hro.stored x.d.nd.toNat (.int .i64 ((nodesTo (xs.map Bd.d) m t h q).getD x.d.nd.toNat 0 + loadI x.d t h))).1
      rw [HSU2.out] at hst
      rw [← HSU.out] at hst
      generalize (nodesTo (xs.map Bd.d) m t h q).getD x.d.nd.toNat 0 = z at *
      generalize loadI x.d t h = u at *
      have Hst := Lib.hid hst
      clear hst
      obtain ⟨p0, p1, p2, p3, p4, p5⟩ := P
      clear p0 p2 p3 p4 p5
      obtain ⟨hn0, hn1⟩ := hnn
      have hq12 : (q : Int) ≤ 12 := by omega
      have hs0 : 0 ≤ z + u := by omega
      have hs1 : z + u ≤ 200000000 := by omega
      go_wp2
      go_region_with ((go_at_call 70; refine (HC.out _).mono ?_; rintro e w' ⟨rfl, ⟨k2, rfl⟩⟩))
      all_goals go_wp2
      all_goals go_roundw
      all_goals first
        | (simp [intOf]; omega)
        | exact ⟨q + 1, by omega, by go_num, Hst.out, (below_drewN hb _).setCell (Nat.le_refl _) _⟩
    · have e : q = xs.length := by omega
      subst e
      go_wp2
      go_ret
      exact retRow_mk rfl hro rfl hb

theorem out_at {w : World} {base g c n : Nat} {L : List Int} {i : Nat} (hro : w.ownsRow base 2 1 (.slice (some ⟨g, 0, none⟩) n c) n (intsV L)) (hL : L.length = n) (hi : i < n) : w.cell? ⟨g, i, none⟩ = some (.int .i64 (L.getD i 0)) ∧ w.frozen? ⟨g, i, none⟩ = false := by
  have hc1 := hro.cellAt i (by omega)
  rw [intsV_at _ _ (by omega)] at hc1
  have hge : L[i]'(by omega) = L.getD i 0 := by simp [List.getD, show i < L.length by omega]
  rw [hge] at hc1
  exact ⟨hc1, hro.frozenAt i⟩
theorem nodesTo_take (ds : List Bl) (n : Nat) (t h : Int) (k : Nat) : nodesTo (ds.take k) n t h k = nodesTo ds n t h k := by unfold nodesTo; rw [List.take_take, Nat.min_self]
theorem nodes_parts {ds : List Bl} {m t h : Int} (ho : okBs ds = true) (hr : nlB m t h = true) (hi : insideB ds m = true) : nodeLoadsX ds m t h = nodesTo ds m.toNat t h ds.length ∧ nodeLoadsC ds m t h = 0 := by
  unfold nodeLoadsX nodeLoadsC
  rw [ho, hr, hi]
  exact ⟨rfl, rfl⟩
theorem specNodeLoads_ic (A : Option Addr) (n c : Nat) (xs : List Bd) (m t h : Int) (w : World) (hx : BdsOk w A n xs) :
    Calls Try.prog 44 #[.slice A n c, .int .i64 m, .int .i64 t, .int .i64 h] w (RetIC (nodeLoadsX (xs.map Bd.d) m t h) (nodeLoadsC (xs.map Bd.d) m t h) w) := by
  have hlen := hx.1.1
  have HO := Lib.hid (fun k => l05Ok_any A n c xs (w.drewN k) (hx.go (below_drewN (Below.refl _ _) k)))
  have HI := Lib.hid (fun k => l05Inside_any A n c xs m (w.drewN k) (hx.go (below_drewN (Below.refl _ _) k)))
  have HX := Lib.hid hx
  clear hx
  by_cases ho : okBs (xs.map Bd.d) = true
  rotate_left
  · have ho : okBs (xs.map Bd.d) = false := by simpa only [Bool.not_eq_true] using ho
    have hX : nodeLoadsX (xs.map Bd.d) m t h = [] := by unfold nodeLoadsX nlB; simp [*]
    have hC : nodeLoadsC (xs.map Bd.d) m t h = 1 := by unfold nodeLoadsC nlB; simp [*]
    rw [hX, hC]
    clear hX hC
    go_enter Try.func44, Try.ntmps44
    go_wp2_with fail
    refine (HO.out 0).mono ?_
    rintro e w1 ⟨rfl, ⟨n1, rfl⟩⟩
    rw [ho]
    go_wp2
    go_ret2
    exact retIC_nil rfl (below_drewN (Below.refl _ _) _)
  by_cases k0 : inB m 1 16 = true
  rotate_left
  · have k0 : inB m 1 16 = false := by simpa only [Bool.not_eq_true] using k0
    have hX : nodeLoadsX (xs.map Bd.d) m t h = [] := by unfold nodeLoadsX nlB; simp [*]
    have hC : nodeLoadsC (xs.map Bd.d) m t h = 2 := by unfold nodeLoadsC nlB; simp [*]
    rw [hX, hC]
    clear hX hC
    go_enter Try.func44, Try.ntmps44
    go_wp2_with fail
    refine (HO.out 0).mono ?_
    rintro e w1 ⟨rfl, ⟨n1, rfl⟩⟩
    rw [ho]
    go_wp2_with (first | (go_at_call 83; refine (in_any _ _ _ _).mono ?_; rintro e w' ⟨rfl, rfl⟩) | (go_at_call 68; refine (l05Outdoor_any _ _).mono ?_; rintro e w' ⟨rfl, rfl⟩) | (go_at_call 69; refine (l05Hour_any _ _).mono ?_; rintro e w' ⟨rfl, rfl⟩))
    go_ret2
    exact retIC_nil rfl (below_drewN (Below.refl _ _) _)
  by_cases k1 : inB t (-4000) 4500 = true
  rotate_left
  · have k1 : inB t (-4000) 4500 = false := by simpa only [Bool.not_eq_true] using k1
    have hX : nodeLoadsX (xs.map Bd.d) m t h = [] := by unfold nodeLoadsX nlB; simp [*]
    have hC : nodeLoadsC (xs.map Bd.d) m t h = 2 := by unfold nodeLoadsC nlB; simp [*]
    rw [hX, hC]
    clear hX hC
    go_enter Try.func44, Try.ntmps44
    go_wp2_with fail
    refine (HO.out 0).mono ?_
    rintro e w1 ⟨rfl, ⟨n1, rfl⟩⟩
    rw [ho]
    go_wp2_with (first | (go_at_call 83; refine (in_any _ _ _ _).mono ?_; rintro e w' ⟨rfl, rfl⟩) | (go_at_call 68; refine (l05Outdoor_any _ _).mono ?_; rintro e w' ⟨rfl, rfl⟩) | (go_at_call 69; refine (l05Hour_any _ _).mono ?_; rintro e w' ⟨rfl, rfl⟩))
    go_ret2
    exact retIC_nil rfl (below_drewN (Below.refl _ _) _)
  by_cases k2 : inB h 0 23 = true
  rotate_left
  · have k2 : inB h 0 23 = false := by simpa only [Bool.not_eq_true] using k2
    have hX : nodeLoadsX (xs.map Bd.d) m t h = [] := by unfold nodeLoadsX nlB; simp [*]
    have hC : nodeLoadsC (xs.map Bd.d) m t h = 2 := by unfold nodeLoadsC nlB; simp [*]
    rw [hX, hC]
    clear hX hC
    go_enter Try.func44, Try.ntmps44
    go_wp2_with fail
    refine (HO.out 0).mono ?_
    rintro e w1 ⟨rfl, ⟨n1, rfl⟩⟩
    rw [ho]
    go_wp2_with (first | (go_at_call 83; refine (in_any _ _ _ _).mono ?_; rintro e w' ⟨rfl, rfl⟩) | (go_at_call 68; refine (l05Outdoor_any _ _).mono ?_; rintro e w' ⟨rfl, rfl⟩) | (go_at_call 69; refine (l05Hour_any _ _).mono ?_; rintro e w' ⟨rfl, rfl⟩))
    go_ret2
    exact retIC_nil rfl (below_drewN (Below.refl _ _) _)
  have hr : nlB m t h = true := by unfold nlB; simp [*]
  obtain ⟨b1, b2, -⟩ := okBs_parts ho
  rw [List.length_map, hlen] at b1
  have q0 := inB_iff.1 k0
  have q1 := inB_iff.1 k1
  have q2 := inB_iff.1 k2
  by_cases hi : insideB (xs.map Bd.d) m = true
  rotate_left
  · have hi : insideB (xs.map Bd.d) m = false := by simpa only [Bool.not_eq_true] using hi
    have hX : nodeLoadsX (xs.map Bd.d) m t h = [] := by unfold nodeLoadsX; simp [*]
    have hC : nodeLoadsC (xs.map Bd.d) m t h = 6 := by unfold nodeLoadsC; simp [*]
    rw [hX, hC]
    clear hX hC
    go_enter Try.func44, Try.ntmps44
    go_wp2_with fail
    refine (HO.out 0).mono ?_
    rintro e w1 ⟨rfl, ⟨n1, rfl⟩⟩
    rw [ho]
    go_wp2_with (first | (go_at_call 83; refine (in_any _ _ _ _).mono ?_; rintro e w' ⟨rfl, rfl⟩) | (go_at_call 68; refine (l05Outdoor_any _ _).mono ?_; rintro e w' ⟨rfl, rfl⟩) | (go_at_call 69; refine (l05Hour_any _ _).mono ?_; rintro e w' ⟨rfl, rfl⟩) | (go_at_call 84; refine (HI.out _).mono ?_; rintro e w' ⟨rfl, ⟨n2, rfl⟩⟩; rw [hi]))
    go_ret2
    exact retIC_nil rfl (below_drewN (Below.refl _ _) _)
  have HP := Lib.hid (nodes_parts ho hr hi)
  obtain ⟨mm, rfl⟩ : ∃ mm : Nat, m = mm := ⟨m.toNat, by omega⟩
  have HN := Lib.hid (fun k => l05Nodes_any A n c xs mm t h (w.drewN k) (HX.out.go (below_drewN (Below.refl _ _) k)) b2 b1 hi (by omega) q1.1 q1.2 q2.1 (by omega))
  clear hr b2
  go_enter Try.func44, Try.ntmps44
  go_wp2_with fail
  refine (HO.out 0).mono ?_
  rintro e w1 ⟨rfl, ⟨n1, rfl⟩⟩
  rw [ho]
  go_wp2_with (first | (go_at_call 83; refine (in_any _ _ _ _).mono ?_; rintro e w' ⟨rfl, rfl⟩) | (go_at_call 68; refine (l05Outdoor_any _ _).mono ?_; rintro e w' ⟨rfl, rfl⟩) | (go_at_call 69; refine (l05Hour_any _ _).mono ?_; rintro e w' ⟨rfl, rfl⟩) | (go_at_call 84; refine (HI.out _).mono ?_; rintro e w' ⟨rfl, ⟨n2, rfl⟩⟩; rw [hi]) | (go_at_call 85; refine (HN.out _).mono ?_; rintro e w3 ⟨A3, c3, rfl, o3, hb3⟩))
  go_ret2
  have hb4 : Below w.heap.size w w3 := bnext (below_drewN (Below.refl _ _) _) hb3
  refine retIC_mk (base := w.heap.size) (by rw [HP.out.2]; rfl) ?_ (Nat.le_refl _) hb4
  rw [HP.out.1, Int.toNat_natCast, List.length_map, hlen]
  exact o3

theorem implNodeLoads_ic (A : Option Addr) (n c : Nat) (xs : List Bd) (m t h : Int) (w : World) (hx : BdsOk w A n xs) :
    Calls Try.prog 45 #[.slice A n c, .int .i64 m, .int .i64 t, .int .i64 h] w (RetIC (nodeLoadsX (xs.map Bd.d) m t h) (nodeLoadsC (xs.map Bd.d) m t h) w) := by
  have hlen := hx.1.1
  have hb : Below w.heap.size w w := Below.refl _ _
  have HV := Lib.hid (fun wx (hb : Below w.heap.size w wx) => implVB_any A n c xs wx (hx.go hb))
  have HX := Lib.hid hx
  clear hx
  by_cases ho : okBs (xs.map Bd.d) = true
  rotate_left
  · have ho : okBs (xs.map Bd.d) = false := by simpa only [Bool.not_eq_true] using ho
    by_cases k0 : inB m 1 16 = true
    rotate_left
    · have k0 : inB m 1 16 = false := by simpa only [Bool.not_eq_true] using k0
      have hX : nodeLoadsX (xs.map Bd.d) m t h = [] := by unfold nodeLoadsX nlB; simp [*]
      have hC : nodeLoadsC (xs.map Bd.d) m t h = 1 := by unfold nodeLoadsC nlB; simp [*]
      rw [hX, hC]
      clear hX hC
      go_enter Try.func45, Try.ntmps45
      go_wp2_with (first | (go_at_call 29; refine (HV.out _ hb).mono ?_; rintro e w' ⟨rfl, hb'⟩; have hb := bnext hb hb'; rw [ho]) | (go_at_call 86; refine (one64Free _ 1 16 _ _ _ (by simp)).mono ?_; rintro e w' ⟨rfl, hb'⟩; have hb := bnext hb hb'; rw [k0]) | (go_at_call 66; refine (isOutdoor_any _ _).mono ?_; rintro e w' ⟨rfl, hb'⟩; first | have hb := bnext hb hb' | have hb := bnext (bal hb _) hb'; rw [k1]) | (go_at_call 62; refine (isHour_any _ _).mono ?_; rintro e w' ⟨rfl, hb'⟩; first | have hb := bnext hb hb' | have hb := bnext (bal hb _) hb'; rw [k2]) | (go_at_call 61; refine (argumentCode_any _ _ _).mono ?_; rintro e w' ⟨rfl, rfl⟩))
      go_ret2
      exact retIC_nil rfl hb
    by_cases k1 : inB t (-4000) 4500 = true
    rotate_left
    · have k1 : inB t (-4000) 4500 = false := by simpa only [Bool.not_eq_true] using k1
      have hX : nodeLoadsX (xs.map Bd.d) m t h = [] := by unfold nodeLoadsX nlB; simp [*]
      have hC : nodeLoadsC (xs.map Bd.d) m t h = 1 := by unfold nodeLoadsC nlB; simp [*]
      rw [hX, hC]
      clear hX hC
      go_enter Try.func45, Try.ntmps45
      go_wp2_with (first | (go_at_call 29; refine (HV.out _ hb).mono ?_; rintro e w' ⟨rfl, hb'⟩; have hb := bnext hb hb'; rw [ho]) | (go_at_call 86; refine (one64Free _ 1 16 _ _ _ (by simp)).mono ?_; rintro e w' ⟨rfl, hb'⟩; have hb := bnext hb hb'; rw [k0]) | (go_at_call 66; refine (isOutdoor_any _ _).mono ?_; rintro e w' ⟨rfl, hb'⟩; first | have hb := bnext hb hb' | have hb := bnext (bal hb _) hb'; rw [k1]) | (go_at_call 62; refine (isHour_any _ _).mono ?_; rintro e w' ⟨rfl, hb'⟩; first | have hb := bnext hb hb' | have hb := bnext (bal hb _) hb'; rw [k2]) | (go_at_call 61; refine (argumentCode_any _ _ _).mono ?_; rintro e w' ⟨rfl, rfl⟩))
      go_ret2
      exact retIC_nil rfl hb
    by_cases k2 : inB h 0 23 = true
    rotate_left
    · have k2 : inB h 0 23 = false := by simpa only [Bool.not_eq_true] using k2
      have hX : nodeLoadsX (xs.map Bd.d) m t h = [] := by unfold nodeLoadsX nlB; simp [*]
      have hC : nodeLoadsC (xs.map Bd.d) m t h = 1 := by unfold nodeLoadsC nlB; simp [*]
      rw [hX, hC]
      clear hX hC
      go_enter Try.func45, Try.ntmps45
      go_wp2_with (first | (go_at_call 29; refine (HV.out _ hb).mono ?_; rintro e w' ⟨rfl, hb'⟩; have hb := bnext hb hb'; rw [ho]) | (go_at_call 86; refine (one64Free _ 1 16 _ _ _ (by simp)).mono ?_; rintro e w' ⟨rfl, hb'⟩; have hb := bnext hb hb'; rw [k0]) | (go_at_call 66; refine (isOutdoor_any _ _).mono ?_; rintro e w' ⟨rfl, hb'⟩; first | have hb := bnext hb hb' | have hb := bnext (bal hb _) hb'; rw [k1]) | (go_at_call 62; refine (isHour_any _ _).mono ?_; rintro e w' ⟨rfl, hb'⟩; first | have hb := bnext hb hb' | have hb := bnext (bal hb _) hb'; rw [k2]) | (go_at_call 61; refine (argumentCode_any _ _ _).mono ?_; rintro e w' ⟨rfl, rfl⟩))
      go_ret2
      exact retIC_nil rfl hb
    have hX : nodeLoadsX (xs.map Bd.d) m t h = [] := by unfold nodeLoadsX nlB; simp [*]
    have hC : nodeLoadsC (xs.map Bd.d) m t h = 1 := by unfold nodeLoadsC nlB; simp [*]
    rw [hX, hC]
    clear hX hC
    go_enter Try.func45, Try.ntmps45
    go_wp2_with (first | (go_at_call 29; refine (HV.out _ hb).mono ?_; rintro e w' ⟨rfl, hb'⟩; have hb := bnext hb hb'; rw [ho]) | (go_at_call 86; refine (one64Free _ 1 16 _ _ _ (by simp)).mono ?_; rintro e w' ⟨rfl, hb'⟩; have hb := bnext hb hb'; rw [k0]) | (go_at_call 66; refine (isOutdoor_any _ _).mono ?_; rintro e w' ⟨rfl, hb'⟩; first | have hb := bnext hb hb' | have hb := bnext (bal hb _) hb'; rw [k1]) | (go_at_call 62; refine (isHour_any _ _).mono ?_; rintro e w' ⟨rfl, hb'⟩; first | have hb := bnext hb hb' | have hb := bnext (bal hb _) hb'; rw [k2]) | (go_at_call 61; refine (argumentCode_any _ _ _).mono ?_; rintro e w' ⟨rfl, rfl⟩))
    go_ret2
    exact retIC_nil rfl hb
  by_cases k0 : inB m 1 16 = true
  rotate_left
  · have k0 : inB m 1 16 = false := by simpa only [Bool.not_eq_true] using k0
    have hX : nodeLoadsX (xs.map Bd.d) m t h = [] := by unfold nodeLoadsX nlB; simp [*]
    have hC : nodeLoadsC (xs.map Bd.d) m t h = 2 := by unfold nodeLoadsC nlB; simp [*]
    rw [hX, hC]
    clear hX hC
    go_enter Try.func45, Try.ntmps45
    go_wp2_with (first | (go_at_call 29; refine (HV.out _ hb).mono ?_; rintro e w' ⟨rfl, hb'⟩; have hb := bnext hb hb'; rw [ho]) | (go_at_call 86; refine (one64Free _ 1 16 _ _ _ (by simp)).mono ?_; rintro e w' ⟨rfl, hb'⟩; have hb := bnext hb hb'; rw [k0]) | (go_at_call 66; refine (isOutdoor_any _ _).mono ?_; rintro e w' ⟨rfl, hb'⟩; first | have hb := bnext hb hb' | have hb := bnext (bal hb _) hb'; rw [k1]) | (go_at_call 62; refine (isHour_any _ _).mono ?_; rintro e w' ⟨rfl, hb'⟩; first | have hb := bnext hb hb' | have hb := bnext (bal hb _) hb'; rw [k2]) | (go_at_call 61; refine (argumentCode_any _ _ _).mono ?_; rintro e w' ⟨rfl, rfl⟩))
    go_ret2
    exact retIC_nil rfl hb
  by_cases k1 : inB t (-4000) 4500 = true
  rotate_left
  · have k1 : inB t (-4000) 4500 = false := by simpa only [Bool.not_eq_true] using k1
    have hX : nodeLoadsX (xs.map Bd.d) m t h = [] := by unfold nodeLoadsX nlB; simp [*]
    have hC : nodeLoadsC (xs.map Bd.d) m t h = 2 := by unfold nodeLoadsC nlB; simp [*]
    rw [hX, hC]
    clear hX hC
    go_enter Try.func45, Try.ntmps45
    go_wp2_with (first | (go_at_call 29; refine (HV.out _ hb).mono ?_; rintro e w' ⟨rfl, hb'⟩; have hb := bnext hb hb'; rw [ho]) | (go_at_call 86; refine (one64Free _ 1 16 _ _ _ (by simp)).mono ?_; rintro e w' ⟨rfl, hb'⟩; have hb := bnext hb hb'; rw [k0]) | (go_at_call 66; refine (isOutdoor_any _ _).mono ?_; rintro e w' ⟨rfl, hb'⟩; first | have hb := bnext hb hb' | have hb := bnext (bal hb _) hb'; rw [k1]) | (go_at_call 62; refine (isHour_any _ _).mono ?_; rintro e w' ⟨rfl, hb'⟩; first | have hb := bnext hb hb' | have hb := bnext (bal hb _) hb'; rw [k2]) | (go_at_call 61; refine (argumentCode_any _ _ _).mono ?_; rintro e w' ⟨rfl, rfl⟩))
    go_ret2
    exact retIC_nil rfl hb
  by_cases k2 : inB h 0 23 = true
  rotate_left
  · have k2 : inB h 0 23 = false := by simpa only [Bool.not_eq_true] using k2
    have hX : nodeLoadsX (xs.map Bd.d) m t h = [] := by unfold nodeLoadsX nlB; simp [*]
    have hC : nodeLoadsC (xs.map Bd.d) m t h = 2 := by unfold nodeLoadsC nlB; simp [*]
    rw [hX, hC]
    clear hX hC
    go_enter Try.func45, Try.ntmps45
    go_wp2_with (first | (go_at_call 29; refine (HV.out _ hb).mono ?_; rintro e w' ⟨rfl, hb'⟩; have hb := bnext hb hb'; rw [ho]) | (go_at_call 86; refine (one64Free _ 1 16 _ _ _ (by simp)).mono ?_; rintro e w' ⟨rfl, hb'⟩; have hb := bnext hb hb'; rw [k0]) | (go_at_call 66; refine (isOutdoor_any _ _).mono ?_; rintro e w' ⟨rfl, hb'⟩; first | have hb := bnext hb hb' | have hb := bnext (bal hb _) hb'; rw [k1]) | (go_at_call 62; refine (isHour_any _ _).mono ?_; rintro e w' ⟨rfl, hb'⟩; first | have hb := bnext hb hb' | have hb := bnext (bal hb _) hb'; rw [k2]) | (go_at_call 61; refine (argumentCode_any _ _ _).mono ?_; rintro e w' ⟨rfl, rfl⟩))
    go_ret2
    exact retIC_nil rfl hb
  have hr : nlB m t h = true := by unfold nlB; simp [*]
  obtain ⟨b1, b2, -⟩ := okBs_parts ho
  rw [List.length_map, hlen] at b1
  have q0 := inB_iff.1 k0
  have q1 := inB_iff.1 k1
  have q2 := inB_iff.1 k2
  have HP := Lib.hid (fun hi => nodes_parts ho hr hi)
  have HNP := Lib.hid (show insideB (xs.map Bd.d) m = false → nodeLoadsX (xs.map Bd.d) m t h = [] ∧ nodeLoadsC (xs.map Bd.d) m t h = 6 from fun hi => ⟨by unfold nodeLoadsX; simp [*], by unfold nodeLoadsC; simp [*]⟩)
  obtain ⟨mm, rfl⟩ : ∃ mm : Nat, m = mm := ⟨m.toNat, by omega⟩
  have HB := Lib.hid HX.out.cells
  have HD := Lib.hid HX.out.1.2.2.2
  have HOK := Lib.hid (fun (x : Bd) (hx : x ∈ xs) => List.all_eq_true.1 b2 x.d (List.mem_map.2 ⟨x, hx, rfl⟩))
  have HBD := Lib.hid (fun q (hq : q ≤ xs.length) (hi : insideB ((xs.map Bd.d).take q) mm = true) => by
    have := nodesTo_bd ((xs.map Bd.d).take q) mm t h (List.all_eq_true.2 fun d hd => List.all_eq_true.1 b2 d (List.mem_of_mem_take hd)) (fun d hd => by
      have h1 := List.all_eq_true.1 b2 d (List.mem_of_mem_take hd)
      have h2 := List.all_eq_true.1 hi d hd
      have h3 := inB_iff.1 (Bl.ok_parts h1).2.1
      have h4 : d.nd < mm := by simpa using h2
      omega) q1.1 q1.2 q (by simp; omega)
    rw [nodesTo_take] at this
    exact this)
  have HL := Lib.hid (fun (x : Bd) (wx : World) (hx : x.fine wx) (ok : x.d.ok = true) => load_any x t h wx hx ok q1.1 q1.2 q2.1 (by omega))
  have HLB := Lib.hid (fun (x : Bd) (ok : x.d.ok = true) => load_bd ok t q1.1 q1.2 h)
  have HLEN := Lib.hid (nodesTo_length (xs.map Bd.d) mm t h)
  obtain ⟨i0, hi, hz0, hz1, hz2⟩ := info_parts infoI64
  have hM : mm ≤ maxLen := by unfold maxLen; omega
  have hmm : mm ≤ 9223372036854775807 := by omega
  have HLX := Lib.hid hlen
  subst hlen
  clear hr b2
  go_enter Try.func45, Try.ntmps45
  go_wp2_with (first | (go_at_call 29; refine (HV.out _ hb).mono ?_; rintro e w' ⟨rfl, hb'⟩; have hb := bnext hb hb'; rw [ho]) | (go_at_call 86; refine (one64Free _ 1 16 _ _ _ (by simp)).mono ?_; rintro e w' ⟨rfl, hb'⟩; have hb := bnext hb hb'; rw [k0]) | (go_at_call 66; refine (isOutdoor_any _ _).mono ?_; rintro e w' ⟨rfl, hb'⟩; first | have hb := bnext hb hb' | have hb := bnext (bal hb _) hb'; rw [k1]) | (go_at_call 62; refine (isHour_any _ _).mono ?_; rintro e w' ⟨rfl, hb'⟩; first | have hb := bnext hb hb' | have hb := bnext (bal hb _) hb'; rw [k2]) | (go_at_call 61; refine (argumentCode_any _ _ _).mono ?_; rintro e w' ⟨rfl, rfl⟩) | (refine wpList_make_full _ rfl _ _ _ rfl _ 2 i0 (.int .i64 0) 1 Try.underlying26 hi hz0 hz1 _ _ _ _ mm rfl rfl rfl rfl (by rw [hz2]; omega) hM (Nat.le_refl _) ?_; intro w1 hown hgrow))
  have hb1 := Below.grown hb hgrow hb.size (fun k hk => by cases hk)
  have hsz := hb.size
  rw [fill_zero] at hown
  clear hgrow hb
  go_loopw [37] (fun i wr => ∃ q : Nat, q ≤ xs.length ∧ i = .int .i64 q ∧ Hid (insideB ((xs.map Bd.d).take q) mm = true) ∧ wr.ownsRow w'.heap.size 2 1 (.slice (some ⟨w'.heap.size, 0, none⟩) mm mm) mm (intsV (nodesTo (xs.map Bd.d) mm t h q)) ∧ Below w.heap.size w wr) (fun i _ => xs.length - (intOf i).toNat)
  case atStart => exact ⟨0, Nat.zero_le _, rfl, Lib.hid (by simp [insideB]), by rw [nodesTo_zero]; exact hown, hb1⟩
  case round =>
    clear hown hb1
    obtain ⟨q, hq, rfl, HIN, hro, hb⟩ := hrel
    by_cases hlq : q < xs.length
    · obtain ⟨b2, o2, rfl, hrow⟩ := BdO.at (HB.out.next hb) (by omega)
      have hp := List.getElem?_eq_getElem hlq
      have P := hrow q _ hp
      have hmem := List.mem_of_getElem? hp
      have hs := (HD.out _ hmem).go hb
      have hk := HOK.out _ hmem
      have hd : (xs.map Bd.d)[q]? = some xs[q].d := by simp [hp]
      have HSU := Lib.hid (nodesTo_succ (xs.map Bd.d) mm t h q _ hd)
      have hu := HLB.out _ hk
      have hsuc : insideB ((xs.map Bd.d).take (q + 1)) mm = (insideB ((xs.map Bd.d).take q) mm && decide (xs[q].d.nd < mm)) := by
        have := all_take_succ (fun d : Bl => decide (d.nd < mm)) (xs.map Bd.d) q (by simpa using hlq)
        simpa [insideB] using this
      have HSI := Lib.hid hsuc
      have HNO := Lib.hid (show decide (xs[q].d.nd < mm) = false → insideB (xs.map Bd.d) mm = false from fun hh => all_false_at (fun d : Bl => decide (d.nd < mm)) (xs.map Bd.d) q (by simpa using hlq) (by simpa using hh))
      have hn3 := inB_iff.1 (Bl.ok_parts hk).2.1
      have hbq := HBD.out q hq HIN.out
      generalize xs[q] = x at *
      have hbr : Below wr.heap.size wr (wr.alloc (.cells #[.string x.d.id, .int .i64 x.d.nd, .int .i64 x.d.ba, .int .i64 x.d.sl, .int .i64 x.d.li, .slice x.prA x.d.pr.length x.prc] 40)) := bal (Below.refl _ _) _
      have hro := owns_below hro hbr (Nat.le_refl _)
      have hN := BdO.new wr x 40
      have hb2 := bnext hb hbr
      have hs2 := hs.go hbr
      have HC := Lib.hid (fun wx (hbx : Below wr.heap.size wr wx) => HL.out x wx (hs.go hbx) hk)
      obtain ⟨s0, s1, s2, s3, s4, s5⟩ := P
      clear hp hmem hd hrow hs hsuc hs2 hk
      by_cases hl : x.d.nd < mm
      · have HLT := Lib.hid (decide_eq_true hl)
        have hLl := HLEN.out q
        have hzb := hbq ((nodesTo (xs.map Bd.d) mm t h q).getD x.d.nd.toNat 0) (by
          have hlt : x.d.nd.toNat < (nodesTo (xs.map Bd.d) mm t h q).length := by rw [hLl]; omega
          simp [List.getD, hlt])
        have HSU2 := Lib.hid (intsV_set (nodesTo (xs.map Bd.d) mm t h q) x.d.nd.toNat (loadI x.d t h))
        obtain ⟨z, hz⟩ : ∃ z, (nodesTo (xs.map Bd.d) mm t h q).getD x.d.nd.toNat 0 = z := ⟨_, rfl⟩
        obtain ⟨u, hu2⟩ : ∃ u, loadI x.d t h = u := ⟨_, rfl⟩
        rw [hz] at hzb HSU2
        rw [hu2] at hu HC HSU HSU2
        have HZ := Lib.hid hz
        have HAT := Lib.hid (fun (wx : World) (ho : wx.ownsRow w'.heap.size 2 1 (.slice (some ⟨w'.heap.size, 0, none⟩) mm mm) mm (intsV (nodesTo (xs.map Bd.d) mm t h q))) => by
          have := out_at ho hLl (show x.d.nd.toNat < mm by omega)
          rw [hz] at this
          exact this)
        have HST := Lib.hid (fun (wx : World) (ho : wx.ownsRow w'.heap.size 2 1 (.slice (some ⟨w'.heap.size, 0, none⟩) mm mm) mm (intsV (nodesTo (xs.map Bd.d) mm t h q))) => by
          have := (ho.stored x.d.nd.toNat (.int .i64 (z + u))).1
          rw [HSU2.out, ← HSU.out] at this
          exact this)
        clear hz hu2 hbq hLl HSU HSU2 HBD
        have hq12 : (q : Int) ≤ 12 := by omega
        have hs0' : 0 ≤ z + u := by omega
        have hs1' : z + u ≤ 200000000 := by omega
        obtain ⟨hc1, hf1⟩ := HAT.out _ hro
        have ⟨p0, p1, p2, p3, p4, p5⟩ := hN
        go_wp2
        have hdr : Below (wr.alloc (.cells #[.string x.d.id, .int .i64 x.d.nd, .int .i64 x.d.ba, .int .i64 x.d.sl, .int .i64 x.d.li, .slice x.prA x.d.pr.length x.prc] 40)).heap.size (wr.alloc (.cells #[.string x.d.id, .int .i64 x.d.nd, .int .i64 x.d.ba, .int .i64 x.d.sl, .int .i64 x.d.li, .slice x.prA x.d.pr.length x.prc] 40)) (wr.alloc (.cells #[.string x.d.id, .int .i64 x.d.nd, .int .i64 x.d.ba, .int .i64 x.d.sl, .int .i64 x.d.li, .slice x.prA x.d.pr.length x.prc] 40)).drew := below_drewN (Below.refl _ _) 1
        have hN := hN.next hdr
        have hro := owns_below hro hdr (Nat.le_refl _)
        have hb2 := bnext hb2 hdr
        have hbr := bnext hbr hdr
        clear hdr hc1 hf1 p0 p1 p2 p3 p4 p5
        obtain ⟨hc1, hf1⟩ := HAT.out _ hro
        have ⟨p0, p1, p2, p3, p4, p5⟩ := hN
        go_region_with ((go_at_call 78; refine (HC.out _ hbr).mono ?_; rintro e wq ⟨rfl, hb'⟩; have hN := hN.next hb'; have hro := owns_below hro hb' (Nat.le_refl _); have hb2 := bnext hb2 hb'; have ⟨hc1, hf1⟩ := HAT.out _ hro; have ⟨p0, p1, p2, p3, p4, p5⟩ := hN))
        all_goals go_wp2
        all_goals go_roundw
        all_goals first
          | (simp [intOf]; omega)
          | exact ⟨q + 1, by omega, by go_num, Lib.hid (by rw [HSI.out, HIN.out, HLT.out]; rfl), HST.out _ hro, hb2.setCell hsz _⟩
      · have HIF := Lib.hid (HNP.out (HNO.out (decide_eq_false hl)))
        have hl' : (mm : Int) ≤ x.d.nd := by omega
        go_wp2
        go_ret2
        rw [HIF.out.1, HIF.out.2]
        exact retIC_nil rfl hb2
    · have e : q = xs.length := by omega
      subst e
      have HPI := Lib.hid (HP.out (by have := HIN.out; rw [List.take_of_length_le (by simp)] at this; exact this))
      go_wp2
      go_ret2
      refine retIC_mk (base := w'.heap.size) (by rw [HPI.out.2]; rfl) ?_ hsz hb
      rw [HPI.out.1, Int.toNat_natCast, List.length_map]
      exact hro

end Go.Proofs.Ytnepehdfkaegbaa
