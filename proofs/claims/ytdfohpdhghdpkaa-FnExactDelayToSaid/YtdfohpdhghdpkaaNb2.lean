import Derived.Test.YtdfohpdhghdpkaaNb1
import Derived.Test.YtdfohpdhghdpkaaNa1
import Derived.Deep.AppendLies
/-
  The order of a search through a tree, of the model.
-/
namespace Go.Proofs.Ytdfohpdhghdpkaa
open Go.ChangeShapes Go.WideShapes Go.ChangeAt Go.RowKit
set_option maxRecDepth 100000
set_option linter.unusedVariables false

theorem owns_far {w w' : World} {base : Nat} {E : TypeId} {s a n c : Nat} {vs : List Value} {g : Nat} (h : w.ownsRow base E s (.slice (some ⟨a, 0, none⟩) n c) n vs) (hg : w.grownBy w' (some g)) (hne : a ≠ g) : w'.ownsRow base E s (.slice (some ⟨a, 0, none⟩) n c) n vs :=
  h.kept hg (.inr (by simp only [Value.ownBlock]; intro e; exact hne (by simpa using e)))
/-- which nodes are in an order -/
def seenV (n : Nat) (O : List Int) : List Value := (countL n).map fun x => .bool (decide (x ∈ O))
theorem seenV_length (n : Nat) (O : List Int) : (seenV n O).length = n := by unfold seenV; rw [List.length_map, countL_length]
theorem seenV_at (n : Nat) (O : List Int) (x : Int) (x0 : 0 ≤ x) (x1 : x < n) : (seenV n O)[x.toNat]? = some (.bool (decide (x ∈ O))) := by
  unfold seenV countL
  rw [List.getElem?_map, List.getElem?_map, List.getElem?_range (by omega)]
  simp only [Option.map_some]
  rw [show ((x.toNat : Nat) : Int) = x by omega]
theorem seenV_set (n : Nat) (O : List Int) (x : Int) (x0 : 0 ≤ x) (x1 : x < n) : (seenV n O).set x.toNat (.bool true) = seenV n (O ++ [x]) := by
  apply List.ext_getElem?
  intro i
  rw [List.getElem?_set, seenV_length]
  by_cases hi : i < n
  · have e := fun O => seenV_at n O (i : Int) (by omega) (by omega)
    simp only [Int.toNat_natCast] at e
    rw [e, e]
    by_cases h : x.toNat = i
    · rw [if_pos h, if_pos (by omega), decide_eq_true (by rw [List.mem_append, List.mem_singleton]; right; omega)]
    · rw [if_neg h]
      congr 2
      refine decide_eq_decide.2 ⟨fun k => List.mem_append_left _ k, fun k => ?_⟩
      rw [List.mem_append, List.mem_singleton] at k
      rcases k with k | k
      · exact k
      · omega
  · rw [List.getElem?_eq_none (by rw [seenV_length]; omega)]
    by_cases h : x.toNat = i
    · omega
    · rw [if_neg h, List.getElem?_eq_none (by rw [seenV_length]; omega)]
/-- the search's three slices -/
structure OrderAt (w0 wr : World) (g0 cap g1 c1 g2 c2 n : Nat) (O Y : List Int) : Prop where
  ho : wr.ownsRow w0.heap.size 2 1 (.slice (some ⟨g0, 0, none⟩) O.length cap) O.length (intsV O)
  hy : wr.ownsRow w0.heap.size 2 1 (.slice (some ⟨g1, 0, none⟩) n c1) n (intsV Y)
  hs : wr.ownsRow w0.heap.size 4 1 (.slice (some ⟨g2, 0, none⟩) n c2) n (seenV n O)
  n1 : g0 ≠ g1
  n2 : g0 ≠ g2
  n3 : g1 ≠ g2
  hb : Below w0.heap.size w0 wr
theorem OrderAt.marked {w0 wr : World} {g0 cap g1 c1 g2 c2 n : Nat} {O Y : List Int} (H : OrderAt w0 wr g0 cap g1 c1 g2 c2 n O Y) (x v : Int) (x0 : 0 ≤ x) (x1 : x < n) :
    ((wr.setCell ⟨g2, x.toNat, none⟩ (.bool true)).setCell ⟨g1, x.toNat, none⟩ (.int .i64 v)).ownsRow w0.heap.size 2 1 (.slice (some ⟨g0, 0, none⟩) O.length cap) O.length (intsV O) ∧
    ((wr.setCell ⟨g2, x.toNat, none⟩ (.bool true)).setCell ⟨g1, x.toNat, none⟩ (.int .i64 v)).ownsRow w0.heap.size 2 1 (.slice (some ⟨g1, 0, none⟩) n c1) n (intsV (Y.set x.toNat v)) ∧
    ((wr.setCell ⟨g2, x.toNat, none⟩ (.bool true)).setCell ⟨g1, x.toNat, none⟩ (.int .i64 v)).ownsRow w0.heap.size 4 1 (.slice (some ⟨g2, 0, none⟩) n c2) n (seenV n (O ++ [x])) ∧
    Below w0.heap.size w0 ((wr.setCell ⟨g2, x.toNat, none⟩ (.bool true)).setCell ⟨g1, x.toNat, none⟩ (.int .i64 v)) := by
  have k1 := grown_set (grown_refl wr (some g2)) x.toNat none (.bool true)
  have k2 := grown_set (grown_refl (wr.setCell ⟨g2, x.toNat, none⟩ (.bool true)) (some g1)) x.toNat none (.int .i64 v)
  have hy := owns_far H.hy k1 H.n3
  have hs := (H.hs.stored x.toNat (.bool true)).1
  rw [seenV_set n O x x0 x1] at hs
  have hy2 := (hy.stored x.toNat (.int .i64 v)).1
  rw [intsV_set] at hy2
  refine ⟨owns_far (owns_far H.ho k1 H.n2) k2 H.n1, hy2, owns_far hs k2 (fun e => H.n3 e.symm), ?_⟩
  refine (H.hb.grown k1 H.hb.size (fun k hk => ?_)).grown k2 ?_ (fun k hk => ?_)
  · obtain rfl : g2 = k := by simpa using hk
    exact (H.hs.lt _ rfl).1
  · exact Nat.le_trans H.hb.size k1.size
  · obtain rfl : g1 = k := by simpa using hk
    exact (H.hy.lt _ rfl).1
theorem OrderAt.first {w0 wr : World} {g0 cap g1 c1 g2 c2 n : Nat} {O Y : List Int} (H : OrderAt w0 wr g0 cap g1 c1 g2 c2 n O Y) (x : Int) (hl : Y.length = n) (x0 : 0 ≤ x) (x1 : x < n) :
    (∃ y, (wr.setCell ⟨g2, x.toNat, none⟩ (.bool true)).cell? ⟨g1, x.toNat, none⟩ = some (.int .i64 y)) ∧ (wr.setCell ⟨g2, x.toNat, none⟩ (.bool true)).frozen? ⟨g1, x.toNat, none⟩ = false ∧ Below w0.heap.size w0 (wr.setCell ⟨g2, x.toNat, none⟩ (.bool true)) := by
  have k1 := grown_set (grown_refl wr (some g2)) x.toNat none (.bool true)
  have hy := owns_far H.hy k1 H.n3
  refine ⟨⟨Y[x.toNat]'(by omega), ?_⟩, hy.frozenAt x.toNat, H.hb.grown k1 H.hb.size (fun k hk => ?_)⟩
  · rw [hy.cellAt x.toNat (by omega), intsV_at _ _ (by omega)]
  · obtain rfl : g2 = k := by simpa using hk
    exact (H.hs.lt _ rfl).1
theorem OrderAt.pushed {w0 W w' : World} {g0 cap g1 c1 g2 c2 n g cap' : Nat} {O Y : List Int} {x : Int}
    (ho : W.ownsRow w0.heap.size 2 1 (.slice (some ⟨g0, 0, none⟩) O.length cap) O.length (intsV O)) (hy : W.ownsRow w0.heap.size 2 1 (.slice (some ⟨g1, 0, none⟩) n c1) n (intsV Y)) (hs : W.ownsRow w0.heap.size 4 1 (.slice (some ⟨g2, 0, none⟩) n c2) n (seenV n (O ++ [x]))) (n1 : g0 ≠ g1) (n2 : g0 ≠ g2) (n3 : g1 ≠ g2) (hb : Below w0.heap.size w0 W)
    (hn : w'.ownsRow w0.heap.size 2 1 (.slice (some ⟨g, 0, none⟩) (O.length + 1) cap') (O.length + 1) (intsV O ++ [.int .i64 x])) (hg : W.grownBy w' (some g0)) (hl : some g0 = some g ∨ g = W.heap.size) : OrderAt w0 w' g cap' g1 c1 g2 c2 n (O ++ [x]) Y := by
  have l1 : g1 < W.heap.size := (hy.lt _ rfl).2
  have l2 : g2 < W.heap.size := (hs.lt _ rfl).2
  refine ⟨by rw [List.length_append, List.length_singleton, intsV_snoc]; exact hn, owns_far hy hg (fun e => n1 e.symm), owns_far hs hg (fun e => n2 e.symm), ?_, ?_, n3, hb.grown hg hb.size (fun k hk => ?_)⟩
  · rcases hl with e | e
    · obtain rfl : g0 = g := by simpa using e
      exact n1
    · omega
  · rcases hl with e | e
    · obtain rfl : g0 = g := by simpa using e
      exact n2
    · omega
  · obtain rfl : g0 = k := by simpa using hk
    exact (ho.lt _ rfl).1
theorem OrderAt.cell {w0 wr : World} {g0 cap g1 c1 g2 c2 n : Nat} {O Y : List Int} (H : OrderAt w0 wr g0 cap g1 c1 g2 c2 n O Y) {i : Nat} {x : Int} (h : O[i]? = some x) : wr.cell? ⟨g0, i, none⟩ = some (.int .i64 x) := by
  have hl := (List.getElem?_eq_some_iff.1 h).1
  rw [H.ho.cellAt i (by omega), intsV_at _ _ hl]
  rw [List.getElem?_eq_getElem hl] at h
  rw [Option.some.inj h]
theorem OrderAt.seen {w0 wr : World} {g0 cap g1 c1 g2 c2 n : Nat} {O Y : List Int} (H : OrderAt w0 wr g0 cap g1 c1 g2 c2 n O Y) (x : Int) (x0 : 0 ≤ x) (x1 : x < n) : wr.cell? ⟨g2, x.toNat, none⟩ = some (.bool (decide (x ∈ O))) ∧ wr.frozen? ⟨g2, x.toNat, none⟩ = false := by
  refine ⟨?_, H.hs.frozenAt x.toNat⟩
  rw [H.hs.cellAt x.toNat (by omega), seenV_at n O x x0 x1]
theorem OrderAt.drew {w0 wr : World} {g0 cap g1 c1 g2 c2 n : Nat} {O Y : List Int} (H : OrderAt w0 wr g0 cap g1 c1 g2 c2 n O Y) (k : Nat) : OrderAt w0 (wr.drewN k) g0 cap g1 c1 g2 c2 n O Y :=
  ⟨H.ho, H.hy, H.hs, H.n1, H.n2, H.n3, below_drewN H.hb k⟩
/-- what a round of the search reads -/
theorem OrderAt.facts {w0 wr : World} {g0 cap g1 c1 g2 c2 n a : Nat} {O Y : List Int} {u : Int} {p : Pp} (H : OrderAt w0 wr g0 cap g1 c1 g2 c2 n O Y) (h : O[a]? = some u) (hp : (0 ≤ p.f ∧ p.f < n) ∧ (0 ≤ p.t ∧ p.t < n) ∧ p.f ≠ p.t) :
    wr.cell? ⟨g0, a, none⟩ = some (.int .i64 u) ∧ (wr.cell? ⟨g2, p.t.toNat, none⟩ = some (.bool (decide (p.t ∈ O))) ∧ wr.frozen? ⟨g2, p.t.toNat, none⟩ = false) ∧ (wr.cell? ⟨g2, p.f.toNat, none⟩ = some (.bool (decide (p.f ∈ O))) ∧ wr.frozen? ⟨g2, p.f.toNat, none⟩ = false) :=
  ⟨H.cell h, H.seen _ hp.2.1.1 hp.2.1.2, H.seen _ hp.1.1 hp.1.2⟩
theorem infoBool : (Try.prog.info? 4).map (fun i => (i.zero, i.size, i.bytes)) = some (some (.bool false), 1, 1) := by kernel_rfl
theorem zeros_made (n : Nat) : (madeCells (Value.int .i64 0).cells (n * 1)).toList = intsV (List.replicate n 0) := by
  rw [Nat.mul_one]
  show (madeCells #[.int .i64 0] n).toList = _
  rw [toList_madeCells_one]
  simp [intsV]
theorem falses_made (n : Nat) : (madeCells (Value.bool false).cells (n * 1)).toList = seenV n [] := by
  rw [Nat.mul_one]
  show (madeCells #[.bool false] n).toList = _
  rw [toList_madeCells_one]
  unfold seenV
  symm
  refine (List.eq_replicate_iff.2 ⟨by rw [List.length_map, countL_length], fun b hb => ?_⟩)
  obtain ⟨x, _, rfl⟩ := List.mem_map.1 hb
  simp
set_option maxHeartbeats 1000000 in
theorem l07Order_any (bn : Nat) (A B : Option Addr) (c d : Nat) (z : List Int) (ps : List Pp) (src : Int) (w : World) (hN : NetAt w bn A z.length c B ps.length d) (h : NetCells w A z B ps) (hn : z.length ≤ 16) (hm : ps.length ≤ 20) (hj : Joins z.length ps) (s0 : 0 ≤ src) (s1 : src < z.length) :
    Calls Try.prog 90 #[.pointer (some ⟨bn, 0, none⟩), .int .i64 src] w fun e w' => ∃ g0 c0 g1 c1, e = .returned (.tuple #[.slice (some ⟨g0, 0, none⟩) (bfsOut ps z.length src z.length).1.length c0, .slice (some ⟨g1, 0, none⟩) z.length c1]) ∧ w'.ownsRow w.heap.size 2 1 (.slice (some ⟨g0, 0, none⟩) (bfsOut ps z.length src z.length).1.length c0) (bfsOut ps z.length src z.length).1.length (intsV (bfsOut ps z.length src z.length).1) ∧ w'.ownsRow w.heap.size 2 1 (.slice (some ⟨g1, 0, none⟩) z.length c1) z.length (intsV (bfsOut ps z.length src z.length).2) ∧ g0 ≠ g1 ∧ Below w.heap.size w w' := by
  have HC := Lib.hid h
  clear h
  have hbA : Below w.heap.size w (w.alloc (.cells #[.int .i64 src] 2)) := bal (Below.refl _ _) _
  have hNo := hN
  have hN := hN.next hbA
  have ⟨n0, n1⟩ := hN
  have ho0 : (w.alloc (.cells #[.int .i64 src] 2)).ownsRow w.heap.size 2 1 (.slice (some ⟨w.heap.size, 0, none⟩) 1 1) 1 (intsV [src]) := World.ownsRow_lit (size := 1) w #[.int .i64 src] 1 (Nat.le_refl _) (by unfold maxLen; omega) rfl
  obtain ⟨i0, hi, hz0, hz1, hz2⟩ := info_parts infoI64
  obtain ⟨j0, hbi, hbz0, hbz1, hbz2⟩ := info_parts infoBool
  have hM : z.length ≤ maxLen := by unfold maxLen; omega
  have hMi : (z.length : Int) ≤ 9223372036854775807 := by omega
  go_enter Try.func90, Try.ntmps90
  go_wp2_with (first | (refine wpList_make_full _ rfl _ _ _ rfl w.heap.size 2 i0 (.int .i64 0) 1 Try.underlying24 hi hz0 hz1 _ _ _ _ z.length rfl rfl rfl rfl (by rw [hz2]; omega) hM (by simp) ?_; intro w1 hown1 hgrow1; rw [World.size_alloc] at hown1; have hb1 := Below.grown hbA hgrow1 (by simp) (fun k hk => by cases hk); have hN1 := hN.next (Below.grown (Below.refl _ _) hgrow1 (Nat.le_refl _) (fun k hk => by cases hk)); have ho1 := ho0.kept hgrow1 (.inr (by simp [Value.ownBlock])); have ⟨m0, m1⟩ := hN1; clear n0 n1 hgrow1 ho0 hN hbA) | (refine wpList_make_full _ rfl _ _ _ rfl w.heap.size 4 j0 (.bool false) 1 Try.underlying163 hbi hbz0 hbz1 _ _ _ _ z.length rfl rfl rfl rfl (by rw [hbz2]; omega) hM (hb1.size) ?_; intro w2 hown2 hgrow2; have hb2 := Below.grown hb1 hgrow2 hb1.size (fun k hk => by cases hk); have hN2 := hN1.next (Below.grown (Below.refl _ _) hgrow2 (Nat.le_refl _) (fun k hk => by cases hk)); have hy2 := hown1.kept hgrow2 (.inr (by simp [Value.ownBlock])); have ho2 := ho1.kept hgrow2 (.inr (by simp [Value.ownBlock])); have hg1 := (hown1.lt _ rfl).2; have ⟨k0, k1⟩ := hN2; clear m0 m1 hgrow2 ho1 hown1 hN1; have c2 := hown2.cellAt src.toNat (by omega); rw [falses_made, seenV_at _ _ _ s0 s1] at c2; have f2 := hown2.frozenAt src.toNat))
  have k3 := grown_set (grown_refl w2 (some w1.heap.size)) src.toNat none (.bool true)
  have hs3 := (hown2.stored src.toNat (.bool true)).1
  rw [falses_made, seenV_set _ _ _ s0 s1] at hs3
  rw [zeros_made] at hy2
  have HO : OrderAt w (w2.setCell ⟨w1.heap.size, src.toNat, none⟩ (.bool true)) w.heap.size 1 (w.heap.size + 1) z.length w1.heap.size z.length z.length (bfsOut ps z.length src 0).1 (bfsOut ps z.length src 0).2 := by
    refine ⟨owns_far ho2 k3 (by have : w.heap.size + 1 < w1.heap.size := hg1; omega), owns_far hy2 k3 (by have : w.heap.size + 1 < w1.heap.size := hg1; omega), hs3, by omega, by have : w.heap.size + 1 < w1.heap.size := hg1; omega, by have : w.heap.size + 1 < w1.heap.size := hg1; omega, hb2.grown k3 hb2.size (fun k hk => ?_)⟩
    obtain rfl : w1.heap.size = k := by simpa using hk
    exact hb1.size
  have HN3 := Lib.hid (hN2.keep (w' := w2.setCell ⟨w1.heap.size, src.toNat, none⟩ (.bool true)) (Below.heap_setCell w2 _ _ bn (by have := hN.lies; intro e; have e : bn = w1.heap.size := e; omega)))
  have hHO := Lib.hid HO
  have HN0 := Lib.hid hNo
  have HJ := Lib.hid hj
  have HBO := Lib.hid (fun a => bfsOut_ok hj s0 s1 a)
  clear hN2 HO k0 k1 ho2 hy2 hown2 hs3 k3 c2 f2 hb1 hb2 hg1 HN3 hNo
  go_loopw [6, 9] (fun v i wr => ∃ (a g0 cap : Nat), v = .slice (some ⟨g0, 0, none⟩) (bfsOut ps z.length src a).1.length cap ∧ i = .int .i64 a ∧ a ≤ (bfsOut ps z.length src a).1.length ∧ OrderAt w wr g0 cap (w.heap.size + 1) z.length w1.heap.size z.length z.length (bfsOut ps z.length src a).1 (bfsOut ps z.length src a).2) (fun _ i _ => z.length - (intOf i).toNat)
  case atStart => exact ⟨0, _, _, rfl, rfl, by simp [bfsOut], hHO.out⟩
  case round =>
    obtain ⟨a, g0, cap, rfl, rfl, ha, HO⟩ := hrel
    have hbo := HBO.out a
    have hlen := hbo.1.short
    by_cases hlt : a < (bfsOut ps z.length src a).1.length
    · have hu := List.getElem?_eq_getElem hlt
      generalize (bfsOut ps z.length src a).1[a] = u at *
      have HIN := Lib.hid (fun q => bfsIn_ok hj hbo.1 (List.mem_of_getElem? hu) q)
      have HU := Lib.hid hu
      have HOA := Lib.hid (bfsOut_at hu)
      generalize bfsOut ps z.length src a = S at *
      have hl16 : S.1.length ≤ 16 := by omega
      have HO0 := Lib.hid HO
      clear hbo hu HO
      go_wp2_with fail
      go_loopw [6, 10] (fun v i wr => ∃ (q g0 cap : Nat), v = .slice (some ⟨g0, 0, none⟩) (bfsIn ps u S q).1.length cap ∧ i = .int .i64 q ∧ q ≤ ps.length ∧ OrderAt w wr g0 cap (w.heap.size + 1) z.length w1.heap.size z.length z.length (bfsIn ps u S q).1 (bfsIn ps u S q).2) (fun _ i _ => ps.length - (intOf i).toNat)
      case atStart => exact ⟨0, _, _, rfl, rfl, Nat.zero_le _, HO0.out⟩
      case round =>
        clear HO0
        obtain ⟨q, g0, cap, rfl, rfl, hq, HO⟩ := hrel
        have ⟨n0, n1⟩ := HN0.out.next HO.hb
        by_cases hlq : q < ps.length
        · obtain ⟨b, off, rfl, hrow⟩ := pipe_at (HC.out.2.next HO.hb) (by omega)
          have hp := List.getElem?_eq_getElem hlq
          have P := hrow q _ hp
          obtain ⟨⟨f0, f1⟩, ⟨t0, t1⟩, hne⟩ := HJ.out _ (List.mem_of_getElem? hp)
          have HSTEP := Lib.hid (show bfsIn ps u S (q + 1) = bfsStep ps u q (bfsIn ps u S q) from rfl)
          have hst := fun s => bfsStep_at hp u s
          have HPP := Lib.hid (fun wx (hbx : Below w.heap.size w wx) => by
            obtain ⟨b', off', e, hrow'⟩ := pipe_at (HC.out.2.next hbx) (by omega)
            obtain ⟨rfl, rfl⟩ : b = b' ∧ off = off' := by simpa using e
            exact hrow' q _ hp)
          have hbi := HIN.out q
          have HOU := Lib.hid (hbi.2.1.at HU.out)
          have hl := hbi.1.short
          have HYL := Lib.hid hbi.1.len
          generalize ps[q] = p at *
          rw [hst] at HSTEP
          generalize bfsIn ps u S q = T at *
          have hTa : a < T.1.length := (List.getElem?_eq_some_iff.1 HOU.out).1
          have HNE := Lib.hid hne
          have HFA := Lib.hid (fun (wx : World) (g cap : Nat) (H : OrderAt w wx g cap (w.heap.size + 1) z.length w1.heap.size z.length z.length T.1 T.2) => (⟨H.facts HOU.out ⟨⟨f0, f1⟩, ⟨t0, t1⟩, hne⟩, HPP.out _ H.hb⟩ : _ ∧ _))
          clear hbi hst hrow hp hne P
          obtain ⟨⟨hO, ⟨sT, fT⟩, ⟨sF, fF⟩⟩, p0, p1, p2, p3, p4, p5⟩ := HFA.out _ _ _ HO
          clear p0 p3 p4 p5
          by_cases hf : p.f = u
          · have ht : ¬ p.t = u := fun e => HNE.out (hf.trans e.symm)
            have hf1 : (p.f == u) = true := by simpa using hf
            have ht1 : (p.t == u) = false := by simpa using ht
            by_cases hm : p.t ∈ T.1
            · have HN := Lib.hid (HSTEP.out.trans ((if_neg (fun h => h.2 hm)).trans (if_neg (fun h => ht h.1))))
              rw [decide_eq_true hm] at sT
              clear hf ht hm
              go_wp2
              go_quiet (fail)
              have HO := HO.drew nq
              clear hO sT fT sF fF p1 p2 n0 n1
              generalize wr.drewN nq = wx at *
              obtain ⟨⟨hO, ⟨sT, fT⟩, ⟨sF, fF⟩⟩, p0, p1, p2, p3, p4, p5⟩ := HFA.out _ _ _ HO
              clear p0 p3 p4 p5
              go_wp2
              go_quiet (fail)
              go_wp2
              go_roundw
              case rel => exact ⟨q + 1, g0, cap, by rw [HN.out], by go_num, by omega, by rw [HN.out]; exact HO.drew _⟩
              case measure => simp [intOf]; omega
            · have HN := Lib.hid (HSTEP.out.trans (if_pos ⟨hf, hm⟩))
              rw [decide_eq_false hm] at sT HFA
              clear hf ht hm
              go_wp2
              go_quiet (fail)
              have HO := HO.drew nq
              clear hO sT fT sF fF p1 p2 n0 n1
              generalize wr.drewN nq = wx at *
              obtain ⟨⟨hO, ⟨sT, fT⟩, ⟨sF, fF⟩⟩, p0, p1, p2, p3, p4, p5⟩ := HFA.out _ _ _ HO
              clear p0 p3 p4 p5
              obtain ⟨mo, my, ms, mb⟩ := HO.marked p.t ((q : Int) + 1) t0 t1
              obtain ⟨⟨yo, cy⟩, fy, hb1⟩ := HO.first p.t HYL.out t0 t1
              have ⟨_, r1, r2, _, _, _⟩ := HPP.out _ hb1
              have ⟨_, s1, s2, _, _, _⟩ := HPP.out _ mb
              have HN1 := Lib.hid HO.n1
              have HN2 := Lib.hid HO.n2
              have HN3 := Lib.hid HO.n3
              have HMO := Lib.hid mo
              have HMY := Lib.hid my
              have HMS := Lib.hid ms
              have HMB := Lib.hid mb
              clear mo my ms mb hb1 HO
              go_wp2_with (at_builtin; go_must (refine wpList_append_lies _ rfl _ _ 24 rfl w.heap.size 2 i0 (.int .i64 0) 1 8 Try.underlying24 hi hz0 hz1 hz2 rfl (by decide) (.slice (some ⟨g0, 0, none⟩) T.1.length cap) _ _ rfl (HMO.out.alloc _) _ 1 1 [.int .i64 p.t] rfl rfl ?_ (by simp [Value.oneCell']) (by decide) ?_ ?_ ?_ _ rfl ?_; (have := cell_one_new ((wx.setCell ⟨w1.heap.size, p.t.toNat, none⟩ (.bool true)).setCell ⟨w.heap.size + 1, p.t.toNat, none⟩ (.int .i64 ((q : Int) + 1))) (.int .i64 p.t) 2; first | exact this | (simpa using this)); (unfold maxLen; omega); (omega); (exact Nat.le_trans HMB.out.size (by simp)); intro g4 cap4 w4 hown4 hgrow4 hl4 hlt4; (have HO4 := Lib.hid (OrderAt.pushed (HMO.out.alloc _) (HMY.out.alloc _) (HMS.out.alloc _) HN1.out HN2.out HN3.out (bal HMB.out _) hown4 hgrow4 hl4)); clear hown4 hgrow4 hl4 hlt4 cy fy sT fT sF fF hO p1 p2 r1 r2 s1 s2; (have cO := HO4.out.cell (i := a) (x := u) (by rw [List.getElem?_append_left hTa]; exact HOU.out)); (have ⟨_, p1, p2, _, _, _⟩ := HPP.out _ HO4.out.hb)))
              go_quiet (fail)
              go_wp2
              go_roundw
              case rel => exact ⟨q + 1, g4, cap4, by rw [HN.out, List.length_append, List.length_singleton], by go_num, by omega, by rw [HN.out]; exact HO4.out.drew _⟩
              case measure => simp [intOf]; omega
          · have hf1 : (p.f == u) = false := by simpa using hf
            by_cases ht : p.t = u
            · have ht1 : (p.t == u) = true := by simpa using ht
              by_cases hm : p.f ∈ T.1
              · have HN := Lib.hid (HSTEP.out.trans ((if_neg (fun h => hf h.1)).trans (if_neg (fun h => h.2 hm))))
                rw [decide_eq_true hm] at sF HFA
                clear hf ht hm
                go_wp2
                go_quiet (fail)
                have HO := HO.drew nq
                clear hO sT fT sF fF p1 p2 n0 n1
                generalize wr.drewN nq = wx at *
                obtain ⟨⟨hO, ⟨sT, fT⟩, ⟨sF, fF⟩⟩, p0, p1, p2, p3, p4, p5⟩ := HFA.out _ _ _ HO
                clear p0 p3 p4 p5
                go_wp2
                go_quiet (fail)
                go_wp2
                go_roundw
                case rel => exact ⟨q + 1, g0, cap, by rw [HN.out], by go_num, by omega, by rw [HN.out]; exact HO.drew _⟩
                case measure => simp [intOf]; omega
              · have HN0' := HSTEP.out.trans ((if_neg (fun h => hf h.1)).trans (if_pos ⟨ht, hm⟩))
                rw [show -((q : Int) + 1) = -(q : Int) - 1 by omega] at HN0'
                have HN := Lib.hid HN0'
                clear HN0'
                rw [decide_eq_false hm] at sF HFA
                clear hf ht hm
                go_wp2
                go_quiet (fail)
                have HO := HO.drew nq
                clear hO sT fT sF fF p1 p2 n0 n1
                generalize wr.drewN nq = wx at *
                obtain ⟨⟨hO, ⟨sT, fT⟩, ⟨sF, fF⟩⟩, p0, p1, p2, p3, p4, p5⟩ := HFA.out _ _ _ HO
                clear p0 p3 p4 p5
                go_wp2
                go_quiet (fail)
                have HO := HO.drew nq
                clear hO sT fT sF fF p1 p2
                generalize wx.drewN nq = wy at *
                obtain ⟨⟨hO, ⟨sT, fT⟩, ⟨sF, fF⟩⟩, p0, p1, p2, p3, p4, p5⟩ := HFA.out _ _ _ HO
                clear p0 p3 p4 p5
                obtain ⟨mo, my, ms, mb⟩ := HO.marked p.f (-(q : Int) - 1) f0 f1
                obtain ⟨⟨yo, cy⟩, fy, hb1⟩ := HO.first p.f HYL.out f0 f1
                have ⟨_, r1, r2, _, _, _⟩ := HPP.out _ hb1
                have ⟨_, s1, s2, _, _, _⟩ := HPP.out _ mb
                have HN1 := Lib.hid HO.n1
                have HN2 := Lib.hid HO.n2
                have HN3 := Lib.hid HO.n3
                have HMO := Lib.hid mo
                have HMY := Lib.hid my
                have HMS := Lib.hid ms
                have HMB := Lib.hid mb
                clear mo my ms mb hb1 HO
                go_wp2_with (at_builtin; go_must (refine wpList_append_lies _ rfl _ _ 24 rfl w.heap.size 2 i0 (.int .i64 0) 1 8 Try.underlying24 hi hz0 hz1 hz2 rfl (by decide) (.slice (some ⟨g0, 0, none⟩) T.1.length cap) _ _ rfl (HMO.out.alloc _) _ 1 1 [.int .i64 p.f] rfl rfl ?_ (by simp [Value.oneCell']) (by decide) ?_ ?_ ?_ _ rfl ?_; (have := cell_one_new ((wy.setCell ⟨w1.heap.size, p.f.toNat, none⟩ (.bool true)).setCell ⟨w.heap.size + 1, p.f.toNat, none⟩ (.int .i64 (-(q : Int) - 1))) (.int .i64 p.f) 2; first | exact this | (simpa using this)); (unfold maxLen; omega); (omega); (exact Nat.le_trans HMB.out.size (by simp)); intro g4 cap4 w4 hown4 hgrow4 hl4 hlt4; (have HO4 := Lib.hid (OrderAt.pushed (HMO.out.alloc _) (HMY.out.alloc _) (HMS.out.alloc _) HN1.out HN2.out HN3.out (bal HMB.out _) hown4 hgrow4 hl4)); clear hown4 hgrow4 hl4 hlt4 cy fy sT fT sF fF hO p1 p2 r1 r2 s1 s2; (have ⟨_, p1, p2, _, _, _⟩ := HPP.out _ HO4.out.hb)))
                go_wp2
                go_roundw
                case rel => exact ⟨q + 1, g4, cap4, by rw [HN.out, List.length_append, List.length_singleton], by go_num, by omega, by rw [HN.out]; exact HO4.out⟩
                case measure => simp [intOf]; omega
            · have ht1 : (p.t == u) = false := by simpa using ht
              have HN := Lib.hid (HSTEP.out.trans ((if_neg (fun h => hf h.1)).trans (if_neg (fun h => ht h.1))))
              clear hf ht
              go_wp2
              go_quiet (fail)
              have HO := HO.drew nq
              clear hO sT fT sF fF p1 p2 n0 n1
              generalize wr.drewN nq = wx at *
              obtain ⟨⟨hO, ⟨sT, fT⟩, ⟨sF, fF⟩⟩, p0, p1, p2, p3, p4, p5⟩ := HFA.out _ _ _ HO
              clear p0 p3 p4 p5
              go_wp2
              go_quiet (fail)
              go_wp2
              go_roundw
              case rel => exact ⟨q + 1, g0, cap, by rw [HN.out], by go_num, by omega, by rw [HN.out]; exact HO.drew _⟩
              case measure => simp [intOf]; omega
        · obtain rfl : q = ps.length := by omega
          go_wp2
          go_roundw
          case rel => exact ⟨a + 1, g0, cap, by rw [HOA.out], by go_num, by rw [HOA.out]; have := (HIN.out ps.length).2.1.len; omega, by rw [HOA.out]; exact HO⟩
          case measure => simp [intOf]; omega
    · have hae : (bfsOut ps z.length src a).1.length = a := by omega
      have hend : bfsOut ps z.length src z.length = bfsOut ps z.length src a := by
        have := bfsOut_end (ps := ps) (n := z.length) (src := src) (a := a) (by omega) (z.length - a)
        rwa [show a + (z.length - a) = z.length by omega] at this
      have HE := Lib.hid hend
      have hl16 : (bfsOut ps z.length src a).1.length ≤ 16 := by omega
      clear hend hbo
      go_wp2
      go_ret2
      rw [HE.out]
      exact ⟨g0, cap, _, _, rfl, HO.ho, HO.hy, HO.n1, HO.hb⟩
end Go.Proofs.Ytdfohpdhghdpkaa
