import Derived.Test.YtgdafgnjaogmeaaMg5197dbb5
import Derived.Test.YtgdafgnjaogmeaaKa0
import Derived.Test.YtgdafgnjaogmeaaMga28630ce
/-
  What a network loses: both sides.
-/
namespace Go.Proofs.Ytgdafgnjaogmeaa
open Go.ChangeShapes Go.WideShapes Go.ChangeAt Go.RowKit Go.Shelf
set_option linter.unusedSimpArgs false
set_option maxRecDepth 100000
set_option maxHeartbeats 1600000
set_option linter.unusedVariables false


theorem sumTk {α : Type} (f : α → Int) (l : List α) (k : Nat) (x : α) (hx : l[k]? = some x) : ((l.take (k + 1)).map f).sum = ((l.take k).map f).sum + f x := by
  rw [List.take_add_one, hx]
  simp
theorem sumBd {α : Type} (f : α → Int) (K : Int) (hK : 0 ≤ K) : ∀ (l : List α), (∀ x ∈ l, -K ≤ f x ∧ f x ≤ K) → -(l.length * K) ≤ (l.map f).sum ∧ (l.map f).sum ≤ l.length * K
  | [], _ => by simp
  | a :: r, h => by
    have h1 := h a (by simp)
    have h2 := sumBd f K hK r fun x hx => h x (by simp [hx])
    simp only [List.map_cons, List.sum_cons, List.length_cons]
    have e : ((r.length + 1 : Nat) : Int) * K = r.length * K + K := by rw [Int.natCast_add, Int.add_mul]; simp
    rw [e]
    omega
theorem sumTk_bd {α : Type} (f : α → Int) (K : Int) (hK : 0 ≤ K) (l : List α) (h : ∀ x ∈ l, -K ≤ f x ∧ f x ≤ K) (N : Nat) (hl : l.length ≤ N) (k : Nat) : -(N * K) ≤ ((l.take k).map f).sum ∧ ((l.take k).map f).sum ≤ N * K := by
  have h1 := sumBd f K hK (l.take k) fun x hx => h x (List.mem_of_mem_take hx)
  have h2 : (l.take k).length ≤ N := by rw [List.length_take]; omega
  have h3 : ((l.take k).length : Int) * K ≤ N * K := Int.mul_le_mul_of_nonneg_right (by omega) hK
  omega
/-- what a pipe loses, and all pipes of some -/
def lossW (a c : Int) (p : Pp) : Int := lossI p.s p.L a c
def sumW (ps : List Pp) (a c : Int) : Int := (ps.map (lossW a c)).sum
theorem okPp_bd {p : Pp} (h : p.ok = true) : (1 ≤ p.L ∧ p.L ≤ 10000) ∧ (20 ≤ p.d ∧ p.d ≤ 1000) ∧ (0 ≤ p.s ∧ p.s ≤ 5000) := by
  obtain ⟨-, -, -, -, h1, h2, h3⟩ := okP_bd p.id p.f p.t p.L p.d p.s h
  exact ⟨h1, h2, h3⟩
theorem lossW_bd {p : Pp} (h : p.ok = true) (a c : Int) (a0 : -5000 ≤ a) (a1 : a ≤ 20000) (b0 : -5000 ≤ c) (b1 : c ≤ 20000) : -1250000000001 ≤ lossW a c p ∧ lossW a c p ≤ 1250000000001 := by
  obtain ⟨⟨l0, l1⟩, -, ⟨s0, s1⟩⟩ := okPp_bd h
  have k := loss_num p.s p.L a c s0 s1 (by omega) l1 a0 a1 b0 b1
  have := nearI_bd (p.s * p.L * (a - c)) 100000 1250000000000 (by omega) (by omega) (by omega)
  unfold lossW lossI
  omega
theorem sumW_tk {ps : List Pp} {k : Nat} {p : Pp} (a c : Int) (h : ps[k]? = some p) : sumW (ps.take (k + 1)) a c = sumW (ps.take k) a c + lossW a c p := sumTk _ _ _ _ h
theorem sumW_bd {ps : List Pp} (hok : ∀ p ∈ ps, p.ok = true) (hm : ps.length ≤ 20) (a c : Int) (a0 : -5000 ≤ a) (a1 : a ≤ 20000) (b0 : -5000 ≤ c) (b1 : c ≤ 20000) (k : Nat) : -25000000000020 ≤ sumW (ps.take k) a c ∧ sumW (ps.take k) a c ≤ 25000000000020 := by
  have := sumTk_bd (lossW a c) 1250000000001 (by omega) ps (fun p hp => lossW_bd (hok p hp) a c a0 a1 b0 b1) 20 hm k
  unfold sumW
  omega
theorem sumW_all (ps : List Pp) (a c : Int) : sumW (ps.take ps.length) a c = sumW ps a c := by rw [List.take_length]
theorem netB_ok {z : List Int} {ps : List Pp} (h : netB z ps = true) : (∀ p ∈ ps, p.ok = true) ∧ ps.length ≤ 20 := by
  obtain ⟨-, -, h3, h4, -⟩ := netB_parts h
  exact ⟨fun p hp => (fitB_parts (List.all_eq_true.1 h4 p hp)).1, h3⟩
theorem l10Sum_any (bn : Nat) (A : Option Addr) (n cn : Nat) (B : Option Addr) (d : Nat) (ps : List Pp) (a c : Int) (w : World) (hN : NetAt w bn A n cn B ps.length d) (hB : CellsAt w B (rowsP ps)) (hok : ∀ p ∈ ps, p.ok = true) (hm : ps.length ≤ 20) (a0 : -5000 ≤ a) (a1 : a ≤ 20000) (b0 : -5000 ≤ c) (b1 : c ≤ 20000) :
    Calls Try.prog 68 #[.pointer (some ⟨bn, 0, none⟩), .int .i64 a, .int .i64 c] w fun e w' => e = .returned (.int .i64 (sumW ps a c)) ∧ Drawn w w' := by
  have HB := Lib.hid hB
  have HN := Lib.hid hN
  have HBD := Lib.hid (fun k => sumW_bd hok hm a c a0 a1 b0 b1 k)
  have HL := Lib.hid (fun (p : Pp) (hp : p ∈ ps) wx => loses_any p.s p.L a c wx (okPp_bd (hok p hp)).2.2.1 (okPp_bd (hok p hp)).2.2.2 (by have := (okPp_bd (hok p hp)).1.1; omega) (okPp_bd (hok p hp)).1.2 a0 a1 b0 b1)
  have HS0 : Hid (sumW (ps.take 0) a c = 0) := Lib.hid rfl
  have ⟨n0, n1⟩ := hN
  clear hB hok hN a0 a1 b0 b1
  go_enter Try.func68, Try.ntmps68
  go_wp2_with fail
  go_loopw [7, 8] (fun v i wr => ∃ (q : Nat) (s : Int), q ≤ ps.length ∧ v = .int .i64 s ∧ i = .int .i64 q ∧ -25000000000020 ≤ s ∧ s ≤ 25000000000020 ∧ Hid (s = sumW (ps.take q) a c) ∧ Drawn w wr) (fun _ i _ => ps.length - (intOf i).toNat)
  case atStart => exact ⟨0, 0, Nat.zero_le _, rfl, rfl, by omega, by omega, Lib.hid rfl, Drawn.rfl' _⟩
  case round =>
    obtain ⟨q, s, hq, rfl, rfl, s0, s1, HS, ⟨nr, rfl⟩⟩ := hrel
    by_cases hlq : q < ps.length
    · obtain ⟨b2, o2, rfl, hrow⟩ := pipe_at HB.out (by omega)
      have hp := List.getElem?_eq_getElem hlq
      have ⟨p0, p1, p2, p3, p4, p5⟩ := hrow q _ hp
      have HC := Lib.hid (HL.out _ (List.mem_of_getElem? hp))
      have hst := sumW_tk a c hp
      have hbd := HBD.out (q + 1)
      rw [hst, ← HS.out] at hbd
      rw [← HS.out] at hst
      have HST := Lib.hid hst
      unfold lossW at hbd HST
      generalize ps[q] = p at *
      generalize lossI p.s p.L a c = u at *
      clear p0 p1 p2 p4 hp hst hrow
      go_wp2
      go_quiet ((go_at_call 63; exact quiet_same2 (HC.out _)))
      go_wp2
      go_roundw
      case rel => exact ⟨q + 1, s + u, by omega, rfl, by go_num, by omega, by omega, Lib.hid HST.out.symm, ⟨_, rfl⟩⟩
      case measure => simp [intOf]; omega
    · have e : q = ps.length := by omega
      subst e
      have HE := Lib.hid (by have := HS.out; rw [sumW_all] at this; exact this)
      go_wp2
      go_ret
      exact ⟨ret_int HE.out, ⟨_, rfl⟩⟩

-- the program
theorem climate_any (a c : Int) (w : World) :
    Calls Try.prog 71 #[.agg #[.int .i64 a, .int .i64 c]] w fun e w' => e = .returned (.bool (inB a (-5000) 20000 && inB c (-5000) 20000)) ∧ Below w.heap.size w w' := by
  have hb : Below w.heap.size w (w.alloc (.cells #[.int .i64 a, .int .i64 c] 87)) := bal (Below.refl _ _) _
  have ⟨n0, n1, f0, f1⟩ := Two.new w (.int .i64 a) (.int .i64 c) 87
  have H1 := Lib.hid (fun wx => isTemperature_any a wx)
  have H2 := Lib.hid (fun wx => isTemperature_any c wx)
  by_cases h : inB a (-5000) 20000 = true
  · rw [h] at H1 ⊢
    generalize inB c (-5000) 20000 = v at *
    clear h
    go_enter Try.func71, Try.ntmps71
    go_wp2_with fail
    refine (H1.out _).mono ?_
    rintro e w1 ⟨rfl, hb1⟩
    have ⟨n0, n1, f0, f1⟩ := Two.next ⟨n0, n1, f0, f1⟩ hb1
    have hb := bnext hb hb1
    go_wp2_with fail
    refine (H2.out _).mono ?_
    rintro e w2 ⟨rfl, hb2⟩
    have hb := bnext hb hb2
    go_wp2
    go_ret
    exact ⟨by cases v <;> rfl, hb⟩
  · have h : inB a (-5000) 20000 = false := by simpa only [Bool.not_eq_true] using h
    rw [h] at H1 ⊢
    clear h H2
    go_enter Try.func71, Try.ntmps71
    go_wp2_with fail
    refine (H1.out _).mono ?_
    rintro e w1 ⟨rfl, hb1⟩
    have hb := bnext hb hb1
    go_wp2
    go_ret
    exact ⟨rfl, hb⟩
theorem lossM_any (p : Pp) (a c : Int) (w : World) (hok : p.ok = true) (a0 : -5000 ≤ a) (a1 : a ≤ 20000) (b0 : -5000 ≤ c) (b1 : c ≤ 20000) :
    Calls Try.prog 88 #[.agg #[.int .i64 a, .int .i64 c], .agg #[.string p.id, .int .i64 p.f, .int .i64 p.t, .int .i64 p.L, .int .i64 p.d, .int .i64 p.s]] w fun e w' => e = .returned (.int .i64 (lossW a c p)) ∧ Below w.heap.size w w' := by
  obtain ⟨⟨l0, l1⟩, -, ⟨s0, s1⟩⟩ := okPp_bd hok
  have HL := Lib.hid (fun wx => lostHeat_any p.id p.f p.t p.L p.d p.s a c wx s0 s1 (by omega) l1 a0 a1 b0 b1)
  have hb1 : Below w.heap.size w (w.alloc (.cells #[.int .i64 a, .int .i64 c] 87)) := bal (Below.refl _ _) _
  have hb : Below w.heap.size w ((w.alloc (.cells #[.int .i64 a, .int .i64 c] 87)).alloc (.cells #[.string p.id, .int .i64 p.f, .int .i64 p.t, .int .i64 p.L, .int .i64 p.d, .int .i64 p.s] 29)) := bal hb1 _
  have hn := Two.new w (.int .i64 a) (.int .i64 c) 87
  have ⟨n0, n1, f0, f1⟩ := hn.next (bal (Below.refl _ _) (.cells #[.string p.id, .int .i64 p.f, .int .i64 p.t, .int .i64 p.L, .int .i64 p.d, .int .i64 p.s] 29))
  have ⟨p0, p1, p2, p3, p4, p5⟩ := PipeO.new (w.alloc (.cells #[.int .i64 a, .int .i64 c] 87)) p 29
  unfold lossW
  generalize lossI p.s p.L a c = r at *
  clear hok hn l0 l1 s0 s1 hb1
  go_enter Try.func88, Try.ntmps88
  go_wp2_with ((go_at_call 122; refine (HL.out _).mono ?_; rintro e w' ⟨rfl, hb'⟩; have hb := bnext hb hb'))
  go_ret
  exact ⟨rfl, hb⟩

theorem convLoss_any (A : Option Addr) (c0 : Nat) (ps : List Pp) (w : World) (ta tc : Int) (hn : ps.length ≤ 1048576) (hB : CellsAt w A (rowsP ps))
    (hf : ∀ (wr : World) (x : Pp), x ∈ ps → Below w.heap.size w wr → Calls Try.prog 88 #[.agg #[.int .i64 ta, .int .i64 tc], .agg #[.string x.id, .int .i64 x.f, .int .i64 x.t, .int .i64 x.L, .int .i64 x.d, .int .i64 x.s]] wr fun e w' => e = .returned (.int .i64 (lossW ta tc x)) ∧ Below wr.heap.size wr w') :
    Calls Try.prog 93 #[.slice A ps.length c0, .func (.func 88) #[.agg #[.int .i64 ta, .int .i64 tc]] #[]] w (RetRow 2 (intsV (ps.map (lossW ta tc))) w) := by
  have HB := Lib.hid hB
  have HF := Lib.hid hf
  have hM : ps.length ≤ maxLen := by unfold maxLen; omega
  have hm : ps.length ≤ 9223372036854775807 := by omega
  obtain ⟨i0, hi, hz0, hz1, hz2⟩ := info_parts infoI64
  clear hB hf
  go_enter Try.func93, Try.ntmps93
  go_wp2_with (refine wpList_make_full _ rfl _ _ _ rfl w.heap.size 2 i0 (.int .i64 0) 1 Try.underlying32 hi hz0 hz1 _ _ _ _ ps.length rfl rfl rfl rfl (by rw [hz2]; omega) hM (Nat.le_refl _) ?_; intro w1 hown hgrow)
  have hb1 := Below.grown (Below.refl w.heap.size w) hgrow (Nat.le_refl _) (fun k hk => by cases hk)
  have hl1 := owns_len hown
  generalize (madeCells (Value.int IntKind.i64 0).cells (ps.length * 1)).toList = us at *
  have HX := Lib.hid hl1
  clear hl1
  go_loopw [13] (fun i wr => ∃ j : Nat, j ≤ ps.length ∧ i = .int .i64 j ∧ wr.ownsRow w.heap.size 2 1 (.slice (some ⟨w.heap.size, 0, none⟩) ps.length ps.length) ps.length (fillV (fun j => (intsV (ps.map (lossW ta tc))).getD j default) j us) ∧ Below w.heap.size w wr) (fun i _ => ps.length - (intOf i).toNat)
  case atStart => exact ⟨0, Nat.zero_le _, rfl, hown, hb1⟩
  case round =>
    obtain ⟨j, hj, rfl, hro, hb⟩ := hrel
    by_cases hlt : j < ps.length
    ·
      obtain ⟨b, off, rfl, hrow⟩ := pipe_at (HB.out.next hb) (by omega)
      have hp := List.getElem?_eq_getElem hlt
      have ⟨p0, p1, p2, p3, p4, p5⟩ := hrow j _ hp
      have hgd : (intsV (ps.map (lossW ta tc))).getD j default = .int .i64 ((lossW ta tc) ps[j]) := by
        rw [List.getD, intsV_at _ _ (by rw [List.length_map]; exact hlt), List.getElem_map]; rfl
      have HG := Lib.hid hgd
      have HC := Lib.hid (fun wx (hbx : Below w.heap.size w wx) => HF.out wx ps[j] (List.mem_of_getElem? hp) hbx)
      generalize ps[j] = x at *
      clear hp hrow hgd
      go_wp2_with (
        (go_at_call 88; refine (HC.out _ (bal hb _)).mono ?_; rintro e w2 ⟨rfl, hbt⟩
         have hba : Below wr.heap.size wr (wr.alloc (.cells #[.string x.id, .int .i64 x.f, .int .i64 x.t, .int .i64 x.L, .int .i64 x.d, .int .i64 x.s] 29)) := bal (Below.refl _ _) _
         have hbt2 := bnext hba hbt
         have hb2 := bnext hb hbt2
         have hro1 := owns_below hro hbt2 (Nat.le_refl _)
         clear p0 p1 p2 p3 p4 p5 hro hb hbt HC hbt2
         have hc1 := hro1.cellAt j (by omega)
         have hf1 := hro1.frozenAt j
         rw [fillV_get, List.getElem?_eq_getElem (by rw [HX.out]; exact hlt)] at hc1
         have hst := hro1.stored j (.int .i64 ((lossW ta tc) x))
         have hfs := fillV_set (fun j => (intsV (ps.map (lossW ta tc))).getD j default) us j (by rw [HX.out]; exact hlt)
         rw [HG.out] at hfs
         rw [hfs] at hst
         have Hst := Lib.hid hst
         clear hst hfs hro1))
      go_roundw
      case rel => exact ⟨j + 1, by omega, by go_num, Hst.out.1, hb2.setCell (Nat.le_refl _) _⟩
      case measure => simp [intOf]; omega
    · obtain rfl : j = ps.length := by omega
      have hfa := fillV_all (fun k => (intsV (ps.map (lossW ta tc))).getD k default) ps.length us HX.out
      have hru : (List.range ps.length).map (fun k => (intsV (ps.map (lossW ta tc))).getD k default) = intsV (ps.map (lossW ta tc)) := by
        refine List.ext_getElem (by rw [List.length_map, List.length_range, intsV_length, List.length_map]) fun k h1 h2 => ?_
        simp [List.getD, h2]
      have hfin := retRow_mk (vs := intsV (ps.map (lossW ta tc))) (w := w) rfl hro (hfa.trans hru) hb
      have HF9 := Lib.hid hfin
      clear hfin hfa hru hro
      go_wp2
      go_ret
      exact HF9.out

theorem losses_any (A B : Option Addr) (c d : Nat) (z : List Int) (ps : List Pp) (ta tc : Int) (w : World) (hB : CellsAt w B (rowsP ps)) (hok : ∀ p ∈ ps, p.ok = true) (hm : ps.length ≤ 20) (a0 : -5000 ≤ ta) (a1 : ta ≤ 20000) (b0 : -5000 ≤ tc) (b1 : tc ≤ 20000) :
    Calls Try.prog 73 #[.agg #[.int .i64 ta, .int .i64 tc], .agg #[.slice A z.length c, .slice B ps.length d]] w (RetRow 2 (intsV (ps.map (lossW ta tc))) w) := by
  have hb1 : Below w.heap.size w (w.alloc (.cells #[.int .i64 ta, .int .i64 tc] 87)) := bal (Below.refl _ _) _
  have hb : Below w.heap.size w ((w.alloc (.cells #[.int .i64 ta, .int .i64 tc] 87)).alloc (.cells #[.slice A z.length c, .slice B ps.length d] 40)) := bal hb1 _
  have hn := Two.new w (.int .i64 ta) (.int .i64 tc) 87
  have hn := hn.next (bal (Below.refl _ _) (.cells #[.slice A z.length c, .slice B ps.length d] 40))
  have ⟨n0, n1, f0, f1⟩ := hn
  have ⟨m0, m1⟩ := NetAt.new (w.alloc (.cells #[.int .i64 ta, .int .i64 tc] 87)) A z.length c B ps.length d 40
  have HC := Lib.hid (fun wx (hbx : Below w.heap.size w wx) => convLoss_any B d ps wx ta tc (by omega) (hB.next hbx) (fun wr x hx _ => lossM_any x ta tc wr (hok x hx) a0 a1 b0 b1))
  clear hn hb1 hB hok a0 a1 b0 b1
  go_enter Try.func73, Try.ntmps73
  go_wp2_with fail
  refine (HC.out _ hb).mono ?_
  rintro e w' hq
  obtain ⟨T, td, rfl, ho, hbs⟩ := retInts_of hq
  rw [List.length_map] at ho ⊢
  have HR := Lib.hid (retRow_mk (w := w) (vs := intsV (ps.map (lossW ta tc))) rfl (owns_base ho hb.size) rfl (bnext hb hbs))
  clear ho hbs hq
  go_wp2
  go_ret
  exact HR.out
theorem sum1_any (v : Int) (w : World) : Calls Try.prog 127 #[.int .i64 v] w fun e w' => e = .returned (.int .i64 v) ∧ w = w' := by
  go_enter Try.func127, Try.ntmps127
  go_wp2
  go_ret
  exact ⟨rfl, rfl⟩
theorem totI_any (A : Option Addr) (c : Nat) (xs : List Int) (K : Int) (w : World) (hl : xs.length ≤ 1048576) (hx : CellsAt w A (intsV xs)) (hK : K ≤ 4000000000000000000) (hbd : ∀ k, -K ≤ (xs.take k).sum ∧ (xs.take k).sum ≤ K) :
    Calls Try.prog 126 #[.slice A xs.length c, .func (.func 127) #[] #[]] w fun e w' => e = .returned (.int .i64 xs.sum) ∧ Drawn w w' := by
  have HB := Lib.hid hx
  have HBD := Lib.hid hbd
  have h0 := hbd 0
  clear hx hbd
  go_enter Try.func126, Try.ntmps126
  go_wp2
  go_loopw [5, 10] (fun v i wr => ∃ (q : Nat) (s : Int), q ≤ xs.length ∧ v = .int .i64 s ∧ i = .int .i64 q ∧ -K ≤ s ∧ s ≤ K ∧ Hid (s = (xs.take q).sum) ∧ Drawn w wr) (fun _ i _ => xs.length - (intOf i).toNat)
  case atStart => exact ⟨0, 0, Nat.zero_le _, rfl, rfl, h0.1, h0.2, Lib.hid rfl, Drawn.rfl' _⟩
  case round =>
    obtain ⟨q, s, hq, rfl, rfl, s0, s1, HS, ⟨nr, rfl⟩⟩ := hrel
    by_cases hlq : q < xs.length
    · obtain ⟨b2, o2, rfl, hrow⟩ := HB.out (by rw [intsV_length]; omega)
      have p0 := hrow q (by rw [intsV_length]; exact hlq)
      rw [intsV_at _ _ hlq] at p0
      have hT : (xs.take (q + 1)).sum = s + xs[q] := by
        have := sumTk (fun x : Int => x) xs q _ (List.getElem?_eq_getElem hlq)
        simp only [List.map_id'] at this
        rw [HS.out]; exact this
      have hbd := HBD.out (q + 1)
      rw [hT] at hbd
      have HSU := Lib.hid hT
      clear hT hrow
      generalize xs[q] = u at *
      go_wp2_with ((go_at_call 127; refine (sum1_any _ _).mono ?_; rintro e w' ⟨rfl, rfl⟩))
      go_roundw
      case rel => exact ⟨q + 1, s + u, by omega, rfl, by go_num, hbd.1, hbd.2, Lib.hid HSU.out.symm, ⟨_, rfl⟩⟩
      case measure => simp [intOf]; omega
    · have e : q = xs.length := by omega
      subst e
      have HE := Lib.hid (by have := HS.out; rw [List.take_of_length_le (Nat.le_refl _)] at this; exact this)
      go_wp2
      go_ret
      exact ⟨ret_int HE.out, ⟨_, rfl⟩⟩
theorem sumOf_any (A : Option Addr) (n c : Nat) (xs : List Int) (K : Int) (w : World) (hn : xs.length = n) (hl : xs.length ≤ 1048576) (hx : CellsAt w A (intsV xs)) (hK : K ≤ 4000000000000000000) (hbd : ∀ k, -K ≤ (xs.take k).sum ∧ (xs.take k).sum ≤ K) :
    Calls Try.prog 72 #[.slice A n c] w fun e w' => e = .returned (.int .i64 xs.sum) ∧ Drawn w w' := by
  subst hn
  have HT := Lib.hid (totI_any A c xs K w hl hx hK hbd)
  clear hx hbd
  go_enter Try.func72, Try.ntmps72
  go_wp2_with ((go_at_call 126; refine HT.out.mono ?_; rintro e w' ⟨rfl, ⟨nq, rfl⟩⟩))
  go_ret
  exact ⟨rfl, ⟨_, rfl⟩⟩

end Go.Proofs.Ytgdafgnjaogmeaa
