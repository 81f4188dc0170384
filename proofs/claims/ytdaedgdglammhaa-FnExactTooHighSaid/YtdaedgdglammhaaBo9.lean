/-
  TooHigh of both sides.
-/
import Derived.Test.YtdaedgdglammhaaBo8
import Derived.Laws.OwnMore
namespace Go.Proofs.Ytdaedgdglammhaa
open Go.ChangeShapes Go.WideShapes Go.ChangeAt Go.RowKit Go.Shelf

set_option linter.unusedVariables false
set_option maxRecDepth 100000
set_option maxHeartbeats 4000000
def highB (zs : List Int) (l : Int) (k : Nat) : Bool := decide (l < zs.getD k 0)
def tooHighC (zs : List Int) (l : Int) : Int := nodC (prB zs && inB l 0 100000000) zs.length zs.length
def tooHighX (zs : List Int) (l : Int) : List Int := if tooHighC zs l = 0 then idxTo (highB zs l) zs.length else []
theorem th_ok {zs : List Int} {l : Int} (h : tooHighC zs l = 0) : prB zs = true ∧ inB l 0 100000000 = true ∧ zs.length ≤ 16 := by
  unfold tooHighC nodC at h
  split at h
  · next hh =>
    rw [Bool.and_eq_true] at hh
    split at h
    · next hl => exact ⟨hh.1, hh.2, hl.2⟩
    · cases h
  · cases h
theorem tooHighX_short (zs : List Int) (l : Int) : (tooHighX zs l).length ≤ 1048576 := by
  unfold tooHighX
  split
  · next h => have := (th_ok h).2.2; have := idxTo_length (highB zs l) zs.length; omega
  · simp
theorem thAsk_any (b : Nat) (x m : Int) (w : World) (hm : w.cell? ⟨b, 0, none⟩ = some (.int .i64 m)) :
    Calls Try.prog 103 #[.int .i64 x, .pointer (some ⟨b, 0, none⟩)] w fun e w' => e = .returned (.bool (decide (m < x))) ∧ Below w.heap.size w w' := by
  have hb : Below w.heap.size w w := Below.refl _ _
  go_enter Try.func103, Try.ntmps103
  go_wp2
  go_ret
  exact ⟨rfl, hb⟩
theorem implTooHigh_ic (A : Option Addr) (ca : Nat) (zs : List Int) (l : Int) (w : World) (hA : CellsAt w A (intsV zs)) (hn : zs.length ≤ 1048576) :
    Calls Try.prog 40 #[.slice A zs.length ca, .int .i64 l] w (RetIC (tooHighX zs l) (tooHighC zs l) w) := by
  have hb : Below w.heap.size w (w.alloc (.cells #[.int .i64 l] 2)) := bal (Below.refl _ _) _
  have c0 : (w.alloc (.cells #[.int .i64 l] 2)).cell? ⟨w.heap.size, 0, none⟩ = some (.int .i64 l) := by rw [World.cell?_alloc_at _ _ _ _ rfl]; rfl
  have hN : ∀ (r : Bool) (W : World) (L : Nat), W.cell? ⟨L, 0, none⟩ = some (.slice A zs.length ca) → Calls Try.prog 101 #[.bool r, .slice (some ⟨L, 0, none⟩) 1 1] W fun e w' => e = .returned (.int .i64 (nodC r zs.length zs.length)) ∧ Below W.heap.size W w' := fun r W L a => by
    have h := nodesCode_any L 1 (fun _ => zs.length) r W (by omega) (by omega) (fun k hk => hn) (fun k hk => by
      match k, hk with
      | 0, _ => exact ⟨A, ca, a⟩)
    rw [lenOk_one] at h
    simpa [nodC] using h
  have HN := Lib.hid hN
  have HP := Lib.hid (fun (W : World) (hW : Below w.heap.size w W) => arePressures_any A ca zs W (hA.next hW) hn)
  have H1 := Lib.hid (fun W => isPressure_any l W)
  unfold tooHighX
  clear hN
  by_cases h1 : prB zs = true
  rotate_left
  · have h1' : prB zs = false := by simpa using h1
    have hc : tooHighC zs l = 2 := by unfold tooHighC nodC; rw [h1']; rfl
    rw [hc, if_neg (by decide)]
    have HP := Lib.hid (by have h := HP.out; rw [h1'] at h; exact h)
    clear hA hc h1 h1'
    go_enter Try.func40, Try.ntmps40
    go_wp2_with (first | (go_at_call 102; refine (HP.out _ hb).mono ?_; rintro e w' ⟨rfl, rfl⟩) | (go_at_call 80; refine (H1.out _).mono ?_; rintro e w' ⟨rfl, hb'⟩; have c0 := (hb'.cell (World.block_lt_of_cell? _ _ c0)).trans c0; have hb := bnext hb hb'; clear hb'))
    have hbA := bal hb (.cells #[.slice A zs.length ca] 31)
    refine (HN.out _ _ _ (by first | exact (World.cell?_alloc_at _ _ _ _ (by simp)).trans rfl | simp)).mono ?_
    rintro e w5 ⟨rfl, hb'⟩
    have c0 := (hb'.cell (World.block_lt_of_cell? _ _ (((bal (Below.refl _ _) _).cell (World.block_lt_of_cell? _ _ c0)).trans c0))).trans (((bal (Below.refl _ _) _).cell (World.block_lt_of_cell? _ _ c0)).trans c0)
    have hb := bnext hbA hb'
    clear hb' hbA
    go_wp2_with fail
    go_ret2
    exact retIC_nil rfl hb
  have HP := Lib.hid (by have h := HP.out; rw [h1] at h; exact h)
  by_cases h2 : inB l 0 100000000 = true
  rotate_left
  · have h2' : inB l 0 100000000 = false := by simpa using h2
    have hc : tooHighC zs l = 2 := by unfold tooHighC nodC; rw [h1, h2']; rfl
    rw [hc, if_neg (by decide)]
    have H1 := Lib.hid (by have h := H1.out; rw [h2'] at h; exact h)
    clear hA hc h1 h2 h2'
    go_enter Try.func40, Try.ntmps40
    go_wp2_with (first | (go_at_call 102; refine (HP.out _ hb).mono ?_; rintro e w' ⟨rfl, rfl⟩) | (go_at_call 80; refine (H1.out _).mono ?_; rintro e w' ⟨rfl, hb'⟩; have c0 := (hb'.cell (World.block_lt_of_cell? _ _ c0)).trans c0; have hb := bnext hb hb'; clear hb'))
    have hbA := bal hb (.cells #[.slice A zs.length ca] 31)
    refine (HN.out _ _ _ (by first | exact (World.cell?_alloc_at _ _ _ _ (by simp)).trans rfl | simp)).mono ?_
    rintro e w5 ⟨rfl, hb'⟩
    have c0 := (hb'.cell (World.block_lt_of_cell? _ _ (((bal (Below.refl _ _) _).cell (World.block_lt_of_cell? _ _ c0)).trans c0))).trans (((bal (Below.refl _ _) _).cell (World.block_lt_of_cell? _ _ c0)).trans c0)
    have hb := bnext hbA hb'
    clear hb' hbA
    go_wp2_with fail
    go_ret2
    exact retIC_nil rfl hb
  have H1 := Lib.hid (by have h := H1.out; rw [h2] at h; exact h)
  have hcn : tooHighC zs l = nodC true zs.length zs.length := by unfold tooHighC; rw [h1, h2]; rfl
  by_cases h16 : zs.length ≤ 16
  rotate_left
  · have hc7 : nodC true zs.length zs.length = 7 := by unfold nodC; exact (if_pos rfl).trans (if_neg (fun h => h16 h.2))
    rw [hcn, hc7, if_neg (by decide)]
    have HN := Lib.hid (by have h := HN.out true; rw [hc7] at h; exact h)
    clear hA h1 h2 hcn hc7
    go_enter Try.func40, Try.ntmps40
    go_wp2_with (first | (go_at_call 102; refine (HP.out _ hb).mono ?_; rintro e w' ⟨rfl, rfl⟩) | (go_at_call 80; refine (H1.out _).mono ?_; rintro e w' ⟨rfl, hb'⟩; have c0 := (hb'.cell (World.block_lt_of_cell? _ _ c0)).trans c0; have hb := bnext hb hb'; clear hb'))
    have hbA := bal hb (.cells #[.slice A zs.length ca] 31)
    refine (HN.out _ _ (by first | exact (World.cell?_alloc_at _ _ _ _ (by simp)).trans rfl | simp)).mono ?_
    rintro e w5 ⟨rfl, hb'⟩
    have c0 := (hb'.cell (World.block_lt_of_cell? _ _ (((bal (Below.refl _ _) _).cell (World.block_lt_of_cell? _ _ c0)).trans c0))).trans (((bal (Below.refl _ _) _).cell (World.block_lt_of_cell? _ _ c0)).trans c0)
    have hb := bnext hbA hb'
    clear hb' hbA
    go_wp2_with fail
    go_ret2
    exact retIC_nil rfl hb
  have hc0 : nodC true zs.length zs.length = 0 := by unfold nodC; exact (if_pos rfl).trans (if_pos ⟨rfl, h16⟩)
  rw [hcn, hc0, if_pos rfl]
  have HN := Lib.hid (by have h := HN.out true; rw [hc0] at h; exact h)
  have hI : ∀ (W : World), Below w.heap.size w W → W.cell? ⟨w.heap.size, 0, none⟩ = some (.int .i64 l) → Calls Try.prog 88 #[.slice A zs.length ca, .func (.func 103) #[] #[.pointer (some ⟨w.heap.size, 0, none⟩)]] W (RetRow 2 (intsV (idxTo (highB zs l) zs.length)) W) := fun W hW hq => by
    exact indicesWhere_any A ca zs 103 #[] #[.pointer (some ⟨w.heap.size, 0, none⟩)] (highB zs l) W (enters_of Try.func103 (by kernel_rfl) rfl) (hA.next hW) h16
      (fun wr k hk hbr => by
        have := thAsk_any w.heap.size (zs.getD k 0) l wr ((hbr.cell (World.block_lt_of_cell? _ _ hq)).trans hq)
        simpa [highB] using this)
  have HI := Lib.hid hI
  generalize idxTo (highB zs l) zs.length = ix at *
  clear hA h1 h2 hcn hc0 hI
  go_enter Try.func40, Try.ntmps40
  go_wp2_with (first | (go_at_call 102; refine (HP.out _ hb).mono ?_; rintro e w' ⟨rfl, rfl⟩) | (go_at_call 80; refine (H1.out _).mono ?_; rintro e w' ⟨rfl, hb'⟩; have c0 := (hb'.cell (World.block_lt_of_cell? _ _ c0)).trans c0; have hb := bnext hb hb'; clear hb'))
  have hbA := bal hb (.cells #[.slice A zs.length ca] 31)
  refine (HN.out _ _ (by first | exact (World.cell?_alloc_at _ _ _ _ (by simp)).trans rfl | simp)).mono ?_
  rintro e w5 ⟨rfl, hb'⟩
  have c0 := (hb'.cell (World.block_lt_of_cell? _ _ (((bal (Below.refl _ _) _).cell (World.block_lt_of_cell? _ _ c0)).trans c0))).trans (((bal (Below.refl _ _) _).cell (World.block_lt_of_cell? _ _ c0)).trans c0)
  have hb := bnext hbA hb'
  clear hb' hbA
  go_wp2_with fail
  refine (HI.out _ hb c0).mono ?_
  rintro e w3 hq
  obtain ⟨T, td, rfl, ho, hbs⟩ := retInts_of hq
  have HF := Lib.hid (retIC_mk (w := w) (C := 0) rfl ho hb.size (bnext hb hbs))
  clear hq ho
  go_wp2
  go_ret2
  exact HF.out

theorem zNodes_any (P D : Option Addr) (pc dc : Nat) (zs : List Int) (w : World) (hP : CellsAt w P (intsV zs)) (hD : CellsAt w D (intsV (List.replicate zs.length 0))) (hn : zs.length ≤ 1048576) :
    Calls Try.prog 85 #[.slice P zs.length pc, .slice D zs.length dc] w fun e w' => e = .returned (.int .i64 (nodC (prB zs) zs.length zs.length)) ∧ Below w.heap.size w w' := by
  have h := l11Nodes_any P D pc dc zs (List.replicate zs.length 0) w hP hD hn (by rw [List.length_replicate]; exact hn)
  rw [List.length_replicate] at h
  have hw : waB (List.replicate zs.length 0) = true := by
    unfold waB allIn
    rw [List.all_eq_true]
    intro x hx
    rw [(List.mem_replicate.1 hx).2]
    decide
  rw [hw, Bool.and_true] at h
  exact h
theorem specTooHigh_ic (A : Option Addr) (ca : Nat) (zs : List Int) (l : Int) (w : World) (hA : CellsAt w A (intsV zs)) (hn : zs.length ≤ 1048576) :
    Calls Try.prog 39 #[.slice A zs.length ca, .int .i64 l] w (RetIC (tooHighX zs l) (tooHighC zs l) w) := by
  have hM : zs.length ≤ maxLen := by unfold maxLen; omega
  obtain ⟨i0, hi, hz0, hz1, hz2⟩ := info_parts infoI64
  have HW := Lib.hid (fun (W : World) (D : Option Addr) (dc : Nat) (hW : Below w.heap.size w W) (hD : CellsAt W D (intsV (List.replicate zs.length 0))) => zNodes_any A D ca dc zs W (hA.next hW) hD hn)
  have HA := Lib.hid hA
  have hzero : ∀ n : Nat, (madeCells (Value.int IntKind.i64 0).cells (n * 1)).toList = intsV (List.replicate n 0) := fun n => by
    rw [Nat.mul_one]
    show (madeCells #[Value.int IntKind.i64 0] n).toList = _
    rw [toList_madeCells_one]
    unfold intsV
    rw [List.map_replicate]
  have HZ := Lib.hid hzero
  clear hA hzero
  unfold tooHighX
  by_cases h2 : inB l 0 100000000 = true
  rotate_left
  · have h2' : inB l 0 100000000 = false := by simpa using h2
    have hc : tooHighC zs l = 2 := by unfold tooHighC nodC; rw [h2', Bool.and_false]; rfl
    rw [hc, if_neg (by decide)]
    clear hc h2
    generalize nodC (prB zs) zs.length zs.length = k at HW
    by_cases hk : k = 2
    · have f1 : (k == 2) = true := by rw [hk]; rfl
      subst hk
      go_enter Try.func39, Try.ntmps39
      go_wp2_with (first | (refine wpList_make_full _ rfl _ _ _ rfl w.heap.size 2 i0 (.int .i64 0) 1 Try.underlying31 hi hz0 hz1 _ _ _ _ zs.length rfl rfl rfl rfl (by rw [hz2]; omega) hM (Nat.le_refl _) ?_; intro w1 hown hgrow) | fail)
      have hb := Below.grown (Below.refl w.heap.size w) hgrow (Nat.le_refl _) (fun k hk => by cases hk)
      rw [HZ.out] at hown
      have hD := owns_cells hown
      clear hown hgrow
      go_wp2_with (first | (go_at_call 85; refine (HW.out _ _ _ hb hD).mono ?_; rintro e w5 ⟨rfl, hb'⟩; have hb := bnext hb hb'; clear hb') | (go_at_call 77; refine (l03Press_any _ _).mono ?_; rintro e w' ⟨rfl, rfl⟩))
      go_ret2
      exact retIC_nil rfl hb
    · have f1 : (k == 2) = false := beq_eq_false_iff_ne.2 hk
      go_enter Try.func39, Try.ntmps39
      go_wp2_with (first | (refine wpList_make_full _ rfl _ _ _ rfl w.heap.size 2 i0 (.int .i64 0) 1 Try.underlying31 hi hz0 hz1 _ _ _ _ zs.length rfl rfl rfl rfl (by rw [hz2]; omega) hM (Nat.le_refl _) ?_; intro w1 hown hgrow) | fail)
      have hb := Below.grown (Below.refl w.heap.size w) hgrow (Nat.le_refl _) (fun k hk => by cases hk)
      rw [HZ.out] at hown
      have hD := owns_cells hown
      clear hown hgrow
      go_wp2_with (first | (go_at_call 85; refine (HW.out _ _ _ hb hD).mono ?_; rintro e w5 ⟨rfl, hb'⟩; have hb := bnext hb hb'; clear hb') | (go_at_call 77; refine (l03Press_any _ _).mono ?_; rintro e w' ⟨rfl, rfl⟩))
      go_ret2
      exact retIC_nil rfl hb
  have hcn : tooHighC zs l = nodC (prB zs) zs.length zs.length := by unfold tooHighC; rw [h2, Bool.and_true]
  by_cases hc : tooHighC zs l = 0
  rotate_left
  · rw [if_neg hc, hcn]
    rw [hcn] at hc
    clear hcn
    generalize nodC (prB zs) zs.length zs.length = k at *
    by_cases hk : k = 2
    · have f1 : (k == 2) = true := by rw [hk]; rfl
      subst hk
      go_enter Try.func39, Try.ntmps39
      go_wp2_with (first | (refine wpList_make_full _ rfl _ _ _ rfl w.heap.size 2 i0 (.int .i64 0) 1 Try.underlying31 hi hz0 hz1 _ _ _ _ zs.length rfl rfl rfl rfl (by rw [hz2]; omega) hM (Nat.le_refl _) ?_; intro w1 hown hgrow) | fail)
      have hb := Below.grown (Below.refl w.heap.size w) hgrow (Nat.le_refl _) (fun k hk => by cases hk)
      rw [HZ.out] at hown
      have hD := owns_cells hown
      clear hown hgrow
      go_wp2_with (first | (go_at_call 85; refine (HW.out _ _ _ hb hD).mono ?_; rintro e w5 ⟨rfl, hb'⟩; have hb := bnext hb hb'; clear hb') | (go_at_call 77; refine (l03Press_any _ _).mono ?_; rintro e w' ⟨rfl, rfl⟩))
      go_ret2
      exact retIC_nil rfl hb
    · have f1 : (k == 2) = false := beq_eq_false_iff_ne.2 hk
      go_enter Try.func39, Try.ntmps39
      go_wp2_with (first | (refine wpList_make_full _ rfl _ _ _ rfl w.heap.size 2 i0 (.int .i64 0) 1 Try.underlying31 hi hz0 hz1 _ _ _ _ zs.length rfl rfl rfl rfl (by rw [hz2]; omega) hM (Nat.le_refl _) ?_; intro w1 hown hgrow) | fail)
      have hb := Below.grown (Below.refl w.heap.size w) hgrow (Nat.le_refl _) (fun k hk => by cases hk)
      rw [HZ.out] at hown
      have hD := owns_cells hown
      clear hown hgrow
      go_wp2_with (first | (go_at_call 85; refine (HW.out _ _ _ hb hD).mono ?_; rintro e w5 ⟨rfl, hb'⟩; have hb := bnext hb hb'; clear hb') | (go_at_call 77; refine (l03Press_any _ _).mono ?_; rintro e w' ⟨rfl, rfl⟩))
      go_ret2
      exact retIC_nil rfl hb
  rw [if_pos hc]
  have h16 := (th_ok hc).2.2
  have HW := Lib.hid (by have h := HW.out; rw [← hcn, hc] at h; exact h)
  rw [hc]
  clear hc hcn
  go_enter Try.func39, Try.ntmps39
  go_wp2_with (first | (refine wpList_make_full _ rfl _ _ _ rfl w.heap.size 2 i0 (.int .i64 0) 1 Try.underlying31 hi hz0 hz1 _ _ _ _ zs.length rfl rfl rfl rfl (by rw [hz2]; omega) hM (Nat.le_refl _) ?_; intro w1 hown hgrow) | fail)
  have hb := Below.grown (Below.refl w.heap.size w) hgrow (Nat.le_refl _) (fun k hk => by cases hk)
  rw [HZ.out] at hown
  have hD := owns_cells hown
  clear hown hgrow
  go_wp2_with (first | (go_at_call 85; refine (HW.out _ _ _ hb hD).mono ?_; rintro e w5 ⟨rfl, hb'⟩; have hb := bnext hb hb'; clear hb') | (go_at_call 77; refine (l03Press_any _ _).mono ?_; rintro e w' ⟨rfl, rfl⟩))
  go_loopw [7, 8] (fun v i wr => ∃ (k n : Nat) (T : Option Addr) (td : Nat), k ≤ zs.length ∧ n ≤ k ∧ i = .int .i64 k ∧ v = .slice T n td ∧ wr.ownsRow w.heap.size 2 1 (.slice T n td) n (intsV (idxTo (highB zs l) k)) ∧ Below w.heap.size w wr) (fun _ i _ => zs.length - (intOf i).toNat)
  case atStart => exact ⟨0, 0, _, _, by omega, by omega, rfl, rfl, owns_empty _ _ _ hb.size, bal hb _⟩
  case round =>
    obtain ⟨k, n, T, td, hk, hlk, rfl, rfl, hro, hb⟩ := hrel
    by_cases hlt : k < zs.length
    · obtain ⟨bp, op, rfl, q0⟩ := intsCell (HA.out.next hb) hlt
      have hk1 : (k : Int) < ((zs.length : Nat) : Int) := by omega
      have hyes : l < zs.getD k 0 → Hid (idxTo (highB zs l) (k + 1) = idxTo (highB zs l) k ++ [(k : Int)]) := fun h => Lib.hid (idxTo_yes _ _ (by unfold highB; exact decide_eq_true h))
      have hno : ¬ l < zs.getD k 0 → Hid (idxTo (highB zs l) (k + 1) = idxTo (highB zs l) k) := fun h => Lib.hid (idxTo_no _ _ (by unfold highB; exact decide_eq_false h))
      have hl48 : n ≤ 16 := by omega
      generalize zs.getD k 0 = y1 at *
      have hro1 := hro
      have hb1 := hb
      by_cases hp : l < y1
      · have HT := hyes hp
        have f1 : decide (l < y1) = true := decide_eq_true hp
        clear hyes hno hp
        go_wp2_with (at_builtin; refine wpList_append_own _ rfl _ _ 31 rfl w.heap.size 2 i0 (.int .i64 0) 1 8 Try.underlying31 hi hz0 hz1 hz2 rfl (by decide) _ _ _ rfl (hro1.alloc _) ⟨wr.heap.size, 0, none⟩ 1 1 [.int .i64 (k : Int)] rfl rfl (cell_one_new _ _ _) (by simp [Value.oneCell']) ?_ ?_ ?_ ?_; (unfold maxLen; omega); (omega); (have := hb1.size; simp; omega); intro v4 w4 hown4 hgrow4 _; obtain ⟨T4, d4, rfl⟩ := owns_form hown4)
        go_roundw
        case rel => exact ⟨k + 1, n + 1, T4, d4, by omega, by omega, by go_num, rfl, by rw [HT.out, intsV_snoc]; exact hown4, (bal hb1 _).grown hgrow4 (by have := hb1.size; simp; omega) (owns_ge hro)⟩
        case measure => simp [intOf]; omega
      · have HT := hno hp
        have f1 : decide (l < y1) = false := decide_eq_false hp
        clear hyes hno hp
        go_wp2
        go_roundw
        case rel => exact ⟨k + 1, n, T, td, by omega, by omega, by go_num, rfl, by rw [HT.out]; exact hro1, hb1⟩
        case measure => simp [intOf]; omega
    · have he : k = zs.length := by omega
      subst he
      have HF := Lib.hid (retIC_mk (w := w) (C := 0) rfl hro (Nat.le_refl _) hb)
      clear hro
      go_wp2
      go_ret2
      exact HF.out
end Go.Proofs.Ytdaedgdglammhaa
