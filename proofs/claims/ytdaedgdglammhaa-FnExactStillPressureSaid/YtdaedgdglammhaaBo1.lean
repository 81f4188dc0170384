/-
  The codes of pressures and temperatures of nodes: the model's and the program's.
-/
import Derived.Test.YtdaedgdglammhaaBo0
import Derived.Test.YtdaedgdglammhaaB6
import Derived.Test.YtdaedgdglammhaaTw
namespace Go.Proofs.Ytdaedgdglammhaa
open Go.ChangeShapes Go.WideShapes Go.ChangeAt Go.RowKit Go.Shelf

set_option linter.unusedVariables false
set_option maxRecDepth 100000
set_option maxHeartbeats 4000000
theorem intsCell {w : World} {A : Option Addr} {zs : List Int} (h : CellsAt w A (intsV zs)) {k : Nat} (hk : k < zs.length) : ∃ b o, A = some ⟨b, o, none⟩ ∧ w.cell? ⟨b, o + k, none⟩ = some (.int .i64 (zs.getD k 0)) := by
  obtain ⟨b, o, rfl, hc⟩ := h (by rw [intsV_length]; omega)
  refine ⟨b, o, rfl, ?_⟩
  rw [hc k (by rw [intsV_length]; exact hk), intsV_at _ _ hk]
  simp [List.getD, hk]
def prB (zs : List Int) : Bool := allIn (-100000000) 100000000 zs
def waB (ds : List Int) : Bool := allIn 0 18000 ds
/-- the code of two lists that are in their ranges or not -/
def nodC (r : Bool) (n m : Nat) : Int := if r = true then (if n = m ∧ n ≤ 16 then 0 else 7) else 2
theorem allIn_bad {lo hi : Int} {zs : List Int} {k : Nat} (hk : k < zs.length) (h : inB (zs.getD k 0) lo hi = false) : allIn lo hi zs = false :=
  allIn_false lo hi zs k hk fun hh => by rw [inB_true hh] at h; cases h
theorem allIn_next {lo hi : Int} {zs : List Int} {k : Nat} (hk : k < zs.length) (h : allIn lo hi (zs.take k) = true) (h2 : inB (zs.getD k 0) lo hi = true) : allIn lo hi (zs.take (k + 1)) = true := by
  rw [allIn_take_succ lo hi zs k hk, h, Bool.true_and]
  exact decide_eq_true (inB_iff.1 h2)
theorem l11Warm_any (n : Int) (w : World) : Calls Try.prog 94 #[.int .i64 n] w fun e w' => e = .returned (.bool (inB n 0 18000)) ∧ w = w' := by
  go_enter Try.func94, Try.ntmps94
  go_wp2_with ((go_at_call 133; refine (l02Degrees_any _ _).mono ?_; rintro e w' ⟨rfl, rfl⟩))
  go_ret
  exact ⟨rfl, rfl⟩

theorem l11Nodes_any (P D : Option Addr) (pc dc : Nat) (zs ds : List Int) (w : World) (hP : CellsAt w P (intsV zs)) (hD : CellsAt w D (intsV ds)) (hn : zs.length ≤ 1048576) (hm : ds.length ≤ 1048576) :
    Calls Try.prog 85 #[.slice P zs.length pc, .slice D ds.length dc] w fun e w' => e = .returned (.int .i64 (nodC (prB zs && waB ds) zs.length ds.length)) ∧ Below w.heap.size w w' := by
  have HP := Lib.hid hP
  have HD := Lib.hid hD
  clear hP hD
  go_enter Try.func85, Try.ntmps85
  go_wp2_with fail
  go_loopw [5] (fun i wr => ∃ k : Nat, k ≤ zs.length ∧ i = .int .i64 k ∧ Below w.heap.size w wr ∧ Hid (allIn (-100000000) 100000000 (zs.take k) = true)) (fun i _ => zs.length - (intOf i).toNat)
  case atStart => exact ⟨0, by omega, rfl, Below.refl _ _, Lib.hid rfl⟩
  case round =>
    obtain ⟨k, hk, rfl, hb, I⟩ := hrel
    by_cases hlt : k < zs.length
    · obtain ⟨b, off, rfl, hc⟩ := intsCell (HP.out.next hb) hlt
      have hk1 : (k : Int) < ((zs.length : Nat) : Int) := by omega
      have HI := Lib.hid (fun W => in_any (zs.getD k 0) (-100000000) 100000000 W)
      by_cases hin : inB (zs.getD k 0) (-100000000) 100000000 = true
      · have IN := Lib.hid (allIn_next hlt I.out hin)
        have HI := Lib.hid (fun W => by have h := HI.out W; rw [hin] at h; exact h)
        clear hin
        generalize zs.getD k 0 = v at *
        go_wp2_with ((go_at_call 65; refine (HI.out _).mono ?_; rintro e w' ⟨rfl, rfl⟩))
        go_roundw
        case rel => exact ⟨k + 1, by omega, by go_num, hb, IN⟩
        case measure => simp [intOf]; omega
      · have hin' : inB (zs.getD k 0) (-100000000) 100000000 = false := by simpa using hin
        have HV : Hid (nodC (prB zs && waB ds) zs.length ds.length = 2) := Lib.hid (by unfold nodC prB; rw [allIn_bad hlt hin']; rfl)
        have HI := Lib.hid (fun W => by have h := HI.out W; rw [hin'] at h; exact h)
        clear hin hin'
        generalize zs.getD k 0 = v at *
        go_wp2_with ((go_at_call 65; refine (HI.out _).mono ?_; rintro e w' ⟨rfl, rfl⟩))
        go_ret
        exact ⟨by rw [HV.out]; rfl, hb⟩
    · have he : k = zs.length := by omega
      subst he
      have HA : Hid (prB zs = true) := Lib.hid (by have h := I.out; rwa [List.take_length] at h)
      clear I
      go_wp2_with fail
      go_loopw [6] (fun i wr => ∃ k : Nat, k ≤ ds.length ∧ i = .int .i64 k ∧ Below w.heap.size w wr ∧ Hid (allIn 0 18000 (ds.take k) = true)) (fun i _ => ds.length - (intOf i).toNat)
      case atStart => exact ⟨0, by omega, rfl, hb, Lib.hid rfl⟩
      case round =>
        obtain ⟨k, hk, rfl, hb, I⟩ := hrel
        by_cases hlt : k < ds.length
        · obtain ⟨b, off, rfl, hc⟩ := intsCell (HD.out.next hb) hlt
          have hk1 : (k : Int) < ((ds.length : Nat) : Int) := by omega
          have HI := Lib.hid (fun W => l11Warm_any (ds.getD k 0) W)
          by_cases hin : inB (ds.getD k 0) 0 18000 = true
          · have IN := Lib.hid (allIn_next hlt I.out hin)
            have HI := Lib.hid (fun W => by have h := HI.out W; rw [hin] at h; exact h)
            clear hin
            generalize ds.getD k 0 = v at *
            go_wp2_with ((go_at_call 94; refine (HI.out _).mono ?_; rintro e w' ⟨rfl, rfl⟩))
            go_roundw
            case rel => exact ⟨k + 1, by omega, by go_num, hb, IN⟩
            case measure => simp [intOf]; omega
          · have hin' : inB (ds.getD k 0) 0 18000 = false := by simpa using hin
            have HV : Hid (nodC (prB zs && waB ds) zs.length ds.length = 2) := Lib.hid (by unfold nodC waB; rw [allIn_bad hlt hin', Bool.and_false]; rfl)
            have HI := Lib.hid (fun W => by have h := HI.out W; rw [hin'] at h; exact h)
            clear hin hin'
            generalize ds.getD k 0 = v at *
            go_wp2_with ((go_at_call 94; refine (HI.out _).mono ?_; rintro e w' ⟨rfl, rfl⟩))
            go_ret
            exact ⟨by rw [HV.out]; rfl, hb⟩
        · have he : k = ds.length := by omega
          subst he
          have HB : Hid (waB ds = true) := Lib.hid (by have h := I.out; rwa [List.take_length] at h)
          clear I
          by_cases hl : zs.length = ds.length
          · by_cases h16 : zs.length ≤ 16
            · have HV : Hid (nodC (prB zs && waB ds) zs.length ds.length = 0) := Lib.hid (by unfold nodC; rw [HA.out, HB.out]; exact (if_pos rfl).trans (if_pos ⟨hl, h16⟩))
              have f1 : ((zs.length : Int) == (ds.length : Int)) = true := by rw [hl]; simp
              have f1b : ((zs.length : Int) != (ds.length : Int)) = false := by simp [hl]
              have f2 : decide ((16 : Int) < (zs.length : Int)) = false := decide_eq_false (by omega)
              have hln := Lib.hid hl
              clear hl
              go_wp2
              go_ret
              exact ⟨by rw [HV.out]; rfl, hb⟩
            · have HV : Hid (nodC (prB zs && waB ds) zs.length ds.length = 7) := Lib.hid (by unfold nodC; rw [HA.out, HB.out]; exact (if_pos rfl).trans (if_neg (fun h => h16 h.2)))
              have f1 : ((zs.length : Int) == (ds.length : Int)) = true := by rw [hl]; simp
              have f1b : ((zs.length : Int) != (ds.length : Int)) = false := by simp [hl]
              have f2 : decide ((16 : Int) < (zs.length : Int)) = true := decide_eq_true (by omega)
              have hln := Lib.hid hl
              clear hl
              go_wp2
              go_ret
              exact ⟨by rw [HV.out]; rfl, hb⟩
          · have HV : Hid (nodC (prB zs && waB ds) zs.length ds.length = 7) := Lib.hid (by unfold nodC; rw [HA.out, HB.out]; exact (if_pos rfl).trans (if_neg (fun h => hl h.1)))
            have hl' : (zs.length : Int) ≠ (ds.length : Int) := by omega
            have f1 : ((zs.length : Int) == (ds.length : Int)) = false := beq_eq_false_iff_ne.2 hl'
            have f1b : ((zs.length : Int) != (ds.length : Int)) = true := bne_iff_ne.2 hl'
            go_wp2
            go_ret
            exact ⟨by rw [HV.out]; rfl, hb⟩

/-- as many as the first one, and not too many -/
def lenOk (len : Nat → Nat) (n : Nat) : Bool := (List.range n).all fun k => decide (len k = len 0 ∧ len k ≤ 16)
theorem lenOk_next {len : Nat → Nat} {k : Nat} (h : lenOk len k = true) (h1 : len k = len 0) (h2 : len k ≤ 16) : lenOk len (k + 1) = true := by
  unfold lenOk at *
  rw [List.range_succ, List.all_append, h]
  simp only [List.all_cons, List.all_nil, Bool.and_true, Bool.true_and]
  exact decide_eq_true ⟨h1, h2⟩
theorem lenOk_bad {len : Nat → Nat} {n k : Nat} (hk : k < n) (h : ¬ (len k = len 0 ∧ len k ≤ 16)) : lenOk len n = false := by
  unfold lenOk
  rw [List.all_eq_false]
  exact ⟨k, List.mem_range.2 hk, by simpa using h⟩
theorem nodesCode_any (L n : Nat) (len : Nat → Nat) (r : Bool) (w : World) (hn : 1 ≤ n) (hn2 : n ≤ 2) (hl : ∀ k, k < n → len k ≤ 1048576) (hc : ∀ k, k < n → ∃ A c, w.cell? ⟨L, k, none⟩ = some (.slice A (len k) c)) :
    Calls Try.prog 101 #[.bool r, .slice (some ⟨L, 0, none⟩) n n] w fun e w' => e = .returned (.int .i64 (if r = true then (if lenOk len n = true then 0 else 7) else 2)) ∧ Below w.heap.size w w' := by
  cases r with
  | false =>
    go_enter Try.func101, Try.ntmps101
    go_wp2
    go_ret
    exact ⟨rfl, Below.refl _ _⟩
  | true =>
    rw [if_pos rfl]
    generalize hR : (if lenOk len n = true then (0 : Int) else 7) = R
    have HR := Lib.hid hR
    clear hR
    obtain ⟨A0, c0, q0⟩ := hc 0 (by omega)
    have HC := Lib.hid hc
    clear hc
    have hln0 := hl 0 (by omega)
    go_enter Try.func101, Try.ntmps101
    go_wp2_with fail
    go_loopw [11] (fun i wr => ∃ k : Nat, k ≤ n ∧ i = .int .i64 k ∧ Below w.heap.size w wr ∧ Hid (lenOk len k = true)) (fun i _ => n - (intOf i).toNat)
    case atStart => exact ⟨0, by omega, rfl, Below.refl _ _, Lib.hid rfl⟩
    case round =>
      obtain ⟨k, hk, rfl, hb, I⟩ := hrel
      by_cases hlt : k < n
      · obtain ⟨A, c, q1⟩ := HC.out k hlt
        have q0 := (hb.cell (World.block_lt_of_cell? _ _ q0)).trans q0
        have q1 := (hb.cell (World.block_lt_of_cell? _ _ q1)).trans q1
        have hk1 : (k : Int) < ((n : Nat) : Int) := by omega
        have hnn : (0 : Int) < ((n : Nat) : Int) := by omega
        have hlk := hl k hlt
        by_cases h1 : len k = len 0
        · by_cases h2 : len k ≤ 16
          · have IN := Lib.hid (lenOk_next I.out h1 h2)
            have f1 : ((len k : Int) != (len 0 : Int)) = false := by rw [h1]; simp
            have f2 : decide ((16 : Int) < (len k : Int)) = false := decide_eq_false (by omega)
            clear h1
            generalize len k = lk at *
            generalize len 0 = l0 at *
            go_wp2
            go_roundw
            case rel => exact ⟨k + 1, by omega, by go_num, hb, IN⟩
            case measure => simp [intOf]; omega
          · have HV : Hid (lenOk len n = false) := Lib.hid (lenOk_bad hlt (fun h => h2 h.2))
            have f1 : ((len k : Int) != (len 0 : Int)) = false := by rw [h1]; simp
            have f2 : decide ((16 : Int) < (len k : Int)) = true := decide_eq_true (by omega)
            clear h1
            generalize len k = lk at *
            generalize len 0 = l0 at *
            go_wp2
            go_ret
            exact ⟨by rw [← HR.out, HV.out]; rfl, hb⟩
        · have HV : Hid (lenOk len n = false) := Lib.hid (lenOk_bad hlt (fun h => h1 h.1))
          have h1' : (len k : Int) ≠ (len 0 : Int) := by omega
          have f1 : ((len k : Int) != (len 0 : Int)) = true := bne_iff_ne.2 h1'
          clear h1 h1'
          generalize len k = lk at *
          generalize len 0 = l0 at *
          go_wp2
          go_ret
          exact ⟨by rw [← HR.out, HV.out]; rfl, hb⟩
      · have he : k = n := by omega
        subst he
        go_wp2
        go_ret
        exact ⟨by rw [← HR.out, I.out]; rfl, hb⟩
theorem isWaterList_any (D : Option Addr) (dc : Nat) (ds : List Int) (w : World) (hD : CellsAt w D (intsV ds)) (hm : ds.length ≤ 1048576) :
    Calls Try.prog 53 #[.slice D ds.length dc] w fun e w' => e = .returned (.bool (waB ds)) ∧ w = w' := by
  have H := Lib.hid (within64_cells 0 18000 D dc ds.length ds w rfl (by unfold maxLen; omega) hD)
  go_enter Try.func53, Try.ntmps53
  go_wp2_with ((go_at_call 109; refine H.out.mono ?_; rintro e w' ⟨rfl, rfl⟩))
  go_ret
  exact ⟨rfl, rfl⟩
theorem arePressures_any (P : Option Addr) (pc : Nat) (zs : List Int) (w : World) (hP : CellsAt w P (intsV zs)) (hm : zs.length ≤ 1048576) :
    Calls Try.prog 102 #[.slice P zs.length pc] w fun e w' => e = .returned (.bool (prB zs)) ∧ w = w' := by
  have H := Lib.hid (within64_cells (-100000000) 100000000 P pc zs.length zs w rfl (by unfold maxLen; omega) hP)
  go_enter Try.func102, Try.ntmps102
  go_wp2_with ((go_at_call 109; refine H.out.mono ?_; rintro e w' ⟨rfl, rfl⟩))
  go_ret
  exact ⟨rfl, rfl⟩
def two' (a b : Nat) (k : Nat) : Nat := if k = 0 then a else b
theorem lenOk_two (n m : Nat) : (if lenOk (two' n m) 2 = true then (0 : Int) else 7) = (if n = m ∧ n ≤ 16 then 0 else 7) := by
  have : lenOk (two' n m) 2 = decide (n = m ∧ n ≤ 16) := by
    unfold lenOk two'
    simp only [show List.range 2 = [0, 1] from rfl, List.all_cons, List.all_nil, if_pos, Bool.and_true]
    by_cases h : n = m
    · subst h; simp
    · have h' : ¬ m = n := fun k => h k.symm
      simp [h, h']
  rw [this]
  simp
theorem lenOk_one (n : Nat) : (if lenOk (fun _ => n) 1 = true then (0 : Int) else 7) = (if n ≤ 16 then 0 else 7) := by
  unfold lenOk
  simp
theorem waterCode_any (P D : Option Addr) (pc dc : Nat) (zs ds : List Int) (r : Bool) (w : World) (hP : CellsAt w P (intsV zs)) (hD : CellsAt w D (intsV ds)) (hn : zs.length ≤ 1048576) (hm : ds.length ≤ 1048576) :
    Calls Try.prog 87 #[.slice P zs.length pc, .slice D ds.length dc, .bool r] w fun e w' => e = .returned (.int .i64 (nodC (r && (prB zs && waB ds)) zs.length ds.length)) ∧ Below w.heap.size w w' := by
  have hb : Below w.heap.size w w := Below.refl _ _
  have hN : ∀ (v : Bool) (W : World) (L : Nat), W.cell? ⟨L, 0, none⟩ = some (.slice P zs.length pc) → W.cell? ⟨L, 1, none⟩ = some (.slice D ds.length dc) → Calls Try.prog 101 #[.bool v, .slice (some ⟨L, 0, none⟩) 2 2] W fun e w' => e = .returned (.int .i64 (nodC v zs.length ds.length)) ∧ Below W.heap.size W w' := fun v W L a b => by
    have h := nodesCode_any L 2 (two' zs.length ds.length) v W (by omega) (by omega) (fun k hk => by unfold two'; split <;> omega) (fun k hk => by
      match k, hk with
      | 0, _ => exact ⟨P, pc, a⟩
      | 1, _ => exact ⟨D, dc, b⟩)
    rw [lenOk_two] at h
    exact h
  have HN := Lib.hid hN
  have HP := Lib.hid (fun W (hW : Below w.heap.size w W) => arePressures_any P pc zs W (hP.next hW) hn)
  have HD := Lib.hid (fun W (hW : Below w.heap.size w W) => isWaterList_any D dc ds W (hD.next hW) hm)
  clear hN hP hD
  generalize prB zs = a at *
  generalize waB ds = b at *
  generalize zs.length = n at *
  generalize ds.length = m at *
  cases r <;> cases a <;> cases b
  all_goals go_enter Try.func87, Try.ntmps87
  all_goals go_wp2_with (first | (go_at_call 102; refine (HP.out _ hb).mono ?_; rintro e w' ⟨rfl, rfl⟩) | (go_at_call 53; refine (HD.out _ hb).mono ?_; rintro e w' ⟨rfl, rfl⟩))
  all_goals refine (HN.out _ _ _ (Two.new w _ _ _).1 (Two.new w _ _ _).2.1).mono ?_
  all_goals rintro e w' ⟨rfl, hb'⟩
  all_goals go_wp2
  all_goals go_ret
  all_goals exact ⟨rfl, bnext (bal hb _) hb'⟩
end Go.Proofs.Ytdaedgdglammhaa
