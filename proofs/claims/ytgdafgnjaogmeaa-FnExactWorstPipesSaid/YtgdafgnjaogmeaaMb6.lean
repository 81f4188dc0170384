import Derived.Test.YtgdafgnjaogmeaaRk0
/-
  Numbers put to their places; the maths of the hours with the greatest powers.
-/
namespace Go.Proofs.Ytgdafgnjaogmeaa
open Go.ChangeShapes Go.WideShapes Go.ChangeAt Go.RowKit

set_option maxRecDepth 100000
set_option maxHeartbeats 1600000
set_option linter.unusedVariables false

/-- a number that a rising list lacks, put to its place -/
def putI : List Int → Int → List Int
  | [], n => [n]
  | a :: r, n => if n ≤ a then n :: a :: r else a :: putI r n
theorem putI_before (l r : List Int) (n : Int) (h : ∀ x ∈ l, x < n) : putI (l ++ r) n = l ++ putI r n := by
  induction l with
  | nil => rfl
  | cons a l ih =>
    have ha := h a (List.mem_cons_self ..)
    show (if n ≤ a then n :: a :: (l ++ r) else a :: putI (l ++ r) n) = _
    rw [if_neg (by omega), ih (fun x hx => h x (List.mem_cons_of_mem _ hx))]
    rfl
theorem putI_length (l : List Int) (n : Int) : (putI l n).length = l.length + 1 := by
  induction l with
  | nil => rfl
  | cons a l ih =>
    show (if n ≤ a then _ else _ : List Int).length = _
    split
    · rfl
    · rw [List.length_cons, ih, List.length_cons]
theorem putI_perm (l : List Int) (n : Int) : (putI l n).Perm (n :: l) := by
  induction l with
  | nil => exact List.Perm.refl _
  | cons a l ih =>
    show (if n ≤ a then _ else _ : List Int).Perm _
    split
    · exact List.Perm.refl _
    · exact (ih.cons a).trans (List.Perm.swap n a l)
theorem putI_sorted (l : List Int) (n : Int) (h : l.Pairwise (· ≤ ·)) : (putI l n).Pairwise (· ≤ ·) := by
  induction l with
  | nil => exact List.pairwise_singleton _ _
  | cons a l ih =>
    obtain ⟨h1, h2⟩ := List.pairwise_cons.1 h
    show (if n ≤ a then _ else _ : List Int).Pairwise _
    split
    · rename_i hna
      refine List.pairwise_cons.2 ⟨fun x hx => ?_, h⟩
      rcases List.mem_cons.1 hx with rfl | hx
      · exact hna
      · have := h1 x hx; omega
    · rename_i hna
      refine List.pairwise_cons.2 ⟨fun x hx => ?_, ih h2⟩
      rcases List.mem_cons.1 ((putI_perm l n).mem_iff.1 hx) with rfl | hx
      · omega
      · exact h1 x hx
theorem foldl_put (hs acc : List Int) (h : acc.Pairwise (· ≤ ·)) : (hs.foldl putI acc).Pairwise (· ≤ ·) ∧ (hs.foldl putI acc).Perm (acc ++ hs) := by
  induction hs generalizing acc with
  | nil => exact ⟨h, by simp⟩
  | cons a r ih =>
    obtain ⟨i1, i2⟩ := ih (putI acc a) (putI_sorted acc a h)
    refine ⟨i1, i2.trans ?_⟩
    exact ((putI_perm acc a).append_right r).trans (by simpa using (List.perm_middle (a := a) (l₁ := acc) (l₂ := r)).symm)
theorem sorted_eq (l r : List Int) (hl : l.Pairwise (· ≤ ·)) (hr : r.Pairwise (· ≤ ·)) (h : l.Perm r) : l = r := h.eq_of_pairwise (fun a b _ _ h1 h2 => Int.le_antisymm h1 h2) hl hr
theorem put_all (hs : List Int) : hs.foldl putI [] = hs.mergeSort (fun x y => decide (x ≤ y)) := by
  obtain ⟨h1, h2⟩ := foldl_put hs [] List.Pairwise.nil
  refine sorted_eq _ _ h1 ?_ ((by simpa using h2 : (hs.foldl putI []).Perm hs).trans (List.mergeSort_perm _ _).symm)
  have h := List.pairwise_mergeSort (le := fun x y : Int => decide (x ≤ y)) (fun a b c h1 h2 => by simp only [decide_eq_true_eq] at *; omega) (fun a b => by simp only [Bool.or_eq_true, decide_eq_true_eq]; omega) hs
  exact h.imp (fun h => of_decide_eq_true h)
theorem l00Put_any (K : Option Addr) (kc : Nat) (cs : List Int) (n : Int) (w : World) (hk : cs.length ≤ 1048576) (hK : CellsAt w K (intsV cs)) (hne : ∀ x ∈ cs, x ≠ n) :
    Calls Try.prog 91 #[.slice K cs.length kc, .int .i64 n] w (RetRow 2 (intsV (putI cs n)) w) := by
  have HK := Lib.hid hK
  have HNE := Lib.hid hne
  clear hK hne
  obtain ⟨i0, hi, hz0, hz1, hz2⟩ := info_parts infoI64
  go_enter Try.func91, Try.ntmps91
  go_wp2
  go_loopw [5, 6, 7] (fun ov dv iv wr => ∃ (i l : Nat) (dn : Bool) (T : Option Addr) (td : Nat) (o : List Int), i ≤ cs.length ∧ l ≤ i + 1 ∧ (dn = false → l ≤ i) ∧ iv = .int .i64 i ∧ dv = .bool dn ∧ ov = .slice T l td ∧ wr.ownsRow w.heap.size 2 1 (.slice T l td) l (intsV o) ∧ Hid (if dn = true then putI cs n = o ++ cs.drop i else (o = cs.take i ∧ ∀ x ∈ cs.take i, x < n)) ∧ Below w.heap.size w wr) (fun _ _ iv _ => cs.length - (intOf iv).toNat)
  case atStart => exact ⟨0, 0, false, _, _, [], Nat.zero_le _, by omega, (fun _ => Nat.le_refl _), rfl, rfl, rfl, owns_empty _ _ _ (Nat.le_refl _), Lib.hid (by simp), (Below.refl _ _).alloc (Nat.le_refl _) _⟩
  case round =>
    obtain ⟨i, l, dn, T, td, o, hi1, hl, hl0, rfl, rfl, rfl, hro, HD, hb⟩ := hrel
    have HL0 := Lib.hid hl0
    clear hl0
    have HLL := Lib.hid (owns_len hro)
    by_cases hlt : i < cs.length
    · obtain ⟨b, off, rfl, h1⟩ := HK.out (by rw [intsV_length]; omega)
      have hlb := CellsAt.lies HK.out (by rw [intsV_length]; omega)
      have g1 : wr.cell? ⟨b, off + i, none⟩ = some (.int .i64 cs[i]) := by rw [hb.cell (p := ⟨b, off + i, none⟩) hlb, h1 i (by rw [intsV_length]; exact hlt), intsV_at _ _ hlt]
      have hyn := HNE.out cs[i] (List.getElem_mem hlt)
      have hdrop : cs.drop i = cs[i] :: cs.drop (i + 1) := List.drop_eq_getElem_cons hlt
      have htake : cs.take (i + 1) = cs.take i ++ [cs[i]] := List.take_succ_eq_append_getElem hlt
      have hsplit : cs = cs.take i ++ cs.drop i := (List.take_append_drop i cs).symm
      have HDR := Lib.hid hdrop
      have HTK := Lib.hid htake
      have HSP := Lib.hid hsplit
      have g0 : w.cell? ⟨b, off + i, none⟩ = some (.int .i64 cs[i]) := by rw [h1 i (by rw [intsV_length]; exact hlt), intsV_at _ _ hlt]
      have G0 := Lib.hid g0
      have HLB := Lib.hid hlb
      clear g0
      generalize cs[i] = y at *
      clear h1 hlb hdrop htake hsplit
      cases dn
      · have HD2 : Hid (o = cs.take i ∧ ∀ x ∈ cs.take i, x < n) := Lib.hid (by simpa using HD.out)
        have hli := HL0.out rfl
        by_cases hy : n ≤ y
        · have hgt : n < y := by omega
          have HF : Hid (if true = true then putI cs n = (o ++ [n] ++ [y]) ++ cs.drop (i + 1) else ((o ++ [n] ++ [y]) = cs.take (i + 1) ∧ ∀ x ∈ cs.take (i + 1), x < n)) := Lib.hid (by
            rw [if_pos rfl]
            have e : putI cs n = putI (cs.take i ++ cs.drop i) n := congrArg (fun l => putI l n) HSP.out
            rw [e, putI_before _ _ _ HD2.out.2, HDR.out, HD2.out.1]
            show cs.take i ++ (if n ≤ y then n :: y :: cs.drop (i + 1) else _) = _
            rw [if_pos hy]
            simp)
          have tok : True := trivial
          have HS1 : Hid (intsV o ++ [Value.int .i64 n] = intsV (o ++ [n])) := Lib.hid (intsV_snoc _ _).symm
          have HS2 : Hid (intsV (o ++ [n]) ++ [Value.int .i64 y] = intsV (o ++ [n] ++ [y])) := Lib.hid (intsV_snoc _ _).symm
          go_wp2_with (first | (clear tok; (at_builtin; refine wpList_append_own _ rfl _ _ 32 rfl w.heap.size 2 i0 (.int .i64 0) 1 8 Try.underlying32 hi hz0 hz1 hz2 rfl (by decide) _ _ _ rfl (hro.alloc _) ⟨wr.heap.size, 0, none⟩ 1 1 [.int .i64 n] rfl rfl (cell_one_new _ _ _) (by simp [Value.oneCell']) ?_ ?_ ?_ ?_; (unfold maxLen; omega); (omega); (have := hb.size; simp; omega); intro v4 w4 hown4 hgrow4 _); rw [HS1.out] at hown4; obtain ⟨T4, d4, rfl⟩ := owns_form hown4; have hb4 := (bal hb _).grown hgrow4 (by have := hb.size; simp; omega) (owns_ge hro); have g4 : w4.cell? ⟨b, off + i, none⟩ = some (.int .i64 y) := (hb4.cell (p := ⟨b, off + i, none⟩) HLB.out).trans G0.out) | ((at_builtin; refine wpList_append_own _ rfl _ _ 32 rfl w.heap.size 2 i0 (.int .i64 0) 1 8 Try.underlying32 hi hz0 hz1 hz2 rfl (by decide) _ _ _ rfl (hown4.alloc _) ⟨w4.heap.size, 0, none⟩ 1 1 [.int .i64 y] rfl rfl (cell_one_new _ _ _) (by simp [Value.oneCell']) ?_ ?_ ?_ ?_; (unfold maxLen; omega); (omega); (have := hb4.size; simp; omega); intro v4 w5 hown5 hgrow5 _); rw [HS2.out] at hown5; obtain ⟨T5, d5, rfl⟩ := owns_form hown5; have hb5 := (bal hb4 _).grown hgrow5 (by have := hb4.size; simp; omega) (owns_ge hown4)))
          go_roundw
          case rel => exact ⟨i + 1, _, true, T5, d5, _, by omega, by omega, (fun h => by cases h), by go_num, rfl, rfl, hown5, HF, hb5⟩
          case measure => simp [intOf]; omega
        · have HF : Hid (if false = true then putI cs n = (o ++ [y]) ++ cs.drop (i + 1) else ((o ++ [y]) = cs.take (i + 1) ∧ ∀ x ∈ cs.take (i + 1), x < n)) := Lib.hid (by
            rw [if_neg (by simp), HTK.out, HD2.out.1]
            refine ⟨rfl, fun x hx => ?_⟩
            rcases List.mem_append.1 hx with h | h
            · exact HD2.out.2 x h
            · rw [List.mem_singleton] at h; omega)
          have HS1 : Hid (intsV o ++ [Value.int .i64 y] = intsV (o ++ [y])) := Lib.hid (intsV_snoc _ _).symm
          go_wp2_with ((at_builtin; refine wpList_append_own _ rfl _ _ 32 rfl w.heap.size 2 i0 (.int .i64 0) 1 8 Try.underlying32 hi hz0 hz1 hz2 rfl (by decide) _ _ _ rfl (hro.alloc _) ⟨wr.heap.size, 0, none⟩ 1 1 [.int .i64 y] rfl rfl (cell_one_new _ _ _) (by simp [Value.oneCell']) ?_ ?_ ?_ ?_; (unfold maxLen; omega); (omega); (have := hb.size; simp; omega); intro v4 w4 hown4 hgrow4 _); rw [HS1.out] at hown4; obtain ⟨T4, d4, rfl⟩ := owns_form hown4; have hb4 := (bal hb _).grown hgrow4 (by have := hb.size; simp; omega) (owns_ge hro))
          go_roundw
          case rel => exact ⟨i + 1, _, false, T4, d4, _, by omega, by omega, (fun _ => by omega), by go_num, rfl, rfl, hown4, HF, hb4⟩
          case measure => simp [intOf]; omega
      · have HD2 : Hid (putI cs n = o ++ cs.drop i) := Lib.hid (by simpa using HD.out)
        have HF : Hid (if true = true then putI cs n = (o ++ [y]) ++ cs.drop (i + 1) else ((o ++ [y]) = cs.take (i + 1) ∧ ∀ x ∈ cs.take (i + 1), x < n)) := Lib.hid (by
          rw [if_pos rfl, HD2.out, HDR.out]
          simp)
        have HS1 : Hid (intsV o ++ [Value.int .i64 y] = intsV (o ++ [y])) := Lib.hid (intsV_snoc _ _).symm
        go_wp2_with ((at_builtin; refine wpList_append_own _ rfl _ _ 32 rfl w.heap.size 2 i0 (.int .i64 0) 1 8 Try.underlying32 hi hz0 hz1 hz2 rfl (by decide) _ _ _ rfl (hro.alloc _) ⟨wr.heap.size, 0, none⟩ 1 1 [.int .i64 y] rfl rfl (cell_one_new _ _ _) (by simp [Value.oneCell']) ?_ ?_ ?_ ?_; (unfold maxLen; omega); (omega); (have := hb.size; simp; omega); intro v4 w4 hown4 hgrow4 _); rw [HS1.out] at hown4; obtain ⟨T4, d4, rfl⟩ := owns_form hown4; have hb4 := (bal hb _).grown hgrow4 (by have := hb.size; simp; omega) (owns_ge hro))
        go_roundw
        case rel => exact ⟨i + 1, _, true, T4, d4, _, by omega, by omega, (fun h => by cases h), by go_num, rfl, rfl, hown4, HF, hb4⟩
        case measure => simp [intOf]; omega
    · have e : i = cs.length := by omega
      subst e
      cases dn
      · have HF : Hid (intsV (o ++ [n]) = intsV (putI cs n)) := Lib.hid (by
          have h := HD.out
          rw [if_neg (by simp), List.take_length] at h
          rw [h.1]
          have h2 := putI_before cs [] n h.2
          rw [List.append_nil] at h2
          rw [h2]
          rfl)
        have HS1 : Hid (intsV o ++ [Value.int .i64 n] = intsV (o ++ [n])) := Lib.hid (intsV_snoc _ _).symm
        go_wp2_with ((at_builtin; refine wpList_append_own _ rfl _ _ 32 rfl w.heap.size 2 i0 (.int .i64 0) 1 8 Try.underlying32 hi hz0 hz1 hz2 rfl (by decide) _ _ _ rfl (hro.alloc _) ⟨wr.heap.size, 0, none⟩ 1 1 [.int .i64 n] rfl rfl (cell_one_new _ _ _) (by simp [Value.oneCell']) ?_ ?_ ?_ ?_; (unfold maxLen; omega); (omega); (have := hb.size; simp; omega); intro v4 w4 hown4 hgrow4 _); rw [HS1.out] at hown4; obtain ⟨T4, d4, rfl⟩ := owns_form hown4; have hb4 := (bal hb _).grown hgrow4 (by have := hb.size; simp; omega) (owns_ge hro))
        go_ret
        exact retRow_mk rfl hown4 HF.out hb4
      · have HF : Hid (intsV o = intsV (putI cs n)) := Lib.hid (by
          have h := HD.out
          rw [if_pos rfl, List.drop_length, List.append_nil] at h
          rw [h])
        go_wp2
        go_ret
        exact retRow_mk rfl hro HF.out hb
theorem l00Has2_any (K : Option Addr) (kc : Nat) (cs : List Int) (x : Int) (w : World) (hk : cs.length ≤ 1048576) (hK : CellsAt w K (intsV cs)) :
    Calls Try.prog 90 #[.slice K cs.length kc, .int .i64 x] w fun e w' => e = .returned (.bool (cs.any fun c => c == x)) ∧ Drawn w w' := by
  have HK := Lib.hid hK
  clear hK
  have hm : cs.length ≤ 9223372036854775807 := by omega
  go_enter Try.func90, Try.ntmps90
  go_wp2
  go_loopw [5] (fun i wr => ∃ k : Nat, k ≤ cs.length ∧ i = .int .i64 k ∧ ((cs.take k).any fun c => c == x) = false ∧ Drawn w wr) (fun i _ => cs.length - (intOf i).toNat)
  case atStart => exact ⟨0, Nat.zero_le _, rfl, rfl, Drawn.rfl' _⟩
  case round =>
    obtain ⟨k, hk', rfl, hany, ⟨nq, rfl⟩⟩ := hrel
    have Hany := Lib.hid hany
    clear hany
    by_cases hlt : k < cs.length
    · obtain ⟨b, off, rfl, h1⟩ := HK.out (by rw [intsV_length]; omega)
      have g1 : w.cell? ⟨b, off + k, none⟩ = some (.int .i64 cs[k]) := by rw [h1 k (by rw [intsV_length]; exact hlt), intsV_at _ _ hlt]
      have hsuc : ((cs.take (k + 1)).any fun c => c == x) = (((cs.take k).any fun c => c == x) || cs[k] == x) := by
        rw [List.take_succ_eq_append_getElem hlt, List.any_append]; simp
      have hyes : (cs[k] == x) = true → (cs.any fun c => c == x) = true := fun h => List.any_eq_true.2 ⟨_, List.getElem_mem hlt, h⟩
      generalize cs[k] = y at *
      have HS := Lib.hid hsuc
      have HY := Lib.hid hyes
      clear hsuc hyes h1
      by_cases he : y = x
      · subst he
        have HY2 := Lib.hid (HY.out (by simp))
        go_wp2
        go_ret
        exact ⟨by rw [HY2.out]; rfl, ⟨_, rfl⟩⟩
      · have he1 : (y == x) = false := by simpa using he
        have HE := Lib.hid he1
        clear he
        go_wp2
        go_roundw
        case rel => exact ⟨k + 1, by omega, by go_num, by rw [HS.out, Hany.out, HE.out]; rfl, ⟨_, rfl⟩⟩
        case measure => simp [intOf]; omega
    · have hall := Hany.out
      rw [List.take_of_length_le (by omega)] at hall
      have HA := Lib.hid hall
      clear hall
      go_wp2
      go_ret
      exact ⟨by rw [HA.out]; rfl, ⟨_, rfl⟩⟩

end Go.Proofs.Ytgdafgnjaogmeaa
