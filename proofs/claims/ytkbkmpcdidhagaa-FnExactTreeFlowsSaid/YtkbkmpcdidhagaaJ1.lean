/-
  Parts of nodes without pipes, and of two parts one: the program.
-/
import Derived.Test.YtkbkmpcdidhagaaJ0
import Derived.OwnWalk
import Derived.Deep.DeepCutAuto
namespace Go.Proofs.Ytkbkmpcdidhagaa
open Go.ChangeShapes Go.WideShapes Go.ChangeAt Go.RowKit
set_option maxRecDepth 100000
set_option linter.unusedVariables false

theorem apart_any (n : Nat) (w : World) (hn : n ≤ 1048576) :
    Calls Try.prog 235 #[.int .i64 n] w (RetRow 2 (intsV (countL n)) w) := by
  have hm : n ≤ 9223372036854775807 := by omega
  have hM : n ≤ maxLen := by unfold maxLen; omega
  obtain ⟨i0, hi, hz0, hz1, hz2⟩ := info_parts infoI64
  go_enter Try.func235, Try.ntmps235
  go_wp2_with (refine wpList_make_full _ rfl _ _ _ rfl w.heap.size 2 i0 (.int .i64 0) 1 Try.underlying234 hi hz0 hz1 _ _ _ _ n rfl rfl rfl rfl (by rw [hz2]; omega) hM (Nat.le_refl _) ?_; intro w1 hown hgrow)
  have hb1 := Below.grown (Below.refl w.heap.size w) hgrow (Nat.le_refl _) (fun k hk => by cases hk)
  have hl1 := owns_len hown
  generalize (madeCells (Value.int IntKind.i64 0).cells (n * 1)).toList = xs at *
  have HX := Lib.hid hl1
  clear hl1
  have HCn : Hid (∀ j, j < n → (intsV (countL n)).getD j default = .int .i64 (j : Int)) := Lib.hid fun j hj => by
    rw [List.getD, intsV_at _ _ (by rw [countL_length]; exact hj)]
    simp [countL]
  go_loopw [8] (fun i wr => ∃ j : Nat, j ≤ n ∧ i = .int .i64 j ∧ wr.ownsRow w.heap.size 2 1 (.slice (some ⟨w.heap.size, 0, none⟩) n n) n (fillV (fun j => (intsV (countL n)).getD j default) j xs) ∧ Below w.heap.size w wr) (fun i _ => n - (intOf i).toNat)
  case atStart => exact ⟨0, Nat.zero_le _, rfl, hown, hb1⟩
  case round =>
    obtain ⟨j, hj, rfl, hro, hb⟩ := hrel
    by_cases hlt : j < n
    · have hc1 := hro.cellAt j (by omega)
      have hf1 := hro.frozenAt j
      rw [fillV_get, List.getElem?_eq_getElem (by rw [HX.out]; exact hlt)] at hc1
      have hst := hro.stored j (.int .i64 j)
      have hfs := fillV_set (fun j => (intsV (countL n)).getD j default) xs j (by rw [HX.out]; exact hlt)
      rw [HCn.out j hlt] at hfs
      rw [hfs] at hst
      have Hst := Lib.hid hst
      clear hst hfs
      go_wp2
      go_roundw
      case rel => exact ⟨j + 1, by omega, by go_num, Hst.out.1, hb.setCell (Nat.le_refl _) _⟩
      case measure => simp [intOf]; omega
    · have e : j = n := by omega
      subst e
      have hfa := fillV_all (fun k => (intsV (countL j)).getD k default) j xs HX.out
      have hru : (List.range j).map (fun k => (intsV (countL j)).getD k default) = intsV (countL j) := by
        refine List.ext_getElem (by rw [List.length_map, List.length_range, intsV_length, countL_length]) fun k h1 h2 => ?_
        simp [List.getD, h2]
      have Hu := Lib.hid (hfa.trans hru)
      clear hfa hru
      go_wp2
      go_ret
      exact retRow_mk rfl hro Hu.out hb
theorem join_any (base g n c : Nat) (P : List Int) (a b : Int) (w : World) (hn : n ≤ 1048576) (hP : P.length = n) (ha0 : 0 ≤ a) (ha1 : a < n) (hb0 : 0 ≤ b) (hb1 : b < n)
    (hown : w.ownsRow base 2 1 (.slice (some ⟨g, 0, none⟩) n c) n (intsV P)) :
    Calls Try.prog 236 #[.slice (some ⟨g, 0, none⟩) n c, .int .i64 a, .int .i64 b] w
      fun e w' => e = .returned (.bool (getI P a != getI P b)) ∧ w'.ownsRow base 2 1 (.slice (some ⟨g, 0, none⟩) n c) n (intsV (joinL P a b)) ∧ w.grownBy w' (some g) := by
  obtain ⟨i, rfl⟩ := Int.eq_ofNat_of_zero_le ha0
  obtain ⟨j, rfl⟩ := Int.eq_ofNat_of_zero_le hb0
  have hi : i < P.length := by omega
  have hj : j < P.length := by omega
  have ei : getI P (i : Int) = P[i] := by unfold getI; simp [List.getD, hi]
  have ej : getI P (j : Int) = P[j] := by unfold getI; simp [List.getD, hj]
  have c1 : w.cell? ⟨g, i, none⟩ = some (.int .i64 P[i]) := (hown.cellAt i (by omega)).trans (intsV_at _ _ hi)
  have c2 : w.cell? ⟨g, j, none⟩ = some (.int .i64 P[j]) := (hown.cellAt j (by omega)).trans (intsV_at _ _ hj)
  unfold joinL
  rw [ei, ej]
  generalize P[i] = x at *
  generalize P[j] = y at *
  have HO := Lib.hid hown
  have HP := Lib.hid hP
  have hm : n ≤ 9223372036854775807 := by omega
  clear hown hP ei ej
  rcases Int.lt_trichotomy x y with hxy | hxy | hxy
  · have e1 : max x y = y := by omega
    have e2 : min x y = x := by omega
    rw [e1, e2]
    clear e1 e2
    obtain ⟨v, hv⟩ : ∃ v, v = (x != y) := ⟨_, rfl⟩
    rw [← hv]
    have HV := Lib.hid hv
    clear hv
    have HRS := Lib.hid (fun j (h : j < P.length) => repTo_skip P x y j h)
    have HRT := Lib.hid (fun j (h : j < P.length) => repTo_set P x y j h)
    have HRA := Lib.hid (repTo_all P x y)
    have HAT := Lib.hid (fun j (h : j < P.length) => repTo_at P x y j h)
    have HLE := Lib.hid (fun j => repTo_length P x y j)
    go_enter Try.func236, Try.ntmps236
    go_wp2
    go_quiet (fail)
    clear c1 c2
    go_wp2_with fail
    go_loopw [31] (fun i wr => ∃ q : Nat, q ≤ n ∧ i = .int .i64 q ∧ wr.ownsRow base 2 1 (.slice (some ⟨g, 0, none⟩) n c) n (intsV (repTo P x y q)) ∧ w.grownBy wr (some g)) (fun i _ => n - (intOf i).toNat)
    case atStart => exact ⟨0, Nat.zero_le _, rfl, by rw [repTo_zero]; exact HO.out, grown_drew (grown_refl _ _) _⟩
    case round =>
      obtain ⟨q, hq, rfl, hro, hgr⟩ := hrel
      by_cases hlt : q < n
      · have hqP : q < P.length := by rw [HP.out]; exact hlt
        have hc1 := hro.cellAt q (by omega)
        have hf1 := hro.frozenAt q
        rw [intsV_at _ _ (by rw [HLE.out]; exact hqP)] at hc1
        have hav := HAT.out q hqP
        rw [List.getElem?_eq_getElem (by rw [HLE.out]; exact hqP)] at hav
        have hav' := Option.some.inj hav
        rw [hav'] at hc1
        have hskip := HRS.out q hqP
        have hset := HRT.out q hqP
        clear hav hav'
        generalize P[q] = z at *
        have HSK := Lib.hid hskip
        have HST := Lib.hid hset
        clear hskip hset
        by_cases hz : z = y
        · have hz := hz.symm
          subst hz
          have hst := hro.stored q (.int .i64 x)
          rw [intsV_set, HST.out rfl] at hst
          have Hst := Lib.hid hst
          clear hst
          go_wp2
          go_roundw
          case rel => exact ⟨q + 1, by omega, by go_num, Hst.out.1, grown_set hgr _ _ _⟩
          case measure => simp [intOf]; omega
        · have hz1 : (z == y) = false := by simpa using hz
          have Hz := Lib.hid hz
          clear hz
          go_wp2
          go_roundw
          case rel => exact ⟨q + 1, by omega, by go_num, by rw [HSK.out Hz.out]; exact hro, hgr⟩
          case measure => simp [intOf]; omega
      · obtain rfl : q = n := by omega
        have hall := HRA.out
        rw [HP.out] at hall
        rw [hall] at hro
        clear hall
        go_wp2
        go_ret
        exact ⟨ret_bool (by first | exact HV.out.symm | (rw [HV.out]; exact bne_comm) | (rw [HV.out]; simp)), hro, hgr⟩
  · subst hxy
    have e1 : max x x = x := by omega
    have e2 : min x x = x := by omega
    rw [e1, e2]
    clear e1 e2
    obtain ⟨v, hv⟩ : ∃ v, v = (x != x) := ⟨_, rfl⟩
    rw [← hv]
    have HV := Lib.hid hv
    clear hv
    have HRS := Lib.hid (fun j (h : j < P.length) => repTo_skip P x x j h)
    have HRT := Lib.hid (fun j (h : j < P.length) => repTo_set P x x j h)
    have HRA := Lib.hid (repTo_all P x x)
    have HAT := Lib.hid (fun j (h : j < P.length) => repTo_at P x x j h)
    have HLE := Lib.hid (fun j => repTo_length P x x j)
    go_enter Try.func236, Try.ntmps236
    go_wp2
    go_quiet (fail)
    clear c1 c2
    go_wp2_with fail
    go_loopw [31] (fun i wr => ∃ q : Nat, q ≤ n ∧ i = .int .i64 q ∧ wr.ownsRow base 2 1 (.slice (some ⟨g, 0, none⟩) n c) n (intsV (repTo P x x q)) ∧ w.grownBy wr (some g)) (fun i _ => n - (intOf i).toNat)
    case atStart => exact ⟨0, Nat.zero_le _, rfl, by rw [repTo_zero]; exact HO.out, grown_drew (grown_refl _ _) _⟩
    case round =>
      obtain ⟨q, hq, rfl, hro, hgr⟩ := hrel
      by_cases hlt : q < n
      · have hqP : q < P.length := by rw [HP.out]; exact hlt
        have hc1 := hro.cellAt q (by omega)
        have hf1 := hro.frozenAt q
        rw [intsV_at _ _ (by rw [HLE.out]; exact hqP)] at hc1
        have hav := HAT.out q hqP
        rw [List.getElem?_eq_getElem (by rw [HLE.out]; exact hqP)] at hav
        have hav' := Option.some.inj hav
        rw [hav'] at hc1
        have hskip := HRS.out q hqP
        have hset := HRT.out q hqP
        clear hav hav'
        generalize P[q] = z at *
        have HSK := Lib.hid hskip
        have HST := Lib.hid hset
        clear hskip hset
        by_cases hz : z = x
        · have hz := hz.symm
          subst hz
          have hst := hro.stored q (.int .i64 x)
          rw [intsV_set, HST.out rfl] at hst
          have Hst := Lib.hid hst
          clear hst
          go_wp2
          go_roundw
          case rel => exact ⟨q + 1, by omega, by go_num, Hst.out.1, grown_set hgr _ _ _⟩
          case measure => simp [intOf]; omega
        · have hz1 : (z == x) = false := by simpa using hz
          have Hz := Lib.hid hz
          clear hz
          go_wp2
          go_roundw
          case rel => exact ⟨q + 1, by omega, by go_num, by rw [HSK.out Hz.out]; exact hro, hgr⟩
          case measure => simp [intOf]; omega
      · obtain rfl : q = n := by omega
        have hall := HRA.out
        rw [HP.out] at hall
        rw [hall] at hro
        clear hall
        go_wp2
        go_ret
        exact ⟨ret_bool (by first | exact HV.out.symm | (rw [HV.out]; exact bne_comm) | (rw [HV.out]; simp)), hro, hgr⟩
  · have e1 : max x y = x := by omega
    have e2 : min x y = y := by omega
    rw [e1, e2]
    clear e1 e2
    obtain ⟨v, hv⟩ : ∃ v, v = (x != y) := ⟨_, rfl⟩
    rw [← hv]
    have HV := Lib.hid hv
    clear hv
    have HRS := Lib.hid (fun j (h : j < P.length) => repTo_skip P y x j h)
    have HRT := Lib.hid (fun j (h : j < P.length) => repTo_set P y x j h)
    have HRA := Lib.hid (repTo_all P y x)
    have HAT := Lib.hid (fun j (h : j < P.length) => repTo_at P y x j h)
    have HLE := Lib.hid (fun j => repTo_length P y x j)
    go_enter Try.func236, Try.ntmps236
    go_wp2
    go_quiet (fail)
    clear c1 c2
    go_wp2_with fail
    go_loopw [31] (fun i wr => ∃ q : Nat, q ≤ n ∧ i = .int .i64 q ∧ wr.ownsRow base 2 1 (.slice (some ⟨g, 0, none⟩) n c) n (intsV (repTo P y x q)) ∧ w.grownBy wr (some g)) (fun i _ => n - (intOf i).toNat)
    case atStart => exact ⟨0, Nat.zero_le _, rfl, by rw [repTo_zero]; exact HO.out, grown_drew (grown_refl _ _) _⟩
    case round =>
      obtain ⟨q, hq, rfl, hro, hgr⟩ := hrel
      by_cases hlt : q < n
      · have hqP : q < P.length := by rw [HP.out]; exact hlt
        have hc1 := hro.cellAt q (by omega)
        have hf1 := hro.frozenAt q
        rw [intsV_at _ _ (by rw [HLE.out]; exact hqP)] at hc1
        have hav := HAT.out q hqP
        rw [List.getElem?_eq_getElem (by rw [HLE.out]; exact hqP)] at hav
        have hav' := Option.some.inj hav
        rw [hav'] at hc1
        have hskip := HRS.out q hqP
        have hset := HRT.out q hqP
        clear hav hav'
        generalize P[q] = z at *
        have HSK := Lib.hid hskip
        have HST := Lib.hid hset
        clear hskip hset
        by_cases hz : z = x
        · have hz := hz.symm
          subst hz
          have hst := hro.stored q (.int .i64 y)
          rw [intsV_set, HST.out rfl] at hst
          have Hst := Lib.hid hst
          clear hst
          go_wp2
          go_roundw
          case rel => exact ⟨q + 1, by omega, by go_num, Hst.out.1, grown_set hgr _ _ _⟩
          case measure => simp [intOf]; omega
        · have hz1 : (z == x) = false := by simpa using hz
          have Hz := Lib.hid hz
          clear hz
          go_wp2
          go_roundw
          case rel => exact ⟨q + 1, by omega, by go_num, by rw [HSK.out Hz.out]; exact hro, hgr⟩
          case measure => simp [intOf]; omega
      · obtain rfl : q = n := by omega
        have hall := HRA.out
        rw [HP.out] at hall
        rw [hall] at hro
        clear hall
        go_wp2
        go_ret
        exact ⟨ret_bool (by first | exact HV.out.symm | (rw [HV.out]; exact bne_comm) | (rw [HV.out]; simp)), hro, hgr⟩

end Go.Proofs.Ytkbkmpcdidhagaa
