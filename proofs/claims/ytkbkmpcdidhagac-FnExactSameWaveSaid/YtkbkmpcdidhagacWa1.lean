/-
  SameWave: both sides.
-/
import Derived.Test.YtkbkmpcdidhagacSp2
import Derived.Deep.QuietTactic
namespace Go.Proofs.Ytkbkmpcdidhagac
open Go.ChangeShapes Go.WideShapes Go.ChangeAt Go.RowKit
set_option maxRecDepth 100000
set_option linter.unusedVariables false

theorem wv_take_ne {α : Type} (l r : List α) (h : ∃ k : Nat, l[k]? ≠ r[k]?) : l ≠ r := fun e => by
  obtain ⟨k, hk⟩ := h
  exact hk (by rw [e])
theorem wv_take_succ {α : Type} (l r : List α) (k : Nat) (h : l.take k = r.take k) (hl : k < l.length) (hr : k < r.length) (he : l[k] = r[k]) : l.take (k + 1) = r.take (k + 1) := by
  rw [List.take_succ_eq_append_getElem hl, List.take_succ_eq_append_getElem hr, h, he]
theorem sp_ne {p q : Sp} (h : p ≠ q) : ¬ (p.t = q.t ∧ p.d = q.d) := fun e => h (by cases p; cases q; cases e.1; cases e.2; rfl)
def sameWaveR0 (xs ys : List Sp) : Bool := decide (xs = ys)
theorem l09Same_any (A : Option Addr) (n c : Nat) (xs : List Sp) (B : Option Addr) (m d : Nat) (ys : List Sp) (w : World) (hX : SpsOk w A n xs) (hY : SpsOk w B m ys) :
    Calls Try.prog 57 #[.slice A n c, .slice B m d] w fun e w' => e = .returned (.bool (sameWaveR0 xs ys)) ∧ Below w.heap.size w w' := by
  have HA := Lib.hid hX.cells
  have HB := Lib.hid hY.cells
  have hx := hX.2
  have hy := hY.2
  obtain rfl := hX.1.1
  obtain rfl := hY.1.1
  clear hX hY
  by_cases hlen : xs.length = ys.length
  · have Hlen := Lib.hid hlen
    have hl1 : ((xs.length : Int) == (ys.length : Int)) = true := by rw [beq_iff_eq]; omega
    have hl2 : ((xs.length : Int) != (ys.length : Int)) = false := by unfold bne; rw [hl1]; rfl
    clear hlen hl1
    go_enter Try.func57, Try.ntmps57
    go_wp2
    go_loopw [5] (fun i wr => ∃ k : Nat, k ≤ xs.length ∧ i = .int .i64 k ∧ xs.take k = ys.take k ∧ Drawn w wr) (fun i _ => xs.length - (intOf i).toNat)
    case atStart => exact ⟨0, Nat.zero_le _, rfl, rfl, Drawn.rfl' _⟩
    case round =>
      obtain ⟨k, hk, rfl, htk, ⟨nr, rfl⟩⟩ := hrel
      have HT := Lib.hid htk
      clear htk
      by_cases hlt : k < xs.length
      · have hlt2 : k < ys.length := by rw [← Hlen.out]; exact hlt
        obtain ⟨b1, o1, rfl, h1⟩ := SpO.at HA.out (by omega)
        obtain ⟨b2, o2, rfl, h2⟩ := SpO.at HB.out (by omega)
        obtain ⟨P0, P1⟩ := h1 k _ (List.getElem?_eq_getElem hlt)
        obtain ⟨Q0, Q1⟩ := h2 k _ (List.getElem?_eq_getElem hlt2)
        have hsuc := wv_take_succ xs ys k HT.out hlt hlt2
        have hno : xs[k] ≠ ys[k] → xs ≠ ys := fun h => wv_take_ne xs ys ⟨k, by rw [List.getElem?_eq_getElem hlt, List.getElem?_eq_getElem hlt2]; simpa using h⟩
        generalize xs[k] = p at *
        generalize ys[k] = q at *
        have HS := Lib.hid hsuc
        have HN := Lib.hid hno
        clear hsuc hno h1 h2
        by_cases he : p = q
        · have HS2 := Lib.hid (HS.out he)
          subst he
          obtain ⟨t1, d1⟩ := p
          dsimp only at P0 P1 Q0 Q1
          go_wp2
          go_quiet (fail)
          go_wp2
          go_roundw
          case rel => exact ⟨k + 1, by omega, by go_num, HS2.out, ⟨_, by first | rfl | exact World.drewN_drewN ..⟩⟩
          case measure => simp [intOf]; omega
        · have HN2 : Hid (sameWaveR0 xs ys = false) := Lib.hid (decide_eq_false (HN.out he))
          have hne := sp_ne he
          clear he
          obtain ⟨t1, d1⟩ := p
          obtain ⟨t2, d2⟩ := q
          dsimp only at P0 P1 Q0 Q1 hne
          by_cases e_t : t1 = t2
          · have e' := e_t.symm
            subst e'
            have h9 : (d1 == d2) = false := by simpa using hne
            clear hne
            go_wp2
            go_quiet (fail)
            go_wp2
            go_ret
            exact ⟨by rw [HN2.out]; rfl, by first | exact below_drewN (Below.refl _ _) _ | exact below_drewN (below_drewN (Below.refl _ _) _) _⟩
          · have h9 : (t1 == t2) = false := by simpa using e_t
            clear hne e_t
            go_wp2
            go_quiet (fail)
            go_wp2
            go_ret
            exact ⟨by rw [HN2.out]; rfl, by first | exact below_drewN (Below.refl _ _) _ | exact below_drewN (below_drewN (Below.refl _ _) _) _⟩
      · have hE : Hid (sameWaveR0 xs ys = true) := Lib.hid (decide_eq_true (by
          have := HT.out
          rw [List.take_of_length_le (by omega), List.take_of_length_le (by rw [← Hlen.out]; omega)] at this
          exact this))
        go_wp2
        go_ret
        exact ⟨by rw [hE.out]; rfl, below_drewN (Below.refl _ _) _⟩
  · have hl1 : ((xs.length : Int) == (ys.length : Int)) = false := by rw [beq_eq_false_iff_ne]; omega
    have hl2 : ((xs.length : Int) != (ys.length : Int)) = true := by unfold bne; rw [hl1]; rfl
    have HL : Hid (sameWaveR0 xs ys = false) := Lib.hid (decide_eq_false (fun e => hlen (by rw [e])))
    clear hlen hl1
    go_enter Try.func57, Try.ntmps57
    go_wp2
    go_ret
    exact ⟨by rw [HL.out]; rfl, Below.refl _ _⟩
theorem equalSp_any (A : Option Addr) (n c : Nat) (xs : List Sp) (B : Option Addr) (m d : Nat) (ys : List Sp) (w : World) (hX : SpsOk w A n xs) (hY : SpsOk w B m ys) :
    Calls Try.prog 58 #[.slice A n c, .slice B m d] w fun e w' => e = .returned (.bool (sameWaveR0 xs ys)) ∧ Below w.heap.size w w' := by
  have HA := Lib.hid hX.cells
  have HB := Lib.hid hY.cells
  have hx := hX.2
  have hy := hY.2
  obtain rfl := hX.1.1
  obtain rfl := hY.1.1
  clear hX hY
  by_cases hlen : xs.length = ys.length
  · have Hlen := Lib.hid hlen
    have hl1 : ((xs.length : Int) == (ys.length : Int)) = true := by rw [beq_iff_eq]; omega
    have hl2 : ((xs.length : Int) != (ys.length : Int)) = false := by unfold bne; rw [hl1]; rfl
    clear hlen hl1
    go_enter Try.func58, Try.ntmps58
    go_wp2
    go_loopw [13] (fun i wr => ∃ k : Nat, k ≤ xs.length ∧ i = .int .i64 k ∧ xs.take k = ys.take k ∧ Drawn w wr) (fun i _ => xs.length - (intOf i).toNat)
    case atStart => exact ⟨0, Nat.zero_le _, rfl, rfl, Drawn.rfl' _⟩
    case round =>
      obtain ⟨k, hk, rfl, htk, ⟨nr, rfl⟩⟩ := hrel
      have HT := Lib.hid htk
      clear htk
      by_cases hlt : k < xs.length
      · have hlt2 : k < ys.length := by rw [← Hlen.out]; exact hlt
        obtain ⟨b1, o1, rfl, h1⟩ := SpO.at HA.out (by omega)
        obtain ⟨b2, o2, rfl, h2⟩ := SpO.at HB.out (by omega)
        obtain ⟨P0, P1⟩ := h1 k _ (List.getElem?_eq_getElem hlt)
        obtain ⟨Q0, Q1⟩ := h2 k _ (List.getElem?_eq_getElem hlt2)
        have hsuc := wv_take_succ xs ys k HT.out hlt hlt2
        have hno : xs[k] ≠ ys[k] → xs ≠ ys := fun h => wv_take_ne xs ys ⟨k, by rw [List.getElem?_eq_getElem hlt, List.getElem?_eq_getElem hlt2]; simpa using h⟩
        generalize xs[k] = p at *
        generalize ys[k] = q at *
        have HS := Lib.hid hsuc
        have HN := Lib.hid hno
        clear hsuc hno h1 h2
        by_cases he : p = q
        · have HS2 := Lib.hid (HS.out he)
          subst he
          obtain ⟨t1, d1⟩ := p
          dsimp only at P0 P1 Q0 Q1
          go_wp2
          go_quiet (fail)
          go_wp2
          go_roundw
          case rel => exact ⟨k + 1, by omega, by go_num, HS2.out, ⟨_, by first | rfl | exact World.drewN_drewN ..⟩⟩
          case measure => simp [intOf]; omega
        · have HN2 : Hid (sameWaveR0 xs ys = false) := Lib.hid (decide_eq_false (HN.out he))
          have hne := sp_ne he
          clear he
          obtain ⟨t1, d1⟩ := p
          obtain ⟨t2, d2⟩ := q
          dsimp only at P0 P1 Q0 Q1 hne
          by_cases e_t : t1 = t2
          · have e' := e_t.symm
            subst e'
            have h9 : (d1 == d2) = false := by simpa using hne
            clear hne
            go_wp2
            go_quiet (fail)
            go_wp2
            go_ret
            exact ⟨by rw [HN2.out]; rfl, by first | exact below_drewN (Below.refl _ _) _ | exact below_drewN (below_drewN (Below.refl _ _) _) _⟩
          · have h9 : (t1 == t2) = false := by simpa using e_t
            clear hne e_t
            go_wp2
            go_quiet (fail)
            go_wp2
            go_ret
            exact ⟨by rw [HN2.out]; rfl, by first | exact below_drewN (Below.refl _ _) _ | exact below_drewN (below_drewN (Below.refl _ _) _) _⟩
      · have hE : Hid (sameWaveR0 xs ys = true) := Lib.hid (decide_eq_true (by
          have := HT.out
          rw [List.take_of_length_le (by omega), List.take_of_length_le (by rw [← Hlen.out]; omega)] at this
          exact this))
        go_wp2
        go_ret
        exact ⟨by rw [hE.out]; rfl, below_drewN (Below.refl _ _) _⟩
  · have hl1 : ((xs.length : Int) == (ys.length : Int)) = false := by rw [beq_eq_false_iff_ne]; omega
    have hl2 : ((xs.length : Int) != (ys.length : Int)) = true := by unfold bne; rw [hl1]; rfl
    have HL : Hid (sameWaveR0 xs ys = false) := Lib.hid (decide_eq_false (fun e => hlen (by rw [e])))
    clear hlen hl1
    go_enter Try.func58, Try.ntmps58
    go_wp2
    go_ret
    exact ⟨by rw [HL.out]; rfl, Below.refl _ _⟩
theorem specSameWave_ds (A : Option Addr) (n c : Nat) (xs : List Sp) (B : Option Addr) (m d : Nat) (ys : List Sp) (w : World) (hX : SpsOk w A n xs) (hY : SpsOk w B m ys) :
    Calls Try.prog 18 #[.slice A n c, .slice B m d] w fun e w' => e = .returned (.bool (sameWaveR0 xs ys)) ∧ Below w.heap.size w w' := by
  have HO := Lib.hid (l09Same_any A n c xs B m d ys w hX hY)
  clear hX hY
  go_enter Try.func18, Try.ntmps18
  go_wp2_with fail
  refine HO.out.mono ?_
  rintro e w1 ⟨rfl, hb⟩
  go_wp2
  go_ret
  exact ⟨rfl, hb⟩
theorem implSameWave_ds (A : Option Addr) (n c : Nat) (xs : List Sp) (B : Option Addr) (m d : Nat) (ys : List Sp) (w : World) (hX : SpsOk w A n xs) (hY : SpsOk w B m ys) :
    Calls Try.prog 19 #[.slice A n c, .slice B m d] w fun e w' => e = .returned (.bool (sameWaveR0 xs ys)) ∧ Below w.heap.size w w' := by
  have HO := Lib.hid (equalSp_any A n c xs B m d ys w hX hY)
  clear hX hY
  go_enter Try.func19, Try.ntmps19
  go_wp2_with fail
  refine HO.out.mono ?_
  rintro e w1 ⟨rfl, hb⟩
  go_wp2
  go_ret
  exact ⟨rfl, hb⟩
end Go.Proofs.Ytkbkmpcdidhagac
