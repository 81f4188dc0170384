/-
  SameNetwork of both sides.
-/
import Derived.Test.YtmopnkkpcgiafaaH6
import Derived.Deep.QuietTactic
namespace Go.Proofs.Ytmopnkkpcgiafaa
open Go.ChangeShapes Go.WideShapes Go.ChangeAt Go.RowKit
set_option maxRecDepth 100000
set_option linter.unusedVariables false

/-- a call that says whether Q holds -/
def Tells (Q : Prop) (w : World) (e : Ending) (w' : World) : Prop := ∃ v : Bool, e = .returned (.bool v) ∧ (v = true ↔ Q) ∧ Below w.heap.size w w'
theorem take_ne {α : Type} (l r : List α) (h : ∃ k : Nat, l[k]? ≠ r[k]?) : l ≠ r := fun e => by
  obtain ⟨k, hk⟩ := h
  exact hk (by rw [e])
theorem take_eq_succ {α : Type} (l r : List α) (k : Nat) (h : l.take k = r.take k) (hl : k < l.length) (hr : k < r.length) (he : l[k] = r[k]) : l.take (k + 1) = r.take (k + 1) := by
  rw [List.take_succ_eq_append_getElem hl, List.take_succ_eq_append_getElem hr, h, he]

theorem equalInts_any (A B : Option Addr) (c d : Nat) (xs ys : List Int) (w : World) (hx : xs.length ≤ 1048576) (hy : ys.length ≤ 1048576) (hA : CellsAt w A (intsV xs)) (hB : CellsAt w B (intsV ys)) :
    Calls Try.prog 63 #[.slice A xs.length c, .slice B ys.length d] w (Tells (xs = ys) w) := by
  have HA := Lib.hid hA
  have HB := Lib.hid hB
  clear hA hB
  by_cases hlen : xs.length = ys.length
  · have Hlen := Lib.hid hlen
    have hl1 : ((xs.length : Int) == (ys.length : Int)) = true := by rw [beq_iff_eq]; omega
    have hl2 : ((xs.length : Int) != (ys.length : Int)) = false := by unfold bne; rw [hl1]; rfl
    clear hlen hl1
    go_enter Try.func63, Try.ntmps63
    go_wp2
    go_loopw [13] (fun i wr => ∃ k : Nat, k ≤ xs.length ∧ i = .int .i64 k ∧ xs.take k = ys.take k ∧ Drawn w wr) (fun i _ => xs.length - (intOf i).toNat)
    case atStart => exact ⟨0, Nat.zero_le _, rfl, rfl, Drawn.rfl' _⟩
    case round =>
      obtain ⟨k, hk, rfl, htk, ⟨nr, rfl⟩⟩ := hrel
      have HT := Lib.hid htk
      clear htk
      by_cases hlt : k < xs.length
      · have hlt2 : k < ys.length := by rw [← Hlen.out]; exact hlt
        obtain ⟨b1, o1, rfl, h1⟩ := HA.out (by rw [intsV_length]; omega)
        obtain ⟨b2, o2, rfl, h2⟩ := HB.out (by rw [intsV_length]; omega)
        have g1 : w.cell? ⟨b1, o1 + k, none⟩ = some (.int .i64 xs[k]) := by rw [h1 k (by rw [intsV_length]; exact hlt), intsV_at _ _ hlt]
        have g2 : w.cell? ⟨b2, o2 + k, none⟩ = some (.int .i64 ys[k]) := by rw [h2 k (by rw [intsV_length]; exact hlt2), intsV_at _ _ hlt2]
        have hsuc := take_eq_succ xs ys k HT.out hlt hlt2
        have hno : xs[k] ≠ ys[k] → xs ≠ ys := fun h => take_ne xs ys ⟨k, by rw [List.getElem?_eq_getElem hlt, List.getElem?_eq_getElem hlt2]; simpa using h⟩
        generalize xs[k] = x at *
        generalize ys[k] = y at *
        have HS := Lib.hid hsuc
        have HN := Lib.hid hno
        clear hsuc hno h1 h2
        by_cases he : x = y
        · have HS2 := Lib.hid (HS.out he)
          subst he
          go_wp2
          go_quiet (fail)
          go_wp2
          go_roundw
          case rel => exact ⟨k + 1, by omega, by go_num, HS2.out, ⟨_, by first | rfl | exact World.drewN_drewN ..⟩⟩
          case measure => simp [intOf]; omega
        · have HN2 := Lib.hid (HN.out he)
          have he1 : (x == y) = false := by simpa using he
          have he2 : (x != y) = true := by simpa using he
          clear he
          go_wp2
          go_quiet (fail)
          go_wp2
          go_ret
          exact ⟨false, rfl, ⟨(fun h => by cases h), fun h => absurd h HN2.out⟩, (by first | exact below_drewN (Below.refl _ _) _ | exact below_drewN (below_drewN (Below.refl _ _) _) _)⟩
      · have hE : Hid (xs = ys) := Lib.hid (by
          have := HT.out
          rw [List.take_of_length_le (by omega), List.take_of_length_le (by rw [← Hlen.out]; omega)] at this
          exact this)
        go_wp2
        go_ret
        exact ⟨true, rfl, ⟨fun _ => hE.out, fun _ => rfl⟩, below_drewN (Below.refl _ _) _⟩
  · have hl1 : ((xs.length : Int) == (ys.length : Int)) = false := by rw [beq_eq_false_iff_ne]; omega
    have hl2 : ((xs.length : Int) != (ys.length : Int)) = true := by unfold bne; rw [hl1]; rfl
    have HL := Lib.hid hlen
    clear hlen hl1
    go_enter Try.func63, Try.ntmps63
    go_wp2
    go_ret
    exact ⟨false, rfl, ⟨(fun h => by cases h), fun h => absurd (by rw [h]) HL.out⟩, Below.refl _ _⟩

theorem l00Same_any (A B : Option Addr) (c d : Nat) (xs ys : List Int) (w : World) (hx : xs.length ≤ 1048576) (hy : ys.length ≤ 1048576) (hA : CellsAt w A (intsV xs)) (hB : CellsAt w B (intsV ys)) :
    Calls Try.prog 62 #[.slice A xs.length c, .slice B ys.length d] w (Tells (xs = ys) w) := by
  have HA := Lib.hid hA
  have HB := Lib.hid hB
  clear hA hB
  by_cases hlen : xs.length = ys.length
  · have Hlen := Lib.hid hlen
    have hl1 : ((xs.length : Int) == (ys.length : Int)) = true := by rw [beq_iff_eq]; omega
    have hl2 : ((xs.length : Int) != (ys.length : Int)) = false := by unfold bne; rw [hl1]; rfl
    clear hlen hl1
    go_enter Try.func62, Try.ntmps62
    go_wp2
    go_loopw [5] (fun i wr => ∃ k : Nat, k ≤ xs.length ∧ i = .int .i64 k ∧ xs.take k = ys.take k ∧ Drawn w wr) (fun i _ => xs.length - (intOf i).toNat)
    case atStart => exact ⟨0, Nat.zero_le _, rfl, rfl, Drawn.rfl' _⟩
    case round =>
      obtain ⟨k, hk, rfl, htk, ⟨nr, rfl⟩⟩ := hrel
      have HT := Lib.hid htk
      clear htk
      by_cases hlt : k < xs.length
      · have hlt2 : k < ys.length := by rw [← Hlen.out]; exact hlt
        obtain ⟨b1, o1, rfl, h1⟩ := HA.out (by rw [intsV_length]; omega)
        obtain ⟨b2, o2, rfl, h2⟩ := HB.out (by rw [intsV_length]; omega)
        have g1 : w.cell? ⟨b1, o1 + k, none⟩ = some (.int .i64 xs[k]) := by rw [h1 k (by rw [intsV_length]; exact hlt), intsV_at _ _ hlt]
        have g2 : w.cell? ⟨b2, o2 + k, none⟩ = some (.int .i64 ys[k]) := by rw [h2 k (by rw [intsV_length]; exact hlt2), intsV_at _ _ hlt2]
        have hsuc := take_eq_succ xs ys k HT.out hlt hlt2
        have hno : xs[k] ≠ ys[k] → xs ≠ ys := fun h => take_ne xs ys ⟨k, by rw [List.getElem?_eq_getElem hlt, List.getElem?_eq_getElem hlt2]; simpa using h⟩
        generalize xs[k] = x at *
        generalize ys[k] = y at *
        have HS := Lib.hid hsuc
        have HN := Lib.hid hno
        clear hsuc hno h1 h2
        by_cases he : x = y
        · have HS2 := Lib.hid (HS.out he)
          subst he
          go_wp2
          go_quiet (fail)
          go_wp2
          go_roundw
          case rel => exact ⟨k + 1, by omega, by go_num, HS2.out, ⟨_, by first | rfl | exact World.drewN_drewN ..⟩⟩
          case measure => simp [intOf]; omega
        · have HN2 := Lib.hid (HN.out he)
          have he1 : (x == y) = false := by simpa using he
          have he2 : (x != y) = true := by simpa using he
          clear he
          go_wp2
          go_quiet (fail)
          go_wp2
          go_ret
          exact ⟨false, rfl, ⟨(fun h => by cases h), fun h => absurd h HN2.out⟩, (by first | exact below_drewN (Below.refl _ _) _ | exact below_drewN (below_drewN (Below.refl _ _) _) _)⟩
      · have hE : Hid (xs = ys) := Lib.hid (by
          have := HT.out
          rw [List.take_of_length_le (by omega), List.take_of_length_le (by rw [← Hlen.out]; omega)] at this
          exact this)
        go_wp2
        go_ret
        exact ⟨true, rfl, ⟨fun _ => hE.out, fun _ => rfl⟩, below_drewN (Below.refl _ _) _⟩
  · have hl1 : ((xs.length : Int) == (ys.length : Int)) = false := by rw [beq_eq_false_iff_ne]; omega
    have hl2 : ((xs.length : Int) != (ys.length : Int)) = true := by unfold bne; rw [hl1]; rfl
    have HL := Lib.hid hlen
    clear hlen hl1
    go_enter Try.func62, Try.ntmps62
    go_wp2
    go_ret
    exact ⟨false, rfl, ⟨(fun h => by cases h), fun h => absurd (by rw [h]) HL.out⟩, Below.refl _ _⟩

theorem pp_ne {p q : Pp} (h : p ≠ q) : ((((((p.id.toList == q.id.toList) && (p.f == q.f)) && (p.t == q.t)) && (p.L == q.L)) && (p.d == q.d)) && (p.s == q.s)) = false := by
  cases hb : ((((((p.id.toList == q.id.toList) && (p.f == q.f)) && (p.t == q.t)) && (p.L == q.L)) && (p.d == q.d)) && (p.s == q.s)) with
  | false => rfl
  | true =>
    exfalso
    simp only [Bool.and_eq_true, beq_iff_eq] at hb
    obtain ⟨⟨⟨⟨⟨h0, h1⟩, h2⟩, h3⟩, h4⟩, h5⟩ := hb
    apply h
    obtain ⟨i1, f1, t1, L1, d1, s1⟩ := p
    obtain ⟨i2, f2, t2, L2, d2, s2⟩ := q
    dsimp only at *
    have hi : i1 = i2 := by
      rw [ByteArray.toList_eq, ByteArray.toList_eq] at h0
      rw [← mkB_list i1, ← mkB_list i2, h0]
    subst hi; subst h1; subst h2; subst h3; subst h4; subst h5
    rfl
theorem equalPipes_any (A B : Option Addr) (c d : Nat) (xs ys : List Pp) (w : World) (hx : xs.length ≤ 1048576) (hy : ys.length ≤ 1048576) (hA : CellsAt w A (rowsP xs)) (hB : CellsAt w B (rowsP ys)) :
    Calls Try.prog 64 #[.slice A xs.length c, .slice B ys.length d] w (Tells (xs = ys) w) := by
  have HA := Lib.hid hA
  have HB := Lib.hid hB
  clear hA hB
  by_cases hlen : xs.length = ys.length
  · have Hlen := Lib.hid hlen
    have hl1 : ((xs.length : Int) == (ys.length : Int)) = true := by rw [beq_iff_eq]; omega
    have hl2 : ((xs.length : Int) != (ys.length : Int)) = false := by unfold bne; rw [hl1]; rfl
    clear hlen hl1
    go_enter Try.func64, Try.ntmps64
    go_wp2
    go_loopw [13] (fun i wr => ∃ k : Nat, k ≤ xs.length ∧ i = .int .i64 k ∧ xs.take k = ys.take k ∧ Drawn w wr) (fun i _ => xs.length - (intOf i).toNat)
    case atStart => exact ⟨0, Nat.zero_le _, rfl, rfl, Drawn.rfl' _⟩
    case round =>
      obtain ⟨k, hk, rfl, htk, ⟨nr, rfl⟩⟩ := hrel
      have HT := Lib.hid htk
      clear htk
      by_cases hlt : k < xs.length
      · have hlt2 : k < ys.length := by rw [← Hlen.out]; exact hlt
        obtain ⟨b1, o1, rfl, h1⟩ := pipe_at HA.out (by omega)
        obtain ⟨b2, o2, rfl, h2⟩ := pipe_at HB.out (by omega)
        obtain ⟨P0, P1, P2, P3, P4, P5⟩ := h1 k _ (List.getElem?_eq_getElem hlt)
        obtain ⟨Q0, Q1, Q2, Q3, Q4, Q5⟩ := h2 k _ (List.getElem?_eq_getElem hlt2)
        have hsuc := take_eq_succ xs ys k HT.out hlt hlt2
        have hno : xs[k] ≠ ys[k] → xs ≠ ys := fun h => take_ne xs ys ⟨k, by rw [List.getElem?_eq_getElem hlt, List.getElem?_eq_getElem hlt2]; simpa using h⟩
        generalize xs[k] = p at *
        generalize ys[k] = q at *
        have HS := Lib.hid hsuc
        have HN := Lib.hid hno
        clear hsuc hno h1 h2
        by_cases he : p = q
        · have HS2 := Lib.hid (HS.out he)
          subst he
          obtain ⟨i1, f1, t1, L1, d1, s1⟩ := p
          dsimp only at P0 P1 P2 P3 P4 P5 Q0 Q1 Q2 Q3 Q4 Q5
          go_wp2
          go_quiet (fail)
          go_wp2
          go_roundw
          case rel => exact ⟨k + 1, by omega, by go_num, HS2.out, ⟨_, by first | rfl | exact World.drewN_drewN ..⟩⟩
          case measure => simp [intOf]; omega
        · have HN2 := Lib.hid (HN.out he)
          have hne := pp_ne he
          clear he
          obtain ⟨i1, f1, t1, L1, d1, s1⟩ := p
          obtain ⟨i2, f2, t2, L2, d2, s2⟩ := q
          dsimp only at P0 P1 P2 P3 P4 P5 Q0 Q1 Q2 Q3 Q4 Q5 hne
          by_cases e_f1 : f1 = f2
          · have e' := e_f1.symm
            subst e'
            by_cases e_t1 : t1 = t2
            · have e' := e_t1.symm
              subst e'
              by_cases e_L1 : L1 = L2
              · have e' := e_L1.symm
                subst e'
                by_cases e_d1 : d1 = d2
                · have e' := e_d1.symm
                  subst e'
                  by_cases e_s1 : s1 = s2
                  · have e' := e_s1.symm
                    subst e'
                    have hi : (i1.toList == i2.toList) = false := by simpa using hne
                    clear hne
                    go_wp2
                    go_quiet (fail)
                    go_wp2
                    go_ret
                    exact ⟨false, rfl, ⟨(fun h => by cases h), fun h => absurd h HN2.out⟩, (by first | exact below_drewN (Below.refl _ _) _ | exact below_drewN (below_drewN (Below.refl _ _) _) _)⟩
                  · have h9 : (s1 == s2) = false := by simpa using e_s1
                    clear hne e_s1
                    go_wp2
                    go_quiet (fail)
                    go_wp2
                    go_ret
                    exact ⟨false, rfl, ⟨(fun h => by cases h), fun h => absurd h HN2.out⟩, (by first | exact below_drewN (Below.refl _ _) _ | exact below_drewN (below_drewN (Below.refl _ _) _) _)⟩
                · have h9 : (d1 == d2) = false := by simpa using e_d1
                  clear hne e_d1
                  go_wp2
                  go_quiet (fail)
                  go_wp2
                  go_ret
                  exact ⟨false, rfl, ⟨(fun h => by cases h), fun h => absurd h HN2.out⟩, (by first | exact below_drewN (Below.refl _ _) _ | exact below_drewN (below_drewN (Below.refl _ _) _) _)⟩
              · have h9 : (L1 == L2) = false := by simpa using e_L1
                clear hne e_L1
                go_wp2
                go_quiet (fail)
                go_wp2
                go_ret
                exact ⟨false, rfl, ⟨(fun h => by cases h), fun h => absurd h HN2.out⟩, (by first | exact below_drewN (Below.refl _ _) _ | exact below_drewN (below_drewN (Below.refl _ _) _) _)⟩
            · have h9 : (t1 == t2) = false := by simpa using e_t1
              clear hne e_t1
              go_wp2
              go_quiet (fail)
              go_wp2
              go_ret
              exact ⟨false, rfl, ⟨(fun h => by cases h), fun h => absurd h HN2.out⟩, (by first | exact below_drewN (Below.refl _ _) _ | exact below_drewN (below_drewN (Below.refl _ _) _) _)⟩
          · have h9 : (f1 == f2) = false := by simpa using e_f1
            clear hne e_f1
            go_wp2
            go_quiet (fail)
            go_wp2
            go_ret
            exact ⟨false, rfl, ⟨(fun h => by cases h), fun h => absurd h HN2.out⟩, (by first | exact below_drewN (Below.refl _ _) _ | exact below_drewN (below_drewN (Below.refl _ _) _) _)⟩
      · have hE : Hid (xs = ys) := Lib.hid (by
          have := HT.out
          rw [List.take_of_length_le (by omega), List.take_of_length_le (by rw [← Hlen.out]; omega)] at this
          exact this)
        go_wp2
        go_ret
        exact ⟨true, rfl, ⟨fun _ => hE.out, fun _ => rfl⟩, below_drewN (Below.refl _ _) _⟩
  · have hl1 : ((xs.length : Int) == (ys.length : Int)) = false := by rw [beq_eq_false_iff_ne]; omega
    have hl2 : ((xs.length : Int) != (ys.length : Int)) = true := by unfold bne; rw [hl1]; rfl
    have HL := Lib.hid hlen
    clear hlen hl1
    go_enter Try.func64, Try.ntmps64
    go_wp2
    go_ret
    exact ⟨false, rfl, ⟨(fun h => by cases h), fun h => absurd (by rw [h]) HL.out⟩, Below.refl _ _⟩

end Go.Proofs.Ytmopnkkpcgiafaa
