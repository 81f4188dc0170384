/-
  SameNetwork of both sides: whether two networks are the same; a network's size at any left.
-/
import Derived.Test.YtmopnkkpcgiafaaY1
import Derived.Test.YtmopnkkpcgiafaaH6
import Derived.Deep.QuietTactic
namespace Go.Proofs.Ytmopnkkpcgiafaa
open Go.ChangeShapes Go.WideShapes Go.ChangeAt Go.RowKit
set_option maxRecDepth 100000
set_option linter.unusedVariables false

/-- how much is left of a network: nothing, or its lists are short -/
def SzL (left : Int) (n m : Nat) (w : World) (e : Ending) (w' : World) : Prop := ∃ r : Int, e = .returned (.int .i64 r) ∧ (r = -1 ∨ (0 ≤ r ∧ r ≤ left ∧ n ≤ 1048576 ∧ m ≤ 1048576)) ∧ Below w.heap.size w w'
theorem szNet_at (A : Option Addr) (n c : Nat) (zs : List Int) (B : Option Addr) (m d : Nat) (ps : List Pp) (left : Int) (l0 : 0 ≤ left) (l1 : left ≤ 1048576) (w : World) (hz : SliceIn .i64 w A n zs) (hp : PipesIn w B m ps) :
    Calls Try.prog 15 #[.agg #[.slice A n c, .slice B m d], .int .i64 left] w (SzL left n m w) := by
  have hN := NetAt.new w A n c B m d 25
  have hb : Below w.heap.size w (w.alloc (.cells #[.slice A n c, .slice B m d] 25)) := bal (Below.refl _ _) _
  have hM := hz.2.1
  have HP := Lib.hid hp
  clear hz hp
  have ⟨n0, n1⟩ := hN
  go_enter Try.func15, Try.ntmps15
  go_wp2_with fail
  refine (szInts_any A n c left _ l0 l1 hM).mono ?_
  rintro e w1 ⟨r, rfl, hr, hb1⟩
  have hN1 := hN.next hb1
  have hb2 := bnext hb hb1
  clear n0 n1 hN hb hb1
  have ⟨n0, n1⟩ := hN1
  rcases hr with rfl | ⟨r0, r1⟩
  · go_wp2
    go_ret
    exact ⟨-1, rfl, .inl rfl, hb2⟩
  · have hn : n ≤ 1048576 := by omega
    have r2 : r ≤ 1048576 := by omega
    go_wp2_with fail
    have hp' : PipesIn w1 B m ps := ⟨HP.out.1, HP.out.2.1, HP.out.2.2.1.next hb2, HP.out.2.2.2⟩
    refine (szPipes_any B m d ps r _ r0 r2 hp').mono ?_
    rintro e w2 ⟨q, rfl, hq, hb3⟩
    have hb4 := bnext hb2 hb3
    clear hp' hb2 hb3 n0 n1 hN1
    rcases hq with rfl | ⟨q0, q1⟩
    · go_wp2
      go_ret
      exact ⟨-1, rfl, .inl rfl, hb4⟩
    · have hm : m ≤ 1048576 := by omega
      go_wp2
      go_ret
      exact ⟨q, rfl, .inr ⟨q0, by omega, hn, hm⟩, hb4⟩

theorem NetIn.szL {w : World} {A : Option Addr} {n : Nat} {zs : List Int} {B : Option Addr} {m : Nat} {ps : List Pp} (h : NetIn w A n zs B m ps) (c d : Nat) (left : Int) (l0 : 0 ≤ left) (l1 : left ≤ 1048576) (wx : World) (hb : Below w.heap.size w wx) :
    Calls Try.prog 15 #[.agg #[.slice A n c, .slice B m d], .int .i64 left] wx (SzL left n m wx) := szNet_at A n c zs B m d ps left l0 l1 wx (h.next hb).1 (h.next hb).2
theorem implSame_any (A1 B1 A2 B2 : Option Addr) (c1 d1 c2 d2 : Nat) (z1 z2 : List Int) (p1 p2 : List Pp) (w : World) (hx : z1.length ≤ 1048576) (hy : z2.length ≤ 1048576) (hu : p1.length ≤ 1048576) (hv : p2.length ≤ 1048576) (h1 : NetCells w A1 z1 B1 p1) (h2 : NetCells w A2 z2 B2 p2) :
    Calls Try.prog 21 #[.agg #[.slice A1 z1.length c1, .slice B1 p1.length d1], .agg #[.slice A2 z2.length c2, .slice B2 p2.length d2]] w (Tells (z1 = z2 ∧ p1 = p2) w) := by
  have H1 := Lib.hid h1
  have H2 := Lib.hid h2
  clear h1 h2
  let W1 := w.alloc (.cells #[.slice A1 z1.length c1, .slice B1 p1.length d1] 30)
  let W2 := W1.alloc (.cells #[.slice A2 z2.length c2, .slice B2 p2.length d2] 30)
  have s1 : W1.heap.size = w.heap.size + 1 := by simp [W1]
  have b2 : Below W1.heap.size W1 W2 := bal (Below.refl _ _) _
  have hb : Below w.heap.size w W2 := bal (bal (Below.refl _ _) _) _
  have hN : NetAt W2 w.heap.size A1 z1.length c1 B1 p1.length d1 := (NetAt.new w A1 z1.length c1 B1 p1.length d1 30).next b2
  have hM : NetAt W2 (w.heap.size + 1) A2 z2.length c2 B2 p2.length d2 := (NetFree.new W1 A2 z2.length c2 B2 p2.length d2 30 _ s1.symm).1
  have ⟨n0, n1⟩ := hN
  have ⟨m0, m1⟩ := hM
  go_enter Try.func21, Try.ntmps21
  go_wp2_with fail
  refine (equalInts_any A1 A2 c1 c2 z1 z2 W2 hx hy (H1.out.1.next hb) (H2.out.1.next hb)).mono ?_
  rintro e w1 ⟨v, rfl, hq, hb1⟩
  have HQ := Lib.hid hq
  have hN := hN.next hb1
  have hM := hM.next hb1
  have hb := bnext hb hb1
  clear n0 n1 m0 m1 hq hb1 b2 s1
  have ⟨n0, n1⟩ := hN
  have ⟨m0, m1⟩ := hM
  cases v with
  | false =>
    go_wp2
    go_ret
    exact ⟨false, rfl, ⟨(fun h => by cases h), fun h => HQ.out.2 h.1⟩, hb⟩
  | true =>
    have E1 := Lib.hid (HQ.out.1 rfl)
    go_wp2_with fail
    refine (equalPipes_any B1 B2 d1 d2 p1 p2 w1 hu hv (H1.out.2.next hb) (H2.out.2.next hb)).mono ?_
    rintro e w2 ⟨v, rfl, hq, hb1⟩
    have HQ := Lib.hid hq
    have hb := bnext hb hb1
    clear n0 n1 m0 m1 hq hb1
    go_wp2
    go_ret
    exact ⟨v, rfl, ⟨fun h => ⟨E1.out, HQ.out.1 h⟩, fun h => HQ.out.2 h.2⟩, hb⟩

theorem specSame_any (A1 B1 A2 B2 : Option Addr) (c1 d1 c2 d2 : Nat) (z1 z2 : List Int) (p1 p2 : List Pp) (w : World) (hx : z1.length ≤ 1048576) (hy : z2.length ≤ 1048576) (hu : p1.length ≤ 1048576) (hv : p2.length ≤ 1048576) (h1 : NetCells w A1 z1 B1 p1) (h2 : NetCells w A2 z2 B2 p2) :
    Calls Try.prog 20 #[.agg #[.slice A1 z1.length c1, .slice B1 p1.length d1], .agg #[.slice A2 z2.length c2, .slice B2 p2.length d2]] w (Tells (z1 = z2 ∧ p1 = p2) w) := by
  have H1 := Lib.hid h1
  have H2 := Lib.hid h2
  clear h1 h2
  let W1 := w.alloc (.cells #[.slice A1 z1.length c1, .slice B1 p1.length d1] 30)
  let W2 := W1.alloc (.cells #[.slice A2 z2.length c2, .slice B2 p2.length d2] 30)
  have s1 : W1.heap.size = w.heap.size + 1 := by simp [W1]
  have b2 : Below W1.heap.size W1 W2 := bal (Below.refl _ _) _
  have hb : Below w.heap.size w W2 := bal (bal (Below.refl _ _) _) _
  have hN : NetAt W2 w.heap.size A1 z1.length c1 B1 p1.length d1 := (NetAt.new w A1 z1.length c1 B1 p1.length d1 30).next b2
  have hM : NetAt W2 (w.heap.size + 1) A2 z2.length c2 B2 p2.length d2 := (NetFree.new W1 A2 z2.length c2 B2 p2.length d2 30 _ s1.symm).1
  have ⟨n0, n1⟩ := hN
  have ⟨m0, m1⟩ := hM
  go_enter Try.func20, Try.ntmps20
  go_wp2_with fail
  refine (l00Same_any A1 A2 c1 c2 z1 z2 W2 hx hy (H1.out.1.next hb) (H2.out.1.next hb)).mono ?_
  rintro e w1 ⟨v, rfl, hq, hb1⟩
  have HQ := Lib.hid hq
  have hN := hN.next hb1
  have hM := hM.next hb1
  have hc := bnext hb hb1
  clear n0 n1 m0 m1 hq hb1 b2 s1
  have ⟨n0, n1⟩ := hN
  have ⟨m0, m1⟩ := hM
  cases v with
  | false =>
    go_wp2
    go_ret
    exact ⟨false, rfl, ⟨(fun h => by cases h), fun h => HQ.out.2 h.1⟩, hc⟩
  | true =>
    have E1 := Lib.hid (HQ.out.1 rfl)
    clear HQ
    by_cases hlen : p1.length = p2.length
    · have Hlen := Lib.hid hlen
      have hl1 : ((p1.length : Int) == (p2.length : Int)) = true := by rw [beq_iff_eq]; omega
      have hl2 : ((p1.length : Int) != (p2.length : Int)) = false := by unfold bne; rw [hl1]; rfl
      clear hlen hl1
      have HA := Lib.hid (H1.out.2.next hc)
      have HB := Lib.hid (H2.out.2.next hc)
      go_wp2
      go_loopw [5] (fun i wr => ∃ k : Nat, k ≤ p1.length ∧ i = .int .i64 k ∧ p1.take k = p2.take k ∧ Drawn w1 wr) (fun i _ => p1.length - (intOf i).toNat)
      case atStart => exact ⟨0, Nat.zero_le _, rfl, rfl, Drawn.rfl' _⟩
      case round =>
        obtain ⟨k, hk, rfl, htk, ⟨nr, rfl⟩⟩ := hrel
        have HT := Lib.hid htk
        clear htk
        by_cases hlt : k < p1.length
        · have hlt2 : k < p2.length := by rw [← Hlen.out]; exact hlt
          obtain ⟨b1, o1, rfl, h1⟩ := pipe_at HA.out (by omega)
          obtain ⟨b2, o2, rfl, h2⟩ := pipe_at HB.out (by omega)
          obtain ⟨P0, P1, P2, P3, P4, P5⟩ := h1 k _ (List.getElem?_eq_getElem hlt)
          obtain ⟨Q0, Q1, Q2, Q3, Q4, Q5⟩ := h2 k _ (List.getElem?_eq_getElem hlt2)
          have hsuc := take_eq_succ p1 p2 k HT.out hlt hlt2
          have hno : p1[k] ≠ p2[k] → p1 ≠ p2 := fun h => take_ne p1 p2 ⟨k, by rw [List.getElem?_eq_getElem hlt, List.getElem?_eq_getElem hlt2]; simpa using h⟩
          generalize p1[k] = p at *
          generalize p2[k] = q at *
          have HS := Lib.hid hsuc
          have HN := Lib.hid hno
          clear hsuc hno h1 h2
          by_cases he : p = q
          · have HS2 := Lib.hid (HS.out he)
            subst he
            obtain ⟨i1, f1, t1, L1, d1, s1⟩ := p
            dsimp only at P0 P1 P2 P3 P4 P5 Q0 Q1 Q2 Q3 Q4 Q5
            go_wp2
            go_quiet (fail)
            go_wp2
            go_roundw
            case rel => exact ⟨k + 1, by omega, by go_num, HS2.out, ⟨_, by first | rfl | exact World.drewN_drewN ..⟩⟩
            case measure => simp [intOf]; omega
          · have HN2 := Lib.hid (HN.out he)
            have hne := pp_ne he
            clear he
            obtain ⟨i1, f1, t1, L1, d1, s1⟩ := p
            obtain ⟨i2, f2, t2, L2, d2, s2⟩ := q
            dsimp only at P0 P1 P2 P3 P4 P5 Q0 Q1 Q2 Q3 Q4 Q5 hne
            by_cases e_f1 : f1 = f2
            · have e' := e_f1.symm
              subst e'
              by_cases e_t1 : t1 = t2
              · have e' := e_t1.symm
                subst e'
                by_cases e_L1 : L1 = L2
                · have e' := e_L1.symm
                  subst e'
                  by_cases e_d1 : d1 = d2
                  · have e' := e_d1.symm
                    subst e'
                    by_cases e_s1 : s1 = s2
                    · have e' := e_s1.symm
                      subst e'
                      have hi : (i1.toList == i2.toList) = false := by simpa using hne
                      clear hne
                      go_wp2
                      go_quiet (fail)
                      go_wp2
                      go_ret
                      exact ⟨false, rfl, ⟨(fun h => by cases h), fun h => absurd h.2 HN2.out⟩, (by first | exact below_drewN hc _ | exact below_drewN (below_drewN hc _) _)⟩
                    · have h9 : (s1 == s2) = false := by simpa using e_s1
                      clear hne e_s1
                      go_wp2
                      go_quiet (fail)
                      go_wp2
                      go_ret
                      exact ⟨false, rfl, ⟨(fun h => by cases h), fun h => absurd h.2 HN2.out⟩, (by first | exact below_drewN hc _ | exact below_drewN (below_drewN hc _) _)⟩
                  · have h9 : (d1 == d2) = false := by simpa using e_d1
                    clear hne e_d1
                    go_wp2
                    go_quiet (fail)
                    go_wp2
                    go_ret
                    exact ⟨false, rfl, ⟨(fun h => by cases h), fun h => absurd h.2 HN2.out⟩, (by first | exact below_drewN hc _ | exact below_drewN (below_drewN hc _) _)⟩
                · have h9 : (L1 == L2) = false := by simpa using e_L1
                  clear hne e_L1
                  go_wp2
                  go_quiet (fail)
                  go_wp2
                  go_ret
                  exact ⟨false, rfl, ⟨(fun h => by cases h), fun h => absurd h.2 HN2.out⟩, (by first | exact below_drewN hc _ | exact below_drewN (below_drewN hc _) _)⟩
              · have h9 : (t1 == t2) = false := by simpa using e_t1
                clear hne e_t1
                go_wp2
                go_quiet (fail)
                go_wp2
                go_ret
                exact ⟨false, rfl, ⟨(fun h => by cases h), fun h => absurd h.2 HN2.out⟩, (by first | exact below_drewN hc _ | exact below_drewN (below_drewN hc _) _)⟩
            · have h9 : (f1 == f2) = false := by simpa using e_f1
              clear hne e_f1
              go_wp2
              go_quiet (fail)
              go_wp2
              go_ret
              exact ⟨false, rfl, ⟨(fun h => by cases h), fun h => absurd h.2 HN2.out⟩, (by first | exact below_drewN hc _ | exact below_drewN (below_drewN hc _) _)⟩
        · have hE : Hid (p1 = p2) := Lib.hid (by
            have := HT.out
            rw [List.take_of_length_le (by omega), List.take_of_length_le (by rw [← Hlen.out]; omega)] at this
            exact this)
          go_wp2
          go_ret
          exact ⟨true, rfl, ⟨fun _ => ⟨E1.out, hE.out⟩, fun _ => rfl⟩, (by first | exact below_drewN hc _ | exact below_drewN (below_drewN hc _) _)⟩
    · have hl1 : ((p1.length : Int) == (p2.length : Int)) = false := by rw [beq_eq_false_iff_ne]; omega
      have hl2 : ((p1.length : Int) != (p2.length : Int)) = true := by unfold bne; rw [hl1]; rfl
      have HL := Lib.hid hlen
      clear hlen hl1
      go_wp2
      go_ret
      exact ⟨false, rfl, ⟨(fun h => by cases h), fun h => absurd (by rw [h.2]) HL.out⟩, (by first | exact below_drewN hc _ | exact hc)⟩

end Go.Proofs.Ytmopnkkpcgiafaa
