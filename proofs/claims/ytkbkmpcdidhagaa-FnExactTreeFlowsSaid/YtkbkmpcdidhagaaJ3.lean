/-
  The open pipes of a grid joined.
-/
import Derived.Test.YtkbkmpcdidhagaaJ2
import Derived.Test.YtkbkmpcdidhagaaH2
namespace Go.Proofs.Ytkbkmpcdidhagaa
open Go.ChangeShapes Go.WideShapes Go.ChangeAt Go.RowKit
set_option maxRecDepth 100000
set_option linter.unusedVariables false

/-- a call that returns the parts P and the list T, both new -/
def JoinedR (P T : List Int) (w : World) (e : Ending) (w' : World) : Prop :=
  ∃ A c B d, e = .returned (.tuple #[.slice A P.length c, .slice B T.length d]) ∧ w'.ownsRow w.heap.size 2 1 (.slice A P.length c) P.length (intsV P) ∧
    w'.ownsRow w.heap.size 2 1 (.slice B T.length d) T.length (intsV T) ∧ Below w.heap.size w w'
theorem joined_any (A : Option Addr) (n c : Nat) (B : Option Addr) (m d : Nat) (gb : Nat) (ps : List Pp) (cl : Nat → Bool) (w : World) (hn0 : 0 < n) (hn : n ≤ 1048576) (hl : ps.length = m) (hm : m ≤ 20) (hg : GridAt w gb A n c B m d cl) (hB : CellsAt w B (rowsP ps)) (hfit : ps.all (fitB n) = true) :
    Calls Try.prog 211 #[.pointer (some ⟨gb, 0, none⟩)] w (JoinedR (partsTo cl n ps m) (treeTo cl n ps m) w) := by
  subst hl
  obtain ⟨i0, hi, hz0, hz1, hz2⟩ := info_parts infoI64
  have hgl : gb < w.heap.size := hg.1.lies
  have ⟨n0, n1⟩ := hg.1
  have HG := Lib.hid hg
  have HB := Lib.hid hB
  have HF := Lib.hid hfit
  clear hg hB hfit
  go_enter Try.func211, Try.ntmps211
  go_wp2_with fail
  refine (apart_any n w hn).mono ?_
  rintro e w1 ⟨A1, c1, rfl, o1, hb1⟩
  rw [intsV_length, countL_length] at o1
  rw [intsV_length, countL_length]
  obtain ⟨g, rfl⟩ : ∃ g, A1 = some ⟨g, 0, none⟩ := by
    rcases o1.2 with ⟨hv, hn'⟩ | ⟨g, cap, cur, hv, _⟩
    · omega
    · injection hv with hA; exact ⟨g, hA⟩
  have hg1 := (o1.lt g rfl).1
  have hg2 := (o1.lt g rfl).2
  have hG1 := HG.out.next hb1
  have HG1 := Lib.hid hG1
  have HB1 := Lib.hid (HB.out.next hb1)
  have ⟨m0, m1⟩ := hG1.1
  clear n0 n1 hG1
  go_wp2
  go_loopw [5, 21] (fun v i wr => ∃ (k : Nat) (T : Option Addr) (L td : Nat), k ≤ ps.length ∧ i = .int .i64 k ∧ v = .slice T L td ∧ wr.ownsRow w.heap.size 2 1 (.slice (some ⟨g, 0, none⟩) n c1) n (intsV (partsTo cl n ps k)) ∧ wr.ownsRow w1.heap.size 2 1 (.slice T L td) L (intsV (treeTo cl n ps k)) ∧ w1.heap.size ≤ wr.heap.size ∧ Below w.heap.size w wr) (fun _ i _ => ps.length - (intOf i).toNat)
  case atStart => exact ⟨0, none, 0, 0, Nat.zero_le _, rfl, rfl, o1, World.ownsRow_nil _ _ _ _, Nat.le_refl _, hb1⟩
  case round =>
    clear m0 m1 o1
    obtain ⟨k, T, L, td, hk, rfl, rfl, hro, htr, hsz, hb⟩ := hrel
    by_cases hlt : k < ps.length
    · obtain ⟨b, off, rfl, hrow⟩ := pipe_at (HB.out.next hb) (by omega)
      have hp := List.getElem?_eq_getElem hlt
      have P := hrow k _ hp
      have hf := fitB_parts (fitB_at HF.out k _ hp)
      have he := okP_ends hf.1
      generalize ps[k] = p at *
      have HP := Lib.hid hp
      have ⟨p0, p1, p2, p3, p4, p5⟩ := P
      have hG := (HG.out.next hb).next (bal (Below.refl _ _) (.cells #[.string p.id, .int .i64 p.f, .int .i64 p.t, .int .i64 p.L, .int .i64 p.d, .int .i64 p.s] 71))
      obtain ⟨hc1, _⟩ := hG.2 k (by omega)
      have hk20 : (k : Int) < 20 := by omega
      clear hp hrow P hG
      have hro1 := hro.alloc (.cells #[.string p.id, .int .i64 p.f, .int .i64 p.t, .int .i64 p.L, .int .i64 p.d, .int .i64 p.s] 71)
      have htr1 := htr.alloc (.cells #[.string p.id, .int .i64 p.f, .int .i64 p.t, .int .i64 p.L, .int .i64 p.d, .int .i64 p.s] 71)
      have hb1' := bal hb (.cells #[.string p.id, .int .i64 p.f, .int .i64 p.t, .int .i64 p.L, .int .i64 p.d, .int .i64 p.s] 71)
      have hsz1 : w1.heap.size ≤ (wr.alloc (.cells #[.string p.id, .int .i64 p.f, .int .i64 p.t, .int .i64 p.L, .int .i64 p.d, .int .i64 p.s] 71)).heap.size := by simp; omega
      have HR1 := Lib.hid hro1
      have HT1 := Lib.hid htr1
      have HB1' := Lib.hid hb1'
      have HF1 := Lib.hid hf
      have HE1 := Lib.hid he
      clear hro1 htr1 hb1' hro htr hf he
      by_cases hcl : cl k = true
      · have HN := Lib.hid (partsTo_closed (n := n) HP.out hcl)
        have HM := Lib.hid (treeTo_stay (cl := cl) (n := n) HP.out (by rw [hcl]; rfl))
        rw [hcl] at hc1
        clear hcl
        go_wp2
        go_roundw
        case rel => exact ⟨k + 1, T, L, td, by omega, by go_num, rfl, by rw [HN.out]; exact HR1.out, by rw [HM.out]; exact HT1.out, hsz1, HB1'.out⟩
        case measure => simp [intOf]; omega
      · have hcl : cl k = false := by simpa using hcl
        have HN := Lib.hid (partsTo_open (n := n) HP.out hcl)
        have hstay := fun h => treeTo_stay (cl := cl) (n := n) (k := k) HP.out h
        have hgrow := fun h => treeTo_grow (cl := cl) (n := n) (k := k) HP.out h
        rw [hcl] at hc1 hstay hgrow
        have HS := Lib.hid hstay
        have HW := Lib.hid hgrow
        clear hcl hstay hgrow
        go_wp2_with fail
        refine (join_any w.heap.size g n c1 (partsTo cl n ps k) p.f p.t _ hn (partsTo_length _ _ _ _) HE1.out.1.1 HF1.out.2.1 HE1.out.2.1.1 HF1.out.2.2 HR1.out).mono ?_
        rintro e w2 ⟨rfl, o2, g2⟩
        have htr2 := owns_keep HT1.out (fun q hq => g2.block q (HT1.out.lt q hq).2 (fun e => by have := (HT1.out.lt q hq).1; have e := Option.some.inj e; omega))
        have hb2 := HB1'.out.grown g2 HB1'.out.size (fun q hq => by have := Option.some.inj hq; omega)
        have hsz2 := Nat.le_trans hsz1 g2.size
        rw [← HN.out] at o2
        by_cases hxy : (getI (partsTo cl n ps k) p.f == getI (partsTo cl n ps k) p.t) = true
        · have hne : (getI (partsTo cl n ps k) p.f != getI (partsTo cl n ps k) p.t) = false := by unfold bne; rw [hxy]; rfl
          have HM := Lib.hid (HS.out (by rw [hxy]; rfl))
          rw [hne]
          clear hne hxy
          go_wp2
          go_roundw
          case rel => exact ⟨k + 1, T, L, td, by omega, by go_num, rfl, o2, by rw [HM.out]; exact htr2, hsz2, hb2⟩
          case measure => simp [intOf]; omega
        · have hxy : (getI (partsTo cl n ps k) p.f == getI (partsTo cl n ps k) p.t) = false := by simpa using hxy
          have hne : (getI (partsTo cl n ps k) p.f != getI (partsTo cl n ps k) p.t) = true := by unfold bne; rw [hxy]; rfl
          have HM := Lib.hid (HW.out (by rw [hxy]; rfl))
          rw [hne]
          have hL : L ≤ 20 := by
            have := owns_len htr2
            rw [intsV_length] at this
            have := treeTo_short cl n ps k
            omega
          clear hne hxy
          go_wp2_with (at_builtin; refine wpList_append_own _ rfl _ _ 22 rfl w1.heap.size 2 i0 (.int .i64 0) 1 8 Try.underlying22 hi hz0 hz1 hz2 rfl (by decide) _ _ _ rfl (htr2.alloc _) ⟨w2.heap.size, 0, none⟩ 1 1 [.int .i64 k] rfl rfl (cell_one_new _ _ _) (by simp [Value.oneCell']) ?_ ?_ ?_ ?_; (unfold maxLen; omega); (omega); (simp; omega); intro v4 w4 hown4 hgrow4 _)
          obtain ⟨T4, d4, rfl⟩ := owns_form hown4
          go_roundw
          case rel => exact ⟨k + 1, T4, L + 1, d4, by omega, by go_num, rfl, (o2.alloc _).kept hgrow4 (.inr (fun e => by have := (htr2.lt g e.symm).1; omega)), by rw [HM.out, intsV_snoc]; exact hown4, Nat.le_trans hsz2 (Nat.le_trans (by simp) hgrow4.size), (bal hb2 _).grown hgrow4 (by have := hb2.size; simp; omega) (fun q hq => by have := (htr2.lt q hq).1; have := hb1.size; omega)⟩
          case measure => simp [intOf]; omega
    · obtain rfl : k = ps.length := by omega
      go_wp2
      go_ret2
      have hT := owns_len htr
      rw [intsV_length] at hT
      subst hT
      exact ⟨some ⟨g, 0, none⟩, c1, T, td, by rw [partsTo_length]; rfl, by rw [partsTo_length]; exact hro, owns_base htr hb1.size, hb⟩

end Go.Proofs.Ytkbkmpcdidhagaa
