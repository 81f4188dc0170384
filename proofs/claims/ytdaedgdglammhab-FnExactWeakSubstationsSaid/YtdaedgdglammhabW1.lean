/-
  sort.Search, called with a function that never goes back to false; the program's two tables and the place on one of them.
-/
import Derived.Test.YtdaedgdglammhabW0
import Derived.Test.YtdaedgdglammhabB1
import Derived.Laws.Tables
import Derived.Deep.WholeRow
import Derived.Deep.Cut
import Derived.Deep.LoopGhost
import Derived.RegionTactic
import Derived.Shelf.Abstract
namespace Go.Proofs.Ytdaedgdglammhab
open Go.ChangeShapes Go.WideShapes Go.ChangeAt Go.RowKit Go.Shelf

theorem search_any (g : Nat) (cb : Array Value) (n : Nat) (p : Nat → Bool) (w : World) (eg : ∀ args w, (callFunc g args).run Try.prog w = .ok (.enter g args) w) (hn : n < 4611686018427387904)
    (hf : ∀ (wr : World) (i : Nat), i < n → Below w.heap.size w wr → Calls Try.prog g (#[.int .i64 i] ++ cb) wr fun e w' => e = .returned (.bool (p i)) ∧ Below wr.heap.size wr w')
    (hm : ∀ a b, a ≤ b → b < n → p a = true → p b = true) :
    Calls Try.prog 95 #[.int .i64 n, .func (.func g) #[] cb] w fun e w' => e = .returned (.int .i64 (countF p n)) ∧ Below w.heap.size w w' := by
  have HF := Lib.hid hf
  have HC := Lib.hid (countF_spec p n hm)
  have HM := Lib.hid hm
  clear hf hm
  generalize countF p n = c at *
  go_enter Try.func95, Try.ntmps95
  go_wp2
  go_loopw [5, 6] (fun s5 s6 wr => ∃ lo hi : Nat, s5 = .int .i64 lo ∧ s6 = .int .i64 hi ∧ lo ≤ hi ∧ hi ≤ n ∧ Below w.heap.size w wr ∧
    Hid ((∀ t, t < lo → p t = false) ∧ (∀ t, hi ≤ t → t < n → p t = true))) (fun s5 s6 _ => (intOf s6).toNat - (intOf s5).toNat)
  case atStart => exact ⟨0, n, rfl, rfl, Nat.zero_le _, Nat.le_refl _, Below.refl _ _, Lib.hid ⟨fun t h => by omega, fun t h1 h2 => by omega⟩⟩
  case round =>
    obtain ⟨lo, hi, rfl, rfl, hlh, hin, hb, I⟩ := hrel
    by_cases hlt : lo < hi
    · have hc := HF.out wr ((lo + hi) / 2) (by omega) hb
      rw [show (((lo + hi) / 2 : Nat) : Int) = ((lo : Int) + (hi : Int)) / 2 by omega] at hc
      cases hp : p ((lo + hi) / 2) <;> rw [hp] at hc
      · have HP := Lib.hid hp
        clear hp
        go_wp2_with (go_at_fn g; refine hc.mono ?_; rintro e w' ⟨rfl, hb2⟩)
        go_roundw
        case rel => exact ⟨(lo + hi) / 2 + 1, hi, by rw [show ((lo : Int) + (hi : Int)) / 2 + 1 = (((lo + hi) / 2 + 1 : Nat) : Int) by omega], rfl, by omega, hin, bnext hb hb2, Lib.hid ⟨fun t ht => (by
            cases h : p t with
            | false => rfl
            | true => (have := HM.out t ((lo + hi) / 2) (by omega) (by omega) h; rw [HP.out] at this; exact absurd this (by simp))), I.out.2⟩⟩
        case measure => simp [intOf]; omega
      · have HP := Lib.hid hp
        clear hp
        go_wp2_with (go_at_fn g; refine hc.mono ?_; rintro e w' ⟨rfl, hb2⟩)
        go_roundw
        case rel => exact ⟨lo, (lo + hi) / 2, rfl, by rw [show ((lo : Int) + (hi : Int)) / 2 = (((lo + hi) / 2 : Nat) : Int) by omega], by omega, by omega, bnext hb hb2, Lib.hid ⟨I.out.1, fun t a b => HM.out ((lo + hi) / 2) t a b HP.out⟩⟩
        case measure => simp [intOf]; omega
    · have e : lo = c := by
        obtain ⟨c1, c2, c3⟩ := HC.out
        have i1 := I.out.1
        have i2 := I.out.2
        by_cases h1 : c < lo
        · have a := i1 c h1
          have b := c3 c (Nat.le_refl _) (by omega)
          rw [a] at b
          cases b
        · by_cases h2 : lo < c
          · have a := c2 lo h2
            have b := i2 lo (by omega) (by omega)
            rw [a] at b
            cases b
          · omega
      subst e
      go_wp2
      go_ret
      exact ⟨rfl, hb⟩

/-- the cells of a line through points -/
def ptsV (l : List (Int × Int)) : Array Value := (l.flatMap fun p => [Value.int .i64 p.1, Value.int .i64 p.2]).toArray
theorem ptsV_at (l : List (Int × Int)) (i : Nat) (h : i < l.length) : (ptsV l)[i * 2]? = some (.int .i64 (l.getD i (0, 0)).1) ∧ (ptsV l)[i * 2 + 1]? = some (.int .i64 (l.getD i (0, 0)).2) := by
  unfold ptsV
  induction l generalizing i with
  | nil => exact absurd h (by simp)
  | cons p r ih =>
    cases i with
    | zero => exact ⟨rfl, rfl⟩
    | succ k =>
      have := ih k (by simpa using h)
      simp only [List.getElem?_toArray] at this ⊢
      simp only [List.flatMap_cons, show (k + 1) * 2 = k * 2 + 2 by omega, show k * 2 + 2 + 1 = k * 2 + 1 + 2 by omega, List.cons_append, List.nil_append, List.getElem?_cons_succ, List.getD_cons_succ]
      exact this
theorem wpList_nil_to {P : Program} {ops : Array Oper} {Q : Exit → Act → World → Prop} {a b : Act} {w : World} (e : a = b) (h : Q .normal b w) : wpList P ops Q [] a w := by
  subst e
  exact wpList_nil h
end Go.Proofs.Ytdaedgdglammhab
