/-
  The text of a wave: the model's side.
-/
import Derived.Test.YtkbkmpcdidhagacDoorWa0
import Derived.Test.YtkbkmpcdidhagacDoorTp0
namespace Go.Proofs.YtkbkmpcdidhagacDoor
open Go.ChangeShapes Go.WideShapes Go.ChangeAt Go.RowKit

set_option maxRecDepth 100000
set_option maxHeartbeats 1600000
set_option linter.unusedVariables false

/-- a step as a point -/
def spPt (x : Sp) : Int × Int := (x.t, x.d)
def spT (x : Sp) : ByteArray := ptT (spPt x)
/-- the text of the first k steps -/
def spsT (xs : List Sp) : Nat → ByteArray
  | 0 => ⟨#[]⟩
  | k + 1 => if k = 0 then spsT xs k ++ spT (spAt xs k) else spsT xs k ++ ⟨#[32]⟩ ++ spT (spAt xs k)
theorem spsT_eq (xs : List Sp) (k : Nat) (hk : k ≤ xs.length) : spsT xs k = ptsT (xs.map spPt) k := by
  induction k with
  | zero => rfl
  | succ k ih =>
    have e : ptAt (xs.map spPt) k = spPt (spAt xs k) := ptAt_get (by rw [List.getElem?_map, spAt_some xs k (by omega)]; rfl)
    unfold spsT ptsT
    rw [ih (by omega), e]
    rfl
def waveTextR0 (xs : List Sp) : ByteArray := if okW xs = true then spsT xs xs.length else ⟨#[]⟩
theorem spIn {x : Sp} (h : (0 ≤ x.t ∧ x.t ≤ 1000000) ∧ (-5000 ≤ x.d ∧ x.d ≤ 20000)) : ptIn (spPt x) = true := by
  unfold ptIn spPt inV
  rw [Bool.and_eq_true]
  exact ⟨inB_iff.2 ⟨by have := h.1.1; show (-1000000000000 : Int) ≤ x.t; omega, by have := h.1.2; show x.t ≤ 1000000000000; omega⟩, inB_iff.2 ⟨by have := h.2.1; show (-1000000000000 : Int) ≤ x.d; omega, by have := h.2.2; show x.d ≤ 1000000000000; omega⟩⟩
theorem spT_bd {x : Sp} (h0 : 0 ≤ x.t ∧ x.t ≤ 1000000) (h1 : -5000 ≤ x.d ∧ x.d ≤ 20000) : (spT x).size ≤ 43 := ptT_bd (spIn ⟨h0, h1⟩)
theorem spsT_bd {xs : List Sp} (h : okW xs = true) (k : Nat) (hk : k ≤ xs.length) : (spsT xs k).size ≤ 44 * k := by
  rw [spsT_eq xs k hk]
  refine ptsT_bd (fun i hi => ?_) k (by rw [List.length_map]; exact hk)
  rw [List.length_map] at hi
  have a := okW_one h i hi
  rw [ptAt_get (by rw [List.getElem?_map, spAt_some xs i hi]; rfl)]
  exact spIn ⟨⟨a.1, a.2.1⟩, ⟨a.2.2.1, a.2.2.2⟩⟩
theorem l09Text_any (A : Option Addr) (n c : Nat) (xs : List Sp) (w : World) (h : SpsOk w A n xs) (hok : okW xs = true) :
    Calls Tryd.prog 15 #[.slice A n c] w fun e w' => e = .returned (.string (spsT xs xs.length)) ∧ Below w.heap.size w w' := by
  have hn : n ≤ 24 := by have := (okW_parts hok).2.1; have := h.1.1; omega
  obtain rfl := h.1.1
  have HB := Lib.hid h.cells
  have HOK := Lib.hid hok
  have HBD := Lib.hid (fun k (hk : k ≤ xs.length) => spsT_bd hok k hk)
  clear h hok
  go_enter Tryd.func15, Tryd.ntmps15
  go_wp2
  go_loopw [3, 4] (fun o i wr => ∃ (k : Nat) (s : ByteArray), k ≤ xs.length ∧ i = .int .i64 k ∧ o = .string s ∧ s.size ≤ 44 * k ∧ Hid (s = spsT xs k) ∧ Below w.heap.size w wr) (fun _ i _ => xs.length - (intOf i).toNat)
  case atStart => exact ⟨0, _, Nat.zero_le _, rfl, rfl, Nat.le_refl _, Lib.hid rfl, Below.refl _ _⟩
  case round =>
    obtain ⟨k, s, hk, rfl, rfl, hs, Hs, hb⟩ := hrel
    by_cases hlt : k < xs.length
    · obtain ⟨b, off, rfl, hrow⟩ := SpO.at (HB.out.next hb) (by omega)
      have P0 := hrow k _ (spAt_some xs k hlt)
      have a1 := okW_one HOK.out k hlt
      have hsz := spT_bd (x := spAt xs k) (by omega) (by omega)
      have H1 : Hid (spsT xs (k + 1) = if k = 0 then spsT xs k ++ spT (spAt xs k) else spsT xs k ++ ⟨#[32]⟩ ++ spT (spAt xs k)) := Lib.hid rfl
      have HT : Hid (spT (spAt xs k) = mkB (Lib.itoa (spAt xs k).t) ++ ⟨#[58]⟩ ++ mkB (Lib.itoa (spAt xs k).d)) := Lib.hid rfl
      have hb2 := itoa_bd (spAt xs k).t (by unfold inV; exact inB_iff.2 (by omega))
      have hb3 := itoa_bd (spAt xs k).d (by unfold inV; exact inB_iff.2 (by omega))
      have HD1 := Lib.hid (fun W => l01Dec_any (spAt xs k).t W (by omega) (by omega))
      have HD2 := Lib.hid (fun W => l01Dec_any (spAt xs k).d W (by omega) (by omega))
      generalize spT (spAt xs k) = q at *
      generalize spAt xs k = x at *
      have hq1 : (mkB (Lib.itoa x.t)).size ≤ 21 := hb2
      have hq2 : (mkB (Lib.itoa x.d)).size ≤ 21 := hb3
      generalize mkB (Lib.itoa x.t) = u at *
      generalize mkB (Lib.itoa x.d) = v at *
      have ⟨p0, p1⟩ := P0
      clear hrow hb2 hb3
      have e1 : (u ++ ⟨#[58]⟩).size = u.size + 1 := by rw [ByteArray.size_append]; rfl
      have e2 : (u ++ ⟨#[58]⟩ ++ v).size = u.size + 1 + v.size := by rw [ByteArray.size_append, e1]
      have hk1 : ¬ 9223372036854775807 < u.size + 1 := by omega
      have hk2 : ¬ 9223372036854775807 < u.size + 1 + v.size := by omega
      have hk3 : ¬ 9223372036854775807 < s.size + (u.size + 1 + v.size) := by omega
      have hk4 : ¬ 9223372036854775807 < s.size + 1 + (u.size + 1 + v.size) := by omega
      have hk5 : ¬ 9223372036854775807 < s.size + 1 := by omega
      have tok : True := trivial
      by_cases hk0 : k = 0
      · subst hk0
        have hs0 : s.size = 0 := by omega
        have e5 : (s ++ (u ++ ⟨#[58]⟩ ++ v)).size = u.size + 1 + v.size := by rw [ByteArray.size_append, e2]; omega
        have HE5 := Lib.hid e5
        have HF : Hid (s ++ (u ++ ⟨#[58]⟩ ++ v) = spsT xs 1) := Lib.hid (by rw [H1.out, if_pos rfl, ← Hs.out, HT.out])
        simp only [Nat.zero_mul, Nat.add_zero] at p0 p1
        have P0' : SpO wr b off x := ⟨p0, p1⟩
        clear e1 e2 e5 P0
        go_wp2_with fail
        go_region_held3 (fun w' => w'.cell? ⟨b, off, none⟩ = some (.int .i64 x.t) ∧ w'.cell? ⟨b, off + 1, none⟩ = some (.int .i64 x.d)) (first | exact P2 | exact P1 | exact P0' | exact SpO.keep P0' rfl)
          ((first | (go_at_call 30; clear tok; refine (HD1.out _).mono ?_; rintro e w1 ⟨rfl, hb1⟩; have P1 := SpO.next (show SpO wr.drew b (off) x from SpO.keep P0' rfl) hb1) | (go_at_call 30; refine (HD2.out _).mono ?_; rintro e w2 ⟨rfl, hb2⟩; have P2 := P1.next hb2)))
        all_goals (
          have hbF := bnext (bnext (below_drewN hb 1) hb1) hb2
          have HBF := Lib.hid hbF
          clear hbF hb1 hb2
          go_wp2
          go_roundw)
        all_goals first
          | (simp [intOf]; omega)
          | exact ⟨1, _, by omega, by go_num, rfl, by rw [HE5.out]; omega, HF, HBF.out⟩
      · have hk1 : (0 : Int) < (k : Int) := by omega
        have e3 : (s ++ ⟨#[32]⟩).size = s.size + 1 := by rw [ByteArray.size_append]; rfl
        have e5 : (s ++ ⟨#[32]⟩ ++ (u ++ ⟨#[58]⟩ ++ v)).size = s.size + 1 + (u.size + 1 + v.size) := by rw [ByteArray.size_append, e2, e3]
        have HE5 := Lib.hid e5
        have HF : Hid (s ++ ⟨#[32]⟩ ++ (u ++ ⟨#[58]⟩ ++ v) = spsT xs (k + 1)) := Lib.hid (by rw [H1.out, if_neg hk0, ← Hs.out, HT.out])
        have P0' : SpO wr b (off + k * 2) x := P0
        clear e1 e2 e3 e5 P0
        go_wp2_with fail
        go_region_held3 (fun w' => w'.cell? ⟨b, off + k * 2, none⟩ = some (.int .i64 x.t) ∧ w'.cell? ⟨b, off + k * 2 + 1, none⟩ = some (.int .i64 x.d)) (first | exact P2 | exact P1 | exact P0' | exact SpO.keep P0' rfl)
          ((first | (go_at_call 30; clear tok; refine (HD1.out _).mono ?_; rintro e w1 ⟨rfl, hb1⟩; have P1 := SpO.next (show SpO wr.drew b (off + k * 2) x from SpO.keep P0' rfl) hb1) | (go_at_call 30; refine (HD2.out _).mono ?_; rintro e w2 ⟨rfl, hb2⟩; have P2 := P1.next hb2)))
        all_goals (
          have hbF := bnext (bnext (below_drewN hb 1) hb1) hb2
          have HBF := Lib.hid hbF
          clear hbF hb1 hb2
          go_wp2
          go_roundw)
        all_goals first
          | (simp [intOf]; omega)
          | exact ⟨k + 1, _, by omega, by go_num, rfl, by rw [HE5.out]; omega, HF, HBF.out⟩
    · have e : k = xs.length := by omega
      subst e
      go_wp2
      go_ret
      exact ⟨by rw [Hs.out]; rfl, hb⟩

end Go.Proofs.YtkbkmpcdidhagacDoor
