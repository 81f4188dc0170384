/-
  ReadingsText of both sides.
-/
import Derived.Test.YthidaoemonjemacDoorMa1
import Derived.Test.YthidaoemonjemacDoorD4
import Derived.Test.YthidaoemonjemacDoorTw
namespace Go.Proofs.YthidaoemonjemacDoor
open Go.ChangeShapes Go.WideShapes Go.ChangeAt Go.RowKit

set_option maxRecDepth 100000
set_option maxHeartbeats 1600000
set_option linter.unusedVariables false

/-- a reading as a text -/
def rgT (x : Rg) : ByteArray := mkB (Lib.itoa x.h) ++ ⟨#[58]⟩ ++ mkB (Lib.itoa x.c)
/-- the text of the first k readings -/
def rgsT (xs : List Rg) : Nat → ByteArray
  | 0 => ⟨#[]⟩
  | k + 1 => if k = 0 then rgsT xs k ++ rgT (rgAt xs k) else rgsT xs k ++ ⟨#[32]⟩ ++ rgT (rgAt xs k)
def readingsTextR0 (xs : List Rg) : ByteArray := if okRs xs = true then rgsT xs xs.length else ⟨#[]⟩
theorem rgT_bd {x : Rg} (h0 : 0 ≤ x.h ∧ x.h ≤ 100000) (h1 : 0 ≤ x.c ∧ x.c ≤ 1000000000) : (rgT x).size ≤ 43 := by
  have a := itoa_bd x.h (by unfold inV; exact inB_iff.2 (by omega))
  have b := itoa_bd x.c (by unfold inV; exact inB_iff.2 (by omega))
  unfold rgT
  rw [ByteArray.size_append, ByteArray.size_append]
  have e1 : (mkB (Lib.itoa x.h)).size = (Lib.itoa x.h).length := rfl
  have e2 : (mkB (Lib.itoa x.c)).size = (Lib.itoa x.c).length := rfl
  have e3 : (⟨#[58]⟩ : ByteArray).size = 1 := rfl
  omega
theorem rgsT_bd {xs : List Rg} (h : okRs xs = true) (k : Nat) (hk : k ≤ xs.length) : (rgsT xs k).size ≤ 44 * k := by
  induction k with
  | zero => exact Nat.le_refl _
  | succ k ih =>
    have ih := ih (by omega)
    have a := okRs_one h k (by omega)
    have b := rgT_bd (x := rgAt xs k) (by omega) (by omega)
    have e3 : (⟨#[32]⟩ : ByteArray).size = 1 := rfl
    unfold rgsT
    split
    · rw [ByteArray.size_append]; omega
    · rw [ByteArray.size_append, ByteArray.size_append]; omega
theorem l06Text_any (A : Option Addr) (n c : Nat) (xs : List Rg) (w : World) (h : RgsOk w A n xs) (hok : okRs xs = true) :
    Calls Tryd.prog 15 #[.slice A n c] w fun e w' => e = .returned (.string (rgsT xs xs.length)) ∧ Below w.heap.size w w' := by
  have hn : n ≤ 48 := by have := (okRs_parts hok).1; have := h.1.1; omega
  obtain rfl := h.1.1
  have HB := Lib.hid h.cells
  have HOK := Lib.hid hok
  have HBD := Lib.hid (fun k (hk : k ≤ xs.length) => rgsT_bd hok k hk)
  clear h hok
  go_enter Tryd.func15, Tryd.ntmps15
  go_wp2
  go_loopw [3, 4] (fun o i wr => ∃ (k : Nat) (s : ByteArray), k ≤ xs.length ∧ i = .int .i64 k ∧ o = .string s ∧ s.size ≤ 44 * k ∧ Hid (s = rgsT xs k) ∧ Below w.heap.size w wr) (fun _ i _ => xs.length - (intOf i).toNat)
  case atStart => exact ⟨0, _, Nat.zero_le _, rfl, rfl, Nat.le_refl _, Lib.hid rfl, Below.refl _ _⟩
  case round =>
    obtain ⟨k, s, hk, rfl, rfl, hs, Hs, hb⟩ := hrel
    by_cases hlt : k < xs.length
    · obtain ⟨b, off, rfl, hrow⟩ := RgO.at (HB.out.next hb) (by omega)
      have P0 := hrow k _ (rgAt_some xs k hlt)
      have a1 := okRs_one HOK.out k hlt
      have hsz := rgT_bd (x := rgAt xs k) (by omega) (by omega)
      have H1 : Hid (rgsT xs (k + 1) = if k = 0 then rgsT xs k ++ rgT (rgAt xs k) else rgsT xs k ++ ⟨#[32]⟩ ++ rgT (rgAt xs k)) := Lib.hid rfl
      have HT : Hid (rgT (rgAt xs k) = mkB (Lib.itoa (rgAt xs k).h) ++ ⟨#[58]⟩ ++ mkB (Lib.itoa (rgAt xs k).c)) := Lib.hid rfl
      have hb2 := itoa_bd (rgAt xs k).h (by unfold inV; exact inB_iff.2 (by omega))
      have hb3 := itoa_bd (rgAt xs k).c (by unfold inV; exact inB_iff.2 (by omega))
      have HD1 := Lib.hid (fun W => l01Dec_any (rgAt xs k).h W (by omega) (by omega))
      have HD2 := Lib.hid (fun W => l01Dec_any (rgAt xs k).c W (by omega) (by omega))
      generalize rgT (rgAt xs k) = q at *
      generalize rgAt xs k = x at *
      have hq1 : (mkB (Lib.itoa x.h)).size ≤ 21 := hb2
      have hq2 : (mkB (Lib.itoa x.c)).size ≤ 21 := hb3
      generalize mkB (Lib.itoa x.h) = u at *
      generalize mkB (Lib.itoa x.c) = v at *
      have ⟨p0, p1⟩ := P0
      clear hrow hb2 hb3
      have e1 : (u ++ ⟨#[58]⟩).size = u.size + 1 := by rw [ByteArray.size_append]; rfl
      have e2 : (u ++ ⟨#[58]⟩ ++ v).size = u.size + 1 + v.size := by rw [ByteArray.size_append, e1]
      have hk1 : ¬ 9223372036854775807 < u.size + 1 := by omega
      have hk2 : ¬ 9223372036854775807 < u.size + 1 + v.size := by omega
      have hk3 : ¬ 9223372036854775807 < s.size + (u.size + 1 + v.size) := by omega
      have hk4 : ¬ 9223372036854775807 < s.size + 1 + (u.size + 1 + v.size) := by omega
      have hk5 : ¬ 9223372036854775807 < s.size + 1 := by omega
      have tok : True := trivial
      by_cases hk0 : k = 0
      · subst hk0
        have hs0 : s.size = 0 := by omega
        have e5 : (s ++ (u ++ ⟨#[58]⟩ ++ v)).size = u.size + 1 + v.size := by rw [ByteArray.size_append, e2]; omega
        have HE5 := Lib.hid e5
        have HF : Hid (s ++ (u ++ ⟨#[58]⟩ ++ v) = rgsT xs 1) := Lib.hid (by rw [H1.out, if_pos rfl, ← Hs.out, HT.out])
        simp only [Nat.zero_mul, Nat.add_zero] at p0 p1
        have P0' : RgO wr b off x := ⟨p0, p1⟩
        clear e1 e2 e5 P0
        go_wp2_with fail
        go_region_held3 (fun w' => w'.cell? ⟨b, off, none⟩ = some (.int .i64 x.h) ∧ w'.cell? ⟨b, off + 1, none⟩ = some (.int .i64 x.c)) (first | exact P2 | exact P1 | exact P0' | exact RgO.keep P0' rfl)
          ((first | (go_at_call 25; clear tok; refine (HD1.out _).mono ?_; rintro e w1 ⟨rfl, hb1⟩; have P1 := RgO.next (show RgO wr.drew b (off) x from RgO.keep P0' rfl) hb1) | (go_at_call 25; refine (HD2.out _).mono ?_; rintro e w2 ⟨rfl, hb2⟩; have P2 := P1.next hb2)))
        all_goals (
          have hbF := bnext (bnext (below_drewN hb 1) hb1) hb2
          have HBF := Lib.hid hbF
          clear hbF hb1 hb2
          go_wp2
          go_roundw)
        all_goals first
          | (simp [intOf]; omega)
          | exact ⟨1, _, by omega, by go_num, rfl, by rw [HE5.out]; omega, HF, HBF.out⟩
      · have hk1 : (0 : Int) < (k : Int) := by omega
        have e3 : (s ++ ⟨#[32]⟩).size = s.size + 1 := by rw [ByteArray.size_append]; rfl
        have e5 : (s ++ ⟨#[32]⟩ ++ (u ++ ⟨#[58]⟩ ++ v)).size = s.size + 1 + (u.size + 1 + v.size) := by rw [ByteArray.size_append, e2, e3]
        have HE5 := Lib.hid e5
        have HF : Hid (s ++ ⟨#[32]⟩ ++ (u ++ ⟨#[58]⟩ ++ v) = rgsT xs (k + 1)) := Lib.hid (by rw [H1.out, if_neg hk0, ← Hs.out, HT.out])
        have P0' : RgO wr b (off + k * 2) x := P0
        clear e1 e2 e3 e5 P0
        go_wp2_with fail
        go_region_held3 (fun w' => w'.cell? ⟨b, off + k * 2, none⟩ = some (.int .i64 x.h) ∧ w'.cell? ⟨b, off + k * 2 + 1, none⟩ = some (.int .i64 x.c)) (first | exact P2 | exact P1 | exact P0' | exact RgO.keep P0' rfl)
          ((first | (go_at_call 25; clear tok; refine (HD1.out _).mono ?_; rintro e w1 ⟨rfl, hb1⟩; have P1 := RgO.next (show RgO wr.drew b (off + k * 2) x from RgO.keep P0' rfl) hb1) | (go_at_call 25; refine (HD2.out _).mono ?_; rintro e w2 ⟨rfl, hb2⟩; have P2 := P1.next hb2)))
        all_goals (
          have hbF := bnext (bnext (below_drewN hb 1) hb1) hb2
          have HBF := Lib.hid hbF
          clear hbF hb1 hb2
          go_wp2
          go_roundw)
        all_goals first
          | (simp [intOf]; omega)
          | exact ⟨k + 1, _, by omega, by go_num, rfl, by rw [HE5.out]; omega, HF, HBF.out⟩
    · have e : k = xs.length := by omega
      subst e
      go_wp2
      go_ret
      exact ⟨by rw [Hs.out]; rfl, hb⟩

end Go.Proofs.YthidaoemonjemacDoor
