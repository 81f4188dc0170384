/-
  A pipe that the model draws: its numbers lie in narrow bounds.
-/
import Derived.Test.YtmopnkkpcgiafabGreatDoorQ1
import Derived.Test.YtmopnkkpcgiafabGreatDoorP9
import Derived.Test.YtmopnkkpcgiafabGreatDoorN3
namespace Go.Proofs.YtmopnkkpcgiafabGreatDoor
open Go.ChangeShapes Go.WideShapes Go.ChangeAt Go.RowKit

set_option maxHeartbeats 1600000 in
set_option maxRecDepth 100000 in
theorem drawOk_any (b : Nat) (k : Int) (id : ByteArray) (x y : Int) (w : World) (h : SrcOf w.heap.size w b k) (hk : k ≤ 900) :
    Calls Tryz.prog 54 #[.pointer (some ⟨b, 0, none⟩), .string id, .int .i64 x, .int .i64 y] w fun e w' => ∃ L d s : Int, e = .returned (.agg #[.string id, .int .i64 x, .int .i64 y, .int .i64 L, .int .i64 d, .int .i64 s]) ∧ (20 ≤ L ∧ L ≤ 919) ∧ (60 ≤ d ∧ d ≤ 440) ∧ (100 ≤ s ∧ s ≤ 699) ∧ w.grownBy w' (some b) := by
  have hbB : b < w.heap.size := h.2.1
  have z0 := PipeAt.new w ByteArray.empty 0 0 0 0 0 40
  have g0 := Free6.new w #[.string ByteArray.empty, .int .i64 0, .int .i64 0, .int .i64 0, .int .i64 0, .int .i64 0] 40
  have n0 : some w.heap.size ≠ some b := by simp; omega
  have G0 : w.grownBy (w.alloc (.cells #[.string ByteArray.empty, .int .i64 0, .int .i64 0, .int .i64 0, .int .i64 0, .int .i64 0] 40)) (some b) := grown_below (grown_refl _ _) (bal (Below.refl _ _) _)
  have s0 := h.next (bal (Below.refl _ _) (.cells #[.string ByteArray.empty, .int .i64 0, .int .i64 0, .int .i64 0, .int .i64 0, .int .i64 0] 40))
  have l0 : w.heap.size < (w.alloc (.cells #[.string ByteArray.empty, .int .i64 0, .int .i64 0, .int .i64 0, .int .i64 0, .int .i64 0] 40)).heap.size := by simp
  have Z0 := Lib.hid (And.intro z0 g0)
  clear z0 g0
  go_enter Tryz.func54, Tryz.ntmps54
  go_wp2_with fail
  refine (pickOf_any w.heap.size b k _ _ s0 (by omega) (by omega) (by omega)).mono ?_
  rintro e w1 ⟨p, rfl, hp0, hp1, hs1, hg1⟩
  have z1 := Lib.hid (And.intro (Z0.out.1.keep (hg1.block _ l0 n0)) (Z0.out.2.keep (hg1.block _ l0 n0)))
  have G1 := grown_then G0 hg1
  have l1 : w.heap.size < w1.heap.size := Nat.lt_of_lt_of_le l0 hg1.size
  clear hg1 Z0
  go_wp2_with fail
  have hb1 := bal (Below.refl _ w1) (.cells #[.string id, .int .i64 x, .int .i64 y, .int .i64 (20 + p), .int .i64 0, .int .i64 0] 40)
  have s1 := hs1.next (hb1.mono (by omega))
  have n1 : some w1.heap.size ≠ some b := by simp; omega
  have P1 := Lib.hid (And.intro (PipeAt.new w1 id x y (20 + p) 0 0 40) (Free6.new w1 #[.string id, .int .i64 x, .int .i64 y, .int .i64 (20 + p), .int .i64 0, .int .i64 0] 40))
  have Z1 := Lib.hid (And.intro (z1.out.1.keep (hb1.block _ l1)) (z1.out.2.keep (hb1.block _ l1)))
  have l2 : w1.heap.size < (w1.alloc (.cells #[.string id, .int .i64 x, .int .i64 y, .int .i64 (20 + p), .int .i64 0, .int .i64 0] 40)).heap.size := by simp
  have l3 : w.heap.size < (w1.alloc (.cells #[.string id, .int .i64 x, .int .i64 y, .int .i64 (20 + p), .int .i64 0, .int .i64 0] 40)).heap.size := by simp; omega
  have G2 := grown_below G1 hb1
  clear hb1
  refine (pickSmall_any w.heap.size b (k + 2) _ _ s1 (by omega) (by omega) (by omega)).mono ?_
  rintro e w2 ⟨q, rfl, hq0, hq1, hs2, hg2⟩
  have z2 := Lib.hid (And.intro (Z1.out.1.keep (hg2.block _ l3 n0)) (Z1.out.2.keep (hg2.block _ l3 n0)))
  have p2 := And.intro (P1.out.1.keep (hg2.block _ l2 n1)) (P1.out.2.keep (hg2.block _ l2 n1))
  have P2 := Lib.hid p2
  have G3 := grown_then G2 hg2
  have l4 : w1.heap.size < w2.heap.size := Nat.lt_of_lt_of_le l2 hg2.size
  clear hg2 Z1 P1
  obtain ⟨⟨a0, a1, a2, a3, a4, a5⟩, ⟨c0, c1, c2, c3, c4, c5⟩⟩ := p2
  go_wp2_with fail
  have hb2 : Below w.heap.size w2 (w2.setCell ⟨w1.heap.size, 4, none⟩ (.int .i64 (60 + 20 * q))) := (Below.refl _ _).setCell (by show w.heap.size ≤ w1.heap.size; omega) _
  have s2 := hs2.next hb2
  have P3 := Lib.hid (And.intro (P2.out.1.set4 (60 + 20 * q)) (P2.out.2.set ⟨w1.heap.size, 4, none⟩ (.int .i64 (60 + 20 * q))))
  have hne : w.heap.size ≠ w1.heap.size := by omega
  have Z3 := Lib.hid (And.intro (z2.out.1.keep (Below.heap_setCell w2 ⟨w1.heap.size, 4, none⟩ (.int .i64 (60 + 20 * q)) w.heap.size (by simpa using hne))) (z2.out.2.set ⟨w1.heap.size, 4, none⟩ (.int .i64 (60 + 20 * q))))
  have G4 := grown_mid G3 hb2
  have l5 : w1.heap.size < (w2.setCell ⟨w1.heap.size, 4, none⟩ (.int .i64 (60 + 20 * q))).heap.size := by simpa using l4
  have l6 : w.heap.size < (w2.setCell ⟨w1.heap.size, 4, none⟩ (.int .i64 (60 + 20 * q))).heap.size := by simp; omega
  clear hb2 a0 a1 a2 a3 a4 a5 c0 c1 c2 c3 c4 c5
  refine (pickOf_any w.heap.size b (k + 2 + 1) _ _ s2 (by omega) (by omega) (by omega)).mono ?_
  rintro e w3 ⟨r, rfl, hr0, hr1, hs3, hg3⟩
  have z4 := And.intro (Z3.out.1.keep (hg3.block _ l6 n0)) (Z3.out.2.keep (hg3.block _ l6 n0))
  have p4 := And.intro (P3.out.1.keep (hg3.block _ l5 n1)) (P3.out.2.keep (hg3.block _ l5 n1))
  have G5 := grown_then G4 hg3
  have l7 : w1.heap.size < w3.heap.size := Nat.lt_of_lt_of_le l5 hg3.size
  clear hg3
  obtain ⟨⟨a0, a1, a2, a3, a4, a5⟩, ⟨c0, c1, c2, c3, c4, c5⟩⟩ := p4
  obtain ⟨⟨b0, b1, b2, b3, b4, b5⟩, ⟨d0, d1, d2, d3, d4, d5⟩⟩ := z4
  go_wp2
  have hF := (((((((PipeAt.keep ⟨b0, b1, b2, b3, b4, b5⟩ (Below.heap_setCell w3 ⟨w1.heap.size, 5, none⟩ (.int .i64 (100 + r)) w.heap.size (by simpa using hne))).set0 id).set1 x).set2 y).set3 (20 + p)).set4 (60 + 20 * q)).set5 (100 + r))
  refine bodyPost_ret (results_pipe Tryz.results54 _ _ w.heap.size id x y (20 + p) (60 + 20 * q) (100 + r) rfl hF) rfl ⟨20 + p, 60 + 20 * q, 100 + r, rfl, by omega, by omega, by omega, grown_mid G5 ?_⟩
  have hw : w.heap.size ≤ w1.heap.size := by omega
  exact ((((((((Below.refl w.heap.size w3).setCell (p := ⟨w1.heap.size, 5, none⟩) hw _).setCell (p := ⟨w.heap.size, 0, none⟩) (Nat.le_refl _) _).setCell (p := ⟨w.heap.size, 1, none⟩) (Nat.le_refl _) _).setCell (p := ⟨w.heap.size, 2, none⟩) (Nat.le_refl _) _).setCell (p := ⟨w.heap.size, 3, none⟩) (Nat.le_refl _) _).setCell (p := ⟨w.heap.size, 4, none⟩) (Nat.le_refl _) _).setCell (p := ⟨w.heap.size, 5, none⟩) (Nat.le_refl _) _)

/-- the Id of a drawn pipe -/
def mainB : ByteArray := ⟨#[109, 97, 105, 110]⟩
set_option maxRecDepth 100000 in
theorem r8Pipe_any (A : Option Addr) (n c : Nat) (zs : List Int) (w : World) (h : SliceIn .u8 w A n zs) :
    Calls Tryz.prog 26 #[.slice A n c] w fun e w' => ∃ L d s : Int, e = .returned (.agg #[.string mainB, .int .i64 0, .int .i64 1, .int .i64 L, .int .i64 d, .int .i64 s]) ∧ (20 ≤ L ∧ L ≤ 919) ∧ (60 ≤ d ∧ d ≤ 440) ∧ (100 ≤ s ∧ s ≤ 699) ∧ Below w.heap.size w w' := by
  go_enter Tryz.func26, Tryz.ntmps26
  go_wp2_with fail
  have hb0 := bal (Below.refl _ w) (.cells #[.string ByteArray.empty, .int .i64 0, .int .i64 0, .int .i64 0, .int .i64 0, .int .i64 0] 40)
  refine (fromOf_any A n c zs _ (SliceIn.next h hb0)).mono ?_
  rintro e w1 ⟨b, rfl, hb, hs1, hb1⟩
  have z1 := Lib.hid (And.intro ((PipeAt.new w ByteArray.empty 0 0 0 0 0 40).keep (hb1.block _ (by simp))) ((Free6.new w #[.string ByteArray.empty, .int .i64 0, .int .i64 0, .int .i64 0, .int .i64 0, .int .i64 0] 40).keep (hb1.block _ (by simp))))
  have hb2 := bnext hb0 hb1
  have hsz : (w.alloc (.cells #[.string ByteArray.empty, .int .i64 0, .int .i64 0, .int .i64 0, .int .i64 0, .int .i64 0] 40)).heap.size = w.heap.size + 1 := by simp
  have l1 : w.heap.size < w1.heap.size := by have := hb1.size; omega
  have n0 : some w.heap.size ≠ some b := by simp; omega
  go_wp2_with fail
  refine (drawOk_any b 0 mainB 0 1 w1 hs1 (by omega)).mono ?_
  rintro e w2 ⟨L, d, s, rfl, hL, hd, hs, hg⟩
  obtain ⟨⟨b0, b1, b2, b3, b4, b5⟩, ⟨d0, d1, d2, d3, d4, d5⟩⟩ := And.intro (z1.out.1.keep (hg.block _ l1 n0)) (z1.out.2.keep (hg.block _ l1 n0))
  have hb3 : Below w.heap.size w w2 := hb2.grown hg (Nat.le_of_lt l1) fun k hk => by
    have : k = b := by simpa using hk.symm
    omega
  have HL := Lib.hid hL
  have HD := Lib.hid hd
  have HS := Lib.hid hs
  clear hL hd hs
  go_wp2
  have hF := ((((((PipeAt.keep ⟨b0, b1, b2, b3, b4, b5⟩ rfl : PipeAt w2 w.heap.size ByteArray.empty 0 0 0 0 0).set0 mainB).set1 0).set2 1).set3 L).set4 d).set5 s
  refine bodyPost_ret (results_pipe Tryz.results26 _ _ w.heap.size mainB 0 1 L d s rfl hF) rfl ⟨L, d, s, rfl, HL.out, HD.out, HS.out, ?_⟩
  exact (((((hb3.setCell (p := ⟨w.heap.size, 0, none⟩) (Nat.le_refl _) _).setCell (p := ⟨w.heap.size, 1, none⟩) (Nat.le_refl _) _).setCell (p := ⟨w.heap.size, 2, none⟩) (Nat.le_refl _) _).setCell (p := ⟨w.heap.size, 3, none⟩) (Nat.le_refl _) _).setCell (p := ⟨w.heap.size, 4, none⟩) (Nat.le_refl _) _).setCell (p := ⟨w.heap.size, 5, none⟩) (Nat.le_refl _) _

end Go.Proofs.YtmopnkkpcgiafabGreatDoor
