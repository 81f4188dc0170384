/-
  The laws' own helpers over Building: how great one is, a copy, whether two are the same.
-/
import Derived.Test.YthidaoemonjemabDoorBd0
import Derived.Test.YthidaoemonjemabDoorGs
import Derived.Deep.RegionHeld3
namespace Go.Proofs.YthidaoemonjemabDoor
open Go.ChangeShapes Go.WideShapes Go.ChangeAt Go.RowKit
set_option maxRecDepth 100000
set_option linter.unusedVariables false

theorem bdrwBd {w w' : World} (h : Drawn w w') : Below w.heap.size w w' := by
  obtain ⟨k, rfl⟩ := h
  exact below_drewN (Below.refl _ _) k
theorem infoBd : (Tryd.prog.info? 27).map (fun i => (i.zero, i.size, i.bytes)) = some (some (.agg #[.string .empty, .int .i64 0, .int .i64 0, .int .i64 0, .int .i64 0, .slice none 0 0]), 6, 72) := by kernel_rfl
def zeroBd : Bd := ⟨⟨.empty, 0, 0, 0, 0, []⟩, none, 0⟩
/-- cells that may be written -/
def BdF (w : World) (b : Nat) : Prop := w.frozen? ⟨b, 0, none⟩ = false ∧ w.frozen? ⟨b, 1, none⟩ = false ∧ w.frozen? ⟨b, 2, none⟩ = false ∧ w.frozen? ⟨b, 3, none⟩ = false ∧ w.frozen? ⟨b, 4, none⟩ = false ∧ w.frozen? ⟨b, 5, none⟩ = false
theorem BdF.keep {w w' : World} {b : Nat} (h : BdF w b) (k : w'.heap[b]? = w.heap[b]?) : BdF w' b := by
  have e : ∀ j, w'.frozen? ⟨b, j, none⟩ = w.frozen? ⟨b, j, none⟩ := fun j => World.frozen?_of_block k
  unfold BdF
  rw [e 0, e 1, e 2, e 3, e 4, e 5]
  exact h
theorem BdF.new (w : World) (cs : Array Value) (E : TypeId) : BdF (w.alloc (.cells cs E)) w.heap.size :=
  ⟨frozen_new9 _ _ _ _, frozen_new9 _ _ _ _, frozen_new9 _ _ _ _, frozen_new9 _ _ _ _, frozen_new9 _ _ _ _, frozen_new9 _ _ _ _⟩

/-- how much is left: none, or no more than there was, and the list is short -/
def SzBd (x : Bd) (m : Int) (w : World) (e : Ending) (w' : World) : Prop := ∃ r : Int, e = .returned (.int .i64 r) ∧ (r = -1 ∨ (0 ≤ r ∧ r ≤ m ∧ x.d.pr.length ≤ 1048576)) ∧ Below w.heap.size w w'
theorem szBd_any (x : Bd) (m : Int) (w : World) (m0 : 0 ≤ m) (m1 : m ≤ 1048576) (h : x.fine w) :
    Calls Tryd.prog 7 #[.agg #[.string x.d.id, .int .i64 x.d.nd, .int .i64 x.d.ba, .int .i64 x.d.sl, .int .i64 x.d.li, .slice x.prA x.d.pr.length x.prc], .int .i64 m] w (SzBd x m w) := by
  obtain ⟨hs, hz⟩ := h
  have hm : (x.d.id.size : Int) ≤ 9223372036854775807 := by unfold maxLen at hs; omega
  have hM := hz.2.1
  clear hz
  have hO := BdO.new w x 24
  have hb : Below w.heap.size w (w.alloc (.cells #[.string x.d.id, .int .i64 x.d.nd, .int .i64 x.d.ba, .int .i64 x.d.sl, .int .i64 x.d.li, .slice x.prA x.d.pr.length x.prc] 24)) := bal (Below.refl _ _) _
  obtain ⟨n0, n1, n2, n3, n4, n5⟩ := hO
  by_cases h1 : m - x.d.id.size < 0
  · go_enter Tryd.func7, Tryd.ntmps7
    go_wp2
    go_ret
    exact ⟨-1, rfl, .inl rfl, hb⟩
  · have h1' : 0 ≤ m - x.d.id.size := by omega
    go_enter Tryd.func7, Tryd.ntmps7
    go_wp2_with fail
    refine (szInts_any x.prA x.d.pr.length x.prc (m - x.d.id.size) _ h1' (by omega) hM).mono ?_
    rintro e w1 ⟨r, rfl, hr, hb1⟩
    have hb2 := bnext hb hb1
    rcases hr with rfl | ⟨r0, r1⟩
    · go_wp2
      go_ret
      exact ⟨-1, rfl, .inl rfl, hb2⟩
    · go_wp2
      go_ret
      exact ⟨r, rfl, .inr ⟨r0, by omega, by omega⟩, hb2⟩

/-- a copy, its list new -/
def RetBd (x : Bd) (w : World) (e : Ending) (w' : World) : Prop :=
  ∃ y : Bd, y.d = x.d ∧ e = .returned (.agg #[.string y.d.id, .int .i64 y.d.nd, .int .i64 y.d.ba, .int .i64 y.d.sl, .int .i64 y.d.li, .slice y.prA y.d.pr.length y.prc]) ∧ w'.ownsRow w.heap.size 2 1 (.slice y.prA y.d.pr.length y.prc) y.d.pr.length (intsV y.d.pr) ∧ Below w.heap.size w w'
theorem toBd_any (x : Bd) (w : World) (h : x.fine w) (hn : x.d.pr.length ≤ 1048576) :
    Calls Tryd.prog 9 #[.agg #[.string x.d.id, .int .i64 x.d.nd, .int .i64 x.d.ba, .int .i64 x.d.sl, .int .i64 x.d.li, .slice x.prA x.d.pr.length x.prc]] w (RetBd x w) := by
  have HZ := Lib.hid h.2
  clear h
  let W1 := w.alloc (.cells #[.string x.d.id, .int .i64 x.d.nd, .int .i64 x.d.ba, .int .i64 x.d.sl, .int .i64 x.d.li, .slice x.prA x.d.pr.length x.prc] 24)
  let W2 := W1.alloc (.cells #[.string .empty, .int .i64 0, .int .i64 0, .int .i64 0, .int .i64 0, .slice none 0 0] 27)
  let W3 := W2.alloc (.cells #[.string x.d.id, .int .i64 x.d.nd, .int .i64 x.d.ba, .int .i64 x.d.sl, .int .i64 x.d.li, .slice none 0 0] 27)
  have s1 : W1.heap.size = w.heap.size + 1 := by simp [W1]
  have s2 : W2.heap.size = w.heap.size + 1 + 1 := by simp [W2, s1]
  have s3 : W3.heap.size = w.heap.size + 1 + 1 + 1 := by simp [W3, s2]
  have b2 : Below W1.heap.size W1 W3 := bal (bal (Below.refl _ _) _) _
  have b3 : Below W2.heap.size W2 W3 := bal (Below.refl _ _) _
  have hb : Below w.heap.size w W3 := bal (bal (bal (Below.refl _ _) _) _) _
  have hN : BdO W3 w.heap.size 0 x := (BdO.new w x 24).next b2
  have hR : BdO W3 (w.heap.size + 1) 0 zeroBd := by rw [← s1]; exact (BdO.new W1 zeroBd 27).next b3
  have hO : BdO W3 (w.heap.size + 1 + 1) 0 ⟨{ x.d with pr := [] }, none, 0⟩ := by rw [← s2]; exact BdO.new W2 ⟨{ x.d with pr := [] }, none, 0⟩ 27
  have fR : BdF W3 (w.heap.size + 1) := by rw [← s1]; exact (BdF.new W1 _ _).keep (b3.block _ (by rw [s1, s2]; omega))
  have fO : BdF W3 (w.heap.size + 1 + 1) := by rw [← s2]; exact BdF.new W2 _ _
  have ⟨n0, n1, n2, n3, n4, n5⟩ := hN
  go_enter Tryd.func9, Tryd.ntmps9
  go_wp2_with fail
  refine (toInts_any x.prA x.prc x.d.pr.length x.d.pr W3 rfl hn (HZ.out.2.2.1.next hb)).mono ?_
  rintro e w1 h1
  obtain ⟨A1, c1, rfl, o1, hb1⟩ := retInts_of h1
  clear n0 n1 n2 n3 n4 n5 h1
  have hb2 := bnext hb hb1
  have hN1 := hN.next hb1
  have hR1 := hR.next hb1
  have hO1 := hO.next hb1
  have fR1 := fR.keep (hb1.block _ (by omega))
  have fO1 := fO.keep (hb1.block _ (by omega))
  have hs1 := hb1.size
  rw [s3] at hs1
  have ⟨n0, n1, n2, n3, n4, n5⟩ := hN1
  have ⟨m0, m1, m2, m3, m4, m5⟩ := hO1
  have ⟨f0, f1, f2, f3, f4, f5⟩ := fO1
  have ⟨r0, r1, r2, r3, r4, r5⟩ := hR1
  have ⟨g0, g1, g2, g3, g4, g5⟩ := fR1
  dsimp only at m0 m1 m2 m3 m4 m5
  dsimp only [zeroBd] at r0 r1 r2 r3 r4 r5
  clear hN hR hO fR fO b2 b3 hb hb1
  go_wp2
  have hF := ((((((((hR1.setOther (w.heap.size + 1 + 1) 5 (.slice A1 x.d.pr.length c1) (by omega)).set0 x.d.id).set1 x.d.nd).set2 x.d.ba).set3 x.d.sl).set4 x.d.li).set5 A1 c1 x.d.pr))
  refine bodyPost_ret (results_Bd Tryd.results9 _ _ (w.heap.size + 1) ⟨x.d, A1, c1⟩ rfl (by simpa using hF)) rfl ⟨⟨x.d, A1, c1⟩, rfl, rfl, ?_, ?_⟩
  · exact owns_base ((owns_set_low (owns_set_low (owns_set_low (owns_set_low (owns_set_low (owns_set_low (owns_set_low o1 (by simp; omega) _) (by simp; omega) _) (by simp; omega) _) (by simp; omega) _) (by simp; omega) _) (by simp; omega) _) (by simp; omega) _)) (by omega)
  · exact (((((((hb2.setCell (p := ⟨w.heap.size + 1 + 1, 5, none⟩) (by simp; omega) _).setCell (p := ⟨w.heap.size + 1, 0, none⟩) (by simp) _).setCell (p := ⟨w.heap.size + 1, 1, none⟩) (by simp) _).setCell (p := ⟨w.heap.size + 1, 2, none⟩) (by simp) _).setCell (p := ⟨w.heap.size + 1, 3, none⟩) (by simp) _).setCell (p := ⟨w.heap.size + 1, 4, none⟩) (by simp) _).setCell (p := ⟨w.heap.size + 1, 5, none⟩) (by simp) _)

theorem eqBd_same (x y : Bd) (w : World) (hd : x.d = y.d) (hx : x.fine w) (hy : y.fine w) :
    Calls Tryd.prog 11 #[.agg #[.string x.d.id, .int .i64 x.d.nd, .int .i64 x.d.ba, .int .i64 x.d.sl, .int .i64 x.d.li, .slice x.prA x.d.pr.length x.prc], .agg #[.string y.d.id, .int .i64 y.d.nd, .int .i64 y.d.ba, .int .i64 y.d.sl, .int .i64 y.d.li, .slice y.prA y.d.pr.length y.prc]] w fun e w' => e = .returned (.bool true) ∧ Below w.heap.size w w' := by
  obtain ⟨d, A, c⟩ := x
  obtain ⟨d', A', c'⟩ := y
  dsimp only at hd
  subst hd
  have HX := Lib.hid hx.2
  have HY := Lib.hid hy.2
  have hm := hx.2.2.1
  clear hx hy
  dsimp only at *
  have e1 : (d.nd != d.nd) = false := by simp
  have e2 : (d.ba != d.ba) = false := by simp
  have e3 : (d.sl != d.sl) = false := by simp
  have e4 : (d.li != d.li) = false := by simp
  have hb : Below w.heap.size w ((w.alloc (.cells #[.string d.id, .int .i64 d.nd, .int .i64 d.ba, .int .i64 d.sl, .int .i64 d.li, .slice A d.pr.length c] 27)).alloc (.cells #[.string d.id, .int .i64 d.nd, .int .i64 d.ba, .int .i64 d.sl, .int .i64 d.li, .slice A' d.pr.length c'] 27)) := bal (bal (Below.refl _ _) _) _
  go_enter Tryd.func11, Tryd.ntmps11
  go_wp2_with fail
  refine (eqInts_same A A' c c' d.pr _ hm (HX.out.2.2.1.next hb) (HY.out.2.2.1.next hb)).mono ?_
  rintro e w1 ⟨rfl, hd⟩
  go_wp2
  go_ret
  exact ⟨rfl, bnext hb (bdrwBd hd)⟩
/-- one that can be read, all of it of a length -/
def Bd.okay (w : World) (x : Bd) : Prop := x.fine w ∧ x.d.pr.length ≤ 1048576
theorem Bd.okay.go {w w' : World} {x : Bd} (h : x.okay w) (hb : Below w.heap.size w w') : x.okay w' := ⟨h.1.go hb, h.2⟩
end Go.Proofs.YthidaoemonjemabDoor
