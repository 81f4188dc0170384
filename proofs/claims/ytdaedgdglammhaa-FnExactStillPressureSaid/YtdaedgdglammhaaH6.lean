/-
  A network's size, its copy for the program, whether two are the same.
-/
import Derived.Test.YtdaedgdglammhaaGs
import Derived.Test.YtdaedgdglammhaaH3
import Derived.Test.YtdaedgdglammhaaH4
namespace Go.Proofs.Ytdaedgdglammhaa
open Go.ChangeShapes Go.WideShapes Go.ChangeAt Go.RowKit
set_option maxRecDepth 100000
set_option linter.unusedVariables false

/-- how much is left of a network: nothing, or its lists are short -/
def SzN (n m : Nat) (w : World) (e : Ending) (w' : World) : Prop := ∃ r : Int, e = .returned (.int .i64 r) ∧ (r = -1 ∨ (0 ≤ r ∧ n ≤ 1048576 ∧ m ≤ 1048576)) ∧ Below w.heap.size w w'
theorem szNet_any (A : Option Addr) (n c : Nat) (zs : List Int) (B : Option Addr) (m d : Nat) (ps : List Pp) (w : World) (hz : SliceIn .i64 w A n zs) (hp : PipesIn w B m ps) :
    Calls Try.prog 20 #[.agg #[.slice A n c, .slice B m d], .int .i64 1048576] w (SzN n m w) := by
  have hN := NetAt.new w A n c B m d 34
  have hb : Below w.heap.size w (w.alloc (.cells #[.slice A n c, .slice B m d] 34)) := bal (Below.refl _ _) _
  have hM := hz.2.1
  have HP := Lib.hid hp
  clear hz hp
  have ⟨n0, n1⟩ := hN
  go_enter Try.func20, Try.ntmps20
  go_wp2_with fail
  refine (szInts_any A n c 1048576 _ (by omega) (by omega) hM).mono ?_
  rintro e w1 ⟨r, rfl, hr, hb1⟩
  have hN1 := hN.next hb1
  have hb2 := bnext hb hb1
  clear n0 n1 hN hb hb1
  have ⟨n0, n1⟩ := hN1
  rcases hr with rfl | ⟨r0, r1⟩
  · go_wp2
    go_ret
    exact ⟨-1, rfl, .inl rfl, hb2⟩
  · have hn : n ≤ 1048576 := by omega
    have r2 : r ≤ 1048576 := by omega
    go_wp2_with fail
    have hp' : PipesIn w1 B m ps := ⟨HP.out.1, HP.out.2.1, HP.out.2.2.1.next hb2, HP.out.2.2.2⟩
    refine (szPipes_any B m d ps r _ r0 r2 hp').mono ?_
    rintro e w2 ⟨q, rfl, hq, hb3⟩
    have hb4 := bnext hb2 hb3
    clear hp' hb2 hb3 n0 n1 hN1
    rcases hq with rfl | ⟨q0, q1⟩
    · go_wp2
      go_ret
      exact ⟨-1, rfl, .inl rfl, hb4⟩
    · have hm : m ≤ 1048576 := by omega
      go_wp2
      go_ret
      exact ⟨q, rfl, .inr ⟨q0, hn, hm⟩, hb4⟩

/-- a call that returns a new network: two new slices -/
def RetNet (zs : List Int) (ps : List Pp) (w : World) (e : Ending) (w' : World) : Prop :=
  ∃ A c B d, e = .returned (.agg #[.slice A zs.length c, .slice B ps.length d]) ∧ w'.ownsRow w.heap.size 2 1 (.slice A zs.length c) zs.length (intsV zs) ∧
    w'.ownsRow w.heap.size 89 6 (.slice B ps.length d) ps.length (rowsP ps) ∧ Below w.heap.size w w'

theorem pcells_of {w : World} {base : Nat} {E : TypeId} {A : Option Addr} {n c : Nat} {vs : List Value} (h : w.ownsRow base E 6 (.slice A n c) n vs) : CellsAt w A vs := by
  intro hp
  rcases h.2 with ⟨hv, hn⟩ | ⟨g, cap, cur, hv, _, hg, _⟩
  · have := h.1; omega
  · injection hv with hA
    subst hA
    exact ⟨g, 0, rfl, fun j hj => by rw [Nat.zero_add]; exact h.cellAt j (by have := h.1; omega)⟩
theorem owns6_below {B : Nat} {w w' : World} {base : Nat} {E : TypeId} {A : Option Addr} {n c : Nat} {vs : List Value} (h : w.ownsRow base E 6 (.slice A n c) n vs) (hb : Below B w w') (hB : w.heap.size ≤ B) : w'.ownsRow base E 6 (.slice A n c) n vs := by
  refine h.kept (row := none) ⟨hb.os, hb.tape, hb.output, hb.size, fun k hk _ => hb.block k (by omega)⟩ ?_
  cases A with
  | none => exact .inl rfl
  | some a => exact .inr (by simp [Value.ownBlock])
theorem owns6_base {w : World} {base base' : Nat} {E : TypeId} {v : Value} {n : Nat} {vs : List Value} (h : w.ownsRow base E 6 v n vs) (hb : base' ≤ base) : w.ownsRow base' E 6 v n vs := by
  refine ⟨h.1, ?_⟩
  rcases h.2 with h2 | ⟨g, cap, cur, hv, hg0, h3⟩
  · exact .inl h2
  · exact .inr ⟨g, cap, cur, hv, by omega, h3⟩
theorem NetAt.set0 {w : World} {b : Nat} {A : Option Addr} {n c : Nat} {B : Option Addr} {m d : Nat} (h : NetAt w b A n c B m d) (A' : Option Addr) (n' c' : Nat) : NetAt (w.setCell ⟨b, 0, none⟩ (.slice A' n' c')) b A' n' c' B m d :=
  ⟨World.cell?_setCell_same _ _ _ h.1, cell_set_other h.2 (.inr (by omega))⟩
theorem NetAt.set1 {w : World} {b : Nat} {A : Option Addr} {n c : Nat} {B : Option Addr} {m d : Nat} (h : NetAt w b A n c B m d) (A' : Option Addr) (n' c' : Nat) : NetAt (w.setCell ⟨b, 1, none⟩ (.slice A' n' c')) b A n c A' n' c' :=
  ⟨cell_set_other h.1 (.inr (by omega)), World.cell?_setCell_same _ _ _ h.2⟩
theorem NetAt.setOther {w : World} {b : Nat} {A : Option Addr} {n c : Nat} {B : Option Addr} {m d : Nat} (h : NetAt w b A n c B m d) (b' o' : Nat) (u : Value) (hne : b ≠ b') : NetAt (w.setCell ⟨b', o', none⟩ u) b A n c B m d :=
  ⟨cell_set_other h.1 (.inl hne), cell_set_other h.2 (.inl hne)⟩
/-- two cells of a block may be written -/
def Free2 (w : World) (b : Nat) : Prop := w.frozen? ⟨b, 0, none⟩ = false ∧ w.frozen? ⟨b, 1, none⟩ = false
theorem Free2.keep {w w' : World} {b : Nat} (h : Free2 w b) (k : w'.heap[b]? = w.heap[b]?) : Free2 w' b :=
  ⟨(World.frozen?_of_block (a := ⟨b, 0, none⟩) k).trans h.1, (World.frozen?_of_block (a := ⟨b, 1, none⟩) k).trans h.2⟩
theorem Free2.new (w : World) (cs : Array Value) (E : TypeId) : Free2 (w.alloc (.cells cs E)) w.heap.size := ⟨frozen_new9 _ _ _ _, frozen_new9 _ _ _ _⟩
theorem Free2.set {w : World} {b : Nat} (h : Free2 w b) (a : Addr) (v : Value) : Free2 (w.setCell a v) b := ⟨by simpa using h.1, by simpa using h.2⟩
/-- a network in memory that may be written -/
def NetFree (w : World) (b : Nat) (A : Option Addr) (n c : Nat) (B : Option Addr) (m d : Nat) : Prop := NetAt w b A n c B m d ∧ Free2 w b
theorem NetFree.new (w : World) (A : Option Addr) (n c : Nat) (B : Option Addr) (m d : Nat) (T : TypeId) (k : Nat) (hk : k = w.heap.size) : NetFree (w.alloc (.cells #[.slice A n c, .slice B m d] T)) k A n c B m d := by
  subst hk
  exact ⟨NetAt.new .., Free2.new ..⟩
theorem NetFree.next {w w' : World} {b : Nat} {A : Option Addr} {n c : Nat} {B : Option Addr} {m d : Nat} (h : NetFree w b A n c B m d) (hb : Below w.heap.size w w') : NetFree w' b A n c B m d :=
  ⟨h.1.next hb, h.2.keep (hb.block _ h.1.lies)⟩
theorem NetFree.set0 {w : World} {b : Nat} {A : Option Addr} {n c : Nat} {B : Option Addr} {m d : Nat} (h : NetFree w b A n c B m d) (A' : Option Addr) (n' c' : Nat) : NetFree (w.setCell ⟨b, 0, none⟩ (.slice A' n' c')) b A' n' c' B m d := ⟨h.1.set0 .., h.2.set ..⟩
theorem NetFree.set1 {w : World} {b : Nat} {A : Option Addr} {n c : Nat} {B : Option Addr} {m d : Nat} (h : NetFree w b A n c B m d) (A' : Option Addr) (n' c' : Nat) : NetFree (w.setCell ⟨b, 1, none⟩ (.slice A' n' c')) b A n c A' n' c' := ⟨h.1.set1 .., h.2.set ..⟩
theorem NetFree.setOther {w : World} {b : Nat} {A : Option Addr} {n c : Nat} {B : Option Addr} {m d : Nat} (h : NetFree w b A n c B m d) (b' o' : Nat) (u : Value) (hne : b ≠ b') : NetFree (w.setCell ⟨b', o', none⟩ u) b A n c B m d := ⟨h.1.setOther _ _ _ hne, h.2.set ..⟩
theorem NetAt.range {w : World} {b : Nat} {A : Option Addr} {n c : Nat} {B : Option Addr} {m d : Nat} (h : NetAt w b A n c B m d) : w.rangeAt b 0 [.slice A n c, .slice B m d] := fun j v hj => by
  match j, hj with
  | 0, hj => cases hj; exact h.1
  | 1, hj => cases hj; exact h.2
/-- a network read as a result out of memory -/
theorem results_net {fn : Func} {p : Tmp} (h : fn.results = #[.cell p 38]) (tmps : Array Value) (w : World) (g : Nat) (A : Option Addr) (n c : Nat) (B : Option Addr) (m d : Nat) (hp : tmps.getD p undef = .pointer (some ⟨g, 0, none⟩)) (hw : NetAt w g A n c B m d) :
    (results fn tmps).run Try.prog w = .ok (.agg #[.slice A n c, .slice B m d]) w := by
  have hp' : tmps[p]?.getD undef = .pointer (some ⟨g, 0, none⟩) := by simpa using hp
  have hl := run_loadVar_mid (P := Try.prog) w g 0 38 _ _ hw.range Try.underlying38 rfl (by kernel_rfl)
  simp [results, h, hp', asAddr, hl]
theorem results_net2 {fn : Func} {p u : Tmp} (h : fn.results = #[.cell p 38, .tmp u]) (tmps : Array Value) (w : World) (g : Nat) (A : Option Addr) (n c : Nat) (B : Option Addr) (m d : Nat) (hp : tmps.getD p undef = .pointer (some ⟨g, 0, none⟩)) (hw : NetAt w g A n c B m d) :
    (results fn tmps).run Try.prog w = .ok (.tuple #[.agg #[.slice A n c, .slice B m d], tmps.getD u undef]) w := by
  have hp' : tmps[p]?.getD undef = .pointer (some ⟨g, 0, none⟩) := by simpa using hp
  have hl := run_loadVar_mid (P := Try.prog) w g 0 38 _ _ hw.range Try.underlying38 rfl (by kernel_rfl)
  rw [results_cell_tmp h]
  simp [hp', asAddr, hl, Result.andThen]
theorem toNet_any (A : Option Addr) (n c : Nat) (zs : List Int) (B : Option Addr) (m d : Nat) (ps : List Pp) (w : World) (hz : SliceIn .i64 w A n zs) (hp : PipesIn w B m ps) (hn : n ≤ 1048576) (hm : m ≤ 1048576) :
    Calls Try.prog 22 #[.agg #[.slice A n c, .slice B m d]] w (RetNet zs ps w) := by
  have HZ := Lib.hid hz
  have HP := Lib.hid hp
  clear hz hp
  let W1 := w.alloc (.cells #[.slice A n c, .slice B m d] 34)
  let W2 := W1.alloc (.cells #[.slice none 0 0, .slice none 0 0] 38)
  let W3 := W2.alloc (.cells #[.slice none 0 0, .slice none 0 0] 38)
  have s1 : W1.heap.size = w.heap.size + 1 := by simp [W1]
  have s2 : W2.heap.size = w.heap.size + 1 + 1 := by simp [W2, s1]
  have s3 : W3.heap.size = w.heap.size + 1 + 1 + 1 := by simp [W3, s2]
  have b2 : Below W1.heap.size W1 W3 := bal (bal (Below.refl _ _) _) _
  have b3 : Below W2.heap.size W2 W3 := bal (Below.refl _ _) _
  have hb : Below w.heap.size w W3 := bal (bal (bal (Below.refl _ _) _) _) _
  have hN : NetFree W3 w.heap.size A n c B m d := (NetFree.new w A n c B m d 34 _ rfl).next b2
  have hR : NetFree W3 (w.heap.size + 1) none 0 0 none 0 0 := (NetFree.new W1 none 0 0 none 0 0 38 _ s1.symm).next b3
  have hO : NetFree W3 (w.heap.size + 1 + 1) none 0 0 none 0 0 := NetFree.new W2 none 0 0 none 0 0 38 _ s2.symm
  have ⟨⟨n0, n1⟩, _⟩ := hN
  go_enter Try.func22, Try.ntmps22
  go_wp2_with fail
  refine (toInts_any A c n zs W3 HZ.out.1 hn (HZ.out.2.2.1.next hb)).mono ?_
  rintro e w1 h1
  obtain ⟨A1, c1, rfl, o1, hb1⟩ := retInts_of h1
  clear n0 n1 h1
  have hb2 := bnext hb hb1
  have hN1 := hN.next hb1
  have hR1 := hR.next hb1
  have hO1 := hO.next hb1
  have ⟨⟨n0, n1⟩, _⟩ := hN1
  have ⟨⟨m0, m1⟩, ⟨f0, f1⟩⟩ := hO1
  have hO2 := hO1.set0 A1 zs.length c1
  have hN2 := hN1.setOther (w.heap.size + 1 + 1) 0 (.slice A1 zs.length c1) (by omega)
  have hR2 := hR1.setOther (w.heap.size + 1 + 1) 0 (.slice A1 zs.length c1) (by omega)
  have hb3 := hb2.setCell (p := ⟨w.heap.size + 1 + 1, 0, none⟩) (by simp; omega) (.slice A1 zs.length c1)
  have o2 := ownsRow_setCell_other o1 (a := ⟨w.heap.size + 1 + 1, 0, none⟩) (fun h => by have := (o1.lt _ h).1; rw [s3] at this; simp at this; omega) (.slice A1 zs.length c1)
  have hs1 := hb1.size
  rw [s3] at hs1
  clear hN hR hO hN1 hR1 hO1 b2 b3 hb hb1 hb2 o1
  go_wp2_with fail
  refine (toPipes_any B m d ps _ hm ⟨HP.out.1, HP.out.2.1, HP.out.2.2.1.next hb3, HP.out.2.2.2⟩).mono ?_
  rintro e w2 ⟨B1, d1, rfl, o3, hb4⟩
  have hb5 := bnext hb3 hb4
  have hN3 := hN2.next hb4
  have hR3 := hR2.next hb4
  have hO3 := hO2.next hb4
  have o4 := owns_below o2 hb4 (Nat.le_refl _)
  clear n0 n1 m0 m1 f0 f1 hN2 hR2 hO2
  have ⟨⟨n0, n1⟩, _⟩ := hN3
  have ⟨⟨m0, m1⟩, ⟨f0, f1⟩⟩ := hO3
  have ⟨⟨r0, r1⟩, ⟨g0, g1⟩⟩ := hR3
  go_wp2
  have hF := (((hR3.setOther (w.heap.size + 1 + 1) 1 (.slice B1 ps.length d1) (by omega)).set0 A1 zs.length c1).set1 B1 ps.length d1).1
  refine bodyPost_ret (results_net Try.results22 _ _ (w.heap.size + 1) A1 zs.length c1 B1 ps.length d1 rfl hF) rfl ⟨A1, c1, B1, d1, rfl, ?_, ?_, ?_⟩
  · exact owns_base (owns_set_low (owns_set_low (owns_set_low o4 (by simp; omega) _) (by simp; omega) _) (by simp; omega) _) (by omega)
  · exact owns6_base (owns_set_low (owns_set_low (owns_set_low o3 (by simp; omega) _) (by simp; omega) _) (by simp; omega) _) (by simp; omega)
  · exact ((hb5.setCell (p := ⟨w.heap.size + 1 + 1, 1, none⟩) (by simp; omega) _).setCell (p := ⟨w.heap.size + 1, 0, none⟩) (by simp) _).setCell (p := ⟨w.heap.size + 1, 1, none⟩) (by simp) _
theorem PipesIn.next {w w' : World} {A : Option Addr} {n : Nat} {ps : List Pp} (h : PipesIn w A n ps) (hb : Below w.heap.size w w') : PipesIn w' A n ps := ⟨h.1, h.2.1, h.2.2.1.next hb, h.2.2.2⟩
theorem NodesIn.next {w w' : World} {A : Option Addr} {n : Nat} {zs : List Int} (h : SliceIn .i64 w A n zs) (hb : Below w.heap.size w w') : SliceIn .i64 w' A n zs := ⟨h.1, h.2.1, h.2.2.1.next hb, h.2.2.2⟩
/-- a network in an argument of a law, at a world -/
def NetIn (w : World) (A : Option Addr) (n : Nat) (zs : List Int) (B : Option Addr) (m : Nat) (ps : List Pp) : Prop := SliceIn .i64 w A n zs ∧ PipesIn w B m ps
theorem NetIn.next {w w' : World} {A : Option Addr} {n : Nat} {zs : List Int} {B : Option Addr} {m : Nat} {ps : List Pp} (h : NetIn w A n zs B m ps) (hb : Below w.heap.size w w') : NetIn w' A n zs B m ps := ⟨NodesIn.next h.1 hb, h.2.next hb⟩
theorem NetIn.szN {w : World} {A : Option Addr} {n : Nat} {zs : List Int} {B : Option Addr} {m : Nat} {ps : List Pp} (h : NetIn w A n zs B m ps) (c d : Nat) (wx : World) (hb : Below w.heap.size w wx) :
    Calls Try.prog 20 #[.agg #[.slice A n c, .slice B m d], .int .i64 1048576] wx (SzN n m wx) := szNet_any A n c zs B m d ps wx (h.next hb).1 (h.next hb).2
theorem NetIn.copy {w : World} {A : Option Addr} {n : Nat} {zs : List Int} {B : Option Addr} {m : Nat} {ps : List Pp} (h : NetIn w A n zs B m ps) (c d : Nat) (wx : World) (hb : Below w.heap.size w wx) (hn : n ≤ 1048576) (hm : m ≤ 1048576) :
    Calls Try.prog 22 #[.agg #[.slice A n c, .slice B m d]] wx (RetNet zs ps wx) := toNet_any A n c zs B m d ps wx (h.next hb).1 (h.next hb).2 hn hm
/-- the two slices of a network that a call has made, at a world -/
def NetCells (w : World) (A : Option Addr) (zs : List Int) (B : Option Addr) (ps : List Pp) : Prop := CellsAt w A (intsV zs) ∧ CellsAt w B (rowsP ps)
theorem NetCells.next {w w' : World} {A : Option Addr} {zs : List Int} {B : Option Addr} {ps : List Pp} (h : NetCells w A zs B ps) (hb : Below w.heap.size w w') : NetCells w' A zs B ps := ⟨h.1.next hb, h.2.next hb⟩
theorem eqNet_same (A B A' B' : Option Addr) (c d c' d' : Nat) (zs : List Int) (ps : List Pp) (w : World) (hz : zs.length ≤ maxLen) (hp : ps.length ≤ maxLen)
    (hA : CellsAt w A (intsV zs)) (hB : CellsAt w B (rowsP ps)) (hA' : CellsAt w A' (intsV zs)) (hB' : CellsAt w B' (rowsP ps)) :
    Calls Try.prog 25 #[.agg #[.slice A zs.length c, .slice B ps.length d], .agg #[.slice A' zs.length c', .slice B' ps.length d']] w fun e w' => e = .returned (.bool true) ∧ Below w.heap.size w w' := by
  have HA := Lib.hid hA
  have HB := Lib.hid hB
  have HA' := Lib.hid hA'
  have HB' := Lib.hid hB'
  clear hA hB hA' hB'
  let W1 := w.alloc (.cells #[.slice A zs.length c, .slice B ps.length d] 38)
  let W2 := W1.alloc (.cells #[.slice A' zs.length c', .slice B' ps.length d'] 38)
  have s1 : W1.heap.size = w.heap.size + 1 := by simp [W1]
  have b2 : Below W1.heap.size W1 W2 := bal (Below.refl _ _) _
  have hb : Below w.heap.size w W2 := bal (bal (Below.refl _ _) _) _
  have hN : NetFree W2 w.heap.size A zs.length c B ps.length d := (NetFree.new w A zs.length c B ps.length d 38 _ rfl).next b2
  have hM : NetFree W2 (w.heap.size + 1) A' zs.length c' B' ps.length d' := NetFree.new W1 A' zs.length c' B' ps.length d' 38 _ s1.symm
  have ⟨⟨n0, n1⟩, _⟩ := hN
  have ⟨⟨m0, m1⟩, _⟩ := hM
  go_enter Try.func25, Try.ntmps25
  go_wp2_with fail
  refine (eqInts_same A A' c c' zs W2 hz (HA.out.next hb) (HA'.out.next hb)).mono ?_
  rintro e w1 ⟨rfl, ⟨k, rfl⟩⟩
  have hb1 : Below w.heap.size w (W2.drewN k) := below_drewN hb k
  go_wp2_with fail
  refine (eqPipes_same B B' d d' ps (W2.drewN k) hp (HB.out.next hb1) (HB'.out.next hb1)).mono ?_
  rintro e w2 ⟨rfl, hb2⟩
  go_wp2
  go_ret
  exact ⟨rfl, bnext hb1 hb2⟩

end Go.Proofs.Ytdaedgdglammhaa
