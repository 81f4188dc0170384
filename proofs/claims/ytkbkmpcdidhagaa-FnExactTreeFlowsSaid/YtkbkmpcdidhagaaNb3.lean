/-
  The legs of ways through a tree: what the program keeps of them, and the legs by which ways go on.
-/
import Derived.Test.YtkbkmpcdidhagaaNb1
import Derived.Test.YtkbkmpcdidhagaaNa2
import Derived.Test.YtkbkmpcdidhagaaZ0
import Derived.Carry
import Derived.Deep.AppendLies
import Derived.Deep.RegionHeld3
namespace Go.Proofs.Ytkbkmpcdidhagaa
open Go.ChangeShapes Go.WideShapes Go.ChangeAt Go.RowKit
set_option maxRecDepth 100000
set_option linter.unusedVariables false

/-- the index of an exit's pipe -/
def ixE (st : Int) : Nat := (absI st - 1).toNat
def noPp : Pp := ⟨.empty, 0, 0, 0, 0, 0⟩
def pipeE (ps : List Pp) (st : Int) : Pp := (ps[ixE st]?).getD noPp
/-- a leg: its exit, its pipe, the node ahead of it -/
def legCs (ps : List Pp) (st nd bef : Int) : List Value := [.int .i64 st, .int .i64 nd, .string (pipeE ps st).id, .int .i64 (pipeE ps st).f, .int .i64 (pipeE ps st).t, .int .i64 (pipeE ps st).L, .int .i64 (pipeE ps st).d, .int .i64 (pipeE ps st).s, .int .i64 bef]
def legV (ps : List Pp) (st nd bef : Int) : Value := .agg (legCs ps st nd bef).toArray
/-- the node ahead of a node -/
def befI (ps : List Pp) (Y : List Int) (x : Int) : Int := if 0 < getI Y x then (pipeE ps (getI Y x)).f else (pipeE ps (getI Y x)).t
def befS (ps : List Pp) (Y : List Int) (src x : Int) : Int := if x = src then -1 else befI ps Y x
/-- the legs by which ways go on from a node -/
def kids (ps : List Pp) (Y : List Int) (src v : Int) : List (Int × Int) := (exitsTo noneClosed ps v ps.length).filter fun e => !(e.2 == befS ps Y src v)
/-- the leg that leads to a node, the beginning of all ways, or nothing -/
noncomputable def legOf (ps : List Pp) (Y : List Int) (src : Int) (x : Int) : Value :=
  if x = -1 then .agg #[.int .i64 0, .int .i64 0, .string .empty, .int .i64 0, .int .i64 0, .int .i64 0, .int .i64 0, .int .i64 0, .int .i64 0]
  else if x = src then .agg #[.int .i64 0, .int .i64 0, .string .empty, .int .i64 0, .int .i64 0, .int .i64 0, .int .i64 0, .int .i64 0, .int .i64 (-1)]
  else legV ps (getI Y x) x (befI ps Y x)
/-- how a leg in a map is read: as the node to which it leads -/
noncomputable def legR (ps : List Pp) (Y : List Int) (src : Int) (n : Nat) (v : Value) : Option (DataW Unit × List MemPlace) :=
  open Classical in if h : ∃ x : Int, (-1 ≤ x ∧ x < n) ∧ v = legOf ps Y src x then some (.lit (.int .i64 (Classical.choose h)), []) else none
def nodeKey (x : Int) : Lit := .int .i64 x
theorem zeroLeg (w : World) (ps : List Pp) (Y : List Int) (src : Int) : (zeroValue 156).run Try.prog w = .ok (legOf ps Y src (-1)) w := by
  unfold legOf
  rw [if_pos rfl]
  kernel_rfl
theorem infoLeg : (Try.prog.info? 156).map (fun i => (i.zero, i.size, i.bytes)) = some (some (.agg #[.int .i64 0, .int .i64 0, .string .empty, .int .i64 0, .int .i64 0, .int .i64 0, .int .i64 0, .int .i64 0, .int .i64 0]), 9, 80) := by kernel_rfl
/-- every node but the first has a pipe that leads to it, from a node -/
def LegsOk (ps : List Pp) (Y : List Int) (src : Int) (n : Nat) : Prop := 0 ≤ src ∧ src < n ∧ ∀ x : Int, 0 ≤ x → x < n → x ≠ src → getI Y x ≠ 0 ∧ 0 ≤ befI ps Y x
theorem legOf_inj {ps : List Pp} {Y : List Int} {src : Int} {n : Nat} (h : LegsOk ps Y src n) {x y : Int} (hx : -1 ≤ x ∧ x < n) (hy : -1 ≤ y ∧ y < n) (e : legOf ps Y src x = legOf ps Y src y) : x = y := by
  have hs := h.1
  unfold legOf legV legCs at e
  by_cases x1 : x = -1
  · rw [if_pos x1] at e
    by_cases y1 : y = -1
    · omega
    · rw [if_neg y1] at e
      by_cases ys : y = src
      · rw [if_pos ys] at e
        simp at e
      · rw [if_neg ys] at e
        have := (h.2.2 y (by omega) hy.2 ys).1
        simp at e
        omega
  · rw [if_neg x1] at e
    by_cases xs : x = src
    · rw [if_pos xs] at e
      by_cases y1 : y = -1
      · rw [if_pos y1] at e
        simp at e
      · rw [if_neg y1] at e
        by_cases ys : y = src
        · omega
        · rw [if_neg ys] at e
          have := (h.2.2 y (by omega) hy.2 ys).2
          simp at e
          omega
    · rw [if_neg xs] at e
      have hh := h.2.2 x (by omega) hx.2 xs
      by_cases y1 : y = -1
      · rw [if_pos y1] at e
        simp at e
        omega
      · rw [if_neg y1] at e
        by_cases ys : y = src
        · rw [if_pos ys] at e
          simp at e
          omega
        · rw [if_neg ys] at e
          simp at e
          omega
theorem legR_of {ps : List Pp} {Y : List Int} {src : Int} {n : Nat} (h : LegsOk ps Y src n) {x : Int} (hx : -1 ≤ x ∧ x < n) : legR ps Y src n (legOf ps Y src x) = some (.lit (.int .i64 x), []) := by
  unfold legR
  have hex : ∃ y : Int, (-1 ≤ y ∧ y < n) ∧ legOf ps Y src x = legOf ps Y src y := ⟨x, hx, rfl⟩
  rw [dif_pos hex]
  have := Classical.choose_spec hex
  rw [← legOf_inj h hx this.1 this.2]
theorem legR_inv {ps : List Pp} {Y : List Int} {src : Int} {n : Nat} {v : Value} {r : DataW Unit × List MemPlace} (e : legR ps Y src n v = some r) : ∃ x : Int, (-1 ≤ x ∧ x < n) ∧ v = legOf ps Y src x ∧ r = (.lit (.int .i64 x), []) := by
  unfold legR at e
  split at e
  · rename_i hex
    have := Classical.choose_spec hex
    exact ⟨_, this.1, this.2, (Option.some.inj e).symm⟩
  · cases e
/-- what a map of legs holds of some nodes -/
def MapOk (D : DataW Unit) (M : Int → Prop) : Prop := Maps.IsMap D ∧ ∀ x, M x → D.atKey (nodeKey x) (.lit (.int .i64 (-1))) = .lit (.int .i64 x)
theorem MapOk.zero : MapOk (.map []) (fun _ => False) := ⟨Maps.isMap_empty, fun x h => h.elim⟩
theorem nodeKey_inj {x y : Int} (h : x ≠ y) : nodeKey x ≠ nodeKey y := fun e => h (by unfold nodeKey at e; injection e)
theorem MapOk.put {D : DataW Unit} {M : Int → Prop} (h : MapOk D M) (y : Int) : MapOk (D.put (nodeKey y) (.lit (.int .i64 y))) (fun x => x = y ∨ M x) := by
  refine ⟨h.1.put _ _, fun x hx => ?_⟩
  by_cases e : x = y
  · subst e
    exact Maps.atKey_put_same h.1 (by trivial) _ _
  · rw [Maps.atKey_put_other (nodeKey_inj e)]
    exact h.2 x (hx.resolve_left e)
theorem ownsMap_below {P : Program} {k : TypeId} {R : Value → Option (DataW Unit × List MemPlace)} {w w' : World} {b n : Nat} {D : DataW Unit} (h : w.ownsMap P k R b n D) (hb : Below w.heap.size w w') : w'.ownsMap P k R b n D := by
  have hlt := h.lt
  obtain ⟨es, clock, h0, F, hs, hD⟩ := h
  exact ⟨es, clock, (hb.block b hlt).trans h0, F, hs, hD⟩
/-- 'm[k]' of a map of legs -/
theorem wpList_look_leg {P : Program} {w : World} {ops : Array Oper} {rest : List Oper} {o : Oper} {a : Act} {Q : Exit → Act → World → Prop} (hg : o.guard = none) (m x : Operand) (t : TypeId) (hop : o.op = Op.lookup t m x false)
    (k e : TypeId) (K : Maps.Keyed P k) (ht : P.underlying t = some (.map k e)) (R : Value → Option (DataW Unit × List MemPlace)) {z : Value} (hz : (zeroValue e).run P w = .ok z w) (zd : DataW Unit) (zp : List MemPlace) (hzd : R z = some (zd, zp)) (b n : Nat) (D : DataW Unit)
    (hm : a.eval m = .map (some b)) (hown : w.ownsMap P k R b n D) (key : Value) (kl : Lit) (hx : a.eval x = key) (hkey : keyOf P k key = some kl)
    (hK : ∀ v ps, R v = some (D.atKey kl zd, ps) → wpList P ops Q rest (a.put o.dst v) w) : wpList P ops Q (o :: rest) a w := by
  refine wpList_plain hg fun K' hK' => ?_
  obtain ⟨v, ps, hrun, hv⟩ := hown.lookup K ht hz hzd hkey
  unfold Oper.wp
  simp [execOp, hop, hm, hx, hrun, Result.andThen]
  exact hK' _ _ (hK v ps hv)
theorem keyI64 {x : Int} (h : -9223372036854775808 ≤ x ∧ x ≤ 9223372036854775807) : keyOf Try.prog 2 (.int .i64 x) = some (nodeKey x) := Maps.keyOf_int_mk Try.underlying2 (WalkArith.wf_i64 (by omega))
def rowsL (ps : List Pp) (v : Int) (l : List (Int × Int)) : List Value := l.flatMap fun e => legCs ps e.1 e.2 v
theorem rowsL_snoc (ps : List Pp) (v : Int) (l : List (Int × Int)) (e : Int × Int) : rowsL ps v (l ++ [e]) = rowsL ps v l ++ legCs ps e.1 e.2 v := by
  unfold rowsL; rw [List.flatMap_append]; simp
theorem rowsL_length (ps : List Pp) (v : Int) (l : List (Int × Int)) : (rowsL ps v l).length = l.length * 9 := by
  induction l with
  | nil => rfl
  | cons e r ih => unfold rowsL at *; rw [List.flatMap_cons, List.length_append, ih, List.length_cons]; simp [legCs]; omega
theorem owns_form9 {w : World} {base : Nat} {E : TypeId} {s : Nat} {v : Value} {n : Nat} {vs : List Value} (h : w.ownsRow base E s v n vs) : ∃ A c, v = .slice A n c := owns_form2 h
/-- a call that returns a new slice of legs -/
def RetLegs (ps : List Pp) (v : Int) (l : List (Int × Int)) (w : World) (e : Ending) (w' : World) : Prop :=
  ∃ A c, e = .returned (.slice A l.length c) ∧ w'.ownsRow w.heap.size 156 9 (.slice A l.length c) l.length (rowsL ps v l) ∧ Below w.heap.size w w'
/-- a stream in memory: a box of four cells -/
def StreamAt (w : World) (b gb mb : Nat) (src : Int) (F : Option Addr) (fl fc : Nat) : Prop :=
  w.cell? ⟨b, 0, none⟩ = some (.pointer (some ⟨gb, 0, none⟩)) ∧ w.cell? ⟨b, 1, none⟩ = some (.int .i64 src) ∧ w.cell? ⟨b, 2, none⟩ = some (.slice F fl fc) ∧ w.cell? ⟨b, 3, none⟩ = some (.map (some mb))
theorem StreamAt.keep {w w' : World} {b gb mb : Nat} {src : Int} {F : Option Addr} {fl fc : Nat} (h : StreamAt w b gb mb src F fl fc) (k : w'.heap[b]? = w.heap[b]?) : StreamAt w' b gb mb src F fl fc :=
  ⟨(World.cell?_of_block (a := ⟨b, 0, none⟩) k).trans h.1, (World.cell?_of_block (a := ⟨b, 1, none⟩) k).trans h.2.1, (World.cell?_of_block (a := ⟨b, 2, none⟩) k).trans h.2.2.1, (World.cell?_of_block (a := ⟨b, 3, none⟩) k).trans h.2.2.2⟩
theorem StreamAt.next {w w' : World} {b gb mb : Nat} {src : Int} {F : Option Addr} {fl fc : Nat} (h : StreamAt w b gb mb src F fl fc) (hb : Below w.heap.size w w') : StreamAt w' b gb mb src F fl fc :=
  h.keep (hb.block _ (World.block_lt_of_cell? _ _ h.1))
theorem StreamAt.new (w : World) (gb mb : Nat) (src : Int) (F : Option Addr) (fl fc : Nat) (T : TypeId) : StreamAt (w.alloc (.cells #[.pointer (some ⟨gb, 0, none⟩), .int .i64 src, .slice F fl fc, .map (some mb)] T)) w.heap.size gb mb src F fl fc := by
  have hh := heap_alloc_new w (.cells #[.pointer (some ⟨gb, 0, none⟩), .int .i64 src, .slice F fl fc, .map (some mb)] T)
  exact ⟨(cell_of_row _ w.heap.size 0 _ _ _ hh).trans rfl, (cell_of_row _ w.heap.size 1 _ _ _ hh).trans rfl, (cell_of_row _ w.heap.size 2 _ _ _ hh).trans rfl, (cell_of_row _ w.heap.size 3 _ _ _ hh).trans rfl⟩
theorem befS_of (ps : List Pp) (Y : List Int) (src v : Int) (hv : 0 ≤ v) : ∃ b : Int, b = befS ps Y src v ∧ ∃ x0 x1 x2 x3 x4 x5 x6 x7, legOf ps Y src v = .agg #[x0, x1, x2, x3, x4, x5, x6, x7, .int .i64 b] := by
  refine ⟨_, rfl, ?_⟩
  unfold befS legOf
  rw [if_neg (by omega)]
  by_cases h : v = src
  · rw [if_pos h, if_pos h]
    exact ⟨_, _, _, _, _, _, _, _, rfl⟩
  · rw [if_neg h, if_neg h]
    exact ⟨_, _, _, _, _, _, _, _, rfl⟩
theorem ixE_cast {st : Int} (h0 : st ≠ 0) : ((ixE st : Nat) : Int) = absI st - 1 := by
  have : 1 ≤ absI st := by unfold absI; split <;> omega
  unfold ixE
  omega
theorem ixE_in {ps : List Pp} {st : Int} (h0 : st ≠ 0) (h1 : absI st ≤ ps.length) : ∃ p, ps[ixE st]? = some p ∧ pipeE ps st = p := by
  have : ixE st < ps.length := by have := ixE_cast h0; omega
  refine ⟨ps[ixE st], List.getElem?_eq_getElem this, ?_⟩
  unfold pipeE
  rw [List.getElem?_eq_getElem this]; rfl
theorem far_low {w w' : World} {base : Nat} {E : TypeId} {s : Nat} {T : Option Addr} {L td : Nat} {vs : List Value} {q o : Nat} {v : Value} (hro : w.ownsRow base E s (.slice T L td) L vs) (hg : w.grownBy w' (Value.slice T L td).ownBlock) (hq : q < base) (h : w.cell? ⟨q, o, none⟩ = some v) : w'.cell? ⟨q, o, none⟩ = some v :=
  (hg.cell_far ⟨q, o, none⟩ (World.block_lt_of_cell? _ _ h) (fun e => by have := (hro.lt q e.symm).1; omega)).trans h
theorem far_high {w0 w w' : World} {base : Nat} {E : TypeId} {s : Nat} {T : Option Addr} {L td : Nat} {vs : List Value} {q o : Nat} {v : Value} (hro : w0.ownsRow base E s (.slice T L td) L vs) (hg : w.grownBy w' (Value.slice T L td).ownBlock) (hq : w0.heap.size ≤ q) (h : w.cell? ⟨q, o, none⟩ = some v) : w'.cell? ⟨q, o, none⟩ = some v :=
  (hg.cell_far ⟨q, o, none⟩ (World.block_lt_of_cell? _ _ h) (fun e => by have := (hro.lt q e.symm).2; omega)).trans h
theorem owns_base' {w : World} {base base' : Nat} {E : TypeId} {s : Nat} {v : Value} {n : Nat} {vs : List Value} (h : w.ownsRow base E s v n vs) (hb : base' ≤ base) : w.ownsRow base' E s v n vs := by
  refine ⟨h.1, ?_⟩
  rcases h.2 with h2 | ⟨g, cap, cur, hv, hg0, h3⟩
  · exact .inl h2
  · exact .inr ⟨g, cap, cur, hv, by omega, h3⟩
theorem legBef (x0 x1 x2 x3 x4 x5 x6 x7 y : Value) (w : World) : (Instr.field 156 (.agg #[x0, x1, x2, x3, x4, x5, x6, x7, y]) 2).run Try.prog w = .ok y w := by rfl
set_option maxHeartbeats 2000000 in
theorem children_any (gb mb mn : Nat) (F : Option Addr) (fl fc : Nat) (src v : Int) (A B : Option Addr) (n c d : Nat) (ps : List Pp) (Y : List Int) (D : DataW Unit) (M : Int → Prop) (w : World) (hG : GridAt w gb A n c B ps.length d noneClosed) (hB : CellsAt w B (rowsP ps)) (hm : ps.length ≤ 20) (hL : LegsOk ps Y src n) (hn : n ≤ 16) (hD : MapOk D M) (hv : M v) (v0 : 0 ≤ v) (v1 : v < n) (ho : w.ownsMap Try.prog 2 (legR ps Y src n) mb mn D) :
    Calls Try.prog 126 #[.agg #[.pointer (some ⟨gb, 0, none⟩), .int .i64 src, .slice F fl fc, .map (some mb)], .int .i64 v] w (RetLegs ps v (kids ps Y src v) w) := by
  obtain ⟨i0, hi, hz0, hz1, hz2⟩ := info_parts infoLeg
  have hb : Below w.heap.size w (w.alloc (.cells #[.pointer (some ⟨gb, 0, none⟩), .int .i64 src, .slice F fl fc, .map (some mb)] 86)) := bal (Below.refl _ _) _
  have hS := StreamAt.new w gb mb src F fl fc 86
  have HG := Lib.hid hG
  have HB := Lib.hid hB
  have HO := Lib.hid ho
  have hat := hD.2 v hv
  have hkey : keyOf Try.prog 2 (.int .i64 v) = some (nodeKey v) := keyI64 (by omega)
  clear hG hB ho hD hv
  have ⟨s0, s1, s2, s3⟩ := hS
  go_enter Try.func126, Try.ntmps126
  go_wp2_with fail
  refine (exits_any A n c B ps.length d gb ps noneClosed v _ rfl hm (HG.out.next hb) (HB.out.next hb)).mono ?_
  rintro e w5 ⟨E, ec, rfl, oE, hb5⟩
  have hS := hS.next hb5
  have hb := bnext hb hb5
  have hbd := exits_bd noneClosed ps v ps.length
  have hin := exits_in (ps := ps) (node := v) ps.length (Nat.le_refl _)
  have hls := exitsTo_short noneClosed ps v ps.length
  have hE : CellsAt w5 E (rowsE (exitsTo noneClosed ps v ps.length)) := by
    intro hp
    rcases oE.2 with ⟨hv, hn'⟩ | ⟨g, cap, cur, hv, _, hg, _⟩
    · rw [rowsE_length] at hp; omega
    · injection hv with hA
      subst hA
      exact ⟨g, 0, rfl, fun j hj => by rw [Nat.zero_add]; exact oE.cellAt j (by rw [rowsE_length] at hj; exact hj)⟩
  have hk : kids ps Y src v = (exitsTo noneClosed ps v ps.length).filter fun e => !(e.2 == befS ps Y src v) := rfl
  have hin : ∀ e ∈ exitsTo noneClosed ps v ps.length, e.1 ≠ 0 ∧ absI e.1 ≤ ps.length := hin
  obtain ⟨bf, hbf, x0, x1, x2, x3, x4, x5, x6, x7, hleg⟩ := befS_of ps Y src v v0
  rw [← hbf] at hk
  generalize exitsTo noneClosed ps v ps.length = X at *
  have HE := Lib.hid hE
  have HBD := Lib.hid hbd
  have HIN := Lib.hid hin
  have HKK := Lib.hid hk
  have HBW := Lib.hid hb
  have HAT := Lib.hid hat
  have HLEG := Lib.hid hleg
  have HLL := Lib.hid hL
  have hs5 : w.heap.size + 1 ≤ w5.heap.size := by have := hb5.size; simp at this; exact this
  clear s0 s1 s2 s3 hE hbd hin hk hbf oE hb5 hb hat hleg hL
  have HS := Lib.hid hS
  clear hS
  go_wp2_with fail
  go_loopw [4, 12] (fun vv i wr => ∃ (k : Nat) (T : Option Addr) (L td : Nat), k ≤ X.length ∧ i = .int .i64 k ∧ vv = .slice T L td ∧ Hid (L = ((X.take k).filter fun e => !(e.2 == bf)).length) ∧ wr.ownsRow w5.heap.size 156 9 (.slice T L td) L (rowsL ps v ((X.take k).filter fun e => !(e.2 == bf))) ∧ Below w5.heap.size w5 wr) (fun _ i _ => X.length - (intOf i).toNat)
  case atStart => exact ⟨0, none, 0, 0, Nat.zero_le _, rfl, rfl, Lib.hid rfl, World.ownsRow_nil _ _ _ _, Below.refl _ _⟩
  case round =>
    obtain ⟨k, T, L, td, hk, rfl, rfl, HLN, hro, hb5⟩ := hrel
    have hbw := bnext HBW.out hb5
    by_cases hlt : k < X.length
    · obtain ⟨b, o, rfl, h1⟩ := HE.out (by rw [rowsE_length]; omega)
      have hx := List.getElem?_eq_getElem hlt
      have hat := rowsE_at X k _ hx
      have hbl : b < w5.heap.size := CellsAt.lies HE.out (by rw [rowsE_length]; omega)
      have g1 : wr.cell? ⟨b, o + k * 2, none⟩ = some (.int .i64 X[k].1) := by
        rw [hb5.cell (p := ⟨b, o + k * 2, none⟩) hbl, h1 (k * 2) (by rw [rowsE_length]; omega)]; exact hat.1
      have g2 : wr.cell? ⟨b, o + k * 2 + 1, none⟩ = some (.int .i64 X[k].2) := by
        rw [hb5.cell (p := ⟨b, o + k * 2 + 1, none⟩) hbl, Nat.add_assoc, h1 (k * 2 + 1) (by rw [rowsE_length]; omega)]; exact hat.2
      have hmem := List.getElem_mem hlt
      have hbe := HBD.out _ hmem
      have hie := HIN.out _ hmem
      have htk : X.take (k + 1) = X.take k ++ [X[k]] := List.take_succ_eq_append_getElem hlt
      have HTK := Lib.hid htk
      obtain ⟨p, hp, hpe⟩ := ixE_in hie.1 hie.2
      have HPE := Lib.hid hpe
      generalize hE1 : X[k] = ee at *
      obtain ⟨st, nd⟩ := ee
      clear hx hat h1 hmem htk hpe hE1
      simp only at *
      have ⟨s0, s1, s2, s3⟩ := HS.out.next hb5
      have hal := bal (Below.refl wr.heap.size wr) (.cells #[.int .i64 st, .int .i64 nd] 154)
      have hX := ExAt.new wr st nd 154
      have ⟨y0, y1⟩ := hX
      have hS1 := (HS.out.next hb5).next hal
      have ⟨t0, t1, t2, t3⟩ := hS1
      have ho1 := ownsMap_below (ownsMap_below (ownsMap_below HO.out HBW.out) hb5) hal
      have hfl := legBef x0 x1 x2 x3 x4 x5 x6 x7 (.int .i64 bf) (wr.alloc (.cells #[.int .i64 st, .int .i64 nd] 154))
      by_cases hne : nd = bf
      · have hne1 : (nd != bf) = false := by simpa using hne
        have HF := Lib.hid (show ((X.take (k + 1)).filter fun e => !(e.2 == bf)) = ((X.take k).filter fun e => !(e.2 == bf)) by rw [HTK.out, List.filter_append]; simp [hne])
        clear hne
        go_wp2_with (first
          | (at_lookup; go_must (refine wpList_look_leg rfl _ _ 84 rfl 2 156 (Maps.int_keyed Try.underlying2) Try.underlying84 (legR ps Y src n) (zeroLeg _ ps Y src) (.lit (.int .i64 (-1))) [] (legR_of HLL.out (by omega)) mb mn D rfl ho1 _ _ rfl hkey ?_; intro lv lp hlv; rw [HAT.out] at hlv; (obtain ⟨x, hx, rfl, hxe⟩ := legR_inv hlv); (obtain rfl : v = x := (by have h2 := congrArg Prod.fst hxe; simpa using h2)); rw [HLEG.out]; clear hlv hxe hx))
          | go_in)
        go_roundw
        case rel => exact ⟨k + 1, T, L, td, by omega, by go_num, rfl, Lib.hid (by rw [HF.out]; exact HLN.out), by rw [HF.out]; exact hro.kept (World.grownBy_alloc wr _ none) (by cases T <;> simp [Value.ownBlock]), bal hb5 _⟩
        case measure => simp [intOf]; omega
      · have hne1 : (nd != bf) = true := by simpa using hne
        have HF := Lib.hid (show ((X.take (k + 1)).filter fun e => !(e.2 == bf)) = ((X.take k).filter fun e => !(e.2 == bf)) ++ [(st, nd)] by rw [HTK.out, List.filter_append]; simp [hne])
        clear hne
        go_wp2_with (first
          | (at_lookup; go_must (refine wpList_look_leg rfl _ _ 84 rfl 2 156 (Maps.int_keyed Try.underlying2) Try.underlying84 (legR ps Y src n) (zeroLeg _ ps Y src) (.lit (.int .i64 (-1))) [] (legR_of HLL.out (by omega)) mb mn D rfl ho1 _ _ rfl hkey ?_; intro lv lp hlv; rw [HAT.out] at hlv; (obtain ⟨x, hx, rfl, hxe⟩ := legR_inv hlv); (obtain rfl : v = x := (by have h2 := congrArg Prod.fst hxe; simpa using h2)); rw [HLEG.out]; clear hlv hxe hx))
          | go_in)
        clear hfl ho1 t0 t1 t2 t3 y0 y1 s0 s1 s2 s3 g1 g2
        obtain ⟨pb, po, hBe, hrow⟩ := pipe_at (HB.out.next (bnext hbw hal)) (by omega)
        have hpl : ixE st < ps.length := (List.getElem?_eq_some_iff.1 hp).1
        subst hBe
        have hbn := bnext hbw hal
        have hpo := hrow (ixE st) p hp
        have hG1 := HG.out.next hbn
        have hk := ixE_cast hie.1
        have HI := Lib.hid (fun wx => exIndex_any st nd wx (by omega) (by omega))
        rw [← hk] at HI
        have HRO := Lib.hid hro
        have hro1 := hro.kept (World.grownBy_alloc wr (.cells #[.int .i64 st, .int .i64 nd] 154) none) (by cases T <;> simp [Value.ownBlock])
        have hXw : ExAt (wr.alloc (.cells #[.int .i64 st, .int .i64 nd] 154)).drew wr.heap.size st nd := hX
        have hSw : StreamAt (wr.alloc (.cells #[.int .i64 st, .int .i64 nd] 154)).drew w.heap.size gb mb src F fl fc := hS1
        have hGw : GridAt (wr.alloc (.cells #[.int .i64 st, .int .i64 nd] 154)).drew gb A n c (some ⟨pb, po, none⟩) ps.length d noneClosed := hG1
        have hPw : PipeO (wr.alloc (.cells #[.int .i64 st, .int .i64 nd] 154)).drew pb (po + ixE st * 6) p := hpo
        have hrow1 : (wr.alloc (.cells #[.int .i64 st, .int .i64 nd] 154)).drew.ownsRow w5.heap.size 156 9 (.slice T L td) L (rowsL ps v ((X.take k).filter fun e => !(e.2 == bf))) := hro1
        have hb5w : Below w5.heap.size w5 (wr.alloc (.cells #[.int .i64 st, .int .i64 nd] 154)).drew := below_drewN (bal hb5 _) 1
        have hszw : wr.heap.size + 1 ≤ (wr.alloc (.cells #[.int .i64 st, .int .i64 nd] 154)).drew.heap.size := by simp
        clear hX hS1 hG1 hpo hro1 hro hrow hal hbn hk hb5 hbw
        have hgb : gb < w5.heap.size := by have := HG.out.1.lies; omega
        have hpb : pb < w5.heap.size := by have := CellsAt.lies HB.out (by rw [rowsP_length]; omega); omega
        have hL20 : L ≤ 20 := by have h1 := HLN.out; have h2 := List.length_filter_le (fun e : Int × Int => !(e.2 == bf)) (X.take k); rw [List.length_take] at h2; omega
        generalize ixE st = ix at *
        have ⟨y0, y1⟩ := hXw
        have ⟨s0, s1, s2, s3⟩ := hSw
        have ⟨⟨m0, m1⟩, _⟩ := hGw
        have ⟨p0, p1, p2, p3, p4, p5⟩ := hPw
        clear s1 s2 s3 m0
        go_region_held3 (fun w' => w'.cell? ⟨wr.heap.size, 0, none⟩ = some (.int .i64 st) ∧ w'.cell? ⟨wr.heap.size, 1, none⟩ = some (.int .i64 nd) ∧ w'.cell? ⟨w.heap.size, 0, none⟩ = some (.pointer (some ⟨gb, 0, none⟩)) ∧ w'.cell? ⟨gb, 1, none⟩ = some (.slice (some ⟨pb, po, none⟩) ps.length d) ∧ w'.cell? ⟨pb, po + ix * 6, none⟩ = some (.string p.id) ∧ w'.cell? ⟨pb, po + ix * 6 + 1, none⟩ = some (.int .i64 p.f) ∧ w'.cell? ⟨pb, po + ix * 6 + 2, none⟩ = some (.int .i64 p.t) ∧ w'.cell? ⟨pb, po + ix * 6 + 3, none⟩ = some (.int .i64 p.L) ∧ w'.cell? ⟨pb, po + ix * 6 + 4, none⟩ = some (.int .i64 p.d) ∧ w'.cell? ⟨pb, po + ix * 6 + 5, none⟩ = some (.int .i64 p.s)) (first | exact ⟨y0, y1, s0, m1, p0, p1, p2, p3, p4, p5⟩ | exact ⟨cellNext y0 (bal (Below.refl _ _) _), cellNext y1 (bal (Below.refl _ _) _), cellNext s0 (bal (Below.refl _ _) _), cellNext m1 (bal (Below.refl _ _) _), cellNext p0 (bal (Below.refl _ _) _), cellNext p1 (bal (Below.refl _ _) _), cellNext p2 (bal (Below.refl _ _) _), cellNext p3 (bal (Below.refl _ _) _), cellNext p4 (bal (Below.refl _ _) _), cellNext p5 (bal (Below.refl _ _) _)⟩)
          (first
            | (go_at_call 128; go_must (refine (HI.out _).mono ?_; rintro e w1 ⟨rfl, hb1⟩; have hXw := hXw.next hb1; have hSw := hSw.next hb1; have hGw := hGw.next hb1; have hPw := hPw.next hb1; have hrow1 := hrow1.kept (w' := w1) (row := none) ⟨hb1.os, hb1.tape, hb1.output, hb1.size, fun k hk _ => hb1.block k hk⟩ (by cases T <;> simp [Value.ownBlock]); have hb5w := bnext hb5w hb1; have hszw := Nat.le_trans hszw hb1.size; have ⟨y0, y1⟩ := hXw; have ⟨s0, s1, s2, s3⟩ := hSw; have ⟨⟨m0, m1⟩, _⟩ := hGw; have ⟨p0, p1, p2, p3, p4, p5⟩ := hPw))
            | (have hrow2 := hrow1.kept (World.grownBy_alloc w1 (.cells #[.int .i64 st, .int .i64 nd, .string p.id, .int .i64 p.f, .int .i64 p.t, .int .i64 p.L, .int .i64 p.d, .int .i64 p.s, .int .i64 v] 156) none) (by cases T <;> simp [Value.ownBlock]); refine step_append_lies _ (by rfl) _ _ _ (by rfl) w5.heap.size 156 i0 (.agg #[.int .i64 0, .int .i64 0, .string .empty, .int .i64 0, .int .i64 0, .int .i64 0, .int .i64 0, .int .i64 0, .int .i64 0]) 9 80 Try.underlying158 hi hz0 hz1 hz2 (by rfl) (by decide) (.slice T L td) L _ (by rfl) hrow2 ⟨w1.heap.size, 0, none⟩ 1 1 [.int .i64 st, .int .i64 nd, .string p.id, .int .i64 p.f, .int .i64 p.t, .int .i64 p.L, .int .i64 p.d, .int .i64 p.s, .int .i64 v] (by rfl) (by rfl) (World.news_of_block (heap_alloc_new w1 (.cells #[.int .i64 st, .int .i64 nd, .string p.id, .int .i64 p.f, .int .i64 p.t, .int .i64 p.L, .int .i64 p.d, .int .i64 p.s, .int .i64 v] 156))) (by simp [Value.oneCell']) (by omega) (by unfold maxLen; omega) (by omega) (by have := hb5w.size; simp; omega) (w1.heap.size + 1) (by simp) ?_; intro g4 cap4 w4 hown4 hgrow4 hat4 hlt4; have y0 := far_high HRO.out hgrow4 (Nat.le_refl _) (cellNext y0 (bal (Below.refl _ _) _)); have y1 := far_high HRO.out hgrow4 (Nat.le_refl _) (cellNext y1 (bal (Below.refl _ _) _)); have s0 := far_low hrow2 hgrow4 (by omega) (cellNext s0 (bal (Below.refl _ _) _)); have m1 := far_low hrow2 hgrow4 hgb (cellNext m1 (bal (Below.refl _ _) _)); have p0 := far_low hrow2 hgrow4 hpb (cellNext p0 (bal (Below.refl _ _) _)); have p1 := far_low hrow2 hgrow4 hpb (cellNext p1 (bal (Below.refl _ _) _)); have p2 := far_low hrow2 hgrow4 hpb (cellNext p2 (bal (Below.refl _ _) _)); have p3 := far_low hrow2 hgrow4 hpb (cellNext p3 (bal (Below.refl _ _) _)); have p4 := far_low hrow2 hgrow4 hpb (cellNext p4 (bal (Below.refl _ _) _)); have p5 := far_low hrow2 hgrow4 hpb (cellNext p5 (bal (Below.refl _ _) _))))
        have hb4 : Below w5.heap.size w5 w4 := (bal hb5w _).grown hgrow4 (Nat.le_trans hb5w.size (by simp)) (fun q hq => (hrow2.lt q hq).1)
        go_wp2
        go_roundw
        case rel => exact ⟨k + 1, some ⟨g4, 0, none⟩, L + 1, cap4, by omega, by go_num, rfl, Lib.hid (by rw [HF.out, List.length_append, List.length_singleton, ← HLN.out]), by rw [HF.out, rowsL_snoc]; unfold legCs; rw [HPE.out]; exact hown4, hb4⟩
        case measure => simp [intOf]; omega
    · obtain rfl : k = X.length := by omega
      rw [List.take_length] at hro HLN
      have hl := HLN.out
      subst hl
      go_wp2
      go_ret
      unfold RetLegs
      rw [HKK.out]
      exact ⟨T, td, rfl, owns_base' (base := w5.heap.size) (base' := w.heap.size) hro (by omega), hbw⟩
end Go.Proofs.Ytkbkmpcdidhagaa
