import Derived.Test.YtkbkmpcdidhagaaNb4
import Derived.Test.YtkbkmpcdidhagaaW3
import Derived.Test.YtkbkmpcdidhagaaP3
import Derived.Test.YtkbkmpcdidhagaaNb1
import Derived.Test.YtkbkmpcdidhagaaNa1
import Derived.Deep.AppendLies
import Derived.Test.YtkbkmpcdidhagaaZ0
import Derived.Test.YtkbkmpcdidhagaaM2
import Derived.Test.YtkbkmpcdidhagaaH6
import Derived.Test.YtkbkmpcdidhagaaNb5
import Derived.Test.YtkbkmpcdidhagaaNc0
import Derived.Deep.RegionHeld3
import Derived.Deep.DeepCutAuto
import Derived.Deep.OwnRows
import Derived.Test.YtkbkmpcdidhagaaGs
import Derived.Test.YtkbkmpcdidhagaaH0
import Derived.Lib.SmallJoins
import Derived.Deep.Slices
import Derived.Deep.Fields
import Derived.ShutString
import Derived.Carry
import Derived.Test.YtkbkmpcdidhagaaI0
import Derived.Test.YtkbkmpcdidhagaaG0
import Derived.ChangeOld
/-
  Sums over what lies beyond a node of a tree, as they come when the nodes are taken from the last one on.
-/
namespace Go.Proofs.Ytkbkmpcdidhagaa
set_option maxRecDepth 100000
set_option linter.unusedVariables false

/-- the k-th node from the end -/
def lastO (O : List Int) (k : Nat) : Int := O.getD (O.length - 1 - k) 0
/-- what a node needs when the last k nodes have handed on theirs -/
def sumG (ps : List Pp) (O Y q : List Int) : Nat → Int → Int
  | 0, x => getI q x
  | k + 1, x => if befI ps Y (lastO O k) = x then sumG ps O Y q k x + sumG ps O Y q k (lastO O k) else sumG ps O Y q k x
def sumF (ps : List Pp) (O Y q : List Int) (x : Int) : Int := sumG ps O Y q (O.length - 1) x
theorem sumG_at (ps : List Pp) (O Y q : List Int) (k : Nat) (x : Int) : sumG ps O Y q (k + 1) x = if befI ps Y (lastO O k) = x then sumG ps O Y q k x + sumG ps O Y q k (lastO O k) else sumG ps O Y q k x := rfl
theorem sumG_bd {ps : List Pp} {O Y q : List Int} (h : ∀ x, 0 ≤ getI q x ∧ getI q x ≤ 100000) : ∀ (k : Nat) (x : Int), 0 ≤ sumG ps O Y q k x ∧ sumG ps O Y q k x ≤ 100000 * 2 ^ k
  | 0, x => by have := h x; unfold sumG; omega
  | k + 1, x => by
    have h1 := sumG_bd (ps := ps) (O := O) (Y := Y) h k x
    have h2 := sumG_bd (ps := ps) (O := O) (Y := Y) h k (lastO O k)
    rw [sumG_at]
    have e : (100000 : Int) * 2 ^ (k + 1) = 100000 * 2 ^ k + 100000 * 2 ^ k := by rw [Int.pow_succ]; omega
    rw [e]
    split <;> omega
theorem Rooted.last {ps : List Pp} {n : Nat} {src : Int} {O Y : List Int} (R : Rooted ps n src O Y) (hj : Joins n ps) {k : Nat} (hk : k + 1 < O.length) :
    O[O.length - 1 - k]? = some (lastO O k) ∧ pos O (lastO O k) = O.length - 1 - k ∧ lastO O k ≠ src ∧ (0 ≤ lastO O k ∧ lastO O k < n) ∧ pos O (befI ps Y (lastO O k)) < O.length - 1 - k ∧ (0 ≤ befI ps Y (lastO O k) ∧ befI ps Y (lastO O k) < n) := by
  have h1 : O[O.length - 1 - k]? = some (lastO O k) := by
    unfold lastO
    rw [List.getD_eq_getElem?_getD, List.getElem?_eq_getElem (by omega)]; rfl
  have h2 := pos_of R.ok.nodup h1
  have h3 : lastO O k ≠ src := by
    intro e
    rw [e, pos_of R.ok.nodup R.ok.src] at h2
    omega
  have h4 := R.ok.rng _ (List.mem_of_getElem? h1)
  obtain ⟨p, _, _, _, h5, h6, h7⟩ := R.lead hj h4.1 h4.2 h3
  exact ⟨h1, h2, h3, h4, by rw [h2] at h5; exact h5, h6, h7⟩
/-- a node's sum stays when the nodes from it on have been taken -/
theorem Rooted.stay {ps : List Pp} {n : Nat} {src : Int} {O Y : List Int} (R : Rooted ps n src O Y) (hj : Joins n ps) (q : List Int) {x : Int} (hx : x ∈ O) : ∀ (d : Nat), O.length - 1 - pos O x + d ≤ O.length - 1 → sumG ps O Y q (O.length - 1 - pos O x + d) x = sumG ps O Y q (O.length - 1 - pos O x) x
  | 0, _ => rfl
  | d + 1, h => by
    have hp := pos_lt hx
    rw [show O.length - 1 - pos O x + (d + 1) = (O.length - 1 - pos O x + d) + 1 by omega, sumG_at]
    obtain ⟨_, _, _, _, h5, _⟩ := R.last hj (k := O.length - 1 - pos O x + d) (by omega)
    rw [if_neg (fun e => by rw [e] at h5; omega)]
    exact R.stay hj q hx d (by omega)
theorem Rooted.sumF_at {ps : List Pp} {n : Nat} {src : Int} {O Y : List Int} (R : Rooted ps n src O Y) (hj : Joins n ps) (q : List Int) {k : Nat} (hk : k + 1 < O.length) : sumG ps O Y q k (lastO O k) = sumF ps O Y q (lastO O k) := by
  obtain ⟨h1, h2, _⟩ := R.last hj hk
  have hm := List.mem_of_getElem? h1
  have := R.stay hj q hm (pos O (lastO O k)) (by have := pos_lt hm; omega)
  unfold sumF
  rw [h2] at this
  rw [show O.length - 1 - (O.length - 1 - k) + (O.length - 1 - k) = O.length - 1 by omega, show O.length - 1 - (O.length - 1 - k) = k by omega] at this
  exact this.symm
theorem Rooted.sumG_eq {ps : List Pp} {n : Nat} {src : Int} {O Y : List Int} (R : Rooted ps n src O Y) (hj : Joins n ps) (q : List Int) (x : Int) : ∀ (k : Nat), k + 1 ≤ O.length → sumG ps O Y q k x = getI q x + (((O.drop (O.length - k)).filter (fun y => befI ps Y y == x)).map (sumF ps O Y q)).sum
  | 0, _ => by rw [Nat.sub_zero, List.drop_length]; simp [sumG]
  | k + 1, h => by
    obtain ⟨h1, _⟩ := R.last hj (k := k) (by omega)
    have hd : O.drop (O.length - (k + 1)) = lastO O k :: O.drop (O.length - k) := by
      obtain ⟨hl, he⟩ := List.getElem?_eq_some_iff.1 h1
      rw [show O.length - (k + 1) = O.length - 1 - k by omega, List.drop_eq_getElem_cons hl, he, show O.length - 1 - k + 1 = O.length - k by omega]
    rw [sumG_at, hd, List.filter_cons, R.sumG_eq hj q x k (by omega)]
    by_cases hb : befI ps Y (lastO O k) = x
    · rw [if_pos hb, if_pos (by simpa using hb), List.map_cons, List.sum_cons, R.sumF_at hj q (by omega)]
      omega
    · rw [if_neg hb, if_neg (by simpa using hb)]
theorem exits_nodup (ps : List Pp) (v : Int) : ∀ (k : Nat), k ≤ ps.length → (exitsTo noneClosed ps v k).Nodup
  | 0, _ => List.nodup_nil
  | k + 1, h => by
    have ih := exits_nodup ps v k (by omega)
    have hp := List.getElem?_eq_getElem (l := ps) (i := k) (by omega)
    have hnew : ∀ e : Int × Int, e.1 = (k : Int) + 1 ∨ e.1 = -((k : Int) + 1) → e ∉ exitsTo noneClosed ps v k := by
      intro e he hm
      obtain ⟨i, p, hi, _, hc⟩ := (exits_mem k (by omega) e).1 hm
      rcases hc with ⟨rfl, _⟩ | ⟨rfl, _⟩ <;> simp only at he <;> omega
    have happ : ∀ e : Int × Int, e.1 = (k : Int) + 1 ∨ e.1 = -((k : Int) + 1) → (exitsTo noneClosed ps v k ++ [e]).Nodup := by
      intro e he
      refine List.nodup_append.2 ⟨ih, by simp, ?_⟩
      intro a ha b hb
      rw [List.mem_singleton] at hb
      subst hb
      rintro rfl
      exact hnew _ he ha
    rw [exitsTo_at hp]
    split
    · exact ih
    · split
      · exact happ _ (.inl rfl)
      · split
        · exact happ _ (.inr rfl)
        · exact ih
theorem sum_perm {l1 l2 : List Int} (h : l1.Perm l2) : l1.sum = l2.sum := by
  induction h with
  | nil => rfl
  | cons x _ ih => rw [List.sum_cons, List.sum_cons, ih]
  | swap x y l => simp only [List.sum_cons]; omega
  | trans _ _ ih1 ih2 => rw [ih1, ih2]
/-- a node's sum: its own, and those of the nodes by which ways go on -/
theorem Rooted.sumF_eq {ps : List Pp} {n : Nat} {src : Int} {O Y : List Int} (R : Rooted ps n src O Y) (hj : Joins n ps) (q : List Int) {v : Int} (v0 : 0 ≤ v) (v1 : v < n) : sumF ps O Y q v = getI q v + ((kids ps Y src v).map (fun e => sumF ps O Y q e.2)).sum := by
  have hl : 0 < O.length := (List.getElem?_eq_some_iff.1 R.ok.src).1
  have h0 := R.sumG_eq hj q v (O.length - 1) (by omega)
  rw [show O.length - (O.length - 1) = 1 by omega] at h0
  have hm1 : ∀ x, x ∈ O.drop 1 ↔ (0 ≤ x ∧ x < n) ∧ x ≠ src := by
    intro x
    have hc : O = src :: O.drop 1 := by
      obtain ⟨hl, he⟩ := List.getElem?_eq_some_iff.1 R.ok.src
      have := List.drop_eq_getElem_cons hl
      rw [List.drop_zero, he] at this
      exact this
    have hnd := R.ok.nodup
    rw [hc, List.nodup_cons] at hnd
    constructor
    · intro hx
      exact ⟨R.ok.rng x (List.mem_of_mem_drop hx), fun e => hnd.1 (e ▸ hx)⟩
    · rintro ⟨⟨x0, x1⟩, hs⟩
      have := R.all x x0 x1
      rw [hc] at this
      exact (List.mem_cons.1 this).resolve_left hs
  have hk1 : ((kids ps Y src v).map Prod.snd).Nodup := by
    refine List.pairwise_map.2 (List.Pairwise.imp_of_mem ?_ ((exits_nodup ps v ps.length (Nat.le_refl _)).filter _))
    intro a b ha hb hne e
    have h1 := (R.kid hj v0 v1 ha).1
    have h2 := (R.kid hj v0 v1 hb).1
    exact hne (Prod.ext (by rw [← h1, ← h2, e]) e)
  have hpm : ((O.drop 1).filter (fun y => befI ps Y y == v)).Perm ((kids ps Y src v).map Prod.snd) := by
    refine (List.perm_ext_iff_of_nodup ((List.Sublist.nodup (List.drop_sublist 1 O) R.ok.nodup).filter _) hk1).2 fun x => ?_
    rw [List.mem_filter, hm1]
    constructor
    · rintro ⟨⟨⟨x0, x1⟩, hs⟩, hb⟩
      have hb : befI ps Y x = v := by simpa using hb
      have := R.kid_of hj x0 x1 hs
      rw [hb] at this
      exact List.mem_map.2 ⟨_, this, rfl⟩
    · intro hx
      obtain ⟨e, he, rfl⟩ := List.mem_map.1 hx
      obtain ⟨_, h2, h3, h4, _⟩ := R.kid hj v0 v1 he
      exact ⟨⟨h4, h3⟩, by simpa using h2⟩
  unfold sumF at h0 ⊢
  rw [h0, sum_perm (hpm.map _), List.map_map]
  rfl
/-- the flow in the pipe that leads to a node, as the pipe is told -/
def flowF (ps : List Pp) (O Y q : List Int) (x : Int) : Int := if 0 < getI Y x then sumF ps O Y q x else -sumF ps O Y q x
/-- the node to which a pipe leads -/
def endE (ps : List Pp) (O : List Int) (k : Nat) : Int := if pos O ((ps[k]?).getD noPp).f < pos O ((ps[k]?).getD noPp).t then ((ps[k]?).getD noPp).t else ((ps[k]?).getD noPp).f
def outF (ps : List Pp) (O Y q : List Int) : List Int := (List.range ps.length).map fun k => flowF ps O Y q (endE ps O k)
theorem outF_length (ps : List Pp) (O Y q : List Int) : (outF ps O Y q).length = ps.length := by simp [outF]
theorem Rooted.endE_ok {ps : List Pp} {n : Nat} {src : Int} {O Y : List Int} (R : Rooted ps n src O Y) (hj : Joins n ps) {k : Nat} (hk : k < ps.length) :
    (0 ≤ endE ps O k ∧ endE ps O k < n) ∧ endE ps O k ≠ src ∧ ixE (getI Y (endE ps O k)) = k := by
  have hp := List.getElem?_eq_getElem hk
  obtain ⟨f, t, _⟩ := hj ps[k] (List.getElem_mem hk)
  have hsrc0 : pos O src = 0 := pos_of R.ok.nodup R.ok.src
  unfold endE
  rw [hp]
  simp only [Option.getD_some]
  rcases R.own k _ hp with ⟨a, l⟩ | ⟨a, l⟩
  · rw [if_pos l]
    exact ⟨t, fun e => by rw [e, hsrc0] at l; omega, by rw [a]; unfold ixE absI; split <;> omega⟩
  · rw [if_neg (by omega)]
    exact ⟨f, fun e => by rw [e, hsrc0] at l; omega, by rw [a]; unfold ixE absI; split <;> omega⟩
/-- two nodes are not led to by the same pipe -/
theorem Rooted.ix_inj {ps : List Pp} {n : Nat} {src : Int} {O Y : List Int} (R : Rooted ps n src O Y) (hj : Joins n ps) {x y : Int} (hx : 0 ≤ x ∧ x < n) (hy : 0 ≤ y ∧ y < n) (xs : x ≠ src) (ys : y ≠ src) (h : ixE (getI Y x) = ixE (getI Y y)) : x = y := by
  obtain ⟨p, hp, _, hc, l1, _⟩ := R.lead hj hx.1 hx.2 xs
  obtain ⟨q, hq, _, hd, l2, _⟩ := R.lead hj hy.1 hy.2 ys
  rw [h, hq] at hp
  obtain rfl : q = p := by simpa using hp
  rcases hc with ⟨_, e1, b1⟩ | ⟨_, e1, b1⟩ <;> rcases hd with ⟨_, e2, b2⟩ | ⟨_, e2, b2⟩
  · exact e1.symm.trans e2
  · rw [b1, ← e1] at l1; rw [b2, ← e2] at l2; omega
  · rw [b1, ← e1] at l1; rw [b2, ← e2] at l2; omega
  · exact e1.symm.trans e2
/-- a list that has the flow to each node has all flows -/
theorem Rooted.outs {ps : List Pp} {n : Nat} {src : Int} {O Y : List Int} (R : Rooted ps n src O Y) (hj : Joins n ps) (q L : List Int) (hl : L.length = ps.length) (h : ∀ x : Int, 0 ≤ x → x < n → x ≠ src → L[ixE (getI Y x)]? = some (flowF ps O Y q x)) : L = outF ps O Y q := by
  refine List.ext_getElem? fun k => ?_
  by_cases hk : k < ps.length
  · obtain ⟨h1, h2, h3⟩ := R.endE_ok hj hk
    have := h _ h1.1 h1.2 h2
    rw [h3] at this
    rw [this]
    unfold outF
    rw [List.getElem?_map, List.getElem?_range hk]; rfl
  · rw [List.getElem?_eq_none (by omega), List.getElem?_eq_none (by rw [outF_length]; omega)]
theorem Rooted.out_at {ps : List Pp} {n : Nat} {src : Int} {O Y : List Int} (R : Rooted ps n src O Y) (hj : Joins n ps) (q : List Int) {x : Int} (x0 : 0 ≤ x) (x1 : x < n) (hs : x ≠ src) : (outF ps O Y q)[ixE (getI Y x)]? = some (flowF ps O Y q x) := by
  obtain ⟨p, hp, _⟩ := R.lead hj x0 x1 hs
  have hk := (List.getElem?_eq_some_iff.1 hp).1
  obtain ⟨h1, h2, h3⟩ := R.endE_ok hj hk
  have := R.ix_inj hj h1 ⟨x0, x1⟩ h2 hs h3
  unfold outF
  rw [List.getElem?_map, List.getElem?_range hk, ← this, h3]; rfl
/-- all flows are in their range -/
def okF (ps : List Pp) (O Y q : List Int) (n : Nat) (src : Int) : Bool := (countL n).all fun x => x == src || decide (sumF ps O Y q x ≤ 100000)
theorem Rooted.okF_iff {ps : List Pp} {n : Nat} {src : Int} {O Y : List Int} (R : Rooted ps n src O Y) (hj : Joins n ps) (q : List Int) : okF ps O Y q n src = true ↔ ∀ x : Int, 0 ≤ x → x < n → x ≠ src → sumF ps O Y q x ≤ 100000 := by
  unfold okF
  rw [List.all_eq_true]
  constructor
  · intro h x x0 x1 hs
    have := h x (mem_countL.2 ⟨x0, x1⟩)
    rw [Bool.or_eq_true] at this
    rcases this with h1 | h1
    · exact absurd (by simpa using h1) hs
    · simpa using h1
  · intro h x hx
    rw [mem_countL] at hx
    rw [Bool.or_eq_true]
    by_cases e : x = src
    · exact .inl (by simpa using e)
    · exact .inr (by simpa using h x hx.1 hx.2 e)
end Go.Proofs.Ytkbkmpcdidhagaa

/-
  Chapter 5: a quotient that is rounded up; WaterFor of both sides.
-/
namespace Go.Proofs.Ytkbkmpcdidhagaa
open Go.ChangeShapes Go.WideShapes Go.ChangeAt Go.RowKit


def flowI (l d : Int) : Int := (l * 100000 + 4186 * d - 1) / (4186 * d)
theorem flow_bd (l d : Int) (l0 : 0 ≤ l) (l1 : l ≤ 100000000) (d0 : 1 ≤ d) (d1 : d ≤ 25000) : 0 ≤ flowI l d ∧ flowI l d ≤ 10000104650000 := by
  unfold flowI
  have := div_bd (l * 100000 + 4186 * d - 1) (4186 * d) (by omega) (by omega)
  omega
def wfB (l a b : Int) : Bool := inB l 0 100000000 && inB a (-5000) 20000 && inB b (-5000) 20000
def wfV (l a b : Int) : Int := if wfB l a b && !decide (a ≤ b) && decide (flowI l (a - b) ≤ 100000) then flowI l (a - b) else 0
def wfC (l a b : Int) : Int := if wfB l a b then (if a ≤ b then 6 else if flowI l (a - b) ≤ 100000 then 0 else 3) else 2

end Go.Proofs.Ytkbkmpcdidhagaa

/-
  WaterIn, DelayOf, SpeedOf and LossOf of both sides.
-/
namespace Go.Proofs.Ytkbkmpcdidhagaa
open Go.ChangeShapes Go.WideShapes Go.ChangeAt Go.RowKit Go.Shelf
set_option linter.unusedSimpArgs false


def watV (id : ByteArray) (f t L d s : Int)  : Int := if okP id f t L d s then (waterI L d) else 0
def watC (id : ByteArray) (f t L d s : Int)  : Int := if okP id f t L d s then 0 else 1

/-- how long water is in a pipe -/
def delayI (L d q : Int) : Int := (waterI L d + absI q - 1) / absI q
def dlyV (id : ByteArray) (f t L d s : Int) (q : Int) : Int := if okP id f t L d s && inB q (-100000) 100000 && (q != 0) then (delayI L d q) else 0
def dlyC (id : ByteArray) (f t L d s : Int) (q : Int) : Int := if okP id f t L d s then (if inB q (-100000) 100000 then (if (q != 0) then 0 else 6) else 2) else 1

/-- centimetres a second -/
def speedI (d q : Int) : Int := nearI (q * 1000000) (7854 * d * d)
def spdV (id : ByteArray) (f t L d s : Int) (q : Int) : Int := if okP id f t L d s && inB q (-100000) 100000 then (speedI d q) else 0
def spdC (id : ByteArray) (f t L d s : Int) (q : Int) : Int := if okP id f t L d s then (if inB q (-100000) 100000 then 0 else 2) else 1

def losV (id : ByteArray) (f t L d s : Int) (a : Int) (c : Int) : Int := if okP id f t L d s && inB a (-5000) 20000 && inB c (-5000) 20000 then (lossI s L a c) else 0
def losC (id : ByteArray) (f t L d s : Int) (a : Int) (c : Int) : Int := if okP id f t L d s then (if inB a (-5000) 20000 && inB c (-5000) 20000 then 0 else 2) else 1

end Go.Proofs.Ytkbkmpcdidhagaa

/-
  Pipes of a list, of the model: water, delays; flows along a way, its pipe, the node ahead.
-/
namespace Go.Proofs.Ytkbkmpcdidhagaa
open Go.ChangeShapes Go.WideShapes Go.ChangeAt Go.RowKit
set_option maxRecDepth 100000
set_option linter.unusedVariables false

theorem delay_bd (L d q : Int) (l0 : 0 ≤ L) (l1 : L ≤ 10000) (d0 : 20 ≤ d) (d1 : d ≤ 1000) (q0 : -100000 ≤ q) (q1 : q ≤ 100000) (hq : q ≠ 0) : 0 ≤ delayI L d q ∧ delayI L d q ≤ 79000000000000 := by
  have hw := water_bd L d l0 l1 d0 d1
  have ha := absI_bd q 100000 q0 q1
  have a1 : 1 ≤ absI q := by rw [absI_nat]; omega
  have hdv := div_bd (waterI L d + absI q - 1) (absI q) (by omega) a1
  unfold delayI
  omega
/-- the flow along a way -/
theorem l07Along_any (Q : Option Addr) (qc : Nat) (q : List Int) (st : Int) (w : World) (hQ : CellsAt w Q (intsV q)) (hq : allIn (-100000) 100000 q = true) (h0 : -20 ≤ st) (h1 : st ≤ 20) (hs : st ≠ 0) (hl : absI st ≤ q.length) (hm : q.length ≤ 1048576) :
    Calls Try.prog 134 #[.slice Q q.length qc, .int .i64 st] w fun e w' => e = .returned (.int .i64 (alongI q st)) ∧ w = w' := by
  have hbd := getD_bd hq (by omega) (by omega) (absI st - 1).toNat
  have ha : 1 ≤ absI st := by unfold absI; split <;> omega
  have hat : q.getD (absI st - 1).toNat 0 = q[(absI st - 1).toNat]'(by omega) := by rw [List.getD_eq_getElem?_getD, List.getElem?_eq_getElem (by omega)]; rfl
  obtain ⟨b, o, rfl, h1'⟩ := hQ (by rw [intsV_length]; omega)
  have hc := h1' (absI st - 1).toNat (by rw [intsV_length]; omega)
  rw [intsV_at _ _ (by omega), ← hat] at hc
  clear hat h1' hQ hq
  unfold alongI
  generalize hj : (absI st - 1).toNat = j at *
  have hjl : j < q.length := by omega
  by_cases hp : 0 < st
  · have hn : ¬ st < 0 := by omega
    have hk : st - 1 = (j : Int) := by unfold absI at *; split at hj <;> omega
    have hd : decide (0 < st) = true := decide_eq_true hp
    have e1 : IntKind.i64.wrap (st - 1) = (j : Int) := by rw [IntWalk.i64_in _ (by omega)]; exact hk
    rw [if_neg hn]
    clear hj hl ha hn
    generalize q.getD j 0 = fl at *
    have hst : st = (j : Int) + 1 := by omega
    subst hst
    go_enter Try.func134, Try.ntmps134
    go_wp2
    go_ret
    exact ⟨rfl, rfl⟩
  · have hn : st < 0 := by omega
    have hk : -st - 1 = (j : Int) := by unfold absI at *; split at hj <;> omega
    rw [if_pos hn]
    clear hj hl ha hn
    generalize q.getD j 0 = fl at *
    have hst : st = -(j : Int) - 1 := by omega
    subst hst
    have hd : ¬ (0 < -(j : Int) - 1) := by omega
    go_enter Try.func134, Try.ntmps134
    go_wp2
    go_ret
    exact ⟨rfl, rfl⟩
/-- the pipe of a way -/
theorem l07Pipe_any (bn : Nat) (A : Option Addr) (n c : Nat) (pb po d : Nat) (m : Nat) (st : Int) (w : World) (hN : NetAt w bn A n c (some ⟨pb, po, none⟩) m d) (h0 : -20 ≤ st) (h1 : st ≤ 20) (hs : st ≠ 0) (hl : absI st ≤ m) (hm : m ≤ 20) :
    Calls Try.prog 133 #[.pointer (some ⟨bn, 0, none⟩), .int .i64 st] w fun e w' => e = .returned (.pointer (some ⟨pb, po + ixE st * 6, none⟩)) ∧ Drawn w w' := by
  have ⟨n0, n1⟩ := hN
  have hk := ixE_cast hs
  have HA := Lib.hid (fun wx => l03Abs_any st wx (by omega) (by omega))
  have hj : ixE st < m := by omega
  have hab := absI_bd st 20 h0 h1
  have he : absI st = (ixE st : Int) + 1 := by omega
  rw [he] at HA
  clear hN hk hab he hl
  generalize ixE st = j at *
  go_enter Try.func133, Try.ntmps133
  go_wp2
  go_quiet ((go_at_call 178; exact quiet_same (HA.out _)))
  go_wp2
  go_ret
  exact ⟨rfl, ⟨_, rfl⟩⟩
/-- the node ahead of a way's last pipe -/
theorem l07Before_any (bn : Nat) (A : Option Addr) (n c : Nat) (pb po d : Nat) (m : Nat) (st : Int) (p : Pp) (w : World) (hN : NetAt w bn A n c (some ⟨pb, po, none⟩) m d) (hP : PipeO w pb (po + ixE st * 6) p) (h0 : -20 ≤ st) (h1 : st ≤ 20) (hs : st ≠ 0) (hl : absI st ≤ m) (hm : m ≤ 20) :
    Calls Try.prog 123 #[.pointer (some ⟨bn, 0, none⟩), .int .i64 st] w fun e w' => e = .returned (.int .i64 (if 0 < st then p.f else p.t)) ∧ w = w' := by
  have ⟨n0, n1⟩ := hN
  have ⟨p0, p1, p2, p3, p4, p5⟩ := hP
  have hk := ixE_cast hs
  have hj : ixE st < m := by omega
  clear hN hP p0 p3 p4 p5
  by_cases hp : 0 < st
  · rw [if_pos hp]
    have he : st = (ixE st : Int) + 1 := by unfold absI at hk; split at hk <;> omega
    clear hk hl
    generalize ixE st = j at *
    subst he
    go_enter Try.func123, Try.ntmps123
    go_wp2
    go_ret
    exact ⟨rfl, rfl⟩
  · rw [if_neg hp]
    have he : st = -(ixE st : Int) - 1 := by unfold absI at hk; split at hk <;> omega
    clear hk hl
    generalize ixE st = j at *
    subst he
    have p2' : w.cell? ⟨pb, po + ((-(-(j : Int) - 1)).toNat - 1) * 6 + 2, none⟩ = some (.int .i64 p.t) := by rw [show (-(-(j : Int) - 1)).toNat - 1 = j by omega]; exact p2
    have hd : ¬ (0 < -(j : Int) - 1) := by omega
    go_enter Try.func123, Try.ntmps123
    go_wp2
    go_ret
    exact ⟨rfl, rfl⟩
end Go.Proofs.Ytkbkmpcdidhagaa

/-
  The order of a search through a tree, of the model.
-/
namespace Go.Proofs.Ytkbkmpcdidhagaa
open Go.ChangeShapes Go.WideShapes Go.ChangeAt Go.RowKit
set_option maxRecDepth 100000
set_option linter.unusedVariables false

theorem owns_far {w w' : World} {base : Nat} {E : TypeId} {s a n c : Nat} {vs : List Value} {g : Nat} (h : w.ownsRow base E s (.slice (some ⟨a, 0, none⟩) n c) n vs) (hg : w.grownBy w' (some g)) (hne : a ≠ g) : w'.ownsRow base E s (.slice (some ⟨a, 0, none⟩) n c) n vs :=
  h.kept hg (.inr (by simp only [Value.ownBlock]; intro e; exact hne (by simpa using e)))
/-- which nodes are in an order -/
def seenV (n : Nat) (O : List Int) : List Value := (countL n).map fun x => .bool (decide (x ∈ O))
theorem seenV_length (n : Nat) (O : List Int) : (seenV n O).length = n := by unfold seenV; rw [List.length_map, countL_length]
theorem seenV_at (n : Nat) (O : List Int) (x : Int) (x0 : 0 ≤ x) (x1 : x < n) : (seenV n O)[x.toNat]? = some (.bool (decide (x ∈ O))) := by
  unfold seenV countL
  rw [List.getElem?_map, List.getElem?_map, List.getElem?_range (by omega)]
  simp only [Option.map_some]
  rw [show ((x.toNat : Nat) : Int) = x by omega]
theorem seenV_set (n : Nat) (O : List Int) (x : Int) (x0 : 0 ≤ x) (x1 : x < n) : (seenV n O).set x.toNat (.bool true) = seenV n (O ++ [x]) := by
  apply List.ext_getElem?
  intro i
  rw [List.getElem?_set, seenV_length]
  by_cases hi : i < n
  · have e := fun O => seenV_at n O (i : Int) (by omega) (by omega)
    simp only [Int.toNat_natCast] at e
    rw [e, e]
    by_cases h : x.toNat = i
    · rw [if_pos h, if_pos (by omega), decide_eq_true (by rw [List.mem_append, List.mem_singleton]; right; omega)]
    · rw [if_neg h]
      congr 2
      refine decide_eq_decide.2 ⟨fun k => List.mem_append_left _ k, fun k => ?_⟩
      rw [List.mem_append, List.mem_singleton] at k
      rcases k with k | k
      · exact k
      · omega
  · rw [List.getElem?_eq_none (by rw [seenV_length]; omega)]
    by_cases h : x.toNat = i
    · omega
    · rw [if_neg h, List.getElem?_eq_none (by rw [seenV_length]; omega)]
/-- the search's three slices -/
structure OrderAt (w0 wr : World) (g0 cap g1 c1 g2 c2 n : Nat) (O Y : List Int) : Prop where
  ho : wr.ownsRow w0.heap.size 2 1 (.slice (some ⟨g0, 0, none⟩) O.length cap) O.length (intsV O)
  hy : wr.ownsRow w0.heap.size 2 1 (.slice (some ⟨g1, 0, none⟩) n c1) n (intsV Y)
  hs : wr.ownsRow w0.heap.size 4 1 (.slice (some ⟨g2, 0, none⟩) n c2) n (seenV n O)
  n1 : g0 ≠ g1
  n2 : g0 ≠ g2
  n3 : g1 ≠ g2
  hb : Below w0.heap.size w0 wr
theorem OrderAt.marked {w0 wr : World} {g0 cap g1 c1 g2 c2 n : Nat} {O Y : List Int} (H : OrderAt w0 wr g0 cap g1 c1 g2 c2 n O Y) (x v : Int) (x0 : 0 ≤ x) (x1 : x < n) :
    ((wr.setCell ⟨g2, x.toNat, none⟩ (.bool true)).setCell ⟨g1, x.toNat, none⟩ (.int .i64 v)).ownsRow w0.heap.size 2 1 (.slice (some ⟨g0, 0, none⟩) O.length cap) O.length (intsV O) ∧
    ((wr.setCell ⟨g2, x.toNat, none⟩ (.bool true)).setCell ⟨g1, x.toNat, none⟩ (.int .i64 v)).ownsRow w0.heap.size 2 1 (.slice (some ⟨g1, 0, none⟩) n c1) n (intsV (Y.set x.toNat v)) ∧
    ((wr.setCell ⟨g2, x.toNat, none⟩ (.bool true)).setCell ⟨g1, x.toNat, none⟩ (.int .i64 v)).ownsRow w0.heap.size 4 1 (.slice (some ⟨g2, 0, none⟩) n c2) n (seenV n (O ++ [x])) ∧
    Below w0.heap.size w0 ((wr.setCell ⟨g2, x.toNat, none⟩ (.bool true)).setCell ⟨g1, x.toNat, none⟩ (.int .i64 v)) := by
  have k1 := grown_set (grown_refl wr (some g2)) x.toNat none (.bool true)
  have k2 := grown_set (grown_refl (wr.setCell ⟨g2, x.toNat, none⟩ (.bool true)) (some g1)) x.toNat none (.int .i64 v)
  have hy := owns_far H.hy k1 H.n3
  have hs := (H.hs.stored x.toNat (.bool true)).1
  rw [seenV_set n O x x0 x1] at hs
  have hy2 := (hy.stored x.toNat (.int .i64 v)).1
  rw [intsV_set] at hy2
  refine ⟨owns_far (owns_far H.ho k1 H.n2) k2 H.n1, hy2, owns_far hs k2 (fun e => H.n3 e.symm), ?_⟩
  refine (H.hb.grown k1 H.hb.size (fun k hk => ?_)).grown k2 ?_ (fun k hk => ?_)
  · obtain rfl : g2 = k := by simpa using hk
    exact (H.hs.lt _ rfl).1
  · exact Nat.le_trans H.hb.size k1.size
  · obtain rfl : g1 = k := by simpa using hk
    exact (H.hy.lt _ rfl).1
theorem OrderAt.first {w0 wr : World} {g0 cap g1 c1 g2 c2 n : Nat} {O Y : List Int} (H : OrderAt w0 wr g0 cap g1 c1 g2 c2 n O Y) (x : Int) (hl : Y.length = n) (x0 : 0 ≤ x) (x1 : x < n) :
    (∃ y, (wr.setCell ⟨g2, x.toNat, none⟩ (.bool true)).cell? ⟨g1, x.toNat, none⟩ = some (.int .i64 y)) ∧ (wr.setCell ⟨g2, x.toNat, none⟩ (.bool true)).frozen? ⟨g1, x.toNat, none⟩ = false ∧ Below w0.heap.size w0 (wr.setCell ⟨g2, x.toNat, none⟩ (.bool true)) := by
  have k1 := grown_set (grown_refl wr (some g2)) x.toNat none (.bool true)
  have hy := owns_far H.hy k1 H.n3
  refine ⟨⟨Y[x.toNat]'(by omega), ?_⟩, hy.frozenAt x.toNat, H.hb.grown k1 H.hb.size (fun k hk => ?_)⟩
  · rw [hy.cellAt x.toNat (by omega), intsV_at _ _ (by omega)]
  · obtain rfl : g2 = k := by simpa using hk
    exact (H.hs.lt _ rfl).1
theorem OrderAt.pushed {w0 W w' : World} {g0 cap g1 c1 g2 c2 n g cap' : Nat} {O Y : List Int} {x : Int}
    (ho : W.ownsRow w0.heap.size 2 1 (.slice (some ⟨g0, 0, none⟩) O.length cap) O.length (intsV O)) (hy : W.ownsRow w0.heap.size 2 1 (.slice (some ⟨g1, 0, none⟩) n c1) n (intsV Y)) (hs : W.ownsRow w0.heap.size 4 1 (.slice (some ⟨g2, 0, none⟩) n c2) n (seenV n (O ++ [x]))) (n1 : g0 ≠ g1) (n2 : g0 ≠ g2) (n3 : g1 ≠ g2) (hb : Below w0.heap.size w0 W)
    (hn : w'.ownsRow w0.heap.size 2 1 (.slice (some ⟨g, 0, none⟩) (O.length + 1) cap') (O.length + 1) (intsV O ++ [.int .i64 x])) (hg : W.grownBy w' (some g0)) (hl : some g0 = some g ∨ g = W.heap.size) : OrderAt w0 w' g cap' g1 c1 g2 c2 n (O ++ [x]) Y := by
  have l1 : g1 < W.heap.size := (hy.lt _ rfl).2
  have l2 : g2 < W.heap.size := (hs.lt _ rfl).2
  refine ⟨by rw [List.length_append, List.length_singleton, intsV_snoc]; exact hn, owns_far hy hg (fun e => n1 e.symm), owns_far hs hg (fun e => n2 e.symm), ?_, ?_, n3, hb.grown hg hb.size (fun k hk => ?_)⟩
  · rcases hl with e | e
    · obtain rfl : g0 = g := by simpa using e
      exact n1
    · omega
  · rcases hl with e | e
    · obtain rfl : g0 = g := by simpa using e
      exact n2
    · omega
  · obtain rfl : g0 = k := by simpa using hk
    exact (ho.lt _ rfl).1
theorem OrderAt.cell {w0 wr : World} {g0 cap g1 c1 g2 c2 n : Nat} {O Y : List Int} (H : OrderAt w0 wr g0 cap g1 c1 g2 c2 n O Y) {i : Nat} {x : Int} (h : O[i]? = some x) : wr.cell? ⟨g0, i, none⟩ = some (.int .i64 x) := by
  have hl := (List.getElem?_eq_some_iff.1 h).1
  rw [H.ho.cellAt i (by omega), intsV_at _ _ hl]
  rw [List.getElem?_eq_getElem hl] at h
  rw [Option.some.inj h]
theorem OrderAt.seen {w0 wr : World} {g0 cap g1 c1 g2 c2 n : Nat} {O Y : List Int} (H : OrderAt w0 wr g0 cap g1 c1 g2 c2 n O Y) (x : Int) (x0 : 0 ≤ x) (x1 : x < n) : wr.cell? ⟨g2, x.toNat, none⟩ = some (.bool (decide (x ∈ O))) ∧ wr.frozen? ⟨g2, x.toNat, none⟩ = false := by
  refine ⟨?_, H.hs.frozenAt x.toNat⟩
  rw [H.hs.cellAt x.toNat (by omega), seenV_at n O x x0 x1]
theorem OrderAt.drew {w0 wr : World} {g0 cap g1 c1 g2 c2 n : Nat} {O Y : List Int} (H : OrderAt w0 wr g0 cap g1 c1 g2 c2 n O Y) (k : Nat) : OrderAt w0 (wr.drewN k) g0 cap g1 c1 g2 c2 n O Y :=
  ⟨H.ho, H.hy, H.hs, H.n1, H.n2, H.n3, below_drewN H.hb k⟩
/-- what a round of the search reads -/
theorem OrderAt.facts {w0 wr : World} {g0 cap g1 c1 g2 c2 n a : Nat} {O Y : List Int} {u : Int} {p : Pp} (H : OrderAt w0 wr g0 cap g1 c1 g2 c2 n O Y) (h : O[a]? = some u) (hp : (0 ≤ p.f ∧ p.f < n) ∧ (0 ≤ p.t ∧ p.t < n) ∧ p.f ≠ p.t) :
    wr.cell? ⟨g0, a, none⟩ = some (.int .i64 u) ∧ (wr.cell? ⟨g2, p.t.toNat, none⟩ = some (.bool (decide (p.t ∈ O))) ∧ wr.frozen? ⟨g2, p.t.toNat, none⟩ = false) ∧ (wr.cell? ⟨g2, p.f.toNat, none⟩ = some (.bool (decide (p.f ∈ O))) ∧ wr.frozen? ⟨g2, p.f.toNat, none⟩ = false) :=
  ⟨H.cell h, H.seen _ hp.2.1.1 hp.2.1.2, H.seen _ hp.1.1 hp.1.2⟩
theorem infoBool : (Try.prog.info? 4).map (fun i => (i.zero, i.size, i.bytes)) = some (some (.bool false), 1, 1) := by kernel_rfl
theorem zeros_made (n : Nat) : (madeCells (Value.int .i64 0).cells (n * 1)).toList = intsV (List.replicate n 0) := by
  rw [Nat.mul_one]
  show (madeCells #[.int .i64 0] n).toList = _
  rw [toList_madeCells_one]
  simp [intsV]
theorem falses_made (n : Nat) : (madeCells (Value.bool false).cells (n * 1)).toList = seenV n [] := by
  rw [Nat.mul_one]
  show (madeCells #[.bool false] n).toList = _
  rw [toList_madeCells_one]
  unfold seenV
  symm
  refine (List.eq_replicate_iff.2 ⟨by rw [List.length_map, countL_length], fun b hb => ?_⟩)
  obtain ⟨x, _, rfl⟩ := List.mem_map.1 hb
  simp
set_option maxHeartbeats 1000000 in
theorem l07Order_any (bn : Nat) (A B : Option Addr) (c d : Nat) (z : List Int) (ps : List Pp) (src : Int) (w : World) (hN : NetAt w bn A z.length c B ps.length d) (h : NetCells w A z B ps) (hn : z.length ≤ 16) (hm : ps.length ≤ 20) (hj : Joins z.length ps) (s0 : 0 ≤ src) (s1 : src < z.length) :
    Calls Try.prog 122 #[.pointer (some ⟨bn, 0, none⟩), .int .i64 src] w fun e w' => ∃ g0 c0 g1 c1, e = .returned (.tuple #[.slice (some ⟨g0, 0, none⟩) (bfsOut ps z.length src z.length).1.length c0, .slice (some ⟨g1, 0, none⟩) z.length c1]) ∧ w'.ownsRow w.heap.size 2 1 (.slice (some ⟨g0, 0, none⟩) (bfsOut ps z.length src z.length).1.length c0) (bfsOut ps z.length src z.length).1.length (intsV (bfsOut ps z.length src z.length).1) ∧ w'.ownsRow w.heap.size 2 1 (.slice (some ⟨g1, 0, none⟩) z.length c1) z.length (intsV (bfsOut ps z.length src z.length).2) ∧ g0 ≠ g1 ∧ Below w.heap.size w w' := by
  have HC := Lib.hid h
  clear h
  have hbA : Below w.heap.size w (w.alloc (.cells #[.int .i64 src] 2)) := bal (Below.refl _ _) _
  have hNo := hN
  have hN := hN.next hbA
  have ⟨n0, n1⟩ := hN
  have ho0 : (w.alloc (.cells #[.int .i64 src] 2)).ownsRow w.heap.size 2 1 (.slice (some ⟨w.heap.size, 0, none⟩) 1 1) 1 (intsV [src]) := World.ownsRow_lit (size := 1) w #[.int .i64 src] 1 (Nat.le_refl _) (by unfold maxLen; omega) rfl
  obtain ⟨i0, hi, hz0, hz1, hz2⟩ := info_parts infoI64
  obtain ⟨j0, hbi, hbz0, hbz1, hbz2⟩ := info_parts infoBool
  have hM : z.length ≤ maxLen := by unfold maxLen; omega
  have hMi : (z.length : Int) ≤ 9223372036854775807 := by omega
  go_enter Try.func122, Try.ntmps122
  go_wp2_with (first | (refine wpList_make_full _ rfl _ _ _ rfl w.heap.size 2 i0 (.int .i64 0) 1 Try.underlying22 hi hz0 hz1 _ _ _ _ z.length rfl rfl rfl rfl (by rw [hz2]; omega) hM (by simp) ?_; intro w1 hown1 hgrow1; rw [World.size_alloc] at hown1; have hb1 := Below.grown hbA hgrow1 (by simp) (fun k hk => by cases hk); have hN1 := hN.next (Below.grown (Below.refl _ _) hgrow1 (Nat.le_refl _) (fun k hk => by cases hk)); have ho1 := ho0.kept hgrow1 (.inr (by simp [Value.ownBlock])); have ⟨m0, m1⟩ := hN1; clear n0 n1 hgrow1 ho0 hN hbA) | (refine wpList_make_full _ rfl _ _ _ rfl w.heap.size 4 j0 (.bool false) 1 Try.underlying202 hbi hbz0 hbz1 _ _ _ _ z.length rfl rfl rfl rfl (by rw [hbz2]; omega) hM (hb1.size) ?_; intro w2 hown2 hgrow2; have hb2 := Below.grown hb1 hgrow2 hb1.size (fun k hk => by cases hk); have hN2 := hN1.next (Below.grown (Below.refl _ _) hgrow2 (Nat.le_refl _) (fun k hk => by cases hk)); have hy2 := hown1.kept hgrow2 (.inr (by simp [Value.ownBlock])); have ho2 := ho1.kept hgrow2 (.inr (by simp [Value.ownBlock])); have hg1 := (hown1.lt _ rfl).2; have ⟨k0, k1⟩ := hN2; clear m0 m1 hgrow2 ho1 hown1 hN1; have c2 := hown2.cellAt src.toNat (by omega); rw [falses_made, seenV_at _ _ _ s0 s1] at c2; have f2 := hown2.frozenAt src.toNat))
  have k3 := grown_set (grown_refl w2 (some w1.heap.size)) src.toNat none (.bool true)
  have hs3 := (hown2.stored src.toNat (.bool true)).1
  rw [falses_made, seenV_set _ _ _ s0 s1] at hs3
  rw [zeros_made] at hy2
  have HO : OrderAt w (w2.setCell ⟨w1.heap.size, src.toNat, none⟩ (.bool true)) w.heap.size 1 (w.heap.size + 1) z.length w1.heap.size z.length z.length (bfsOut ps z.length src 0).1 (bfsOut ps z.length src 0).2 := by
    refine ⟨owns_far ho2 k3 (by have : w.heap.size + 1 < w1.heap.size := hg1; omega), owns_far hy2 k3 (by have : w.heap.size + 1 < w1.heap.size := hg1; omega), hs3, by omega, by have : w.heap.size + 1 < w1.heap.size := hg1; omega, by have : w.heap.size + 1 < w1.heap.size := hg1; omega, hb2.grown k3 hb2.size (fun k hk => ?_)⟩
    obtain rfl : w1.heap.size = k := by simpa using hk
    exact hb1.size
  have HN3 := Lib.hid (hN2.keep (w' := w2.setCell ⟨w1.heap.size, src.toNat, none⟩ (.bool true)) (Below.heap_setCell w2 _ _ bn (by have := hN.lies; intro e; have e : bn = w1.heap.size := e; omega)))
  have hHO := Lib.hid HO
  have HN0 := Lib.hid hNo
  have HJ := Lib.hid hj
  have HBO := Lib.hid (fun a => bfsOut_ok hj s0 s1 a)
  clear hN2 HO k0 k1 ho2 hy2 hown2 hs3 k3 c2 f2 hb1 hb2 hg1 HN3 hNo
  go_loopw [6, 9] (fun v i wr => ∃ (a g0 cap : Nat), v = .slice (some ⟨g0, 0, none⟩) (bfsOut ps z.length src a).1.length cap ∧ i = .int .i64 a ∧ a ≤ (bfsOut ps z.length src a).1.length ∧ OrderAt w wr g0 cap (w.heap.size + 1) z.length w1.heap.size z.length z.length (bfsOut ps z.length src a).1 (bfsOut ps z.length src a).2) (fun _ i _ => z.length - (intOf i).toNat)
  case atStart => exact ⟨0, _, _, rfl, rfl, by simp [bfsOut], hHO.out⟩
  case round =>
    obtain ⟨a, g0, cap, rfl, rfl, ha, HO⟩ := hrel
    have hbo := HBO.out a
    have hlen := hbo.1.short
    by_cases hlt : a < (bfsOut ps z.length src a).1.length
    · have hu := List.getElem?_eq_getElem hlt
      generalize (bfsOut ps z.length src a).1[a] = u at *
      have HIN := Lib.hid (fun q => bfsIn_ok hj hbo.1 (List.mem_of_getElem? hu) q)
      have HU := Lib.hid hu
      have HOA := Lib.hid (bfsOut_at hu)
      generalize bfsOut ps z.length src a = S at *
      have hl16 : S.1.length ≤ 16 := by omega
      have HO0 := Lib.hid HO
      clear hbo hu HO
      go_wp2_with fail
      go_loopw [6, 10] (fun v i wr => ∃ (q g0 cap : Nat), v = .slice (some ⟨g0, 0, none⟩) (bfsIn ps u S q).1.length cap ∧ i = .int .i64 q ∧ q ≤ ps.length ∧ OrderAt w wr g0 cap (w.heap.size + 1) z.length w1.heap.size z.length z.length (bfsIn ps u S q).1 (bfsIn ps u S q).2) (fun _ i _ => ps.length - (intOf i).toNat)
      case atStart => exact ⟨0, _, _, rfl, rfl, Nat.zero_le _, HO0.out⟩
      case round =>
        clear HO0
        obtain ⟨q, g0, cap, rfl, rfl, hq, HO⟩ := hrel
        have ⟨n0, n1⟩ := HN0.out.next HO.hb
        by_cases hlq : q < ps.length
        · obtain ⟨b, off, rfl, hrow⟩ := pipe_at (HC.out.2.next HO.hb) (by omega)
          have hp := List.getElem?_eq_getElem hlq
          have P := hrow q _ hp
          obtain ⟨⟨f0, f1⟩, ⟨t0, t1⟩, hne⟩ := HJ.out _ (List.mem_of_getElem? hp)
          have HSTEP := Lib.hid (show bfsIn ps u S (q + 1) = bfsStep ps u q (bfsIn ps u S q) from rfl)
          have hst := fun s => bfsStep_at hp u s
          have HPP := Lib.hid (fun wx (hbx : Below w.heap.size w wx) => by
            obtain ⟨b', off', e, hrow'⟩ := pipe_at (HC.out.2.next hbx) (by omega)
            obtain ⟨rfl, rfl⟩ : b = b' ∧ off = off' := by simpa using e
            exact hrow' q _ hp)
          have hbi := HIN.out q
          have HOU := Lib.hid (hbi.2.1.at HU.out)
          have hl := hbi.1.short
          have HYL := Lib.hid hbi.1.len
          generalize ps[q] = p at *
          rw [hst] at HSTEP
          generalize bfsIn ps u S q = T at *
          have hTa : a < T.1.length := (List.getElem?_eq_some_iff.1 HOU.out).1
          have HNE := Lib.hid hne
          have HFA := Lib.hid (fun (wx : World) (g cap : Nat) (H : OrderAt w wx g cap (w.heap.size + 1) z.length w1.heap.size z.length z.length T.1 T.2) => (⟨H.facts HOU.out ⟨⟨f0, f1⟩, ⟨t0, t1⟩, hne⟩, HPP.out _ H.hb⟩ : _ ∧ _))
          clear hbi hst hrow hp hne P
          obtain ⟨⟨hO, ⟨sT, fT⟩, ⟨sF, fF⟩⟩, p0, p1, p2, p3, p4, p5⟩ := HFA.out _ _ _ HO
          clear p0 p3 p4 p5
          by_cases hf : p.f = u
          · have ht : ¬ p.t = u := fun e => HNE.out (hf.trans e.symm)
            have hf1 : (p.f == u) = true := by simpa using hf
            have ht1 : (p.t == u) = false := by simpa using ht
            by_cases hm : p.t ∈ T.1
            · have HN := Lib.hid (HSTEP.out.trans ((if_neg (fun h => h.2 hm)).trans (if_neg (fun h => ht h.1))))
              rw [decide_eq_true hm] at sT
              clear hf ht hm
              go_wp2
              go_quiet (fail)
              have HO := HO.drew nq
              clear hO sT fT sF fF p1 p2 n0 n1
              generalize wr.drewN nq = wx at *
              obtain ⟨⟨hO, ⟨sT, fT⟩, ⟨sF, fF⟩⟩, p0, p1, p2, p3, p4, p5⟩ := HFA.out _ _ _ HO
              clear p0 p3 p4 p5
              go_wp2
              go_quiet (fail)
              go_wp2
              go_roundw
              case rel => exact ⟨q + 1, g0, cap, by rw [HN.out], by go_num, by omega, by rw [HN.out]; exact HO.drew _⟩
              case measure => simp [intOf]; omega
            · have HN := Lib.hid (HSTEP.out.trans (if_pos ⟨hf, hm⟩))
              rw [decide_eq_false hm] at sT HFA
              clear hf ht hm
              go_wp2
              go_quiet (fail)
              have HO := HO.drew nq
              clear hO sT fT sF fF p1 p2 n0 n1
              generalize wr.drewN nq = wx at *
              obtain ⟨⟨hO, ⟨sT, fT⟩, ⟨sF, fF⟩⟩, p0, p1, p2, p3, p4, p5⟩ := HFA.out _ _ _ HO
              clear p0 p3 p4 p5
              obtain ⟨mo, my, ms, mb⟩ := HO.marked p.t ((q : Int) + 1) t0 t1
              obtain ⟨⟨yo, cy⟩, fy, hb1⟩ := HO.first p.t HYL.out t0 t1
              have ⟨_, r1, r2, _, _, _⟩ := HPP.out _ hb1
              have ⟨_, s1, s2, _, _, _⟩ := HPP.out _ mb
              have HN1 := Lib.hid HO.n1
              have HN2 := Lib.hid HO.n2
              have HN3 := Lib.hid HO.n3
              have HMO := Lib.hid mo
              have HMY := Lib.hid my
              have HMS := Lib.hid ms
              have HMB := Lib.hid mb
              clear mo my ms mb hb1 HO
              go_wp2_with (at_builtin; go_must (refine wpList_append_lies _ rfl _ _ 22 rfl w.heap.size 2 i0 (.int .i64 0) 1 8 Try.underlying22 hi hz0 hz1 hz2 rfl (by decide) (.slice (some ⟨g0, 0, none⟩) T.1.length cap) _ _ rfl (HMO.out.alloc _) _ 1 1 [.int .i64 p.t] rfl rfl ?_ (by simp [Value.oneCell']) (by decide) ?_ ?_ ?_ _ rfl ?_; (have := cell_one_new ((wx.setCell ⟨w1.heap.size, p.t.toNat, none⟩ (.bool true)).setCell ⟨w.heap.size + 1, p.t.toNat, none⟩ (.int .i64 ((q : Int) + 1))) (.int .i64 p.t) 2; first | exact this | (simpa using this)); (unfold maxLen; omega); (omega); (exact Nat.le_trans HMB.out.size (by simp)); intro g4 cap4 w4 hown4 hgrow4 hl4 hlt4; (have HO4 := Lib.hid (OrderAt.pushed (HMO.out.alloc _) (HMY.out.alloc _) (HMS.out.alloc _) HN1.out HN2.out HN3.out (bal HMB.out _) hown4 hgrow4 hl4)); clear hown4 hgrow4 hl4 hlt4 cy fy sT fT sF fF hO p1 p2 r1 r2 s1 s2; (have cO := HO4.out.cell (i := a) (x := u) (by rw [List.getElem?_append_left hTa]; exact HOU.out)); (have ⟨_, p1, p2, _, _, _⟩ := HPP.out _ HO4.out.hb)))
              go_quiet (fail)
              go_wp2
              go_roundw
              case rel => exact ⟨q + 1, g4, cap4, by rw [HN.out, List.length_append, List.length_singleton], by go_num, by omega, by rw [HN.out]; exact HO4.out.drew _⟩
              case measure => simp [intOf]; omega
          · have hf1 : (p.f == u) = false := by simpa using hf
            by_cases ht : p.t = u
            · have ht1 : (p.t == u) = true := by simpa using ht
              by_cases hm : p.f ∈ T.1
              · have HN := Lib.hid (HSTEP.out.trans ((if_neg (fun h => hf h.1)).trans (if_neg (fun h => h.2 hm))))
                rw [decide_eq_true hm] at sF HFA
                clear hf ht hm
                go_wp2
                go_quiet (fail)
                have HO := HO.drew nq
                clear hO sT fT sF fF p1 p2 n0 n1
                generalize wr.drewN nq = wx at *
                obtain ⟨⟨hO, ⟨sT, fT⟩, ⟨sF, fF⟩⟩, p0, p1, p2, p3, p4, p5⟩ := HFA.out _ _ _ HO
                clear p0 p3 p4 p5
                go_wp2
                go_quiet (fail)
                go_wp2
                go_roundw
                case rel => exact ⟨q + 1, g0, cap, by rw [HN.out], by go_num, by omega, by rw [HN.out]; exact HO.drew _⟩
                case measure => simp [intOf]; omega
              · have HN0' := HSTEP.out.trans ((if_neg (fun h => hf h.1)).trans (if_pos ⟨ht, hm⟩))
                rw [show -((q : Int) + 1) = -(q : Int) - 1 by omega] at HN0'
                have HN := Lib.hid HN0'
                clear HN0'
                rw [decide_eq_false hm] at sF HFA
                clear hf ht hm
                go_wp2
                go_quiet (fail)
                have HO := HO.drew nq
                clear hO sT fT sF fF p1 p2 n0 n1
                generalize wr.drewN nq = wx at *
                obtain ⟨⟨hO, ⟨sT, fT⟩, ⟨sF, fF⟩⟩, p0, p1, p2, p3, p4, p5⟩ := HFA.out _ _ _ HO
                clear p0 p3 p4 p5
                go_wp2
                go_quiet (fail)
                have HO := HO.drew nq
                clear hO sT fT sF fF p1 p2
                generalize wx.drewN nq = wy at *
                obtain ⟨⟨hO, ⟨sT, fT⟩, ⟨sF, fF⟩⟩, p0, p1, p2, p3, p4, p5⟩ := HFA.out _ _ _ HO
                clear p0 p3 p4 p5
                obtain ⟨mo, my, ms, mb⟩ := HO.marked p.f (-(q : Int) - 1) f0 f1
                obtain ⟨⟨yo, cy⟩, fy, hb1⟩ := HO.first p.f HYL.out f0 f1
                have ⟨_, r1, r2, _, _, _⟩ := HPP.out _ hb1
                have ⟨_, s1, s2, _, _, _⟩ := HPP.out _ mb
                have HN1 := Lib.hid HO.n1
                have HN2 := Lib.hid HO.n2
                have HN3 := Lib.hid HO.n3
                have HMO := Lib.hid mo
                have HMY := Lib.hid my
                have HMS := Lib.hid ms
                have HMB := Lib.hid mb
                clear mo my ms mb hb1 HO
                go_wp2_with (at_builtin; go_must (refine wpList_append_lies _ rfl _ _ 22 rfl w.heap.size 2 i0 (.int .i64 0) 1 8 Try.underlying22 hi hz0 hz1 hz2 rfl (by decide) (.slice (some ⟨g0, 0, none⟩) T.1.length cap) _ _ rfl (HMO.out.alloc _) _ 1 1 [.int .i64 p.f] rfl rfl ?_ (by simp [Value.oneCell']) (by decide) ?_ ?_ ?_ _ rfl ?_; (have := cell_one_new ((wy.setCell ⟨w1.heap.size, p.f.toNat, none⟩ (.bool true)).setCell ⟨w.heap.size + 1, p.f.toNat, none⟩ (.int .i64 (-(q : Int) - 1))) (.int .i64 p.f) 2; first | exact this | (simpa using this)); (unfold maxLen; omega); (omega); (exact Nat.le_trans HMB.out.size (by simp)); intro g4 cap4 w4 hown4 hgrow4 hl4 hlt4; (have HO4 := Lib.hid (OrderAt.pushed (HMO.out.alloc _) (HMY.out.alloc _) (HMS.out.alloc _) HN1.out HN2.out HN3.out (bal HMB.out _) hown4 hgrow4 hl4)); clear hown4 hgrow4 hl4 hlt4 cy fy sT fT sF fF hO p1 p2 r1 r2 s1 s2; (have ⟨_, p1, p2, _, _, _⟩ := HPP.out _ HO4.out.hb)))
                go_wp2
                go_roundw
                case rel => exact ⟨q + 1, g4, cap4, by rw [HN.out, List.length_append, List.length_singleton], by go_num, by omega, by rw [HN.out]; exact HO4.out⟩
                case measure => simp [intOf]; omega
            · have ht1 : (p.t == u) = false := by simpa using ht
              have HN := Lib.hid (HSTEP.out.trans ((if_neg (fun h => hf h.1)).trans (if_neg (fun h => ht h.1))))
              clear hf ht
              go_wp2
              go_quiet (fail)
              have HO := HO.drew nq
              clear hO sT fT sF fF p1 p2 n0 n1
              generalize wr.drewN nq = wx at *
              obtain ⟨⟨hO, ⟨sT, fT⟩, ⟨sF, fF⟩⟩, p0, p1, p2, p3, p4, p5⟩ := HFA.out _ _ _ HO
              clear p0 p3 p4 p5
              go_wp2
              go_quiet (fail)
              go_wp2
              go_roundw
              case rel => exact ⟨q + 1, g0, cap, by rw [HN.out], by go_num, by omega, by rw [HN.out]; exact HO.drew _⟩
              case measure => simp [intOf]; omega
        · obtain rfl : q = ps.length := by omega
          go_wp2
          go_roundw
          case rel => exact ⟨a + 1, g0, cap, by rw [HOA.out], by go_num, by rw [HOA.out]; have := (HIN.out ps.length).2.1.len; omega, by rw [HOA.out]; exact HO⟩
          case measure => simp [intOf]; omega
    · have hae : (bfsOut ps z.length src a).1.length = a := by omega
      have hend : bfsOut ps z.length src z.length = bfsOut ps z.length src a := by
        have := bfsOut_end (ps := ps) (n := z.length) (src := src) (a := a) (by omega) (z.length - a)
        rwa [show a + (z.length - a) = z.length by omega] at this
      have HE := Lib.hid hend
      have hl16 : (bfsOut ps z.length src a).1.length ≤ 16 := by omega
      clear hend hbo
      go_wp2
      go_ret2
      rw [HE.out]
      exact ⟨g0, cap, _, _, rfl, HO.ho, HO.hy, HO.n1, HO.hb⟩
end Go.Proofs.Ytkbkmpcdidhagaa

/-
  The codes of chapter 7; DelayTo of the model.
-/
namespace Go.Proofs.Ytkbkmpcdidhagaa
open Go.ChangeShapes Go.WideShapes Go.ChangeAt Go.RowKit
set_option maxRecDepth 100000
set_option linter.unusedVariables false

def treeB (z : List Int) (ps : List Pp) : Bool := decide (ps.length + 1 = z.length) && decide ((treeTo noneClosed z.length ps ps.length).length = ps.length)
/-- the first error of a network that should be a tree, of other arguments, and of flows or demands -/
def preC (z : List Int) (ps : List Pp) (r s : Bool) : Int := if netB z ps then (if r then (if s then (if treeB z ps then 0 else 6) else 7) else 2) else 1
theorem preC_net {z : List Int} {ps : List Pp} {r s : Bool} (h : preC z ps r s = 0) : netB z ps = true ∧ r = true ∧ s = true ∧ treeB z ps = true := by
  revert h
  unfold preC
  cases netB z ps <;> cases r <;> cases s <;> cases treeB z ps <;> simp
theorem rooted_net {z : List Int} {ps : List Pp} {src : Int} (hv : netB z ps = true) (ht : treeB z ps = true) (hs : inB src 0 ((z.length : Int) - 1) = true) :
    Rooted ps z.length src (bfsOut ps z.length src z.length).1 (bfsOut ps z.length src z.length).2 ∧ Joins z.length ps ∧ 0 ≤ src ∧ src < z.length ∧ ps.length ≤ 15 ∧ z.length ≤ 16 := by
  have hp := netB_parts hv
  have hj := joins_of hp.2.2.2.1
  have hs := inB_iff.1 hs
  unfold treeB at ht
  rw [Bool.and_eq_true, decide_eq_true_eq, decide_eq_true_eq] at ht
  exact ⟨rooted_of hj ht.1 ht.2 hs.1 (by omega), hj, hs.1, by omega, by omega, by omega⟩
theorem l07Given_any (bn : Nat) (A B : Option Addr) (c d : Nat) (z : List Int) (ps : List Pp) (Q : Option Addr) (qc : Nat) (q : List Int) (src pr : Int) (w : World) (hN : NetAt w bn A z.length c B ps.length d) (h : NetCells w A z B ps) (hn : z.length ≤ 1048576) (hm : ps.length ≤ 1048576) (hid : ∀ p ∈ ps, p.id.size ≤ maxLen) (hQ : CellsAt w Q (intsV q)) (hq : q.length ≤ 1048576) :
    Calls Try.prog 69 #[.pointer (some ⟨bn, 0, none⟩), .int .i64 src, .int .i64 pr, .slice Q q.length qc] w fun e w' => e = .returned (.int .i64 (preC z ps (inB src 0 ((z.length : Int) - 1) && inB pr 0 100000000) (flB (-100000) 100000 ps.length q))) ∧ Below w.heap.size w w' := by
  have HK := Lib.hid (l07Ask_any bn A B c d z ps src w hN h hn hm hid)
  have HP := Lib.hid (fun wx => l03Press_any pr wx)
  have HF := Lib.hid (fun wx (hx : NetAt wx bn A z.length c B ps.length d) (hb : Below w.heap.size w wx) => l07Flows_any bn A z.length c B ps.length d Q qc q wx hx hn hm hq (hQ.next hb))
  have HN := Lib.hid hN
  have HC := Lib.hid h
  by_cases hv : netB z ps = true
  · have hp := netB_parts hv
    have HT := Lib.hid (fun wx (hx : NetAt wx bn A z.length c B ps.length d) (hb : Below w.heap.size w wx) => l04IsTree_any bn A c B d z ps wx hx (by omega) (by omega) hp.2.2.1 (h.2.next hb) hp.2.2.2.1)
    unfold preC treeB
    rw [hv] at HK ⊢
    clear hp hv h hN hid hQ
    unfold argC at HK
    generalize inB src 0 ((z.length : Int) - 1) = b1 at *
    generalize inB pr 0 100000000 = b2 at *
    generalize flB (-100000) 100000 ps.length q = b3 at *
    generalize (decide (ps.length + 1 = z.length) && decide ((treeTo noneClosed z.length ps ps.length).length = ps.length)) = b4 at *
    cases b1 with
    | false =>
      go_enter Try.func69, Try.ntmps69
      go_wp2_with fail
      refine HK.out.mono ?_
      rintro e w1 ⟨rfl, hd⟩
      go_wp2
      go_ret
      exact ⟨rfl, drawn_below hd⟩
    | true =>
      cases b2 with
      | false =>
        go_enter Try.func69, Try.ntmps69
        go_wp2_with fail
        refine HK.out.mono ?_
        rintro e w1 ⟨rfl, hd⟩
        go_wp2_with (go_at_call 74; refine (HP.out _).mono ?_; rintro e w' ⟨rfl, rfl⟩)
        go_ret
        exact ⟨rfl, drawn_below hd⟩
      | true =>
        cases b3 with
        | false =>
          go_enter Try.func69, Try.ntmps69
          go_wp2_with fail
          refine HK.out.mono ?_
          rintro e w1 ⟨rfl, hd⟩
          have hb := drawn_below hd
          have HF1 := HF.out _ (HN.out.next hb) hb
          go_wp2_with (first | (go_at_call 74; refine (HP.out _).mono ?_; rintro e w' ⟨rfl, rfl⟩) | (go_at_call 131; refine HF1.mono ?_; rintro e w' ⟨rfl, rfl⟩))
          go_ret
          exact ⟨rfl, hb⟩
        | true =>
          cases b4 with
          | false =>
            go_enter Try.func69, Try.ntmps69
            go_wp2_with fail
            refine HK.out.mono ?_
            rintro e w1 ⟨rfl, hd⟩
            have hb := drawn_below hd
            have HF1 := HF.out _ (HN.out.next hb) hb
            have HT1 := HT.out _ (HN.out.next hb) hb
            go_wp2_with (first | (go_at_call 74; refine (HP.out _).mono ?_; rintro e w' ⟨rfl, rfl⟩) | (go_at_call 131; refine HF1.mono ?_; rintro e w' ⟨rfl, rfl⟩) | (go_at_call 121; refine HT1.mono ?_; rintro e w' ⟨rfl, hb2⟩; have hb := bnext hb hb2))
            go_ret
            exact ⟨rfl, hb⟩
          | true =>
            go_enter Try.func69, Try.ntmps69
            go_wp2_with fail
            refine HK.out.mono ?_
            rintro e w1 ⟨rfl, hd⟩
            have hb := drawn_below hd
            have HF1 := HF.out _ (HN.out.next hb) hb
            have HT1 := HT.out _ (HN.out.next hb) hb
            go_wp2_with (first | (go_at_call 74; refine (HP.out _).mono ?_; rintro e w' ⟨rfl, rfl⟩) | (go_at_call 131; refine HF1.mono ?_; rintro e w' ⟨rfl, rfl⟩) | (go_at_call 121; refine HT1.mono ?_; rintro e w' ⟨rfl, hb2⟩; have hb := bnext hb hb2))
            go_ret
            exact ⟨rfl, hb⟩
  · have hv : netB z ps = false := by simpa using hv
    have e : preC z ps (inB src 0 ((z.length : Int) - 1) && inB pr 0 100000000) (flB (-100000) 100000 ps.length q) = 1 := by unfold preC; rw [hv]; rfl
    rw [e]
    rw [hv] at HK
    unfold argC at HK
    clear e hv h hN hid hQ
    go_enter Try.func69, Try.ntmps69
    go_wp2_with fail
    refine HK.out.mono ?_
    rintro e w1 ⟨rfl, hd⟩
    go_wp2
    go_ret
    exact ⟨rfl, drawn_below hd⟩
/-- how long water runs to a node: none if a flow along its way is not positive -/
def delO (ps : List Pp) (Y : List Int) (src : Int) (q : List Int) : Nat → Int → Option Int
  | 0, _ => none
  | f + 1, x => if x = src then some 0 else if alongI q (getI Y x) ≤ 0 then none else (delO ps Y src q f (befI ps Y x)).map fun t => delayI (pipeE ps (getI Y x)).L (pipeE ps (getI Y x)).d (alongI q (getI Y x)) + t
def dtO (z : List Int) (ps : List Pp) (src : Int) (q : List Int) (node : Int) : Option Int := delO ps (bfsOut ps z.length src z.length).2 src q z.length node
def dtP (z : List Int) (ps : List Pp) (src : Int) (q : List Int) (node : Int) : Int := preC z ps (inB src 0 ((z.length : Int) - 1) && inB node 0 ((z.length : Int) - 1)) (flB (-100000) 100000 ps.length q)
def dtV (z : List Int) (ps : List Pp) (src : Int) (q : List Int) (node : Int) : Int := if dtP z ps src q node = 0 then (dtO z ps src q node).getD 0 else 0
def dtC (z : List Int) (ps : List Pp) (src : Int) (q : List Int) (node : Int) : Int := if dtP z ps src q node = 0 then (if (dtO z ps src q node).isSome then 0 else 3) else dtP z ps src q node
end Go.Proofs.Ytkbkmpcdidhagaa

/-
  DelayTo of the model.
-/
namespace Go.Proofs.Ytkbkmpcdidhagaa
open Go.ChangeShapes Go.WideShapes Go.ChangeAt Go.RowKit
set_option maxRecDepth 100000
set_option linter.unusedVariables false

theorem inB_press : inB 0 0 100000000 = true := by decide
/-- what leads to a node, for the walks -/
theorem Rooted.step {ps : List Pp} {n : Nat} {src : Int} {O Y : List Int} (R : Rooted ps n src O Y) (hj : Joins n ps) (hf : ps.all (fitB n) = true) (hm : ps.length ≤ 15) {x : Int} (x0 : 0 ≤ x) (x1 : x < n) (hs : x ≠ src) :
    ∃ p, ps[ixE (getI Y x)]? = some p ∧ pipeE ps (getI Y x) = p ∧ befI ps Y x = (if 0 < getI Y x then p.f else p.t) ∧ (-15 ≤ getI Y x ∧ getI Y x ≤ 15 ∧ getI Y x ≠ 0 ∧ absI (getI Y x) ≤ ps.length) ∧ pos O (befI ps Y x) < pos O x ∧ (0 ≤ befI ps Y x ∧ befI ps Y x < n) ∧ p.ok = true := by
  obtain ⟨p, h1, h2, h3, h4, h5, h6⟩ := R.lead hj x0 x1 hs
  have hl := (List.getElem?_eq_some_iff.1 h1).1
  refine ⟨p, h1, h2, ?_, ?_, h4, ⟨h5, h6⟩, (fitB_parts (List.all_eq_true.1 hf p (List.mem_of_getElem? h1))).1⟩
  · unfold befI; rw [h2]
  · generalize getI Y x = y at *
    rcases h3 with ⟨a, _, _⟩ | ⟨a, _, _⟩
    · refine ⟨by omega, by omega, by omega, ?_⟩
      unfold absI; split <;> omega
    · refine ⟨by omega, by omega, by omega, ?_⟩
      unfold absI; split <;> omega
theorem delO_at (ps : List Pp) (Y : List Int) (src : Int) (q : List Int) (f : Nat) (x : Int) : delO ps Y src q (f + 1) x = if x = src then some 0 else if alongI q (getI Y x) ≤ 0 then none else (delO ps Y src q f (befI ps Y x)).map fun t => delayI (pipeE ps (getI Y x)).L (pipeE ps (getI Y x)).d (alongI q (getI Y x)) + t := rfl
end Go.Proofs.Ytkbkmpcdidhagaa

/-
  A copy of numbers of the model; maths of a network without a pipe.
-/
namespace Go.Proofs.Ytkbkmpcdidhagaa
open Go.ChangeShapes Go.WideShapes Go.ChangeAt Go.RowKit
set_option maxRecDepth 100000
set_option linter.unusedVariables false

theorem l00Own_any (A : Option Addr) (c : Nat) (zs : List Int) (w : World) (h0 : 0 < zs.length) (hn : zs.length ≤ 1048576) (hA : CellsAt w A (intsV zs)) :
    Calls Try.prog 108 #[.slice A zs.length c] w (RetInts zs w) := by
  obtain ⟨i0, hi, hz0, hz1, hz2⟩ := info_parts infoI64
  have hlie : LiesIn w.heap.size A := fun b off e => by subst e; exact CellsAt.lies hA (by rw [intsV_length]; exact h0)
  obtain ⟨b, off, rfl, h1⟩ := hA (by rw [intsV_length]; exact h0)
  have hbl := hlie b off rfl
  have hcells : ∀ j u, (intsV zs)[j]? = some u → (w.alloc (.cells #[] 2)).cell? ((⟨b, off, none⟩ : Addr).add j) = some u := fun j u hj => by
    have hjl := (List.getElem?_eq_some_iff.1 hj).1
    have := h1 j hjl
    rw [hj] at this
    have e : ((⟨b, off, none⟩ : Addr).add j) = ⟨b, off + j, none⟩ := by simp [Addr.add]
    rw [e]
    exact (World.cell?_alloc_past _ _ _ (show b < w.heap.size from hbl)).trans this
  have hro := owns_empty w w.heap.size 2 (Nat.le_refl _)
  have hone := ints_oneCell .i64 zs
  have hl := intsV_length zs
  clear h1 hlie
  go_enter Try.func108, Try.ntmps108
  go_wp2_with (at_builtin; refine wpList_append_own _ rfl _ _ 22 rfl w.heap.size 2 i0 (.int .i64 0) 1 8 Try.underlying22 hi hz0 hz1 hz2 rfl (by decide) _ _ _ rfl hro ⟨b, off, none⟩ zs.length c (intsV zs) rfl (by rw [hl]; omega) hcells hone ?_ ?_ ?_ ?_; (unfold maxLen; omega); (omega); (simp); intro v1 w5 hown1 hgrow1 _; obtain ⟨A1, c1, rfl⟩ := owns_form hown1; rw [Nat.zero_add] at hown1; rw [List.nil_append] at hown1; rw [Nat.zero_add])
  go_ret
  exact ⟨A1, c1, rfl, hown1, (bal (Below.refl _ _) _).grown hgrow1 (by simp) (owns_ge hro)⟩

/-- the pipes but that with a name -/
def otherPipes (ps : List Pp) (id : ByteArray) : List Pp := ps.filter fun p => !(p.id.toList == id.toList)
theorem other_all {ps : List Pp} {id : ByteArray} (h : ∀ (j : Nat) (q : Pp), ps[j]? = some q → q.id ≠ id) : otherPipes ps id = ps := by
  unfold otherPipes
  rw [List.filter_eq_self]
  intro p hp
  obtain ⟨j, hj, rfl⟩ := List.getElem_of_mem hp
  have := h j _ (List.getElem?_eq_getElem hj)
  cases hb : (ps[j].id.toList == id.toList) with
  | false => rfl
  | true => exact absurd (ba_list.1 hb) this
theorem other_split {z : List Int} {ps : List Pp} {id : ByteArray} {k : Nat} {p : Pp} (hv : netB z ps = true) (hp : ps[k]? = some p) (e : p.id = id) : otherPipes ps id = ps.take k ++ ps.drop (k + 1) := by
  obtain ⟨hl, he⟩ := List.getElem?_eq_some_iff.1 hp
  have hsplit : ps = ps.take k ++ p :: ps.drop (k + 1) := by
    rw [← he, List.getElem_cons_drop, List.take_append_drop]
  have hne : ∀ (j : Nat) (q : Pp), ps[j]? = some q → j ≠ k → (!(q.id.toList == id.toList)) = true := fun j q hq hj => by
    cases hb : (q.id.toList == id.toList) with
    | false => rfl
    | true => exact absurd (rise_one hv hq hp ((ba_list.1 hb).trans e.symm)) hj
  have h1 : (ps.take k).filter (fun p => !(p.id.toList == id.toList)) = ps.take k := by
    rw [List.filter_eq_self]
    intro q hq
    obtain ⟨j, hj, rfl⟩ := List.getElem_of_mem hq
    rw [List.length_take] at hj
    rw [List.getElem_take]
    exact hne j _ (List.getElem?_eq_getElem (by omega)) (by omega)
  have h2 : (ps.drop (k + 1)).filter (fun p => !(p.id.toList == id.toList)) = ps.drop (k + 1) := by
    rw [List.filter_eq_self]
    intro q hq
    obtain ⟨j, hj, rfl⟩ := List.getElem_of_mem hq
    rw [List.length_drop] at hj
    rw [List.getElem_drop]
    exact hne (k + 1 + j) _ (List.getElem?_eq_getElem (by omega)) (by omega)
  have hf : (!(p.id.toList == id.toList)) = false := by
    rw [ba_list.2 e]
    rfl
  unfold otherPipes
  conv => lhs; rw [hsplit]
  rw [List.filter_append, List.filter_cons, hf, h1, h2]
  rfl
theorem other_short {z : List Int} {ps : List Pp} {id : ByteArray} {k : Nat} {p : Pp} (hv : netB z ps = true) (hp : ps[k]? = some p) (e : p.id = id) : (otherPipes ps id).length + 1 = ps.length := by
  obtain ⟨hl, he⟩ := List.getElem?_eq_some_iff.1 hp
  rw [other_split hv hp e, List.length_append, List.length_take, List.length_drop]
  omega

end Go.Proofs.Ytkbkmpcdidhagaa

/-
  The flows of a tree, of the model.
-/
namespace Go.Proofs.Ytkbkmpcdidhagaa
open Go.ChangeShapes Go.WideShapes Go.ChangeAt Go.RowKit
set_option maxRecDepth 100000
set_option linter.unusedVariables false

/-- two slices of numbers that are written into -/
structure SumAt (w0 wr : World) (gS cS gO cO n m : Nat) (S L : List Int) : Prop where
  hs : wr.ownsRow w0.heap.size 2 1 (.slice (some ⟨gS, 0, none⟩) n cS) n (intsV S)
  hl : wr.ownsRow w0.heap.size 2 1 (.slice (some ⟨gO, 0, none⟩) m cO) m (intsV L)
  ne : gS ≠ gO
  sl : S.length = n
  ll : L.length = m
  hb : Below w0.heap.size w0 wr
theorem getD_cell {l : List Int} {a : Nat} (h : a < l.length) : l[a] = l.getD a 0 := by rw [List.getD_eq_getElem?_getD, List.getElem?_eq_getElem h]; rfl
theorem SumAt.at {w0 wr : World} {gS cS gO cO n m : Nat} {S L : List Int} (H : SumAt w0 wr gS cS gO cO n m S L) {a : Nat} (h : a < n) : wr.cell? ⟨gS, a, none⟩ = some (.int .i64 (S.getD a 0)) ∧ wr.frozen? ⟨gS, a, none⟩ = false := by
  have := H.sl
  refine ⟨?_, H.hs.frozenAt a⟩
  rw [H.hs.cellAt a (by omega), intsV_at _ _ (by omega), getD_cell (by omega)]
theorem SumAt.mid {w0 wr : World} {gS cS gO cO n m : Nat} {S L : List Int} (H : SumAt w0 wr gS cS gO cO n m S L) (a : Nat) (v : Value) {j : Nat} (h : j < m) :
    (∃ y, (wr.setCell ⟨gS, a, none⟩ v).cell? ⟨gO, j, none⟩ = some (.int .i64 y)) ∧ (wr.setCell ⟨gS, a, none⟩ v).frozen? ⟨gO, j, none⟩ = false ∧ Below w0.heap.size w0 (wr.setCell ⟨gS, a, none⟩ v) := by
  have k1 := grown_set (grown_refl wr (some gS)) a none v
  have hl := owns_far H.hl k1 (fun e => H.ne e.symm)
  have := H.ll
  refine ⟨⟨L[j]'(by omega), ?_⟩, hl.frozenAt j, H.hb.grown k1 H.hb.size (fun k hk => ?_)⟩
  · rw [hl.cellAt j (by omega), intsV_at _ _ (by omega)]
  · obtain rfl : gS = k := by simpa using hk
    exact (H.hs.lt _ rfl).1
theorem SumAt.step {w0 wr : World} {gS cS gO cO n m : Nat} {S L : List Int} (H : SumAt w0 wr gS cS gO cO n m S L) (a j : Nat) (v u : Int) :
    SumAt w0 ((wr.setCell ⟨gS, a, none⟩ (.int .i64 v)).setCell ⟨gO, j, none⟩ (.int .i64 u)) gS cS gO cO n m (S.set a v) (L.set j u) := by
  have k1 := grown_set (grown_refl wr (some gS)) a none (.int .i64 v)
  have k2 := grown_set (grown_refl (wr.setCell ⟨gS, a, none⟩ (.int .i64 v)) (some gO)) j none (.int .i64 u)
  have hl := owns_far H.hl k1 (fun e => H.ne e.symm)
  have hs := (H.hs.stored a (.int .i64 v)).1
  have hl2 := (hl.stored j (.int .i64 u)).1
  rw [intsV_set] at hs hl2
  refine ⟨owns_far hs k2 H.ne, hl2, H.ne, by rw [List.length_set]; exact H.sl, by rw [List.length_set]; exact H.ll, (H.hb.grown k1 H.hb.size (fun k hk => ?_)).grown k2 (Nat.le_trans H.hb.size k1.size) (fun k hk => ?_)⟩
  · obtain rfl : gS = k := by simpa using hk
    exact (H.hs.lt _ rfl).1
  · obtain rfl : gO = k := by simpa using hk
    exact (H.hl.lt _ rfl).1
theorem owns_some {w : World} {base : Nat} {E : TypeId} {s n c : Nat} {A : Option Addr} {vs : List Value} (h : w.ownsRow base E s (.slice A n c) n vs) (h0 : 0 < n) : ∃ g, A = some ⟨g, 0, none⟩ := by
  rcases h.2 with ⟨_, hn⟩ | ⟨g, cap, cur, hv, _⟩
  · omega
  · injection hv with hA
    exact ⟨g, hA⟩
def sumL (ps : List Pp) (O Y q : List Int) (n k : Nat) : List Int := (countL n).map (sumG ps O Y q k)
theorem sumL_length (ps : List Pp) (O Y q : List Int) (n k : Nat) : (sumL ps O Y q n k).length = n := by unfold sumL; rw [List.length_map, countL_length]
theorem sumL_at (ps : List Pp) (O Y q : List Int) (n k : Nat) {x : Int} (x0 : 0 ≤ x) (x1 : x < n) : (sumL ps O Y q n k).getD x.toNat 0 = sumG ps O Y q k x := by
  unfold sumL countL
  rw [List.getD_eq_getElem?_getD, List.getElem?_map, List.getElem?_map, List.getElem?_range (by omega)]
  simp only [Option.map_some, Option.getD_some]
  rw [show ((x.toNat : Nat) : Int) = x by omega]
theorem sumL_zero (ps : List Pp) (O Y q : List Int) : sumL ps O Y q q.length 0 = q := by
  unfold sumL countL
  refine List.ext_getElem? fun i => ?_
  rw [List.getElem?_map, List.getElem?_map]
  by_cases h : i < q.length
  · rw [List.getElem?_range h, List.getElem?_eq_getElem h, getD_cell h]
    simp [sumG, getI]
  · rw [List.getElem?_eq_none (by simp; omega), List.getElem?_eq_none (by omega)]; rfl
theorem sumL_set (ps : List Pp) (O Y q : List Int) (n k : Nat) (b0 : 0 ≤ befI ps Y (lastO O k)) (b1 : befI ps Y (lastO O k) < n) : (sumL ps O Y q n k).set (befI ps Y (lastO O k)).toNat (sumG ps O Y q k (befI ps Y (lastO O k)) + sumG ps O Y q k (lastO O k)) = sumL ps O Y q n (k + 1) := by
  unfold sumL countL
  refine List.ext_getElem? fun i => ?_
  rw [List.getElem?_set, List.getElem?_map, List.getElem?_map, List.getElem?_map, List.getElem?_map, List.length_map, List.length_map, List.length_range]
  by_cases hi : i < n
  · rw [List.getElem?_range hi]
    simp only [Option.map_some]
    rw [sumG_at]
    by_cases h : (befI ps Y (lastO O k)).toNat = i
    · rw [if_pos h, if_pos (by omega), if_pos (by omega), show ((i : Nat) : Int) = befI ps Y (lastO O k) by omega]
    · rw [if_neg h, if_neg (by omega)]
  · rw [List.getElem?_eq_none (by simp; omega)]
    split
    · rw [if_neg (by omega)]; rfl
    · rfl
theorem pow_bd : ∀ k : Nat, k < 17 → (100000 : Int) * 2 ^ k ≤ 6553600000 := by decide
/-- flows, or none if one is too great -/
def RetTree (ok : Bool) (L : List Int) (w : World) (e : Ending) (w' : World) : Prop :=
  (ok = false ∧ e = .returned (.tuple #[.slice none 0 0, .bool false]) ∧ Below w.heap.size w w') ∨ (ok = true ∧ ∃ g c, e = .returned (.tuple #[.slice (some ⟨g, 0, none⟩) L.length c, .bool true]) ∧ w'.ownsRow w.heap.size 2 1 (.slice (some ⟨g, 0, none⟩) L.length c) L.length (intsV L) ∧ Below w.heap.size w w')
set_option maxHeartbeats 2000000 in
theorem l07Tree_any (bn : Nat) (A B : Option Addr) (c d : Nat) (z : List Int) (ps : List Pp) (src : Int) (Q : Option Addr) (qc : Nat) (q : List Int) (w : World) (hN : NetAt w bn A z.length c B ps.length d) (h : NetCells w A z B ps) (hn : z.length ≤ 16) (hm : ps.length ≤ 20) (hj : Joins z.length ps) (hf : ps.all (fitB z.length) = true) (hm15 : ps.length ≤ 15) (s0 : 0 ≤ src) (s1 : src < z.length) (hQ : CellsAt w Q (intsV q)) (hq : q.length = z.length) (hqa : allIn 0 100000 q = true) (O Y : List Int) (hO : (bfsOut ps z.length src z.length).1 = O) (hY : (bfsOut ps z.length src z.length).2 = Y) (R : Rooted ps z.length src O Y) :
    Calls Try.prog 59 #[.pointer (some ⟨bn, 0, none⟩), .int .i64 src, .slice Q q.length qc] w (RetTree (okF ps O Y q z.length src) (outF ps O Y q) w) := by
  obtain ⟨i0, hi, hz0, hz1, hz2⟩ := info_parts infoI64
  have hOR := l07Order_any bn A B c d z ps src w hN h hn hm hj s0 s1
  rw [hO, hY] at hOR
  have HC := Lib.hid h
  have HQ := Lib.hid hQ
  have HQL := Lib.hid hq
  have HOWN := Lib.hid (fun wx (hbx : Below w.heap.size w wx) => l00Own_any Q qc q wx (by omega) (by omega) (hQ.next hbx))
  clear h hQ hq
  go_enter Try.func59, Try.ntmps59
  have ⟨n0, n1⟩ := hN
  go_wp2_with (first
    | (go_at_call 122; go_must (refine hOR.mono ?_; rintro e w1 ⟨g0, c0, g1, c1, rfl, ho, hy, hne, hb1⟩; have hN := hN.next hb1; have HN1 := Lib.hid hN; have ⟨n0, n1⟩ := hN))
    | (go_at_call 108; go_must (refine (HOWN.out w1 hb1).mono ?_; rintro e w2 ⟨gs, cs, rfl, hs, hb2⟩; have hN := hN.next hb2; have ⟨n0, n1⟩ := hN; (obtain ⟨gS, rfl⟩ := owns_some hs (by have := HQL.out; omega)); rw [HQL.out] at hs))
    | (refine wpList_make_full _ rfl _ _ _ rfl w1.heap.size 2 i0 (.int .i64 0) 1 Try.underlying22 hi hz0 hz1 _ _ _ _ ps.length rfl rfl rfl rfl (by rw [hz2]; omega) (by unfold maxLen; omega) hb2.size ?_; intro w3 hown3 hgrow3; have hb3 := Below.grown hb2 hgrow3 hb2.size (fun k hk => by cases hk); have hN := hN.next (Below.grown (Below.refl _ _) hgrow3 (Nat.le_refl _) (fun k hk => by cases hk)); have hs3 := hs.kept hgrow3 (.inr (by simp [Value.ownBlock])); have hgs := (hs.lt _ rfl).2; have ⟨n0, n1⟩ := hN)
    | fail)
  rw [zeros_made] at hown3
  have hSA : SumAt w1 w3 gS cs w2.heap.size ps.length z.length ps.length (sumL ps O Y q z.length 0) (List.replicate ps.length 0) :=
    ⟨by rw [← HQL.out, sumL_zero, HQL.out]; exact hs3, hown3, by omega, sumL_length _ _ _ _ _ _, List.length_replicate .., hb3⟩
  have HSA := Lib.hid hSA
  have HN3 := Lib.hid hN
  have HB1 := Lib.hid hb1
  have HB3 := Lib.hid hb3
  have HYO := Lib.hid (owns_cells hy)
  have HOO := Lib.hid (owns_cells ho)
  have HY := Lib.hid hy
  have HO := Lib.hid ho
  have hol : 0 < O.length := (List.getElem?_eq_some_iff.1 R.ok.src).1
  have HOS := Lib.hid R.ok.short
  have HYL := Lib.hid R.ok.len
  have HR := Lib.hid R
  have HF := Lib.hid hf
  have HJ := Lib.hid hj
  have HQB := Lib.hid (fun (k : Nat) (x : Int) => sumG_bd (ps := ps) (O := O) (Y := Y) (q := q) (fun y => by have := getD_bd hqa (by omega) (by omega) y.toNat; exact this) k x)
  clear hSA hN hb1 hb3 hy ho hs3 hown3 hgrow3 hs hb2 hgs n0 n1 hOR HOWN hO hY R hf hj hqa
  go_loopw [12] (fun i wr => ∃ (j k : Nat) (L : List Int), j + k + 1 = O.length ∧ i = .int .i64 j ∧ SumAt w1 wr gS cs w2.heap.size ps.length z.length ps.length (sumL ps O Y q z.length k) L ∧ Hid (∀ x : Int, 0 ≤ x → x < z.length → j < pos O x → L[ixE (getI Y x)]? = some (flowF ps O Y q x) ∧ sumF ps O Y q x ≤ 100000)) (fun i _ => (intOf i).toNat)
  case atStart =>
    have hwr : wrap64 ((O.length : Int) - 1) = ((O.length - 1 : Nat) : Int) := by rw [IntWalk.wrap64_in _ (by have := HOS.out; omega)]; omega
    exact ⟨O.length - 1, 0, _, by omega, by rw [hwr], HSA.out, Lib.hid (fun x x0 x1 h => by have := pos_lt (HR.out.all x x0 x1); omega)⟩
  case round =>
    obtain ⟨j, k, L, hjk, rfl, H, HD⟩ := hrel
    have hl16 : O.length ≤ 16 := by have := HOS.out; omega
    by_cases hj0 : 0 < j
    · obtain ⟨h1, h2, h3, ⟨h4, h5⟩, h6, h7, h8⟩ := HR.out.last HJ.out (k := k) (by omega)
      obtain ⟨p, hp, hpe, hbf, ⟨y0, y1, y2, y3⟩, hps, -, hok⟩ := HR.out.step HJ.out HF.out hm15 h4 h5 h3
      have hbw := bnext HB1.out H.hb
      have HSS := Lib.hid (HR.out.sumF_at HJ.out q (k := k) (by omega))
      have HST := Lib.hid (sumL_set ps O Y q z.length k h7 h8)
      have hjj : O.length - 1 - k = j := by omega
      rw [hjj] at h1 h2 h6
      have hjl : j < O.length := by omega
      have cO : wr.cell? ⟨g0, j, none⟩ = some (.int .i64 (lastO O k)) := by
        obtain ⟨b, o, e, h1'⟩ := (HOO.out.next H.hb) (by rw [intsV_length]; omega)
        obtain ⟨rfl, rfl⟩ : g0 = b ∧ 0 = o := by simpa using e
        have := h1' j (by rw [intsV_length]; omega)
        rw [Nat.zero_add] at this
        rw [this, intsV_at _ _ hjl]
        rw [List.getElem?_eq_getElem hjl] at h1
        rw [Option.some.inj h1]
      have cY : wr.cell? ⟨g1, (lastO O k).toNat, none⟩ = some (.int .i64 (getI Y (lastO O k))) := by
        obtain ⟨b, o, e, h1'⟩ := (HYO.out.next H.hb) (by rw [intsV_length, HYL.out]; omega)
        obtain ⟨rfl, rfl⟩ : g1 = b ∧ 0 = o := by simpa using e
        have := h1' (lastO O k).toNat (by rw [intsV_length, HYL.out]; omega)
        rw [Nat.zero_add] at this
        rw [this, intsV_at _ _ (by rw [HYL.out]; omega)]
        unfold getI
        rw [getD_cell (by rw [HYL.out]; omega)]
      have ⟨cS, fS⟩ := H.at (a := (lastO O k).toNat) (by omega)
      have ⟨cB, fB⟩ := H.at (a := (befI ps Y (lastO O k)).toNat) (by omega)
      rw [sumL_at _ _ _ _ _ _ h4 h5] at cS
      rw [sumL_at _ _ _ _ _ _ h7 h8] at cB
      have hpow := pow_bd k (by omega)
      have hb1 := HQB.out k (lastO O k)
      have hb2 := HQB.out k (befI ps Y (lastO O k))
      have hx1 : lastO O k < q.length := by rw [HQL.out]; exact h5
      have hx2 : befI ps Y (lastO O k) < q.length := by rw [HQL.out]; exact h8
      obtain ⟨pb, po, hBe, hrow⟩ := pipe_at (HC.out.2.next hbw) (by have := (List.getElem?_eq_some_iff.1 hp).1; omega)
      subst hBe
      have hPO := hrow _ p hp
      have HIX := Lib.hid (show ixE (getI Y (lastO O k)) < ps.length from (List.getElem?_eq_some_iff.1 hp).1)
      have HBE := Lib.hid (fun wx (hbx : NetAt wx bn A z.length c (some ⟨pb, po, none⟩) ps.length d) (hpx : PipeO wx pb (po + ixE (getI Y (lastO O k)) * 6) p) => by have := l07Before_any bn A z.length c pb po d ps.length (getI Y (lastO O k)) p wx hbx hpx (by omega) (by omega) y2 y3 (by omega); rw [← hbf] at this; exact this)
      have hNr := HN1.out.next H.hb
      have ⟨n0, n1⟩ := hNr
      have HBF := Lib.hid hbf
      have HSTAY := Lib.hid h2
      have HPOSB := Lib.hid h6
      have HNS := Lib.hid h3
      have HFL := Lib.hid (show flowF ps O Y q (lastO O k) = if 0 < getI Y (lastO O k) then sumG ps O Y q k (lastO O k) else -sumG ps O Y q k (lastO O k) by unfold flowF; rw [HSS.out])
      by_cases hq1 : sumF ps O Y q (lastO O k) ≤ 100000
      · have HQ1 := Lib.hid hq1
        have hq2 : sumG ps O Y q k (lastO O k) ≤ 100000 := by rw [HSS.out]; exact hq1
        have HDN := Lib.hid (show ∀ x : Int, 0 ≤ x → x < z.length → j - 1 < pos O x → (L.set (ixE (getI Y (lastO O k))) (flowF ps O Y q (lastO O k)))[ixE (getI Y x)]? = some (flowF ps O Y q x) ∧ sumF ps O Y q x ≤ 100000 by
          intro x x0 x1 hx
          have hxs : x ≠ src := by rintro rfl; rw [pos_of HR.out.ok.nodup HR.out.ok.src] at hx; omega
          by_cases e : x = lastO O k
          · subst e
            exact ⟨by rw [List.getElem?_set_self (by rw [H.ll]; exact HIX.out)], hq1⟩
          · have hpx : j < pos O x := by
              rcases Nat.lt_or_ge j (pos O x) with h | h
              · exact h
              · exfalso
                have hj2 : pos O x = j := by omega
                have := pos_at (HR.out.all x x0 x1)
                rw [hj2, h1] at this
                exact e (Option.some.inj this).symm
            obtain ⟨d1, d2⟩ := HD.out x x0 x1 hpx
            refine ⟨?_, d2⟩
            rw [List.getElem?_set_ne (fun e2 => e (HR.out.ix_inj HJ.out ⟨x0, x1⟩ ⟨h4, h5⟩ hxs h3 e2.symm))]
            exact d1)
        have HMID := Lib.hid (fun a v => H.mid a v (j := ixE (getI Y (lastO O k))) HIX.out)
        have HH := Lib.hid H
        clear h1 h2 h3 h6 hp hpe hps hok hq1 hrow H HD
        rw [HFL.out] at HDN
        clear HFL hbf HSS
        have HBE1 := Lib.hid (HBE.out wr hNr hPO)
        clear HBE
        by_cases hw : 0 < getI Y (lastO O k)
        · rw [if_pos hw] at HDN
          obtain ⟨ix, hix, hiy⟩ : ∃ ix : Nat, ixE (getI Y (lastO O k)) = ix ∧ getI Y (lastO O k) = (ix : Int) + 1 := ⟨ixE (getI Y (lastO O k)), rfl, by have := ixE_cast y2; unfold absI at this; split at this <;> omega⟩
          rw [hix] at HDN HIX HMID
          have hil : ix < ps.length := HIX.out
          have ⟨⟨yo, cM⟩, fM, hbM⟩ := HMID.out (befI ps Y (lastO O k)).toNat (.int .i64 (sumG ps O Y q k (befI ps Y (lastO O k)) + sumG ps O Y q k (lastO O k)))
          have HS2 := Lib.hid (HH.out.step (befI ps Y (lastO O k)).toNat ix (sumG ps O Y q k (befI ps Y (lastO O k)) + sumG ps O Y q k (lastO O k)) (sumG ps O Y q k (lastO O k)))
          rw [HST.out] at HS2
          clear hix HMID hPO HIX
          generalize sumG ps O Y q k (lastO O k) = sy at *
          generalize sumG ps O Y q k (befI ps Y (lastO O k)) = sb at *
          generalize befI ps Y (lastO O k) = bx at *
          generalize getI Y (lastO O k) = yy at *
          generalize lastO O k = y at *
          subst hiy
          go_wp2_with (go_at_call 123; go_must (refine HBE1.out.mono ?_; rintro e w' ⟨rfl, rfl⟩))
          go_roundw
          case rel => exact ⟨j - 1, k + 1, _, by omega, by rw [show ((j - 1 : Nat) : Int) = (j : Int) - 1 by omega], HS2.out, HDN⟩
          case measure => simp [intOf]; omega
        · rw [if_neg hw] at HDN
          obtain ⟨ix, hix, hiy⟩ : ∃ ix : Nat, ixE (getI Y (lastO O k)) = ix ∧ getI Y (lastO O k) = -((ix : Int) + 1) := ⟨ixE (getI Y (lastO O k)), rfl, by have := ixE_cast y2; unfold absI at this; split at this <;> omega⟩
          rw [hix] at HDN HIX HMID
          have hil : ix < ps.length := HIX.out
          have ⟨⟨yo, cM⟩, fM, hbM⟩ := HMID.out (befI ps Y (lastO O k)).toNat (.int .i64 (sumG ps O Y q k (befI ps Y (lastO O k)) + sumG ps O Y q k (lastO O k)))
          have HS2 := Lib.hid (HH.out.step (befI ps Y (lastO O k)).toNat ix (sumG ps O Y q k (befI ps Y (lastO O k)) + sumG ps O Y q k (lastO O k)) (-sumG ps O Y q k (lastO O k)))
          rw [HST.out] at HS2
          clear hix HMID hPO HIX
          generalize sumG ps O Y q k (lastO O k) = sy at *
          generalize sumG ps O Y q k (befI ps Y (lastO O k)) = sb at *
          generalize befI ps Y (lastO O k) = bx at *
          generalize getI Y (lastO O k) = yy at *
          generalize lastO O k = y at *
          subst hiy
          go_wp2_with (go_at_call 123; go_must (refine HBE1.out.mono ?_; rintro e w' ⟨rfl, rfl⟩))
          go_roundw
          case rel => exact ⟨j - 1, k + 1, _, by omega, by rw [show ((j - 1 : Nat) : Int) = (j : Int) - 1 by omega], HS2.out, HDN⟩
          case measure => simp [intOf]; omega
      · have hq2 : 100000 < sumG ps O Y q k (lastO O k) := by rw [HSS.out]; omega
        have hok : okF ps O Y q z.length src = false := by
          rw [← Bool.not_eq_true, HR.out.okF_iff HJ.out q]
          exact fun h => hq1 (h _ h4 h5 h3)
        have HOK := Lib.hid hok
        clear h1 h2 h3 h6 hp hpe hbf hps hok hq1 cB fB hb2 hrow
        generalize sumG ps O Y q k (lastO O k) = sy at *
        generalize getI Y (lastO O k) = yy at *
        generalize lastO O k = y at *
        go_wp2
        go_ret2
        exact .inl ⟨HOK.out, rfl, hbw⟩
    · obtain rfl : j = 0 := by omega
      have hbw := bnext HB1.out H.hb
      have hnz : ∀ x : Int, 0 ≤ x → x < z.length → x ≠ src → 0 < pos O x := by
        intro x x0 x1 hs
        rcases Nat.eq_zero_or_pos (pos O x) with h | h
        · have := pos_at (HR.out.all x x0 x1)
          rw [h, HR.out.ok.src] at this
          exact absurd (Option.some.inj this).symm hs
        · exact h
      have hOK := (HR.out.okF_iff HJ.out q).2 (fun x x0 x1 hs => (HD.out x x0 x1 (hnz x x0 x1 hs)).2)
      have hL := HR.out.outs HJ.out q L H.ll (fun x x0 x1 hs => (HD.out x x0 x1 (hnz x x0 x1 hs)).1)
      subst hL
      have HX := Lib.hid (And.intro hOK H)
      have hbl := HB1.out.size
      clear hOK hnz H HD
      go_wp2
      go_ret2
      refine .inr ⟨HX.out.1, w2.heap.size, ps.length, by rw [outF_length]; rfl, ?_, hbw⟩
      have := owns_base' HX.out.2.hl hbl
      rw [outF_length]
      exact this
end Go.Proofs.Ytkbkmpcdidhagaa

/-
  TreeFlows of the model.
-/
namespace Go.Proofs.Ytkbkmpcdidhagaa
open Go.ChangeShapes Go.WideShapes Go.ChangeAt Go.RowKit
set_option maxRecDepth 100000
set_option linter.unusedVariables false
set_option linter.unusedSimpArgs false

theorem l07Begin_any (bn : Nat) (A B : Option Addr) (c d : Nat) (z : List Int) (ps : List Pp) (Q : Option Addr) (qc : Nat) (q : List Int) (src : Int) (w : World) (hN : NetAt w bn A z.length c B ps.length d) (h : NetCells w A z B ps) (hn : z.length ≤ 1048576) (hm : ps.length ≤ 1048576) (hid : ∀ p ∈ ps, p.id.size ≤ maxLen) (hQ : CellsAt w Q (intsV q)) (hq : q.length ≤ 1048576) :
    Calls Try.prog 58 #[.pointer (some ⟨bn, 0, none⟩), .int .i64 src, .slice Q q.length qc] w fun e w' => e = .returned (.int .i64 (preC z ps (inB src 0 ((z.length : Int) - 1)) (flB 0 100000 z.length q))) ∧ Below w.heap.size w w' := by
  have HK := Lib.hid (l07Ask_any bn A B c d z ps src w hN h hn hm hid)
  have HF := Lib.hid (fun wx (hx : NetAt wx bn A z.length c B ps.length d) (hb : Below w.heap.size w wx) => l07Demands_any bn A z.length c B ps.length d Q qc q wx hx hn hm hq (hQ.next hb))
  have HN := Lib.hid hN
  have HC := Lib.hid h
  by_cases hv : netB z ps = true
  · have hp := netB_parts hv
    have HT := Lib.hid (fun wx (hx : NetAt wx bn A z.length c B ps.length d) (hb : Below w.heap.size w wx) => l04IsTree_any bn A c B d z ps wx hx (by omega) (by omega) hp.2.2.1 (h.2.next hb) hp.2.2.2.1)
    unfold preC treeB
    rw [hv] at HK ⊢
    clear hp hv h hN hid hQ
    unfold argC at HK
    generalize inB src 0 ((z.length : Int) - 1) = b1 at *
    generalize flB 0 100000 z.length q = b3 at *
    generalize (decide (ps.length + 1 = z.length) && decide ((treeTo noneClosed z.length ps ps.length).length = ps.length)) = b4 at *
    cases b1 with
    | false =>
      go_enter Try.func58, Try.ntmps58
      go_wp2_with fail
      refine HK.out.mono ?_
      rintro e w1 ⟨rfl, hd⟩
      go_wp2
      go_ret
      exact ⟨rfl, drawn_below hd⟩
    | true =>
      cases b3 <;> cases b4
      all_goals (
        go_enter Try.func58, Try.ntmps58
        go_wp2_with fail
        refine HK.out.mono ?_
        rintro e w1 ⟨rfl, hd⟩
        have hb := drawn_below hd
        have HF1 := HF.out _ (HN.out.next hb) hb
        have HT1 := HT.out _ (HN.out.next hb) hb
        go_wp2_with (first | (go_at_call 120; refine HF1.mono ?_; rintro e w' ⟨rfl, rfl⟩) | (go_at_call 121; refine HT1.mono ?_; rintro e w' ⟨rfl, hb2⟩; have hb := bnext hb hb2))
        go_ret
        exact ⟨rfl, hb⟩)
  · have hv : netB z ps = false := by simpa using hv
    have e : preC z ps (inB src 0 ((z.length : Int) - 1)) (flB 0 100000 z.length q) = 1 := by unfold preC; rw [hv]; rfl
    rw [e]
    rw [hv] at HK
    unfold argC at HK
    clear e hv h hN hid hQ
    go_enter Try.func58, Try.ntmps58
    go_wp2_with fail
    refine HK.out.mono ?_
    rintro e w1 ⟨rfl, hd⟩
    go_wp2
    go_ret
    exact ⟨rfl, drawn_below hd⟩
def tfP (z : List Int) (ps : List Pp) (src : Int) (q : List Int) : Int := preC z ps (inB src 0 ((z.length : Int) - 1)) (flB 0 100000 z.length q)
def tfOk (z : List Int) (ps : List Pp) (src : Int) (q : List Int) : Bool := okF ps (bfsOut ps z.length src z.length).1 (bfsOut ps z.length src z.length).2 q z.length src
def tfOut (z : List Int) (ps : List Pp) (src : Int) (q : List Int) : List Int := outF ps (bfsOut ps z.length src z.length).1 (bfsOut ps z.length src z.length).2 q
def tfC (z : List Int) (ps : List Pp) (src : Int) (q : List Int) : Int := if tfP z ps src q = 0 then (if tfOk z ps src q then 0 else 5) else tfP z ps src q
/-- a call that returns a new slice of numbers and 0, or nil and a code -/
def RetFlows (C : Int) (L : List Int) (w : World) (e : Ending) (w' : World) : Prop :=
  (C ≠ 0 ∧ e = .returned (.tuple #[.slice none 0 0, .int .i64 C]) ∧ Below w.heap.size w w') ∨ (C = 0 ∧ ∃ g c, e = .returned (.tuple #[.slice (some ⟨g, 0, none⟩) L.length c, .int .i64 0]) ∧ w'.ownsRow w.heap.size 2 1 (.slice (some ⟨g, 0, none⟩) L.length c) L.length (intsV L) ∧ Below w.heap.size w w')
set_option maxHeartbeats 2000000 in
theorem specTreeFlows_any (A B : Option Addr) (c d : Nat) (z : List Int) (ps : List Pp) (src : Int) (Q : Option Addr) (qc : Nat) (q : List Int) (w : World) (h : NetCells w A z B ps) (hn : z.length ≤ 1048576) (hm : ps.length ≤ 1048576) (hid : ∀ p ∈ ps, p.id.size ≤ maxLen) (hQ : CellsAt w Q (intsV q)) (hq : q.length ≤ 1048576) :
    Calls Try.prog 16 #[.agg #[.slice A z.length c, .slice B ps.length d], .int .i64 src, .slice Q q.length qc] w (RetFlows (tfC z ps src q) (tfOut z ps src q) w) := by
  have hN := NetAt.new w A z.length c B ps.length d 31
  have hb : Below w.heap.size w (w.alloc (.cells #[.slice A z.length c, .slice B ps.length d] 31)) := bal (Below.refl _ _) _
  have HK := Lib.hid (l07Begin_any w.heap.size A B c d z ps Q qc q src _ hN (h.next hb) hn hm hid (hQ.next hb) hq)
  have e1 : preC z ps (inB src 0 ((z.length : Int) - 1)) (flB 0 100000 z.length q) = tfP z ps src q := rfl
  rw [e1] at HK
  by_cases h0 : tfP z ps src q = 0
  · have hpp := preC_net (e1.trans h0)
    have hfl := flB_parts hpp.2.2.1
    have ⟨R, hj, s0, s1, hm15, hn16⟩ := rooted_net hpp.1 hpp.2.2.2 hpp.2.1
    have hf := (netB_parts hpp.1).2.2.2.1
    have HT := Lib.hid (fun wx (hx : NetAt wx w.heap.size A z.length c B ps.length d) (hbx : Below w.heap.size w wx) => l07Tree_any w.heap.size A B c d z ps src Q qc q wx hx (h.next hbx) hn16 (by omega) hj hf hm15 s0 s1 (hQ.next hbx) hfl.1 hfl.2 _ _ rfl rfl R)
    have hC : tfC z ps src q = if tfOk z ps src q then 0 else 5 := by unfold tfC; rw [if_pos h0]
    have e2 : okF ps (bfsOut ps z.length src z.length).1 (bfsOut ps z.length src z.length).2 q z.length src = tfOk z ps src q := rfl
    have e3 : outF ps (bfsOut ps z.length src z.length).1 (bfsOut ps z.length src z.length).2 q = tfOut z ps src q := rfl
    rw [e2, e3] at HT
    rw [hC]
    rw [h0] at HK
    generalize tfOut z ps src q = L at *
    generalize tfOk z ps src q = ok at *
    obtain ⟨C, hCC⟩ : ∃ C : Int, (if ok = true then (0 : Int) else 5) = C := ⟨_, rfl⟩
    rw [hCC]
    have HCC := Lib.hid hCC
    clear h0 hpp hfl R hj s0 s1 hm15 hn16 hf h hid hQ hC e1 e2 e3 hCC
    go_enter Try.func16, Try.ntmps16
    have ⟨n0, n1⟩ := hN
    go_wp2_with fail
    refine HK.out.mono ?_
    rintro e w1 ⟨rfl, hb1⟩
    have hN := hN.next hb1
    have hb := bnext hb hb1
    clear n0 n1
    have ⟨n0, n1⟩ := hN
    have HT1 := HT.out _ hN hb
    clear HT
    go_wp2_with fail
    refine HT1.mono ?_
    rintro e w2 (⟨rfl, rfl, hb2⟩ | ⟨rfl, g, cg, rfl, ho, hb2⟩)
    · have hb := bnext hb hb2
      go_wp2
      go_ret2
      exact .inl ⟨by rw [← HCC.out]; decide, by rw [← HCC.out]; rfl, hb⟩
    · have hbo := hb.size
      have hb := bnext hb hb2
      go_wp2
      go_ret2
      exact .inr ⟨by rw [← HCC.out]; rfl, g, cg, rfl, owns_base' ho hbo, hb⟩
  · have hC : tfC z ps src q = tfP z ps src q := by unfold tfC; rw [if_neg h0]
    rw [hC]
    generalize tfP z ps src q = C at *
    have hCn : (C != 0) = true := by simpa using h0
    have HC0 := Lib.hid h0
    clear h hid hQ e1 hC h0
    go_enter Try.func16, Try.ntmps16
    have ⟨n0, n1⟩ := hN
    go_wp2_with fail
    refine HK.out.mono ?_
    rintro e w1 ⟨rfl, hb1⟩
    have hb := bnext hb hb1
    go_wp2
    go_ret2
    exact .inl ⟨HC0.out, rfl, hb⟩
end Go.Proofs.Ytkbkmpcdidhagaa

/-
  What a node and all nodes beyond it need, of the program: flows are written into a slice on the way.
-/
namespace Go.Proofs.Ytkbkmpcdidhagaa
open Go.ChangeShapes Go.WideShapes Go.ChangeAt Go.RowKit
set_option maxRecDepth 100000
set_option linter.unusedVariables false
set_option linter.unusedSimpArgs false

theorem exTurnedW_any (st nd fl : Int) (w : World) (h0 : -1000000000000 ≤ fl) (h1 : fl ≤ 1000000000000) :
    Calls Try.prog 127 #[.agg #[.int .i64 st, .int .i64 nd], .int .i64 fl] w fun e w' => e = .returned (.int .i64 (if st < 0 then -fl else fl)) ∧ Below w.heap.size w w' := by
  have hb : Below w.heap.size w w := Below.refl _ _
  by_cases hs : st < 0
  · rw [if_pos hs]
    have hs' : decide (st < 0) = true := decide_eq_true hs
    go_enter Try.func127, Try.ntmps127
    go_wp2
    go_ret
    first | exact ⟨rfl, hb⟩ | exact ⟨rfl, (bal hb _)⟩ | exact ⟨rfl, (bal (bal hb _) _)⟩
  · rw [if_neg hs]
    have hs' : decide (st < 0) = false := decide_eq_false hs
    go_enter Try.func127, Try.ntmps127
    go_wp2
    go_ret
    first | exact ⟨rfl, hb⟩ | exact ⟨rfl, (bal hb _)⟩ | exact ⟨rfl, (bal (bal hb _) _)⟩
/-- the flows to some nodes stand in a list -/
def DoneL (ps : List Pp) (O Y q : List Int) (n : Nat) (src : Int) (L : List Int) (M : Int → Prop) : Prop :=
  L.length = ps.length ∧ ∀ x : Int, 0 ≤ x → x < n → x ≠ src → M x → L[ixE (getI Y x)]? = some (flowF ps O Y q x)
theorem DoneL.put {ps : List Pp} {O Y q L : List Int} {n : Nat} {src : Int} {M : Int → Prop} (R : Rooted ps n src O Y) (hj : Joins n ps) (h : DoneL ps O Y q n src L M) {y : Int} (y0 : 0 ≤ y) (y1 : y < n) (ys : y ≠ src) : DoneL ps O Y q n src (L.set (ixE (getI Y y)) (flowF ps O Y q y)) (fun x => x = y ∨ M x) := by
  refine ⟨by rw [List.length_set]; exact h.1, fun x x0 x1 hs hx => ?_⟩
  obtain ⟨p, hp, _⟩ := R.lead hj y0 y1 ys
  have hk := (List.getElem?_eq_some_iff.1 hp).1
  by_cases e : ixE (getI Y y) = ixE (getI Y x)
  · have e2 := R.ix_inj hj ⟨y0, y1⟩ ⟨x0, x1⟩ ys hs e
    subst e2
    rw [List.getElem?_set_self (by rw [h.1]; exact hk)]
  · rw [List.getElem?_set_ne e]
    rcases hx with rfl | hx
    · exact absurd rfl e
    · exact h.2 x x0 x1 hs hx
/-- sums of the first ones of some nodes -/
def partF (ps : List Pp) (O Y q : List Int) (l : List (Int × Int)) (k : Nat) : Int := ((l.take k).map (fun e => sumF ps O Y q e.2)).sum
theorem partF_succ {ps : List Pp} {O Y q : List Int} {l : List (Int × Int)} {k : Nat} {e : Int × Int} (h : l[k]? = some e) : partF ps O Y q l (k + 1) = partF ps O Y q l k + sumF ps O Y q e.2 := by
  unfold partF
  obtain ⟨hl, he⟩ := List.getElem?_eq_some_iff.1 h
  rw [List.take_succ_eq_append_getElem hl, he, List.map_append, List.sum_append]
  simp
theorem partF_all {ps : List Pp} {O Y q : List Int} {l : List (Int × Int)} : partF ps O Y q l l.length = (l.map (fun e => sumF ps O Y q e.2)).sum := by unfold partF; rw [List.take_length]
theorem partF_bd {ps : List Pp} {O Y q : List Int} {l : List (Int × Int)} (h : ∀ x, 0 ≤ sumF ps O Y q x ∧ sumF ps O Y q x ≤ 6553600000) : ∀ (k : Nat), 0 ≤ partF ps O Y q l k ∧ partF ps O Y q l k ≤ 6553600000 * k
  | 0 => by simp [partF]
  | k + 1 => by
    have ih := partF_bd (l := l) h k
    by_cases hk : k < l.length
    · rw [partF_succ (List.getElem?_eq_getElem hk)]
      have := h l[k].2
      omega
    · have e : partF ps O Y q l (k + 1) = partF ps O Y q l k := by unfold partF; rw [List.take_of_length_le (by omega), List.take_of_length_le (by omega)]
      rw [e]
      omega
/-- a node's need is answered, and the flows beyond it are written -/
def RetCarried (base gF cF : Nat) (ps : List Pp) (O Y q : List Int) (src v : Int) (n : Nat) (M : Int → Prop) (w : World) (e : Ending) (w' : World) : Prop :=
  e = .returned (.int .i64 (sumF ps O Y q v)) ∧ w.grownBy w' (some gF) ∧ ∃ (L' : List Int) (M' : Int → Prop), w'.ownsRow base 2 1 (.slice (some ⟨gF, 0, none⟩) ps.length cF) ps.length (intsV L') ∧ DoneL ps O Y q n src L' M' ∧ (∀ x, M x → M' x) ∧ ∀ x : Int, 0 ≤ x → x < n → Under ps Y src v x → M' x
set_option maxHeartbeats 2000000 in
theorem carry_any (base gb mb mn gF cF : Nat) (src : Int) (A B Q : Option Addr) (n c d qc : Nat) (ps : List Pp) (O Y q : List Int) (R : Rooted ps n src O Y) (hj : Joins n ps) (s0 : 0 ≤ src) (s1 : src < n) (hm : ps.length ≤ 15) (hn : n ≤ 16) (D : DataW Unit) (M0 : Int → Prop) (hD : MapOk D M0) (hM0 : ∀ x : Int, 0 ≤ x → x < n → M0 x) (hgF : gb ≠ gF) (hmF : mb ≠ gF) (hfB : FreeOf gF B (rowsP ps)) (hfQ : FreeOf gF Q (intsV q)) (hql : q.length = n) (hqa : allIn 0 100000 q = true) :
    ∀ (f : Nat) (v : Int) (L : List Int) (M : Int → Prop) (w : World), 0 ≤ v → v < n → n ≤ pos O v + f → GridAt w gb A n c B ps.length d noneClosed → CellsAt w B (rowsP ps) → CellsAt w Q (intsV q) → w.ownsMap Try.prog 2 (legR ps Y src n) mb mn D → w.ownsRow base 2 1 (.slice (some ⟨gF, 0, none⟩) ps.length cF) ps.length (intsV L) → DoneL ps O Y q n src L M →
    Calls Try.prog 65 #[.agg #[.pointer (some ⟨gb, 0, none⟩), .int .i64 src, .slice (some ⟨gF, 0, none⟩) ps.length cF, .map (some mb)], .int .i64 v, .slice Q n qc] w (RetCarried base gF cF ps O Y q src v n M w)
  | 0, v, L, M, w, v0, v1, hf, _, _, _, _, _, _ => by
    have := pos_lt (R.all v v0 v1)
    have := R.ok.short
    omega
  | f + 1, v, L, M, w, v0, v1, hf, hG, hB, hQ, ho, hr, hdl => by
    have hL := R.legs hj s0 s1
    have HIH := Lib.hid (carry_any base gb mb mn gF cF src A B Q n c d qc ps O Y q R hj s0 s1 hm hn D M0 hD hM0 hgF hmF hfB hfQ hql hqa f)
    have HCH := Lib.hid (fun wx (hbx : Below w.heap.size w wx) => children_any gb mb mn (some ⟨gF, 0, none⟩) ps.length cF src v A B n c d ps Y D M0 wx (hG.next hbx) (hB.next hbx) (by omega) hL hn hD (hM0 v v0 v1) v0 v1 (ownsMap_below ho hbx))
    have HK := Lib.hid (fun e he => R.kid hj v0 v1 (e := e) he)
    have HKS := Lib.hid (fun x x0 x1 hs => R.lead hj (x := x) x0 x1 hs)
    have HU := Lib.hid (fun k x h0 h1 h => R.under_kid hj v k x h0 h1 h)
    have HSF := Lib.hid (R.sumF_eq hj q v0 v1)
    have HSB := Lib.hid (fun x => by
      have h1 := sumG_bd (ps := ps) (O := O) (Y := Y) (q := q) (fun y => by have := getD_bd hqa (by omega) (by omega) y.toNat; exact this) (O.length - 1) x
      have h2 := pow_bd (O.length - 1) (by have := R.ok.short; omega)
      exact (⟨h1.1, by have := h1.2; omega⟩ : 0 ≤ sumG ps O Y q (O.length - 1) x ∧ sumG ps O Y q (O.length - 1) x ≤ 6553600000))
    have HPB := Lib.hid (fun (l : List (Int × Int)) k => partF_bd (ps := ps) (O := O) (Y := Y) (q := q) (l := l) HSB.out k)
    have hks := kids_short ps Y src v
    have hqv := getD_bd hqa (by omega) (by omega) v.toNat
    have HPUT := Lib.hid (fun L M (h : DoneL ps O Y q n src L M) y y0 y1 ys => h.put R hj (y := y) y0 y1 ys)
    generalize kids ps Y src v = l at *
    have hcq : w.cell? (match Q with | some a => ⟨a.block, a.off + v.toNat, none⟩ | none => ⟨0, 0, none⟩) = w.cell? (match Q with | some a => ⟨a.block, a.off + v.toNat, none⟩ | none => ⟨0, 0, none⟩) := rfl
    obtain ⟨qb, qo, hQe, hqc⟩ := hQ (by rw [intsV_length]; omega)
    subst hQe
    have cQ := hqc v.toNat (by rw [intsV_length]; omega)
    rw [intsV_at _ _ (by omega), getD_cell (by omega)] at cQ
    have HQ0 := Lib.hid (show CellsAt w (some ⟨qb, qo, none⟩) (intsV q) from fun _ => ⟨qb, qo, rfl, hqc⟩)
    have hgq : getI q v = q.getD v.toNat 0 := rfl
    rw [hgq] at HSF
    generalize q.getD v.toNat 0 = qv at *
    clear hcq hqc hgq
    have hrl := hr.lt _ rfl
    have hgbl := hG.1.lies
    have hmbw := ho.lt
    have HG0 := Lib.hid hG
    have HB0 := Lib.hid hB
    have HO0 := Lib.hid ho
    have HR0 := Lib.hid hr
    have HD0 := Lib.hid hdl
    have hbA : Below w.heap.size w (w.alloc (.cells #[.pointer (some ⟨gb, 0, none⟩), .int .i64 src, .slice (some ⟨gF, 0, none⟩) ps.length cF, .map (some mb)] 86)) := bal (Below.refl _ _) _
    have hS := StreamAt.new w gb mb src (some ⟨gF, 0, none⟩) ps.length cF 86
    have cQ := cellNext cQ hbA
    clear hG hB hQ ho hr hdl
    go_enter Try.func65, Try.ntmps65
    go_wp2_with fail
    refine (HCH.out _ hbA).mono ?_
    rintro e w1 ⟨A1, c1, rfl, oL, hb1⟩
    have hS := hS.next hb1
    have hb := bnext hbA hb1
    have hsz : w.heap.size + 1 ≤ w1.heap.size := by have := hb1.size; simp at this; exact this
    have HOL := Lib.hid oL
    have HS := Lib.hid hS
    have HB1 := Lib.hid hb
    clear HCH hbA hb1 oL hS hb cQ
    go_wp2_with fail
    go_loopw [6, 18] (fun wv i wr => ∃ (k : Nat) (L' : List Int) (M' : Int → Prop), k ≤ l.length ∧ i = .int .i64 k ∧ wv = .int .i64 (qv + partF ps O Y q l k) ∧ wr.ownsRow base 2 1 (.slice (some ⟨gF, 0, none⟩) ps.length cF) ps.length (intsV L') ∧ DoneL ps O Y q n src L' M' ∧ (∀ x, M x → M' x) ∧ (∀ j e, j < k → l[j]? = some e → M' e.2 ∧ ∀ x : Int, 0 ≤ x → x < n → Under ps Y src e.2 x → M' x) ∧ w1.grownBy wr (some gF)) (fun _ i _ => l.length - (intOf i).toNat)
    case atStart => exact ⟨0, L, M, Nat.zero_le _, rfl, by simp [partF], HR0.out.kept (grown_of_below HB1.out none) (.inr (by simp [Value.ownBlock])), HD0.out, fun x h => h, fun j e h => by omega, grown_refl _ _⟩
    case round =>
      obtain ⟨k, L', M', hk, rfl, rfl, hro, hdl, hMM, hdone, hg⟩ := hrel
      have HDN := Lib.hid hdone
      have HMM := Lib.hid hMM
      have HD1 := Lib.hid hdl
      clear hdone hMM hdl
      by_cases hlt : k < l.length
      · obtain ⟨g, rfl, hg0, hg1, hleg⟩ := legs_at HOL.out (by omega)
        have hx := List.getElem?_eq_getElem hlt
        have hLA := hleg k _ hx
        have hmem := List.getElem_mem hlt
        have HX := Lib.hid hx
        have hke := HK.out _ hmem
        have HPS := Lib.hid (partF_succ (ps := ps) (O := O) (Y := Y) (q := q) hx)
        have hpb := HPB.out l k
        generalize hE : l[k] = ee at *
        obtain ⟨st, nd⟩ := ee
        clear hE hleg hx hmem
        simp only at hke hLA HPS
        obtain ⟨k1, k2, k3, k4, k5⟩ := hke
        have hgF' : g ≠ gF := by have h2 : w.heap.size + 1 ≤ g := (by simpa using hg0); omega
        have hcell : ∀ j, j < 9 → wr.cell? ⟨g, k * 9 + j, none⟩ = (legCs ps st nd v)[j]? := fun j hj => (World.cell?_of_block (a := ⟨g, k * 9 + j, none⟩) (hg.block g hg1 (fun e => hgF' (by simpa using e)))).trans (hLA j hj)
        have l0 : wr.cell? ⟨g, k * 9, none⟩ = some (.int .i64 st) := hcell 0 (by omega)
        have l1 : wr.cell? ⟨g, k * 9 + 1, none⟩ = some (.int .i64 nd) := hcell 1 (by omega)
        have l2 : wr.cell? ⟨g, k * 9 + 2, none⟩ = some (.string (pipeE ps st).id) := hcell 2 (by omega)
        have l3 : wr.cell? ⟨g, k * 9 + 3, none⟩ = some (.int .i64 (pipeE ps st).f) := hcell 3 (by omega)
        have l4 : wr.cell? ⟨g, k * 9 + 4, none⟩ = some (.int .i64 (pipeE ps st).t) := hcell 4 (by omega)
        have l5 : wr.cell? ⟨g, k * 9 + 5, none⟩ = some (.int .i64 (pipeE ps st).L) := hcell 5 (by omega)
        have l6 : wr.cell? ⟨g, k * 9 + 6, none⟩ = some (.int .i64 (pipeE ps st).d) := hcell 6 (by omega)
        have l7 : wr.cell? ⟨g, k * 9 + 7, none⟩ = some (.int .i64 (pipeE ps st).s) := hcell 7 (by omega)
        have l8 : wr.cell? ⟨g, k * 9 + 8, none⟩ = some (.int .i64 v) := hcell 8 (by omega)
        clear hcell hLA
        obtain ⟨p0, hp0, _, hst, _⟩ := HKS.out nd k4.1 k4.2 k3
        rw [k1] at hp0 hst
        have hix := (List.getElem?_eq_some_iff.1 hp0).1
        have hst0 : st ≠ 0 := by rcases hst with ⟨a, _⟩ | ⟨a, _⟩ <;> omega
        have hcast := ixE_cast hst0
        have HTU := Lib.hid (fun wx => (exTurnedW_any st nd (sumF ps O Y q nd) wx (by have := HSB.out nd; unfold sumF; omega) (by have := HSB.out nd; unfold sumF; omega)).mono (fun e w' hh => (show e = .returned (.int .i64 (flowF ps O Y q nd)) ∧ Below wx.heap.size wx w' from by
          refine ⟨?_, hh.2⟩
          rw [hh.1]
          unfold flowF
          rw [k1]
          by_cases hs : st < 0
          · rw [if_pos hs, if_neg (by omega)]
          · rw [if_neg hs, if_pos (by omega)])))
        have HIX := Lib.hid (fun wx => exIndex_any st nd wx (by rcases hst with ⟨a, _⟩ | ⟨a, _⟩ <;> omega) (by rcases hst with ⟨a, _⟩ | ⟨a, _⟩ <;> omega))
        rw [← hcast] at HIX
        have HPT := Lib.hid (fun L M (h : DoneL ps O Y q n src L M) => by have := HPUT.out L M h nd k4.1 k4.2 k3; rw [k1] at this; exact this)
        have hnb : 0 ≤ sumF ps O Y q nd ∧ sumF ps O Y q nd ≤ 6553600000 := HSB.out nd
        generalize flowF ps O Y q nd = fv at *
        generalize pipeE ps st = p at *
        have hal := bal (Below.refl wr.heap.size wr) (.cells #[.int .i64 st, .int .i64 nd, .string p.id, .int .i64 p.f, .int .i64 p.t, .int .i64 p.L, .int .i64 p.d, .int .i64 p.s, .int .i64 v] 156)
        have hgA : w1.grownBy (wr.alloc (.cells #[.int .i64 st, .int .i64 nd, .string p.id, .int .i64 p.f, .int .i64 p.t, .int .i64 p.L, .int .i64 p.d, .int .i64 p.s, .int .i64 v] 156)) (some gF) := hg.trans (grown_of_below hal _)
        have hgW : w.grownBy (wr.alloc (.cells #[.int .i64 st, .int .i64 nd, .string p.id, .int .i64 p.f, .int .i64 p.t, .int .i64 p.L, .int .i64 p.d, .int .i64 p.s, .int .i64 v] 156)) (some gF) := (grown_of_below HB1.out _).trans hgA
        have hSr := (HS.out.keep (hg.block w.heap.size (by omega) (fun e => by have e : w.heap.size = gF := (by simpa using e); omega))).next hal
        have hX : ExAt (wr.alloc (.cells #[.int .i64 st, .int .i64 nd, .string p.id, .int .i64 p.f, .int .i64 p.t, .int .i64 p.L, .int .i64 p.d, .int .i64 p.s, .int .i64 v] 156)) wr.heap.size st nd := by
          have hh := heap_alloc_new wr (.cells #[.int .i64 st, .int .i64 nd, .string p.id, .int .i64 p.f, .int .i64 p.t, .int .i64 p.L, .int .i64 p.d, .int .i64 p.s, .int .i64 v] 156)
          exact ⟨(cell_of_row _ wr.heap.size 0 _ _ _ hh).trans rfl, (cell_of_row _ wr.heap.size 1 _ _ _ hh).trans rfl⟩
        have hra := hro.kept (World.grownBy_alloc wr (.cells #[.int .i64 st, .int .i64 nd, .string p.id, .int .i64 p.f, .int .i64 p.t, .int .i64 p.L, .int .i64 p.d, .int .i64 p.s, .int .i64 v] 156) none) (.inr (by simp [Value.ownBlock]))
        have HCA := Lib.hid (HIH.out nd L' M' (wr.alloc (.cells #[.int .i64 st, .int .i64 nd, .string p.id, .int .i64 p.f, .int .i64 p.t, .int .i64 p.L, .int .i64 p.d, .int .i64 p.s, .int .i64 v] 156)) (by omega) (by omega) (by omega) (HG0.out.grown hgW hgF) (HB0.out.grownBy hgW hfB) (HQ0.out.grownBy hgW hfQ) (HO0.out.kept hgW (by intro e; have e : mb = gF := (by simpa using e); omega)) hra HD1.out)
        have ⟨s0', s1', s2', s3'⟩ := hSr
        have ⟨x0, x1⟩ := hX
        have hgFr : gF < wr.heap.size := by have := hg.size; omega
        have hwr : w.heap.size < wr.heap.size := by have := hg.size; omega
        have HHG := Lib.hid hgA
        clear hro hra hgA hgW hal
        go_wp2_with (go_at_call 65; go_must (refine HCA.out.mono ?_; rintro e w3 ⟨rfl, hg3, L3, M3, hr3, hd3, hMM3, hU3⟩; have hS3 := hSr.keep (hg3.block w.heap.size (by simp; omega) (fun e => by have e : w.heap.size = gF := (by simpa using e); omega)); have ⟨s0', s1', s2', s3'⟩ := hS3; have hX3 : ExAt w3 wr.heap.size st nd := ⟨(World.cell?_of_block (a := ⟨wr.heap.size, 0, none⟩) (hg3.block wr.heap.size (by simp) (fun e => by have e : wr.heap.size = gF := (by simpa using e); omega))).trans hX.1, (World.cell?_of_block (a := ⟨wr.heap.size, 1, none⟩) (hg3.block wr.heap.size (by simp) (fun e => by have e : wr.heap.size = gF := (by simpa using e); omega))).trans hX.2⟩; have ⟨x0, x1⟩ := hX3; have hgc := HHG.out.trans hg3))
        generalize sumF ps O Y q nd = sn at *
        have HPT3 := Lib.hid (HPT.out L3 M3 hd3)
        have HMM3 := Lib.hid hMM3
        have HU3 := Lib.hid hU3
        have hL3 := hd3.1
        have ⟨⟨yF, cF0⟩, fF0⟩ : (∃ y, w3.cell? ⟨gF, ixE st, none⟩ = some (.int .i64 y)) ∧ w3.frozen? ⟨gF, ixE st, none⟩ = false := ⟨⟨L3[ixE st]'(by omega), by rw [hr3.cellAt (ixE st) (by omega), intsV_at _ _ (by omega)]⟩, hr3.frozenAt _⟩
        have hgF3 : gF < w3.heap.size := World.block_lt_of_cell? _ _ cF0
        have HPBD := Lib.hid hpb
        clear hpb hS3 hX3 hSr hX hd3 hMM3 hU3 hL3 l0 l1 l2 l3 l4 l5 l6 l7 l8 HPT HCA
        clear hst hst0 hp0 hcast
        generalize ixE st = ix at *
        clear s0' s1' s3'
        have hr3 : w3.drew.ownsRow base 2 1 (.slice (some ⟨gF, 0, none⟩) ps.length cF) ps.length (intsV L3) := hr3
        have x0 : w3.drew.cell? ⟨wr.heap.size, 0, none⟩ = some (.int .i64 st) := x0
        have x1 : w3.drew.cell? ⟨wr.heap.size, 1, none⟩ = some (.int .i64 nd) := x1
        have s2' : w3.drew.cell? ⟨w.heap.size, 2, none⟩ = some (.slice (some ⟨gF, 0, none⟩) ps.length cF) := s2'
        have cF0 : w3.drew.cell? ⟨gF, ix, none⟩ = some (.int .i64 yF) := cF0
        have fF0 : w3.drew.frozen? ⟨gF, ix, none⟩ = false := fF0
        have hgF3 : gF < w3.drew.heap.size := hgF3
        have hi0 : (0 : Int) ≤ (ix : Int) := by omega
        have hi1 : (ix : Int) < (ps.length : Int) := by omega
        have hgc : w1.grownBy w3.drew (some gF) := hgc.trans (grown_of_below (below_drewN (Below.refl _ _) 1) _)
        go_region_held3 (fun w' => w'.cell? ⟨w.heap.size, 2, none⟩ = some (.slice (some ⟨gF, 0, none⟩) ps.length cF) ∧ w'.cell? ⟨wr.heap.size, 0, none⟩ = some (.int .i64 st) ∧ w'.cell? ⟨wr.heap.size, 1, none⟩ = some (.int .i64 nd)) (first | exact ⟨s2', x0, x1⟩ | exact ⟨cell_set_other s2' (.inl (by omega)), cell_set_other x0 (.inl (by omega)), cell_set_other x1 (.inl (by omega))⟩) (first
          | (go_at_call 128; go_must (refine (HIX.out _).mono ?_; rintro e wq ⟨rfl, hbq⟩; have hr3 := hr3.kept (grown_of_below hbq none) (.inr (by simp [Value.ownBlock])); have x0 := cellNext x0 hbq; have x1 := cellNext x1 hbq; have s2' := cellNext s2' hbq; have hgc := hgc.trans (grown_of_below hbq _); have cF0 := cellNext cF0 hbq; have fF0 := (World.frozen?_of_block (a := ⟨gF, ix, none⟩) (hbq.block gF hgF3)).trans fF0; have hgF3 : gF < wq.heap.size := World.block_lt_of_cell? _ _ cF0))
          | (go_at_call 127; go_must (refine (HTU.out _).mono ?_; rintro e wq2 ⟨rfl, hbq⟩; have hr3 := hr3.kept (grown_of_below hbq none) (.inr (by simp [Value.ownBlock])); have x0 := cellNext x0 hbq; have x1 := cellNext x1 hbq; have s2' := cellNext s2' hbq; have hgc := hgc.trans (grown_of_below hbq _); have cF0 := cellNext cF0 hbq; have fF0 := (World.frozen?_of_block (a := ⟨gF, ix, none⟩) (hbq.block gF hgF3)).trans fF0; have hgF3 : gF < wq2.heap.size := World.block_lt_of_cell? _ _ cF0)))
        have HR4 := Lib.hid (hr3.stored ix (.int .i64 fv)).1
        rw [intsV_set] at HR4
        have HG4 := Lib.hid (grown_set hgc ix none (.int .i64 fv))
        clear hr3 hgc hg3
        go_wp2
        go_roundw
        case rel =>
          refine ⟨k + 1, L3.set ix fv, _, by omega, by go_num, by have := HPBD.out; rw [HPS.out, IntWalk.wrap64_in _ (by omega), Int.add_assoc], HR4.out, HPT3.out, fun x h => .inr (HMM3.out x (HMM.out x h)), fun j e hj he => ?_, HG4.out⟩
          by_cases hjk : j = k
          · subst hjk
            rw [HX.out] at he
            obtain rfl : (st, nd) = e := by simpa using he
            exact ⟨.inl rfl, fun x h0 h1 hu => .inr (HU3.out x h0 h1 hu)⟩
          · have := HDN.out j e (by omega) he
            exact ⟨.inr (HMM3.out _ this.1), fun x h0 h1 hu => .inr (HMM3.out _ (this.2 x h0 h1 hu))⟩
        case measure => simp [intOf]; omega
      · obtain rfl : k = l.length := by omega
        rw [partF_all, ← HSF.out]
        have HGE := Lib.hid ((grown_of_below HB1.out _).trans hg)
        have HRO := Lib.hid hro
        clear hg hro
        go_wp2
        go_ret
        refine ⟨rfl, HGE.out, L', M', HRO.out, HD1.out, HMM.out, fun x x0 x1 hu => ?_⟩
        obtain ⟨j, hu⟩ := hu
        obtain ⟨e, he, hc⟩ := HU.out j x x0 x1 hu
        obtain ⟨i, hi⟩ := List.mem_iff_getElem?.1 he
        have := HDN.out i e (List.getElem?_eq_some_iff.1 hi).1 hi
        rcases hc with rfl | hc
        · exact this.1
        · exact this.2 x x0 x1 hc
end Go.Proofs.Ytkbkmpcdidhagaa

/-
  The codes of chapter 7 of the program.
-/
namespace Go.Proofs.Ytkbkmpcdidhagaa
open Go.ChangeShapes Go.WideShapes Go.ChangeAt Go.RowKit
set_option maxRecDepth 100000
set_option linter.unusedVariables false
set_option linter.unusedSimpArgs false

theorem treeCode_any (A B : Option Addr) (c d : Nat) (z : List Int) (ps : List Pp) (r s : Bool) (w : World) (h : NetCells w A z B ps) (hn : z.length ≤ 1048576) (hm : ps.length ≤ 1048576) (hid : ∀ p ∈ ps, p.id.size ≤ maxLen) :
    Calls Try.prog 61 #[.agg #[.slice A z.length c, .slice B ps.length d], .bool r, .bool s] w fun e w' => e = .returned (.int .i64 (preC z ps r s)) ∧ Below w.heap.size w w' := by
  have hb : Below w.heap.size w (w.alloc (.cells #[.slice A z.length c, .slice B ps.length d] 31)) := bal (Below.refl _ _) _
  have hN := NetAt.new w A z.length c B ps.length d 31
  have HCD := Lib.hid (fun wx (hx : Below w.heap.size w wx) => code_any A B c d z ps r wx (h.next hx) hn hm hid)
  have HT := Lib.hid (fun wx (hx : Below w.heap.size w wx) => implIsTree_b A B c d z ps wx (h.next hx) hn hm hid)
  clear h hid
  unfold isTreeB at HT
  unfold preC treeB
  unfold argC at HCD
  generalize netB z ps = vb at *
  generalize (decide (ps.length + 1 = z.length) && decide ((treeTo noneClosed z.length ps ps.length).length = ps.length)) = tb at *
  have ⟨n0, n1⟩ := hN
  cases vb <;> cases r <;> cases s <;> cases tb
  all_goals (
    go_enter Try.func61, Try.ntmps61
    go_wp2_with (first
      | (go_at_call 77; go_must (refine (HCD.out _ hb).mono ?_; rintro e w1 ⟨rfl, hb1⟩; have hN := hN.next hb1; have hb := bnext hb hb1; have ⟨n0, n1⟩ := hN))
      | (go_at_call 124; go_must (refine (HT.out _ hb).mono ?_; rintro e w1 ⟨rfl, hb1⟩; have hb := bnext hb hb1)))
    go_ret
    exact ⟨rfl, hb⟩)
/-- a call that returns the stream of a tree, or a code -/
def RetGiven (ps : List Pp) (Y : List Int) (src : Int) (A B : Option Addr) (n c d : Nat) (F : Option Addr) (fl fc : Nat) (C : Int) (w : World) (e : Ending) (w' : World) : Prop :=
  (C ≠ 0 ∧ e = .returned (.tuple #[.agg #[.pointer none, .int .i64 0, .slice none 0 0, .map none], .int .i64 C]) ∧ Below w.heap.size w w') ∨
  (C = 0 ∧ ∃ sv, e = .returned (.tuple #[sv, .int .i64 C]) ∧ RetStream ps Y src A B n c d F fl fc w (.returned sv) w')
set_option maxHeartbeats 2000000 in
theorem givenStream_any (A B : Option Addr) (c d : Nat) (z : List Int) (ps : List Pp) (src : Int) (Q : Option Addr) (qc : Nat) (q : List Int) (r : Bool) (w : World) (h : NetCells w A z B ps) (hn : z.length ≤ 1048576) (hm : ps.length ≤ 1048576) (hid : ∀ p ∈ ps, p.id.size ≤ maxLen) (hQ : CellsAt w Q (intsV q)) (hq : q.length ≤ 1048576) :
    Calls Try.prog 82 #[.agg #[.slice A z.length c, .slice B ps.length d], .int .i64 src, .slice Q q.length qc, .bool r] w (RetGiven ps (bfsOut ps z.length src z.length).2 src A B z.length c d Q q.length qc (preC z ps (inB src 0 ((z.length : Int) - 1) && r) (flB (-100000) 100000 ps.length q)) w) := by
  have hb0 : Below w.heap.size w ((w.alloc (.cells #[.slice A z.length c, .slice B ps.length d] 31)).alloc (.cells #[.pointer none, .int .i64 0, .slice none 0 0, .map none] 86)) := bal (bal (Below.refl _ _) _) _
  have hN0 := (NetAt.new w A z.length c B ps.length d 31).next (bal (Below.refl _ _) (.cells #[.pointer none, .int .i64 0, .slice none 0 0, .map none] 86))
  have hZ0 := Box4.new (w.alloc (.cells #[.slice A z.length c, .slice B ps.length d] 31)) (.pointer none) (.int .i64 0) (.slice none 0 0) (.map none) 86 (w.heap.size + 1) (by simp)
  have hb : Below w.heap.size w ((w.alloc (.cells #[.slice A z.length c, .slice B ps.length d] 31)).alloc (.cells #[.pointer none, .int .i64 0, .slice none 0 0, .map none] 86)).drew := below_drewN hb0 1
  have hN : NetAt ((w.alloc (.cells #[.slice A z.length c, .slice B ps.length d] 31)).alloc (.cells #[.pointer none, .int .i64 0, .slice none 0 0, .map none] 86)).drew w.heap.size A z.length c B ps.length d := hN0
  have hZ : Box4 ((w.alloc (.cells #[.slice A z.length c, .slice B ps.length d] 31)).alloc (.cells #[.pointer none, .int .i64 0, .slice none 0 0, .map none] 86)).drew (w.heap.size + 1) (.pointer none) (.int .i64 0) (.slice none 0 0) (.map none) := hZ0
  have HC := Lib.hid h
  have HHN := Lib.hid (fun wx => hasNode_any A z.length c B ps.length d src wx hn)
  have HFL := Lib.hid (fun wx (hx : Below w.heap.size w wx) => hasFlows_any A z.length c B ps.length d Q qc q wx hn hm hq (hQ.next hx))
  have HTC := Lib.hid (fun r s wx (hx : Below w.heap.size w wx) => treeCode_any A B c d z ps r s wx (h.next hx) hn hm hid)
  have HNS := Lib.hid (fun (hP : preC z ps (inB src 0 ((z.length : Int) - 1) && r) (flB (-100000) 100000 ps.length q) = 0) wx (hx : Below w.heap.size w wx) => by
    have hpp := preC_net hP
    have hsr : inB src 0 ((z.length : Int) - 1) = true := by have := hpp.2.1; rw [Bool.and_eq_true] at this; exact this.1
    have ⟨R, hj, s0, s1, hm15, hn16⟩ := rooted_net hpp.1 hpp.2.2.2 hsr
    exact newStream_any Q q.length qc src A B z.length c d ps _ _ wx R hj s0 s1 hm15 hn16 (h.2.next hx))
  clear h hid hQ
  generalize (bfsOut ps z.length src z.length).2 = Y at *
  generalize flB (-100000) 100000 ps.length q = fb at *
  cases hs : inB src 0 ((z.length : Int) - 1) with
  | true =>
    rw [hs] at HHN HNS
    clear hs
    rw [Bool.true_and] at HNS ⊢
    obtain ⟨C, hC⟩ : ∃ C, preC z ps r fb = C := ⟨_, rfl⟩
    have HT2 := Lib.hid (fun wx (hx : Below w.heap.size w wx) => by have := HTC.out r fb wx hx; rw [hC] at this; exact this)
    rw [hC] at HNS ⊢
    clear HTC hC
    have ⟨n0, n1⟩ := hN
    go_enter Try.func82, Try.ntmps82
    go_wp2_with fail
    go_region_held3 (fun w' => w'.cell? ⟨w.heap.size, 0, none⟩ = some (.slice A z.length c) ∧ w'.cell? ⟨w.heap.size, 1, none⟩ = some (.slice B ps.length d)) (exact ⟨n0, n1⟩) (first
      | (go_at_call 62; go_must (refine (HHN.out _).mono ?_; rintro e w1 ⟨rfl, hb1⟩; have hN := hN.next hb1; have hZ := hZ.next hb1; have hb := bnext hb hb1; have ⟨n0, n1⟩ := hN))
      | (go_at_call 66; go_must (refine (HFL.out _ hb).mono ?_; rintro e w2 ⟨rfl, hb2⟩; have hN := hN.next hb2; have hZ := hZ.next hb2; have hb := bnext hb hb2; have ⟨n0, n1⟩ := hN))
      | (go_at_call 61; go_must (refine (HT2.out _ hb).mono ?_; rintro e w3 ⟨rfl, hb3⟩; have hN := hN.next hb3; have hZ := hZ.next hb3; have hb := bnext hb hb3; have ⟨n0, n1⟩ := hN)))
    by_cases hC0 : C = 0
    · have HNS1 := HNS.out hC0 _ hb
      have hC1 : (C == 0) = true := by simpa using hC0
      have HC0 := Lib.hid hC0
      clear HNS hC0
      have hs3 : w.heap.size + 1 < w3.heap.size := World.block_lt_of_cell? _ _ hZ.1.1
      go_wp2_with (go_at_call 64; go_must (refine HNS1.mono ?_; rintro e w4 ⟨gb, mb, mn, D, M, rfl, hG, hM, hD, hMa, hg0, hm0, hne, hb4⟩; have hZ := hZ.next hb4; have hb := bnext hb hb4; have ⟨⟨z0, z1, z2, z3⟩, f0, f1, f2, f3⟩ := hZ))
      obtain ⟨cv, hcv⟩ : ∃ cv, cv = (((w4.setCell ⟨w.heap.size + 1, 0, none⟩ (.pointer (some ⟨gb, 0, none⟩))).setCell ⟨w.heap.size + 1, 1, none⟩ (.int .i64 src)).setCell ⟨w.heap.size + 1, 2, none⟩ (.slice Q q.length qc)).setCell ⟨w.heap.size + 1, 3, none⟩ (.map (some mb)) := ⟨_, rfl⟩
      obtain ⟨_, _, _, _, kv⟩ := set4_cells hZ cv hcv
      have hZv := hZ.set4 cv hcv
      rw [← hcv]
      obtain ⟨cw, hcw⟩ : ∃ cw, cw = (((cv.setCell ⟨w.heap.size + 1, 0, none⟩ (.pointer (some ⟨gb, 0, none⟩))).setCell ⟨w.heap.size + 1, 1, none⟩ (.int .i64 src)).setCell ⟨w.heap.size + 1, 2, none⟩ (.slice Q q.length qc)).setCell ⟨w.heap.size + 1, 3, none⟩ (.map (some mb)) := ⟨_, rfl⟩
      obtain ⟨k0, k1, k2, k3, kw⟩ := set4_cells hZv cw hcw
      have kg := kv.trans kw
      have hkk : ∀ k, some (w.heap.size + 1) = some k → w.heap.size ≤ k := fun k hk => by cases hk; omega
      have HRET : RetGiven ps Y src A B z.length c d Q q.length qc C w (.returned (.tuple #[.agg #[.pointer (some ⟨gb, 0, none⟩), .int .i64 src, .slice Q q.length qc, .map (some mb)], .int .i64 C])) cw :=
        .inr ⟨HC0.out, _, rfl, gb, mb, mn, D, M, rfl, hG.grown kg (by omega), hM.kept kg (by intro e; have e : mb = w.heap.size + 1 := (by simpa using e); omega), hD, hMa, by have := hb.size; omega, by have := hb.size; omega, hne, hb.grown kg hb.size hkk⟩
      rw [← hcw]
      clear hcw hcv z0 z1 z2 z3 f0 f1 f2 f3 hZ hG hM hb
      exact bodyPost_ret (results_stream2 Try.results82 _ cw (w.heap.size + 1) _ _ _ _ rfl k0 k1 k2 k3) rfl HRET
    · have hC1 : (C == 0) = false := by simpa using hC0
      have HC0 := Lib.hid hC0
      clear HNS hC0
      have ⟨⟨z0, z1, z2, z3⟩, f0, f1, f2, f3⟩ := hZ
      go_wp2
      obtain ⟨cw, hcw⟩ : ∃ cw, cw = (((w3.setCell ⟨w.heap.size + 1, 0, none⟩ (.pointer none)).setCell ⟨w.heap.size + 1, 1, none⟩ (.int .i64 0)).setCell ⟨w.heap.size + 1, 2, none⟩ (.slice none 0 0)).setCell ⟨w.heap.size + 1, 3, none⟩ (.map none) := ⟨_, rfl⟩
      obtain ⟨k0, k1, k2, k3, kg⟩ := set4_cells hZ cw hcw
      have hkk : ∀ k, some (w.heap.size + 1) = some k → w.heap.size ≤ k := fun k hk => by cases hk; omega
      have hbw := hb.grown kg hb.size hkk
      rw [← hcw]
      clear hcw z0 z1 z2 z3 f0 f1 f2 f3 hZ hb
      exact bodyPost_ret (results_stream2 Try.results82 _ cw (w.heap.size + 1) _ _ _ _ rfl k0 k1 k2 k3) rfl (.inl ⟨HC0.out, rfl, hbw⟩)
  | false =>
    rw [hs] at HHN
    clear hs HNS
    rw [Bool.false_and]
    obtain ⟨C, hC⟩ : ∃ C, preC z ps false fb = C := ⟨_, rfl⟩
    have hC0 : C ≠ 0 := by rw [← hC]; intro e; have := (preC_net e).2.1; cases this
    have HT2 := Lib.hid (fun wx (hx : Below w.heap.size w wx) => by have := HTC.out false fb wx hx; rw [hC] at this; exact this)
    rw [hC]
    have HC0 := Lib.hid hC0
    have hC1 : (C == 0) = false := by simpa using hC0
    clear HTC hC hC0
    have ⟨n0, n1⟩ := hN
    go_enter Try.func82, Try.ntmps82
    go_wp2_with fail
    have hS0 : (fun w' => w'.cell? ⟨w.heap.size, 0, none⟩ = some (.slice A z.length c) ∧ w'.cell? ⟨w.heap.size, 1, none⟩ = some (.slice B ps.length d)) ((w.alloc (.cells #[.slice A z.length c, .slice B ps.length d] 31)).alloc (.cells #[.pointer none, .int .i64 0, .slice none 0 0, .map none] 86)).drew := ⟨n0, n1⟩
    refine wp_region_held_drew (S := (fun w' => w'.cell? ⟨w.heap.size, 0, none⟩ = some (.slice A z.length c) ∧ w'.cell? ⟨w.heap.size, 1, none⟩ = some (.slice B ps.length d))) (by kernel_rfl) hS0 (fun hHeld => ?_)
    refine wpAnyH_take (i := 0) (v := .agg #[.slice A z.length c, .slice B ps.length d]) rfl (by kernel_rfl) (by kernel_rfl) (by kernel_rfl) (fun _ _ _ h => h) (Or.inl ⟨by rfl, fun wz hSw => by obtain ⟨hs0, hs1⟩ := hSw; go_simp⟩) (by assumption) ?_
    try simp only [Act.put, List.getElem_toArray, List.getElem_cons_zero, List.getElem_cons_succ, List.setIfInBounds_toArray, List.set_cons_zero, List.set_cons_succ]
    refine wpAnyH_take (i := 1) (v := .agg #[.slice A z.length c, .slice B ps.length d]) rfl (by kernel_rfl) (by kernel_rfl) (by kernel_rfl) (fun _ _ _ h => h) (Or.inl ⟨by rfl, fun wz hSw => by obtain ⟨hs0, hs1⟩ := hSw; go_simp⟩) (by assumption) ?_
    try simp only [Act.put, List.getElem_toArray, List.getElem_cons_zero, List.getElem_cons_succ, List.setIfInBounds_toArray, List.set_cons_zero, List.set_cons_succ]
    refine wpAnyH_take (i := 2) (v := .int .i64 src) rfl (by kernel_rfl) (by kernel_rfl) (by kernel_rfl) (fun _ _ _ h => h) (Or.inl ⟨by rfl, fun wz hSw => by obtain ⟨hs0, hs1⟩ := hSw; go_simp⟩) (by assumption) ?_
    try simp only [Act.put, List.getElem_toArray, List.getElem_cons_zero, List.getElem_cons_succ, List.setIfInBounds_toArray, List.set_cons_zero, List.set_cons_succ]
    refine wpAnyH_take (i := 7) (v := .agg #[.slice A z.length c, .slice B ps.length d]) rfl (by kernel_rfl) (by kernel_rfl) (by kernel_rfl) (fun _ _ _ h => h) (Or.inl ⟨by rfl, fun wz hSw => by obtain ⟨hs0, hs1⟩ := hSw; go_simp⟩) (by assumption) ?_
    try simp only [Act.put, List.getElem_toArray, List.getElem_cons_zero, List.getElem_cons_succ, List.setIfInBounds_toArray, List.set_cons_zero, List.set_cons_succ]
    refine wpAnyH_take (i := 8) (v := .slice Q q.length qc) rfl (by kernel_rfl) (by kernel_rfl) (by kernel_rfl) (fun _ _ _ h => h) (Or.inl ⟨by rfl, fun wz hSw => by obtain ⟨hs0, hs1⟩ := hSw; go_simp⟩) (by assumption) ?_
    try simp only [Act.put, List.getElem_toArray, List.getElem_cons_zero, List.getElem_cons_succ, List.setIfInBounds_toArray, List.set_cons_zero, List.set_cons_succ]
    refine wpAnyH_ready (rs := [3]) (by kernel_rfl) (by simp) ?_
    refine AllReadyH.cons (o := { dst := some 13, op := Op.call { callee := Callee.value (Operand.func 62), args := #[Operand.tmp 11, Operand.tmp 12], argTypes := #[31, 2] }, type := 4, pos := _, after := _, guard := none }) rfl (fun K hK => ?_) AllReadyH.nil
    rw [if_pos (by rfl)]
    go_simp
    refine (HHN.out _).mono ?_
    rintro e w1 ⟨rfl, hbq⟩
    have hN := hN.next hbq; have hZ := hZ.next hbq; have hb := bnext hb hbq; have ⟨n0, n1⟩ := hN
    clear hbq
    refine hK.out _ _ ⟨n0, n1⟩ (fun hHeld => ?_)
    try simp only [Act.put, List.getElem_toArray, List.getElem_cons_zero, List.getElem_cons_succ, List.setIfInBounds_toArray, List.set_cons_zero, List.set_cons_succ]
    refine wpAnyH_take (i := 4) (v := .bool false) rfl (by kernel_rfl) (by kernel_rfl) (by kernel_rfl) (fun _ _ _ h => h) (Or.inl ⟨by rfl, fun wz hSw => by obtain ⟨hs0, hs1⟩ := hSw; go_simp⟩) (by assumption) ?_
    try simp only [Act.put, List.getElem_toArray, List.getElem_cons_zero, List.getElem_cons_succ, List.setIfInBounds_toArray, List.set_cons_zero, List.set_cons_succ]
    refine wpAnyH_take (i := 5) (v := undef) rfl (by kernel_rfl) (by kernel_rfl) (by kernel_rfl) (fun _ _ _ h => h) (Or.inr ⟨by rfl, rfl⟩) (by assumption) ?_
    try simp only [Act.put, List.getElem_toArray, List.getElem_cons_zero, List.getElem_cons_succ, List.setIfInBounds_toArray, List.set_cons_zero, List.set_cons_succ]
    refine wpAnyH_take (i := 6) (v := .bool false) rfl (by kernel_rfl) (by kernel_rfl) (by kernel_rfl) (fun _ _ _ h => h) (Or.inl ⟨by rfl, fun wz hSw => by obtain ⟨hs0, hs1⟩ := hSw; go_simp⟩) (by assumption) ?_
    try simp only [Act.put, List.getElem_toArray, List.getElem_cons_zero, List.getElem_cons_succ, List.setIfInBounds_toArray, List.set_cons_zero, List.set_cons_succ]
    refine wpAnyH_ready (rs := [9]) (by kernel_rfl) (by simp) ?_
    refine AllReadyH.cons (o := { dst := some 19, op := Op.call { callee := Callee.value (Operand.func 66), args := #[Operand.tmp 17, Operand.tmp 18], argTypes := #[31, 22] }, type := 4, pos := _, after := _, guard := none }) rfl (fun K hK => ?_) AllReadyH.nil
    rw [if_pos (by rfl)]
    go_simp
    refine (HFL.out _ hb).mono ?_
    rintro e w2 ⟨rfl, hbq⟩
    have hN := hN.next hbq; have hZ := hZ.next hbq; have hb := bnext hb hbq; have ⟨n0, n1⟩ := hN
    clear hbq
    refine hK.out _ _ ⟨n0, n1⟩ (fun hHeld => ?_)
    try simp only [Act.put, List.getElem_toArray, List.getElem_cons_zero, List.getElem_cons_succ, List.setIfInBounds_toArray, List.set_cons_zero, List.set_cons_succ]
    refine wpAnyH_ready (rs := [10]) (by kernel_rfl) (by simp) ?_
    refine AllReadyH.cons (o := { dst := some 20, op := Op.call { callee := Callee.value (Operand.func 61), args := #[Operand.tmp 10, Operand.tmp 16, Operand.tmp 19], argTypes := #[31, 4, 4] }, type := 2, pos := _, after := _, guard := none }) rfl (fun K hK => ?_) AllReadyH.nil
    rw [if_pos (by rfl)]
    go_simp
    refine (HT2.out _ hb).mono ?_
    rintro e w3 ⟨rfl, hbq⟩
    have hN := hN.next hbq; have hZ := hZ.next hbq; have hb := bnext hb hbq; have ⟨n0, n1⟩ := hN
    clear hbq
    refine hK.out _ _ ⟨n0, n1⟩ (fun hHeld => ?_)
    try simp only [Act.put, List.getElem_toArray, List.getElem_cons_zero, List.getElem_cons_succ, List.setIfInBounds_toArray, List.set_cons_zero, List.set_cons_succ]
    refine wpAnyH_take (i := 11) (v := .int .i64 C) rfl (by kernel_rfl) (by kernel_rfl) (by kernel_rfl) (fun _ _ _ h => h) (Or.inl ⟨by rfl, fun wz hSw => by obtain ⟨hs0, hs1⟩ := hSw; go_simp⟩) (by assumption) ?_
    try simp only [Act.put, List.getElem_toArray, List.getElem_cons_zero, List.getElem_cons_succ, List.setIfInBounds_toArray, List.set_cons_zero, List.set_cons_succ]
    refine wpAnyH_done (by kernel_rfl) ?_ _
    have ⟨⟨z0, z1, z2, z3⟩, f0, f1, f2, f3⟩ := hZ
    go_wp2
    obtain ⟨cw, hcw⟩ : ∃ cw, cw = (((w3.setCell ⟨w.heap.size + 1, 0, none⟩ (.pointer none)).setCell ⟨w.heap.size + 1, 1, none⟩ (.int .i64 0)).setCell ⟨w.heap.size + 1, 2, none⟩ (.slice none 0 0)).setCell ⟨w.heap.size + 1, 3, none⟩ (.map none) := ⟨_, rfl⟩
    obtain ⟨k0, k1, k2, k3, kg⟩ := set4_cells hZ cw hcw
    have hkk : ∀ k, some (w.heap.size + 1) = some k → w.heap.size ≤ k := fun k hk => by cases hk; omega
    have hbw := hb.grown kg hb.size hkk
    rw [← hcw]
    clear hcw z0 z1 z2 z3 f0 f1 f2 f3 hZ hb
    exact bodyPost_ret (results_stream2 Try.results82 _ cw (w.heap.size + 1) _ _ _ _ rfl k0 k1 k2 k3) rfl (.inl ⟨HC0.out, rfl, hbw⟩)
end Go.Proofs.Ytkbkmpcdidhagaa

/-
  TreeFlows of the program.
-/
namespace Go.Proofs.Ytkbkmpcdidhagaa
open Go.ChangeShapes Go.WideShapes Go.ChangeAt Go.RowKit
set_option maxRecDepth 100000
set_option linter.unusedVariables false
set_option linter.unusedSimpArgs false

theorem sumF_pos {ps : List Pp} {O Y q : List Int} (hqa : allIn 0 100000 q = true) (x : Int) : 0 ≤ sumF ps O Y q x := by
  exact (sumG_bd (ps := ps) (O := O) (Y := Y) (q := q) (fun y => by have := getD_bd hqa (by omega) (by omega) y.toNat; exact this) (O.length - 1) x).1
/-- the flows are in their range just if no sum is too great -/
theorem Rooted.flows_ok {ps : List Pp} {n : Nat} {src : Int} {O Y : List Int} (R : Rooted ps n src O Y) (hj : Joins n ps) {q : List Int} (hqa : allIn 0 100000 q = true) : flB (-100000) 100000 ps.length (outF ps O Y q) = okF ps O Y q n src := by
  rw [Bool.eq_iff_iff, R.okF_iff hj q]
  unfold flB allIn
  rw [Bool.and_eq_true, decide_eq_true_eq, List.all_eq_true]
  constructor
  · rintro ⟨_, h⟩ x x0 x1 hs
    have := h _ (List.mem_of_getElem? (R.out_at hj q x0 x1 hs))
    rw [decide_eq_true_eq] at this
    have hp := sumF_pos (ps := ps) (O := O) (Y := Y) hqa x
    unfold flowF at this
    split at this <;> omega
  · intro h
    refine ⟨outF_length _ _ _ _, fun v hv => ?_⟩
    unfold outF at hv
    obtain ⟨k, hk, rfl⟩ := List.mem_map.1 hv
    rw [List.mem_range] at hk
    obtain ⟨h1, h2, h3⟩ := R.endE_ok hj hk
    have := h _ h1.1 h1.2 h2
    have hp := sumF_pos (ps := ps) (O := O) (Y := Y) hqa (endE ps O k)
    rw [decide_eq_true_eq]
    unfold flowF
    split <;> omega
/-- a stream's box with its flows -/
def RetCut4 (ps : List Pp) (Y : List Int) (src : Int) (A B : Option Addr) (n c d m : Nat) (w : World) (s9 : Value) (wx : World) : Prop :=
  ∃ (sb gb mb mn gF : Nat) (D : DataW Unit) (M : Int → Prop), s9 = .pointer (some ⟨sb, 0, none⟩) ∧ Hid (StreamAt wx sb gb mb src (some ⟨gF, 0, none⟩) m m ∧ GridAt wx gb A n c B ps.length d noneClosed ∧ wx.ownsMap Try.prog 2 (legR ps Y src n) mb mn D ∧ MapOk D M ∧ (∀ x : Int, 0 ≤ x → x < n → M x) ∧ wx.ownsRow w.heap.size 2 1 (.slice (some ⟨gF, 0, none⟩) m m) m (intsV (List.replicate m 0))) ∧ gb ≠ gF ∧ mb ≠ gF ∧ sb ≠ gF ∧ Below w.heap.size w wx
theorem cut4New {ps : List Pp} {Y : List Int} {src : Int} {A B : Option Addr} {n c d m : Nat} {w w2 : World} {gb mb mn gF : Nat} {D : DataW Unit} {M : Int → Prop} {T : TypeId} (hG : GridAt w2 gb A n c B ps.length d noneClosed) (hM : w2.ownsMap Try.prog 2 (legR ps Y src n) mb mn D) (hD : MapOk D M) (hMa : ∀ x : Int, 0 ≤ x → x < n → M x) (hF : w2.ownsRow w.heap.size 2 1 (.slice (some ⟨gF, 0, none⟩) m m) m (intsV (List.replicate m 0))) (h1 : gb ≠ gF) (h2 : mb ≠ gF) (h3 : gF < w2.heap.size) (hb : Below w.heap.size w w2) :
    RetCut4 ps Y src A B n c d m w (.pointer (some ⟨w2.heap.size, 0, none⟩)) (w2.alloc (.cells #[.pointer (some ⟨gb, 0, none⟩), .int .i64 src, .slice (some ⟨gF, 0, none⟩) m m, .map (some mb)] T)) := by
  have hal := bal (Below.refl w2.heap.size w2) (.cells #[.pointer (some ⟨gb, 0, none⟩), .int .i64 src, .slice (some ⟨gF, 0, none⟩) m m, .map (some mb)] T)
  exact ⟨_, gb, mb, mn, gF, D, M, rfl, Lib.hid ⟨StreamAt.new w2 gb mb src (some ⟨gF, 0, none⟩) m m T, hG.next hal, ownsMap_below hM hal, hD, hMa, hF.kept (grown_of_below hal none) (.inr (by simp [Value.ownBlock]))⟩, h1, h2, by omega, bal hb _⟩
theorem cut4Set {ps : List Pp} {Y : List Int} {src : Int} {A B : Option Addr} {n c d m : Nat} {w w2 : World} {sb gb mb mn gF : Nat} {D : DataW Unit} {M : Int → Prop} {v0 v1 v2 v3 : Value} (hZ : Box4 w2 sb v0 v1 v2 v3) (hG : GridAt w2 gb A n c B ps.length d noneClosed) (hM : w2.ownsMap Try.prog 2 (legR ps Y src n) mb mn D) (hD : MapOk D M) (hMa : ∀ x : Int, 0 ≤ x → x < n → M x) (hF : w2.ownsRow w.heap.size 2 1 (.slice (some ⟨gF, 0, none⟩) m m) m (intsV (List.replicate m 0))) (h1 : gb ≠ gF) (h2 : mb ≠ gF) (h3 : sb ≠ gF) (h4 : sb ≠ gb) (h5 : sb ≠ mb) (h0 : w.heap.size ≤ sb) (hb : Below w.heap.size w w2) :
    RetCut4 ps Y src A B n c d m w (.pointer (some ⟨sb, 0, none⟩)) ((((w2.setCell ⟨sb, 0, none⟩ (.pointer (some ⟨gb, 0, none⟩))).setCell ⟨sb, 1, none⟩ (.int .i64 src)).setCell ⟨sb, 2, none⟩ (.slice (some ⟨gF, 0, none⟩) m m)).setCell ⟨sb, 3, none⟩ (.map (some mb))) := by
  obtain ⟨k0, k1, k2, k3, kg⟩ := set4_cells hZ _ rfl
  have hkk : ∀ k, some sb = some k → w.heap.size ≤ k := fun k hk => by cases hk; exact h0
  exact ⟨sb, gb, mb, mn, gF, D, M, rfl, Lib.hid ⟨⟨k0, k1, k2, k3⟩, hG.grown kg (by omega), hM.kept kg (by intro e; have e : mb = sb := (by simpa using e); omega), hD, hMa, owns_far hF kg (by omega)⟩, h1, h2, h3, hb.grown kg hb.size hkk⟩

set_option maxHeartbeats 8000000 in
theorem implTreeFlows_any (A B : Option Addr) (c d : Nat) (z : List Int) (ps : List Pp) (src : Int) (Q : Option Addr) (qc : Nat) (q : List Int) (w : World) (h : NetCells w A z B ps) (hn : z.length ≤ 1048576) (hm : ps.length ≤ 1048576) (hid : ∀ p ∈ ps, p.id.size ≤ maxLen) (hQ : CellsAt w Q (intsV q)) (hq : q.length ≤ 1048576) :
    Calls Try.prog 19 #[.agg #[.slice A z.length c, .slice B ps.length d], .int .i64 src, .slice Q q.length qc] w (RetFlows (tfC z ps src q) (tfOut z ps src q) w) := by
  have hb0 : Below w.heap.size w (w.alloc (.cells #[.slice A z.length c, .slice B ps.length d] 31)) := bal (Below.refl _ _) _
  have hb : Below w.heap.size w (w.alloc (.cells #[.slice A z.length c, .slice B ps.length d] 31)).drew := below_drewN hb0 1
  have hN0 := NetAt.new w A z.length c B ps.length d 31
  have hN : NetAt (w.alloc (.cells #[.slice A z.length c, .slice B ps.length d] 31)).drew w.heap.size A z.length c B ps.length d := hN0
  have HHN := Lib.hid (fun wx => hasNode_any A z.length c B ps.length d src wx hn)
  have HDM := Lib.hid (fun wx (hx : Below w.heap.size w wx) => hasDemands_any A z.length c B ps.length d Q qc q wx hn hm hq (hQ.next hx))
  have HTC := Lib.hid (fun wx (hx : Below w.heap.size w wx) => treeCode_any A B c d z ps (inB src 0 ((z.length : Int) - 1)) (flB 0 100000 z.length q) wx (h.next hx) hn hm hid)
  have e1 : preC z ps (inB src 0 ((z.length : Int) - 1)) (flB 0 100000 z.length q) = tfP z ps src q := rfl
  rw [e1] at HTC
  have ⟨n0, n1⟩ := hN
  by_cases h0 : tfP z ps src q = 0
  · have hpp := preC_net (e1.trans h0)
    have hfl := flB_parts hpp.2.2.1
    have ⟨R, hj, s0, s1, hm15, hn16⟩ := rooted_net hpp.1 hpp.2.2.2 hpp.2.1
    have hC : tfC z ps src q = if tfOk z ps src q then 0 else 5 := by unfold tfC; rw [if_pos h0]
    rw [hC]
    rw [h0] at HTC
    obtain ⟨C, hCC⟩ : ∃ C : Int, (if tfOk z ps src q = true then (0 : Int) else 5) = C := ⟨_, rfl⟩
    rw [hCC]
    have HCC := Lib.hid hCC
    have HC0 := Lib.hid h
    have HQ0 := Lib.hid hQ
    rw [hpp.2.1] at HHN HTC
    rw [hpp.2.2.1] at HDM HTC
    have HR := Lib.hid R
    have HJ := Lib.hid hj
    have HQL := Lib.hid hfl.1
    have HQA := Lib.hid hfl.2
    have HNS := Lib.hid (fun F fl fc wx (hx : Below w.heap.size w wx) => newStream_any F fl fc src A B z.length c d ps _ _ wx R hj s0 s1 hm15 hn16 (h.2.next hx))
    have HOUT := Lib.hid (show outF ps (bfsOut ps z.length src z.length).1 (bfsOut ps z.length src z.length).2 q = tfOut z ps src q from rfl)
    have HOKF := Lib.hid (show okF ps (bfsOut ps z.length src z.length).1 (bfsOut ps z.length src z.length).2 q z.length src = tfOk z ps src q from rfl)
    clear h hQ hid hC hCC e1 h0 hpp hfl R hj
    generalize tfOut z ps src q = LO at *
    generalize tfOk z ps src q = ok at *
    generalize (bfsOut ps z.length src z.length).1 = O at *
    generalize (bfsOut ps z.length src z.length).2 = Y at *
    go_enter Try.func19, Try.ntmps19
    go_upto_region 1 with fail
    go_cut [8] (fun s8 wx => s8 = .int .i64 0 ∧ NetAt wx w.heap.size A z.length c B ps.length d ∧ Below w.heap.size w wx)
    case first =>
      go_wp2_with fail
      go_region_held3 (fun w' => w'.cell? ⟨w.heap.size, 0, none⟩ = some (.slice A z.length c) ∧ w'.cell? ⟨w.heap.size, 1, none⟩ = some (.slice B ps.length d)) (exact ⟨n0, n1⟩) (first
        | (go_at_call 62; go_must (refine (HHN.out _).mono ?_; rintro e w1 ⟨rfl, hb1⟩; have hN := hN.next hb1; have hb := bnext hb hb1; have ⟨n0, n1⟩ := hN))
        | (go_at_call 63; go_must (refine (HDM.out _ hb).mono ?_; rintro e w2 ⟨rfl, hb2⟩; have hN := hN.next hb2; have hb := bnext hb hb2; have ⟨n0, n1⟩ := hN))
        | (go_at_call 61; go_must (refine (HTC.out _ hb).mono ?_; rintro e w3 ⟨rfl, hb3⟩; have hN := hN.next hb3; have hb := bnext hb hb3; have ⟨n0, n1⟩ := hN)))
      go_wp2
      go_meet
      exact ⟨rfl, hN, hb⟩
    case rest =>
      obtain ⟨rfl, hN, hb⟩ := hcut
      have ⟨n0, n1⟩ := hN
      have hmk : ∀ w' : World, (Instr.makeSlice 22 (.int .i64 (ps.length : Int)) (.int .i64 (ps.length : Int))).run Try.prog w' = .ok (.slice (some ⟨w'.heap.size, 0, none⟩) ps.length ps.length) (w'.alloc (.cells (madeCells #[.int .i64 0] ps.length) 2)) := by
        obtain ⟨i0, hi, hz0, hz1, hz2⟩ := info_parts infoI64
        intro w'
        exact run_make_row _ _ i0 _ Try.underlying22 hi hz0 hz1 rfl _ _ _ (by rw [hz2]; omega) (by omega) w'
      have hrw : ∀ w' : World, (w'.alloc (.cells (madeCells #[.int .i64 0] ps.length) 2)).ownsRow w'.heap.size 2 1 (.slice (some ⟨w'.heap.size, 0, none⟩) ps.length ps.length) ps.length (intsV (List.replicate ps.length 0)) := by
        intro w'
        have hh := World.ownsRow_lit (base := w'.heap.size) (e := 2) (size := 1) w' (madeCells #[.int .i64 0] ps.length) ps.length (Nat.le_refl _) (by unfold maxLen; omega) (by simp [madeCells])
        rw [toList_madeCells_one] at hh
        have e : List.replicate ps.length (Value.int .i64 0) = intsV (List.replicate ps.length 0) := by simp [intsV]
        rw [e] at hh
        exact hh
      obtain ⟨MO, hMO⟩ : ∃ o : Obj, (.cells (madeCells #[.int .i64 0] ps.length) 2) = o := ⟨_, rfl⟩
      rw [hMO] at hmk hrw
      have HRW := Lib.hid hrw
      clear hrw hMO
      go_upto_region 4 with fail
      have hwc : w.heap.size < wc.heap.size := World.block_lt_of_cell? _ _ n0
      have HBD := Lib.hid hb
      have HNN := Lib.hid (And.intro n0 n1)
      have HB1 := Lib.hid (show Below wc.heap.size wc (wc.alloc MO).drew from below_drewN (bal (Below.refl _ _) MO) 1)
      have HB2 := Lib.hid (show Below wc.heap.size wc ((wc.alloc MO).alloc (.cells #[.pointer none, .int .i64 0, .slice none 0 0, .map none] 86)).drew from below_drewN (bal (bal (Below.refl _ _) MO) (.cells #[.pointer none, .int .i64 0, .slice none 0 0, .map none] 86)) 1)
      have HB3 := Lib.hid (show Below wc.heap.size wc ((wc.alloc (.cells #[.pointer none, .int .i64 0, .slice none 0 0, .map none] 86)).alloc MO).drew from below_drewN (bal (bal (Below.refl _ _) (.cells #[.pointer none, .int .i64 0, .slice none 0 0, .map none] 86)) MO) 1)
      have HF1 := Lib.hid (show ((wc.alloc MO).drew).ownsRow wc.heap.size 2 1 (.slice (some ⟨wc.heap.size, 0, none⟩) ps.length ps.length) ps.length (intsV (List.replicate ps.length 0)) from owns_base' (HRW.out wc) (by omega))
      have HF2 := Lib.hid (show (((wc.alloc MO).alloc (.cells #[.pointer none, .int .i64 0, .slice none 0 0, .map none] 86)).drew).ownsRow wc.heap.size 2 1 (.slice (some ⟨wc.heap.size, 0, none⟩) ps.length ps.length) ps.length (intsV (List.replicate ps.length 0)) by
        have hh : ((wc.alloc MO).alloc (.cells #[.pointer none, .int .i64 0, .slice none 0 0, .map none] 86)).ownsRow wc.heap.size 2 1 (.slice (some ⟨wc.heap.size, 0, none⟩) ps.length ps.length) ps.length (intsV (List.replicate ps.length 0)) := (HRW.out wc).kept (World.grownBy_alloc (wc.alloc MO) (.cells #[.pointer none, .int .i64 0, .slice none 0 0, .map none] 86) none) (.inr (by simp [Value.ownBlock]))
        exact owns_base' hh (by omega))
      have HF3 := Lib.hid (show (((wc.alloc (.cells #[.pointer none, .int .i64 0, .slice none 0 0, .map none] 86)).alloc MO).drew).ownsRow wc.heap.size 2 1 (.slice (some ⟨wc.heap.size + 1, 0, none⟩) ps.length ps.length) ps.length (intsV (List.replicate ps.length 0)) by
        have hh := owns_base' (HRW.out (wc.alloc (.cells #[.pointer none, .int .i64 0, .slice none 0 0, .map none] 86))) (show wc.heap.size ≤ (wc.alloc (.cells #[.pointer none, .int .i64 0, .slice none 0 0, .map none] 86)).heap.size by rw [World.size_alloc]; omega)
        rw [World.size_alloc] at hh
        exact hh)
      have HZ2 := Lib.hid (show Box4 (((wc.alloc MO).alloc (.cells #[.pointer none, .int .i64 0, .slice none 0 0, .map none] 86)).drew) (wc.heap.size + 1) (.pointer none) (.int .i64 0) (.slice none 0 0) (.map none) from Box4.new (wc.alloc MO) _ _ _ _ _ (wc.heap.size + 1) (by rw [World.size_alloc]))
      have HZ3 := Lib.hid (show Box4 (((wc.alloc (.cells #[.pointer none, .int .i64 0, .slice none 0 0, .map none] 86)).alloc MO).drew) wc.heap.size (.pointer none) (.int .i64 0) (.slice none 0 0) (.map none) by
        have hh : Box4 (wc.alloc (.cells #[.pointer none, .int .i64 0, .slice none 0 0, .map none] 86)) wc.heap.size (.pointer none) (.int .i64 0) (.slice none 0 0) (.map none) := Box4.new wc _ _ _ _ _ wc.heap.size rfl
        exact hh.next (below_drewN (bal (Below.refl _ (wc.alloc (.cells #[.pointer none, .int .i64 0, .slice none 0 0, .map none] 86))) MO) 1))
      have hs1 : ((wc.alloc MO).drew).heap.size = wc.heap.size + 1 := by show (wc.alloc MO).heap.size = _; rw [World.size_alloc]
      have hs2 : (((wc.alloc MO).alloc (.cells #[.pointer none, .int .i64 0, .slice none 0 0, .map none] 86)).drew).heap.size = wc.heap.size + 2 := by show ((wc.alloc MO).alloc (.cells #[.pointer none, .int .i64 0, .slice none 0 0, .map none] 86)).heap.size = _; rw [World.size_alloc, World.size_alloc]
      have hs3 : (((wc.alloc (.cells #[.pointer none, .int .i64 0, .slice none 0 0, .map none] 86)).alloc MO).drew).heap.size = wc.heap.size + 2 := by show ((wc.alloc (.cells #[.pointer none, .int .i64 0, .slice none 0 0, .map none] 86)).alloc MO).heap.size = _; rw [World.size_alloc, World.size_alloc]
      have HS1 := Lib.hid hs1
      have HS2 := Lib.hid hs2
      have HS3 := Lib.hid hs3
      have n0 : wc.drew.cell? ⟨w.heap.size, 0, none⟩ = some (.slice A z.length c) := n0
      have n1 : wc.drew.cell? ⟨w.heap.size, 1, none⟩ = some (.slice B ps.length d) := n1
      clear hs1 hs2 hs3 hb hN
      go_cut [9] (fun s9 wx => RetCut4 ps Y src A B z.length c d ps.length wc s9 wx)
      case first =>
        go_wp2_with fail
        go_region_held3 (fun w' => w'.cell? ⟨w.heap.size, 0, none⟩ = some (.slice A z.length c) ∧ w'.cell? ⟨w.heap.size, 1, none⟩ = some (.slice B ps.length d)) (first | exact ⟨n0, n1⟩ | exact ⟨cellNext n0 (bal (Below.refl _ _) _), cellNext n1 (bal (Below.refl _ _) _)⟩ | exact ⟨cellNext n0 (bal (bal (Below.refl _ _) _) _), cellNext n1 (bal (bal (Below.refl _ _) _) _)⟩ | exact ⟨cell_set4 n0 (by omega), cell_set4 n1 (by omega)⟩) (first
          | (go_at_call 64; go_must (first
              | ((with_reducible refine (HNS.out (some ⟨wc.heap.size + 1, 0, none⟩) ps.length ps.length (((wc.alloc (.cells #[.pointer none, .int .i64 0, .slice none 0 0, .map none] 86)).alloc MO).drew) (bnext HBD.out HB3.out)).mono ?_); rintro e w2 ⟨gb, mb, mn, D, M, rfl, hG, hM, hD, hMa, hg0, hm0, hne, hb2⟩; have n0 := cellNext (cellNext HNN.out.1 HB3.out) hb2; have n1 := cellNext (cellNext HNN.out.2 HB3.out) hb2; have hbw := bnext HB3.out hb2; have hF := HF3.out.kept (grown_of_below hb2 none) (.inr (by simp [Value.ownBlock])); rw [HS3.out] at hg0 hm0; have hsz := hb2.size; rw [HS3.out] at hsz; have Z := HZ3.out.next hb2; have ⟨⟨z0, z1, z2, z3⟩, f0, f1, f2, f3⟩ := Z)
              | ((with_reducible refine (HNS.out (some ⟨wc.heap.size, 0, none⟩) ps.length ps.length (((wc.alloc MO).alloc (.cells #[.pointer none, .int .i64 0, .slice none 0 0, .map none] 86)).drew) (bnext HBD.out HB2.out)).mono ?_); rintro e w2 ⟨gb, mb, mn, D, M, rfl, hG, hM, hD, hMa, hg0, hm0, hne, hb2⟩; have n0 := cellNext (cellNext HNN.out.1 HB2.out) hb2; have n1 := cellNext (cellNext HNN.out.2 HB2.out) hb2; have hbw := bnext HB2.out hb2; have hF := HF2.out.kept (grown_of_below hb2 none) (.inr (by simp [Value.ownBlock])); rw [HS2.out] at hg0 hm0; have hsz := hb2.size; rw [HS2.out] at hsz; have Z := HZ2.out.next hb2; have ⟨⟨z0, z1, z2, z3⟩, f0, f1, f2, f3⟩ := Z)
              | ((with_reducible refine (HNS.out (some ⟨wc.heap.size, 0, none⟩) ps.length ps.length ((wc.alloc MO).drew) (bnext HBD.out HB1.out)).mono ?_); rintro e w2 ⟨gb, mb, mn, D, M, rfl, hG, hM, hD, hMa, hg0, hm0, hne, hb2⟩; have n0 := cellNext (cellNext HNN.out.1 HB1.out) hb2; have n1 := cellNext (cellNext HNN.out.2 HB1.out) hb2; have hbw := bnext HB1.out hb2; have hF := HF1.out.kept (grown_of_below hb2 none) (.inr (by simp [Value.ownBlock])); rw [HS1.out] at hg0 hm0; have hsz := hb2.size; rw [HS1.out] at hsz))))
        all_goals (go_wp2; go_meet; first | exact cut4New hG hM hD hMa hF (by omega) (by omega) (by omega) hbw | exact cut4Set Z hG hM hD hMa hF (by omega) (by omega) (by omega) (by omega) (by omega) (by omega) hbw | go_show)
      case rest =>
        obtain ⟨sb, gb, mb, mn, gF, D, M, rfl, HS, hgF, hmF, hsF, hbc⟩ := hcut
        have hbw := bnext HBD.out hbc
        have hNd : NetAt wc w.heap.size A z.length c B ps.length d := ⟨cellNext HNN.out.1 hbc, cellNext HNN.out.2 hbc⟩
        have hrl := (HS.out.2.2.2.2.2.lt _ rfl).1
        simp only at hrl
        have hwlt := World.block_lt_of_cell? _ _ HNN.out.1
        simp only at hwlt
        have hwl := HBD.out.size
        have hnl := hNd.lies
        have hdl0 : DoneL ps O Y q z.length src (List.replicate ps.length 0) (fun _ => False) := ⟨List.length_replicate .., fun x _ _ _ h => h.elim⟩
        have HCA := Lib.hid (carry_any _ gb mb mn gF ps.length src A B Q z.length c d qc ps O Y q HR.out HJ.out s0 s1 hm15 hn16 D M HS.out.2.2.2.1 HS.out.2.2.2.2.1 hgF hmF (fun h0 b off e => by have h1 : b < w.heap.size := CellsAt.liesOf HC0.out.2 b off e h0; omega) (fun h0 b off e => by have h1 : b < w.heap.size := CellsAt.liesOf HQ0.out b off e h0; omega) HQL.out HQA.out z.length src (List.replicate ps.length 0) (fun _ => False) wc s0 s1 (by omega) HS.out.2.1 (HC0.out.2.next hbw) (HQ0.out.next hbw) HS.out.2.2.1 HS.out.2.2.2.2.2 hdl0)
        rw [← HQL.out] at HCA
        have hS := HS.out.1
        have ⟨s0', s1', s2', s3'⟩ := hS
        have hgn : w.heap.size ≠ gF := by omega
        have HNB := Lib.hid hNd
        clear n0 n1 hbc hdl0
        go_wp2_with (go_at_call 65; go_must (refine HCA.out.mono ?_; rintro e w3 ⟨rfl, hg3, L3, M3, hr3, hd3, hMM3, hU3⟩; have hS3 := hS.keep (hg3.block sb (World.block_lt_of_cell? _ _ hS.1) (fun e => hsF (by simpa using e))); have ⟨s0', s1', s2', s3'⟩ := hS3; have hN3 := HNB.out.keep (hg3.block w.heap.size HNB.out.lies (fun e => hgn (by simpa using e))); have ⟨n0, n1⟩ := hN3; have hbw3 := hbw.grown hg3 hbw.size (fun k hk => by cases hk; omega)))
        have hL3 := HR.out.outs HJ.out q L3 hd3.1 (fun x x0 x1 hs => hd3.2 x x0 (by rw [HQL.out]; exact x1) hs (hU3 x x0 (by rw [HQL.out]; exact x1) (HR.out.under_src HJ.out (pos O x + 1) x (by omega) x0 x1 hs)))
        have hlo : LO.length = ps.length := by rw [← HOUT.out, outF_length]
        have hfo := HR.out.flows_ok HJ.out HQA.out
        rw [HOUT.out] at hL3 hfo
        rw [HOKF.out] at hfo
        subst hL3
        have HFL := Lib.hid (by have := hasFlows_any A z.length c B ps.length d (some ⟨gF, 0, none⟩) ps.length L3 w3 hn hm (by omega) (owns_cells hr3); rw [hfo, hlo] at this; exact this)
        have HR3 := Lib.hid (owns_base' hr3 (show w.heap.size ≤ _ from hwl))
        have HLO := Lib.hid hlo
        clear hr3 hd3 hU3 hMM3 hfo hlo hg3 hS hbw
        cases ok with
        | false =>
          go_wp2_with (go_at_call 66; go_must (refine HFL.out.mono ?_; rintro e w4 ⟨rfl, hb4⟩; have hbw3 := bnext hbw3 hb4))
          go_ret2
          exact .inl ⟨by rw [← HCC.out]; decide, by rw [← HCC.out]; rfl, hbw3⟩
        | true =>
          have HR4 := Lib.hid (fun w4 (hb4 : Below w3.heap.size w3 w4) => HR3.out.kept (grown_of_below hb4 none) (.inr (by simp [Value.ownBlock])))
          go_wp2_with (go_at_call 66; go_must (refine HFL.out.mono ?_; rintro e w4 ⟨rfl, hb4⟩; have hbw3 := bnext hbw3 hb4; have hS4 := hS3.next hb4; have ⟨s0', s1', s2', s3'⟩ := hS4; have HRW4 := Lib.hid (HR4.out _ hb4)))
          go_ret2
          exact .inr ⟨by rw [← HCC.out]; rfl, gF, ps.length, by rw [HLO.out]; rfl, by rw [HLO.out]; exact HRW4.out, hbw3⟩
  · have hC : tfC z ps src q = tfP z ps src q := by unfold tfC; rw [if_neg h0]
    rw [hC]
    generalize tfP z ps src q = C at *
    have hCn : (C != 0) = true := by simpa using h0
    have HC0 := Lib.hid h0
    generalize inB src 0 ((z.length : Int) - 1) = rb at *
    generalize flB 0 100000 z.length q = fb at *
    clear h hid hQ e1 hC h0
    go_enter Try.func19, Try.ntmps19
    go_wp2_with fail
    go_region_held3 (fun w' => w'.cell? ⟨w.heap.size, 0, none⟩ = some (.slice A z.length c) ∧ w'.cell? ⟨w.heap.size, 1, none⟩ = some (.slice B ps.length d)) (exact ⟨n0, n1⟩) (first
      | (go_at_call 62; go_must (refine (HHN.out _).mono ?_; rintro e w1 ⟨rfl, hb1⟩; have hN := hN.next hb1; have hb := bnext hb hb1; have ⟨n0, n1⟩ := hN))
      | (go_at_call 63; go_must (refine (HDM.out _ hb).mono ?_; rintro e w2 ⟨rfl, hb2⟩; have hN := hN.next hb2; have hb := bnext hb hb2; have ⟨n0, n1⟩ := hN))
      | (go_at_call 61; go_must (refine (HTC.out _ hb).mono ?_; rintro e w3 ⟨rfl, hb3⟩; have hN := hN.next hb3; have hb := bnext hb hb3; have ⟨n0, n1⟩ := hN)))
    go_wp2
    go_ret2
    exact .inl ⟨HC0.out, rfl, hb⟩
end Go.Proofs.Ytkbkmpcdidhagaa

/-
  TreeFlows: a new list and a code.
-/
namespace Go.Proofs.Ytkbkmpcdidhagaa
open Go.ChangeShapes Go.WideShapes Go.ChangeAt Go.RowKit
set_option maxRecDepth 100000
set_option linter.unusedVariables false

theorem rows_apart {w5 w4 : World} {b5 b4 s5 s4 n5 n4 c5 c4 : Nat} {E5 E4 : TypeId} {A5 A4 : Option Addr} {v5 v4 : List Value} (h5 : w5.ownsRow b5 E5 s5 (.slice A5 n5 c5) n5 v5) (h4 : w4.ownsRow b4 E4 s4 (.slice A4 n4 c4) n4 v4) (hb : w5.heap.size ≤ b4) :
    (Value.slice A4 n4 c4).ownBlock = none ∨ (Value.slice A4 n4 c4).ownBlock ≠ (Value.slice A5 n5 c5).ownBlock := by
  cases h : (Value.slice A4 n4 c4).ownBlock with
  | none => exact .inl rfl
  | some b =>
    refine .inr fun e => ?_
    have h1 := (h4.lt b h).1
    have h2 := (h5.lt b e.symm).2
    omega
theorem retFlows_ic {C : Int} {L : List Int} {w w' : World} {e : Ending} (h : RetFlows C L w e w') : RetIC (if C = 0 then L else []) C w e w' := by
  rcases h with ⟨h0, he, hb⟩ | ⟨h0, g, c, he, ho, hb⟩
  · rw [if_neg h0]
    exact retIC_nil he hb
  · rw [if_pos h0]
    subst h0
    exact ⟨_, c, he, ho, hb⟩
def treeFlowsX (z : List Int) (ps : List Pp) (src : Int) (q : List Int) : List Int := if tfC z ps src q = 0 then tfOut z ps src q else []
def treeFlowsC (z : List Int) (ps : List Pp) (src : Int) (q : List Int) : Int := tfC z ps src q
theorem treeFlowsX_short (z : List Int) (ps : List Pp) (src : Int) (q : List Int) (hn : z.length ≤ 1048576) (hm : ps.length ≤ 1048576) : (treeFlowsX z ps src q).length ≤ 1048576 := by
  unfold treeFlowsX
  split
  · unfold tfOut; rw [outF_length]; exact hm
  · simp
theorem specTreeFlows_ic (A B : Option Addr) (c d : Nat) (z : List Int) (ps : List Pp) (src : Int) (Q : Option Addr) (qc : Nat) (q : List Int) (w : World) (h : NetCells w A z B ps) (hn : z.length ≤ 1048576) (hm : ps.length ≤ 1048576) (hid : ∀ p ∈ ps, p.id.size ≤ maxLen) (hQ : CellsAt w Q (intsV q)) (hq : q.length ≤ 1048576) :
    Calls Try.prog 16 #[.agg #[.slice A z.length c, .slice B ps.length d], .int .i64 src, .slice Q q.length qc] w (RetIC (treeFlowsX z ps src q) (treeFlowsC z ps src q) w) :=
  (specTreeFlows_any A B c d z ps src Q qc q w h hn hm hid hQ hq).mono (fun e w' hh => retFlows_ic hh)
theorem implTreeFlows_ic (A B : Option Addr) (c d : Nat) (z : List Int) (ps : List Pp) (src : Int) (Q : Option Addr) (qc : Nat) (q : List Int) (w : World) (h : NetCells w A z B ps) (hn : z.length ≤ 1048576) (hm : ps.length ≤ 1048576) (hid : ∀ p ∈ ps, p.id.size ≤ maxLen) (hQ : CellsAt w Q (intsV q)) (hq : q.length ≤ 1048576) :
    Calls Try.prog 19 #[.agg #[.slice A z.length c, .slice B ps.length d], .int .i64 src, .slice Q q.length qc] w (RetIC (treeFlowsX z ps src q) (treeFlowsC z ps src q) w) :=
  (implTreeFlows_any A B c d z ps src Q qc q w h hn hm hid hQ hq).mono (fun e w' hh => retFlows_ic hh)
end Go.Proofs.Ytkbkmpcdidhagaa

/-
  A network as an argument of a law, opened.
-/
namespace Go.Proofs.Ytkbkmpcdidhagaa
open Go.ChangeShapes Go.WideShapes Go.ChangeAt Go.RowKit Go.Shelf
set_option linter.unusedSimpArgs false
set_option maxRecDepth 100000

section
variable {H : Type} {enc : TypeId × Value → H} {W : World} {base : Nat} {spare : Nat → Bool} {held : Bool}
theorem trod_pipe {fuel : Nat} {cs : List Value} {x : DataW H × List MemPlace} (h : DataW.trod enc Try.prog W base spare held fuel 68 cs = some x) (hl : cs.length = 6) :
    ∃ p : Pp, cs = p.cs ∧ p.id.size ≤ maxLen := by
  match cs, hl with
  | [c0, c1, c2, c3, c4, c5], _ =>
    obtain ⟨xs, n, hn, hx, hl, hlen, hg⟩ := DataW.trod_struct Try.underlying68 h
    have o9 : Try.prog.cellsOf 9 = 1 := by kernel_rfl
    have o2 : Try.prog.cellsOf 2 = 1 := by kernel_rfl
    match xs, hlen with
    | [y0, y1, y2, y3, y4, y5], _ =>
      have g0 := hg 0 _ rfl
      have g1 := hg 1 _ rfl
      have g2 := hg 2 _ rfl
      have g3 := hg 3 _ rfl
      have g4 := hg 4 _ rfl
      have g5 := hg 5 _ rfl
      simp [o9] at g0
      simp [o2] at g1 g2 g3 g4 g5
      obtain ⟨id, e0, z0, hs⟩ := DataW.trod_string Try.underlying9 g0
      obtain ⟨f, e1, z1, -⟩ := DataW.trod_int Try.underlying2 g1
      obtain ⟨t, e2, z2, -⟩ := DataW.trod_int Try.underlying2 g2
      obtain ⟨L, e3, z3, -⟩ := DataW.trod_int Try.underlying2 g3
      obtain ⟨d, e4, z4, -⟩ := DataW.trod_int Try.underlying2 g4
      obtain ⟨s, e5, z5, -⟩ := DataW.trod_int Try.underlying2 g5
      obtain rfl := List.cons.inj e0 |>.1
      obtain rfl := List.cons.inj e1 |>.1
      obtain rfl := List.cons.inj e2 |>.1
      obtain rfl := List.cons.inj e3 |>.1
      obtain rfl := List.cons.inj e4 |>.1
      obtain rfl := List.cons.inj e5 |>.1
      exact ⟨⟨id, f, t, L, d, s⟩, rfl, hs⟩
theorem trod_pipes {fuel : Nat} {v : Value} {x : DataW H × List MemPlace} (h : DataW.trod enc Try.prog W base spare held fuel 23 [v] = some x) :
    ∃ (A : Option Addr) (n c : Nat) (ps : List Pp), v = .slice A n c ∧ PipesIn W A n ps := by
  have o6 : Try.prog.cellsOf 68 = 6 := by kernel_rfl
  rcases Go.Deep.open_slice Try.underlying23 h with ⟨hcs, _⟩ | ⟨a, len, cap, m, n, D, Pl, hcs, _, hl, hm, hmm, _, hi⟩
  · obtain rfl := List.cons.inj hcs |>.1
    exact ⟨none, 0, 0, [], rfl, PipesIn.nil _⟩
  · obtain rfl := List.cons.inj hcs |>.1
    have hlm : len ≤ m := by rw [hmm]; split <;> omega
    obtain ⟨ps, hpl, hps⟩ := list_of len (fun i (p : Pp) => (∀ j, j < 6 → W.cell? (a.add (i * 6 + j)) = p.cs[j]?) ∧ p.id.size ≤ maxLen) fun i hil => by
      obtain ⟨cs', hc, ht⟩ := hi i (by omega)
      rw [o6] at hc
      obtain ⟨_, hcl, hat⟩ := World.cells?_some hc
      obtain ⟨p, rfl, hs⟩ := trod_pipe ht hcl
      exact ⟨p, fun j hj => by rw [← hat j hj, Go.Deep.add_add], hs⟩
    refine ⟨some a, len, cap, ps, rfl, hpl, by omega, fun h0 => ?_, fun p hp => ?_⟩
    · rw [rowsP_length, hpl] at h0
      obtain ⟨b, off, rfl, hj⟩ := cells_plain (n := len * 6) (vs := rowsP ps) (by rw [rowsP_length]; omega) (fun q hq => rowsP_of ps (fun q => W.cell? (a.add q)) (fun k p hk j hj => (hps k p hk).1 j hj) q (by omega)) (by omega)
      exact ⟨b, off, rfl, fun j hjl => hj j (by rw [rowsP_length] at hjl; omega)⟩
    · obtain ⟨i, hil, rfl⟩ := List.getElem_of_mem hp
      exact (hps i _ (List.getElem?_eq_getElem hil)).2
theorem open_net {r : Reach} {b0 : Nat} {v : Value} {dd : DataW H} {pl : List MemPlace}
    (hv : Value.okWide Try.prog W r b0 25 v) (h : DataW.Trod enc Try.prog W base spare held 25 v dd pl) :
    ∃ (A : Option Addr) (n c : Nat) (zs : List Int) (B : Option Addr) (m d : Nat) (ps : List Pp), v = .agg #[.slice A n c, .slice B m d] ∧ SliceIn .i64 W A n zs ∧ PipesIn W B m ps := by
  obtain ⟨v0, v1, y0, y1, n, rfl, _, _, t0, t1⟩ := Go.Joins.open_agg2 Try.underlying25 (by kernel_rfl) (by kernel_rfl) hv h
  obtain ⟨A, n, c, zs, rfl, hz⟩ := trod_nodes t0
  obtain ⟨B, m, d, ps, rfl, hp⟩ := trod_pipes t1
  exact ⟨A, n, c, zs, B, m, d, ps, rfl, hz, hp⟩
end
end Go.Proofs.Ytkbkmpcdidhagaa

/-
  TreeFlows: the walk over the law.
-/
namespace Go.Proofs.Ytkbkmpcdidhagaa.fnExactTreeFlows
open Go.ChangeShapes Go.WideShapes Go.ChangeAt Go.RowKit
open Go.ChangeMaps (open_string shut_string)
set_option linter.unusedVariables false

set_option maxRecDepth 100000
set_option maxHeartbeats 1600000

theorem walk (A0 : Option Addr) (n0 c0 : Nat) (z0 : List Int) (B0 : Option Addr) (m0 d0 : Nat) (ps0 : List Pp) (a1 : Int) (a2 : Option Addr) (len2 cap2 : Nat) (z2 : List Int) (w : World) (w0 : SliceIn .i64 w A0 n0 z0 ∧ PipesIn w B0 m0 ps0) (w1 : (Lit.int .i64 a1).wf = true) (w2 : SliceIn .i64 w a2 len2 z2) :
    Calls Try.prog 3 #[.agg #[.slice A0 n0 c0, .slice B0 m0 d0], .int .i64 a1, .slice a2 len2 cap2] w fun e w' => e = .returned (.bool true) ∧ Below w.heap.size w w' := by
  have hI : NetIn w A0 n0 z0 B0 m0 ps0 := w0
  have HI := Lib.hid hI
  have hid := w0.2.2.2.2
  have M1 := w0.1.2.1
  have M2 := w0.2.2.1
  obtain rfl : z0.length = n0 := w0.1.1
  obtain rfl : ps0.length = m0 := w0.2.1
  have HD := Lib.hid hid
  clear hid hI w0
  have HZ := Lib.hid w2
  have hzl := w2.1
  have hzm : len2 ≤ 9223372036854775807 := by have := w2.2.1; unfold maxLen at this; omega
  subst hzl
  clear w2
  have hN := NetAt.new w A0 z0.length c0 B0 ps0.length d0 25
  have hb : Below w.heap.size w (w.alloc (.cells #[.slice A0 z0.length c0, .slice B0 ps0.length d0] 25)) := bal (Below.refl _ _) _
  have hlow : w.heap.size < (w.alloc (.cells #[.slice A0 z0.length c0, .slice B0 ps0.length d0] 25)).heap.size := by simp
  have ⟨x0, x1⟩ := hN
  by_cases hz : z2.length ≤ 1048576
  rotate_left
  · have hz' : 1048576 < z2.length := by omega
    go_enter Try.func3, Try.ntmps3
    go_wp2
    go_ret
    exact ⟨rfl, hb⟩
  have hzz : z2.length ≤ 1048576 := hz
  go_enter Try.func3, Try.ntmps3
  go_wp2_with fail
  refine (HI.out.szN c0 d0 _ hb).mono ?_
  rintro e wa ⟨r, rfl, hr, hba⟩
  have hN := hN.next hba
  have hb := bnext hb hba
  have hlow := Nat.lt_of_lt_of_le hlow hba.size
  clear x0 x1 hba
  have ⟨x0, x1⟩ := hN
  rcases hr with rfl | ⟨r0, hn, hm⟩
  · go_wp2
    go_ret
    exact ⟨rfl, hb⟩
  · have HV := Lib.hid (fun A B c d wx (h : NetCells wx A z0 B ps0) Q qc (hQ : CellsAt wx Q (intsV z2)) => specTreeFlows_ic A B c d z0 ps0 a1 Q qc z2 wx h hn hm HD.out hQ hzz)
    have HW := Lib.hid (fun A B c d wx (h : NetCells wx A z0 B ps0) Q qc (hQ : CellsAt wx Q (intsV z2)) => implTreeFlows_ic A B c d z0 ps0 a1 Q qc z2 wx h hn hm HD.out hQ hzz)
    have hX1 := treeFlowsX_short z0 ps0 a1 z2 hn hm
    generalize treeFlowsX z0 ps0 a1 z2 = X at *
    generalize treeFlowsC z0 ps0 a1 z2 = C at *
    have hCC : (C != C) = false := by simp
    have hXm : X.length ≤ maxLen := by unfold maxLen; omega
    go_wp2_with fail
    refine (HI.out.copy c0 d0 _ hb hn hm).mono ?_
    rintro e w1 ⟨A1, c1, B1, d1, rfl, o1, q1, hb1⟩
    have hC1 : NetCells w1 A1 z0 B1 ps0 := ⟨owns_cells o1, pcells_of q1⟩
    have hN := hN.next hb1
    have hb := bnext hb hb1
    have hlow := Nat.lt_of_lt_of_le hlow hb1.size
    clear x0 x1 hb1 o1 q1
    have ⟨x0, x1⟩ := hN
    go_wp2_with fail
    refine (toInts_any a2 cap2 z2.length z2 _ rfl hz (HZ.out.2.2.1.next hb)).mono ?_
    rintro e w1c hq
    obtain ⟨Au, cu, rfl, hou, hbs⟩ := retInts_of hq
    have Zu := owns_cells hou
    have hC1 := hC1.next hbs
    have hN := hN.next hbs
    have hb := bnext hb hbs
    have hlow := Nat.lt_of_lt_of_le hlow hbs.size
    clear x0 x1 hbs hq hou
    have ⟨x0, x1⟩ := hN
    go_wp2_with fail
    refine (HV.out A1 B1 c1 d1 _ hC1 Au cu Zu).mono ?_
    rintro e w2 ⟨A2, c2, rfl, o2, hb2⟩
    have S2 := owns_cells o2
    have L2 := owns_lies o2
    have hN := hN.next hb2
    have hb := bnext hb hb2
    have hlow := Nat.lt_of_lt_of_le hlow hb2.size
    clear x0 x1 hb2 o2 hC1 Zu
    have ⟨x0, x1⟩ := hN
    go_wp2_with fail
    refine (HI.out.copy c0 d0 _ hb hn hm).mono ?_
    rintro e w3 ⟨A3, c3, B3, d3, rfl, O3, Q3, hb3⟩
    have hal : Below w3.heap.size w3 (w3.alloc (.cells #[.slice A3 z0.length c3, .slice B3 ps0.length d3] 31)) := bal (Below.refl _ _) _
    have lA := owns_lies O3
    have lB := owns_lies6 Q3
    have S2 := (S2.next hb3).next hal
    have O3 := owns_below O3 hal (Nat.le_refl _)
    have Q3 := owns6_below Q3 hal (Nat.le_refl _)
    have hN := (hN.next hb3).next hal
    have hX := NetAt.new w3 A3 z0.length c3 B3 ps0.length d3 31
    have hb := bnext (bnext hb hb3) hal
    have hlo : w3.heap.size ≤ (w3.alloc (.cells #[.slice A3 z0.length c3, .slice B3 ps0.length d3] 31)).heap.size := hal.size
    have h23 : w2.heap.size ≤ w3.heap.size := hb3.size
    clear x0 x1 hb3 hal
    have ⟨x0, x1⟩ := hN
    have ⟨y0, y1⟩ := hX
    go_wp2_with fail
    refine (toInts_any a2 cap2 z2.length z2 _ rfl hz (HZ.out.2.2.1.next hb)).mono ?_
    rintro e w3c hq
    obtain ⟨A5, c5, rfl, O5, hbs⟩ := retInts_of hq
    have O5 := owns_base (base' := w3.heap.size) O5 hlo
    have S2 := S2.next hbs
    have O3 := owns_below O3 hbs (Nat.le_refl _)
    have Q3 := owns6_below Q3 hbs (Nat.le_refl _)
    have hN := hN.next hbs
    have hX := hX.next hbs
    have hb := bnext hb hbs
    have hlo := Nat.le_trans hlo hbs.size
    clear x0 x1 y0 y1 hbs hq
    have ⟨x0, x1⟩ := hN
    have ⟨y0, y1⟩ := hX
    go_wp2_with fail
    refine (HW.out A3 B3 c3 d3 _ ⟨owns_cells O3, pcells_of Q3⟩ A5 c5 (owns_cells O5)).mono ?_
    rintro e w4 ⟨A4, c4, rfl, O4, hb4⟩
    have H45 := Lib.hid (rows_apart O5 O4 (Nat.le_refl _))
    have O4 := owns_base (base' := w3.heap.size) O4 hlo
    have O5 := owns_below O5 hb4 (Nat.le_refl _)
    have S2 := S2.next hb4
    have O3 := owns_below O3 hb4 (Nat.le_refl _)
    have Q3 := owns6_below Q3 hb4 (Nat.le_refl _)
    have hN := hN.next hb4
    have hX := hX.next hb4
    have hb := bnext hb hb4
    have hlo := Nat.le_trans hlo hb4.size
    clear x0 x1 y0 y1 hb4
    have ⟨x0, x1⟩ := hN
    have ⟨y0, y1⟩ := hX
    go_wp2_with fail
    refine (eqInts_same A4 A2 c4 c2 X _ hXm (owns_cells O4) S2).mono ?_
    rintro e w5 ⟨rfl, hd5⟩
    have hb5 := drawn_below hd5
    have S2 := S2.next hb5
    have O3 := owns_below O3 hb5 (Nat.le_refl _)
    have Q3 := owns6_below Q3 hb5 (Nat.le_refl _)
    have O4 := owns_below O4 hb5 (Nat.le_refl _)
    have O5 := owns_below O5 hb5 (Nat.le_refl _)
    have hN := hN.next hb5
    have hX := hX.next hb5
    have hb := bnext hb hb5
    have hlo := Nat.le_trans hlo hb5.size
    clear x0 x1 y0 y1 hb5 hd5
    have ⟨x0, x1⟩ := hN
    have ⟨y0, y1⟩ := hX
    go_wp2_with fail
    have hdr : Below w5.heap.size w5 w5.drew := below_drewN (Below.refl _ _) 1
    have S2 := S2.next hdr
    have O3 := owns_below O3 hdr (Nat.le_refl _)
    have Q3 := owns6_below Q3 hdr (Nat.le_refl _)
    have O4 := owns_below O4 hdr (Nat.le_refl _)
    have O5 := owns_below O5 hdr (Nat.le_refl _)
    have hN := hN.next hdr
    have hX := hX.next hdr
    have hb := bnext hb hdr
    have hlo : w3.heap.size ≤ w5.drew.heap.size := hlo
    clear x0 x1 y0 y1 hdr
    have ⟨x0, x1⟩ := hN
    have ⟨y0, y1⟩ := hX
    go_region_held3 (fun w' => w'.cell? ⟨w.heap.size, 0, none⟩ = some (.slice A0 z0.length c0) ∧ w'.cell? ⟨w.heap.size, 1, none⟩ = some (.slice B0 ps0.length d0) ∧ w'.cell? ⟨w3.heap.size, 0, none⟩ = some (.slice A3 z0.length c3) ∧ w'.cell? ⟨w3.heap.size, 1, none⟩ = some (.slice B3 ps0.length d3)) (exact ⟨x0, x1, y0, y1⟩) (first | (go_at_call 17; refine (HI.out.copy c0 d0 _ hb hn hm).mono ?_; rintro e w6 ⟨A6, c6, B6, d6, rfl, o6, q6, hb6⟩; have hD6 : NetCells w6 A6 z0 B6 ps0 := ⟨owns_cells o6, pcells_of q6⟩; have S2 := S2.next hb6; have O3 := owns_below O3 hb6 (Nat.le_refl _); have Q3 := owns6_below Q3 hb6 (Nat.le_refl _); have O4 := owns_below O4 hb6 (Nat.le_refl _); have O5 := owns_below O5 hb6 (Nat.le_refl _); have hb := bnext hb hb6; have hlo := Nat.le_trans hlo hb6.size; have hN := hN.next hb6; have hX := hX.next hb6; have ⟨x0, x1⟩ := hN; have ⟨y0, y1⟩ := hX) | (go_at_call 21; refine (eqNet_same A3 B3 _ _ c3 d3 _ _ z0 ps0 _ M1 M2 (owns_cells O3) (pcells_of Q3) hD6.1 hD6.2).mono ?_; rintro e w7 ⟨rfl, hb7⟩; have S2 := S2.next hb7; have O3 := owns_below O3 hb7 (Nat.le_refl _); have Q3 := owns6_below Q3 hb7 (Nat.le_refl _); have O4 := owns_below O4 hb7 (Nat.le_refl _); have O5 := owns_below O5 hb7 (Nat.le_refl _); have hb := bnext hb hb7; have hlo := Nat.le_trans hlo hb7.size; have hN := hN.next hb7; have hX := hX.next hb7; have ⟨x0, x1⟩ := hN; have ⟨y0, y1⟩ := hX))
    go_wp2_with fail
    refine (toInts_any a2 cap2 z2.length z2 _ rfl hz (HZ.out.2.2.1.next hb)).mono ?_
    rintro e w7c hq
    obtain ⟨A9, c9, rfl, ho9, hbs⟩ := retInts_of hq
    have Z9 := owns_cells ho9
    have S2 := S2.next hbs
    have O3 := owns_below O3 hbs (Nat.le_refl _)
    have Q3 := owns6_below Q3 hbs (Nat.le_refl _)
    have O4 := owns_below O4 hbs (Nat.le_refl _)
    have O5 := owns_below O5 hbs (Nat.le_refl _)
    have hN := hN.next hbs
    have hX := hX.next hbs
    have hb := bnext hb hbs
    have hlo := Nat.le_trans hlo hbs.size
    clear x0 x1 y0 y1 hbs hq ho9
    have ⟨x0, x1⟩ := hN
    have ⟨y0, y1⟩ := hX
    go_wp2_with fail
    refine (eqInts_same A5 A9 c5 c9 z2 _ (by unfold maxLen; omega) (owns_cells O5) Z9).mono ?_
    rintro e w7d ⟨rfl, hd⟩
    have hbs := drawn_below hd
    have S2 := S2.next hbs
    have O3 := owns_below O3 hbs (Nat.le_refl _)
    have Q3 := owns6_below Q3 hbs (Nat.le_refl _)
    have O4 := owns_below O4 hbs (Nat.le_refl _)
    have O5 := owns_below O5 hbs (Nat.le_refl _)
    have hN := hN.next hbs
    have hX := hX.next hbs
    have hb := bnext hb hbs
    have hlo := Nat.le_trans hlo hbs.size
    clear x0 x1 y0 y1 hbs hd Z9
    have ⟨x0, x1⟩ := hN
    have ⟨y0, y1⟩ := hX
    go_wp2_with fail
    have hw7 : w2.heap.size ≤ w7d.heap.size := Nat.le_trans h23 hlo
    refine (markNet_any A3 B3 z0.length c3 ps0.length d3 w2.heap.size _ _ 1 _ (by omega) (by omega) O3 Q3).mono ?_
    rintro e w8 ⟨rfl, _, _, hT⟩
    obtain ⟨k1, k2, k3, k4⟩ := two_keeps (w0 := w) hT O3 Q3 lA lB
    have hN := hN.keep (k1 _ hlow hN.lies)
    have S2 := S2.keep (fun b off e => k1 b (L2 b off e) (Nat.lt_of_lt_of_le (L2 b off e) hw7))
    have O4 := owns_keep O4 (fun b e => k2 b (O4.lt b e).1 (O4.lt b e).2)
    have O5 := owns_keep O5 (fun b e => k2 b (O5.lt b e).1 (O5.lt b e).2)
    have hb := k3 _ (Nat.le_of_lt hlow) (Nat.le_trans (Nat.le_of_lt hlow) hw7) hb
    have hlo := Nat.le_trans hlo k4
    clear x0 x1 y0 y1 hX O3 Q3 hT k1 k2 k3 k4 lA lB hw7
    have ⟨x0, x1⟩ := hN
    go_wp2_with fail
    refine (markInts_any A5 c5 z2.length w3.heap.size (intsV z2) _ _ (by omega) (by omega) O5).mono ?_
    rintro e w8c ⟨rfl, _, hg⟩
    obtain ⟨k1, k2, k3⟩ := one_keeps (w0 := w) hg O5
    have hN := hN.keep (k1 _ (Nat.lt_of_lt_of_le hlow h23) hN.lies)
    have S2 := S2.keep (fun b off e => k1 b (Nat.lt_of_lt_of_le (L2 b off e) h23) (Nat.lt_of_lt_of_le (L2 b off e) (Nat.le_trans h23 hlo)))
    have O4 := O4.kept hg H45.out
    have hb := k2 _ (Nat.le_trans (Nat.le_of_lt hlow) h23) (Nat.le_trans (Nat.le_trans (Nat.le_of_lt hlow) h23) hlo) hb
    have hlo := Nat.le_trans hlo k3
    have hkn : ¬ (1 + (z0.length : Int) + 6 * (ps0.length : Int) + (z2.length : Int) < 0) := by omega
    clear x0 x1 hg k1 k2 k3 O5 H45
    have ⟨x0, x1⟩ := hN
    go_wp2_with fail
    refine (eqInts_same A4 A2 c4 c2 X _ hXm (owns_cells O4) S2).mono ?_
    rintro e w9 ⟨rfl, hd9⟩
    have hb9 := drawn_below hd9
    have S2 := S2.next hb9
    have O4 := owns_below O4 hb9 (Nat.le_refl _)
    have hN := hN.next hb9
    have hb := bnext hb hb9
    have hlo := Nat.le_trans hlo hb9.size
    clear x0 x1 hb9 hd9
    have ⟨x0, x1⟩ := hN
    go_wp2_with fail
    refine (markInts_any A4 c4 X.length w3.heap.size (intsV X) 1 _ (by omega) (by omega) O4).mono ?_
    rintro e w10 ⟨rfl, OM, hg⟩
    obtain ⟨k1, k2, k3⟩ := one_keeps (w0 := w) hg O4
    have hN := hN.keep (k1 _ (Nat.lt_of_lt_of_le hlow h23) hN.lies)
    have S2 := S2.keep (fun b off e => k1 b (Nat.lt_of_lt_of_le (L2 b off e) h23) (Nat.lt_of_lt_of_le (L2 b off e) (Nat.le_trans h23 hlo)))
    have hb := k2 _ (Nat.le_trans (Nat.le_of_lt hlow) h23) (Nat.le_trans (Nat.le_trans (Nat.le_of_lt hlow) h23) hlo) hb
    have hneg : ¬ (1 + (X.length : Int) < 0) := by omega
    clear x0 x1 hg k1 k2 k3 O4
    have ⟨x0, x1⟩ := hN
    go_wp2_with fail
    refine (heldInts_any A4 c4 X.length 1 _ (by omega) (by omega) hXm (owns_cells OM)).mono ?_
    rintro e w11 ⟨rfl, hd⟩
    have hb11 := drawn_below hd
    have S2 := S2.next hb11
    have OM := owns_below OM hb11 (Nat.le_refl _)
    have hN := hN.next hb11
    have hb := bnext hb hb11
    clear x0 x1 hb11 hd
    have ⟨x0, x1⟩ := hN
    go_wp2_with fail
    refine (HI.out.copy c0 d0 _ hb hn hm).mono ?_
    rintro e w12 ⟨A7, c7, B7, d7, rfl, o7, q7, hb12⟩
    have hC7 : NetCells w12 A7 z0 B7 ps0 := ⟨owns_cells o7, pcells_of q7⟩
    have S2 := S2.next hb12
    have OM := owns_below OM hb12 (Nat.le_refl _)
    have hb := bnext hb hb12
    clear x0 x1 hb12 o7 q7 hN
    go_wp2_with fail
    refine (toInts_any a2 cap2 z2.length z2 _ rfl hz (HZ.out.2.2.1.next hb)).mono ?_
    rintro e w12c hq
    obtain ⟨Aa, ca, rfl, hoa, hbs⟩ := retInts_of hq
    have Za := owns_cells hoa
    have hC7 := hC7.next hbs
    have S2 := S2.next hbs
    have OM := owns_below OM hbs (Nat.le_refl _)
    have hb := bnext hb hbs
    clear hbs hq hoa
    go_wp2_with fail
    refine (HW.out A7 B7 c7 d7 _ hC7 Aa ca Za).mono ?_
    rintro e w13 ⟨A8, c8, rfl, O8, hb13⟩
    have S2 := S2.next hb13
    have OM := owns_below OM hb13 (Nat.le_refl _)
    have hb := bnext hb hb13
    clear hb13 hC7 Za
    go_wp2_with fail
    refine (eqInts_same A8 A2 c8 c2 X _ hXm (owns_cells O8) S2).mono ?_
    rintro e w14 ⟨rfl, hd⟩
    have hb14 := drawn_below hd
    have OM := owns_below OM hb14 (Nat.le_refl _)
    have hb := bnext hb hb14
    clear hb14 hd S2 O8
    go_wp2_with fail
    refine (heldInts_any A4 c4 X.length 1 _ (by omega) (by omega) hXm (owns_cells OM)).mono ?_
    rintro e w15 ⟨rfl, hd⟩
    have hb := bnext hb (drawn_below hd)
    go_wp2
    go_ret
    exact ⟨rfl, hb⟩

end Go.Proofs.Ytkbkmpcdidhagaa.fnExactTreeFlows
