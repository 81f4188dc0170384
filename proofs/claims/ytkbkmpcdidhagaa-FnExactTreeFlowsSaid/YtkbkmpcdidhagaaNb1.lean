/-
  A tree seen from a node: the order in which a search reaches all nodes, and the pipe by which it reaches each; the mathematics.
-/
import Derived.Test.YtkbkmpcdidhagaaNb0
import Derived.Test.YtkbkmpcdidhagaaO1
namespace Go.Proofs.Ytkbkmpcdidhagaa
open Go.ChangeShapes Go.WideShapes Go.ChangeAt Go.RowKit
set_option linter.unusedVariables false

def bfsStep (ps : List Pp) (u : Int) (k : Nat) (s : List Int × List Int) : List Int × List Int :=
  match ps[k]? with
  | none => s
  | some p => if p.f = u ∧ p.t ∉ s.1 then (s.1 ++ [p.t], s.2.set p.t.toNat ((k : Int) + 1)) else if p.t = u ∧ p.f ∉ s.1 then (s.1 ++ [p.f], s.2.set p.f.toNat (-((k : Int) + 1))) else s
def bfsIn (ps : List Pp) (u : Int) (s : List Int × List Int) : Nat → List Int × List Int
  | 0 => s
  | k + 1 => bfsStep ps u k (bfsIn ps u s k)
def bfsOut (ps : List Pp) (n : Nat) (src : Int) : Nat → List Int × List Int
  | 0 => ([src], List.replicate n 0)
  | a + 1 => match (bfsOut ps n src a).1[a]? with
    | some u => bfsIn ps u (bfsOut ps n src a) ps.length
    | none => bfsOut ps n src a
theorem bfsStep_at {ps : List Pp} {k : Nat} {p : Pp} (h : ps[k]? = some p) (u : Int) (s : List Int × List Int) : bfsStep ps u k s = if p.f = u ∧ p.t ∉ s.1 then (s.1 ++ [p.t], s.2.set p.t.toNat ((k : Int) + 1)) else if p.t = u ∧ p.f ∉ s.1 then (s.1 ++ [p.f], s.2.set p.f.toNat (-((k : Int) + 1))) else s := by
  unfold bfsStep; rw [h]
theorem bfsOut_at {ps : List Pp} {n : Nat} {src : Int} {a : Nat} {u : Int} (h : (bfsOut ps n src a).1[a]? = some u) : bfsOut ps n src (a + 1) = bfsIn ps u (bfsOut ps n src a) ps.length := by
  show (match (bfsOut ps n src a).1[a]? with | some u => _ | none => _) = _
  rw [h]
theorem bfsOut_end {ps : List Pp} {n : Nat} {src : Int} {a : Nat} (h : (bfsOut ps n src a).1.length ≤ a) : ∀ d, bfsOut ps n src (a + d) = bfsOut ps n src a
  | 0 => rfl
  | d + 1 => by
    have ih := bfsOut_end h d
    show (match (bfsOut ps n src (a + d)).1[a + d]? with | some u => _ | none => _) = _
    have e : (bfsOut ps n src (a + d)).1[a + d]? = none := List.getElem?_eq_none (by rw [ih]; omega)
    rw [e]
    exact ih
theorem getI_set (Y : List Int) (x y v : Int) (x0 : 0 ≤ x) (x1 : x < Y.length) (y0 : 0 ≤ y) : getI (Y.set x.toNat v) y = if y = x then v else getI Y y := by
  unfold getI
  rw [List.getD_eq_getElem?_getD, List.getElem?_set]
  by_cases h : y = x
  · subst h; rw [if_pos rfl, if_pos rfl, if_pos (by omega)]; rfl
  · rw [if_neg h, if_neg (by omega), List.getD_eq_getElem?_getD]

/-- the pipe that leads to a node, with its number in the walk, and a node ahead of it -/
def Leads (ps : List Pp) (O Y : List Int) (i : Nat) (x : Int) : Prop :=
  ∃ (k : Nat) (p : Pp), ps[k]? = some p ∧ ((getI Y x = (k : Int) + 1 ∧ p.t = x ∧ ∃ j, j < i ∧ O[j]? = some p.f) ∨ (getI Y x = -((k : Int) + 1) ∧ p.f = x ∧ ∃ j, j < i ∧ O[j]? = some p.t))
structure BfsOk (ps : List Pp) (n : Nat) (src : Int) (O Y : List Int) : Prop where
  len : Y.length = n
  nodup : O.Nodup
  rng : ∀ x ∈ O, 0 ≤ x ∧ x < n
  src : O[0]? = some src
  par : ∀ i x, O[i]? = some x → 0 < i → Leads ps O Y i x
theorem BfsOk.add {ps : List Pp} {n : Nat} {src : Int} {O Y : List Int} (h : BfsOk ps n src O Y) {x v : Int} {k : Nat} {p : Pp} (hp : ps[k]? = some p) (hx : x ∉ O) (x0 : 0 ≤ x) (x1 : x < n) (hw : (v = (k : Int) + 1 ∧ p.t = x ∧ p.f ∈ O) ∨ (v = -((k : Int) + 1) ∧ p.f = x ∧ p.t ∈ O)) :
    BfsOk ps n src (O ++ [x]) (Y.set x.toNat v) := by
  have hl := h.len
  have hpos : 0 < O.length := by
    have := h.src
    exact (List.getElem?_eq_some_iff.1 this).1
  refine ⟨by rw [List.length_set]; exact h.len, ?_, ?_, ?_, ?_⟩
  · refine List.nodup_append.2 ⟨h.nodup, by simp, fun a ha b hb => ?_⟩
    rw [List.mem_singleton] at hb
    subst hb
    rintro rfl
    exact hx ha
  · intro y hy
    rw [List.mem_append, List.mem_singleton] at hy
    rcases hy with hy | rfl
    · exact h.rng y hy
    · exact ⟨x0, x1⟩
  · rw [List.getElem?_append_left hpos]; exact h.src
  · intro i y hy hi
    by_cases hlt : i < O.length
    · rw [List.getElem?_append_left hlt] at hy
      have hyO := List.mem_of_getElem? hy
      have hne : y ≠ x := by rintro rfl; exact hx hyO
      have hg : getI (Y.set x.toNat v) y = getI Y y := by rw [getI_set Y x y v x0 (by omega) (h.rng y hyO).1, if_neg hne]
      obtain ⟨k', p', hp', hc⟩ := h.par i y hy hi
      refine ⟨k', p', hp', ?_⟩
      rw [hg]
      rcases hc with ⟨a, b, j, hj, hO⟩ | ⟨a, b, j, hj, hO⟩
      · exact .inl ⟨a, b, j, hj, by rw [List.getElem?_append_left (by omega)]; exact hO⟩
      · exact .inr ⟨a, b, j, hj, by rw [List.getElem?_append_left (by omega)]; exact hO⟩
    · have hi2 : i < (O ++ [x]).length := (List.getElem?_eq_some_iff.1 hy).1
      rw [List.length_append, List.length_singleton] at hi2
      have he : i = O.length := by omega
      subst he
      rw [List.getElem?_append_right (Nat.le_refl _), Nat.sub_self] at hy
      obtain rfl : x = y := by simpa using hy
      have hg : getI (Y.set x.toNat v) x = v := by rw [getI_set Y x x v x0 (by omega) x0, if_pos rfl]
      refine ⟨k, p, hp, ?_⟩
      rw [hg]
      rcases hw with ⟨a, b, hO⟩ | ⟨a, b, hO⟩
      · obtain ⟨j, hj⟩ := List.mem_iff_getElem?.1 hO
        have hjl := (List.getElem?_eq_some_iff.1 hj).1
        exact .inl ⟨a, b, j, hjl, by rw [List.getElem?_append_left hjl]; exact hj⟩
      · obtain ⟨j, hj⟩ := List.mem_iff_getElem?.1 hO
        have hjl := (List.getElem?_eq_some_iff.1 hj).1
        exact .inr ⟨a, b, j, hjl, by rw [List.getElem?_append_left hjl]; exact hj⟩
/-- what a step of the search makes of an order -/
def Longer (O O' : List Int) : Prop := ∃ l, O' = O ++ l
theorem Longer.refl (O : List Int) : Longer O O := ⟨[], by simp⟩
theorem Longer.trans {a b c : List Int} (h : Longer a b) (k : Longer b c) : Longer a c := by
  obtain ⟨l, rfl⟩ := h
  obtain ⟨m, rfl⟩ := k
  exact ⟨l ++ m, by simp⟩
theorem Longer.mem {a b : List Int} (h : Longer a b) {x : Int} (hx : x ∈ a) : x ∈ b := by
  obtain ⟨l, rfl⟩ := h
  exact List.mem_append_left _ hx
theorem Longer.at {a b : List Int} (h : Longer a b) {i : Nat} {x : Int} (hx : a[i]? = some x) : b[i]? = some x := by
  obtain ⟨l, rfl⟩ := h
  rw [List.getElem?_append_left (List.getElem?_eq_some_iff.1 hx).1]
  exact hx
theorem Longer.len {a b : List Int} (h : Longer a b) : a.length ≤ b.length := by
  obtain ⟨l, rfl⟩ := h
  rw [List.length_append]; omega
theorem bfsStep_ok {ps : List Pp} {n : Nat} {src u : Int} {s : List Int × List Int} (hj : Joins n ps) (h : BfsOk ps n src s.1 s.2) (hu : u ∈ s.1) (k : Nat) :
    BfsOk ps n src (bfsStep ps u k s).1 (bfsStep ps u k s).2 ∧ Longer s.1 (bfsStep ps u k s).1 ∧ (∀ p, ps[k]? = some p → (p.f = u → p.t ∈ (bfsStep ps u k s).1) ∧ (p.t = u → p.f ∈ (bfsStep ps u k s).1)) := by
  cases hp : ps[k]? with
  | none =>
    have e : bfsStep ps u k s = s := by unfold bfsStep; rw [hp]
    rw [e]
    exact ⟨h, Longer.refl _, fun p hp => by cases hp⟩
  | some p =>
    obtain ⟨⟨f0, f1⟩, ⟨t0, t1⟩, hne⟩ := hj p (List.mem_of_getElem? hp)
    rw [bfsStep_at hp]
    by_cases h1 : p.f = u ∧ p.t ∉ s.1
    · rw [if_pos h1]
      refine ⟨h.add hp h1.2 t0 t1 (.inl ⟨rfl, rfl, by rw [h1.1]; exact hu⟩), ⟨_, rfl⟩, fun q hq => ?_⟩
      obtain rfl : p = q := by simpa using hq
      exact ⟨fun _ => by simp, fun e => absurd (h1.1.trans e.symm) hne⟩
    · rw [if_neg h1]
      by_cases h2 : p.t = u ∧ p.f ∉ s.1
      · rw [if_pos h2]
        refine ⟨h.add hp h2.2 f0 f1 (.inr ⟨rfl, rfl, by rw [h2.1]; exact hu⟩), ⟨_, rfl⟩, fun q hq => ?_⟩
        obtain rfl : p = q := by simpa using hq
        exact ⟨fun e => absurd (e.trans h2.1.symm) hne, fun _ => by simp⟩
      · rw [if_neg h2]
        refine ⟨h, Longer.refl _, fun q hq => ?_⟩
        obtain rfl : p = q := by simpa using hq
        exact ⟨fun e => Classical.byContradiction fun hn => h1 ⟨e, hn⟩, fun e => Classical.byContradiction fun hn => h2 ⟨e, hn⟩⟩
theorem bfsIn_ok {ps : List Pp} {n : Nat} {src u : Int} {s : List Int × List Int} (hj : Joins n ps) (h : BfsOk ps n src s.1 s.2) (hu : u ∈ s.1) : ∀ (k : Nat),
    BfsOk ps n src (bfsIn ps u s k).1 (bfsIn ps u s k).2 ∧ Longer s.1 (bfsIn ps u s k).1 ∧ (∀ i p, i < k → ps[i]? = some p → (p.f = u → p.t ∈ (bfsIn ps u s k).1) ∧ (p.t = u → p.f ∈ (bfsIn ps u s k).1))
  | 0 => ⟨h, Longer.refl _, fun i p hi => by omega⟩
  | k + 1 => by
    obtain ⟨a, b, c⟩ := bfsIn_ok hj h hu k
    obtain ⟨a', b', c'⟩ := bfsStep_ok hj a (b.mem hu) k
    refine ⟨a', b.trans b', fun i p hi hp => ?_⟩
    by_cases e : i = k
    · subst e; exact c' p hp
    · have := c i p (by omega) hp
      exact ⟨fun x => b'.mem (this.1 x), fun x => b'.mem (this.2 x)⟩
theorem bfsOut_ok {ps : List Pp} {n : Nat} {src : Int} (hj : Joins n ps) (s0 : 0 ≤ src) (s1 : src < n) : ∀ (a : Nat),
    BfsOk ps n src (bfsOut ps n src a).1 (bfsOut ps n src a).2 ∧ (∀ i u, i < a → (bfsOut ps n src a).1[i]? = some u → ∀ p ∈ ps, (p.f = u → p.t ∈ (bfsOut ps n src a).1) ∧ (p.t = u → p.f ∈ (bfsOut ps n src a).1))
  | 0 => by
    refine ⟨⟨by simp [bfsOut], by simp [bfsOut], fun x hx => ?_, rfl, fun i x hx hi => ?_⟩, fun i u hi => by omega⟩
    · obtain rfl : x = src := by simpa [bfsOut] using hx
      exact ⟨s0, s1⟩
    · have := (List.getElem?_eq_some_iff.1 hx).1
      simp [bfsOut] at this
      omega
  | a + 1 => by
    obtain ⟨h, hd⟩ := bfsOut_ok hj s0 s1 a
    cases hu : (bfsOut ps n src a).1[a]? with
    | none =>
      have e : bfsOut ps n src (a + 1) = bfsOut ps n src a := bfsOut_end (List.getElem?_eq_none_iff.1 hu) 1
      rw [e]
      refine ⟨h, fun i u hi hx => hd i u ?_ hx⟩
      have h1 := (List.getElem?_eq_some_iff.1 hx).1
      have h2 := List.getElem?_eq_none_iff.1 hu
      omega
    | some u =>
      rw [bfsOut_at hu]
      obtain ⟨b1, b2, b3⟩ := bfsIn_ok hj h (List.mem_of_getElem? hu) ps.length
      refine ⟨b1, fun i v hi hv p hp => ?_⟩
      by_cases e : i = a
      · subst e
        obtain rfl : u = v := by
          have := b2.at hu
          rw [this] at hv
          simpa using hv
        obtain ⟨j, hj'⟩ := List.mem_iff_getElem?.1 hp
        exact b3 j p (List.getElem?_eq_some_iff.1 hj').1 hj'
      · have hv' : (bfsOut ps n src a).1[i]? = some v := by
          have hil : i < (bfsOut ps n src a).1.length := by
            have := (List.getElem?_eq_some_iff.1 hu).1
            omega
          have h3 := List.getElem?_eq_getElem hil
          have h4 := b2.at h3
          rw [h4] at hv
          rw [h3]
          exact hv
        have := hd i v (by omega) hv' p hp
        exact ⟨fun x => b2.mem (this.1 x), fun x => b2.mem (this.2 x)⟩

def pos (O : List Int) (x : Int) : Nat := O.idxOf x
theorem pos_of {O : List Int} (hn : O.Nodup) {i : Nat} {x : Int} (h : O[i]? = some x) : pos O x = i := by
  have hm := List.mem_of_getElem? h
  have hl := List.idxOf_lt_length_iff.2 hm
  have : O[O.idxOf x]? = some x := by rw [List.getElem?_eq_getElem hl, List.getElem_idxOf hl]
  exact (List.getElem?_inj hl hn).1 (this.trans h.symm)
theorem pos_at {O : List Int} {x : Int} (h : x ∈ O) : O[pos O x]? = some x := by
  have hl := List.idxOf_lt_length_iff.2 h
  unfold pos
  rw [List.getElem?_eq_getElem hl, List.getElem_idxOf hl]
theorem pos_lt {O : List Int} {x : Int} (h : x ∈ O) : pos O x < O.length := List.idxOf_lt_length_iff.2 h
theorem countL_nodup (n : Nat) : (countL n).Nodup := by
  unfold countL
  refine List.pairwise_map.2 (List.Pairwise.imp ?_ (List.nodup_range (n := n)))
  intro a b h e
  exact h (by omega)
theorem mem_countL {n : Nat} {x : Int} : x ∈ countL n ↔ 0 ≤ x ∧ x < n := by
  unfold countL
  rw [List.mem_map]
  constructor
  · rintro ⟨i, hi, rfl⟩
    have := List.mem_range.1 hi
    omega
  · rintro ⟨h0, h1⟩
    exact ⟨x.toNat, List.mem_range.2 (by omega), by omega⟩
theorem BfsOk.short {ps : List Pp} {n : Nat} {src : Int} {O Y : List Int} (h : BfsOk ps n src O Y) : O.length ≤ n := by
  have := h.nodup.length_le_of_subset (l₂ := countL n) fun x hx => mem_countL.2 (h.rng x hx)
  rwa [countL_length] at this
/-- the index of the pipe that leads to a node -/
def pipeTo (Y : List Int) (x : Int) : Nat := (absI (getI Y x) - 1).toNat
/-- a tree seen from a node -/
structure Rooted (ps : List Pp) (n : Nat) (src : Int) (O Y : List Int) : Prop where
  ok : BfsOk ps n src O Y
  all : ∀ x : Int, 0 ≤ x → x < n → x ∈ O
  own : ∀ (k : Nat) (p : Pp), ps[k]? = some p → (getI Y p.t = (k : Int) + 1 ∧ pos O p.f < pos O p.t) ∨ (getI Y p.f = -((k : Int) + 1) ∧ pos O p.t < pos O p.f)
theorem Leads.pipe {ps : List Pp} {O Y : List Int} {i : Nat} {x : Int} (h : Leads ps O Y i x) (hn : O.Nodup) (hi : O[i]? = some x) : ∃ p, ps[pipeTo Y x]? = some p ∧ ((getI Y x = (pipeTo Y x : Int) + 1 ∧ p.t = x ∧ pos O p.f < pos O x ∧ p.f ∈ O) ∨ (getI Y x = -((pipeTo Y x : Int) + 1) ∧ p.f = x ∧ pos O p.t < pos O x ∧ p.t ∈ O)) := by
  obtain ⟨k, p, hp, hc⟩ := h
  have hk : pipeTo Y x = k := by
    unfold pipeTo absI
    rcases hc with ⟨e, _⟩ | ⟨e, _⟩ <;> rw [e] <;> split <;> omega
  rw [hk]
  refine ⟨p, hp, ?_⟩
  rcases hc with ⟨e, a, j, hj, hO⟩ | ⟨e, a, j, hj, hO⟩
  · exact .inl ⟨e, a, by rw [pos_of hn hO, pos_of hn hi]; exact hj, List.mem_of_getElem? hO⟩
  · exact .inr ⟨e, a, by rw [pos_of hn hO, pos_of hn hi]; exact hj, List.mem_of_getElem? hO⟩
theorem rooted_of {ps : List Pp} {n : Nat} {src : Int} (hj : Joins n ps) (hn : ps.length + 1 = n) (ht : (treeTo noneClosed n ps ps.length).length = ps.length) (s0 : 0 ≤ src) (s1 : src < n) : Rooted ps n src (bfsOut ps n src n).1 (bfsOut ps n src n).2 := by
  obtain ⟨h, hd⟩ := bfsOut_ok hj s0 s1 n
  generalize (bfsOut ps n src n).1 = O at *
  generalize (bfsOut ps n src n).2 = Y at *
  have hsh := h.short
  have hcl : ∀ u ∈ O, ∀ p ∈ ps, (p.f = u → p.t ∈ O) ∧ (p.t = u → p.f ∈ O) := fun u hu => by
    obtain ⟨i, hi⟩ := List.mem_iff_getElem?.1 hu
    exact hd i u (Nat.lt_of_lt_of_le (List.getElem?_eq_some_iff.1 hi).1 hsh) hi
  have hall : ∀ x : Int, 0 ≤ x → x < n → x ∈ O := fun x x0 x1 =>
    (tree_joined hj hn ht (fun y => y ∈ O) (fun p hp => ⟨fun hf => (hcl _ hf p hp).1 rfl, fun ht => (hcl _ ht p hp).2 rfl⟩) src x s0 s1 x0 x1).1 (List.mem_of_getElem? h.src)
  have hlen : O.length = n := by
    have := (countL_nodup n).length_le_of_subset (l₂ := O) fun x hx => hall x (mem_countL.1 hx).1 (mem_countL.1 hx).2
    rw [countL_length] at this
    omega
  refine ⟨h, hall, fun k p hp => ?_⟩
  -- each pipe leads to one of its nodes: there are as many of both
  have hlead : ∀ x ∈ O.drop 1, ∃ p, ps[pipeTo Y x]? = some p ∧ ((getI Y x = (pipeTo Y x : Int) + 1 ∧ p.t = x ∧ pos O p.f < pos O x ∧ p.f ∈ O) ∨ (getI Y x = -((pipeTo Y x : Int) + 1) ∧ p.f = x ∧ pos O p.t < pos O x ∧ p.t ∈ O)) := fun x hx => by
    obtain ⟨i, hi⟩ := List.mem_iff_getElem?.1 hx
    rw [List.getElem?_drop] at hi
    exact (h.par (1 + i) x hi (by omega)).pipe h.nodup hi
  have hnd : ((O.drop 1).map (pipeTo Y)).Nodup := by
    refine List.pairwise_map.2 (List.Pairwise.imp_of_mem ?_ (List.Sublist.nodup (List.drop_sublist 1 O) h.nodup))
    intro a b ha hb hne e
    obtain ⟨p, hp, hc⟩ := hlead a ha
    obtain ⟨q, hq, hd⟩ := hlead b hb
    rw [e, hq] at hp
    obtain rfl : q = p := by simpa using hp
    rcases hc with ⟨_, e1, l1, _⟩ | ⟨_, e1, l1, _⟩ <;> rcases hd with ⟨_, e2, l2, _⟩ | ⟨_, e2, l2, _⟩
    · exact hne (e1.symm.trans e2)
    · rw [e1] at l2; rw [e2] at l1; omega
    · rw [e1] at l2; rw [e2] at l1; omega
    · exact hne (e1.symm.trans e2)
  have hkm : k ∈ (O.drop 1).map (pipeTo Y) := by
    refine Classical.byContradiction fun hk => ?_
    have h1 : (k :: (O.drop 1).map (pipeTo Y)).Nodup := List.nodup_cons.2 ⟨hk, hnd⟩
    have h2 := h1.length_le_of_subset (l₂ := List.range ps.length) fun x hx => by
      rcases List.mem_cons.1 hx with rfl | hx
      · exact List.mem_range.2 (List.getElem?_eq_some_iff.1 hp).1
      · obtain ⟨y, hy, rfl⟩ := List.mem_map.1 hx
        obtain ⟨q, hq, _⟩ := hlead y hy
        exact List.mem_range.2 (List.getElem?_eq_some_iff.1 hq).1
    rw [List.length_cons, List.length_map, List.length_drop, List.length_range] at h2
    omega
  obtain ⟨x, hx, rfl⟩ := List.mem_map.1 hkm
  obtain ⟨q, hq, hc⟩ := hlead x hx
  rw [hq] at hp
  obtain rfl : q = p := by simpa using hp
  rcases hc with ⟨e1, e2, l, _⟩ | ⟨e1, e2, l, _⟩
  · exact .inl (by rw [e2]; exact ⟨e1, l⟩)
  · exact .inr (by rw [e2]; exact ⟨e1, l⟩)
end Go.Proofs.Ytkbkmpcdidhagaa
