/-
  A region that draws its order: its first operations yield their values in every world that meets S and are waited for by operation c; then come operations that only read; then, in one forced order, the rest, S holding till c. One walk. No program in sight.
-/
import Derived.Test.YtkbkmpcdidhagabQt
import Derived.OrdersHeld
namespace Go.Proofs.Ytkbkmpcdidhagab
open Go Go.ChangeShapes Go.WideShapes Go.ChangeAt Go.RowKit
set_option linter.unusedVariables false
set_option linter.unusedSimpArgs false

section
variable {P : Program} {ops : Array Oper} {Q : Exit → Act → World → Prop} {md : Region.Mode} {S : World → Prop} {C : World → Prop} {c : Nat}
/-- whatever order, and S holds behind each operation till number c has come up -/
def wpAnyG (P : Program) (md : Region.Mode) (ops : Array Oper) (Q : Exit → Act → World → Prop) (S : World → Prop) (c : Nat) : Nat → Array Bool → Act → World → Prop
  | 0, listed, a, w => Region.ready md ops listed = [] ∧ Q .normal a w
  | fuel + 1, listed, a, w =>
    (Region.ready md ops listed = [] → Q .normal a w) ∧
    ∀ i ∈ Region.ready md ops listed, wpOp P ops Q i (fun a' w' => ((listed.setIfInBounds i true).getD c false = false → S w') ∧ wpAnyG P md ops Q S c fuel (listed.setIfInBounds i true) a' w') a w
theorem wpAny_of_G : ∀ (fuel : Nat) (listed : Array Bool) (a : Act) (w : World), wpAnyG P md ops Q S c fuel listed a w → wpAny P md ops Q fuel listed a w
  | 0, _, _, _, h => h
  | fuel + 1, _, _, _, h => ⟨h.1, fun i hi => wpOp_mono (fun a' w' h' => wpAny_of_G fuel _ a' w' h'.2) (h.2 i hi)⟩
/-- what has come up has all that it waits for -/
def shutL (md : Region.Mode) (ops : Array Oper) (listed : Array Bool) : Prop :=
  ∀ j oj, ops[j]? = some oj → listed.getD j false = true → ∀ e ∈ oj.after, Region.binds md e = true → listed.getD e.on false = true
theorem shutL_set {i : Nat} {listed : Array Bool} (h : shutL md ops listed) (hi : i ∈ Region.ready md ops listed) : shutL md ops (listed.setIfInBounds i true) := by
  obtain ⟨_, oi, hoi, hall⟩ := mem_ready.1 hi
  intro j oj hj hl e he hb
  by_cases hij : i = j
  · subst hij
    have : oj = oi := Option.some.inj (hj.symm.trans hoi)
    subst this
    exact getD_set_true (hall e he hb)
  · rw [getD_set_ne false hij] at hl
    exact getD_set_true (h j oj hj hl e he hb)
/-- operation c waits for i, perhaps by others -/
def viaB (md : Region.Mode) (ops : Array Oper) (c : Nat) : Nat → Nat → Bool
  | 0, i => Region.waitsFor md ops c i
  | f + 1, i => Region.waitsFor md ops c i || (List.range ops.size).any fun j => Region.waitsFor md ops j i && viaB md ops c f j
theorem via_direct {i : Nat} {listed : Array Bool} (hw : Region.waitsFor md ops c i = true) (hu : listed.getD i false = false) : c ∉ Region.ready md ops listed := fun hr => by
  obtain ⟨oc, hoc, e, he, hb, hon⟩ := Region.waitsFor_spec hw
  obtain ⟨_, o', ho', hall⟩ := mem_ready.1 hr
  have : oc = o' := Option.some.inj (hoc.symm.trans ho')
  subst this
  have h5 := hall e he hb
  rw [hon, hu] at h5
  cases h5
theorem via_spec {listed : Array Bool} (hsh : shutL md ops listed) : ∀ (f i : Nat), viaB md ops c f i = true → listed.getD i false = false → c ∉ Region.ready md ops listed
  | 0, i, h, hu => via_direct h hu
  | f + 1, i, h, hu => by
    simp only [viaB, Bool.or_eq_true] at h
    rcases h with h | h
    · exact via_direct h hu
    · obtain ⟨j, _, hj⟩ := List.any_eq_true.1 h
      simp only [Bool.and_eq_true] at hj
      refine via_spec hsh f j hj.2 ?_
      obtain ⟨oj, hoj, e, he, hb, hon⟩ := Region.waitsFor_spec hj.1
      cases hl : listed.getD j false with
      | false => rfl
      | true =>
        have := hsh j oj hoj hl e he hb
        rw [hon, hu] at this
        cases this
theorem wpAnyG_first {f i : Nat} {oi : Oper} {v : Value} (hi : ops[i]? = some oi) (hsel : ∀ (j : Nat) (o : Oper) cs b, ops[j]? = some o → o.op ≠ .select cs b)
    (hQ : ∀ c a w, Q (.panic c) (a.put oi.dst v) w → Q (.panic c) a w) (hci : viaB md ops c f i = true) :
    ∀ (fuel : Nat) (listed : Array Bool) (a : Act) (w : World), shutL md ops listed → listed.getD c false = false →
      (∀ j oj, ops[j]? = some oj → j ≠ i → listed.getD j true = false → (∀ e ∈ oj.after, Region.binds md e = true → e.on ≠ i) → oi.apart ops oj = true) →
      i ∈ Region.ready md ops listed → YieldsIf P ops S oi v a → S w →
      wpAnyG P md ops Q S c fuel (listed.setIfInBounds i true) (a.put oi.dst v) w → wpAnyG P md ops Q S c (fuel + 1) listed a w := by
  intro fuel
  induction fuel with
  | zero =>
    intro listed a w _ _ _ hr hy hS H
    refine ⟨fun h => (by rw [h] at hr; cases hr), fun j hj => ?_⟩
    by_cases hji : j = i
    · subst hji; exact hy.wpOp hi hS ⟨fun _ => hS, H⟩
    · have := ready_mono hj hji
      rw [H.1] at this
      cases this
  | succ fuel ih =>
    intro listed a w hsh hcu hfree hr hy hS H
    refine ⟨fun h => (by rw [h] at hr; cases hr), fun j hj => ?_⟩
    by_cases hji : j = i
    · subst hji; exact hy.wpOp hi hS ⟨fun _ => hS, H⟩
    · have h1 := H.2 j (ready_mono hj hji)
      obtain ⟨hjun, oj, hoj, hall⟩ := mem_ready.1 hj
      have hiun := (mem_ready.1 hr).1
      have hnot : ∀ e ∈ oj.after, Region.binds md e = true → e.on ≠ i := fun e he hb heq => by
        have h1 := hall e he hb
        rw [heq, getD_both hiun] at h1
        cases h1
      have hnr := via_spec hsh f i hci (getD_both hiun)
      have hjc : j ≠ c := fun e => hnr (e ▸ hj)
      have h2 := wpOp_putIf hoj (hfree j oj hoj hji hjun hnot) (fun cs b => hsel i oi cs b hi) (fun cs b => hsel j oj cs b hoj) hQ hy h1
      have hfree' : ∀ k ok, ops[k]? = some ok → k ≠ i → (listed.setIfInBounds j true).getD k true = false →
          (∀ e ∈ ok.after, Region.binds md e = true → e.on ≠ i) → oi.apart ops ok = true := fun k ok hk hki hun hno => by
        refine hfree k ok hk hki ?_ hno
        by_cases hjk : j = k
        · subst hjk; exact hjun
        · rw [getD_set_ne true hjk] at hun; exact hun
      have hcu' : (listed.setIfInBounds j true).getD c false = false := by rw [getD_set_ne false hjc]; exact hcu
      have hic : i ≠ c := fun e => hnr (e ▸ hr)
      refine wpOp_mono (fun a' w' h3 => ?_) h2
      have hS' : S w' := h3.2.1 (by rw [getD_set_ne false hjc, getD_set_ne false hic]; exact hcu)
      refine ⟨fun _ => hS', ih (listed.setIfInBounds j true) a' w' (shutL_set hsh hj) hcu' hfree' (ready_mono hr (Ne.symm hji)) h3.1 hS' ?_⟩
      rw [Array.setIfInBounds_comm _ _ hji]
      exact h3.2.2
theorem wpAnyG_of_headAny {n g : Nat} {L : Array Bool → Act → Prop} (hCS : ∀ w, C w → S w) (hL : ∀ listed a w, C w → L listed a → wpAnyG P md ops Q S c g listed a w) :
    ∀ (f : Nat) (listed : Array Bool) (a : Act) (w : World), C w → headAny P md ops C n L f listed a → wpAnyG P md ops Q S c (f + g) listed a w
  | 0, listed, a, w, hw, h => by rw [Nat.zero_add]; exact hL _ _ _ hw h
  | f + 1, listed, a, w, hw, h => by
    rw [show f + 1 + g = (f + g) + 1 by omega]
    exact ⟨fun h0 => absurd h0 h.1, fun i hi => wpOp_of_qOp hw (fun a' w' hw' h' => ⟨fun _ => hCS w' hw', wpAnyG_of_headAny hCS hL f _ a' w' hw' h'⟩) (h.2 i hi).2⟩
/-- the rest in its order, S holding behind the first so many -/
def wpTailG (P : Program) (ops : Array Oper) (Q : Exit → Act → World → Prop) (S : World → Prop) : Nat → List Oper → Act → World → Prop
  | 0, l, a, w => wpList P ops Q l a w
  | _ + 1, [], a, w => Q .normal a w
  | m + 1, o :: l, a, w => if Region.wanted o (yielded ops a.tmps) then o.wp P a w (fun a' w' => S w' ∧ wpTailG P ops Q S m l a' w') Q else S w ∧ wpTailG P ops Q S m l (a.put o.dst undef) w
theorem wpAnyG_of_seq {n : Nat} (hnc : n ≤ c) (hcs : c < ops.size) : ∀ (l : List Oper) (k : Nat) (listed : Array Bool) (a : Act) (w : World), (∀ j, l[j]? = ops[k + j]?) → n ≤ k → listed.size = ops.size → (∀ j, n ≤ j → j < k → listed.getD j false = true) →
    Region.seqB md ops l.length k listed = true → wpTailG P ops Q S (c - k) l a w → wpAnyG P md ops Q S c l.length listed a w
  | [], k, _, a, w, _, _, _, _, hB, h => by
    refine ⟨by simpa [Region.seqB] using hB, ?_⟩
    cases hm : c - k with
    | zero => rw [hm] at h; exact h
    | succ m => rw [hm] at h; exact h
  | o :: l, k, listed, a, w, hl, hnk, hsz, hd, hB, h => by
    have h0 : ops[k]? = some o := by simpa using (hl 0).symm
    have hks : k < listed.size := by rw [hsz]; exact (Array.getElem?_eq_some_iff.1 h0).1
    simp only [List.length_cons, Region.seqB, Bool.and_eq_true, decide_eq_true_eq] at hB
    refine ⟨fun h1 => (by rw [hB.1] at h1; cases h1), fun i hi => ?_⟩
    rw [hB.1] at hi
    have hik : i = k := by simpa using hi
    subst hik
    have hd' : ∀ j, n ≤ j → j < i + 1 → (listed.setIfInBounds i true).getD j false = true := fun j h1 h2 => by
      by_cases e : i = j
      · subst e; simp [hks]
      · rw [getD_set_ne false e]; exact hd j h1 (by omega)
    have hcond : (listed.setIfInBounds i true).getD c false = false → i < c := fun h1 => by
      rcases Nat.lt_or_ge i c with h | h
      · exact h
      · rw [hd' c hnc (by omega)] at h1; cases h1
    have hgo : ∀ a' w', wpTailG P ops Q S (c - (i + 1)) l a' w' → wpAnyG P md ops Q S c l.length (listed.setIfInBounds i true) a' w' := fun a' w' h' =>
      wpAnyG_of_seq hnc hcs l (i + 1) _ a' w' (fun j => by have := hl (j + 1); simpa [Nat.add_assoc, Nat.add_comm 1 j] using this) (by omega) (by simpa using hsz) hd' hB.2 h'
    unfold wpOp
    simp only [h0]
    cases hm : c - i with
    | zero =>
      rw [hm] at h
      have hm' : c - (i + 1) = 0 := by omega
      rw [hm'] at hgo
      have hno : ¬ i < c := by omega
      have hw : wpOp P ops Q i (wpList P ops Q l) a w := by unfold wpOp; simp only [h0]; exact h
      have := wpOp_mono (K' := fun a' w' => ((listed.setIfInBounds i true).getD c false = false → S w') ∧ wpAnyG P md ops Q S c l.length (listed.setIfInBounds i true) a' w') (fun a' w' h' => ⟨fun h1 => absurd (hcond h1) hno, hgo a' w' h'⟩) hw
      unfold wpOp at this
      simp only [h0] at this
      exact this
    | succ m =>
      rw [hm] at h
      have hm' : c - (i + 1) = m := by omega
      rw [hm'] at hgo
      unfold wpTailG at h
      split
      · rename_i hw
        rw [if_pos hw] at h
        exact .inl (Oper.wp_mono (fun a' w' h' => ⟨fun _ => h'.1, hgo a' w' h'.2⟩) h)
      · rename_i hw
        rw [if_neg hw] at h
        exact ⟨fun _ => h.1, hgo _ _ h.2⟩
/-- operations that yield their value in every world that meets S -/
def wpPureS (P : Program) (S : World → Prop) (Q : Act → Prop) : List Oper → Act → Prop
  | [], a => Q a
  | o :: r, a => ∃ v, (o.guard = none ∧ ∀ w, S w → (execOp a.eval o).run P w = .ok (.value v) w) ∧ wpPureS P S Q r (a.put o.dst v)
theorem pre_lexG {n g m F fu : Nat} {Qa : Act → Prop} {w : World} (hsel : Region.noSelect ops = true) (hS : S w) (hnc : n ≤ c) (hcs : c < ops.size) : ∀ (pre : List Oper) (k : Nat) (listed : Array Bool) (a : Act),
    (∀ j, j < pre.length → pre[j]? = ops[k + j]?) → (∀ j, j < pre.length → viaB md ops c fu (k + j) = true) → Region.lexHead md ops g (pre.length + m) k listed = true → HeadInv md ops n listed → (∀ i, i < k → listed.getD i true = true) → k + pre.length ≤ n → wpPureS P S Qa pre a →
    (∀ listed' a', HeadInv md ops n listed' → (∀ i, i < k + pre.length → listed'.getD i true = true) → Region.lexHead md ops g m (k + pre.length) listed' = true → Qa a' → wpAnyG P md ops (mute Q) S c F listed' a' w) →
    wpAnyG P md ops (mute Q) S c (pre.length + F) listed a w
  | [], k, listed, a, _, _, hB, inv, low, _, h, hF => by
    rw [List.length_nil, Nat.zero_add] at *
    exact hF listed a inv low hB h
  | o :: pre, k, listed, a, hl, hw, hB, inv, low, hk, h, hF => by
    have h0 : ops[k]? = some o := by simpa using (hl 0 (by simp)).symm
    rw [List.length_cons, show pre.length + 1 + m = (pre.length + m) + 1 by omega] at hB
    simp only [Region.lexHead, Bool.and_eq_true] at hB
    obtain ⟨⟨hr, hf⟩, hB'⟩ := hB
    have hkn : k < n := by simp only [List.length_cons] at hk; omega
    have hr' : k ∈ Region.ready md ops listed := by simpa using hr
    obtain ⟨v, ⟨hg, hv⟩, hK⟩ := h
    have hy : YieldsIf P ops S o v a := .inl ⟨by simp [Region.wanted, hg], hv⟩
    rw [List.length_cons, show pre.length + 1 + F = (pre.length + F) + 1 by omega]
    have hcu : listed.getD c false = false := getD_both (inv.tail c hnc hcs)
    refine wpAnyG_first (f := fu) h0 (Region.noSelect_spec hsel) (fun c a w h => absurd h.1 (by simp)) (by have := hw 0 (by simp); simpa using this) _ _ _ _ inv.closed hcu (Region.free_spec h0 hf) hr' hy hS ?_
    have hks : k < listed.size := by rw [inv.size]; exact (Array.getElem?_eq_some_iff.1 h0).1
    refine pre_lexG hsel hS hnc hcs pre (k + 1) _ _ (fun j hj => by have := hl (j + 1) (by simp; omega); simpa [Nat.add_assoc, Nat.add_comm 1 j] using this) (fun j hj => by have := hw (j + 1) (by simp; omega); simpa [Nat.add_assoc, Nat.add_comm 1 j] using this) hB' (inv.set hr' hkn) (fun i hi => ?_) (by simp only [List.length_cons] at hk; omega) hK (fun listed' a' i1 i2 i3 i4 => hF listed' a' i1 (fun i hi => i2 i (by simp only [List.length_cons] at hi; omega)) (by simpa [Nat.add_assoc, Nat.add_comm 1] using i3) i4)
    by_cases hik : k = i
    · subst hik; simp [hks]
    · rw [getD_set_ne true hik]; exact low i (by omega)
def lexTailG (md : Region.Mode) (ops : Array Oper) (p n c : Nat) : Bool :=
  lexTailP md ops p n && (decide (n ≤ c) && (decide (c < ops.size) && (List.range p).all fun i => viaB md ops c p i))
theorem quiet_tailG {id : Nat} {a : Act} {w : World} {l : List Oper} (S : World → Prop) (p n c : Nat) (hm : P.follows .mixedOrders = true) (hB : lexTailG .any l.toArray p n c = true) (hS : ∀ n, S (w.drewN n))
    (h : wpPureS P S (wpQuiet P l.toArray (fun w' => ∃ n, w' = w.drewN n) (fun a' => ∀ w', (∃ n, w' = w.drewN n) → wpTailG P l.toArray (mute Q) S (c - n) (l.drop n) a' w') ((l.drop p).take (n - p))) (l.take p) a) : (Code.region id l.toArray true).wp P Q a w := by
  simp only [lexTailG, lexTailP, Bool.and_eq_true, decide_eq_true_eq] at hB
  obtain ⟨⟨⟨⟨⟨⟨hsel, hn⟩, hp⟩, hs⟩, hc⟩, hlex⟩, hnc, hcs, hwt⟩ := hB
  have hn' : n < l.length := by simpa using hn
  have htp : (l.take p).length = p := by simp; omega
  have htn : ((l.drop p).take (n - p)).length = n - p := by simp; omega
  have hdl : (l.drop n).length = l.toArray.size - n := by simp
  have inv0 : HeadInv .any l.toArray n (Array.replicate l.toArray.size false) :=
    ⟨by simp, fun j oj _ hl => (by rw [getD_replicate_false] at hl; cases hl), fun t _ ht => getD_in (by simpa using ht) (getD_replicate_false _ _)⟩
  have hS1 : S { w with drawn := w.drawn + 1 } := hS 1
  refine wp_region_any hm (wpAny_mute _ _ _ _ (wpAny_of_G (S := S) (c := c) _ _ _ _ ?_))
  have H := pre_lexG (fu := p) (P := P) (md := .any) (ops := l.toArray) (Q := Q) (n := n) (g := l.toArray.size - n) (m := n - p) (F := (n - p) + (l.toArray.size - n)) (w := { w with drawn := w.drawn + 1 }) hsel hS1 hnc hcs (l.take p) 0 (Array.replicate l.toArray.size false) a
    (fun j hj => by rw [htp] at hj; simp [hj]) (fun j hj => by rw [htp] at hj; rw [Nat.zero_add]; exact List.all_eq_true.1 hwt j (List.mem_range.2 hj)) (by rw [htp, show p + (n - p) = n by omega]; exact hlex) inv0 (fun i hi => absurd hi (Nat.not_lt_zero _)) (by omega) h
    (fun listed' a' i1 i2 i3 i4 => by
      rw [htp, Nat.zero_add] at i2 i3
      have H2 := headAny_lexS (md := .any) (C := fun w' => ∃ n, w' = w.drewN n) (g := l.toArray.size - n) hsel hs hc hn ((l.drop p).take (n - p)) p listed' a' (fun j hj => by
        rw [htn] at hj
        simp [hj, List.getElem?_drop, List.getElem?_take]) (by omega) i1 i2 (by rw [htn]; exact i3) i4
      have := wpAnyG_of_headAny (Q := mute Q) (S := S) (c := c) (g := l.toArray.size - n) (fun w' ⟨k, hk⟩ => hk ▸ hS k) (fun listed a w' hw' hL => by
        have := wpAnyG_of_seq (md := .any) (Q := mute Q) (S := S) hnc hcs (l.drop n) n listed a w' (fun j => by simp [List.getElem?_drop]) (Nat.le_refl _) hL.1 (fun j h1 h2 => by omega) (by rw [hdl]; exact hL.2.1) (hL.2.2 w' hw')
        rwa [hdl] at this) _ _ _ { w with drawn := w.drawn + 1 } ⟨1, rfl⟩ H2
      rw [htn] at this
      exact this)
  rw [htp, show p + (n - p + (l.toArray.size - n)) = l.toArray.size by omega] at H
  exact H
end
end Go.Proofs.Ytkbkmpcdidhagab
