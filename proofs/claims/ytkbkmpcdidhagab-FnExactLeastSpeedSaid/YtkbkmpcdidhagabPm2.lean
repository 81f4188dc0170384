/-
  The laws' own helpers over Pump: how great one is, a copy, whether two are the same.
-/
import Derived.Test.YtkbkmpcdidhagabPm0
import Derived.Test.YtkbkmpcdidhagabGs
import Derived.Deep.RegionHeld3
import Derived.Test.YtkbkmpcdidhagabP9
namespace Go.Proofs.Ytkbkmpcdidhagab
open Go.ChangeShapes Go.WideShapes Go.ChangeAt Go.RowKit
set_option linter.unusedVariables false
set_option linter.unusedSimpArgs false
set_option maxRecDepth 100000

theorem infoRow : (Try.prog.info? 49).map (fun i => (i.zero, i.size, i.bytes)) = some (some (.slice none 0 0), 1, 24) := by kernel_rfl
/-- how much is left: none, or no more than there was, and the lists are short -/
def SzRws (rs : List Rw) (m : Int) (w : World) (e : Ending) (w' : World) : Prop := ∃ r : Int, e = .returned (.int .i64 r) ∧ (r = -1 ∨ (0 ≤ r ∧ r ≤ m ∧ shortZ (rs.map Rw.z))) ∧ Below w.heap.size w w'
theorem szRws_any (A : Option Addr) (n c : Nat) (rs : List Rw) (m : Int) (w : World) (m0 : 0 ≤ m) (m1 : m ≤ 1048576) (h : RwsIn w A n rs) :
    Calls Try.prog 45 #[.slice A n c, .int .i64 m] w (SzRws rs m w) := by
  have hM := h.2.1
  have HH := Lib.hid h
  obtain rfl := h.1
  have hm : (rs.length : Int) ≤ 9223372036854775807 := by unfold maxLen at hM; omega
  clear h
  by_cases h1 : m - rs.length < 0
  · go_enter Try.func45, Try.ntmps45
    go_wp2
    go_ret
    exact ⟨-1, rfl, .inl rfl, Below.refl _ _⟩
  have h1' : 0 ≤ m - rs.length := by omega
  go_enter Try.func45, Try.ntmps45
  go_wp2
  go_loopw [1, 5] (fun v i wr => ∃ (l : Int) (k : Nat), k ≤ rs.length ∧ v = .int .i64 l ∧ i = .int .i64 k ∧ 0 ≤ l ∧ l ≤ m - rs.length ∧ Hid (∀ j r, j < k → rs[j]? = some r → r.z.length ≤ 1048576) ∧ Below w.heap.size w wr) (fun _ i _ => rs.length - (intOf i).toNat)
  case atStart => exact ⟨_, 0, Nat.zero_le _, rfl, rfl, h1', Int.le_refl _, Lib.hid (fun j r hj => by omega), Below.refl _ _⟩
  case round =>
    obtain ⟨l, k, hk, rfl, rfl, l0, l1, HS, hb⟩ := hrel
    by_cases hlt : k < rs.length
    · obtain ⟨b, off, rfl, hrow⟩ := (HH.out.go hb).at (by omega)
      have hp := List.getElem?_eq_getElem hlt
      have p0 := hrow k _ hp
      have hf := HH.out.2.2.2 _ (List.mem_of_getElem? hp)
      have hfl := hf.2.1
      have HP := Lib.hid hp
      generalize rs[k] = r at *
      clear hp hrow hf
      go_wp2_with fail
      refine (szInts_any r.A r.z.length r.c l _ l0 (by omega) hfl).mono ?_
      rintro e w1 ⟨q, rfl, hq, hb1⟩
      have hb2 := bnext hb hb1
      clear p0
      rcases hq with rfl | ⟨q0, q1⟩
      · go_wp2
        go_ret
        exact ⟨-1, rfl, .inl rfl, hb2⟩
      · have HS2 : Hid (∀ j r, j < k + 1 → rs[j]? = some r → r.z.length ≤ 1048576) := Lib.hid (fun j y hj hy => by
          by_cases e : j = k
          · subst e
            rw [HP.out] at hy
            cases hy
            omega
          · exact HS.out j y (by omega) hy)
        have q1' : q ≤ m - rs.length := by omega
        go_wp2
        go_roundw
        case rel => exact ⟨q, k + 1, by omega, rfl, by go_num, q0, q1', HS2, hb2⟩
        case measure => simp [intOf]; omega
    · have HS2 : Hid (shortZ (rs.map Rw.z)) := Lib.hid ⟨by rw [List.length_map]; omega, fun z hz => by
        obtain ⟨r, hr, rfl⟩ := List.mem_map.1 hz
        obtain ⟨j, hj, rfl⟩ := List.getElem_of_mem hr
        exact HS.out j _ (by omega) (List.getElem?_eq_getElem hj)⟩
      go_wp2
      go_ret
      exact ⟨l, rfl, .inr ⟨l0, by omega, HS2.out⟩, hb⟩
def SzPm (x : Pm) (m : Int) (w : World) (e : Ending) (w' : World) : Prop := ∃ r : Int, e = .returned (.int .i64 r) ∧ (r = -1 ∨ (0 ≤ r ∧ r ≤ m ∧ shortZ x.d.cv)) ∧ Below w.heap.size w w'
theorem szPm_any (x : Pm) (m : Int) (w : World) (m0 : 0 ≤ m) (m1 : m ≤ 1048576) (h : x.fine w) :
    Calls Try.prog 13 #[.agg #[.string x.d.id, .slice x.cvA x.d.cv.length x.cvc], .int .i64 m] w (SzPm x m w) := by
  obtain ⟨hs, hz, hr⟩ := h
  have hm : (x.d.id.size : Int) ≤ 9223372036854775807 := by unfold maxLen at hs; omega
  have HZ := Lib.hid hz
  have HR := Lib.hid hr
  clear hz hr
  have hO := PmO.new w x 24
  have hb : Below w.heap.size w (w.alloc (.cells #[.string x.d.id, .slice x.cvA x.d.cv.length x.cvc] 24)) := bal (Below.refl _ _) _
  obtain ⟨n0, n1⟩ := hO
  by_cases h1 : m - x.d.id.size < 0
  · go_enter Try.func13, Try.ntmps13
    go_wp2
    go_ret
    exact ⟨-1, rfl, .inl rfl, hb⟩
  · have h1' : 0 ≤ m - x.d.id.size := by omega
    go_enter Try.func13, Try.ntmps13
    go_wp2_with fail
    refine (szRws_any x.cvA x.d.cv.length x.cvc x.rs (m - x.d.id.size) _ h1' (by omega) (HR.out.go hb)).mono ?_
    rintro e w1 ⟨r, rfl, hr, hb1⟩
    have hb2 := bnext hb hb1
    rcases hr with rfl | ⟨r0, r1, hsh⟩
    · go_wp2
      go_ret
      exact ⟨-1, rfl, .inl rfl, hb2⟩
    · have HSH : Hid (shortZ x.d.cv) := Lib.hid (by rw [← HZ.out]; exact hsh)
      clear hsh
      go_wp2
      go_ret
      exact ⟨r, rfl, .inr ⟨r0, by omega, HSH.out⟩, hb2⟩

theorem put_next {α : Type} (l us : List α) (v : α) (k : Nat) (hl : l.length = k) (hk : k < us.length) : (l ++ us.drop k).set k v = (l ++ [v]) ++ us.drop (k + 1) := by
  rw [List.set_append, if_neg (by omega), hl, Nat.sub_self, List.drop_eq_getElem_cons hk, List.set_cons_zero, List.append_assoc]
  rfl
/-- a list whose memory is our own -/
def Rw.own (base : Nat) (w : World) (y : Rw) : Prop := w.ownsRow base 2 1 (.slice y.A y.z.length y.c) y.z.length (intsV y.z)
/-- lists that share no memory -/
def Apart (ys : List Rw) : Prop := ys.Pairwise fun a b => ∀ k, a.v.ownBlock = some k → b.v.ownBlock ≠ some k
theorem Rw.own.fine {base : Nat} {w : World} {y : Rw} (h : y.own base w) (hw : ∀ z ∈ y.z, (Lit.int .i64 z).wf = true) : y.fine w := ⟨rfl, owns_max h, owns_cells h, hw⟩
theorem Apart.snoc {ys : List Rw} {y : Rw} (h : Apart ys) (h2 : ∀ a ∈ ys, ∀ k, a.v.ownBlock = some k → y.v.ownBlock ≠ some k) : Apart (ys ++ [y]) := by
  unfold Apart at *
  rw [List.pairwise_append]
  exact ⟨h, List.pairwise_singleton _ _, fun a ha b hb => by rw [List.mem_singleton] at hb; subst hb; exact h2 a ha⟩
/-- a new list of new lists -/
def RetRws (Z : List (List Int)) (w : World) (e : Ending) (w' : World) : Prop :=
  ∃ A c rs, e = .returned (.slice A Z.length c) ∧ rs.map Rw.z = Z ∧ w'.ownsRow w.heap.size 49 1 (.slice A Z.length c) Z.length (rwsV rs) ∧ RwsIn w' A Z.length rs ∧ (∀ r ∈ rs, r.own (w.heap.size + 1) w') ∧ Apart rs ∧ (∀ r ∈ rs, ∀ k, r.v.ownBlock = some k → (Value.slice A Z.length c).ownBlock ≠ some k) ∧ Below w.heap.size w w'
theorem toRws_any (A : Option Addr) (n c : Nat) (rs : List Rw) (w : World) (h : RwsIn w A n rs) (hs : shortZ (rs.map Rw.z)) :
    Calls Try.prog 47 #[.slice A n c] w (RetRws (rs.map Rw.z) w) := by
  have HH := Lib.hid h
  have HSZ := Lib.hid hs
  have hn : rs.length ≤ 1048576 := by have := hs.1; rw [List.length_map] at this; exact this
  obtain rfl := h.1
  have hM : rs.length ≤ maxLen := by unfold maxLen; omega
  have hm : rs.length ≤ 9223372036854775807 := by omega
  obtain ⟨i0, hi, hz0, hz1, hz2⟩ := info_parts infoRow
  clear h hs
  go_enter Try.func47, Try.ntmps47
  go_wp2_with (refine wpList_make_full _ rfl _ _ _ rfl w.heap.size 49 i0 (.slice none 0 0) 1 Try.underlying22 hi hz0 hz1 _ _ _ _ rs.length rfl rfl rfl rfl (by rw [hz2]; omega) hM (Nat.le_refl _) ?_; intro w1 hown hgrow)
  have hb1 := Below.grown (Below.refl w.heap.size w) hgrow (Nat.le_refl _) (fun k hk => by cases hk)
  have hl1 := owns_len hown
  generalize (madeCells (Value.slice none 0 0).cells (rs.length * 1)).toList = us at *
  have HX := Lib.hid hl1
  have hsz1 : w.heap.size < w1.heap.size := (hown.lt _ rfl).2
  clear hl1
  go_loopw [4] (fun i wr => ∃ (k : Nat) (ys : List Rw), k ≤ rs.length ∧ i = .int .i64 k ∧ Hid (ys.map Rw.z = (rs.map Rw.z).take k) ∧ Hid (∀ y ∈ ys, y.own (w.heap.size + 1) wr) ∧ Hid (Apart ys) ∧ wr.ownsRow w.heap.size 49 1 (.slice (some ⟨w.heap.size, 0, none⟩) rs.length rs.length) rs.length (rwsV ys ++ us.drop k) ∧ w.heap.size < wr.heap.size ∧ Below w.heap.size w wr) (fun i _ => rs.length - (intOf i).toNat)
  case atStart => exact ⟨0, [], Nat.zero_le _, rfl, Lib.hid rfl, Lib.hid (fun _ h => by cases h), Lib.hid List.Pairwise.nil, hown, hsz1, hb1⟩
  case round =>
    obtain ⟨k, ys, hk, rfl, HY, HF, HAP, hro, hsw, hb⟩ := hrel
    by_cases hlt : k < rs.length
    · obtain ⟨b, off, rfl, hrow⟩ := (HH.out.go hb).at (by omega)
      have hp := List.getElem?_eq_getElem hlt
      have p0 := hrow k _ hp
      have hf := (HH.out.2.2.2 _ (List.mem_of_getElem? hp)).go hb
      have hsr : (rs[k]).z.length ≤ 1048576 := HSZ.out.2 _ (List.mem_map.2 ⟨_, List.mem_of_getElem? hp, rfl⟩)
      have HT : Hid ((rs.map Rw.z).take (k + 1) = (rs.map Rw.z).take k ++ [(rs[k]).z]) := Lib.hid (by rw [List.take_add_one, List.getElem?_map, hp]; rfl)
      have HYL : Hid (ys.length = k) := Lib.hid (by have := congrArg List.length HY.out; rw [List.length_map, List.length_take, List.length_map] at this; omega)
      generalize rs[k] = r at *
      have HC := Lib.hid hf
      clear hp hrow hf
      go_wp2_with fail
      refine (toInts_any r.A r.c r.z.length r.z wr rfl hsr HC.out.2.2.1).mono ?_
      rintro e w2 hq
      obtain ⟨A2, c2, rfl, ho2, hb2⟩ := retInts_of hq
      have HR2 : Hid ((⟨A2, c2, r.z⟩ : Rw).own wr.heap.size w2) := Lib.hid ho2
      have hb3 := bnext hb hb2
      have hro1 := owns_below hro hb2 (Nat.le_refl _)
      have hsw2 : w.heap.size < w2.heap.size := Nat.lt_of_lt_of_le hsw hb2.size
      have HF2 : Hid (∀ y ∈ ys, y.own (w.heap.size + 1) w2) := Lib.hid (fun y hy => owns_below (HF.out y hy) hb2 (Nat.le_refl _))
      have HAP2 : Hid (Apart (ys ++ [(⟨A2, c2, r.z⟩ : Rw)])) := Lib.hid (HAP.out.snoc fun a ha k h1 h2 => by
        have i1 := (World.ownsRow.lt (HF.out a ha) k h1).2
        have i2 := (World.ownsRow.lt HR2.out k h2).1
        omega)
      have hc1 := hro1.cellAt k (by omega)
      have hf1 := hro1.frozenAt k
      rw [List.getElem?_append_right (by rw [rwsV_length, HYL.out]; exact Nat.le_refl _), rwsV_length, HYL.out, Nat.sub_self, List.getElem?_drop, Nat.add_zero, List.getElem?_eq_getElem (by rw [HX.out]; exact hlt)] at hc1
      have hst := (hro1.stored k (.slice A2 r.z.length c2)).1
      rw [put_next (rwsV ys) us (.slice A2 r.z.length c2) k (by rw [rwsV_length, HYL.out]) (by rw [HX.out]; exact hlt)] at hst
      have Hst : Hid (((w2.setCell ⟨w.heap.size, k, none⟩ (.slice A2 r.z.length c2)).ownsRow w.heap.size 49 1 (.slice (some ⟨w.heap.size, 0, none⟩) rs.length rs.length) rs.length (rwsV (ys ++ [⟨A2, c2, r.z⟩]) ++ us.drop (k + 1)))) := Lib.hid (by
        have e : rwsV (ys ++ [⟨A2, c2, r.z⟩]) = rwsV ys ++ [.slice A2 r.z.length c2] := by unfold rwsV; rw [List.map_append]; rfl
        rw [e]
        simpa using hst)
      have HY2 : Hid ((ys ++ [(⟨A2, c2, r.z⟩ : Rw)]).map Rw.z = (rs.map Rw.z).take (k + 1)) := Lib.hid (by rw [List.map_append, HY.out, HT.out]; rfl)
      have HF3 : Hid (∀ y ∈ ys ++ [(⟨A2, c2, r.z⟩ : Rw)], y.own (w.heap.size + 1) (w2.setCell ⟨w.heap.size, k, none⟩ (.slice A2 r.z.length c2))) := Lib.hid (fun y hy => by
        rcases List.mem_append.1 hy with h1 | h1
        · exact owns_set_low (HF2.out y h1) (by simp) _
        · rw [List.mem_singleton] at h1
          subst h1
          exact owns_set_low (owns_base HR2.out (by omega)) (by simp) _)
      clear p0 hst ho2 hq hro hro1 hb2
      go_wp2
      go_roundw
      case rel => exact ⟨k + 1, ys ++ [⟨A2, c2, r.z⟩], by omega, by go_num, HY2, HF3, HAP2, Hst.out, by simpa using hsw2, hb3.setCell (Nat.le_refl _) _⟩
      case measure => simp [intOf]; omega
    · obtain rfl : k = rs.length := by omega
      have hyz : ys.map Rw.z = rs.map Rw.z := by rw [HY.out, List.take_of_length_le (by rw [List.length_map]; exact Nat.le_refl _)]
      have hyl : ys.length = rs.length := by have := congrArg List.length hyz; simpa using this
      have hwf : ∀ y ∈ ys, ∀ z ∈ y.z, (Lit.int .i64 z).wf = true := fun y hy => by
        have hm : y.z ∈ rs.map Rw.z := by rw [← hyz]; exact List.mem_map.2 ⟨y, hy, rfl⟩
        obtain ⟨r, hr, e⟩ := List.mem_map.1 hm
        rw [← e]
        exact (HH.out.2.2.2 r hr).2.2.2
      rw [List.drop_eq_nil_of_le (by rw [HX.out]; exact Nat.le_refl _), List.append_nil] at hro
      have HFIN : Hid (RetRws (rs.map Rw.z) w (.returned (.slice (some ⟨w.heap.size, 0, none⟩) rs.length rs.length)) wr) := Lib.hid (by
        refine ⟨_, _, ys, by rw [List.length_map], hyz, by rw [List.length_map]; exact hro, ⟨by rw [List.length_map]; exact hyl, by rw [List.length_map]; exact hM, owns_cells hro, fun y hy => (HF.out y hy).fine (hwf y hy)⟩, HF.out, HAP.out, fun r hr k h1 h2 => by
          have i1 := (World.ownsRow.lt (HF.out r hr) k h1).1
          have i2 : some w.heap.size = some k := h2
          injection i2 with i2
          omega, hb⟩)
      go_wp2
      go_ret
      exact HFIN.out

/-- a copy, its lists new -/
def RetPm (x : Pm) (w : World) (e : Ending) (w' : World) : Prop :=
  ∃ y : Pm, y.d = x.d ∧ e = .returned (.agg #[.string y.d.id, .slice y.cvA y.d.cv.length y.cvc]) ∧ w'.ownsRow w.heap.size 49 1 (.slice y.cvA y.d.cv.length y.cvc) y.d.cv.length (rwsV y.rs) ∧ y.okay w' ∧ (∀ r ∈ y.rs, r.own (w.heap.size + 1) w') ∧ Apart y.rs ∧ (∀ r ∈ y.rs, ∀ k, r.v.ownBlock = some k → (Value.slice y.cvA y.d.cv.length y.cvc).ownBlock ≠ some k) ∧ Below w.heap.size w w'
def zeroPm : Pm := ⟨⟨.empty, []⟩, none, 0, []⟩
def PmF (w : World) (b : Nat) : Prop := w.frozen? ⟨b, 0, none⟩ = false ∧ w.frozen? ⟨b, 1, none⟩ = false
theorem PmF.keep {w w' : World} {b : Nat} (h : PmF w b) (k : w'.heap[b]? = w.heap[b]?) : PmF w' b := by
  have e : ∀ j, w'.frozen? ⟨b, j, none⟩ = w.frozen? ⟨b, j, none⟩ := fun j => World.frozen?_of_block k
  unfold PmF
  rw [e 0, e 1]
  exact h
theorem PmF.new (w : World) (cs : Array Value) (E : TypeId) : PmF (w.alloc (.cells cs E)) w.heap.size := ⟨frozen_new9 _ _ _ _, frozen_new9 _ _ _ _⟩
theorem Rw.own.base {b b' : Nat} {w : World} {y : Rw} (h : y.own b w) (hb : b' ≤ b) : y.own b' w := owns_base h hb
theorem RwsIn.set {w : World} {A : Option Addr} {n : Nat} {rs : List Rw} (h : RwsIn w A n rs) {base : Nat} {c : Nat} (ho : w.ownsRow base 49 1 (.slice A n c) n (rwsV rs)) (hr : ∀ r ∈ rs, r.own base w) {p : Addr} (hp : p.block < base) (u : Value) : RwsIn (w.setCell p u) A n rs :=
  ⟨h.1, h.2.1, owns_cells (owns_set_low ho hp u), fun r hrr => Rw.own.fine (owns_set_low (hr r hrr) hp u) (h.2.2.2 r hrr).2.2.2⟩
theorem toPm_any (x : Pm) (w : World) (h : x.okay w) :
    Calls Try.prog 15 #[.agg #[.string x.d.id, .slice x.cvA x.d.cv.length x.cvc]] w (RetPm x w) := by
  have HZ := Lib.hid h.1
  have HS := Lib.hid h.2
  clear h
  let W1 := w.alloc (.cells #[.string x.d.id, .slice x.cvA x.d.cv.length x.cvc] 24)
  let W2 := W1.alloc (.cells #[.string .empty, .slice none 0 0] 27)
  let W3 := W2.alloc (.cells #[.string x.d.id, .slice none 0 0] 27)
  have s1 : W1.heap.size = w.heap.size + 1 := by simp [W1]
  have s2 : W2.heap.size = w.heap.size + 1 + 1 := by simp [W2, s1]
  have s3 : W3.heap.size = w.heap.size + 1 + 1 + 1 := by simp [W3, s2]
  have b2 : Below W1.heap.size W1 W3 := bal (bal (Below.refl _ _) _) _
  have b3 : Below W2.heap.size W2 W3 := bal (Below.refl _ _) _
  have hb : Below w.heap.size w W3 := bal (bal (bal (Below.refl _ _) _) _) _
  have hN : PmO W3 w.heap.size 0 x := (PmO.new w x 24).next b2
  have hR : PmO W3 (w.heap.size + 1) 0 zeroPm := by rw [← s1]; exact (PmO.new W1 zeroPm 27).next b3
  have hO : PmO W3 (w.heap.size + 1 + 1) 0 ⟨{ x.d with cv := [] }, none, 0, []⟩ := by rw [← s2]; exact PmO.new W2 ⟨{ x.d with cv := [] }, none, 0, []⟩ 27
  have fR : PmF W3 (w.heap.size + 1) := by rw [← s1]; exact (PmF.new W1 _ _).keep (b3.block _ (by rw [s1, s2]; omega))
  have fO : PmF W3 (w.heap.size + 1 + 1) := by rw [← s2]; exact PmF.new W2 _ _
  have ⟨n0, n1⟩ := hN
  have HRW := Lib.hid (HZ.out.2.2.go hb)
  go_enter Try.func15, Try.ntmps15
  go_wp2_with fail
  refine (toRws_any x.cvA x.d.cv.length x.cvc x.rs W3 HRW.out (by rw [HZ.out.2.1]; exact HS.out)).mono ?_
  rintro e w1 h1
  rw [HZ.out.2.1] at h1
  obtain ⟨A1, c1, rs1, rfl, hz1, o1, q1, u1, ap1, nt1, hb1⟩ := h1
  clear n0 n1
  have hb2 := bnext hb hb1
  have hN1 := hN.next hb1
  have hR1 := hR.next hb1
  have hO1 := hO.next hb1
  have fR1 := fR.keep (hb1.block _ (by omega))
  have fO1 := fO.keep (hb1.block _ (by omega))
  have hs1 := hb1.size
  rw [s3] at hs1
  have ⟨n0, n1⟩ := hN1
  have ⟨m0, m1⟩ := hO1
  have ⟨f0, f1⟩ := fO1
  have ⟨r0, r1⟩ := hR1
  have ⟨g0, g1⟩ := fR1
  dsimp only at m0 m1
  dsimp only [zeroPm] at r0 r1
  have HQ := Lib.hid (And.intro hz1 (And.intro o1 (And.intro q1 (And.intro u1 (And.intro ap1 nt1)))))
  clear hN hR hO fR fO b2 b3 hb hb1 hz1 o1 q1 u1 ap1 nt1
  go_wp2
  have hF := (((hR1.setOther (w.heap.size + 1 + 1) 1 (.slice A1 x.d.cv.length c1) (by omega)).set0 x.d.id).set1 A1 c1 x.d.cv rs1)
  obtain ⟨hz1, o1, q1, u1, ap1, nt1⟩ := HQ.out
  have u1' : ∀ r ∈ rs1, r.own W3.heap.size w1 := fun r hr => (u1 r hr).base (by omega)
  refine bodyPost_ret (results_Pm Try.results15 _ _ (w.heap.size + 1) ⟨x.d, A1, c1, rs1⟩ rfl (by simpa using hF)) rfl ⟨⟨x.d, A1, c1, rs1⟩, rfl, rfl, ?_, ⟨⟨HZ.out.1, hz1, ?_⟩, HS.out⟩, ?_, ap1, ?_, ?_⟩
  · exact owns_base (owns_set_low (owns_set_low (owns_set_low o1 (by simp; omega) _) (by simp; omega) _) (by simp; omega) _) (by omega)
  · exact RwsIn.set (RwsIn.set (RwsIn.set q1 o1 u1' (p := ⟨w.heap.size + 1 + 1, 1, none⟩) (by simp; omega) _) (owns_set_low o1 (by simp; omega) _) (fun r hr => owns_set_low (u1' r hr) (by simp; omega) _) (p := ⟨w.heap.size + 1, 0, none⟩) (by simp; omega) _) (owns_set_low (owns_set_low o1 (by simp; omega) _) (by simp; omega) _) (fun r hr => owns_set_low (owns_set_low (u1' r hr) (by simp; omega) _) (by simp; omega) _) (p := ⟨w.heap.size + 1, 1, none⟩) (by simp; omega) _
  · exact fun r hr => owns_base (owns_set_low (owns_set_low (owns_set_low (u1' r hr) (by simp; omega) _) (by simp; omega) _) (by simp; omega) _) (by omega)
  · exact nt1
  · exact (((hb2.setCell (p := ⟨w.heap.size + 1 + 1, 1, none⟩) (by simp; omega) _).setCell (p := ⟨w.heap.size + 1, 0, none⟩) (by simp) _).setCell (p := ⟨w.heap.size + 1, 1, none⟩) (by simp) _)

theorem eqRws_same (A B : Option Addr) (n c d : Nat) (xs ys : List Rw) (w : World) (hd : xs.map Rw.z = ys.map Rw.z) (hx : RwsIn w A n xs) (hy : RwsIn w B n ys) :
    Calls Try.prog 50 #[.slice A n c, .slice B n d] w fun e w' => e = .returned (.bool true) ∧ Below w.heap.size w w' := by
  have HX := Lib.hid hx
  have HY := Lib.hid hy
  have HD := Lib.hid hd
  have hM := hx.2.1
  have hm : (n : Int) ≤ 9223372036854775807 := by unfold maxLen at hM; omega
  clear hx hy hd
  go_enter Try.func50, Try.ntmps50
  go_wp2
  go_loopw [5] (fun i wr => ∃ k : Nat, k ≤ n ∧ i = .int .i64 k ∧ Below w.heap.size w wr) (fun i _ => n - (intOf i).toNat)
  case atStart => exact ⟨0, Nat.zero_le _, rfl, Below.refl _ _⟩
  case round =>
    obtain ⟨k, hk, rfl, hb⟩ := hrel
    by_cases hlt : k < n
    · have hl1 : k < xs.length := by rw [HX.out.1]; exact hlt
      have hl2 : k < ys.length := by rw [HY.out.1]; exact hlt
      obtain ⟨b1, o1, rfl, hr1⟩ := (HX.out.go hb).at (by omega)
      obtain ⟨b2, o2, rfl, hr2⟩ := (HY.out.go hb).at (by omega)
      have p0 := hr1 k _ (List.getElem?_eq_getElem hl1)
      have q0 := hr2 k _ (List.getElem?_eq_getElem hl2)
      have fx := HX.out.2.2.2 _ (List.mem_of_getElem? (List.getElem?_eq_getElem hl1))
      have fy := HY.out.2.2.2 _ (List.mem_of_getElem? (List.getElem?_eq_getElem hl2))
      have hz : (xs[k]).z = (ys[k]).z := by
        have := congrArg (fun l => l[k]?) HD.out
        simpa [hl1, hl2] using this
      generalize xs[k] = x at *
      generalize ys[k] = y at *
      obtain ⟨xA, xc, xz⟩ := x
      obtain ⟨yA, yc, yz⟩ := y
      dsimp only at hz p0 q0
      subst hz
      have HFX := Lib.hid fx
      have HFY := Lib.hid fy
      have HC := Lib.hid (fun m => eqInts_same xA yA xc yc xz (wr.drewN m) (by have := HFX.out.2.1; exact this) (HFX.out.go (bnext hb (below_drewN (Below.refl _ _) m))).2.2.1 (HFY.out.go (bnext hb (below_drewN (Below.refl _ _) m))).2.2.1)
      clear hr1 hr2 fx fy
      go_wp2_with fail
      go_quiet ((go_at_call 40; exact quiet_drawn (HC.out _)))
      go_wp2
      go_roundw
      case rel => exact ⟨k + 1, by omega, by go_num, below_drewN hb _⟩
      case measure => simp [intOf]; omega
    · go_wp2
      go_ret
      exact ⟨rfl, hb⟩
end Go.Proofs.Ytkbkmpcdidhagab
