/-
  Flows and demands on both sides; the flow along an exit; the first code of a network and a source.
-/
import Derived.Test.YtkbkmpcdidhagaaO1
import Derived.Test.YtkbkmpcdidhagaaH8
import Derived.Test.YtkbkmpcdidhagaaO2
import Derived.Test.YtkbkmpcdidhagaaP3
import Derived.Deep.RegionHeld3
namespace Go.Proofs.Ytkbkmpcdidhagaa
open Go.ChangeShapes Go.WideShapes Go.ChangeAt Go.RowKit
set_option maxRecDepth 100000
set_option linter.unusedVariables false

/-- an exit in memory -/
def ExAt (w : World) (b : Nat) (st nd : Int) : Prop := w.cell? ⟨b, 0, none⟩ = some (.int .i64 st) ∧ w.cell? ⟨b, 1, none⟩ = some (.int .i64 nd)
theorem ExAt.next {w w' : World} {b : Nat} {st nd : Int} (h : ExAt w b st nd) (hb : Below w.heap.size w w') : ExAt w' b st nd :=
  have hl : b < w.heap.size := World.block_lt_of_cell? _ _ h.1
  ⟨(hb.cell (p := ⟨b, 0, none⟩) hl).trans h.1, (hb.cell (p := ⟨b, 1, none⟩) hl).trans h.2⟩
theorem ExAt.new (w : World) (st nd : Int) (T : TypeId) : ExAt (w.alloc (.cells #[.int .i64 st, .int .i64 nd] T)) w.heap.size st nd := by
  have hh := heap_alloc_new w (.cells #[.int .i64 st, .int .i64 nd] T)
  exact ⟨(cell_of_row _ w.heap.size 0 _ _ _ hh).trans rfl, (cell_of_row _ w.heap.size 1 _ _ _ hh).trans rfl⟩
/-- a list has a number within bounds for each of some things -/
def flB (lo hi : Int) (m : Nat) (q : List Int) : Bool := decide (q.length = m) && allIn lo hi q
/-- the flow that leaves through an exit -/
def alongI (q : List Int) (st : Int) : Int := if st < 0 then -(q.getD (absI st - 1).toNat 0) else q.getD (absI st - 1).toNat 0
/-- what comes to a node by the first k pipes, less what leaves it -/
def balTo (ps : List Pp) (q : List Int) (node : Int) : Nat → Int
  | 0 => 0
  | k + 1 => match ps[k]? with
    | some p => (if p.t = node then balTo ps q node k + q.getD k 0 else balTo ps q node k) - (if p.f = node then q.getD k 0 else 0)
    | none => balTo ps q node k
theorem balTo_at {ps : List Pp} {q : List Int} {node : Int} {k : Nat} {p : Pp} (h : ps[k]? = some p) : balTo ps q node (k + 1) = (if p.t = node then balTo ps q node k + q.getD k 0 else balTo ps q node k) - (if p.f = node then q.getD k 0 else 0) := by
  show (match ps[k]? with | some p => _ | none => _) = _
  rw [h]
theorem sumTake {α : Type} (f : α → Int) (l : List α) (k : Nat) (x : α) (hx : l[k]? = some x) : ((l.take (k + 1)).map f).sum = ((l.take k).map f).sum + f x := by
  rw [List.take_add_one, hx, List.map_append, List.sum_append]; simp
theorem getD_bd {q : List Int} {lo hi : Int} (h : allIn lo hi q = true) (h0 : lo ≤ 0) (h1 : 0 ≤ hi) (k : Nat) : lo ≤ q.getD k 0 ∧ q.getD k 0 ≤ hi := by
  rw [List.getD_eq_getElem?_getD]
  cases hk : q[k]? with
  | none => exact ⟨h0, h1⟩
  | some v =>
    have := List.all_eq_true.1 (show q.all (fun x => inB x lo hi) = true from h) v (List.mem_of_getElem? hk)
    exact inB_iff.1 this
theorem balTo_bd {ps : List Pp} {q : List Int} (h : allIn (-100000) 100000 q = true) (node : Int) (k : Nat) : -((k : Int) * 200000) ≤ balTo ps q node k ∧ balTo ps q node k ≤ (k : Int) * 200000 := by
  induction k with
  | zero => exact ⟨by simp [balTo], by simp [balTo]⟩
  | succ k ih =>
    have hb := getD_bd h (by omega) (by omega) k
    cases hp : ps[k]? with
    | none =>
      have e : balTo ps q node (k + 1) = balTo ps q node k := by
        show (match ps[k]? with | some p => _ | none => _) = _
        rw [hp]
      rw [e]; omega
    | some p =>
      rw [balTo_at hp]
      generalize q.getD k 0 = v at *
      split <;> split <;> omega
theorem along_pos (q : List Int) (k : Nat) : alongI q ((k : Int) + 1) = q.getD k 0 := by
  unfold alongI absI
  rw [if_neg (by omega), if_neg (by omega)]
  congr 1
  omega
theorem along_neg (q : List Int) (k : Nat) : alongI q (-((k : Int) + 1)) = -(q.getD k 0) := by
  unfold alongI absI
  rw [if_pos (by omega), if_pos (by omega)]
  congr 2
  omega
theorem along_bd {q : List Int} (h : allIn (-100000) 100000 q = true) (st : Int) : -100000 ≤ alongI q st ∧ alongI q st ≤ 100000 := by
  have := getD_bd h (by omega) (by omega) (absI st - 1).toNat
  unfold alongI
  split <;> omega
theorem exits_along {ps : List Pp} {n : Nat} (hok : ps.all (fitB n) = true) (q : List Int) (node : Int) (k : Nat) : ((exitsTo (closedBy []) ps node k).map fun e => alongI q e.1).sum = -balTo ps q node k := by
  induction k with
  | zero => rfl
  | succ k ih =>
    cases h : ps[k]? with
    | none =>
      have e1 : exitsTo (closedBy []) ps node (k + 1) = exitsTo (closedBy []) ps node k := by
        show (match ps[k]? with | some p => _ | none => _) = _
        rw [h]
      have e2 : balTo ps q node (k + 1) = balTo ps q node k := by
        show (match ps[k]? with | some p => _ | none => _) = _
        rw [h]
      rw [e1, e2, ih]
    | some p =>
      have hne : p.f ≠ p.t := (okP_bd _ _ _ _ _ _ (fitB_parts (List.all_eq_true.1 hok p (List.mem_of_getElem? h))).1).2.2.2.1
      rw [exitsTo_at h, balTo_at h, if_neg (by simp [closedBy])]
      by_cases hf : p.f = node
      · rw [if_pos hf, if_pos hf, if_neg (by omega), List.map_append, List.sum_append, ih]
        simp only [List.map_cons, List.map_nil, List.sum_cons, List.sum_nil, along_pos]
        omega
      · rw [if_neg hf, if_neg hf]
        by_cases ht : p.t = node
        · rw [if_pos ht, if_pos ht, List.map_append, List.sum_append, ih]
          simp only [List.map_cons, List.map_nil, List.sum_cons, List.sum_nil, along_neg]
          omega
        · rw [if_neg ht, if_neg ht, ih]
          omega
theorem sum_along_bd {q : List Int} (h : allIn (-100000) 100000 q = true) : ∀ (l : List (Int × Int)), -((l.length : Int) * 100000) ≤ (l.map fun e => alongI q e.1).sum ∧ (l.map fun e => alongI q e.1).sum ≤ (l.length : Int) * 100000
  | [] => ⟨by simp, by simp⟩
  | e :: l => by
    have := sum_along_bd h l
    have hb := along_bd h e.1
    rw [List.map_cons, List.sum_cons, List.length_cons]
    omega
theorem take_along_bd {q : List Int} (h : allIn (-100000) 100000 q = true) (l : List (Int × Int)) (hl : l.length ≤ 20) (k : Nat) : -2000000 ≤ ((l.take k).map fun e => alongI q e.1).sum ∧ ((l.take k).map fun e => alongI q e.1).sum ≤ 2000000 := by
  have := sum_along_bd h (l.take k)
  have : (l.take k).length ≤ 20 := by rw [List.length_take]; omega
  omega

theorem exIndex_any (st nd : Int) (w : World) (h0 : -20 ≤ st) (h1 : st ≤ 20) :
    Calls Try.prog 128 #[.agg #[.int .i64 st, .int .i64 nd]] w fun e w' => e = .returned (.int .i64 (absI st - 1)) ∧ Below w.heap.size w w' := by
  have hb : Below w.heap.size w w := Below.refl _ _
  have ha := absI_bd st 20 (by omega) (by omega)
  have HA := Lib.hid (fun wx => absolute_any st wx (by omega) (by omega))
  generalize absI st = au at *
  go_enter Try.func128, Try.ntmps128
  go_wp2_with ((go_at_call 175; refine (HA.out _).mono ?_; rintro e w' ⟨rfl, rfl⟩))
  go_ret
  first | exact ⟨rfl, hb⟩ | exact ⟨rfl, (bal hb _)⟩ | exact ⟨rfl, (bal (bal hb _) _)⟩ | exact ⟨rfl, (bal (bal (bal hb _) _) _)⟩ | exact ⟨rfl, (bal (bal (bal (bal hb _) _) _) _)⟩ | exact ⟨rfl, (bal (bal (bal (bal (bal hb _) _) _) _) _)⟩

theorem exTurned_any (st nd fl : Int) (w : World) (h0 : -1000000000 ≤ fl) (h1 : fl ≤ 1000000000) :
    Calls Try.prog 127 #[.agg #[.int .i64 st, .int .i64 nd], .int .i64 fl] w fun e w' => e = .returned (.int .i64 (if st < 0 then -fl else fl)) ∧ Below w.heap.size w w' := by
  have hb : Below w.heap.size w w := Below.refl _ _
  by_cases hs : st < 0
  · rw [if_pos hs]
    have hs' : decide (st < 0) = true := decide_eq_true hs
    go_enter Try.func127, Try.ntmps127
    go_wp2
    go_ret
    first | exact ⟨rfl, hb⟩ | exact ⟨rfl, (bal hb _)⟩ | exact ⟨rfl, (bal (bal hb _) _)⟩ | exact ⟨rfl, (bal (bal (bal hb _) _) _)⟩ | exact ⟨rfl, (bal (bal (bal (bal hb _) _) _) _)⟩ | exact ⟨rfl, (bal (bal (bal (bal (bal hb _) _) _) _) _)⟩

  · rw [if_neg hs]
    have hs' : decide (st < 0) = false := decide_eq_false hs
    go_enter Try.func127, Try.ntmps127
    go_wp2
    go_ret
    first | exact ⟨rfl, hb⟩ | exact ⟨rfl, (bal hb _)⟩ | exact ⟨rfl, (bal (bal hb _) _)⟩ | exact ⟨rfl, (bal (bal (bal hb _) _) _)⟩ | exact ⟨rfl, (bal (bal (bal (bal hb _) _) _) _)⟩ | exact ⟨rfl, (bal (bal (bal (bal (bal hb _) _) _) _) _)⟩

theorem exAlong_any (st nd : Int) (Q : Option Addr) (qc : Nat) (q : List Int) (w : World) (hQ : CellsAt w Q (intsV q)) (hq : allIn (-100000) 100000 q = true) (h0 : -20 ≤ st) (h1 : st ≤ 20) (hs : st ≠ 0) (hl : absI st ≤ q.length) (hm : q.length ≤ 1048576) :
    Calls Try.prog 189 #[.agg #[.int .i64 st, .int .i64 nd], .slice Q q.length qc] w fun e w' => e = .returned (.int .i64 (alongI q st)) ∧ Below w.heap.size w w' := by
  have hb : Below w.heap.size w (w.alloc (.cells #[.int .i64 st, .int .i64 nd] 154)) := bal (Below.refl _ _) _
  have hbd := getD_bd hq (by omega) (by omega) (absI st - 1).toNat
  have HI := Lib.hid (fun wx => exIndex_any st nd wx h0 h1)
  unfold alongI
  have ha : 1 ≤ absI st := by unfold absI; split <;> omega
  have hat : q.getD (absI st - 1).toNat 0 = q[(absI st - 1).toNat]'(by omega) := by rw [List.getD_eq_getElem?_getD, List.getElem?_eq_getElem (by omega)]; rfl
  obtain ⟨b, o, rfl, h1'⟩ := hQ (by rw [intsV_length]; omega)
  have hc := h1' (absI st - 1).toNat (by rw [intsV_length]; omega)
  rw [intsV_at _ _ (by omega), ← hat] at hc
  have hlt := World.block_lt_of_cell? _ _ (hc : w.cell? ⟨b, o + (absI st - 1).toNat, none⟩ = some _)
  have HT := Lib.hid (fun wx => exTurned_any st nd (q.getD (absI st - 1).toNat 0) wx (by omega) (by omega))
  have HC := Lib.hid (fun wx (hbx : Below w.heap.size w wx) => (hbx.cell (p := ⟨b, o + (absI st - 1).toNat, none⟩) hlt).trans hc)
  clear h1' hc hat hQ hq
  have hk : (((absI st - 1).toNat : Nat) : Int) = absI st - 1 := by omega
  generalize hj : (absI st - 1).toNat = j at *
  rw [← hk] at HI
  have hjl : j < q.length := by omega
  clear hj hk hl ha
  generalize q.getD j 0 = fl at *
  generalize (if st < 0 then -fl else fl) = r at *
  have hX := ExAt.new w st nd 154
  go_enter Try.func189, Try.ntmps189
  have hb := below_drewN hb 1
  have hX : ExAt (w.alloc (.cells #[.int .i64 st, .int .i64 nd] 154)).drew w.heap.size st nd := hX
  have ⟨x0, x1⟩ := hX
  have c1 := HC.out _ hb
  go_wp2_with fail
  go_region_held3 (fun w' => w'.cell? ⟨w.heap.size, 0, none⟩ = some (.int .i64 st) ∧ w'.cell? ⟨w.heap.size, 1, none⟩ = some (.int .i64 nd) ∧ w'.cell? ⟨b, o + j, none⟩ = some (.int .i64 fl)) (exact ⟨x0, x1, c1⟩) (first | (go_at_call 128; refine (HI.out _).mono ?_; rintro e w1 ⟨rfl, hb1⟩; have hX := hX.next hb1; have hb := bnext hb hb1; have ⟨x0, x1⟩ := hX; have c1 := HC.out _ hb) | (go_at_call 127; refine (HT.out _).mono ?_; rintro e w2 ⟨rfl, hb2⟩; have hX := hX.next hb2; have hb := bnext hb hb2; have ⟨x0, x1⟩ := hX; have c1 := HC.out _ hb))
  go_wp2
  go_ret
  exact ⟨rfl, hb⟩

theorem hasFlows_any (A : Option Addr) (n c : Nat) (B : Option Addr) (m d : Nat) (Q : Option Addr) (qc : Nat) (q : List Int) (w : World) (hn : n ≤ 1048576) (hm : m ≤ 1048576) (hq : q.length ≤ 1048576) (hQ : CellsAt w Q (intsV q)) :
    Calls Try.prog 66 #[.agg #[.slice A n c, .slice B m d], .slice Q q.length qc] w fun e w' => e = .returned (.bool (flB (-100000) 100000 m q)) ∧ Below w.heap.size w w' := by
  have hb : Below w.heap.size w (w.alloc (.cells #[.slice A n c, .slice B m d] 31)) := bal (Below.refl _ _) _
  have HW := Lib.hid (fun wx (hbx : Below w.heap.size w wx) => within64_cells (-100000) 100000 Q qc q.length q wx rfl (by unfold maxLen; omega) (hQ.next hbx))
  unfold flB
  clear hQ
  generalize allIn (-100000) 100000 q = v at *
  by_cases he : q.length = m
  · have he' : ((q.length : Int) == (m : Int)) = true := by simp; omega
    have e1 : (decide (q.length = m) && v) = v := by simp [he]
    rw [e1]
    clear e1 he
    go_enter Try.func66, Try.ntmps66
    go_wp2_with (go_at_call 89; refine (HW.out _ hb).mono ?_; rintro e w' ⟨rfl, rfl⟩)
    go_ret
    exact ⟨rfl, hb⟩
  · have he' : ((q.length : Int) == (m : Int)) = false := by simp; omega
    have e1 : (decide (q.length = m) && v) = false := by simp [he]
    rw [e1]
    clear e1 he
    go_enter Try.func66, Try.ntmps66
    go_wp2
    go_ret
    exact ⟨rfl, hb⟩

theorem hasDemands_any (A : Option Addr) (n c : Nat) (B : Option Addr) (m d : Nat) (Q : Option Addr) (qc : Nat) (q : List Int) (w : World) (hn : n ≤ 1048576) (hm : m ≤ 1048576) (hq : q.length ≤ 1048576) (hQ : CellsAt w Q (intsV q)) :
    Calls Try.prog 63 #[.agg #[.slice A n c, .slice B m d], .slice Q q.length qc] w fun e w' => e = .returned (.bool (flB 0 100000 n q)) ∧ Below w.heap.size w w' := by
  have hb : Below w.heap.size w (w.alloc (.cells #[.slice A n c, .slice B m d] 31)) := bal (Below.refl _ _) _
  have HW := Lib.hid (fun wx (hbx : Below w.heap.size w wx) => within64_cells 0 100000 Q qc q.length q wx rfl (by unfold maxLen; omega) (hQ.next hbx))
  unfold flB
  clear hQ
  generalize allIn 0 100000 q = v at *
  by_cases he : q.length = n
  · have he' : ((q.length : Int) == (n : Int)) = true := by simp; omega
    have e1 : (decide (q.length = n) && v) = v := by simp [he]
    rw [e1]
    clear e1 he
    go_enter Try.func63, Try.ntmps63
    go_wp2_with (go_at_call 89; refine (HW.out _ hb).mono ?_; rintro e w' ⟨rfl, rfl⟩)
    go_ret
    exact ⟨rfl, hb⟩
  · have he' : ((q.length : Int) == (n : Int)) = false := by simp; omega
    have e1 : (decide (q.length = n) && v) = false := by simp [he]
    rw [e1]
    clear e1 he
    go_enter Try.func63, Try.ntmps63
    go_wp2
    go_ret
    exact ⟨rfl, hb⟩

theorem l07Flows_any (bn : Nat) (A : Option Addr) (n c : Nat) (B : Option Addr) (m d : Nat) (Q : Option Addr) (qc : Nat) (q : List Int) (w : World) (hN : NetAt w bn A n c B m d) (hn : n ≤ 1048576) (hm : m ≤ 1048576) (hq : q.length ≤ 1048576) (hQ : CellsAt w Q (intsV q)) :
    Calls Try.prog 131 #[.pointer (some ⟨bn, 0, none⟩), .slice Q q.length qc] w fun e w' => e = .returned (.bool (flB (-100000) 100000 m q)) ∧ w = w' := by
  have ⟨n0, n1⟩ := hN
  have HQ := Lib.hid hQ
  clear hQ
  go_enter Try.func131, Try.ntmps131
  go_wp2
  go_loop [5] (fun i => ∃ k : Nat, k ≤ q.length ∧ i = .int .i64 k ∧ allIn (-100000) 100000 (q.take k) = true) (fun i => q.length - (intOf i).toNat)
  case atStart => exact ⟨0, Nat.zero_le _, rfl, by simp [allIn]⟩
  case round =>
    obtain ⟨k, hk, rfl, hall⟩ := hrel
    have Hall := Lib.hid hall
    clear hall
    by_cases hlt : k < q.length
    · obtain ⟨b, o, rfl, h1⟩ := HQ.out (by rw [intsV_length]; omega)
      have hc := h1 k (by rw [intsV_length]; exact hlt)
      have hg : q.getD k 0 = q[k] := by rw [List.getD_eq_getElem?_getD, List.getElem?_eq_getElem hlt]; rfl
      rw [intsV_at _ _ hlt, ← hg] at hc
      have hts := allIn_take_succ (-100000) 100000 q k hlt
      have hfs := allIn_false (-100000) 100000 q k hlt
      clear hg h1
      generalize q.getD k 0 = z at *
      have Hts := Lib.hid hts
      have Hfs := Lib.hid hfs
      clear hts hfs
      by_cases hz : inB z (-100000) 100000 = true
      · have HI := Lib.hid (fun wx => by have := l03Flow_any z wx; rw [hz] at this; exact this)
        have hz2 := inB_iff.1 hz
        clear hz
        go_wp2_with (go_at_call 176; refine (HI.out _).mono ?_; rintro e w' ⟨rfl, rfl⟩)
        go_round
        case rel => exact ⟨k + 1, by omega, by go_num, by rw [Hts.out, Hall.out, Bool.true_and]; exact decide_eq_true ⟨by omega, by omega⟩⟩
        case measure => simp [intOf]; omega
      · have hz' : inB z (-100000) 100000 = false := by simpa using hz
        have HI := Lib.hid (fun wx => by have := l03Flow_any z wx; rw [hz'] at this; exact this)
        have HF := Lib.hid (show flB (-100000) 100000 m q = false by unfold flB; rw [Hfs.out (fun h => hz (inB_iff.2 h)), Bool.and_false])
        clear hz hz'
        go_wp2_with (go_at_call 176; refine (HI.out _).mono ?_; rintro e w' ⟨rfl, rfl⟩)
        go_ret
        exact ⟨by rw [HF.out]; rfl, rfl⟩
    · have HF := Lib.hid (show flB (-100000) 100000 m q = decide (q.length = m) by unfold flB; have h2 := Hall.out; rw [List.take_of_length_le (by omega)] at h2; rw [h2, Bool.and_true])
      by_cases he : q.length = m
      · have he' : ((q.length : Int) == (m : Int)) = true := by simp; omega
        have HG := Lib.hid (HF.out.trans (decide_eq_true he))
        clear he
        go_wp2
        go_ret
        exact ⟨by rw [HG.out]; rfl, rfl⟩
      · have he' : ((q.length : Int) == (m : Int)) = false := by simp; omega
        have HG := Lib.hid (HF.out.trans (decide_eq_false he))
        clear he
        go_wp2
        go_ret
        exact ⟨by rw [HG.out]; rfl, rfl⟩

theorem l07Demands_any (bn : Nat) (A : Option Addr) (n c : Nat) (B : Option Addr) (m d : Nat) (Q : Option Addr) (qc : Nat) (q : List Int) (w : World) (hN : NetAt w bn A n c B m d) (hn : n ≤ 1048576) (hm : m ≤ 1048576) (hq : q.length ≤ 1048576) (hQ : CellsAt w Q (intsV q)) :
    Calls Try.prog 120 #[.pointer (some ⟨bn, 0, none⟩), .slice Q q.length qc] w fun e w' => e = .returned (.bool (flB 0 100000 n q)) ∧ w = w' := by
  have ⟨n0, n1⟩ := hN
  have HQ := Lib.hid hQ
  clear hQ
  go_enter Try.func120, Try.ntmps120
  go_wp2
  go_loop [5] (fun i => ∃ k : Nat, k ≤ q.length ∧ i = .int .i64 k ∧ allIn 0 100000 (q.take k) = true) (fun i => q.length - (intOf i).toNat)
  case atStart => exact ⟨0, Nat.zero_le _, rfl, by simp [allIn]⟩
  case round =>
    obtain ⟨k, hk, rfl, hall⟩ := hrel
    have Hall := Lib.hid hall
    clear hall
    by_cases hlt : k < q.length
    · obtain ⟨b, o, rfl, h1⟩ := HQ.out (by rw [intsV_length]; omega)
      have hc := h1 k (by rw [intsV_length]; exact hlt)
      have hg : q.getD k 0 = q[k] := by rw [List.getD_eq_getElem?_getD, List.getElem?_eq_getElem hlt]; rfl
      rw [intsV_at _ _ hlt, ← hg] at hc
      have hts := allIn_take_succ 0 100000 q k hlt
      have hfs := allIn_false 0 100000 q k hlt
      clear hg h1
      generalize q.getD k 0 = z at *
      have Hts := Lib.hid hts
      have Hfs := Lib.hid hfs
      clear hts hfs
      by_cases hz : inB z 0 100000 = true
      · have HI := Lib.hid (fun wx => by have := in_any z 0 100000 wx; rw [hz] at this; exact this)
        have hz2 := inB_iff.1 hz
        clear hz
        go_wp2_with (go_at_call 86; refine (HI.out _).mono ?_; rintro e w' ⟨rfl, rfl⟩)
        go_round
        case rel => exact ⟨k + 1, by omega, by go_num, by rw [Hts.out, Hall.out, Bool.true_and]; exact decide_eq_true ⟨by omega, by omega⟩⟩
        case measure => simp [intOf]; omega
      · have hz' : inB z 0 100000 = false := by simpa using hz
        have HI := Lib.hid (fun wx => by have := in_any z 0 100000 wx; rw [hz'] at this; exact this)
        have HF := Lib.hid (show flB 0 100000 n q = false by unfold flB; rw [Hfs.out (fun h => hz (inB_iff.2 h)), Bool.and_false])
        clear hz hz'
        go_wp2_with (go_at_call 86; refine (HI.out _).mono ?_; rintro e w' ⟨rfl, rfl⟩)
        go_ret
        exact ⟨by rw [HF.out]; rfl, rfl⟩
    · have HF := Lib.hid (show flB 0 100000 n q = decide (q.length = n) by unfold flB; have h2 := Hall.out; rw [List.take_of_length_le (by omega)] at h2; rw [h2, Bool.and_true])
      by_cases he : q.length = n
      · have he' : ((q.length : Int) == (n : Int)) = true := by simp; omega
        have HG := Lib.hid (HF.out.trans (decide_eq_true he))
        clear he
        go_wp2
        go_ret
        exact ⟨by rw [HG.out]; rfl, rfl⟩
      · have he' : ((q.length : Int) == (n : Int)) = false := by simp; omega
        have HG := Lib.hid (HF.out.trans (decide_eq_false he))
        clear he
        go_wp2
        go_ret
        exact ⟨by rw [HG.out]; rfl, rfl⟩

theorem l07Ask_any (bn : Nat) (A B : Option Addr) (c d : Nat) (z : List Int) (ps : List Pp) (node : Int) (w : World) (hN : NetAt w bn A z.length c B ps.length d) (h : NetCells w A z B ps) (hn : z.length ≤ 1048576) (hm : ps.length ≤ 1048576) (hid : ∀ p ∈ ps, p.id.size ≤ maxLen) :
    Calls Try.prog 73 #[.pointer (some ⟨bn, 0, none⟩), .int .i64 node] w fun e w' => e = .returned (.int .i64 (argC (netB z ps) (inB node 0 ((z.length : Int) - 1)))) ∧ Drawn w w' := by
  have HV := Lib.hid (l04Ok_any bn A z.length c B ps.length d z ps _ hN rfl rfl hn hm h.1 h.2 hid)
  have HR := Lib.hid (fun wx (hx : NetAt wx bn A z.length c B ps.length d) => l04Node_any bn A z.length c B ps.length d node wx hx hn)
  have HN := Lib.hid (fun wx (hx : Drawn w wx) => hN.next (drawn_below hx))
  clear hN h hid
  unfold argC
  generalize netB z ps = vv at *
  generalize inB node 0 ((z.length : Int) - 1) = rr at *
  cases vv with
  | false =>
    rw [if_neg (by simp)]
    go_enter Try.func73, Try.ntmps73
    go_wp2_with fail
    refine HV.out.mono ?_
    rintro e w1 ⟨rfl, hd⟩
    go_wp2
    go_ret
    exact ⟨rfl, hd⟩
  | true =>
    rw [if_pos rfl]
    cases rr with
    | false =>
      rw [if_neg (by simp)]
      go_enter Try.func73, Try.ntmps73
      go_wp2_with fail
      refine HV.out.mono ?_
      rintro e w1 ⟨rfl, hd⟩
      have HR2 := HR.out _ (HN.out _ hd)
      go_wp2_with fail
      refine HR2.mono ?_
      rintro e w' ⟨rfl, rfl⟩
      go_wp2
      go_ret
      exact ⟨rfl, hd⟩
    | true =>
      rw [if_pos rfl]
      go_enter Try.func73, Try.ntmps73
      go_wp2_with fail
      refine HV.out.mono ?_
      rintro e w1 ⟨rfl, hd⟩
      have HR2 := HR.out _ (HN.out _ hd)
      go_wp2_with fail
      refine HR2.mono ?_
      rintro e w' ⟨rfl, rfl⟩
      go_wp2
      go_ret
      exact ⟨rfl, hd⟩

end Go.Proofs.Ytkbkmpcdidhagaa
