/-
  Days: arrays of 24 numbers; the outdoor temperatures of a day.
-/
import Derived.Test.YthidaoemonjemabLd5
import Derived.Deep.MidRow
import Derived.Deep.RegionWith
import Derived.Deep.WholeRow
import Derived.Deep.RegionHeld3
import Derived.Laws.CopyOwn
import Derived.Laws.Tables
import Derived.Laws.Rows
import Derived.Laws.OwnMore
import Derived.Laws.ResultCell
namespace Go.Proofs.Ythidaoemonjemab
open Go.ChangeShapes Go.WideShapes Go.ChangeAt Go.RowKit

set_option maxRecDepth 100000
set_option maxHeartbeats 700000
set_option linter.unusedSimpArgs false
set_option linter.unusedVariables false

/-- numbers as an array -/
def dayV (l : List Int) : Array Value := (intsV l).toArray
theorem dayV_size (l : List Int) : (dayV l).size = l.length := by simp [dayV, intsV]
theorem dayV_one (l : List Int) : (dayV l).all (·.oneCell') = true := by
  rw [Array.all_eq_true_iff_forall_mem]
  intro x hx
  simp [dayV, intsV] at hx
  obtain ⟨z, -, rfl⟩ := hx
  rfl
theorem infoDay (l : List Int) (h : l.length = 24) : (Try.prog.info? 64).map (·.size) = some (dayV l).size := by
  rw [dayV_size, h]
  kernel_rfl
def noDay : List Int := List.replicate 24 0
/-- a day lies in a block of its own -/
def DayAt (w : World) (b : Nat) (l : List Int) : Prop := w.heap[b]? = some (.cells (dayV l) 64 (0, 0))
theorem DayAt.lies {w : World} {b : Nat} {l : List Int} (h : DayAt w b l) : b < w.heap.size := by
  unfold DayAt at h
  exact (Array.getElem?_eq_some_iff.1 h).1
theorem DayAt.next {w w' : World} {b : Nat} {l : List Int} (h : DayAt w b l) (hb : Below w.heap.size w w') : DayAt w' b l := (hb.block b h.lies).trans h
theorem DayAt.range {w : World} {b : Nat} {l : List Int} (h : DayAt w b l) : w.rangeAt b 0 (intsV l) := fun j v hj => by
  rw [Nat.zero_add, cell_of_row w b j _ _ _ h]
  simpa [dayV] using hj
theorem DayAt.there {w : World} {b : Nat} {l : List Int} (h : DayAt w b l) (hl : l.length = 24) : w.there b 0 24 := fun j hj => by
  rw [Nat.zero_add]
  refine ⟨?_, frozen_of_row w b j _ _ h⟩
  rw [cell_of_row w b j _ _ _ h]
  simp [dayV, intsV, hl, hj]
theorem DayAt.new (w : World) : DayAt (w.alloc (.cells #[.int .i64 0, .int .i64 0, .int .i64 0, .int .i64 0, .int .i64 0, .int .i64 0, .int .i64 0, .int .i64 0, .int .i64 0, .int .i64 0, .int .i64 0, .int .i64 0, .int .i64 0, .int .i64 0, .int .i64 0, .int .i64 0, .int .i64 0, .int .i64 0, .int .i64 0, .int .i64 0, .int .i64 0, .int .i64 0, .int .i64 0, .int .i64 0] 64)) w.heap.size noDay := heap_alloc_new _ _
theorem index_day (l : List Int) (hl : l.length = 24) (k : Nat) (hk : k < 24) (w : World) : (Instr.index 64 (.agg (dayV l)) (.int .i64 k)).run Try.prog w = .ok (.int .i64 (l.getD k 0)) w := by
  have hlt : k < l.length := by omega
  have hs : (Try.prog.info? 2).map (·.size) = some 1 := by kernel_rfl
  have ha : (isAgg 2).run Try.prog w = .ok false w := by kernel_rfl
  have hv : (dayV l)[k]? = some (Value.int .i64 (l[k]?.getD 0)) := by simp [dayV, intsV, hlt]
  simp [Instr.index, asIntOf, run_underlying Try.underlying64, hk]
  unfold part
  rw [Sem.run_bind, ha]
  simp [hv]
theorem CellsAt.past {w w' : World} {A : Option Addr} {vs : List Value} (h : CellsAt w A vs) (hb : ∀ b, b < w.heap.size → w'.heap[b]? = w.heap[b]?) : CellsAt w' A vs := by
  intro hp
  obtain ⟨b, o, rfl, hc⟩ := h hp
  have hl := CellsAt.lies h hp
  exact ⟨b, o, rfl, fun j hj => (World.cell?_of_block (w := w) (hb b hl)).trans (hc j hj)⟩
theorem below_setCells {B b : Nat} {a : World} : ∀ (vs : List Value) (o : Nat) (w : World), Below B a w → B ≤ b → Below B a (w.setCells b o vs)
  | [], _, _, h, _ => h
  | v :: r, o, w, h, hB => below_setCells r (o + 1) _ (h.setCell (p := ⟨b, o, none⟩) hB v) hB
theorem results_day2 {fn : Func} {p u : Tmp} (h : fn.results = #[.cell p 64, .tmp u]) (tmps : Array Value) (w : World) (g : Nat) (l : List Int) (hl : l.length = 24) (hp : tmps.getD p undef = .pointer (some ⟨g, 0, none⟩)) (hw : w.rangeAt g 0 (intsV l)) :
    (results fn tmps).run Try.prog w = .ok (.tuple #[.agg (dayV l), tmps.getD u undef]) w := by
  have hp' : tmps[p]?.getD undef = .pointer (some ⟨g, 0, none⟩) := by simpa using hp
  have hl2 := run_loadVar_mid (P := Try.prog) w g 0 64 _ _ hw Try.underlying64 rfl (by rw [intsV_length, hl]; kernel_rfl)
  rw [results_cell_tmp h]
  simp [hp', asAddr, hl2, Result.andThen]
  rfl
def dayB (zs : List Int) : Bool := decide (zs.length = 24) && allIn (-4000) 4500 zs
theorem outdoorDay_any (A : Option Addr) (c : Nat) (zs : List Int) (w : World) (hA : CellsAt w A (intsV zs)) (hm : zs.length ≤ 1048576) :
    Calls Try.prog 77 #[.slice A zs.length c] w fun e w' => ∃ l : List Int, l.length = 24 ∧ (dayB zs = true → l = zs) ∧ e = .returned (.tuple #[.agg (dayV l), .bool (dayB zs)]) ∧ Below w.heap.size w w' := by
  have hb : Below w.heap.size w ((w.alloc (.cells #[.int .i64 0, .int .i64 0, .int .i64 0, .int .i64 0, .int .i64 0, .int .i64 0, .int .i64 0, .int .i64 0, .int .i64 0, .int .i64 0, .int .i64 0, .int .i64 0, .int .i64 0, .int .i64 0, .int .i64 0, .int .i64 0, .int .i64 0, .int .i64 0, .int .i64 0, .int .i64 0, .int .i64 0, .int .i64 0, .int .i64 0, .int .i64 0] 64)).alloc (.cells #[.int .i64 0, .int .i64 0, .int .i64 0, .int .i64 0, .int .i64 0, .int .i64 0, .int .i64 0, .int .i64 0, .int .i64 0, .int .i64 0, .int .i64 0, .int .i64 0, .int .i64 0, .int .i64 0, .int .i64 0, .int .i64 0, .int .i64 0, .int .i64 0, .int .i64 0, .int .i64 0, .int .i64 0, .int .i64 0, .int .i64 0, .int .i64 0] 64)) := bal (bal (Below.refl _ _) _) _
  have hs1 : (w.alloc (.cells #[.int .i64 0, .int .i64 0, .int .i64 0, .int .i64 0, .int .i64 0, .int .i64 0, .int .i64 0, .int .i64 0, .int .i64 0, .int .i64 0, .int .i64 0, .int .i64 0, .int .i64 0, .int .i64 0, .int .i64 0, .int .i64 0, .int .i64 0, .int .i64 0, .int .i64 0, .int .i64 0, .int .i64 0, .int .i64 0, .int .i64 0, .int .i64 0] 64)).heap.size = w.heap.size + 1 := by simp
  have hR : DayAt ((w.alloc (.cells #[.int .i64 0, .int .i64 0, .int .i64 0, .int .i64 0, .int .i64 0, .int .i64 0, .int .i64 0, .int .i64 0, .int .i64 0, .int .i64 0, .int .i64 0, .int .i64 0, .int .i64 0, .int .i64 0, .int .i64 0, .int .i64 0, .int .i64 0, .int .i64 0, .int .i64 0, .int .i64 0, .int .i64 0, .int .i64 0, .int .i64 0, .int .i64 0] 64)).alloc (.cells #[.int .i64 0, .int .i64 0, .int .i64 0, .int .i64 0, .int .i64 0, .int .i64 0, .int .i64 0, .int .i64 0, .int .i64 0, .int .i64 0, .int .i64 0, .int .i64 0, .int .i64 0, .int .i64 0, .int .i64 0, .int .i64 0, .int .i64 0, .int .i64 0, .int .i64 0, .int .i64 0, .int .i64 0, .int .i64 0, .int .i64 0, .int .i64 0] 64)) w.heap.size noDay := (DayAt.new w).next (bal (Below.refl _ _) _)
  have hT : ((w.alloc (.cells #[.int .i64 0, .int .i64 0, .int .i64 0, .int .i64 0, .int .i64 0, .int .i64 0, .int .i64 0, .int .i64 0, .int .i64 0, .int .i64 0, .int .i64 0, .int .i64 0, .int .i64 0, .int .i64 0, .int .i64 0, .int .i64 0, .int .i64 0, .int .i64 0, .int .i64 0, .int .i64 0, .int .i64 0, .int .i64 0, .int .i64 0, .int .i64 0] 64)).alloc (.cells #[.int .i64 0, .int .i64 0, .int .i64 0, .int .i64 0, .int .i64 0, .int .i64 0, .int .i64 0, .int .i64 0, .int .i64 0, .int .i64 0, .int .i64 0, .int .i64 0, .int .i64 0, .int .i64 0, .int .i64 0, .int .i64 0, .int .i64 0, .int .i64 0, .int .i64 0, .int .i64 0, .int .i64 0, .int .i64 0, .int .i64 0, .int .i64 0] 64)).heap[w.heap.size + 1]? = some (.cells (intsV noDay).toArray 64 (0, 0)) := by rw [← hs1]; exact DayAt.new _
  have hA2 := hA.next hb
  have hmm : zs.length ≤ 9223372036854775807 := by omega
  have HM : zs.length ≤ maxLen := by unfold maxLen; omega
  have HA := Lib.hid hA2
  have HA0 := Lib.hid hA
  have HR := Lib.hid hR
  have HT := Lib.hid hT
  clear hA hA2 hR hT
  have hS : ∃ l : List Int, l.length = 24 ∧ splice (intsV noDay) 0 (intsV (zs.take 24)) = intsV l ∧ (dayB zs = true → l = zs) := by
    refine ⟨zs.take 24 ++ noDay.drop (zs.take 24).length, by simp [noDay]; omega, ?_, fun h => ?_⟩
    · simp [splice, intsV, List.map_drop]
    · unfold dayB at h
      simp only [Bool.and_eq_true, decide_eq_true_eq] at h
      rw [List.take_of_length_le (by omega), List.drop_of_length_le (by simp [noDay]; omega), List.append_nil]
  obtain ⟨l, hl, hsp, hlz⟩ := hS
  have HSP := Lib.hid hsp
  have HLZ := Lib.hid hlz
  have HW := Lib.hid (fun wx hc => within64_cells (-4000) 4500 A c zs.length zs wx rfl HM hc)
  clear hsp hlz
  go_enter Try.func77, Try.ntmps77
  go_wp2_with (refine wpList_copy_splice rfl _ _ _ _ rfl 2 Try.underlying23 (by kernel_rfl) _ _ _ _ _ _ rfl rfl (w.heap.size + 1) 0 (intsV noDay) 64 HT.out (intsV (zs.take 24)) ?hn ?hpos ?hfit ?h1 (w.heap.size + 1) _ (Below.refl _ _) (by simp) ?_; rotate_right; (intro w1 H1 hb1))
  case hn =>
    rw [intsV_length, List.length_take]
    exact Nat.min_comm _ _
  case hpos =>
    intro hp
    obtain ⟨b0, o0, rfl, hc0⟩ := HA.out (by simp [intsV] at hp ⊢; omega)
    refine ⟨_, rfl, fun j v hj => ?_⟩
    have hj2 : j < (intsV zs).length := by
      have := (List.getElem?_eq_some_iff.1 hj).1
      simp [intsV] at this ⊢
      omega
    rw [show (⟨b0, o0, none⟩ : Addr).add j = ⟨b0, o0 + j, none⟩ from Go.Addr.add_mid _ _ _, hc0 j hj2]
    rw [← hj]
    simp only [intsV, List.map_take, List.getElem?_take]
    have hj3 : j < 24 := by
      have := (List.getElem?_eq_some_iff.1 hj).1
      simp [intsV] at this
      omega
    simp [hj3]
  case hfit => simp [intsV, noDay]; omega
  case h1 =>
    intro v hv
    obtain ⟨z, -, rfl⟩ := List.mem_map.1 hv
    rfl
  have hsz : (dayV l).size = 24 := by rw [dayV_size]; exact hl
  have hT1 : DayAt w1 (w.heap.size + 1) l := by
    have := H1.out
    rw [HSP.out] at this
    exact this
  have hR1 : DayAt w1 w.heap.size noDay := (hb1.block _ (by omega)).trans HR.out
  have hin : (Try.prog.info? 64).map (·.size) = some (dayV l).size := infoDay l hl
  have hrT : w1.drew.rangeAt (w.heap.size + 1) 0 (intsV l) := DayAt.range (w := w1.drew) hT1
  have htR : w1.drew.there w.heap.size 0 (intsV l).length := by rw [intsV_length, hl]; exact DayAt.there (w := w1.drew) hR1 rfl
  have hv1 : ∀ v ∈ intsV l, v.oneCell' = true := fun v hv => by
    obtain ⟨z, -, rfl⟩ := List.mem_map.1 hv
    rfl
  have hA1 : CellsAt w1.drew A (intsV zs) := HA0.out.past fun b hb' => (hb1.block b (by omega)).trans (hb.block b hb')
  have hu := Try.underlying64
  have hin2 : (Try.prog.info? 64).map (·.size) = some (intsV l).length := by rw [intsV_length, hl]; kernel_rfl
  have hone := dayV_one l
  by_cases h24 : zs.length = 24
  · have h24' : ((zs.length : Int) == 24) = true := by simp [h24]
    have HD := Lib.hid (show dayB zs = allIn (-4000) 4500 zs by unfold dayB; simp [h24])
    clear h24
    go_region_held3 (fun w' => w'.rangeAt (w.heap.size + 1) 0 (intsV l) ∧ w'.there w.heap.size 0 (intsV l).length) (first | exact ⟨hrT, htR⟩ | exact ⟨World.rangeAt_setCells_apart hrT _ _ _ (.inl (by omega)), World.there_setCells htR _ _ _⟩) ((go_at_call 65; refine (HW.out _ hA1).mono ?_; rintro e w' ⟨rfl, rfl⟩))
    have hend : Below w.heap.size w (w1.drew.setCells w.heap.size 0 (intsV l)) := below_setCells _ _ _ (below_drewN (hb.trans (hb1.mono (by omega))) 1) (Nat.le_refl _)
    have hrr : (w1.drew.setCells w.heap.size 0 (intsV l)).rangeAt w.heap.size 0 (intsV l) := World.rangeAt_setCells_same _ _ _ _ htR
    go_wp2
    exact bodyPost_ret (results_day2 Try.results77 _ _ w.heap.size l hl rfl hrr) rfl ⟨l, hl, HLZ.out, by rw [HD.out]; rfl, hend⟩
  · have h24' : ((zs.length : Int) == 24) = false := by simpa using (by omega : ¬ (zs.length : Int) = 24)
    have HD := Lib.hid (show dayB zs = false by unfold dayB; simp [h24])
    clear h24
    have hS0 : w1.drew.rangeAt (w.heap.size + 1) 0 (intsV l) ∧ w1.drew.there w.heap.size 0 (intsV l).length := ⟨hrT, htR⟩
    refine wp_region_held_drew (S := fun w' => w'.rangeAt (w.heap.size + 1) 0 (intsV l) ∧ w'.there w.heap.size 0 (intsV l).length) (by kernel_rfl) hS0 (fun hHeld => ?_)
    refine wpAnyH_take (i := 0) (v := .agg (intsV l).toArray) rfl (by kernel_rfl) (by kernel_rfl) (by kernel_rfl) (fun _ _ _ h => h) (yieldsIf_load_mid (by rfl) 64 (.tmp 4) rfl (w.heap.size + 1) 0 rfl (intsV l) _ (fun w h => h.1) hu rfl hin2) (by assumption) ?_
    try simp only [Act.put, List.getElem_toArray, List.getElem_cons_zero, List.getElem_cons_succ, List.setIfInBounds_toArray, List.set_cons_zero, List.set_cons_succ]
    refine wpAnyH_take (i := 1) (v := .slice A zs.length c) rfl (by kernel_rfl) (by kernel_rfl) (by kernel_rfl) (fun _ _ _ h => h) (Or.inl ⟨by rfl, fun wz hSw => by go_simp⟩) (by assumption) ?_
    try simp only [Act.put, List.getElem_toArray, List.getElem_cons_zero, List.getElem_cons_succ, List.setIfInBounds_toArray, List.set_cons_zero, List.set_cons_succ]
    refine wpAnyH_take (i := 2) (v := .int .i64 zs.length) rfl (by kernel_rfl) (by kernel_rfl) (by kernel_rfl) (fun _ _ _ h => h) (Or.inl ⟨by rfl, fun wz hSw => by go_simp⟩) (by assumption) ?_
    try simp only [Act.put, List.getElem_toArray, List.getElem_cons_zero, List.getElem_cons_succ, List.setIfInBounds_toArray, List.set_cons_zero, List.set_cons_succ]
    refine wpAnyH_take (i := 3) (v := .bool false) rfl (by kernel_rfl) (by kernel_rfl) (by kernel_rfl) (fun _ _ _ h => h) (Or.inl ⟨by rfl, fun wz hSw => by go_simp⟩) (by assumption) ?_
    try simp only [Act.put, List.getElem_toArray, List.getElem_cons_zero, List.getElem_cons_succ, List.setIfInBounds_toArray, List.set_cons_zero, List.set_cons_succ]
    refine wpAnyH_take (i := 4) (v := .bool false) rfl (by kernel_rfl) (by kernel_rfl) (by kernel_rfl) (fun _ _ _ h => h) (Or.inl ⟨by rfl, fun wz hSw => by go_simp⟩) (by assumption) ?_
    try simp only [Act.put, List.getElem_toArray, List.getElem_cons_zero, List.getElem_cons_succ, List.setIfInBounds_toArray, List.set_cons_zero, List.set_cons_succ]
    refine wpAnyH_take (i := 5) (v := undef) rfl (by kernel_rfl) (by kernel_rfl) (by kernel_rfl) (fun _ _ _ h => h) (Or.inr ⟨by rfl, rfl⟩) (by assumption) ?_
    try simp only [Act.put, List.getElem_toArray, List.getElem_cons_zero, List.getElem_cons_succ, List.setIfInBounds_toArray, List.set_cons_zero, List.set_cons_succ]
    refine wpAnyH_take (i := 6) (v := undef) rfl (by kernel_rfl) (by kernel_rfl) (by kernel_rfl) (fun _ _ _ h => h) (Or.inr ⟨by rfl, rfl⟩) (by assumption) ?_
    try simp only [Act.put, List.getElem_toArray, List.getElem_cons_zero, List.getElem_cons_succ, List.setIfInBounds_toArray, List.set_cons_zero, List.set_cons_succ]
    refine wpAnyH_take (i := 7) (v := .bool false) rfl (by kernel_rfl) (by kernel_rfl) (by kernel_rfl) (fun _ _ _ h => h) (Or.inl ⟨by rfl, fun wz hSw => by go_simp⟩) (by assumption) ?_
    try simp only [Act.put, List.getElem_toArray, List.getElem_cons_zero, List.getElem_cons_succ, List.setIfInBounds_toArray, List.set_cons_zero, List.set_cons_succ]
    refine wpAnyH_ready (rs := [8]) (by kernel_rfl) (by simp) ?_
    refine AllReadyH.cons (o := { dst := none, op := Op.store 64 (Operand.tmp 2) (Operand.tmp 8), type := 0, pos := _, after := _, guard := none }) rfl (fun K hK => ?_) AllReadyH.nil
    rw [if_pos (by rfl)]
    have ht2 : w1.drew.there w.heap.size 0 (intsV l).toArray.size := by rw [List.size_toArray]; exact htR
    have hi2 : (Try.prog.info? 64).map (·.size) = some (intsV l).toArray.size := by rw [List.size_toArray]; exact hin2
    have ha2 := all_oneCell_toArray hv1
    refine wp_store_mid 64 (.tmp 2) (.tmp 8) rfl w.heap.size 0 (intsV l).toArray ?hx ?hy ht2 hi2 ha2 ?_
    case hx => rfl
    case hy => rfl
    refine hK.out _ _ ⟨World.rangeAt_setCells_apart hrT _ _ _ (.inl (by omega)), World.there_setCells htR _ _ _⟩ (fun hHeld => ?_)
    try simp only [Act.put, List.getElem_toArray, List.getElem_cons_zero, List.getElem_cons_succ, List.setIfInBounds_toArray, List.set_cons_zero, List.set_cons_succ]
    refine wpAnyH_take (i := 9) (v := .bool false) rfl (by kernel_rfl) (by kernel_rfl) (by kernel_rfl) (fun _ _ _ h => h) (Or.inl ⟨by rfl, fun wz hSw => by go_simp⟩) (by assumption) ?_
    try simp only [Act.put, List.getElem_toArray, List.getElem_cons_zero, List.getElem_cons_succ, List.setIfInBounds_toArray, List.set_cons_zero, List.set_cons_succ]
    refine wpAnyH_done (by kernel_rfl) ?_ _
    have hend : Below w.heap.size w (w1.drew.setCells w.heap.size 0 (intsV l)) := below_setCells _ _ _ (below_drewN (hb.trans (hb1.mono (by omega))) 1) (Nat.le_refl _)
    have hrr : (w1.drew.setCells w.heap.size 0 (intsV l)).rangeAt w.heap.size 0 (intsV l) := World.rangeAt_setCells_same _ _ _ _ htR
    go_wp2
    exact bodyPost_ret (results_day2 Try.results77 _ _ w.heap.size l hl rfl hrr) rfl ⟨l, hl, HLZ.out, by rw [HD.out]; rfl, hend⟩

theorem allIn_at (lo hi : Int) (l : List Int) (h : allIn lo hi l = true) (k : Nat) (hk : k < l.length) : lo ≤ l.getD k 0 ∧ l.getD k 0 ≤ hi := by
  unfold allIn at h
  have := List.all_eq_true.1 h l[k] (List.getElem_mem hk)
  have e : l.getD k 0 = l[k] := by simp [List.getD, hk]
  rw [e]
  simpa using this
theorem take_set_succ (m : List Int) (k : Nat) (v : Int) (h : k < m.length) : (m.set k v).take (k + 1) = m.take k ++ [v] := by
  have hl : (m.take k).length = k := by rw [List.length_take]; omega
  rw [List.set_eq_take_append_cons_drop, if_pos h, List.take_append, List.take_of_length_le (by omega), hl]
  simp
theorem DayAt.set {w : World} {b : Nat} {l : List Int} (h : DayAt w b l) (k : Nat) (v : Int) : DayAt (w.setCell ⟨b, k, none⟩ (.int .i64 v)) b (l.set k v) := by
  have := heap_setCell_same w b k _ _ (.int .i64 v) h
  unfold DayAt
  rw [this]
  simp [dayV, intsV, List.map_set]
def fcC (ds : List Bl) (zs : List Int) : Int := if okBs ds then (if dayB zs then 0 else 7) else 1
def fcTo (ds : List Bl) (zs : List Int) (k : Nat) : List Int := (List.range k).map (fun h => sumI ds (zs.getD h 0) h)
def fcX (ds : List Bl) (zs : List Int) : List Int := fcTo ds zs 24
theorem forecast_any (A : Option Addr) (n c : Nat) (xs : List Bd) (B : Option Addr) (d : Nat) (zs : List Int) (w : World) (hx : BdsOk w A n xs) (hB : CellsAt w B (intsV zs)) (hz : zs.length ≤ 1048576) :
    Calls Try.prog 44 #[.slice A n c, .slice B zs.length d] w fun e w' => ∃ l : List Int, l.length = 24 ∧ (fcC (xs.map Bd.d) zs = 0 → l = fcX (xs.map Bd.d) zs) ∧ e = .returned (.tuple #[.agg (dayV l), .int .i64 (fcC (xs.map Bd.d) zs)]) ∧ Below w.heap.size w w' := by
  have hlen := hx.1.1
  have hb : Below w.heap.size w (w.alloc (.cells #[.int .i64 0, .int .i64 0, .int .i64 0, .int .i64 0, .int .i64 0, .int .i64 0, .int .i64 0, .int .i64 0, .int .i64 0, .int .i64 0, .int .i64 0, .int .i64 0, .int .i64 0, .int .i64 0, .int .i64 0, .int .i64 0, .int .i64 0, .int .i64 0, .int .i64 0, .int .i64 0, .int .i64 0, .int .i64 0, .int .i64 0, .int .i64 0] 64)) := bal (Below.refl _ _) _
  have hR := DayAt.new w
  have HV := Lib.hid (fun wx (hb : Below w.heap.size w wx) => implVB_any A n c xs wx (hx.go hb))
  have HO := Lib.hid (fun wx (hb : Below w.heap.size w wx) => outdoorDay_any B d zs wx (hB.next hb) hz)
  have HX := Lib.hid hx
  have HR := Lib.hid hR
  clear hx hR hB
  have h0 : noDay.length = 24 := rfl
  have hin0 := infoDay noDay h0
  have hone0 := dayV_one noDay
  by_cases ho : okBs (xs.map Bd.d) = true
  rotate_left
  · have ho : okBs (xs.map Bd.d) = false := by simpa only [Bool.not_eq_true] using ho
    have HFC := Lib.hid (show fcC (xs.map Bd.d) zs = 1 from by unfold fcC; rw [ho]; rfl)
    go_enter Try.func44, Try.ntmps44
    go_wp2_with fail
    refine (HV.out _ hb).mono ?_
    rintro e w1 ⟨rfl, hb1⟩
    rw [ho]
    have HR1 := Lib.hid (HR.out.next hb1)
    have hb2 := bnext hb hb1
    clear hb1
    go_wp2_with (refine wpList_store_row rfl 64 _ _ rfl w.heap.size (dayV noDay) rfl rfl 64 (dayV noDay) HR1.out hin0 rfl hone0 ?_)
    have hrr : DayAt (w1.setRow w.heap.size (dayV noDay)) w.heap.size noDay := setRow_heap w1 _ _ _ _ _ HR1.out
    exact bodyPost_ret (results_day2 Try.results44 _ _ w.heap.size noDay h0 rfl hrr.range) rfl ⟨noDay, h0, (fun hh => by rw [HFC.out] at hh; exact absurd hh (by decide)), by rw [HFC.out]; rfl, below_setRow hb2 (Nat.le_refl _) _⟩
  by_cases hd : dayB zs = true
  rotate_left
  · have hd : dayB zs = false := by simpa only [Bool.not_eq_true] using hd
    have HFC := Lib.hid (show fcC (xs.map Bd.d) zs = 7 from by unfold fcC; rw [ho, hd]; rfl)
    go_enter Try.func44, Try.ntmps44
    go_wp2_with fail
    refine (HV.out _ hb).mono ?_
    rintro e w1 ⟨rfl, hb1⟩
    rw [ho]
    have hR1 := HR.out.next hb1
    have hb2 := bnext hb hb1
    go_wp2_with fail
    refine (HO.out _ hb2).mono ?_
    rintro e w2 ⟨l, hl, hlz, rfl, hb4⟩
    rw [hd]
    have hin := infoDay l hl
    have hsz : (dayV l).size = 24 := by rw [dayV_size]; exact hl
    have hone := dayV_one l
    have HR2 := Lib.hid ((hR1.next hb4).next (bal (Below.refl _ _) (.cells (dayV l) 64)))
    have hb5 := bal (bnext hb2 hb4) (.cells (dayV l) 64)
    clear hR1 hb1 hb4 hb2 hlz
    go_wp2_with (first | (refine wpList_store_row rfl 64 _ _ rfl w2.heap.size (dayV l) rfl rfl 64 _ (heap_alloc_new _ _) hin (by rw [hsz]; rfl) hone ?_; rw [World.setRow_alloc_new]) | (refine wpList_store_row rfl 64 _ _ rfl w.heap.size (dayV noDay) rfl rfl 64 (dayV noDay) HR2.out hin0 rfl hone0 ?_))
    have hrr : DayAt ((w2.alloc (.cells (dayV l) 64)).setRow w.heap.size (dayV noDay)) w.heap.size noDay := setRow_heap _ _ _ _ _ _ HR2.out
    exact bodyPost_ret (results_day2 Try.results44 _ _ w.heap.size noDay h0 rfl hrr.range) rfl ⟨noDay, h0, (fun hh => by rw [HFC.out] at hh; exact absurd hh (by decide)), by rw [HFC.out]; rfl, below_setRow hb5 (Nat.le_refl _) _⟩
  go_enter Try.func44, Try.ntmps44
  go_wp2_with fail
  refine (HV.out _ hb).mono ?_
  rintro e w1 ⟨rfl, hb1⟩
  rw [ho]
  have hR1 := HR.out.next hb1
  have hb2 := bnext hb hb1
  go_wp2_with fail
  refine (HO.out _ hb2).mono ?_
  rintro e w2 ⟨l, hl, hlz, rfl, hb4⟩
  obtain rfl := hlz hd
  rw [hd]
  have hR3 := hR1.next hb4
  have hb5 := bnext hb2 hb4
  have hin := infoDay l hl
  have hsz : (dayV l).size = 24 := by rw [dayV_size]; exact hl
  have hone := dayV_one l
  have HR3 := Lib.hid hR3
  clear hR1 hR3 hb1 hb4 hb2
  go_wp2_with (refine wpList_store_row rfl 64 _ _ rfl w2.heap.size (dayV l) rfl rfl 64 _ (heap_alloc_new _ _) hin (by rw [hsz]; rfl) hone ?_; rw [World.setRow_alloc_new])
  refine (loadsTogether_any A n c _).mono ?_
  rintro e w3 ⟨rfl, cl, hb6⟩
  have hT3 : DayAt w3 w2.heap.size l := (show DayAt (w2.alloc (.cells (dayV l) 64)) w2.heap.size l from heap_alloc_new _ _).next hb6
  have hR4 := (HR3.out.next (bal (Below.refl _ _) (.cells (dayV l) 64))).next hb6
  have hb7 := bnext (bal hb5 _) hb6
  have hZ := DayAt.new w3
  have hbz : Below w3.heap.size w3 (w3.alloc (.cells #[.int .i64 0, .int .i64 0, .int .i64 0, .int .i64 0, .int .i64 0, .int .i64 0, .int .i64 0, .int .i64 0, .int .i64 0, .int .i64 0, .int .i64 0, .int .i64 0, .int .i64 0, .int .i64 0, .int .i64 0, .int .i64 0, .int .i64 0, .int .i64 0, .int .i64 0, .int .i64 0, .int .i64 0, .int .i64 0, .int .i64 0, .int .i64 0] 64)) := bal (Below.refl _ _) _
  have hT4 := hT3.next hbz
  have hR5 := hR4.next hbz
  have cl2 := cell_alloc cl (.cells #[.int .i64 0, .int .i64 0, .int .i64 0, .int .i64 0, .int .i64 0, .int .i64 0, .int .i64 0, .int .i64 0, .int .i64 0, .int .i64 0, .int .i64 0, .int .i64 0, .int .i64 0, .int .i64 0, .int .i64 0, .int .i64 0, .int .i64 0, .int .i64 0, .int .i64 0, .int .i64 0, .int .i64 0, .int .i64 0, .int .i64 0, .int .i64 0] 64)
  have hb8 := bnext hb7 hbz
  have hsz2 : w2.heap.size + 1 ≤ w3.heap.size := by have := hb6.size; simpa using this
  have hsz3 : w.heap.size ≤ w2.heap.size := hb5.size
  have HT4 := Lib.hid hT4
  have HR5 := Lib.hid hR5
  have HZ := Lib.hid hZ
  have HSZ := Lib.hid (show w2.heap.size + 1 < w3.heap.size from World.block_lt_of_cell? _ _ (by simpa using cl))
  clear hT3 hR4 hT4 hR5 hZ cl hb6 hb7 hbz
  go_wp2_with (refine wpList_load_row rfl 64 _ rfl w2.heap.size rfl 64 (dayV l) (0, 0) _ HT4.out Try.underlying64 rfl hin ?_)
  have HX5 := Lib.hid (And.intro hb8 cl2)
  have HOK := Lib.hid ho
  have hti := Lib.hid (fun (k : Nat) (hk : k < 24) => by
    have hall := (Bool.and_eq_true _ _ ▸ (show (decide (l.length = 24) && allIn (-4000) 4500 l) = true from hd)).2
    have := (allIn_at (-4000) 4500 l hall k (by omega))
    exact this)
  obtain ⟨b1, b2, -⟩ := okBs_parts ho
  rw [List.length_map, hlen] at b1
  have HB2 := Lib.hid b2
  have HIX := Lib.hid (index_day l hl)
  have HFC := Lib.hid (show fcC (xs.map Bd.d) l = 0 from by unfold fcC; rw [ho, hd]; rfl)
  clear hb8 cl2 b2 ho hd hone hin hsz
  go_loopw [27] (fun i wr => ∃ (k : Nat) (m : List Int), k ≤ 24 ∧ i = .int .i64 k ∧ Hid (m.length = 24 ∧ m.take k = fcTo (xs.map Bd.d) l k) ∧ Hid (DayAt wr w3.heap.size m) ∧ Hid (DayAt wr w.heap.size noDay) ∧ Hid (wr.cell? ⟨w2.heap.size + 1, 0, none⟩ = some (.slice A n c)) ∧ Below w.heap.size w wr) (fun i _ => 24 - (intOf i).toNat)
  case atStart => exact ⟨0, noDay, by omega, rfl, Lib.hid ⟨rfl, by simp [fcTo]⟩, HZ, HR5, Lib.hid (by simpa using HX5.out.2), HX5.out.1⟩
  case round =>
    obtain ⟨k, m, hk, rfl, HM, HD, HRD, HCL, hb⟩ := hrel
    by_cases hlt : k < 24
    · have hix := HIX.out k hlt
      have ht := hti.out k hlt
      have HC := Lib.hid (lt1_any A n c xs (l.getD k 0) k (w2.heap.size + 1) wr (HX.out.go hb) HB2.out b1 ht.1 ht.2 (by omega) (by omega) HCL.out)
      have HS := Lib.hid (show fcTo (xs.map Bd.d) l (k + 1) = fcTo (xs.map Bd.d) l k ++ [sumI (xs.map Bd.d) (l.getD k 0) k] by unfold fcTo; rw [List.range_succ, List.map_append]; rfl)
      generalize sumI (xs.map Bd.d) (l.getD k 0) k = v at *
      generalize l.getD k 0 = t at *
      have hc0 : wr.cell? ⟨w3.heap.size, k, none⟩ = some (.int .i64 (m.getD k 0)) := by
        rw [cell_of_row wr _ k _ _ _ HD.out]
        simp [dayV, intsV, List.getD, show k < m.length by rw [HM.out.1]; exact hlt]
      go_wp2_with fail
      refine HC.out.mono ?_
      rintro e w4 ⟨rfl, hb4⟩
      have hD4 := HD.out.next hb4
      have hR4 := HRD.out.next hb4
      have hCL4 := (hb4.cell (p := ⟨w2.heap.size + 1, 0, none⟩) (World.block_lt_of_cell? _ _ HCL.out)).trans HCL.out
      have hc4 : w4.cell? ⟨w3.heap.size, k, none⟩ = some (.int .i64 (m.getD k 0)) := (hb4.cell (p := ⟨w3.heap.size, k, none⟩) (World.block_lt_of_cell? _ _ hc0)).trans hc0
      have hf4 : w4.frozen? ⟨w3.heap.size, k, none⟩ = false := frozen_of_row w4 _ k _ _ hD4
      have HD5 := Lib.hid (hD4.set k v)
      have HR6 := Lib.hid (show DayAt (w4.setCell ⟨w3.heap.size, k, none⟩ (.int .i64 v)) w.heap.size noDay from (heap_setCell_other w4 ⟨w3.heap.size, k, none⟩ w.heap.size (.int .i64 v) (by simp; omega)).trans hR4)
      have HCL5 := Lib.hid (show (w4.setCell ⟨w3.heap.size, k, none⟩ (.int .i64 v)).cell? ⟨w2.heap.size + 1, 0, none⟩ = some (.slice A n c) from (World.cell?_setCell_other _ _ _ _ (by simp; have : w2.heap.size + 1 < w3.heap.size := HSZ.out; omega)).trans hCL4)
      have hb5 := bnext hb hb4
      clear hD4 hR4 hCL4 hb4 hc0 hix
      go_wp2
      go_roundw
      case rel => exact ⟨k + 1, m.set k v, by omega, by go_num, Lib.hid ⟨by rw [List.length_set]; exact HM.out.1, by rw [take_set_succ m k v (by rw [HM.out.1]; exact hlt), HM.out.2, HS.out]⟩, HD5, HR6, HCL5, hb5.setCell (by show w.heap.size ≤ w3.heap.size; omega) _⟩
      case measure => simp [intOf]; omega
    · have e : k = 24 := by omega
      subst e
      have hm24 := HM.out.1
      have HMX := Lib.hid (show m = fcX (xs.map Bd.d) l by have := HM.out.2; rw [List.take_of_length_le (by omega)] at this; exact this)
      have hin := infoDay m hm24
      have hsz : (dayV m).size = 24 := by rw [dayV_size]; exact hm24
      have hone := dayV_one m
      go_wp2_with (first | (refine wpList_load_row rfl 64 _ rfl w3.heap.size rfl 64 (dayV m) (0, 0) _ HD.out Try.underlying64 rfl hin ?_) | (refine wpList_store_row rfl 64 _ _ rfl w.heap.size (dayV m) rfl rfl 64 (dayV noDay) HRD.out hin (by rw [hsz]; rfl) hone ?_))
      have hrr : DayAt (wr.setRow w.heap.size (dayV m)) w.heap.size m := setRow_heap wr _ _ _ _ _ HRD.out
      exact bodyPost_ret (results_day2 Try.results44 _ _ w.heap.size m hm24 rfl hrr.range) rfl ⟨m, hm24, fun _ => HMX.out, by rw [HFC.out]; rfl, below_setRow hb (Nat.le_refl _) _⟩

end Go.Proofs.Ythidaoemonjemab
