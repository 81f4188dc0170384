import Derived.Test.YtgdafgnjaogmeaaMa5
import Derived.Test.YtgdafgnjaogmeaaSf
/-
  The places of numbers, that of the greatest first: the program.
-/
namespace Go.Proofs.Ytgdafgnjaogmeaa
open Go.ChangeShapes Go.WideShapes Go.ChangeAt Go.RowKit Go.Sort

set_option maxRecDepth 100000
set_option maxHeartbeats 1600000
set_option linter.unusedVariables false

def cntI (n : Nat) : List Int := (List.range n).map fun (i : Nat) => (i : Int)
theorem cntI_length (n : Nat) : (cntI n).length = n := by simp [cntI]
def finV {m : Nat} (x : Fin m) : Value := .int .i64 (x.val : Int)
theorem infoInt : (Try.prog.info? 3).map (fun i => (i.zero, i.size, i.bytes)) = some (some (.int .i64 0), 1, 8) := by kernel_rfl
theorem putRow_fin {m : Nat} (W : World) (g : Nat) (xs : List (Fin (m + 1))) : putRow finV W g 0 xs.toArray = putRow (Value.int .i64) W g 0 (xs.map fun x => (x.val : Int)).toArray := by
  unfold putRow putCells
  congr 1
  funext c
  congr 1
  funext k x
  simp only [List.size_toArray, List.length_map]
  split
  · rename_i h
    have hk : k < xs.length := by omega
    rw [getElem!_pos _ _ (by simpa using hk), getElem!_pos _ _ (by simpa using hk)]
    simp [finV]
  · rfl
theorem sortRank_any (base g vb b off m c : Nat) (l : List Int) (W : World) (hl : l.length = m + 1) (hn : m + 1 ≤ 1048576) (hv : One W vb (.slice (some ⟨b, off, none⟩) (m + 1) c)) (hc : ∀ j, j < m + 1 → W.cell? ⟨b, off + j, none⟩ = some (.int .i64 (l.getD j 0)))
    (hown : W.ownsRow base 3 1 (.slice (some ⟨g, 0, none⟩) (m + 1) (m + 1)) (m + 1) (intsV (cntI (m + 1)))) (hgv : vb ≠ g) (hgb : b ≠ g) :
    Calls Try.prog 162 #[.slice (some ⟨g, 0, none⟩) (m + 1) (m + 1), .func (.func 163) #[] #[.pointer (some ⟨vb, 0, none⟩)]] W fun e w' =>
      e = .returned (.tuple #[]) ∧ w'.ownsRow base 3 1 (.slice (some ⟨g, 0, none⟩) (m + 1) (m + 1)) (m + 1) (intsV (rankI l)) ∧ W.grownBy w' (some g) := by
  obtain ⟨g', cap', cur, hvv, hbase, hg, h1, h2, h3, htake⟩ : ∃ g' cap' cur, Value.slice (some ⟨g, 0, none⟩) (m + 1) (m + 1) = .slice (some ⟨g', 0, none⟩) (m + 1) cap' ∧ base ≤ g' ∧ W.heap[g']? = some (.cells cur 3 (0, 0)) ∧ m + 1 ≤ cap' ∧ cap' ≤ maxLen ∧ cur.size = cap' * 1 ∧ cur.toList.take ((m + 1) * 1) = intsV (cntI (m + 1)) := by
    rcases hown.2 with ⟨h0, _⟩ | h
    · cases h0
    · exact h
  cases hvv
  have hgl : g < W.heap.size := by
    rcases Nat.lt_or_ge g W.heap.size with h | h
    · exact h
    · rw [Array.getElem?_eq_none h] at hg; cases hg
  have hd : (List.finRange (m + 1)).toArray.size = m + 1 := by simp
  have eg : ∀ args w, (callFunc 163 args).run Try.prog w = .ok (.enter 163 args) w := enters_of Try.func163 (by kernel_rfl) rfl
  have hH0 := holds_of_blockI (ss := cntI (m + 1)) hg (by rw [cntI_length]; simpa [intsV] using htake)
  have hH : Holds finV W g 0 (List.finRange (m + 1)).toArray := fun j hj => by
    have hj' : j < m + 1 := by rw [hd] at hj; exact hj
    have h := hH0 j (by simpa [cntI_length] using hj')
    refine ⟨h.1.trans ?_, h.2⟩
    rw [getElem!_pos _ _ (by simpa [cntI_length] using hj'), getElem!_pos (List.finRange (m + 1)).toArray j hj]
    simp [finV, cntI]
  have hcmp : CmpLays1 Try.prog 163 #[.pointer (some ⟨vb, 0, none⟩)] finV (rkF l (m + 1)) g 0 (List.finRange (m + 1)).toArray.size W := fun mm os dk hs x y => by
    have hcl : ∀ a : Addr, a.block ≠ g → ∀ v, W.cell? a = some v → (sortWorld finV W g 0 mm dk os).cell? a = some v := fun a ha v hav => by
      unfold sortWorld
      rw [cell?_grow _ os _ (by
        have := World.block_lt_of_cell? _ _ hav
        rw [size_putRow]; exact this), cell?_putRow_other _ _ _ _ _ _ (.inl ha)]
      exact hav
    have hfz : (sortWorld finV W g 0 mm dk os).frozen? ⟨vb, 0, none⟩ = false := by
      unfold sortWorld
      rw [frozen?_grow _ os _ (by
        have := hv.lies
        rw [size_putRow]; exact this), frozen?_putRow]
      exact hv.2
    exact rank1_any vb b off (m + 1) c l x.val y.val _ hl x.isLt y.isLt hn ⟨hcl _ hgv _ hv.1, hfz⟩ (fun j hj => hcl _ hgb _ (hc j hj))
  have hS := Any.slices_SortFunc_total Try.sortL finV (fun _ => rfl) (rkF l (m + 1)) (rkF_swo l (m + 1)) 163 #[.pointer (some ⟨vb, 0, none⟩)] g 0 (m + 1) (List.finRange (m + 1)).toArray W eg hcmp hH hgl (by rw [hd]; omega) (rkF_total l (m + 1))
  change Calls Try.prog 162 _ _ _ at hS
  rw [hd] at hS
  refine hS.mono ?_
  rintro e w' ⟨rfl, n, os, rfl⟩
  have e1 : ((List.finRange (m + 1)).toArray.toList.mergeSort fun x y => !(Go.Proofs.ltOf (rkF l (m + 1)) y x)) = rankF l m := rfl
  rw [e1]
  unfold sortWorld
  rw [putRow_fin, ← rankI_of l m hl]
  have hrl : (rankI l).length = m + 1 := by rw [rankI_length, hl]
  refine ⟨rfl, ?_, grownBy_sortedI _⟩
  have h := ownsRow_sortedI (w := W) (base := base) (g := g) (cap := m + 1) (n := n) (e := 3) (os := os) (cur := cur) (ss := cntI (m + 1)) (ts := rankI l) (by rw [hrl, cntI_length]) hbase hg (by rw [cntI_length]; exact h1) h2 h3
  rw [cntI_length] at h
  exact h
def RetG (n : Nat) (l : List Int) (w : World) (e : Ending) (w' : World) : Prop :=
  e = .returned (.slice (some ⟨w.heap.size + 1, 0, none⟩) n n) ∧ w'.ownsRow w.heap.size 3 1 (.slice (some ⟨w.heap.size + 1, 0, none⟩) n n) n (intsV (rankI l)) ∧ Below w.heap.size w w'
theorem greatestFirst_at (A : Option Addr) (n c : Nat) (l : List Int) (w : World) (hl : l.length = n) (hn : n ≤ 1048576) (hA : CellsAt w A (intsV l)) :
    Calls Try.prog 131 #[.slice A n c] w (RetG n l w) := by
  have hM : n ≤ maxLen := by unfold maxLen; omega
  obtain ⟨i0, hi, hz0, hz1, hz2⟩ := info_parts infoInt
  have HV := Lib.hid (One.new w (.slice A n c) 32)
  have hba : Below w.heap.size w (w.alloc (.cells #[.slice A n c] 32)) := bal (Below.refl _ _) _
  have HA := Lib.hid (hA.next hba)
  have HAL := Lib.hid (fun (h0 : 0 < n) => show ∃ b off, A = some ⟨b, off, none⟩ ∧ b < w.heap.size from by
    obtain ⟨b, off, rfl, hc⟩ := hA (by rw [intsV_length, hl]; exact h0)
    exact ⟨b, off, rfl, hA.lies (by rw [intsV_length, hl]; exact h0)⟩)
  have HBA := Lib.hid hba
  have HL := Lib.hid hl
  clear hA hl hba
  have ⟨v0, v1⟩ := HV.out
  go_enter Try.func131, Try.ntmps131
  go_wp2_with (refine wpList_make_full _ rfl _ _ _ rfl w.heap.size 3 i0 (.int .i64 0) 1 Try.underlying138 hi hz0 hz1 _ _ _ _ n rfl rfl rfl rfl (by rw [hz2]; omega) hM (by simp) ?_; intro w1 hown hgrow)
  have hb1 := Below.grown (Below.refl (w.heap.size + 1) (w.alloc (.cells #[.slice A n c] 32))) hgrow (by simp) (fun k hk => by cases hk)
  have hl1 := owns_len hown
  generalize (madeCells (Value.int IntKind.i64 0).cells (n * 1)).toList = xs at *
  have HX := Lib.hid hl1
  clear hl1 v0 v1
  have e0 : (w.alloc (.cells #[.slice A n c] 32)).heap.size = w.heap.size + 1 := by simp
  rw [e0] at hown
  have HE0 := Lib.hid e0
  clear e0
  go_loopw [10] (fun i wr => ∃ j : Nat, j ≤ n ∧ i = .int .i64 j ∧ wr.ownsRow w.heap.size 3 1 (.slice (some ⟨w.heap.size + 1, 0, none⟩) n n) n (fillV (fun (j : Nat) => .int .i64 (j : Int)) j xs) ∧ Below (w.heap.size + 1) (w.alloc (.cells #[.slice A n c] 32)) wr) (fun i _ => n - (intOf i).toNat)
  case atStart => exact ⟨0, Nat.zero_le _, rfl, hown, hb1⟩
  case round =>
    obtain ⟨j, hj, rfl, hro, hb⟩ := hrel
    by_cases hlt : j < n
    · have hc1 := hro.cellAt j (by omega)
      have hf1 := hro.frozenAt j
      rw [fillV_get, List.getElem?_eq_getElem (by rw [HX.out]; exact hlt)] at hc1
      have hst := hro.stored j (.int .i64 j)
      have hfs := fillV_set (fun (j : Nat) => Value.int .i64 (j : Int)) xs j (by rw [HX.out]; exact hlt)
      rw [hfs] at hst
      have Hst := Lib.hid hst
      clear hst hfs
      go_wp2
      go_roundw
      case rel => exact ⟨j + 1, by omega, by go_num, Hst.out.1, hb.setCell (Nat.le_refl _) _⟩
      case measure => simp [intOf]; omega
    · have e : j = n := by omega
      subst e
      have hfa := fillV_all (fun (j : Nat) => Value.int .i64 (j : Int)) j xs HX.out
      have hru : (List.range j).map (fun (k : Nat) => Value.int .i64 (k : Int)) = intsV (cntI j) := by unfold intsV cntI; rw [List.map_map]; rfl
      rw [hfa, hru] at hro
      clear hfa hru
      have HB := Lib.hid (show Below w.heap.size w wr from bnext HBA.out (by rw [HE0.out]; exact hb))
      have HG := Lib.hid (show ∀ w', wr.grownBy w' (some (w.heap.size + 1)) → Below w.heap.size w w' from fun w' g => Below.grown HB.out g (by have := HB.out.size; omega) (fun k hk => by cases hk; omega))
      rcases Nat.eq_zero_or_pos j with h0 | h0
      · subst h0
        have hS := fun W => AnyF.slices_SortFunc_none (P := Try.prog) (ρ := Try.sortL_ren) { Try.sortL with } (some ⟨w.heap.size + 1, 0, none⟩) 0 (.func (.func 163) #[] #[.pointer (some ⟨w.heap.size, 0, none⟩)]) W
        have HS : Hid (∀ W, Calls Try.prog 162 #[.slice (some ⟨w.heap.size + 1, 0, none⟩) 0 0, .func (.func 163) #[] #[.pointer (some ⟨w.heap.size, 0, none⟩)]] W fun e w' => e = .returned (.tuple #[]) ∧ w' = W) := Lib.hid hS
        have he : l = [] := List.length_eq_zero_iff.1 HL.out
        have HR := Lib.hid (show intsV (cntI 0) = intsV (rankI l) by subst he; rfl)
        have HRO := Lib.hid hro
        clear hS he hro hb
        go_wp2_with (go_at_call 162; refine (HS.out _).mono ?_; rintro e w' ⟨rfl, rfl⟩)
        go_ret
        exact ⟨rfl, by rw [← HR.out]; exact HRO.out, HB.out⟩
      · obtain ⟨b, off, rfl, hbl⟩ := HAL.out h0
        obtain ⟨m, rfl⟩ : ∃ m, j = m + 1 := ⟨j - 1, by omega⟩
        have hcells := HA.out.next (show Below (w.alloc (.cells #[.slice (some ⟨b, off, none⟩) (m + 1) c] 32)).heap.size _ wr by rw [HE0.out]; exact hb)
        have hone := HV.out.next (show Below (w.alloc (.cells #[.slice (some ⟨b, off, none⟩) (m + 1) c] 32)).heap.size _ wr by rw [HE0.out]; exact hb)
        obtain ⟨b', off', he, hc⟩ := hcells (by rw [intsV_length, HL.out]; omega)
        cases he
        have hc2 : ∀ j, j < m + 1 → wr.cell? ⟨b, off + j, none⟩ = some (.int .i64 (l.getD j 0)) := fun j hj => by
          rw [hc j (by rw [intsV_length, HL.out]; omega), intsV_at _ _ (by rw [HL.out]; omega)]
          simp [List.getD, show j < l.length by rw [HL.out]; omega]
        have HS := Lib.hid (sortRank_any w.heap.size (w.heap.size + 1) w.heap.size b off m c l wr HL.out hn hone hc2 hro (by omega) (by omega))
        clear hro hb hcells hone hc hc2
        go_wp2_with (go_at_call 162; refine HS.out.mono ?_; rintro e w' ⟨rfl, hown2, hgr2⟩)
        have HF := Lib.hid (And.intro hown2 (HG.out _ hgr2))
        clear hown2 hgr2
        go_ret
        exact ⟨rfl, HF.out.1, HF.out.2⟩
theorem greatestFirst_any (A : Option Addr) (n c : Nat) (l : List Int) (w : World) (hl : l.length = n) (hn : n ≤ 1048576) (hA : CellsAt w A (intsV l)) :
    Calls Try.prog 131 #[.slice A n c] w (RetRow 3 (intsV (rankI l)) w) :=
  (greatestFirst_at A n c l w hl hn hA).mono fun e w' ⟨he, ho, hb⟩ => retRow_mk he ho rfl hb

end Go.Proofs.Ytgdafgnjaogmeaa
