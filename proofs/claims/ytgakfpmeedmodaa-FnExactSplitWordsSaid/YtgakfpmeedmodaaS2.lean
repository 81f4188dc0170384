/-
  SplitWords of the program and of the model: the parts between blanks.
-/
import Derived.Test.YtgakfpmeedmodaaS1
import Derived.Test.YtgakfpmeedmodaaShelf
import Derived.Lib.FieldsP
namespace Go.Proofs.Ytgakfpmeedmodaa
open Go.ChangeShapes Go.WideShapes Go.ChangeAt Go.RowKit

def neEmpty (p : List UInt8) : Bool := !p.isEmpty
def wordsL (l : List UInt8) : List (List UInt8) := (splitGo 32 [] l).filter neEmpty
theorem mkB_isEmpty (p : List UInt8) : (mkB p).toList.isEmpty = p.isEmpty := by rw [ByteArray.toList_eq]; rfl
theorem filter_take_succ (l : List (List UInt8)) (k : Nat) (h : k < l.length) : (l.take (k + 1)).filter neEmpty = (l.take k).filter neEmpty ++ (if neEmpty l[k] then [l[k]] else []) := by
  rw [List.take_succ_eq_append_getElem h, List.filter_append]
  congr 1
  by_cases c : neEmpty l[k] = true <;> simp [c]
theorem strsV_length (l : List (List UInt8)) : (strsV l).length = l.length := by simp [strsV]
theorem strsV_at (l : List (List UInt8)) (k : Nat) (h : k < l.length) : (strsV l)[k]? = some (Value.string (mkB l[k])) := by simp [strsV, h]

set_option maxHeartbeats 800000 in
theorem specSplitWords_any (s : ByteArray) (w : World) (hs : s.size ≤ 4294967296) :
    Calls Try.prog 14 #[.string s] w (RetRow 9 (strsV (wordsL s.data.toList)) w) := by
  obtain ⟨i0, hi, hz0, hz1, hz2⟩ := info_parts infoStr
  have hcall := l01Split_any s 32 w hs
  have Hcall := Lib.hid hcall
  clear hcall
  have hlen := splitGo_length 32 s.data.toList []
  rw [size_list] at hlen
  have Hw : Hid (wordsL s.data.toList = (splitGo 32 [] s.data.toList).filter neEmpty) := Lib.hid rfl
  generalize splitGo 32 [] s.data.toList = L at *
  go_enter Try.func14, Try.ntmps14
  go_wp2_with (go_at_call 33; refine Hcall.out.mono ?_; rintro e w1 ⟨A, c, rfl, hrow, hb1⟩)
  have hl := strsV_length L
  rw [hl] at hrow
  have hcells := owns_cells hrow
  have hlies := owns_lies hrow
  have hmax := owns_max hrow
  unfold maxLen at hmax
  rw [hl]
  clear hl hrow
  go_wp2
  go_loopw [4, 5] (fun v i wr => ∃ (k n : Nat) (B : Option Addr) (d : Nat), k ≤ L.length ∧ n ≤ k ∧ i = .int .i64 k ∧ v = .slice B n d ∧
      wr.ownsRow w1.heap.size 9 1 (.slice B n d) n (strsV ((L.take k).filter neEmpty)) ∧ Below w1.heap.size w1 wr) (fun _ i _ => L.length - (intOf i).toNat)
  case atStart => exact ⟨0, 0, _, _, Nat.zero_le _, Nat.le_refl _, rfl, rfl, owns_empty w1 w1.heap.size 9 (Nat.le_refl _), (Below.refl _ _).alloc (Nat.le_refl _) _⟩
  case round =>
    obtain ⟨k, n, B, d, hk, hnk, rfl, rfl, hro, hbl⟩ := hrel
    by_cases hlt : k < L.length
    · obtain ⟨b, o, rfl, hc⟩ := hcells (by rw [strsV_length]; omega)
      have g1 : wr.cell? ⟨b, o + k, none⟩ = some (.string (mkB L[k])) := by
        rw [hbl.cell (p := ⟨b, o + k, none⟩) (hlies b o rfl), hc k (by rw [strsV_length]; exact hlt), strsV_at _ _ hlt]
      have hft := filter_take_succ L k hlt
      have hem := mkB_isEmpty L[k]
      by_cases hne : L[k].isEmpty = true
      · rw [hne] at hem
        have hn2 : neEmpty L[k] = false := by unfold neEmpty; rw [hne]; rfl
        rw [hn2] at hft
        simp only [Bool.false_eq_true, if_false, List.append_nil] at hft
        have Hft := Lib.hid hft
        generalize mkB L[k] = q at *
        clear hft hn2 hne hc
        go_wp2
        go_roundw
        case rel => exact ⟨k + 1, n, _, _, by omega, by omega, by go_num, rfl, by rw [Hft.out]; exact hro, hbl⟩
        case measure => simp [intOf]; omega
      · have hne' : L[k].isEmpty = false := by simpa using hne
        rw [hne'] at hem
        have hn2 : neEmpty L[k] = true := by unfold neEmpty; rw [hne']; rfl
        rw [hn2] at hft
        simp only [if_true] at hft
        have Hft := Lib.hid hft
        have hq : Hid (strsV ((L.take k).filter neEmpty) ++ [Value.string (mkB L[k])] = strsV ((L.take (k + 1)).filter neEmpty)) := Lib.hid (by rw [Hft.out, strsV_snoc])
        generalize mkB L[k] = q at *
        clear hft hn2 hne hne' hc
        have g2 : ∀ O : Obj, (wr.alloc O).cell? ⟨b, o + k, none⟩ = some (.string q) := fun O => by
          rw [World.cell?_alloc_past _ _ _ (Nat.lt_of_lt_of_le (hlies b o rfl) hbl.size)]; exact g1
        go_wp2_with (at_builtin; refine wpList_append_own _ rfl (.tmp 20) (.tmp 25) 25 rfl w1.heap.size 9 i0 (.string ⟨#[]⟩) 1 16 Try.underlying25 hi hz0 hz1 hz2 rfl (by decide) _ _ _ rfl (hro.alloc _) ⟨wr.heap.size, 0, none⟩ 1 1 [.string q] rfl rfl (cell_one_new _ _ _) (by simp [Value.oneCell']) ?_ ?_ ?_ ?_; (unfold maxLen; omega); (omega); (have := hbl.size; simp; omega); intro v1 w2 hown1 hgrow1 _; obtain ⟨A1, c1, rfl⟩ := owns_form hown1)
        go_roundw
        case rel =>
          rw [hq.out] at hown1
          exact ⟨k + 1, n + 1, A1, c1, by omega, by omega, by go_num, rfl, hown1, (hbl.alloc hbl.size _).grown hgrow1 (by have := hbl.size; simp; omega) (owns_ge hro)⟩
        case measure => simp [intOf]; omega
    · have e : k = L.length := by omega
      subst e
      rw [List.take_of_length_le (Nat.le_refl _), ← Hw.out] at hro
      go_wp2
      go_ret
      exact retRow_mk rfl (owns_base hro hb1.size) rfl (bnext hb1 hbl)
end Go.Proofs.Ytgakfpmeedmodaa
