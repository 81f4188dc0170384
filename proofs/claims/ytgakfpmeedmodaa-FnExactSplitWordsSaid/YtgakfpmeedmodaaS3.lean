/-
  strings.FieldsFunc at blanks gives the parts between the bytes 32: no blank hides in a rune of several bytes.
-/
import Derived.Test.YtgakfpmeedmodaaS2
import Derived.Lib.TrimU
import Derived.Lib.FieldsU
namespace Go.Proofs.Ytgakfpmeedmodaa
open Go.ChangeShapes Go.WideShapes Go.ChangeAt Go.RowKit

def isBl (r : Nat) : Bool := r == 32

theorem decodeN_blank (n b1 b2 b3 : Nat) : Lib.decodeN n 32 b1 b2 b3 = (32, 1) := by
  unfold Lib.decodeN; rw [if_pos (by omega)]
theorem decodeN_other (n b0 b1 b2 b3 : Nat) (h : b0 ≠ 32) : (Lib.decodeN n b0 b1 b2 b3).1 ≠ 32 ∧ (Lib.decodeN n b0 b1 b2 b3).2 ≤ 4 ∧ (2 ≤ (Lib.decodeN n b0 b1 b2 b3).2 → b1 ≠ 32) ∧ (3 ≤ (Lib.decodeN n b0 b1 b2 b3).2 → b2 ≠ 32) ∧ (4 ≤ (Lib.decodeN n b0 b1 b2 b3).2 → b3 ≠ 32) := by
  unfold Lib.decodeN
  repeat' split
  all_goals (simp only; omega)

theorem splitGo_skip (b : UInt8) : ∀ (k : Nat) (l cur : List UInt8), k ≤ l.length → (∀ j, j < k → l[j]? ≠ some b) → splitGo b cur l = splitGo b (cur ++ l.take k) (l.drop k) := by
  intro k
  induction k with
  | zero => intro l cur _ _; simp
  | succ k ih =>
    intro l cur hk hne
    match l, hk with
    | c :: r, hk =>
      have hc : c ≠ b := by
        have := hne 0 (by omega)
        simpa using this
      rw [splitGo, if_neg hc, ih r (cur ++ [c]) (by simpa using hk) (fun j hj => by
        have := hne (j + 1) (by omega)
        simpa using this)]
      simp

def pieceOf (s : ByteArray) (x : Nat × Nat) : List UInt8 := Lib.pieceU s.data.toList x.1 x.2

theorem getD_list (s : ByteArray) (k : Nat) (h : k < s.size) : s.get! k = s.data.toList[k]'(by rw [size_list]; exact h) := by
  have : s.get! k = s.data.toList.getD k default := by
    simp [ByteArray.get!, getElem!_def]
    rfl
  rw [this, List.getD, List.getElem?_eq_getElem (by rw [size_list]; exact h)]
  rfl

theorem neEmpty_iff (p : List UInt8) (h : p ≠ []) : neEmpty p = true := by
  unfold neEmpty; cases p <;> simp_all
theorem pieceU_ne' (s : ByteArray) (a pos : Nat) (h : a < pos) (hp : pos ≤ s.size) : neEmpty (Lib.pieceU s.data.toList a pos) = true :=
  neEmpty_iff _ (Lib.pieceU_ne _ _ _ h (by rw [size_list]; exact hp))

theorem spans_end (s : ByteArray) (pos : Nat) (st : Option Nat) (acc : List (Nat × Nat)) (hp : pos = s.size) (hst : ∀ a, st = some a → a < pos) :
    (Lib.closeSpans s (acc, st)).map (pieceOf s) = acc.map (pieceOf s) ++ (splitGo 32 (Lib.openPiece s.data.toList st pos) (s.data.toList.drop pos)).filter neEmpty := by
  subst hp
  rw [List.drop_of_length_le (by rw [size_list]; exact Nat.le_refl _), splitGo]
  cases st with
  | none => simp [Lib.closeSpans, Lib.openPiece, neEmpty]
  | some a =>
    have hne := pieceU_ne' s a s.size (hst a rfl) (Nat.le_refl _)
    simp [Lib.closeSpans, Lib.openPiece, pieceOf, hne]

theorem decode_facts (s : ByteArray) (pos : Nat) (h : pos < s.size) :
    (s.data.toList[pos]'(by rw [size_list]; exact h) = 32 → Utf8.decode s pos = (32, 1)) ∧
    (s.data.toList[pos]'(by rw [size_list]; exact h) ≠ 32 → isBl (Utf8.decode s pos).1 = false ∧ 1 ≤ (Utf8.decode s pos).2 ∧ pos + (Utf8.decode s pos).2 ≤ s.size ∧
      ∀ j, j < (Utf8.decode s pos).2 → (s.data.toList.drop pos)[j]? ≠ some 32) := by
  have hg := getD_list s pos h
  have hd := Lib.decode_at s pos
  have hw1 := Lib.width_pos s pos
  have hle : (Utf8.decode s pos).2 ≤ s.size - pos := by rw [hd]; exact Lib.decodeN_le_n' _ _ _ _ _ (by omega)
  refine ⟨fun e => ?_, fun e => ?_⟩
  · rw [hd, hg, e]; exact decodeN_blank _ _ _ _
  · have hne : (s.get! pos).toNat ≠ 32 := by
      rw [hg]; intro h2; exact e (UInt8.toNat_inj.1 h2)
    obtain ⟨h1, h2, h3, h4, h5⟩ := decodeN_other (s.size - pos) (s.get! pos).toNat (s.get! (pos + 1)).toNat (s.get! (pos + 2)).toNat (s.get! (pos + 3)).toNat hne
    rw [← hd] at h1 h2 h3 h4 h5
    refine ⟨by unfold isBl; simpa using h1, hw1, by omega, fun j hj => ?_⟩
    rw [List.getElem?_drop]
    have hlt : pos + j < s.size := by omega
    rw [List.getElem?_eq_getElem (by rw [size_list]; exact hlt)]
    have hgj := getD_list s (pos + j) hlt
    intro h6
    have h7 : s.get! (pos + j) = 32 := by rw [hgj]; exact Option.some.inj h6
    have h8 : (s.get! (pos + j)).toNat = 32 := by rw [h7]; rfl
    have hj4 : j = 0 ∨ j = 1 ∨ j = 2 ∨ j = 3 := by omega
    rcases hj4 with rfl | rfl | rfl | rfl
    · exact hne h8
    · exact h3 (by omega) h8
    · exact h4 (by omega) h8
    · exact h5 (by omega) h8

theorem spans_split (s : ByteArray) : ∀ (f pos : Nat) (st : Option Nat) (acc : List (Nat × Nat)), s.size ≤ pos + f → pos ≤ s.size → (∀ a, st = some a → a < pos) →
    (Lib.closeSpans s (Lib.spansFromP isBl s f pos st acc)).map (pieceOf s) = acc.map (pieceOf s) ++ (splitGo 32 (Lib.openPiece s.data.toList st pos) (s.data.toList.drop pos)).filter neEmpty := by
  intro f
  induction f with
  | zero =>
    intro pos st acc hf hp hst
    exact spans_end s pos st acc (by omega) hst
  | succ f ih =>
    intro pos st acc hf hp hst
    by_cases hlt : pos < s.size
    · have hll : pos < s.data.toList.length := by rw [size_list]; exact hlt
      obtain ⟨hb, ho⟩ := decode_facts s pos hlt
      unfold Lib.spansFromP
      rw [if_pos hlt]
      by_cases hc : s.data.toList[pos] = 32
      · have hde := hb hc
        rw [hde]
        have hbl : isBl 32 = true := rfl
        simp only [hbl, if_true]
        have hsp := splitGo_at 32 (Lib.openPiece s.data.toList st pos) s.data.toList pos hll
        rw [if_pos hc] at hsp
        rw [hsp, List.filter_cons]
        cases st with
        | none =>
          have := ih (pos + 1) none acc (by omega) (by omega) (fun a h => by cases h)
          simp only
          rw [this]
          simp [Lib.openPiece, neEmpty]
        | some a =>
          have hne := pieceU_ne' s a pos (hst a rfl) hp
          have := ih (pos + 1) none (acc ++ [(a, pos)]) (by omega) (by omega) (fun a h => by cases h)
          simp only
          rw [this]
          simp [Lib.openPiece, hne, pieceOf]
      · obtain ⟨h1, h2, h3, h4⟩ := ho hc
        simp only [h1, Bool.false_eq_true, if_false]
        generalize (Utf8.decode s pos).2 = k at *
        have hsk := splitGo_skip 32 k (s.data.toList.drop pos) (Lib.openPiece s.data.toList st pos) (by rw [List.length_drop, size_list]; omega) h4
        rw [hsk, List.drop_drop]
        cases st with
        | none =>
          have := ih (pos + k) (some pos) acc (by omega) h3 (fun a h => by cases h; omega)
          simp only
          rw [this]
          have e : Lib.openPiece s.data.toList (some pos) (pos + k) = Lib.openPiece s.data.toList none pos ++ (s.data.toList.drop pos).take k := by
            simp only [Lib.openPiece, Lib.pieceU, List.nil_append]; congr 1; omega
          rw [e]
        | some a =>
          have hap := hst a rfl
          have := ih (pos + k) (some a) acc (by omega) h3 (fun b h => by cases h; omega)
          simp only
          rw [this]
          have e : Lib.openPiece s.data.toList (some a) (pos + k) = Lib.openPiece s.data.toList (some a) pos ++ (s.data.toList.drop pos).take k := by
            simp only [Lib.openPiece]
            rw [Lib.pieceU_grow _ _ _ _ (by omega)]
          rw [e]
    · unfold Lib.spansFromP
      rw [if_neg hlt]
      exact spans_end s pos st acc (by omega) hst

/-- what FieldsFunc gives at the blank: the parts between blanks -/
theorem fields_words (s : ByteArray) : (Lib.goFieldsP isBl s).map Value.string = strsV (wordsL s.data.toList) := by
  have h := spans_split s s.size 0 none [] (by omega) (by omega) (fun a h => by cases h)
  have e : Lib.openPiece s.data.toList none 0 = [] := rfl
  rw [e, List.drop_zero, List.map_nil, List.nil_append] at h
  unfold wordsL strsV
  rw [← h]
  unfold Lib.goFieldsP Lib.spansOfP
  rw [List.map_map, List.map_map]
  refine List.map_congr_left fun x _ => ?_
  simp only [Function.comp, pieceOf]
  rw [extract_mkB]
  rfl

theorem words_length (s : ByteArray) : (Lib.goFieldsP isBl s).length = (strsV (wordsL s.data.toList)).length := by
  rw [← fields_words, List.length_map]

theorem blank_any (x : Nat) (w : World) :
    Calls Try.prog 35 #[.int .i32 x] w fun e w' => e = .returned (.bool (isBl x)) ∧ Below w.heap.size w w' := by
  have H : Hid (isBl x = ((x : Int) == 32)) := Lib.hid (by unfold isBl; rw [Bool.eq_iff_iff]; simp; omega)
  go_enter Try.func35, Try.ntmps35
  go_wp2
  go_ret
  exact ⟨by rw [H.out]; rfl, Below.refl _ _⟩

theorem implSplitWords_any (s : ByteArray) (w : World) (hs : s.size ≤ 4294967296) :
    Calls Try.prog 15 #[.string s] w (RetRow 9 (strsV (wordsL s.data.toList)) w) := by
  have hcall := Try.strings_FieldsFunc_grows 35 #[] (enters_of Try.func35 (by kernel_rfl) rfl) isBl s w hs (fun W x _ _ => blank_any x W)
  have hL := words_length s
  have hF := fields_words s
  rw [hF, hL] at hcall
  have Hcall := Lib.hid hcall
  clear hcall hL hF
  go_enter Try.func15, Try.ntmps15
  go_wp2_with (go_at_call 34; refine Hcall.out.mono ?_; rintro e w1 ⟨A, rfl, hA, hown, hb⟩)
  go_ret
  exact retRow_mk rfl hown rfl hb
end Go.Proofs.Ytgakfpmeedmodaa
