/-
  A list of numbers as text, of the program and of the model.
-/
import Derived.Test.YtkbkmpcdidhagacDoorM2
import Derived.Test.YtkbkmpcdidhagacDoorS1
import Derived.Test.YtkbkmpcdidhagacDoorD1
import Derived.Test.YtkbkmpcdidhagacDoorD2
import Derived.Test.YtkbkmpcdidhagacDoorB6
import Derived.Lib.ItoaLen
namespace Go.Proofs.YtkbkmpcdidhagacDoor
open Go.ChangeShapes Go.WideShapes Go.ChangeAt Go.RowKit

def inV (z : Int) : Bool := inB z (-1000000000000) 1000000000000
def fitsL (zs : List Int) : Bool := zs.all inV && decide (zs.length ≤ 64)
/-- the numbers' decimals with commas between -/
def commaL (zs : List Int) : List UInt8 := Lib.join (zs.map Lib.itoa) [44]
def listL (zs : List Int) : List UInt8 := if fitsL zs then (if zs.length = 0 then [45] else commaL zs) else []
theorem allIn_inV (zs : List Int) : allIn (-1000000000000) 1000000000000 zs = zs.all inV := by
  induction zs with
  | nil => rfl
  | cons z r ih => rw [allIn_cons _ _ _ _ (by omega), ih]; rfl
theorem commaL_one (z : Int) : commaL [z] = Lib.itoa z := Lib.join_one _ _
theorem commaL_snoc (zs : List Int) (z : Int) (h : 0 < zs.length) : commaL (zs ++ [z]) = commaL zs ++ [44] ++ Lib.itoa z := by
  cases zs with
  | nil => simp at h
  | cons a r =>
    unfold commaL
    rw [List.cons_append, List.map_cons, List.map_cons, Lib.join_cons, Lib.join_cons, List.map_append]
    simp [Lib.joinTail]
theorem mkB_append (a b : List UInt8) : mkB (a ++ b) = mkB a ++ mkB b := by
  apply ByteArray.ext
  simp [mkB]
theorem mkB_size (l : List UInt8) : (mkB l).size = l.length := rfl
theorem itoa_bd (z : Int) (h : inV z = true) : (Lib.itoa z).length ≤ 21 := by
  have := inB_iff.1 h
  exact Lib.itoa_length_le z (by omega) (by omega)
theorem commaL_bd (zs : List Int) (h : zs.all inV = true) : (commaL zs).length ≤ 22 * zs.length := by
  cases zs with
  | nil => exact Nat.zero_le _
  | cons a r =>
    unfold commaL
    rw [List.map_cons, Lib.join_cons, List.length_append, Lib.joinTail_length, List.length_map]
    rw [List.all_cons, Bool.and_eq_true] at h
    have h1 := itoa_bd a h.1
    have h2 : ∀ l : List Int, l.all inV = true → Lib.lens (l.map Lib.itoa) ≤ 21 * l.length := by
      intro l
      induction l with
      | nil => intro _; exact Nat.zero_le _
      | cons b s ih =>
        intro hb
        rw [List.all_cons, Bool.and_eq_true] at hb
        have := ih hb.2
        have := itoa_bd b hb.1
        simp only [Lib.lens, List.map_cons, List.sum_cons, List.length_cons] at *
        omega
    have := h2 r h.2
    simp only [List.length_cons, List.length_nil]
    omega

theorem fitsL_true {zs : List Int} (h : fitsL zs = true) : zs.all inV = true ∧ zs.length ≤ 64 := by
  unfold fitsL at h
  rw [Bool.and_eq_true, decide_eq_true_eq] at h
  exact h
theorem listL_bad {zs : List Int} (h : fitsL zs = false) : mkB (listL zs) = ⟨#[]⟩ := by unfold listL; rw [h]; rfl
theorem join_any (g n c : Nat) (xs : List ByteArray) (w : World) (hx : xs.length = n) (h0 : 0 < n) (hc : CellsAt w (some ⟨g, 0, none⟩) (xs.map Value.string)) (hcap : n ≤ c) (hN : n ≤ 140737488355328)
    (hlen : (Lib.join (xs.map (·.data.toList)) [44]).length ≤ 140737488355328) :
    Calls Tryd.prog 38 #[.slice (some ⟨g, 0, none⟩) n c, .string ⟨#[44]⟩] w fun e w' => e = .returned (.string (mkB (Lib.join (xs.map (·.data.toList)) [44]))) ∧ Below w.heap.size w w' := by
  subst hx
  have hl := CellsAt.lies hc (by rw [List.length_map]; exact h0)
  obtain ⟨b, o, e, h1⟩ := hc (by rw [List.length_map]; exact h0)
  injection e with e
  injection e with e1 e2
  subst e1; subst e2
  exact Tryd.strings_Join g 0 c xs ⟨#[44]⟩ w (fun j x hj => by
    have hjl := (List.getElem?_eq_some_iff.1 hj).1
    rw [h1 j (by rw [List.length_map]; exact hjl)]
    simp [hj]) hl hN hcap hlen
/-- the decimals as cells -/
def decV (zs : List Int) : List Value := (zs.map fun z => mkB (Lib.itoa z)).map Value.string
end Go.Proofs.YtkbkmpcdidhagacDoor
