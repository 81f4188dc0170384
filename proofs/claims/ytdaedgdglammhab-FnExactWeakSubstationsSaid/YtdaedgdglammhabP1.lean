/-
  Pipes: absolute values, drops, what makes a pipe valid, and the codes of both sides.
-/
import Derived.Test.YtdaedgdglammhabW4
import Derived.Test.YtdaedgdglammhabB2
namespace Go.Proofs.Ytdaedgdglammhab
open Go.ChangeShapes Go.WideShapes Go.ChangeAt Go.RowKit


theorem l00Max_any (a b : Int) (w : World) : Calls Try.prog 85 #[.int .i64 a, .int .i64 b] w fun e w' => e = .returned (.int .i64 (max a b)) ∧ w = w' := by
  have H : Hid (b < a → max a b = a) := Lib.hid (by omega)
  have H2 : Hid (¬ b < a → max a b = b) := Lib.hid (by omega)
  generalize max a b = m at *
  by_cases h : b < a
  · have e := H.out h
    subst e
    go_enter Try.func85, Try.ntmps85
    go_wp2
    go_ret
    exact ⟨rfl, rfl⟩
  · have e := H2.out h
    subst e
    have h' : decide (m < a) = false := by simpa using h
    go_enter Try.func85, Try.ntmps85
    go_wp2
    go_ret
    exact ⟨rfl, rfl⟩

theorem l00Min_any (a b : Int) (w : World) : Calls Try.prog 97 #[.int .i64 a, .int .i64 b] w fun e w' => e = .returned (.int .i64 (min a b)) ∧ w = w' := by
  have H : Hid (a < b → min a b = a) := Lib.hid (by omega)
  have H2 : Hid (¬ a < b → min a b = b) := Lib.hid (by omega)
  generalize min a b = m at *
  by_cases h : a < b
  · have e := H.out h
    subst e
    go_enter Try.func97, Try.ntmps97
    go_wp2
    go_ret
    exact ⟨rfl, rfl⟩
  · have e := H2.out h
    subst e
    have h' : decide (a < m) = false := by simpa using h
    go_enter Try.func97, Try.ntmps97
    go_wp2
    go_ret
    exact ⟨rfl, rfl⟩

/-- a pipe in memory -/
def PipeAt (w : World) (b : Nat) (id : ByteArray) (f t L d s : Int) : Prop :=
  w.cell? ⟨b, 0, none⟩ = some (.string id) ∧ w.cell? ⟨b, 1, none⟩ = some (.int .i64 f) ∧ w.cell? ⟨b, 2, none⟩ = some (.int .i64 t) ∧ w.cell? ⟨b, 3, none⟩ = some (.int .i64 L) ∧ w.cell? ⟨b, 4, none⟩ = some (.int .i64 d) ∧ w.cell? ⟨b, 5, none⟩ = some (.int .i64 s)
theorem PipeAt.lies {w : World} {b : Nat} {id : ByteArray} {f t L d s : Int} (h : PipeAt w b id f t L d s) : b < w.heap.size := World.block_lt_of_cell? _ _ h.1
theorem PipeAt.next {w w' : World} {b : Nat} {id : ByteArray} {f t L d s : Int} (h : PipeAt w b id f t L d s) (hb : Below w.heap.size w w') : PipeAt w' b id f t L d s := by
  have l := h.lies
  exact ⟨(hb.cell (p := ⟨b, 0, none⟩) l).trans h.1, (hb.cell (p := ⟨b, 1, none⟩) l).trans h.2.1, (hb.cell (p := ⟨b, 2, none⟩) l).trans h.2.2.1, (hb.cell (p := ⟨b, 3, none⟩) l).trans h.2.2.2.1, (hb.cell (p := ⟨b, 4, none⟩) l).trans h.2.2.2.2.1, (hb.cell (p := ⟨b, 5, none⟩) l).trans h.2.2.2.2.2⟩
theorem PipeAt.new (w : World) (id : ByteArray) (f t L d s : Int) (T : TypeId) : PipeAt (w.alloc (.cells #[.string id, .int .i64 f, .int .i64 t, .int .i64 L, .int .i64 d, .int .i64 s] T)) w.heap.size id f t L d s := by
  unfold PipeAt
  simp
theorem PipeAt.alloc {w : World} {b : Nat} {id : ByteArray} {f t L d s : Int} (h : PipeAt w b id f t L d s) (o : Obj) : PipeAt (w.alloc o) b id f t L d s := h.next (bal (Below.refl _ _) o)
theorem PipeAt.draw {w : World} {b : Nat} {id : ByteArray} {f t L d s : Int} (h : PipeAt w b id f t L d s) (n : Nat) : PipeAt (w.drewN n) b id f t L d s := h

/-- what makes a pipe valid -/
def okP (id : ByteArray) (f t L d s : Int) : Bool := nameL id.data.toList && (inB f 0 15 && (inB t 0 15 && (!decide (f = t) && (inB L 1 10000 && (inB d 20 1000 && inB s 0 5000)))))

end Go.Proofs.Ytdaedgdglammhab
