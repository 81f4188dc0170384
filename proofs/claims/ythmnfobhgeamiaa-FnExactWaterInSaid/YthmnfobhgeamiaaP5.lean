/-
  A pipe as an argument of a law: opened to its fields, its size, its copy for the program.
-/
import Derived.Test.YthmnfobhgeamiaaP2
import Derived.Lib.SmallJoins
import Derived.ShutString
import Derived.Carry
namespace Go.Proofs.Ythmnfobhgeamiaa
open Go.ChangeShapes Go.WideShapes Go.ChangeAt Go.RowKit Go.Shelf
set_option linter.unusedSimpArgs false
set_option maxRecDepth 100000


theorem open_pipe {H : Type} {enc : TypeId × Value → H} {W : World} {base : Nat} {spare : Nat → Bool} {held : Bool} {r : Reach} {b0 : Nat} {v : Value} {dd : DataW H} {pl : List MemPlace}
    (hv : Value.okWide Try.prog W r b0 30 v) (h : DataW.Trod enc Try.prog W base spare held 30 v dd pl) :
    ∃ (id : ByteArray) (f t L d s : Int), v = .agg #[.string id, .int .i64 f, .int .i64 t, .int .i64 L, .int .i64 d, .int .i64 s] ∧ pl = [] ∧ id.size ≤ maxLen := by
  obtain ⟨cs, rfl, hsz⟩ := okWide_struct Try.underlying30 hv
  have hC : Try.prog.cellsOf 30 = 6 := by kernel_rfl
  obtain ⟨l⟩ := cs
  match l, hsz.trans hC with
  | [c0, c1, c2, c3, c4, c5], _ =>
    obtain ⟨fuel, hf⟩ := h
    obtain ⟨xs, n, hn, hx, hl, hlen, hg⟩ := DataW.trod_struct Try.underlying30 hf
    have o9 : Try.prog.cellsOf 9 = 1 := by kernel_rfl
    have o2 : Try.prog.cellsOf 2 = 1 := by kernel_rfl
    match xs, hlen with
    | [y0, y1, y2, y3, y4, y5], _ =>
      have g0 := hg 0 _ rfl
      have g1 := hg 1 _ rfl
      have g2 := hg 2 _ rfl
      have g3 := hg 3 _ rfl
      have g4 := hg 4 _ rfl
      have g5 := hg 5 _ rfl
      simp [o9, Value.cells] at g0
      simp [o2, Value.cells] at g1 g2 g3 g4 g5
      obtain ⟨id, e0, z0, hs⟩ := DataW.trod_string Try.underlying9 g0
      obtain ⟨f, e1, z1, -⟩ := DataW.trod_int Try.underlying2 g1
      obtain ⟨t, e2, z2, -⟩ := DataW.trod_int Try.underlying2 g2
      obtain ⟨L, e3, z3, -⟩ := DataW.trod_int Try.underlying2 g3
      obtain ⟨d, e4, z4, -⟩ := DataW.trod_int Try.underlying2 g4
      obtain ⟨s, e5, z5, -⟩ := DataW.trod_int Try.underlying2 g5
      obtain rfl := List.cons.inj e0 |>.1
      obtain rfl := List.cons.inj e1 |>.1
      obtain rfl := List.cons.inj e2 |>.1
      obtain rfl := List.cons.inj e3 |>.1
      obtain rfl := List.cons.inj e4 |>.1
      obtain rfl := List.cons.inj e5 |>.1
      refine ⟨id, f, t, L, d, s, rfl, ?_, hs⟩
      have := (Prod.mk.inj hx).2
      rw [this]
      simp [z0, z1, z2, z3, z4, z5]
theorem szPipe_any (id : ByteArray) (f t L d s : Int) (m : Int) (w : World) (m0 : 0 ≤ m) (m1 : m ≤ 4611686018427387904) (hs : id.size ≤ maxLen) :
    Calls Try.prog 31 #[.agg #[.string id, .int .i64 f, .int .i64 t, .int .i64 L, .int .i64 d, .int .i64 s], .int .i64 m] w fun e w' => e = .returned (.int .i64 (if m - id.size < 0 then -1 else m - id.size)) ∧ Below w.heap.size w w' := by
  have hm : (id.size : Int) ≤ 9223372036854775807 := by unfold maxLen at hs; omega
  have hb : Below w.heap.size w (w.alloc (.cells #[.string id, .int .i64 f, .int .i64 t, .int .i64 L, .int .i64 d, .int .i64 s] 30)) := bal (Below.refl _ _) _
  obtain ⟨p0, p1, p2, p3, p4, p5⟩ := PipeAt.new w id f t L d s 30
  by_cases h : m - id.size < 0
  · rw [if_pos h]
    go_enter Try.func31, Try.ntmps31
    go_wp2
    go_ret
    exact ⟨rfl, hb⟩
  · rw [if_neg h]
    have h' : 0 ≤ m - id.size := by omega
    go_enter Try.func31, Try.ntmps31
    go_wp2
    go_ret
    exact ⟨rfl, hb⟩
theorem toPipe_any (id : ByteArray) (f t L d s : Int) (w : World) :
    Calls Try.prog 33 #[.agg #[.string id, .int .i64 f, .int .i64 t, .int .i64 L, .int .i64 d, .int .i64 s]] w fun e w' => e = .returned (.agg #[.string id, .int .i64 f, .int .i64 t, .int .i64 L, .int .i64 d, .int .i64 s]) ∧ Below w.heap.size w w' := by
  go_enter Try.func33, Try.ntmps33
  go_wp2
  exact bodyPost_ret (results_cell_row Try.results33 _ _ (w.heap.size + 1) 33 _ (0, 0) _ rfl (by
    refine ((bal (Below.refl _ _) _).block _ (by simp)).trans ?_
    rw [show w.heap.size + 1 = (w.alloc (.cells #[.string id, .int .i64 f, .int .i64 t, .int .i64 L, .int .i64 d, .int .i64 s] 30)).heap.size from (World.size_alloc _ _).symm]
    exact heap_alloc_new _ _) Try.underlying33 rfl (by kernel_rfl)) rfl ⟨rfl, bal (bal (bal (Below.refl _ _) _) _) _⟩

end Go.Proofs.Ythmnfobhgeamiaa
