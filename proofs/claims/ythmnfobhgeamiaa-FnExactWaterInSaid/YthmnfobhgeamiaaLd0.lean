/-
  Chapter 5: a quotient that is rounded up; WaterFor of both sides.
-/
import Derived.Test.YthmnfobhgeamiaaW3
namespace Go.Proofs.Ythmnfobhgeamiaa
open Go.ChangeShapes Go.WideShapes Go.ChangeAt Go.RowKit


theorem roundedUp_any (a b : Int) (w : World) (a0 : 0 ≤ a) (a1 : a ≤ 2305843009213693952) (b0 : 1 ≤ b) (b1 : b ≤ 2305843009213693952) :
    Calls Try.prog 75 #[.int .i64 a, .int .i64 b] w fun e w' => e = .returned (.int .i64 ((a + b - 1) / b)) ∧ Drawn w w' := by
  have h0 : 0 ≤ a + b - 1 := by omega
  go_enter Try.func75, Try.ntmps75
  go_wp2
  go_ret
  exact ⟨rfl, Drawn.rfl' _⟩

def flowI (l d : Int) : Int := (l * 100000 + 4186 * d - 1) / (4186 * d)
theorem flow_bd (l d : Int) (l0 : 0 ≤ l) (l1 : l ≤ 100000000) (d0 : 1 ≤ d) (d1 : d ≤ 25000) : 0 ≤ flowI l d ∧ flowI l d ≤ 10000104650000 := by
  unfold flowI
  have := div_bd (l * 100000 + 4186 * d - 1) (4186 * d) (by omega) (by omega)
  omega
def wfB (l a b : Int) : Bool := inB l 0 100000000 && inB a (-5000) 20000 && inB b (-5000) 20000
def wfV (l a b : Int) : Int := if wfB l a b && !decide (a ≤ b) && decide (flowI l (a - b) ≤ 100000) then flowI l (a - b) else 0
def wfC (l a b : Int) : Int := if wfB l a b then (if a ≤ b then 6 else if flowI l (a - b) ≤ 100000 then 0 else 3) else 2

end Go.Proofs.Ythmnfobhgeamiaa
