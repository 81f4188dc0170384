/-
  The code that stands ahead of each answer about a network.
-/
import Derived.Test.YtdaedgdglammhaaH8
import Derived.Test.YtdaedgdglammhaaH6
import Derived.Deep.RegionHeld3
namespace Go.Proofs.Ytdaedgdglammhaa
open Go.ChangeShapes Go.WideShapes Go.ChangeAt Go.RowKit
set_option maxRecDepth 100000
set_option linter.unusedVariables false

theorem code_any (A B : Option Addr) (c d : Nat) (z : List Int) (ps : List Pp) (r : Bool) (w : World) (h : NetCells w A z B ps) (hn : z.length ≤ 1048576) (hm : ps.length ≤ 1048576) (hid : ∀ p ∈ ps, p.id.size ≤ maxLen) :
    Calls Try.prog 68 #[.agg #[.slice A z.length c, .slice B ps.length d], .bool r] w fun e w' => e = .returned (.int .i64 (argC (netB z ps) r)) ∧ Below w.heap.size w w' := by
  have hb : Below w.heap.size w (w.alloc (.cells #[.slice A z.length c, .slice B ps.length d] 38)) := bal (Below.refl _ _) _
  have HV := Lib.hid (implValidNet_any A z.length c B ps.length d z ps _ rfl rfl hn hm (h.next hb).1 (h.next hb).2 hid)
  clear h hid
  generalize netB z ps = v at *
  go_enter Try.func68, Try.ntmps68
  go_wp2_with fail
  refine HV.out.mono ?_
  rintro e w1 ⟨rfl, hb1⟩
  have hb := bnext hb hb1
  go_wp2_with fail
  refine (argumentCode_any v r _).mono ?_
  rintro e w2 ⟨rfl, rfl⟩
  go_wp2
  go_ret
  exact ⟨rfl, hb⟩

end Go.Proofs.Ytdaedgdglammhaa
