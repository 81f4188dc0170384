/-
  What the lists of package-level variables give: the table of powers of ten, the two errors of the library's reader of numbers.
-/
import Derived.Test.YtmopnkkpcgiafabGreatDoorD3
import Derived.Stop.LaidErr
import Derived.MakeChecks
namespace Go.Proofs.YtmopnkkpcgiafabGreatDoor
open Go.ChangeShapes Go.WideShapes Go.ChangeAt Go.RowKit

theorem gPow : Tryz.prog.globalNamed "internal/strconv.uint64pow10" = some 5 := by kernel_rfl
theorem tPow : (Tryz.prog.globals[5]?).map (·.type) = some 210 := by kernel_rfl
theorem cPow : Tryz.prog.cellsOf 210 = 20 := by kernel_rfl
theorem cU64 : Tryz.prog.cellsOf 115 = 1 := by kernel_rfl
theorem powTab_laid {W : World} {r : List (String × DataW Unit)} (h : laidMet Tryz.prog (("internal/strconv.uint64pow10", Lib.tabData .u64 Lib.pow10Tab) :: r) W) : PowTab W :=
  powTab_of gPow (Lib.tabIs_of_head gPow tPow Tryz.underlying210 Tryz.underlying115 cU64 cPow h)

theorem gSyn : Tryz.prog.globalNamed "strconv.ErrSyntax" = some 3 := by kernel_rfl
theorem gRan : Tryz.prog.globalNamed "strconv.ErrRange" = some 4 := by kernel_rfl
theorem tSyn : (Tryz.prog.globals[3]?).map (·.type) = some 137 := by kernel_rfl
theorem tRan : (Tryz.prog.globals[4]?).map (·.type) = some 137 := by kernel_rfl
theorem rowErr (u : TypeId) (h : Tryz.prog.typeName? 3 u = some "*errors.errorString") : u = 212 :=
  typeName_ptr_named (nm := "errors.errorString") (by kernel_rfl) (by kernel_rfl) (by decide) u h
theorem cErr : Tryz.prog.cellsOf 214 = 1 := by kernel_rfl
theorem cStr : Tryz.prog.cellsOf 9 = 1 := by kernel_rfl
theorem errVars_laid {W : World} {x y : List UInt8} {r : List (String × DataW Unit)} (h : laidMet Tryz.prog (("strconv.ErrRange", .iface "*errors.errorString" (.ptr (.agg [.lit (.string x)]))) :: ("strconv.ErrSyntax", .iface "*errors.errorString" (.ptr (.agg [.lit (.string y)]))) :: r) W) : ErrVars W := by
  obtain ⟨a1, s1, hv1, hc1, _, _⟩ := laid_sentinel h gRan tRan Tryz.underlying137 rowErr Tryz.underlying212 Tryz.underlying214 rfl rfl Tryz.underlying9 cErr cStr
  obtain ⟨a2, s2, hv2, hc2, _, _⟩ := laid_sentinel h.tail gSyn tSyn Tryz.underlying137 rowErr Tryz.underlying212 Tryz.underlying214 rfl rfl Tryz.underlying9 cErr cStr
  have b1 := World.block_lt_of_cell? W _ (World.var?_cell gRan hv1 0)
  have b2 := World.block_lt_of_cell? W _ (World.var?_cell gSyn hv2 0)
  exact ⟨_, _, _, _, fun w' hb => ⟨var_below hb gSyn b2 hv2, var_below hb gRan b1 hv1⟩⟩
end Go.Proofs.YtmopnkkpcgiafabGreatDoor
