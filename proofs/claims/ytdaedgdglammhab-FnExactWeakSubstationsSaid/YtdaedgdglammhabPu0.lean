/-
  The head that a system needs for a flow: both sides.
-/
import Derived.Test.YtdaedgdglammhabA2
import Derived.Test.YtdaedgdglammhabA4
import Derived.Test.YtdaedgdglammhabW0
import Derived.Test.YtdaedgdglammhabW3
import Derived.Test.YtdaedgdglammhabB6
import Derived.Test.YtdaedgdglammhabP2
import Derived.Test.YtdaedgdglammhabGs
import Derived.Deep.QuietTactic
import Derived.Deep.RegionHeld3
namespace Go.Proofs.Ytdaedgdglammhab
open Go.ChangeShapes Go.WideShapes Go.ChangeAt Go.RowKit

set_option maxRecDepth 100000
set_option linter.unusedVariables false

theorem isPumped_any (n : Int) (w : World) : Calls Try.prog 58 #[.int .i64 n] w fun e w' => e = .returned (.bool (inB n 0 100000)) ∧ Below w.heap.size w w' := by
  have hb : Below w.heap.size w w := Below.refl _ _
  go_enter Try.func58, Try.ntmps58
  go_wp2_with ((go_at_call 75; refine (one64At _ _ _ _ _ _ (by simp) (by omega)).mono ?_; rintro e w' ⟨rfl, hb'⟩; first | have hb := bnext hb hb' | have hb := bnext (bal hb _) hb' | have hb := bnext (bal (bal hb _) _) hb' | have hb := bnext (bal (bal (bal hb _) _) _) hb' | have hb := bnext (bal (bal (bal (bal hb _) _) _) _) hb' | have hb := bnext (bal (bal (bal (bal (bal hb _) _) _) _) _) hb'))
  go_ret
  first | exact ⟨rfl, hb⟩ | exact ⟨rfl, (bal hb _)⟩ | exact ⟨rfl, (bal (bal hb _) _)⟩ | exact ⟨rfl, (bal (bal (bal hb _) _) _)⟩ | exact ⟨rfl, (bal (bal (bal (bal hb _) _) _) _)⟩ | exact ⟨rfl, (bal (bal (bal (bal (bal hb _) _) _) _) _)⟩

def sysOk (s c : Int) : Bool := inB s 0 2000000 && inB c 0 100000000
/-- the head that a system needs -/
def needI (s c q : Int) : Int := s + nearI (c * q * q) 10000000000
theorem cqq_bd {c q : Int} (hc : inB c 0 100000000 = true) (hq : inB q 0 100000 = true) : 0 ≤ c * q ∧ c * q ≤ 10000000000000 ∧ 0 ≤ c * q * q ∧ c * q * q ≤ 1000000000000000000 := by
  have h1 := inB_iff.1 hc
  have h2 := inB_iff.1 hq
  have a0 : 0 ≤ c * q := Int.mul_nonneg h1.1 h2.1
  have a1 : c * q ≤ 100000000 * 100000 := Int.mul_le_mul h1.2 h2.2 h2.1 (by omega)
  have b0 : 0 ≤ c * q * q := Int.mul_nonneg a0 h2.1
  have b1 : c * q * q ≤ (100000000 * 100000) * 100000 := Int.mul_le_mul a1 h2.2 h2.1 (by omega)
  exact ⟨a0, by omega, b0, by omega⟩
theorem need_bd {s c q : Int} (hs : sysOk s c = true) (hq : inB q 0 100000 = true) : 0 ≤ needI s c q ∧ needI s c q ≤ 102000000 := by
  unfold sysOk at hs
  simp only [Bool.and_eq_true] at hs
  have h1 := inB_iff.1 hs.1
  obtain ⟨-, -, h2, h3⟩ := cqq_bd hs.2 hq
  unfold needI
  have h4 := nearI_nonneg (c * q * q) 10000000000 (by omega) h2
  have h5 := nearI_mono (c * q * q) (100000000 * 10000000000) 10000000000 (by omega) (by omega)
  rw [nearI_whole 100000000 10000000000 (by omega)] at h5
  omega

def systemHeadR0 (s c q : Int) : Int := if sysOk s c && inB q 0 100000 then needI s c q else 0
def systemHeadR1 (s c q : Int) : Int := if sysOk s c && inB q 0 100000 then 0 else 2
def SysO (w : World) (b : Nat) (s c : Int) : Prop := w.cell? ⟨b, 0, none⟩ = some (.int .i64 s) ∧ w.cell? ⟨b, 1, none⟩ = some (.int .i64 c)
theorem SysO.next {w w' : World} {b : Nat} {s c : Int} (h : SysO w b s c) (hb : Below w.heap.size w w') : SysO w' b s c :=
  ⟨(hb.cell (p := ⟨b, 0, none⟩) (World.block_lt_of_cell? _ _ h.1)).trans h.1, (hb.cell (p := ⟨b, 1, none⟩) (World.block_lt_of_cell? _ _ h.2)).trans h.2⟩
theorem SysO.new (w : World) (s c : Int) (T : TypeId) : SysO (w.alloc (.cells #[.int .i64 s, .int .i64 c] T)) w.heap.size s c := by unfold SysO; simp
end Go.Proofs.Ytdaedgdglammhab
