/-
  A part of a text read as a reading: the program.
-/
import Derived.Test.YthidaoemonjemacDoorMa1
import Derived.Test.YthidaoemonjemacDoorL0
import Derived.Test.YthidaoemonjemacDoorR1
import Derived.Test.YthidaoemonjemacDoorR2
import Derived.Test.YthidaoemonjemacDoorTw
namespace Go.Proofs.YthidaoemonjemacDoor
open Go.ChangeShapes Go.WideShapes Go.ChangeAt Go.RowKit

set_option maxRecDepth 100000
set_option maxHeartbeats 1600000
set_option linter.unusedVariables false

def cutA (p : List UInt8) : List UInt8 := (Lib.cut p [58]).1
def cutB (p : List UInt8) : List UInt8 := (Lib.cut p [58]).2.1
/-- the reading of a part, by the program -/
def rdP (p : List UInt8) : Rg := ⟨valP (cutA p), valP (cutB p)⟩
def rdOk (p : List UInt8) : Bool := numP (cutA p) && numP (cutB p)
theorem results_rg {fn : Func} {p u : Tmp} (h : fn.results = #[.cell p 35, .tmp u]) (tmps : Array Value) (w : World) (g : Nat) (v0 v1 : Value) (hp : tmps.getD p undef = .pointer (some ⟨g, 0, none⟩)) (hw : Two w g v0 v1) :
    (results fn tmps).run Tryd.prog w = .ok (.tuple #[.agg #[v0, v1], tmps.getD u undef]) w := by
  have hp' : tmps[p]?.getD undef = .pointer (some ⟨g, 0, none⟩) := by simpa using hp
  have hr : w.rangeAt g 0 [v0, v1] := fun j v hj => by
    match j, hj with
    | 0, hj => cases hj; exact hw.1
    | 1, hj => cases hj; exact hw.2.1
  have hl := run_loadVar_mid (P := Tryd.prog) w g 0 35 _ _ hr Tryd.underlying35 rfl (by kernel_rfl)
  rw [results_cell_tmp h]
  simp [hp', asAddr, hl, Result.andThen]
theorem mkB_toList (l : List UInt8) : (mkB l).data.toList = l := by simp [mkB]
theorem readReading_any (s : ByteArray) (w : World) (hs : s.size ≤ 1048576) (hm : MaxVar w) (hv : ErrVars w) (ht : PowTab w) :
    Calls Tryd.prog 23 #[.string s] w fun e w' => e = .returned (.tuple #[.agg #[.int .i64 (rdP s.data.toList).h, .int .i64 (rdP s.data.toList).c], .bool (rdOk s.data.toList)]) ∧ Below w.heap.size w w' := by
  have hba : Below w.heap.size w (w.alloc (.cells #[.int .i64 0, .int .i64 0] 35)) := bal (Below.refl _ _) _
  obtain ⟨m, hm0⟩ := hm.next hba
  have hC := Tryd.strings_Cut s ⟨#[58]⟩ m _ (by omega) hm0
  have e1 : (Lib.cut s.data.toList [58]).1.length ≤ s.size := by
    unfold Lib.cut
    split
    · exact Nat.le_trans (by simp [List.length_take]; omega) (Nat.le_refl s.data.toList.length)
    · exact Nat.le_refl _
  have e2 : (Lib.cut s.data.toList [58]).2.1.length ≤ s.size := by
    unfold Lib.cut
    split
    · exact Nat.le_trans (by simp [List.length_drop]) (Nat.le_refl s.data.toList.length)
    · exact Nat.zero_le _
  have HA : Hid (rdP s.data.toList = ⟨valP (cutA s.data.toList), valP (cutB s.data.toList)⟩) := Lib.hid rfl
  have HOKK : Hid (rdOk s.data.toList = (numP (cutA s.data.toList) && numP (cutB s.data.toList))) := Lib.hid rfl
  have HC := Lib.hid (show Calls Tryd.prog 41 #[.string s, .string ⟨#[58]⟩] (w.alloc (.cells #[.int .i64 0, .int .i64 0] 35)) fun e w' => e = .returned (.tuple #[.string (mkB (cutA s.data.toList)), .string (mkB (cutB s.data.toList)), .bool (Lib.cut s.data.toList [58]).2.2]) ∧ ∃ n, w' = (w.alloc (.cells #[.int .i64 0, .int .i64 0] 35)).drewN n from hC)
  have HR1 := Lib.hid (fun wx (hb : Below w.heap.size w wx) => by
    have h := implReadDecimal_any (mkB (cutA s.data.toList)) wx (by show (cutA s.data.toList).length ≤ _; unfold cutA; omega) (hv.next hb) (ht.next hb)
    rw [mkB_toList, decT_eq] at h
    exact h)
  have HR2 := Lib.hid (fun wx (hb : Below w.heap.size w wx) => by
    have h := implReadDecimal_any (mkB (cutB s.data.toList)) wx (by show (cutB s.data.toList).length ≤ _; unfold cutB; omega) (hv.next hb) (ht.next hb)
    rw [mkB_toList, decT_eq] at h
    exact h)
  have HBA := Lib.hid hba
  have HN := Lib.hid (Two.new w (.int .i64 0) (.int .i64 0) 35)
  generalize mkB (cutA s.data.toList) = sa at *
  generalize mkB (cutB s.data.toList) = sb at *
  generalize valP (cutA s.data.toList) = va at *
  generalize valP (cutB s.data.toList) = vb at *
  generalize hna : numP (cutA s.data.toList) = na at *
  generalize hnb : numP (cutB s.data.toList) = nb at *
  clear hna hnb
  clear hC hba hm0 hm hv ht e1 e2
  go_enter Tryd.func23, Tryd.ntmps23
  go_wp2_with fail
  refine HC.out.mono ?_
  rintro e w1 ⟨rfl, ⟨d, rfl⟩⟩
  have HB1 := Lib.hid (below_drewN HBA.out d)
  have HN1 := Lib.hid (show Two ((w.alloc (.cells #[.int .i64 0, .int .i64 0] 35)).drewN d) w.heap.size (.int .i64 0) (.int .i64 0) from HN.out.keep rfl)
  have tok : True := trivial
  cases na
  all_goals
    go_wp2_with (first | (go_at_call 42; clear tok; refine (HR1.out _ HB1.out).mono ?_; rintro e w3 ⟨rfl, hb3⟩; have HN3 := Lib.hid (HN1.out.next hb3); have HB3 := Lib.hid (bnext HB1.out hb3); clear hb3) | (go_at_call 42; refine (HR2.out _ HB3.out).mono ?_; rintro e w4 ⟨rfl, hb4⟩; have HN4 := Lib.hid (HN3.out.next hb4); have HB4 := Lib.hid (bnext HB3.out hb4); clear hb4; have ⟨c0, c1, f0, f1⟩ := HN4.out))
    refine bodyPost_ret (results_rg Tryd.results23 _ _ w.heap.size _ _ rfl ((HN4.out.set0 (.int .i64 va)).set1 (.int .i64 vb))) rfl ⟨by rw [HA.out, HOKK.out]; rfl, ?_⟩
    exact (HB4.out.setCell (Nat.le_refl _) _).setCell (Nat.le_refl _) _

end Go.Proofs.YthidaoemonjemacDoor
