/-
  A network as text, of the model: the loop.
-/
import Derived.Test.YtmopnkkpcgiafabDoorZ4
namespace Go.Proofs.YtmopnkkpcgiafabDoor
open Go.ChangeShapes Go.WideShapes Go.ChangeAt Go.RowKit
set_option maxRecDepth 100000
set_option linter.unusedVariables false

theorem l04Text_any (bn : Nat) (A B : Option Addr) (c d : Nat) (z : List Int) (ps : List Pp) (w : World) (hN : NetAt w bn A z.length c B ps.length d) (hA : CellsAt w A (intsV z)) (hB : CellsAt w B (rowsP ps)) (hv : netB z ps = true) :
    Calls Tryd.prog 12 #[.pointer (some ⟨bn, 0, none⟩)] w fun e w' => e = .returned (.string (netText z ps ps.length)) ∧ Below w.heap.size w w' := by
  have hp := netB_parts hv
  have hl := hp.1
  have hm := hp.2.2.1
  have HF := Lib.hid hp.2.2.2.1
  have HS := Lib.hid (netText_small hv)
  have HL := Lib.hid (l01List_any A c z.length z w rfl (nodes_fit hv) hA)
  have HB := Lib.hid hB
  have hbn := hN.lies
  have HN := Lib.hid hN
  clear hA hB hp hv
  have ⟨n0, n1⟩ := hN
  go_enter Tryd.func12, Tryd.ntmps12
  go_wp2_with fail
  refine HL.out.mono ?_
  rintro e w1 ⟨rfl, hb1⟩
  have hc := hb1
  have hN := hN.next hb1
  clear hb1 n0 n1
  have ⟨n0, n1⟩ := hN
  have hz0 : netText z ps 0 = mkB (listL z) := rfl
  go_wp2
  go_loopw [3, 4] (fun v i wr => ∃ k : Nat, k ≤ ps.length ∧ i = .int .i64 k ∧ v = .string (netText z ps k) ∧ Below w.heap.size w wr) (fun _ i _ => ps.length - (intOf i).toNat)
  case atStart => exact ⟨0, Nat.zero_le _, rfl, rfl, hc⟩
  case round =>
    clear n0 n1 hN
    obtain ⟨k, hk, rfl, rfl, hb⟩ := hrel
    have hN := HN.out.next hb
    have ⟨n0, n1⟩ := hN
    by_cases hlt : k < ps.length
    · obtain ⟨b2, o2, rfl, hrow⟩ := pipe_at HB.out (by omega)
      have hp := List.getElem?_eq_getElem hlt
      have P := (hrow k _ hp).next hb
      have hok := ok_of_fit HF.out hp
      have hst := netText_at (z := z) hp
      have h1 := HS.out k
      have h2 := tx_small hok
      have HT : Hid (∀ wx, PipeO wx b2 (o2 + k * 6) ps[k] → Calls Tryd.prog 25 #[.pointer (some ⟨b2, o2 + k * 6, none⟩)] wx fun e w' => e = .returned (.string ps[k].tx) ∧ Below wx.heap.size wx w') := Lib.hid (fun wx hq => l03TextO_any b2 (o2 + k * 6) ps[k].id ps[k].f ps[k].t ps[k].L ps[k].d ps[k].s wx hq hok)
      clear hok hrow hp
      generalize ps[k] = p at *
      generalize p.tx = T at *
      generalize netText z ps k = X at *
      have Hst := Lib.hid hst
      clear hst
      have hk1 : ¬ 9223372036854775807 < 1 + T.size := by omega
      have hk2 : ¬ 9223372036854775807 < X.size + (1 + T.size) := by omega
      go_wp2_with fail
      refine (HT.out wr P).mono ?_
      rintro e w2 ⟨rfl, hb2⟩
      have hb := bnext hb hb2
      clear n0 n1 hN P hb2
      go_wp2
      go_roundw
      case rel => exact ⟨k + 1, by omega, by go_num, by rw [Hst.out], hb⟩
      case measure => simp [intOf]; omega
    · have : k = ps.length := by omega
      subst this
      go_wp2
      go_ret
      exact ⟨rfl, hb⟩

end Go.Proofs.YtmopnkkpcgiafabDoor
