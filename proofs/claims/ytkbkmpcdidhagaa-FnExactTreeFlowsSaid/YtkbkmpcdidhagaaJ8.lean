/-
  The tree of a network, of the model.
-/
import Derived.Test.YtkbkmpcdidhagaaJ2
import Derived.Test.YtkbkmpcdidhagaaJ7
import Derived.Maps.AppendAt
namespace Go.Proofs.Ytkbkmpcdidhagaa
open Go.ChangeShapes Go.WideShapes Go.ChangeAt Go.RowKit
set_option maxRecDepth 100000
set_option linter.unusedVariables false


set_option maxHeartbeats 1000000 in
theorem l04Tree_any (bn : Nat) (A : Option Addr) (n c : Nat) (B : Option Addr) (m d : Nat) (ps : List Pp) (w : World) (hN : NetAt w bn A n c B m d) (hn0 : 0 < n) (hn : n ≤ 16) (hl : ps.length = m) (hm : m ≤ 20)
    (hB : CellsAt w B (rowsP ps)) (hfit : ps.all (fitB n) = true) :
    Calls Try.prog 173 #[.pointer (some ⟨bn, 0, none⟩)] w (RetRow 2 (intsV (treeTo (closedBy []) n ps m)) w) := by
  subst hl
  obtain ⟨i0, hi, hz0, hz1, hz2⟩ := info_parts infoI64
  have hbn := hN.lies
  have HN := Lib.hid hN
  have HB := Lib.hid hB
  have HF := Lib.hid hfit
  have ⟨n0, n1⟩ := hN
  clear hB hfit hN
  go_enter Try.func173, Try.ntmps173
  go_wp2
  have hO : ((w.alloc (.cells #[] 2)).alloc (.cells #[] 2)).ownsRow w.heap.size 2 1 (.slice (some ⟨w.heap.size, 0, none⟩) 0 0) 0 [] := (owns_empty w w.heap.size 2 (Nat.le_refl _)).alloc _
  have hR : ((w.alloc (.cells #[] 2)).alloc (.cells #[] 2)).ownsRow (w.heap.size + 1) 2 1 (.slice (some ⟨w.heap.size + 1, 0, none⟩) 0 0) 0 [] := by
    have := owns_empty (w.alloc (.cells #[] 2)) (w.heap.size + 1) 2 (by simp)
    rw [World.size_alloc] at this
    exact this
  go_loopw [4, 5] (fun v i wr => ∃ (k : Nat) (T : Option Addr) (td : Nat), k ≤ n ∧ i = .int .i64 k ∧ v = .slice T k td ∧ wr.ownsRow (w.heap.size + 1) 2 1 (.slice T k td) k (intsV (countL k)) ∧ wr.ownsRow w.heap.size 2 1 (.slice (some ⟨w.heap.size, 0, none⟩) 0 0) 0 [] ∧ w.heap.size + 1 ≤ wr.heap.size ∧ Below w.heap.size w wr) (fun _ i _ => n - (intOf i).toNat)
  case atStart => exact ⟨0, _, _, Nat.zero_le _, rfl, rfl, hR, hO, by simp, bal (bal (Below.refl _ _) _) _⟩
  case round =>
    clear hO hR
    obtain ⟨k, T, td, hk', rfl, rfl, hro, hou, hsz, hb⟩ := hrel
    have ⟨m0, m1⟩ := HN.out.next hb
    by_cases hlt : k < n
    · have hcs : intsV (countL (k + 1)) = intsV (countL k) ++ [Value.int .i64 k] := by
        rw [← intsV_snoc]; unfold countL; rw [List.range_succ, List.map_append]; rfl
      have HS := Lib.hid hcs
      clear hcs n0 n1
      go_wp2_with (at_builtin; refine wpList_append_own _ rfl _ _ 22 rfl (w.heap.size + 1) 2 i0 (.int .i64 0) 1 8 Try.underlying22 hi hz0 hz1 hz2 rfl (by decide) _ _ _ rfl (hro.alloc _) ⟨wr.heap.size, 0, none⟩ 1 1 [.int .i64 k] rfl rfl (cell_one_new _ _ _) (by simp [Value.oneCell']) ?_ ?_ ?_ ?_; (unfold maxLen; omega); (omega); (simp; omega); intro v4 w4 hown4 hgrow4 _)
      obtain ⟨T4, d4, rfl⟩ := owns_form hown4
      go_roundw
      case rel => exact ⟨k + 1, T4, d4, by omega, by go_num, rfl, by rw [HS.out]; exact hown4, (hou.alloc _).kept hgrow4 (.inr (fun e => by have h : w.heap.size + 1 ≤ w.heap.size := (hro.lt _ e.symm).1; omega)), Nat.le_trans hsz (Nat.le_trans (by simp) hgrow4.size), (bal hb _).grown hgrow4 (by have := hb.size; simp; omega) (fun q hq => by have := (hro.lt q hq).1; omega)⟩
      case measure => simp [intOf]; omega
    · obtain rfl : k = n := by omega
      clear n0 n1
      obtain ⟨g, rfl⟩ : ∃ g, T = some ⟨g, 0, none⟩ := by
        rcases hro.2 with ⟨hv, hn'⟩ | ⟨g, cap, cur, hv, _⟩
        · omega
        · injection hv with hA; exact ⟨g, hA⟩
      have hg0 := (hro.lt g rfl).1
      go_wp2
      go_loopw [3, 6] (fun v i wq => ∃ (q : Nat) (O : Option Addr) (L od : Nat) (R : List Int), q ≤ ps.length ∧ i = .int .i64 q ∧ v = .slice O L od ∧ wq.ownsRow w.heap.size 2 1 (.slice O L od) L (intsV (treeTo (closedBy []) k ps q)) ∧ (Value.slice O L od).ownBlock ≠ some g ∧ wq.ownsRow (w.heap.size + 1) 2 1 (.slice (some ⟨g, 0, none⟩) k td) k (intsV R) ∧ Alikes R (partsTo (closedBy []) k ps q) ∧ w.heap.size + 1 ≤ wq.heap.size ∧ Below w.heap.size w wq) (fun _ i _ => ps.length - (intOf i).toNat)
      case atStart => exact ⟨0, _, _, _, countL k, Nat.zero_le _, rfl, rfl, hou, (by simp [Value.ownBlock]; omega), hro, Alikes.rfl' _, hsz, hb⟩
      case round =>
        clear hro hb m0 m1 hou hsz
        obtain ⟨q, O, L, od, R, hq, rfl, rfl, hou, hne, hro, hal, hsz, hb⟩ := hrel
        have ⟨m0, m1⟩ := HN.out.next hb
        by_cases hlq : q < ps.length
        · obtain ⟨b, off, rfl, hrow⟩ := pipe_at (HB.out.next hb) (by omega)
          have hp := List.getElem?_eq_getElem hlq
          have P := hrow q _ hp
          have hf := fitB_parts (fitB_at HF.out q _ hp)
          have he := okP_ends hf.1
          generalize ps[q] = p at *
          have HP := Lib.hid hp
          obtain ⟨x, hx⟩ := Int.eq_ofNat_of_zero_le he.1.1
          obtain ⟨y, hy⟩ := Int.eq_ofNat_of_zero_le he.2.1.1
          have hxn : x < k := by have := hf.2.1; omega
          have hyn : y < k := by have := hf.2.2; omega
          obtain ⟨p0, p1, p2, p3, p4, p5⟩ := P
          rw [hx] at p1
          rw [hy] at p2
          clear hp hrow he hf p0 p3 p4 p5
          have hcl : closedBy [] q = false := rfl
          have hst := partsTo_open (n := k) HP.out hcl
          have hts := fun h => treeTo_stay (cl := closedBy []) (n := k) (k := q) HP.out h
          have htg := fun h => treeTo_grow (cl := closedBy []) (n := k) (k := q) HP.out h
          rw [hx, hy] at hst hts htg
          have hPl := partsTo_length (closedBy []) k ps q
          have hRl : R.length = k := by rw [hal.1, hPl]
          have hsame := joinL_same (partsTo (closedBy []) k ps q) x y
          have hiff := hal.2 x y (by omega) (by omega)
          have hstep := hal.step x y (by omega) (by omega)
          rw [← hst] at hstep hsame
          have hgx : getI (partsTo (closedBy []) k ps q) (x : Int) = (partsTo (closedBy []) k ps q).getD x 0 := rfl
          have hgy : getI (partsTo (closedBy []) k ps q) (y : Int) = (partsTo (closedBy []) k ps q).getD y 0 := rfl
          rw [hgx, hgy] at hts htg hsame
          have c1 := hro.cellAt x (by omega)
          have c2 := hro.cellAt y (by omega)
          rw [intsV_at _ _ (by omega)] at c1 c2
          have e1 : R.getD x 0 = R[x] := by simp [List.getD, show x < R.length by omega]
          have e2 : R.getD y 0 = R[y] := by simp [List.getD, show y < R.length by omega]
          rw [e1, e2] at hiff hstep
          generalize R[x] = u at *
          generalize R[y] = v at *
          have HAL := Lib.hid hal
          have HRL := Lib.hid hRl
          have HTS := Lib.hid hts
          have HTG := Lib.hid htg
          have HSM := Lib.hid hsame
          have HIF := Lib.hid hiff
          have HSP := Lib.hid hstep
          clear hal hRl hts htg hsame hiff hstep hst hPl hgx hgy e1 e2 hx hy hcl
          by_cases huv : u = v
          · have hpe := HIF.out.1 huv
            have HT := Lib.hid (HTS.out (by rw [hpe]; simp))
            have HM := Lib.hid (HSM.out hpe)
            have huv1 := huv.symm
            clear hpe huv
            subst huv1
            go_wp2
            go_roundw
            case rel => exact ⟨q + 1, O, L, od, R, by omega, by go_num, rfl, by rw [HT.out]; exact hou, hne, hro, by rw [HM.out]; exact HAL.out, hsz, hb⟩
            case measure => simp [intOf]; omega
          · have huv1 : (u == v) = false := by simpa using huv
            have HT := Lib.hid (HTG.out (by
              have : ¬ (partsTo (closedBy []) k ps q).getD x 0 = (partsTo (closedBy []) k ps q).getD y 0 := fun h => huv (HIF.out.2 h)
              show (false || _) = false
              simpa using this))
            clear huv
            have hL : L ≤ 20 := by
              have := owns_len hou
              rw [intsV_length] at this
              have := treeTo_short (closedBy []) k ps q
              omega
            go_wp2_with (at_builtin; refine wpList_append_own_at _ rfl _ _ 22 rfl w.heap.size 2 i0 (.int .i64 0) 1 8 Try.underlying22 hi hz0 hz1 hz2 rfl (by decide) _ _ _ rfl (hou.alloc _) ⟨wr.heap.size, 0, none⟩ 1 1 [.int .i64 q] rfl rfl (cell_one_new _ _ _) (by simp [Value.oneCell']) ?_ ?_ ?_ ?_; (unfold maxLen; omega); (omega); (simp; omega); intro v4 w4 hown4 hgrow4 _ hat4)
            obtain ⟨O4, d4, rfl⟩ := owns_form hown4
            have hgl := (hro.lt g rfl).2
            have hne4 : (Value.slice O4 (L + 1) d4).ownBlock ≠ some g := fun e => by
              rcases hat4 with h | h
              · exact hne (h.symm.trans e)
              · rw [e] at h
                have := Option.some.inj h
                simp at this
                omega
            have hro4 := (hro.alloc (.cells #[.int .i64 q] 2)).kept hgrow4 (.inr (fun e => hne e.symm))
            have hb4 := (bal hb (.cells #[.int .i64 q] 2)).grown hgrow4 (by have := hb.size; simp; omega) (fun j hj => (hou.lt j hj).1)
            have hsz4 : w.heap.size + 1 ≤ w4.heap.size := Nat.le_trans hsz (Nat.le_trans (by simp) hgrow4.size)
            have HO4 := Lib.hid hown4
            have HNE4 := Lib.hid hne4
            clear hat4 hown4 hne4 hgrow4 hro hou hne hb hsz c1 c2 p1 p2 m0 m1 hgl
            go_loopw [9] (fun i wz => ∃ j : Nat, j ≤ k ∧ i = .int .i64 j ∧ wz.ownsRow (w.heap.size + 1) 2 1 (.slice (some ⟨g, 0, none⟩) k td) k (intsV (repTo R u v j)) ∧ wz.ownsRow w.heap.size 2 1 (.slice O4 (L + 1) d4) (L + 1) (intsV (treeTo (closedBy []) k ps q) ++ [Value.int .i64 q]) ∧ w.heap.size + 1 ≤ wz.heap.size ∧ Below w.heap.size w wz) (fun i _ => k - (intOf i).toNat)
            case atStart => exact ⟨0, Nat.zero_le _, rfl, by rw [repTo_zero]; exact hro4, HO4.out, hsz4, hb4⟩
            case round =>
              clear hro4 hb4 hsz4
              obtain ⟨j, hj, rfl, hro, hou, hsz, hb⟩ := hrel
              by_cases hlj : j < k
              · have hjR : j < R.length := by rw [HRL.out]; exact hlj
                have hc1 := hro.cellAt j (by omega)
                have hf1 := hro.frozenAt j
                rw [intsV_at _ _ (by rw [repTo_length]; exact hjR)] at hc1
                have hav := repTo_at R u v j hjR
                rw [List.getElem?_eq_getElem (by rw [repTo_length]; exact hjR)] at hav
                rw [Option.some.inj hav] at hc1
                have HSK := Lib.hid (repTo_skip R u v j hjR)
                have HRP := Lib.hid (repTo_set R u v j hjR)
                clear hav
                generalize R[j] = z at *
                by_cases hz : z = v
                · have hst := hro.stored j (.int .i64 u)
                  rw [intsV_set, HRP.out hz] at hst
                  have Hst := Lib.hid hst
                  have hz1 : (z == v) = true := by simpa using hz
                  have Hz := Lib.hid hz
                  clear hst hz
                  go_wp2
                  go_roundw
                  case rel => exact ⟨j + 1, by omega, by go_num, Hst.out.1, ownsRow_setCell_other hou (a := ⟨g, j, none⟩) HNE4.out _, by simpa using hsz, hb.setCell (by simp; omega) _⟩
                  case measure => simp [intOf]; omega
                · have hz1 : (z == v) = false := by simpa using hz
                  have Hz := Lib.hid hz
                  clear hz
                  go_wp2
                  go_roundw
                  case rel => exact ⟨j + 1, by omega, by go_num, by rw [HSK.out Hz.out]; exact hro, hou, hsz, hb⟩
                  case measure => simp [intOf]; omega
              · obtain rfl : j = R.length := by rw [HRL.out]; omega
                rw [repTo_all] at hro
                rw [← intsV_snoc, ← HT.out] at hou
                go_wp2
                go_roundw
                case rel => exact ⟨q + 1, O4, L + 1, d4, _, by omega, by go_num, rfl, hou, HNE4.out, hro, HSP.out, hsz, hb⟩
                case measure => simp [intOf]; omega
        · obtain rfl : q = ps.length := by omega
          go_wp2
          go_ret
          exact retRow_mk rfl hou rfl hb

end Go.Proofs.Ytkbkmpcdidhagaa
