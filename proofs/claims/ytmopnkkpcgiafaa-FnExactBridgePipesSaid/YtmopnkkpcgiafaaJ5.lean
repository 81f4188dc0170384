/-
  The parts of a network, of the model.
-/
import Derived.Test.YtmopnkkpcgiafaaJ2
import Derived.Test.YtmopnkkpcgiafaaP1
namespace Go.Proofs.Ytmopnkkpcgiafaa
open Go.ChangeShapes Go.WideShapes Go.ChangeAt Go.RowKit
set_option maxRecDepth 100000
set_option linter.unusedVariables false

theorem l00Has_any (K : Option Addr) (kc : Nat) (cs : List Int) (x : Int) (w : World) (hk : cs.length ≤ 1048576) (hK : CellsAt w K (intsV cs)) :
    Calls Try.prog 104 #[.slice K cs.length kc, .int .i64 x] w fun e w' => e = .returned (.bool (cs.any fun c => c == x)) ∧ Drawn w w' := by
  have HK := Lib.hid hK
  clear hK
  have hm : cs.length ≤ 9223372036854775807 := by omega
  go_enter Try.func104, Try.ntmps104
  go_wp2
  go_loopw [5] (fun i wr => ∃ k : Nat, k ≤ cs.length ∧ i = .int .i64 k ∧ ((cs.take k).any fun c => c == x) = false ∧ Drawn w wr) (fun i _ => cs.length - (intOf i).toNat)
  case atStart => exact ⟨0, Nat.zero_le _, rfl, rfl, Drawn.rfl' _⟩
  case round =>
    obtain ⟨k, hk', rfl, hany, ⟨nq, rfl⟩⟩ := hrel
    have Hany := Lib.hid hany
    clear hany
    by_cases hlt : k < cs.length
    · obtain ⟨b, off, rfl, h1⟩ := HK.out (by rw [intsV_length]; omega)
      have g1 : w.cell? ⟨b, off + k, none⟩ = some (.int .i64 cs[k]) := by rw [h1 k (by rw [intsV_length]; exact hlt), intsV_at _ _ hlt]
      have hsuc : ((cs.take (k + 1)).any fun c => c == x) = (((cs.take k).any fun c => c == x) || cs[k] == x) := by
        rw [List.take_succ_eq_append_getElem hlt, List.any_append]; simp
      have hyes : (cs[k] == x) = true → (cs.any fun c => c == x) = true := fun h => List.any_eq_true.2 ⟨_, List.getElem_mem hlt, h⟩
      generalize cs[k] = y at *
      have HS := Lib.hid hsuc
      have HY := Lib.hid hyes
      clear hsuc hyes h1
      by_cases he : y = x
      · subst he
        have HY2 := Lib.hid (HY.out (by simp))
        go_wp2
        go_ret
        exact ⟨by rw [HY2.out]; rfl, ⟨_, rfl⟩⟩
      · have he1 : (y == x) = false := by simpa using he
        have HE := Lib.hid he1
        clear he
        go_wp2
        go_roundw
        case rel => exact ⟨k + 1, by omega, by go_num, by rw [HS.out, Hany.out, HE.out]; rfl, ⟨_, rfl⟩⟩
        case measure => simp [intOf]; omega
    · have hall := Hany.out
      rw [List.take_of_length_le (by omega)] at hall
      have HA := Lib.hid hall
      clear hall
      go_wp2
      go_ret
      exact ⟨by rw [HA.out]; rfl, ⟨_, rfl⟩⟩

set_option maxHeartbeats 1000000 in
theorem l04Parts_any (bn : Nat) (A : Option Addr) (n c : Nat) (B : Option Addr) (m d : Nat) (ps : List Pp) (K : Option Addr) (kc : Nat) (cs : List Int) (w : World) (hN : NetAt w bn A n c B m d) (hn0 : 0 < n) (hn : n ≤ 16) (hl : ps.length = m) (hm : m ≤ 20)
    (hB : CellsAt w B (rowsP ps)) (hfit : ps.all (fitB n) = true) (hk : cs.length ≤ 1048576) (hK : CellsAt w K (intsV cs)) :
    Calls Try.prog 82 #[.pointer (some ⟨bn, 0, none⟩), .slice K cs.length kc] w (RetRow 2 (intsV (partsTo (closedBy cs) n ps m)) w) := by
  subst hl
  obtain ⟨i0, hi, hz0, hz1, hz2⟩ := info_parts infoI64
  have hbn := hN.lies
  have HN := Lib.hid hN
  have HB := Lib.hid hB
  have HF := Lib.hid hfit
  have HK := Lib.hid hK
  have ⟨n0, n1⟩ := hN
  clear hB hfit hK hN
  go_enter Try.func82, Try.ntmps82
  go_wp2
  go_loopw [5, 6] (fun v i wr => ∃ (k : Nat) (T : Option Addr) (td : Nat), k ≤ n ∧ i = .int .i64 k ∧ v = .slice T k td ∧ wr.ownsRow w.heap.size 2 1 (.slice T k td) k (intsV (countL k)) ∧ Below w.heap.size w wr) (fun _ i _ => n - (intOf i).toNat)
  case atStart => exact ⟨0, _, _, Nat.zero_le _, rfl, rfl, owns_empty _ _ _ (Nat.le_refl _), (Below.refl _ _).alloc (Nat.le_refl _) _⟩
  case round =>
    obtain ⟨k, T, td, hk', rfl, rfl, hro, hb⟩ := hrel
    have ⟨m0, m1⟩ := HN.out.next hb
    by_cases hlt : k < n
    · have hcs : intsV (countL (k + 1)) = intsV (countL k) ++ [Value.int .i64 k] := by
        rw [← intsV_snoc]; unfold countL; rw [List.range_succ, List.map_append]; rfl
      have HS := Lib.hid hcs
      clear hcs n0 n1
      go_wp2_with (at_builtin; refine wpList_append_own _ rfl _ _ 22 rfl w.heap.size 2 i0 (.int .i64 0) 1 8 Try.underlying22 hi hz0 hz1 hz2 rfl (by decide) _ _ _ rfl (hro.alloc _) ⟨wr.heap.size, 0, none⟩ 1 1 [.int .i64 k] rfl rfl (cell_one_new _ _ _) (by simp [Value.oneCell']) ?_ ?_ ?_ ?_; (unfold maxLen; omega); (omega); (have := hb.size; simp; omega); intro v4 w4 hown4 hgrow4 _)
      obtain ⟨T4, d4, rfl⟩ := owns_form hown4
      go_roundw
      case rel => exact ⟨k + 1, T4, d4, by omega, by go_num, rfl, by rw [HS.out]; exact hown4, (bal hb _).grown hgrow4 (by have := hb.size; simp; omega) (owns_ge hro)⟩
      case measure => simp [intOf]; omega
    · obtain rfl : k = n := by omega
      clear n0 n1
      obtain ⟨g, rfl⟩ : ∃ g, T = some ⟨g, 0, none⟩ := by
        rcases hro.2 with ⟨hv, hn'⟩ | ⟨g, cap, cur, hv, _⟩
        · omega
        · injection hv with hA; exact ⟨g, hA⟩
      have hg0 := (hro.lt g rfl).1
      go_wp2
      go_loopw [7] (fun i wq => ∃ q : Nat, q ≤ ps.length ∧ i = .int .i64 q ∧ wq.ownsRow w.heap.size 2 1 (.slice (some ⟨g, 0, none⟩) k td) k (intsV (partsTo (closedBy cs) k ps q)) ∧ Below w.heap.size w wq) (fun i _ => ps.length - (intOf i).toNat)
      case atStart => exact ⟨0, Nat.zero_le _, rfl, hro, hb⟩
      case round =>
        clear hro hb m0 m1
        obtain ⟨q, hq, rfl, hro, hb⟩ := hrel
        have ⟨m0, m1⟩ := HN.out.next hb
        by_cases hlq : q < ps.length
        · obtain ⟨b, off, rfl, hrow⟩ := pipe_at (HB.out.next hb) (by omega)
          have hp := List.getElem?_eq_getElem hlq
          have P := hrow q _ hp
          have hf := fitB_parts (fitB_at HF.out q _ hp)
          have he := okP_ends hf.1
          generalize ps[q] = p at *
          have HP := Lib.hid hp
          obtain ⟨x, hx⟩ := Int.eq_ofNat_of_zero_le he.1.1
          obtain ⟨y, hy⟩ := Int.eq_ofNat_of_zero_le he.2.1.1
          have hxn : x < k := by have := hf.2.1; omega
          have hyn : y < k := by have := hf.2.2; omega
          obtain ⟨p0, p1, p2, p3, p4, p5⟩ := P
          rw [hx] at p1
          rw [hy] at p2
          clear hp hrow he hf p0 p3 p4 p5
          go_wp2_with fail
          refine (l00Has_any K kc cs q _ hk (HK.out.next hb)).mono ?_
          rintro e w1 ⟨rfl, hd⟩
          have hbd := drawn_below hd
          have hb1 := bnext hb hbd
          have hro1 := owns_below hro hbd (Nat.le_refl _)
          have p1 := (hbd.cell (p := ⟨b, off + q * 6 + 1, none⟩) (World.block_lt_of_cell? _ _ p1)).trans p1
          have p2 := (hbd.cell (p := ⟨b, off + q * 6 + 2, none⟩) (World.block_lt_of_cell? _ _ p2)).trans p2
          have m0 := (hbd.cell (p := ⟨bn, 0, none⟩) (World.block_lt_of_cell? _ _ m0)).trans m0
          have m1 := (hbd.cell (p := ⟨bn, 1, none⟩) (World.block_lt_of_cell? _ _ m1)).trans m1
          clear hro hb hd hbd
          by_cases hcl : closedBy cs q = true
          · have HN1 := Lib.hid (partsTo_closed (n := k) HP.out hcl)
            have hcl' : (cs.any fun c => c == (q : Int)) = true := hcl
            rw [hcl']
            clear hcl hcl'
            go_wp2
            go_roundw
            case rel => exact ⟨q + 1, by omega, by go_num, by rw [HN1.out]; exact hro1, hb1⟩
            case measure => simp [intOf]; omega
          · have hcl : closedBy cs q = false := by simpa using hcl
            have hst := partsTo_open (n := k) HP.out hcl
            have hcl' : (cs.any fun c => c == (q : Int)) = false := hcl
            rw [hcl']
            unfold joinL getI at hst
            rw [hx, hy] at hst
            have hlen := partsTo_length (closedBy cs) k ps q
            have c1 := hro1.cellAt x (by omega)
            have c2 := hro1.cellAt y (by omega)
            rw [intsV_at _ _ (by rw [hlen]; exact hxn)] at c1
            rw [intsV_at _ _ (by rw [hlen]; exact hyn)] at c2
            simp only [Int.toNat_natCast, List.getD, List.getElem?_eq_getElem (show x < (partsTo (closedBy cs) k ps q).length by rw [hlen]; exact hxn), List.getElem?_eq_getElem (show y < (partsTo (closedBy cs) k ps q).length by rw [hlen]; exact hyn), Option.getD_some] at hst
            generalize (partsTo (closedBy cs) k ps q)[x] = u at *
            generalize (partsTo (closedBy cs) k ps q)[y] = v at *
            have HST := Lib.hid hst
            have HLEN := Lib.hid hlen
            clear hcl hcl' hx hy hst hlen
            generalize partsTo (closedBy cs) k ps q = R at *
            go_wp2
            go_quiet ((go_at_call 105; exact quiet_same (l00Min_any u v _)))
            go_wp2
            go_quiet ((go_at_call 106; exact quiet_same2 (l00Max_any u v _)))
            clear c1 c2 p1 p2 m0 m1
            generalize min u v = lo at *
            generalize max u v = hi at *
            go_wp2
            go_loopw [10] (fun i wz => ∃ j : Nat, j ≤ k ∧ i = .int .i64 j ∧ wz.ownsRow w.heap.size 2 1 (.slice (some ⟨g, 0, none⟩) k td) k (intsV (repTo R lo hi j)) ∧ Below w.heap.size w wz) (fun i _ => k - (intOf i).toNat)
            case atStart => exact ⟨0, Nat.zero_le _, rfl, by rw [repTo_zero]; exact hro1, below_drewN (below_drewN hb1 _) _⟩
            case round =>
              clear hro1 hb1
              obtain ⟨j, hj, rfl, hro, hb⟩ := hrel
              by_cases hlj : j < k
              · have hjR : j < R.length := by rw [HLEN.out]; exact hlj
                have hc1 := hro.cellAt j (by omega)
                have hf1 := hro.frozenAt j
                rw [intsV_at _ _ (by rw [repTo_length]; exact hjR)] at hc1
                have hav := repTo_at R lo hi j hjR
                rw [List.getElem?_eq_getElem (by rw [repTo_length]; exact hjR)] at hav
                rw [Option.some.inj hav] at hc1
                have HSK := Lib.hid (repTo_skip R lo hi j hjR)
                have HRP := Lib.hid (repTo_set R lo hi j hjR)
                clear hav
                generalize R[j] = z at *
                by_cases hz : z = hi
                · have hst := hro.stored j (.int .i64 lo)
                  rw [intsV_set, HRP.out hz] at hst
                  have Hst := Lib.hid hst
                  clear hst
                  have hz := hz.symm
                  subst hz
                  go_wp2
                  go_roundw
                  case rel => exact ⟨j + 1, by omega, by go_num, Hst.out.1, hb.setCell hg0 _⟩
                  case measure => simp [intOf]; omega
                · have hz1 : (z == hi) = false := by simpa using hz
                  have Hz := Lib.hid hz
                  clear hz
                  go_wp2
                  go_roundw
                  case rel => exact ⟨j + 1, by omega, by go_num, by rw [HSK.out Hz.out]; exact hro, hb⟩
                  case measure => simp [intOf]; omega
              · obtain rfl : j = R.length := by rw [HLEN.out]; omega
                rw [repTo_all, ← HST.out] at hro
                go_wp2
                go_roundw
                case rel => exact ⟨q + 1, by omega, by go_num, hro, hb⟩
                case measure => simp [intOf]; omega
        · obtain rfl : q = ps.length := by omega
          go_wp2
          go_ret
          exact retRow_mk rfl hro rfl hb

end Go.Proofs.Ytmopnkkpcgiafaa
