/-
  NetworkText of both sides.
-/
import Derived.Test.YtmopnkkpcgiafabDoorZ6
namespace Go.Proofs.YtmopnkkpcgiafabDoor
open Go.ChangeShapes Go.WideShapes Go.ChangeAt Go.RowKit
set_option maxRecDepth 100000
set_option linter.unusedVariables false

theorem specNetworkText_any (A B : Option Addr) (c d : Nat) (z : List Int) (ps : List Pp) (w : World) (h : NetCells w A z B ps) (hn : z.length ≤ 1048576) (hm : ps.length ≤ 1048576) (hid : ∀ p ∈ ps, p.id.size ≤ maxLen) :
    Calls Tryd.prog 5 #[.agg #[.slice A z.length c, .slice B ps.length d]] w fun e w' => e = .returned (.string (netTextB z ps)) ∧ Below w.heap.size w w' := by
  have hN := NetAt.new w A z.length c B ps.length d 30
  have hb : Below w.heap.size w (w.alloc (.cells #[.slice A z.length c, .slice B ps.length d] 30)) := bal (Below.refl _ _) _
  have HO := Lib.hid (l04Ok_any w.heap.size A z.length c B ps.length d z ps _ hN rfl rfl hn hm (h.next hb).1 (h.next hb).2 hid)
  have HC := Lib.hid h
  clear h hid
  by_cases hv : netB z ps = true
  · have HE : Hid (netTextB z ps = netText z ps ps.length) := Lib.hid (if_pos hv)
    rw [hv] at HO
    have HV := Lib.hid hv
    clear hv
    go_enter Tryd.func5, Tryd.ntmps5
    go_wp2_with fail
    refine HO.out.mono ?_
    rintro e w1 ⟨rfl, hd⟩
    have hb1 := drawn_below hd
    have hN := hN.next hb1
    have hc := bnext hb hb1
    clear hb1 hd
    go_wp2_with fail
    refine (l04Text_any w.heap.size A B c d z ps w1 hN (HC.out.1.next hc) (HC.out.2.next hc) HV.out).mono ?_
    rintro e w2 ⟨rfl, hb2⟩
    go_wp2
    go_ret
    exact ⟨by rw [HE.out]; rfl, bnext hc hb2⟩
  · have hv : netB z ps = false := by simpa using hv
    have HE : Hid (netTextB z ps = ⟨#[]⟩) := Lib.hid (by unfold netTextB; rw [hv]; rfl)
    rw [hv] at HO
    clear hv
    go_enter Tryd.func5, Tryd.ntmps5
    go_wp2_with fail
    refine HO.out.mono ?_
    rintro e w1 ⟨rfl, hd⟩
    have hc := bnext hb (drawn_below hd)
    go_wp2
    go_ret
    exact ⟨by rw [HE.out]; rfl, hc⟩

/-- the parts of a network's text up to its k-th pipe -/
def partsN (z : List Int) (ps : List Pp) (k : Nat) : List ByteArray := mkB (listL z) :: (ps.take k).map Pp.tx
theorem partsN_length (z : List Int) (ps : List Pp) (k : Nat) (h : k ≤ ps.length) : (partsN z ps k).length = k + 1 := by
  unfold partsN
  rw [List.length_cons, List.length_map, List.length_take]
  omega
theorem partsN_succ {z : List Int} {ps : List Pp} {k : Nat} {p : Pp} (h : ps[k]? = some p) : partsN z ps (k + 1) = partsN z ps k ++ [p.tx] := by
  unfold partsN
  obtain ⟨hl, he⟩ := List.getElem?_eq_some_iff.1 h
  rw [List.take_succ_eq_append_getElem hl, List.map_append, he]
  rfl
theorem partsN_join (z : List Int) (ps : List Pp) (k : Nat) (hk : k ≤ ps.length) : mkB (Lib.join ((partsN z ps k).map (·.data.toList)) [47]) = netText z ps k := by
  have e : ∀ k, (partsN z ps k).map (·.data.toList) = listL z :: (ps.map fun p => p.tx.data.toList).take k := by
    intro k
    unfold partsN
    rw [List.map_cons, List.map_map, ← List.map_take]
    rfl
  induction k with
  | zero => rw [e 0]; show mkB (Lib.join [listL z] [47]) = _; rw [Lib.join_one]; rfl
  | succ k ih =>
    have hp : ps[k]? = some ps[k] := List.getElem?_eq_getElem (by omega)
    have hr : (ps.map fun p => p.tx.data.toList)[k]? = some ps[k].tx.data.toList := by rw [List.getElem?_map, hp]; rfl
    have ih := ih (by omega)
    rw [e k, Lib.join_cons] at ih
    rw [e (k + 1), Lib.join_cons, Lib.joinTail_take_succ _ _ _ _ hr, netText_at hp, ← ih]
    rw [← List.append_assoc, ← List.append_assoc, mkB_append, mkB_append, ByteArray.append_assoc]
    have : mkB ps[k].tx.data.toList = ps[k].tx := mkB_list _
    rw [this]
    rfl
theorem join47_any (g n c : Nat) (xs : List ByteArray) (w : World) (hx : xs.length = n) (h0 : 0 < n) (hc : CellsAt w (some ⟨g, 0, none⟩) (xs.map Value.string)) (hcap : n ≤ c) (hN : n ≤ 140737488355328)
    (hlen : (Lib.join (xs.map (·.data.toList)) [47]).length ≤ 140737488355328) :
    Calls Tryd.prog 18 #[.slice (some ⟨g, 0, none⟩) n c, .string ⟨#[47]⟩] w fun e w' => e = .returned (.string (mkB (Lib.join (xs.map (·.data.toList)) [47]))) ∧ Below w.heap.size w w' := by
  subst hx
  have hl := CellsAt.lies hc (by rw [List.length_map]; exact h0)
  obtain ⟨b, o, e, h1⟩ := hc (by rw [List.length_map]; exact h0)
  injection e with e
  injection e with e1 e2
  subst e1; subst e2
  exact Tryd.strings_Join g 0 c xs ⟨#[47]⟩ w (fun j x hj => by
    have hjl := (List.getElem?_eq_some_iff.1 hj).1
    rw [h1 j (by rw [List.length_map]; exact hjl)]
    simp [hj]) hl hN hcap hlen

set_option maxHeartbeats 1600000 in
theorem implNetworkText_any (A B : Option Addr) (c d : Nat) (z : List Int) (ps : List Pp) (w : World) (h : NetCells w A z B ps) (hn : z.length ≤ 1048576) (hm : ps.length ≤ 1048576) (hid : ∀ p ∈ ps, p.id.size ≤ maxLen) (hpt : PowTab w) :
    Calls Tryd.prog 7 #[.agg #[.slice A z.length c, .slice B ps.length d]] w fun e w' => e = .returned (.string (netTextB z ps)) ∧ Below w.heap.size w w' := by
  have hN := NetAt.new w A z.length c B ps.length d 30
  have hb : Below w.heap.size w (w.alloc (.cells #[.slice A z.length c, .slice B ps.length d] 30)) := bal (Below.refl _ _) _
  have HO := Lib.hid (implValidNet_any A z.length c B ps.length d z ps _ rfl rfl hn hm (h.next hb).1 (h.next hb).2 hid)
  have HC := Lib.hid h
  have HD := Lib.hid hid
  have HT := Lib.hid hpt
  clear h hid hpt
  have ⟨n0, n1⟩ := hN
  by_cases hv : netB z ps = true
  · have HE : Hid (netTextB z ps = netText z ps ps.length) := Lib.hid (if_pos hv)
    rw [hv] at HO
    have HV := Lib.hid hv
    have hm20 := (netB_parts hv).2.2.1
    have hn16 := (netB_parts hv).1
    clear hv
    obtain ⟨i0, hi, hz0, hz1, hz2⟩ := info_parts infoStr
    go_enter Tryd.func7, Tryd.ntmps7
    go_wp2_with fail
    refine HO.out.mono ?_
    rintro e w1 ⟨rfl, hb1⟩
    have hN := hN.next hb1
    have hc := bnext hb hb1
    clear hb1 n0 n1
    have ⟨n0, n1⟩ := hN
    go_wp2_with fail
    refine (implListText_any A c z.length z w1 rfl (by unfold maxLen; omega) (HC.out.1.next hc) (HT.out.next hc)).mono ?_
    rintro e w2 ⟨rfl, hb2⟩
    have hN := hN.next hb2
    have hc := bnext hc hb2
    have hro : (w2.alloc (.cells #[.string (mkB (listL z))] 9)).ownsRow w2.heap.size 9 1 (.slice (some ⟨w2.heap.size, 0, none⟩) 1 1) 1 [.string (mkB (listL z))] := World.ownsRow_lit (size := 1) w2 #[.string (mkB (listL z))] 1 (Nat.le_refl _) (by unfold maxLen; omega) rfl
    have hro := owns_base hro hc.size
    have HR := Lib.hid hro
    have hc3 := bal hc (.cells #[.string (mkB (listL z))] 9)
    have hN := hN.next (bal (Below.refl _ _) (.cells #[.string (mkB (listL z))] 9))
    clear hb2 n0 n1 hro hb hc
    have ⟨n0, n1⟩ := hN
    go_wp2
    go_loopw [3, 16] (fun v i wr => ∃ (k : Nat) (T : Option Addr) (td : Nat), k ≤ ps.length ∧ i = .int .i64 k ∧ v = .slice T (k + 1) td ∧ wr.ownsRow w.heap.size 9 1 (.slice T (k + 1) td) (k + 1) ((partsN z ps k).map Value.string) ∧ Below w.heap.size w wr) (fun _ i _ => ps.length - (intOf i).toNat)
    case atStart => exact ⟨0, _, _, Nat.zero_le _, rfl, rfl, HR.out, hc3⟩
    case round =>
      clear n0 n1 hN
      obtain ⟨k, T, td, hk, rfl, rfl, hro, hb⟩ := hrel
      have HRO := Lib.hid hro
      by_cases hlt : k < ps.length
      · obtain ⟨b2, o2, rfl, hrow⟩ := pipe_at HC.out.2 (by omega)
        have hp := List.getElem?_eq_getElem hlt
        have P := (hrow k _ hp).next hb
        have hok := ok_of_fit (netB_parts HV.out).2.2.2.1 hp
        have hs := HD.out _ (List.getElem_mem hlt)
        have hsu := partsN_succ (z := z) hp
        have HPT : Hid (∀ wx, PowTab wx → Calls Tryd.prog 17 #[.agg #[.string ps[k].id, .int .i64 ps[k].f, .int .i64 ps[k].t, .int .i64 ps[k].L, .int .i64 ps[k].d, .int .i64 ps[k].s]] wx fun e w' => e = .returned (.string ps[k].tx) ∧ Below wx.heap.size wx w') := Lib.hid (fun wx hx => by
          have := implPipeText_any ps[k].id ps[k].f ps[k].t ps[k].L ps[k].d ps[k].s wx hs hx
          unfold textB at this
          rw [if_pos hok] at this
          exact this)
        clear hok hrow hp hs
        generalize ps[k] = p at *
        generalize p.tx = q at *
        have Hsu := Lib.hid hsu
        clear hsu
        have ⟨p0, p1, p2, p3, p4, p5⟩ := P
        go_wp2_with fail
        refine (HPT.out _ (HT.out.next (bal hb (.cells #[.string p.id, .int .i64 p.f, .int .i64 p.t, .int .i64 p.L, .int .i64 p.d, .int .i64 p.s] 45)))).mono ?_
        rintro e w4 ⟨rfl, hb4⟩
        have hro4 := owns_below (HRO.out.alloc (.cells #[.string p.id, .int .i64 p.f, .int .i64 p.t, .int .i64 p.L, .int .i64 p.d, .int .i64 p.s] 45)) hb4 (Nat.le_refl _)
        have hb5 := bnext (bal hb (.cells #[.string p.id, .int .i64 p.f, .int .i64 p.t, .int .i64 p.L, .int .i64 p.d, .int .i64 p.s] 45)) hb4
        clear p0 p1 p2 p3 p4 p5 P hro hb4 hb
        go_wp2_with (at_builtin; refine wpList_append_own _ rfl _ _ 43 rfl w.heap.size 9 i0 (.string ⟨#[]⟩) 1 16 Tryd.underlying43 hi hz0 hz1 hz2 rfl (by decide) _ _ _ rfl (hro4.alloc _) ⟨w4.heap.size, 0, none⟩ 1 1 [.string q] rfl rfl (cell_one_new _ _ _) (by simp [Value.oneCell']) ?_ ?_ ?_ ?_; (unfold maxLen; omega); (omega); (have := hb5.size; simp; omega); intro v1 w5 hown1 hgrow1 _; obtain ⟨A1, c1, rfl⟩ := owns_form hown1)
        go_roundw
        case rel => exact ⟨k + 1, A1, c1, by omega, by go_num, rfl, by rw [Hsu.out, List.map_append]; exact hown1, (hb5.alloc hb5.size _).grown hgrow1 (by have := hb5.size; simp; omega) (owns_ge hro4)⟩
        case measure => simp [intOf]; omega
      · have e : k = ps.length := by omega
        subst e
        have hcl := owns_cells hro
        obtain ⟨g, rfl, hcap⟩ : ∃ g, T = some ⟨g, 0, none⟩ ∧ ps.length + 1 ≤ td := by
          rcases hro.2 with ⟨hv, h0⟩ | ⟨g, cap, cur, hv, h1, h2, h3, h4⟩
          · cases hv
          · cases hv
            exact ⟨g, rfl, by omega⟩
        have hjo := partsN_join z ps ps.length (Nat.le_refl _)
        have hlen : (Lib.join ((partsN z ps ps.length).map (·.data.toList)) [47]).length ≤ 140737488355328 := by
          have h1 := netText_small HV.out ps.length
          rw [← hjo, mkB_size] at h1
          omega
        have HJ := Lib.hid (join47_any g (ps.length + 1) td (partsN z ps ps.length) wr (partsN_length _ _ _ (Nat.le_refl _)) (by omega) hcl hcap (by omega) hlen)
        rw [hjo] at HJ
        clear hcl hjo hlen hro HRO
        go_wp2_with fail
        refine HJ.out.mono ?_
        rintro e w4 ⟨rfl, hb4⟩
        go_wp2
        go_ret
        exact ⟨by rw [HE.out]; rfl, bnext hb hb4⟩
  · have hv : netB z ps = false := by simpa using hv
    have HE : Hid (netTextB z ps = ⟨#[]⟩) := Lib.hid (by unfold netTextB; rw [hv]; rfl)
    rw [hv] at HO
    clear hv
    go_enter Tryd.func7, Tryd.ntmps7
    go_wp2_with fail
    refine HO.out.mono ?_
    rintro e w1 ⟨rfl, hb1⟩
    have hc := bnext hb hb1
    go_wp2
    go_ret
    exact ⟨by rw [HE.out]; rfl, hc⟩

end Go.Proofs.YtmopnkkpcgiafabDoor
