/-
  ReadWave of the model.
-/
import Derived.Test.YtkbkmpcdidhagacDoorRp1
import Derived.Maps.AppendAt
namespace Go.Proofs.YtkbkmpcdidhagacDoor
open Go.ChangeShapes Go.WideShapes Go.ChangeAt Go.RowKit

set_option maxRecDepth 100000
set_option maxHeartbeats 1600000
set_option linter.unusedVariables false

/-- a part, by the model -/
def mdOk (p : List UInt8) : Bool := match splitGo 58 [] p with | [a, b] => numP a && numP b | _ => false
def mdP (p : List UInt8) : Sp := match splitGo 58 [] p with | [a, b] => ⟨valP a, valP b⟩ | _ => ⟨0, 0⟩
def readW (s : ByteArray) : Option (List Sp) :=
  if (splitGo 32 [] s.data.toList).all mdOk = true ∧ okW ((splitGo 32 [] s.data.toList).map mdP) = true then some ((splitGo 32 [] s.data.toList).map mdP) else none
theorem split_all (b : UInt8) (l : List UInt8) : ∀ cur, (splitGo b cur l).length = l.length + 1 → ∀ x ∈ l, x = b := by
  induction l with
  | nil => intro cur _ x hx; cases hx
  | cons a r ih =>
    intro cur h
    have hd : splitGo b cur (a :: r) = if a = b then cur :: splitGo b [] r else splitGo b (cur ++ [a]) r := rfl
    rw [hd] at h
    split at h
    · rename_i e
      rw [List.length_cons, List.length_cons] at h
      intro x hx
      rcases List.mem_cons.1 hx with rfl | hx
      · exact e
      · exact ih [] (by omega) x hx
    · have := splitGo_length b r (cur ++ [a])
      rw [List.length_cons] at h
      omega
theorem split_short {l : List UInt8} (h : (splitGo 32 [] l).all mdOk = true) (h0 : l ≠ []) : (splitGo 32 [] l).length ≤ l.length := by
  have hl := splitGo_length 32 l []
  by_cases e : (splitGo 32 [] l).length = l.length + 1
  · have ha := split_all 32 l [] e
    cases l with
    | nil => exact absurd rfl h0
    | cons a r =>
      have hab := ha a (List.mem_cons_self ..)
      have hd : splitGo 32 [] (a :: r) = [] :: splitGo 32 [] r := by
        show (if a = 32 then _ else _) = _
        rw [if_pos hab]
      rw [hd, List.all_cons, Bool.and_eq_true] at h
      exact absurd h.1 (by decide)
  · omega
theorem ownsK_form {w : World} {base K : Nat} {E : TypeId} {v : Value} {n : Nat} {vs : List Value} (h : w.ownsRow base E K v n vs) : ∃ A c, v = .slice A n c := by
  rcases h.2 with ⟨rfl, rfl⟩ | ⟨g, cap, cur, hv, _⟩
  · exact ⟨none, 0, rfl⟩
  · exact ⟨_, _, hv⟩
theorem cell_two_new (w : World) (T : TypeId) (u0 u1 : Value) : ∀ j u, [u0, u1][j]? = some u → (w.alloc (.cells #[u0, u1] T)).cell? ((⟨w.heap.size, 0, none⟩ : Addr).add j) = some u := by
  intro j u hj
  match j, hj with
  | 0, hj => cases hj; simp [Addr.add]
  | 1, hj => cases hj; simp [Addr.add]
theorem specReadWave_any (s : ByteArray) (w : World) (hs : s.size ≤ 1048576) :
    Calls Tryd.prog 10 #[.string s] w (RetSpO (readW s) w) := by
  obtain ⟨i0, hi, hz0, hz1, hz2⟩ := info_parts infoSpR
  have hR : readW s = if (splitGo 32 [] s.data.toList).all mdOk = true ∧ okW ((splitGo 32 [] s.data.toList).map mdP) = true then some ((splitGo 32 [] s.data.toList).map mdP) else none := rfl
  have hlen := splitGo_length 32 s.data.toList []
  have hsz : s.data.toList.length ≤ 1048576 := by rw [size_list] ; exact hs
  have HP : Hid (∀ p ∈ splitGo 32 [] s.data.toList, p.length ≤ 1048576) := Lib.hid fun p hp => by have := splitGo_piece 32 s.data.toList [] p hp; simp at this; omega
  have HS := Lib.hid (fun wx => l01Split_any s 32 wx (by omega))
  have HR := Lib.hid hR
  have HSH := Lib.hid (fun (h : (splitGo 32 [] s.data.toList).all mdOk = true) => show (splitGo 32 [] s.data.toList).length ≤ 1048576 from by
    by_cases he : s.data.toList = []
    · rw [he]; exact Nat.le_trans (show (splitGo 32 [] []).length ≤ 1 from Nat.le_refl _) (by omega)
    · exact Nat.le_trans (split_short h he) hsz)
  generalize readW s = R at *
  generalize splitGo 32 [] s.data.toList = ps at *
  have hpl : ps.length ≤ 1048577 := by omega
  clear hR hlen hsz
  go_enter Tryd.func10, Tryd.ntmps10
  go_wp2_with (go_at_call 22; refine (HS.out _).mono ?_; rintro e w1 ⟨A, c, rfl, ho1, hb1⟩; rw [strsV_length] at ho1; rw [strsV_length]; have HCE := Lib.hid (owns_cells ho1); have HLI := Lib.hid (owns_lies ho1); have HB1 := Lib.hid hb1; clear ho1 hb1)
  have hoE : (w1.alloc (.cells #[] 35)).ownsRow w1.heap.size 35 2 (.slice (some ⟨w1.heap.size, 0, none⟩) 0 0) 0 [] := World.ownsRow_lit (size := 2) w1 #[] 0 (Nat.le_refl _) (Nat.zero_le _) rfl
  have hba : Below w1.heap.size w1 (w1.alloc (.cells #[] 35)) := bal (Below.refl _ _) _
  go_loopw [5, 6] (fun v i wr => ∃ (k : Nat) (B : Option Addr) (d : Nat), k ≤ ps.length ∧ i = .int .i64 k ∧ v = .slice B k d ∧ wr.ownsRow w1.heap.size 35 2 (.slice B k d) k (rowsF Sp.cs ((ps.take k).map mdP)) ∧ Hid ((ps.take k).all mdOk = true) ∧ Below w1.heap.size w1 wr ∧ Hid (∀ g, (Value.slice B k d).ownBlock = some g → w1.heap.size ≤ g)) (fun _ i _ => ps.length - (intOf i).toNat)
  case atStart => exact ⟨0, _, _, Nat.zero_le _, rfl, rfl, hoE, Lib.hid rfl, hba, Lib.hid (fun g hg => by cases hg; exact Nat.le_refl _)⟩
  case round =>
    clear hoE hba
    obtain ⟨k, B, d, hk, rfl, rfl, hro, Hall, hb, HOB⟩ := hrel
    by_cases hlt : k < ps.length
    · obtain ⟨b, o, rfl, h1⟩ := (HCE.out.next hb) (by rw [strsV_length]; omega)
      have hlb := HLI.out b o rfl
      have g1 : wr.cell? ⟨b, o + k, none⟩ = some (.string (mkB ps[k])) := by rw [h1 k (by rw [strsV_length]; exact hlt), strsV_at _ _ hlt]
      have hpk := HP.out _ (List.getElem_mem hlt)
      have Hts := Lib.hid (all_take_succ mdOk ps k hlt)
      have Hfs := Lib.hid (all_false_at mdOk ps k hlt)
      have HSP := Lib.hid (fun wx => l01Split_any (mkB ps[k]) 58 wx (by rw [mkB_size2]; omega))
      have HPI := Lib.hid (fun (q : List UInt8) (hqm : q ∈ splitGo 58 [] ps[k]) => splitGo_piece 58 ps[k] [] q hqm)
      have HMO : Hid (mdOk ps[k] = match splitGo 58 [] ps[k] with | [a, b] => numP a && numP b | _ => false) := Lib.hid rfl
      have HMP : Hid (mdP ps[k] = match splitGo 58 [] ps[k] with | [a, b] => ⟨valP a, valP b⟩ | _ => ⟨0, 0⟩) := Lib.hid rfl
      have HT1 : Hid ((ps.take (k + 1)).map mdP = (ps.take k).map mdP ++ [mdP ps[k]]) := Lib.hid (by rw [List.take_succ_eq_append_getElem hlt, List.map_append]; rfl)
      generalize ps[k] = p at *
      rw [mkB_toList] at HSP
      generalize splitGo 58 [] p = qs at *
      have HK2 : Hid (∀ (wx : World) (c : Nat) , True) := Lib.hid (fun _ _ => trivial)
      by_cases h2 : qs.length = 2
      rotate_left
      · have hno : mdOk p = false := by
          rw [HMO.out]
          split
          · simp at h2
          · rfl
        have hno2 := Hfs.out hno
        have HN : Hid (R = none) := Lib.hid (by rw [HR.out, if_neg (fun h => by rw [hno2] at h; exact absurd h.1 (by simp))])
        have h2b : ((qs.length : Int) != 2) = true := by simp; omega
        have HBB := Lib.hid (bnext HB1.out hb)
        clear hno hno2 hro hb h2
        go_wp2_with (go_at_call 22; refine (HSP.out _).mono ?_; rintro e w3 ⟨X, xc, rfl, hox, hbx⟩; rw [strsV_length] at hox; rw [strsV_length]; have HB3 := Lib.hid (bnext HBB.out hbx); clear hox hbx)
        go_ret2
        exact .inr ⟨HN.out, rfl, HB3.out⟩
      obtain ⟨a, q, rfl⟩ : ∃ a q, qs = [a, q] := by
        match qs, h2 with
        | [a, q], _ => exact ⟨a, q, rfl⟩
      have HMO2 : Hid (mdOk p = (numP a && numP q)) := Lib.hid HMO.out
      have HMP2 : Hid (mdP p = ⟨valP a, valP q⟩) := Lib.hid HMP.out
      have ha := HPI.out a (by simp)
      have hq := HPI.out q (by simp)
      have HN1 := Lib.hid (fun wx => show Calls Tryd.prog 23 #[.string (mkB a)] wx fun e w' => e = .returned (.tuple #[.int .i64 (valP a), .bool (numP a)]) ∧ wx = w' from by
        have h := specReadDecimal_any (mkB a) wx (by rw [mkB_size2]; unfold maxLen; simp at ha; omega)
        rw [mkB_toList, decT_eq] at h
        exact h)
      have HN2 := Lib.hid (fun wx => show Calls Tryd.prog 23 #[.string (mkB q)] wx fun e w' => e = .returned (.tuple #[.int .i64 (valP q), .bool (numP q)]) ∧ wx = w' from by
        have h := specReadDecimal_any (mkB q) wx (by rw [mkB_size2]; unfold maxLen; simp at hq; omega)
        rw [mkB_toList, decT_eq] at h
        exact h)
      clear ha hq HMO HMP
      have HSP2 : Hid (∀ wx, Calls Tryd.prog 22 #[.string (mkB p), .int .u8 58] wx (RetRow 9 [.string (mkB a), .string (mkB q)] wx)) := Lib.hid HSP.out
      generalize mkB a = sa at *
      generalize mkB q = sq at *
      generalize valP a = va at *
      generalize valP q = vq at *
      clear HPI HSP h2
      have tok : True := trivial
      cases hn : (numP a && numP q)
      · have hno : mdOk p = false := by rw [HMO2.out, hn]
        have hno2 := Hfs.out hno
        have HN : Hid (R = none) := Lib.hid (by rw [HR.out, if_neg (fun h => by rw [hno2] at h; exact absurd h.1 (by simp))])
        have HBB := Lib.hid (bnext HB1.out hb)
        generalize numP a = na at *
        generalize numP q = nq at *
        clear hno hno2 hro hb
        cases na
        · go_wp2_with (first | (go_at_call 22; refine (HSP2.out _).mono ?_; rintro e w3 ⟨X, xc, rfl, hox, hbx⟩; obtain ⟨xb, xo, rfl, hx⟩ := (owns_cells hox) (by simp); have x0 : w3.cell? ⟨xb, xo, none⟩ = some (.string sa) := hx 0 (by simp); have x1 : w3.cell? ⟨xb, xo + 1, none⟩ = some (.string sq) := hx 1 (by simp); have HB3 := Lib.hid (bnext HBB.out hbx); have HBX := Lib.hid hbx; clear hox hbx hx) | (go_at_call 23; clear tok; refine (HN1.out _).mono ?_; rintro e w' ⟨rfl, rfl⟩) | (go_at_call 23; refine (HN2.out _).mono ?_; rintro e w' ⟨rfl, rfl⟩))
          go_ret2
          exact .inr ⟨HN.out, rfl, HB3.out⟩
        · have hnq : nq = false := by simpa using hn
          subst hnq
          go_wp2_with (first | (go_at_call 22; refine (HSP2.out _).mono ?_; rintro e w3 ⟨X, xc, rfl, hox, hbx⟩; obtain ⟨xb, xo, rfl, hx⟩ := (owns_cells hox) (by simp); have x0 : w3.cell? ⟨xb, xo, none⟩ = some (.string sa) := hx 0 (by simp); have x1 : w3.cell? ⟨xb, xo + 1, none⟩ = some (.string sq) := hx 1 (by simp); have HB3 := Lib.hid (bnext HBB.out hbx); have HBX := Lib.hid hbx; clear hox hbx hx) | (go_at_call 23; clear tok; refine (HN1.out _).mono ?_; rintro e w' ⟨rfl, rfl⟩) | (go_at_call 23; refine (HN2.out _).mono ?_; rintro e w' ⟨rfl, rfl⟩))
          go_ret2
          exact .inr ⟨HN.out, rfl, HB3.out⟩
      · rw [Bool.and_eq_true] at hn
        have HALL : Hid ((ps.take (k + 1)).all mdOk = true) := Lib.hid (by rw [Hts.out, Hall.out, HMO2.out, hn.1, hn.2]; rfl)
        rw [hn.1] at HN1
        rw [hn.2] at HN2
        have HBB := Lib.hid hb
        have HRO := Lib.hid hro
        clear hn hro hb
        have HTV : Hid (rowsF Sp.cs ((ps.take k).map mdP) ++ [Value.int .i64 va, Value.int .i64 vq] = rowsF Sp.cs ((ps.take (k + 1)).map mdP)) := Lib.hid (by rw [HT1.out, HMP2.out, rowsF_append]; rfl)
        go_upto_region 13 with (first | (go_at_call 22; refine (HSP2.out _).mono ?_; rintro e w3 ⟨X, xc, rfl, hox, hbx⟩; obtain ⟨xb, xo, rfl, hx⟩ := (owns_cells hox) (by simp); have x0 : w3.cell? ⟨xb, xo, none⟩ = some (.string sa) := hx 0 (by simp); have x1 : w3.cell? ⟨xb, xo + 1, none⟩ = some (.string sq) := hx 1 (by simp); have HB3 := Lib.hid (bnext HBB.out hbx); have HBX := Lib.hid hbx; clear hox hbx hx) | (go_at_call 23; clear tok; refine (HN1.out _).mono ?_; rintro e w' ⟨rfl, rfl⟩) | (go_at_call 23; refine (HN2.out _).mono ?_; rintro e w' ⟨rfl, rfl⟩))
        have hbx := HBX.out
        have hro3 := rowsF_below HRO.out hbx (Nat.le_refl _)
        have hb3 := HB3.out
        clear hbx x0 x1
        go_wp2_with (at_builtin; refine wpList_append_own_at _ rfl _ _ 25 rfl w1.heap.size 35 i0 (.agg #[.int .i64 0, .int .i64 0]) 2 16 Tryd.underlying25 hi hz0 hz1 hz2 rfl (by decide) _ _ _ rfl (hro3.alloc _) ⟨w3.heap.size, 0, none⟩ 1 1 [.int .i64 va, .int .i64 vq] rfl rfl (cell_two_new _ _ _ _) (by simp [Value.oneCell']) ?_ ?_ ?_ ?_; (unfold maxLen; omega); (omega); (have := hb3.size; simp; omega); intro v4 w4 hown4 hgrow4 _ hown4b; obtain ⟨B4, d4, rfl⟩ : ∃ A c, v4 = .slice A (k + 1) c := ownsK_form hown4)
        rw [HTV.out] at hown4
        have hb4 := (bal hb3 (.cells #[.int .i64 va, .int .i64 vq] 35)).grown hgrow4 (by have := hb3.size; simp; omega) (fun g hg => HOB.out g hg)
        have HOB4 : Hid (∀ g, (Value.slice B4 (k + 1) d4).ownBlock = some g → w1.heap.size ≤ g) := Lib.hid (fun g hg => by
          rcases hown4b with h | h
          · rw [h] at hg
            exact HOB.out g hg
          · rw [h] at hg
            have := Option.some.inj hg
            have := hb3.size
            simp at *
            omega)
        go_roundw
        case rel => exact ⟨k + 1, B4, d4, by omega, by go_num, rfl, hown4, HALL, hb4, HOB4⟩
        case measure => simp [intOf]; omega
    · obtain rfl : k = ps.length := by omega
      rw [List.take_length] at Hall hro
      have hcR := rowsF_owned hro
      have hall := Hall.out
      have hlm : (ps.map mdP).length = ps.length := List.length_map ..
      have HRO := Lib.hid hro
      have HBB := Lib.hid hb
      by_cases hbig : ps.length ≤ 1048576
      rotate_left
      · exact absurd (HSH.out hall) hbig
      have hok : SpsOk wr B ps.length (ps.map mdP) := ⟨⟨hlm, by unfold maxLen; omega, hcR, fun _ _ => trivial⟩, hbig⟩
      have HVR := Lib.hid (l09Ok_any B ps.length d (ps.map mdP) wr hok)
      clear hcR hok hro hb
      by_cases hv : okW (ps.map mdP) = true
      · have HN : Hid (R = some (ps.map mdP)) := Lib.hid (by rw [HR.out, if_pos ⟨hall, hv⟩])
        rw [hv] at HVR
        clear hv hall
        go_wp2_with (go_at_call 14; refine HVR.out.mono ?_; rintro e w5 ⟨rfl, ⟨dd, rfl⟩⟩)
        go_ret2
        refine .inl ⟨_, HN.out, B, d, by rw [List.length_map]; rfl, ?_, bnext HB1.out (below_drewN HBB.out dd)⟩
        rw [List.length_map]
        exact ownsP_base (rowsF_below HRO.out (below_drewN (Below.refl wr.heap.size wr) dd) (Nat.le_refl _)) HB1.out.size
      · have hv : okW (ps.map mdP) = false := by simpa only [Bool.not_eq_true] using hv
        have HN : Hid (R = none) := Lib.hid (by rw [HR.out, if_neg (fun h => by rw [hv] at h; exact absurd h.2 (by simp))])
        rw [hv] at HVR
        clear hv hall
        go_wp2_with (go_at_call 14; refine HVR.out.mono ?_; rintro e w5 ⟨rfl, ⟨dd, rfl⟩⟩)
        go_ret2
        exact .inr ⟨HN.out, rfl, bnext HB1.out (below_drewN HBB.out dd)⟩

end Go.Proofs.YtkbkmpcdidhagacDoor
