/-
  The model's l01Dec and both Decimal: a number in decimal.
-/
import Derived.Test.YtkbkmpcdidhagacDoorG1
import Derived.Test.YtkbkmpcdidhagacDoorShelf
import Derived.Lib.ItoaNum
import Derived.Lib.AppendIntMem
namespace Go.Proofs.YtkbkmpcdidhagacDoor
open Go.ChangeShapes Go.WideShapes Go.ChangeAt Go.RowKit

theorem infoU8 : (Tryd.prog.info? 5).map (fun i => (i.zero, i.size, i.bytes)) = some (some (.int .u8 0), 1, 1) := by kernel_rfl
/-- bytes as cells -/
def bytesV (l : List UInt8) : List Value := l.map fun b => Value.int .u8 (b.toNat : Int)
theorem bytesV_length (l : List UInt8) : (bytesV l).length = l.length := by simp [bytesV]
theorem bytesV_at (l : List UInt8) (k : Nat) (h : k < l.length) : (bytesV l)[k]? = some (Value.int .u8 (l[k].toNat : Int)) := by simp [bytesV, h]
theorem bytesV_snoc (l : List UInt8) (b : UInt8) : bytesV (l ++ [b]) = bytesV l ++ [Value.int .u8 (b.toNat : Int)] := by simp [bytesV]
theorem strOfNums_bytes (l : List UInt8) : strOfNums (l.map fun b => (b.toNat : Int)) = mkB l := by
  unfold strOfNums mkB
  rw [List.map_map]
  congr 2
  have : (fun n : Int => UInt8.ofNat n.toNat) ∘ (fun b : UInt8 => (b.toNat : Int)) = id := by
    funext b; simp
  rw [this, List.map_id]

/-- string(b) of a slice of bytes that is known whole -/
theorem conv_bytes (w : World) (A : Option Addr) (c n : Nat) (l : List UInt8) (hl : l.length = n) (h0 : 0 < n) (hc : CellsAt w A (bytesV l)) :
    (convert 70 9 (.slice A n c)).run Tryd.prog w = .ok (.string (mkB l)) w := by
  obtain ⟨b, o, rfl, h⟩ := hc (by rw [bytesV_length]; omega)
  have := run_convert_bytes_arg (P := Tryd.prog) w _ 5 Tryd.underlying70 Tryd.underlying5 b o n c (l.map fun b => (b.toNat : Int)) (by simpa using hl) (fun i hi => by
    rw [h i (by rw [bytesV_length]; omega), bytesV_at _ _ (by omega)]
    simp [List.getD, show i < l.length by omega]) _ Tryd.underlying9
  rw [strOfNums_bytes] at this
  exact this

def decHead (M : Nat) : List UInt8 := if M = 0 then [] else Lib.decDigits M
theorem decHead_step (M : Nat) (h : M ≠ 0) : decHead M = decHead (M / 10) ++ [UInt8.ofNat (48 + M % 10)] := by
  unfold decHead
  rw [if_neg h]
  by_cases h10 : M < 10
  · rw [Lib.decDigits, dif_pos h10, if_pos (by omega)]
    congr 2
    omega
  · rw [Lib.decDigits, dif_neg h10, if_neg (by omega)]
theorem digit_cell (M : Nat) : ((UInt8.ofNat (48 + M % 10)).toNat : Int) = 48 + (M : Int) % 10 := by
  have : (UInt8.ofNat (48 + M % 10)).toNat = 48 + M % 10 := by
    rw [UInt8.toNat_ofNat']; omega
  rw [this]; omega

theorem nDigits_pos (n : Nat) : 1 ≤ Lib.nDigits n := by
  rw [Lib.nDigits]; split <;> omega

theorem l01Dec_zero (w : World) :
    Calls Tryd.prog 30 #[.int .i64 0] w fun e w' => e = .returned (.string (mkB (Lib.itoa 0))) ∧ Below w.heap.size w w' := by
  have H : Hid (mkB (Lib.itoa 0) = ⟨#[48]⟩) := Lib.hid (by
    have e : Lib.itoa 0 = Lib.decDigits 0 := if_neg (by omega)
    rw [e, Lib.decDigits, dif_pos (by omega)]
    rfl)
  go_enter Tryd.func30, Tryd.ntmps30
  go_wp2
  go_ret
  exact ⟨by rw [H.out]; rfl, Below.refl _ _⟩

set_option maxRecDepth 100000 in
set_option maxHeartbeats 1600000 in
theorem l01Dec_pos (N : Nat) (w : World) (h0 : 1 ≤ N) (h1 : N ≤ 9223372036854775807) :
    Calls Tryd.prog 30 #[.int .i64 (N : Int)] w fun e w' => e = .returned (.string (mkB (Lib.decDigits N))) ∧ Below w.heap.size w w' := by
  obtain ⟨i0, hi, hz0, hz1, hz2⟩ := info_parts infoU8
  have hz' : ((N : Int) == 0) = false := by rw [beq_eq_false_iff_ne]; omega
  go_enter Tryd.func30, Tryd.ntmps30
  go_wp2
  go_loopw [3, 4, 5] (fun v m _ wr => ∃ (M f k : Nat) (A : Option Addr) (c : Nat) (acc : List UInt8), m = .int .i64 (M : Int) ∧ v = .slice A k c ∧ k + f ≤ 20 ∧ Hid (acc.length = k) ∧ Hid (M < 10 ^ f) ∧
      wr.ownsRow w.heap.size 5 1 (.slice A k c) k (bytesV acc) ∧ Hid (Lib.decDigits N = decHead M ++ acc.reverse) ∧ M ≤ 9223372036854775807 ∧ Below w.heap.size w wr) (fun _ m _ _ => (intOf m).toNat)
  case atStart => exact ⟨N, 20, 0, _, _, [], rfl, rfl, by omega, Lib.hid rfl, Lib.hid (by omega), owns_empty _ _ _ (Nat.le_refl _), Lib.hid (by unfold decHead; rw [if_neg (by omega)]; simp), by omega, (Below.refl _ _).alloc (Nat.le_refl _) _⟩
  case round =>
    obtain ⟨M, f, k, A, c, acc, rfl, rfl, hkf, Hl, Hf, hro, Hd, hM, hbl⟩ := hrel
    by_cases hM0 : M = 0
    · have hMi : (M : Int) = 0 := by omega
      rw [hMi]
      clear hMi
      have Hd' : Hid (Lib.decDigits N = acc.reverse) := Lib.hid (by have := Hd.out; rw [hM0] at this; simpa [decHead] using this)
      have hdec : decide ((N : Int) < 0) = false := by simp
      clear hM0 hM
      clear Hf Hd
      have hk0 : 1 ≤ k := by
        have h1 := congrArg List.length Hd'.out
        rw [List.length_reverse, Hl.out, Lib.decDigits_length] at h1
        have h2 := nDigits_pos N
        omega
      go_wp2
      have hownR := hro
      have hbW := hbl
      have hfin : Hid (acc.reverse = Lib.decDigits N) := Lib.hid Hd'.out.symm
      have hDL := Hl
      obtain ⟨wo, rfl⟩ : ∃ wo : World, wo = wr := ⟨_, rfl⟩
      have hcells := owns_cells hownR
      have hlies := owns_lies hownR
      generalize acc = D at *
      obtain ⟨b, o, hA, hc⟩ := hcells (by rw [bytesV_length, hDL.out]; omega)
      have hlb := hlies b o hA
      subst hA
      clear hlies
      go_loopw [6, 7] (fun v i w3 => ∃ (t j : Nat) (B : Option Addr) (d : Nat), t + j = k ∧ i = .int .i64 ((t : Int) - 1) ∧ v = .slice B j d ∧ w3.ownsRow wo.heap.size 5 1 (.slice B j d) j (bytesV (D.drop t).reverse) ∧ Below wo.heap.size wo w3) (fun _ i _ => (intOf i + 1).toNat)
      case atStart => exact ⟨k, 0, _, _, rfl, by go_num, rfl, by rw [List.drop_of_length_le (by rw [hDL.out]; exact Nat.le_refl _)]; exact owns_empty _ _ _ (Nat.le_refl _), (Below.refl _ _).alloc (Nat.le_refl _) _⟩
      case round =>
        obtain ⟨t, j, B, d, htj, rfl, rfl, hro3, hbl3⟩ := hrel
        have Htj := Lib.hid htj
        have htl : t ≤ k := by omega
        have hjl : j ≤ k := by omega
        clear htj
        by_cases ht : 1 ≤ t
        · have hlt : t - 1 < D.length := by rw [hDL.out]; omega
          have g1 : wr.cell? ⟨b, o + (t - 1), none⟩ = some (.int .u8 (D[t - 1].toNat : Int)) := by
            rw [hbl3.cell (p := ⟨b, o + (t - 1), none⟩) hlb, hc (t - 1) (by rw [bytesV_length]; exact hlt), bytesV_at _ _ hlt]
          have hdr : Hid (bytesV (D.drop (t - 1)).reverse = bytesV (D.drop t).reverse ++ [Value.int .u8 (D[t - 1].toNat : Int)]) := Lib.hid (by
            rw [List.drop_eq_getElem_cons hlt, List.reverse_cons, bytesV_snoc, show t - 1 + 1 = t by omega])
          generalize (D[t - 1].toNat : Int) = x at *
          have Hlt := Lib.hid hlt
          clear hc hlt
          go_wp2_with (at_builtin; refine wpList_append_own _ rfl (.tmp 41) (.tmp 46) 70 rfl wo.heap.size 5 i0 (.int .u8 0) 1 1 Tryd.underlying70 hi hz0 hz1 hz2 rfl (by decide) _ _ _ rfl (hro3.alloc _) ⟨wr.heap.size, 0, none⟩ 1 1 [.int .u8 x] rfl rfl (cell_one_new _ _ _) (by simp [Value.oneCell']) ?_ ?_ ?_ ?_; (unfold maxLen; omega); (omega); (have := hbl3.size; simp; omega); intro v4 w4 hown4 hgrow4 _; obtain ⟨A4, c4, rfl⟩ := owns_form hown4)
          go_roundw
          case rel => exact ⟨t - 1, j + 1, A4, c4, by have := Htj.out; omega, by go_num, rfl, by rw [hdr.out]; exact hown4, (hbl3.alloc hbl3.size _).grown hgrow4 (by have := hbl3.size; simp; omega) (owns_ge hro3)⟩
          case measure => simp only [intOf]; omega
        · have e : t = 0 := by omega
          subst e
          have hj1 : 0 < j := by have := Htj.out; omega
          rw [List.drop_zero, hfin.out] at hro3
          have hcv := fun wx (hx : wx = wr) => conv_bytes wx B d j _ (owns_len hro3 |> fun h => by rw [bytesV_length] at h; exact h) hj1 (hx ▸ owns_cells hro3)
          have hcv' := hcv wr rfl
          clear hcv
          go_wp2
          go_ret
          exact ⟨rfl, bnext hbW hbl3⟩
    · have hf : 0 < f := by
        rcases Nat.eq_zero_or_pos f with e | e
        · subst e; have := Hf.out; omega
        · exact e
      obtain ⟨f, rfl⟩ : ∃ g, f = g + 1 := ⟨f - 1, by omega⟩
      have Hs := Lib.hid (decHead_step M hM0)
      have Hc := Lib.hid (digit_cell M)
      have hne : ((M : Int) != 0) = true := by rw [bne_iff_ne]; omega
      have hM1 : 1 ≤ M := by omega
      clear hM0
      go_wp2_with (at_builtin; refine wpList_append_own _ rfl (.tmp 22) (.tmp 26) 70 rfl w.heap.size 5 i0 (.int .u8 0) 1 1 Tryd.underlying70 hi hz0 hz1 hz2 rfl (by decide) _ _ _ rfl (hro.alloc _) ⟨wr.heap.size, 0, none⟩ 1 1 [.int .u8 (48 + (M : Int) % 10)] rfl rfl (cell_one_new _ _ _) (by simp [Value.oneCell']) ?_ ?_ ?_ ?_; (unfold maxLen; omega); (omega); (have := hbl.size; simp; omega); intro v1 w1 hown1 hgrow1 _; obtain ⟨A1, c1, rfl⟩ := owns_form hown1)
      go_roundw
      case rel =>
        refine ⟨M / 10, f, k + 1, A1, c1, acc ++ [UInt8.ofNat (48 + M % 10)], by go_num, rfl, by omega, Lib.hid (by rw [List.length_append, Hl.out]; rfl), Lib.hid (by have := Hf.out; rw [Nat.pow_succ] at this; omega), ?_, Lib.hid (by rw [Hd.out, Hs.out]; simp), by omega, (hbl.alloc hbl.size _).grown hgrow1 (by have := hbl.size; simp; omega) (owns_ge hro)⟩
        rw [bytesV_snoc, Hc.out]
        exact hown1
      case measure => simp only [intOf]; omega

set_option maxRecDepth 100000 in
set_option maxHeartbeats 1600000 in
theorem l01Dec_neg (N : Nat) (w : World) (h0 : 1 ≤ N) (h1 : N ≤ 9223372036854775808) :
    Calls Tryd.prog 30 #[.int .i64 (-(N : Int))] w fun e w' => e = .returned (.string (mkB (45 :: Lib.decDigits N))) ∧ Below w.heap.size w w' := by
  obtain ⟨i0, hi, hz0, hz1, hz2⟩ := info_parts infoU8
  have hz' : ((-(N : Int)) == 0) = false := by rw [beq_eq_false_iff_ne]; omega
  go_enter Tryd.func30, Tryd.ntmps30
  go_wp2
  go_loopw [3, 4, 5] (fun v m _ wr => ∃ (M f k : Nat) (A : Option Addr) (c : Nat) (acc : List UInt8), m = .int .i64 (-(M : Int)) ∧ v = .slice A k c ∧ k + f ≤ 20 ∧ Hid (acc.length = k) ∧ Hid (M < 10 ^ f) ∧
      wr.ownsRow w.heap.size 5 1 (.slice A k c) k (bytesV acc) ∧ Hid (Lib.decDigits N = decHead M ++ acc.reverse) ∧ M ≤ 9223372036854775808 ∧ Below w.heap.size w wr) (fun _ m _ _ => (-intOf m).toNat)
  case atStart => exact ⟨N, 20, 0, _, _, [], rfl, rfl, by omega, Lib.hid rfl, Lib.hid (by omega), owns_empty _ _ _ (Nat.le_refl _), Lib.hid (by unfold decHead; rw [if_neg (by omega)]; simp), by omega, (Below.refl _ _).alloc (Nat.le_refl _) _⟩
  case round =>
    obtain ⟨M, f, k, A, c, acc, rfl, rfl, hkf, Hl, Hf, hro, Hd, hM, hbl⟩ := hrel
    by_cases hM0 : M = 0
    · have hMi : (-(M : Int)) = 0 := by omega
      rw [hMi]
      clear hMi
      have Hd' : Hid (Lib.decDigits N = acc.reverse) := Lib.hid (by have := Hd.out; rw [hM0] at this; simpa [decHead] using this)
      clear hM0 hM
      clear Hf Hd
      have hk0 : 1 ≤ k := by
        have h1 := congrArg List.length Hd'.out
        rw [List.length_reverse, Hl.out, Lib.decDigits_length] at h1
        have h2 := nDigits_pos N
        omega
      go_wp2_with (at_builtin; refine wpList_append_own _ rfl (.tmp 30) (.tmp 31) 70 rfl w.heap.size 5 i0 (.int .u8 0) 1 1 Tryd.underlying70 hi hz0 hz1 hz2 rfl (by decide) _ _ _ rfl (hro.alloc _) ⟨wr.heap.size, 0, none⟩ 1 1 [.int .u8 45] rfl rfl (cell_one_new _ _ _) (by simp [Value.oneCell']) ?_ ?_ ?_ ?_; (unfold maxLen; omega); (omega); (have := hbl.size; simp; omega); intro v1 w1 hown1 hgrow1 _; obtain ⟨A1, c1, rfl⟩ := owns_form hown1)
      have hownR : w1.ownsRow w.heap.size 5 1 (.slice A1 (k + 1) c1) (k + 1) (bytesV (acc ++ [45])) := by rw [bytesV_snoc]; exact hown1
      have hbW : Below w.heap.size w w1 := (hbl.alloc hbl.size _).grown hgrow1 (by have := hbl.size; simp; omega) (owns_ge hro)
      have hfin : Hid ((acc ++ [45]).reverse = 45 :: Lib.decDigits N) := Lib.hid (by rw [Hd'.out]; simp)
      have hDL : Hid ((acc ++ [45]).length = k + 1) := Lib.hid (by rw [List.length_append, Hl.out]; rfl)
      obtain ⟨wo, rfl⟩ : ∃ wo : World, wo = wr := ⟨_, rfl⟩
      have hcells := owns_cells hownR
      have hlies := owns_lies hownR
      generalize (acc ++ [45]) = D at *
      obtain ⟨b, o, hA, hc⟩ := hcells (by rw [bytesV_length, hDL.out]; omega)
      have hlb := hlies b o hA
      subst hA
      clear hlies
      go_loopw [6, 7] (fun v i w3 => ∃ (t j : Nat) (B : Option Addr) (d : Nat), t + j = (k + 1) ∧ i = .int .i64 ((t : Int) - 1) ∧ v = .slice B j d ∧ w3.ownsRow w1.heap.size 5 1 (.slice B j d) j (bytesV (D.drop t).reverse) ∧ Below w1.heap.size w1 w3) (fun _ i _ => (intOf i + 1).toNat)
      case atStart => exact ⟨(k + 1), 0, _, _, rfl, by go_num, rfl, by rw [List.drop_of_length_le (by rw [hDL.out]; exact Nat.le_refl _)]; exact owns_empty _ _ _ (Nat.le_refl _), (Below.refl _ _).alloc (Nat.le_refl _) _⟩
      case round =>
        obtain ⟨t, j, B, d, htj, rfl, rfl, hro3, hbl3⟩ := hrel
        have Htj := Lib.hid htj
        have htl : t ≤ (k + 1) := by omega
        have hjl : j ≤ (k + 1) := by omega
        clear htj
        by_cases ht : 1 ≤ t
        · have hlt : t - 1 < D.length := by rw [hDL.out]; omega
          have g1 : wr.cell? ⟨b, o + (t - 1), none⟩ = some (.int .u8 (D[t - 1].toNat : Int)) := by
            rw [hbl3.cell (p := ⟨b, o + (t - 1), none⟩) hlb, hc (t - 1) (by rw [bytesV_length]; exact hlt), bytesV_at _ _ hlt]
          have hdr : Hid (bytesV (D.drop (t - 1)).reverse = bytesV (D.drop t).reverse ++ [Value.int .u8 (D[t - 1].toNat : Int)]) := Lib.hid (by
            rw [List.drop_eq_getElem_cons hlt, List.reverse_cons, bytesV_snoc, show t - 1 + 1 = t by omega])
          generalize (D[t - 1].toNat : Int) = x at *
          have Hlt := Lib.hid hlt
          clear hc hlt
          go_wp2_with (at_builtin; refine wpList_append_own _ rfl (.tmp 41) (.tmp 46) 70 rfl w1.heap.size 5 i0 (.int .u8 0) 1 1 Tryd.underlying70 hi hz0 hz1 hz2 rfl (by decide) _ _ _ rfl (hro3.alloc _) ⟨wr.heap.size, 0, none⟩ 1 1 [.int .u8 x] rfl rfl (cell_one_new _ _ _) (by simp [Value.oneCell']) ?_ ?_ ?_ ?_; (unfold maxLen; omega); (omega); (have := hbl3.size; simp; omega); intro v4 w4 hown4 hgrow4 _; obtain ⟨A4, c4, rfl⟩ := owns_form hown4)
          go_roundw
          case rel => exact ⟨t - 1, j + 1, A4, c4, by have := Htj.out; omega, by go_num, rfl, by rw [hdr.out]; exact hown4, (hbl3.alloc hbl3.size _).grown hgrow4 (by have := hbl3.size; simp; omega) (owns_ge hro3)⟩
          case measure => simp only [intOf]; omega
        · have e : t = 0 := by omega
          subst e
          have hj1 : 0 < j := by have := Htj.out; omega
          rw [List.drop_zero, hfin.out] at hro3
          have hcv := fun wx (hx : wx = wr) => conv_bytes wx B d j _ (owns_len hro3 |> fun h => by rw [bytesV_length] at h; exact h) hj1 (hx ▸ owns_cells hro3)
          have hcv' := hcv wr rfl
          clear hcv
          go_wp2
          go_ret
          exact ⟨rfl, bnext hbW hbl3⟩
    · have hf : 0 < f := by
        rcases Nat.eq_zero_or_pos f with e | e
        · subst e; have := Hf.out; omega
        · exact e
      obtain ⟨f, rfl⟩ : ∃ g, f = g + 1 := ⟨f - 1, by omega⟩
      have Hs := Lib.hid (decHead_step M hM0)
      have Hc := Lib.hid (digit_cell M)
      have hne : ((-(M : Int)) != 0) = true := by rw [bne_iff_ne]; omega
      have hM1 : 1 ≤ M := by omega
      clear hM0
      have hq1 : (-(M : Int)).tmod 10 = -((M : Int) % 10) := by rw [Int.neg_tmod, Int.tmod_eq_emod_of_nonneg (by omega)]
      have hq2 : (-(M : Int)).tdiv 10 = -((M : Int) / 10) := by rw [Int.neg_tdiv, Int.tdiv_eq_ediv_of_nonneg (by omega)]
      by_cases hd0 : (M : Int) % 10 = 0
      · have hnd : ¬ (-((M : Int) % 10) < 0) := by omega
        have Hd0 := Lib.hid hd0
        have e0 : Hid (48 + -((M : Int) % 10) = 48 + (M : Int) % 10) := Lib.hid (by omega)
        clear hd0
        go_wp2_with (at_builtin; refine wpList_append_own _ rfl (.tmp 22) (.tmp 26) 70 rfl w.heap.size 5 i0 (.int .u8 0) 1 1 Tryd.underlying70 hi hz0 hz1 hz2 rfl (by decide) _ _ _ rfl (hro.alloc _) ⟨wr.heap.size, 0, none⟩ 1 1 [.int .u8 (48 + -((M : Int) % 10))] rfl rfl (cell_one_new _ _ _) (by simp [Value.oneCell']) ?_ ?_ ?_ ?_; (unfold maxLen; omega); (omega); (have := hbl.size; simp; omega); intro v1 w1 hown1 hgrow1 _; obtain ⟨A1, c1, rfl⟩ := owns_form hown1)
        go_roundw
        case rel =>
          refine ⟨M / 10, f, k + 1, A1, c1, acc ++ [UInt8.ofNat (48 + M % 10)], by go_num, rfl, by omega, Lib.hid (by rw [List.length_append, Hl.out]; rfl), Lib.hid (by have := Hf.out; rw [Nat.pow_succ] at this; omega), ?_, Lib.hid (by rw [Hd.out, Hs.out]; simp), by omega, (hbl.alloc hbl.size _).grown hgrow1 (by have := hbl.size; simp; omega) (owns_ge hro)⟩
          rw [bytesV_snoc, Hc.out]
          rw [e0.out] at hown1
          exact hown1
        case measure => simp only [intOf]; omega
      · have hnd : -((M : Int) % 10) < 0 := by omega
        clear hd0
        go_wp2_with (at_builtin; refine wpList_append_own _ rfl (.tmp 22) (.tmp 26) 70 rfl w.heap.size 5 i0 (.int .u8 0) 1 1 Tryd.underlying70 hi hz0 hz1 hz2 rfl (by decide) _ _ _ rfl (hro.alloc _) ⟨wr.heap.size, 0, none⟩ 1 1 [.int .u8 (48 + (M : Int) % 10)] rfl rfl (cell_one_new _ _ _) (by simp [Value.oneCell']) ?_ ?_ ?_ ?_; (unfold maxLen; omega); (omega); (have := hbl.size; simp; omega); intro v1 w1 hown1 hgrow1 _; obtain ⟨A1, c1, rfl⟩ := owns_form hown1)
        go_roundw
        case rel =>
          refine ⟨M / 10, f, k + 1, A1, c1, acc ++ [UInt8.ofNat (48 + M % 10)], by go_num, rfl, by omega, Lib.hid (by rw [List.length_append, Hl.out]; rfl), Lib.hid (by have := Hf.out; rw [Nat.pow_succ] at this; omega), ?_, Lib.hid (by rw [Hd.out, Hs.out]; simp), by omega, (hbl.alloc hbl.size _).grown hgrow1 (by have := hbl.size; simp; omega) (owns_ge hro)⟩
          rw [bytesV_snoc, Hc.out]
          exact hown1
        case measure => simp only [intOf]; omega

theorem l01Dec_any (n : Int) (w : World) (h0 : -9223372036854775808 ≤ n) (h1 : n ≤ 9223372036854775807) :
    Calls Tryd.prog 30 #[.int .i64 n] w fun e w' => e = .returned (.string (mkB (Lib.itoa n))) ∧ Below w.heap.size w w' := by
  rcases Int.lt_trichotomy n 0 with h | h | h
  · obtain ⟨N, hN⟩ := Int.eq_ofNat_of_zero_le (by omega : 0 ≤ -n)
    obtain rfl : n = -(N : Int) := by omega
    have e : Lib.itoa (-(N : Int)) = 45 :: Lib.decDigits N := by
      unfold Lib.itoa
      rw [if_pos h]
      congr 2
      omega
    rw [e]
    exact l01Dec_neg N w (by omega) (by omega)
  · subst h
    exact l01Dec_zero w
  · obtain ⟨N, rfl⟩ := Int.eq_ofNat_of_zero_le (by omega : 0 ≤ n)
    have e : Lib.itoa (N : Int) = Lib.decDigits N := by
      unfold Lib.itoa
      rw [if_neg (by omega), Int.toNat_natCast]
    rw [e]
    exact l01Dec_pos N w (by omega) (by omega)

/-- the table of the powers of ten, as the library's text lays it, here and wherever nothing below is written -/
def PowTab (w : World) : Prop := ∀ w', Below w.heap.size w w' → Lib.TabIs Tryd.prog w' "internal/strconv.uint64pow10" .u64 Lib.pow10Tab
theorem PowTab.next {w w' : World} (h : PowTab w) (hb : Below w.heap.size w w') : PowTab w' := fun _ hb' => h _ (bnext hb hb')
theorem var_below {P : Program} {B g : Nat} {W W' : World} {n : String} {cs : Array Value} (h : Below B W W') (hg : P.globalNamed n = some g) (hgB : g < B) (hv : W.var? P n = some cs) : W'.var? P n = some cs := by
  unfold World.var? at hv ⊢
  simp only [hg, Option.bind_some] at hv ⊢
  rw [h.block g hgB]
  exact hv
theorem powTab_of {w : World} {g : Nat} (hg : Tryd.prog.globalNamed "internal/strconv.uint64pow10" = some g) (h : Lib.TabIs Tryd.prog w "internal/strconv.uint64pow10" .u64 Lib.pow10Tab) : PowTab w := fun w' hb => by
  have hc := h.cell hg 0 (by decide)
  exact var_below hb hg (World.block_lt_of_cell? _ _ hc) h

theorem implDecimal_any (n : Int) (w : World) (h0 : -9223372036854775808 ≤ n) (h1 : n ≤ 9223372036854775807) (ht : PowTab w) :
    Calls Tryd.prog 50 #[.int .i64 n] w fun e w' => e = .returned (.string (mkB (Lib.itoa n))) ∧ Below w.heap.size w w' := by
  have hcall := (Tryd.strconv_FormatInt_10 n h0 h1 w (ht w (Below.refl _ _))).mono (R' := fun e w' => e = .returned (.string (mkB (Lib.itoa n))) ∧ Below w.heap.size w w') (by
    rintro e w' ⟨he, k, os, rfl⟩
    exact ⟨he, Lib.below_grow _ _ (Nat.le_refl _) _ _⟩)
  have Hc := Lib.hid hcall
  clear hcall
  go_enter Tryd.func50, Tryd.ntmps50
  go_wp2_with (go_at_call 58; refine Hc.out.mono ?_; rintro e w1 ⟨rfl, hb⟩)
  go_ret
  exact ⟨rfl, hb⟩

end Go.Proofs.YtkbkmpcdidhagacDoor
