/-
  The model's l01Split: a text divided at each byte.
-/
import Derived.Test.YtkbkmpcdidhagacDoorG1
import Derived.Lib.Strings
namespace Go.Proofs.YtkbkmpcdidhagacDoor
open Go.ChangeShapes Go.WideShapes Go.ChangeAt Go.RowKit

theorem extract_mkB (s : ByteArray) (a b : Nat) : s.extract a b = mkB ((s.data.toList.drop a).take (b - a)) := by
  rw [← Lib.extract_data, mkB_list]
/-- l divided at each b, cur being the piece begun -/
def splitGo (b : UInt8) : List UInt8 → List UInt8 → List (List UInt8)
  | cur, [] => [cur]
  | cur, c :: r => if c = b then cur :: splitGo b [] r else splitGo b (cur ++ [c]) r
theorem splitGo_at (b : UInt8) (cur l : List UInt8) (k : Nat) (h : k < l.length) :
    splitGo b cur (l.drop k) = if l[k] = b then cur :: splitGo b [] (l.drop (k + 1)) else splitGo b (cur ++ [l[k]]) (l.drop (k + 1)) := by
  rw [List.drop_eq_getElem_cons h, splitGo]
theorem splitGo_length (b : UInt8) (l : List UInt8) : ∀ cur, (splitGo b cur l).length ≤ l.length + 1 := by
  induction l with
  | nil => intro cur; simp [splitGo]
  | cons c r ih =>
    intro cur
    rw [splitGo]
    split
    · have := ih []; simp; omega
    · have := ih (cur ++ [c]); simp; omega
theorem piece_snoc (l : List UInt8) (a k : Nat) (hak : a ≤ k) (h : k < l.length) : (l.drop a).take (k + 1 - a) = (l.drop a).take (k - a) ++ [l[k]] := by
  have e : k + 1 - a = (k - a) + 1 := by omega
  have hl : k - a < (l.drop a).length := by simp; omega
  rw [e, List.take_succ_eq_append_getElem hl]
  congr 2
  simp
  congr 1
  omega

theorem infoStr : (Tryd.prog.info? 9).map (fun i => (i.zero, i.size, i.bytes)) = some (some (.string ⟨#[]⟩), 1, 16) := by kernel_rfl

def strsV (l : List (List UInt8)) : List Value := l.map fun p => Value.string (mkB p)

theorem strsV_snoc (l : List (List UInt8)) (p : List UInt8) : strsV (l ++ [p]) = strsV l ++ [Value.string (mkB p)] := by simp [strsV]

set_option maxHeartbeats 800000 in
theorem l01Split_any (s : ByteArray) (b : UInt8) (w : World) (hs : s.size ≤ 4294967296) :
    Calls Tryd.prog 22 #[.string s, .int .u8 b.toNat] w (RetRow 9 (strsV (splitGo b [] s.data.toList)) w) := by
  obtain ⟨i0, hi, hz0, hz1, hz2⟩ := info_parts infoStr
  have hl := size_list s
  have Hl := Lib.hid hl
  clear hl
  go_enter Tryd.func22, Tryd.ntmps22
  go_wp2
  go_loopw [5, 6, 7] (fun v f i wr => ∃ (k a n : Nat) (A : Option Addr) (c : Nat) (acc : List (List UInt8)), k ≤ s.size ∧ a ≤ k ∧ n ≤ k ∧ f = .int .i64 a ∧ i = .int .i64 k ∧ v = .slice A n c ∧
      wr.ownsRow w.heap.size 9 1 (.slice A n c) n (strsV acc) ∧ Hid (acc ++ splitGo b ((s.data.toList.drop a).take (k - a)) (s.data.toList.drop k) = splitGo b [] s.data.toList) ∧ Below w.heap.size w wr) (fun _ _ i _ => s.size - (intOf i).toNat)
  case atStart => exact ⟨0, 0, 0, _, _, [], Nat.zero_le _, Nat.zero_le _, Nat.zero_le _, rfl, rfl, rfl, owns_empty _ _ _ (Nat.le_refl _), Lib.hid rfl, (Below.refl _ _).alloc (Nat.le_refl _) _⟩
  case round =>
    obtain ⟨k, a, n, A, c, acc, hk, hak, hlen, rfl, rfl, rfl, hro, Hsp, hbl⟩ := hrel
    by_cases hlt : k < s.size
    · have hsa := splitGo_at b ((s.data.toList.drop a).take (k - a)) s.data.toList k (by rw [Hl.out]; exact hlt)
      rw [← getE_list s k hlt] at hsa
      have hpi := piece_snoc s.data.toList a k hak (by rw [Hl.out]; exact hlt)
      rw [← getE_list s k hlt] at hpi
      by_cases hc : s[k] = b
      · rw [if_pos hc] at hsa
        have Hsa := Lib.hid hsa
        have hex := Lib.hid (extract_mkB s a k)
        have hc' : ((s[k].toNat : Int) == (b.toNat : Int)) = true := by rw [hc]; simp
        clear hsa hpi
        have Hc := Lib.hid hc
        clear hc
        have ha2 : (a : Int) ≤ (k : Int) := by omega
        go_wp2_with (at_builtin; refine wpList_append_own _ rfl (.tmp 20) (.tmp 25) 47 rfl w.heap.size 9 i0 (.string ⟨#[]⟩) 1 16 Tryd.underlying47 hi hz0 hz1 hz2 rfl (by decide) _ _ _ rfl (hro.alloc _) ⟨wr.heap.size, 0, none⟩ 1 1 [.string (s.extract a k)] rfl rfl (cell_one_new _ _ _) (by simp [Value.oneCell']) ?_ ?_ ?_ ?_; (unfold maxLen; omega); (omega); (have := hbl.size; simp; omega); intro v1 w1 hown1 hgrow1 _; obtain ⟨A1, c1, rfl⟩ := owns_form hown1)
        go_roundw
        case rel =>
          refine ⟨k + 1, k + 1, n + 1, A1, c1, acc ++ [(s.data.toList.drop a).take (k - a)], by omega, by omega, by omega, by go_num, by go_num, rfl, ?_, Lib.hid ?_, ?_⟩
          · rw [hex.out] at hown1
            rw [strsV_snoc]
            exact hown1
          · rw [← Hsp.out, Hsa.out, List.append_assoc, Nat.sub_self, List.take_zero]; rfl
          · exact (hbl.alloc hbl.size _).grown hgrow1 (by have := hbl.size; simp; omega) (owns_ge hro)
        case measure => simp [intOf]; omega
      · rw [if_neg hc] at hsa
        have Hsa := Lib.hid hsa
        have Hpi := Lib.hid hpi
        have hc' : ((s[k].toNat : Int) == (b.toNat : Int)) = false := by
          rw [beq_eq_false_iff_ne]
          intro h
          exact hc (UInt8.toNat_inj.1 (by omega))
        clear hsa hpi
        have Hc := Lib.hid hc
        clear hc
        go_wp2
        go_roundw
        case rel => exact ⟨k + 1, a, n, _, _, acc, by omega, by omega, by omega, rfl, by go_num, rfl, hro, Lib.hid (by rw [Hpi.out, ← Hsa.out, Hsp.out]), hbl⟩
        case measure => simp [intOf]; omega
    · have e : k = s.size := by omega
      subst e
      have hex := Lib.hid (extract_mkB s a s.size)
      go_wp2_with (at_builtin; refine wpList_append_own _ rfl (.tmp 29) (.tmp 33) 47 rfl w.heap.size 9 i0 (.string ⟨#[]⟩) 1 16 Tryd.underlying47 hi hz0 hz1 hz2 rfl (by decide) _ _ _ rfl (hro.alloc _) ⟨wr.heap.size, 0, none⟩ 1 1 [.string (s.extract a s.size)] rfl rfl (cell_one_new _ _ _) (by simp [Value.oneCell']) ?_ ?_ ?_ ?_; (unfold maxLen; omega); (omega); (have := hbl.size; simp; omega); intro v1 w1 hown1 hgrow1 _; obtain ⟨A1, c1, rfl⟩ := owns_form hown1)
      have hend : acc ++ [(s.data.toList.drop a).take (s.size - a)] = splitGo b [] s.data.toList := by
        have hd : s.data.toList.drop s.size = [] := List.drop_of_length_le (by rw [Hl.out]; exact Nat.le_refl _)
        have hp := Hsp.out
        rw [hd] at hp
        exact hp
      rw [hex.out, ← strsV_snoc, hend] at hown1
      go_ret
      exact retRow_mk rfl hown1 rfl ((hbl.alloc hbl.size _).grown hgrow1 (by have := hbl.size; simp; omega) (owns_ge hro))
end Go.Proofs.YtkbkmpcdidhagacDoor
