/-
  Reading a list: the model's.
-/
import Derived.Test.YtmopnkkpcgiafabGreatDoorR1
import Derived.Test.YtmopnkkpcgiafabGreatDoorS2
namespace Go.Proofs.YtmopnkkpcgiafabGreatDoor
open Go.ChangeShapes Go.WideShapes Go.ChangeAt Go.RowKit

/-- a call that returns a list, or none -/
def RetList (o : Option (List Int)) (w : World) (e : Ending) (w' : World) : Prop :=
  ∃ A c, e = .returned (.tuple #[.slice A (o.getD []).length c, .bool o.isSome]) ∧ w'.ownsRow w.heap.size 2 1 (.slice A (o.getD []).length c) (o.getD []).length (intsV (o.getD [])) ∧ Below w.heap.size w w'
theorem owns_none (w : World) (base : Nat) (E : TypeId) : w.ownsRow base E 1 (.slice none 0 0) 0 [] := ⟨rfl, .inl ⟨rfl, rfl⟩⟩
theorem retList_none {o : Option (List Int)} {w w' : World} {e : Ending} (ho : o = none) (he : e = .returned (.tuple #[.slice none 0 0, .bool false])) (hb : Below w.heap.size w w') : RetList o w e w' := by
  subst ho
  exact ⟨none, 0, he, owns_none _ _ _, hb⟩
theorem retList_some {o : Option (List Int)} {l : List Int} {w w' : World} {e : Ending} {A : Option Addr} {n c : Nat} {us : List Value} (ho : o = some l) (he : e = .returned (.tuple #[.slice A n c, .bool true]))
    (h : w'.ownsRow w.heap.size 2 1 (.slice A n c) n us) (hu : us = intsV l) (hb : Below w.heap.size w w') : RetList o w e w' := by
  subst ho; subst hu
  have hn := owns_len h
  rw [intsV_length] at hn
  subst hn
  exact ⟨A, c, he, h, hb⟩
theorem splitGo_piece (b : UInt8) (l : List UInt8) : ∀ cur, ∀ p ∈ splitGo b cur l, p.length ≤ cur.length + l.length := by
  induction l with
  | nil => intro cur p hp; simp [splitGo] at hp; subst hp; simp
  | cons c r ih =>
    intro cur p hp
    rw [splitGo] at hp
    split at hp
    · rcases List.mem_cons.1 hp with rfl | h
      · simp
      · have := ih [] p h; simp at *; omega
    · have := ih _ p hp; simp at *; omega
theorem dash_true (s : ByteArray) (h : s.data.toList = [45]) : s = ⟨#[45]⟩ := by
  rw [← mkB_list s, h]; rfl
theorem dash_false (s : ByteArray) (h : s.data.toList ≠ [45]) : (s.toList == [45]) = false := by
  rw [beq_eq_false_iff_ne, ByteArray.toList_eq]; exact h
theorem readL_dash {l : List UInt8} (h : l = [45]) : readL l = some [] := by unfold readL; rw [if_pos h]
theorem readL_long {l : List UInt8} (h : l ≠ [45]) (h1 : ¬ (splitGo 44 [] l).length ≤ 64) : readL l = none := by unfold readL; rw [if_neg h, if_neg fun e => h1 e.1]
theorem readL_bad {l : List UInt8} (h : l ≠ [45]) (h1 : (splitGo 44 [] l).all okQ = false) : readL l = none := by unfold readL; rw [if_neg h, if_neg fun e => by rw [h1] at e; cases e.2]
theorem readL_good {l : List UInt8} (h : l ≠ [45]) (h1 : (splitGo 44 [] l).length ≤ 64) (h2 : (splitGo 44 [] l).all okQ = true) : readL l = some ((splitGo 44 [] l).map valP) := by unfold readL; rw [if_neg h, if_pos ⟨h1, h2⟩]
theorem decT_eq (p : List UInt8) : decT (readDec p) = .tuple #[.int .i64 (valP p), .bool (numP p)] := rfl
theorem map_take_succ (ps : List (List UInt8)) (k : Nat) (h : k < ps.length) : (ps.take (k + 1)).map valP = (ps.take k).map valP ++ [valP ps[k]] := by
  rw [List.take_succ_eq_append_getElem h, List.map_append]; rfl

set_option maxRecDepth 100000 in
set_option maxHeartbeats 1600000 in
theorem specReadList_any (s : ByteArray) (w : World) (hs : s.size ≤ 1048576) :
    Calls Tryz.prog 81 #[.string s] w (RetList (readL s.data.toList) w) := by
  obtain ⟨i0, hi, hz0, hz1, hz2⟩ := info_parts infoI64
  by_cases hd : s.data.toList = [45]
  · have hsd := dash_true s hd
    have HR := Lib.hid (readL_dash hd)
    subst hsd
    go_enter Tryz.func81, Tryz.ntmps81
    go_wp2
    go_ret2
    exact retList_some HR.out rfl (owns_empty _ _ _ (Nat.le_refl _)) rfl ((Below.refl _ _).alloc (Nat.le_refl _) _)
  · have hdb := dash_false s hd
    have Hd := Lib.hid hd
    have hp1 := fun p hp => splitGo_piece 44 s.data.toList [] p hp
    rw [size_list] at hp1
    have HP : Hid (∀ p ∈ splitGo 44 [] s.data.toList, p.length ≤ 1048576) := Lib.hid fun p hp => by have := hp1 p hp; simp at this; omega
    have HL := Lib.hid (readL_long hd)
    have HB := Lib.hid (readL_bad hd)
    have HG := Lib.hid (readL_good hd)
    have hS := fun wx => l01Split_any s 44 wx (by omega)
    have HS := Lib.hid hS
    generalize readL s.data.toList = R at *
    generalize splitGo 44 [] s.data.toList = ps at *
    clear hp1 hS hd
    by_cases h64 : ps.length ≤ 64
    · have h64i : ¬ (64 : Int) < (ps.length : Int) := by omega
      go_enter Tryz.func81, Tryz.ntmps81
      go_wp2_with (go_at_call 80; refine (HS.out _).mono ?_; rintro e w1 ⟨A, c, rfl, ho1, hb1⟩; rw [strsV_length] at ho1; rw [strsV_length])
      have hcells := owns_cells ho1
      have hlies := owns_lies ho1
      go_loopw [5, 6] (fun v i wr => ∃ (k : Nat) (B : Option Addr) (d : Nat), k ≤ ps.length ∧ i = .int .i64 k ∧ v = .slice B k d ∧ wr.ownsRow w1.heap.size 2 1 (.slice B k d) k (intsV ((ps.take k).map valP)) ∧ Hid ((ps.take k).all okQ = true) ∧ Below w1.heap.size w1 wr) (fun _ i _ => ps.length - (intOf i).toNat)
      case atStart => exact ⟨0, _, _, Nat.zero_le _, rfl, rfl, owns_empty _ _ _ (Nat.le_refl _), Lib.hid rfl, (Below.refl _ _).alloc (Nat.le_refl _) _⟩
      case round =>
        obtain ⟨k, B, d, hk, rfl, rfl, hro, Hall, hbl⟩ := hrel
        by_cases hlt : k < ps.length
        · obtain ⟨b, o, rfl, h1⟩ := hcells (by rw [strsV_length]; omega)
          have hlb := hlies b o rfl
          have g1 : wr.cell? ⟨b, o + k, none⟩ = some (.string (mkB ps[k])) := by rw [hbl.cell (p := ⟨b, o + k, none⟩) hlb, h1 k (by rw [strsV_length]; exact hlt), strsV_at _ _ hlt]
          have Hpk := Lib.hid (HP.out _ (List.getElem_mem hlt))
          have Hts := Lib.hid (all_take_succ okQ ps k hlt)
          have Hfs := Lib.hid (all_false_at okQ ps k hlt)
          have Hmt := Lib.hid (map_take_succ ps k hlt)
          generalize ps[k] = p at *
          have Hok : Hid (okQ p = (numP p && inB (valP p) (-1000000000000) 1000000000000)) := Lib.hid rfl
          have hnum := fun wx => l01Number_any (mkB p) wx (by rw [mkB_size]; have := Hpk.out; unfold maxLen; omega)
          have hnum' : ∀ wx, Calls Tryz.prog 120 #[.string (mkB p)] wx fun e w' => e = .returned (.tuple #[.int .i64 (valP p), .bool (numP p)]) ∧ wx = w' := hnum
          have Hnum := Lib.hid hnum'
          clear hnum hnum' h1 hcells hlies
          generalize mkB p = q at *
          generalize valP p = v at *
          by_cases hn : numP p = true
          · rw [hn] at Hnum
            by_cases hv : inB v (-1000000000000) 1000000000000 = true
            · have Ho : Hid (okQ p = true) := Lib.hid (by rw [Hok.out, hn, hv]; rfl)
              clear hn
              go_wp2_with (first | (go_at_call 120; refine (Hnum.out _).mono ?_; rintro e w' ⟨rfl, rfl⟩) | (go_at_call 121; refine (in_any _ _ _ _).mono ?_; rintro e w' ⟨rfl, rfl⟩; rw [hv]) | (at_builtin; refine wpList_append_own _ rfl (.tmp 39) (.tmp 41) 22 rfl w1.heap.size 2 i0 (.int .i64 0) 1 8 Tryz.underlying22 hi hz0 hz1 hz2 rfl (by decide) _ _ _ rfl (hro.alloc _) ⟨wr.heap.size, 0, none⟩ 1 1 [.int .i64 v] rfl rfl (cell_one_new _ _ _) (by simp [Value.oneCell']) ?_ ?_ ?_ ?_; (unfold maxLen; omega); (omega); (have := hbl.size; simp; omega); intro v4 w4 hown4 hgrow4 _; obtain ⟨A4, c4, rfl⟩ := owns_form hown4))
              go_roundw
              case rel => exact ⟨k + 1, A4, c4, by omega, by go_num, rfl, by rw [Hmt.out, intsV_snoc]; exact hown4, Lib.hid (by rw [Hts.out, Hall.out, Ho.out]; rfl), (hbl.alloc hbl.size _).grown hgrow4 (by have := hbl.size; simp; omega) (owns_ge hro)⟩
              case measure => simp [intOf]; omega
            · have hv' : inB v (-1000000000000) 1000000000000 = false := by simpa using hv
              have Ho : Hid (okQ p = false) := Lib.hid (by rw [Hok.out, hn, hv']; rfl)
              clear hn
              go_wp2_with (first | (go_at_call 120; refine (Hnum.out _).mono ?_; rintro e w' ⟨rfl, rfl⟩) | (go_at_call 121; refine (in_any _ _ _ _).mono ?_; rintro e w' ⟨rfl, rfl⟩; rw [hv']))
              go_ret2
              exact retList_none (HB.out (Hfs.out Ho.out)) rfl (bnext hb1 hbl)
          · have hn' : numP p = false := by simpa using hn
            rw [hn'] at Hnum
            have Ho : Hid (okQ p = false) := Lib.hid (by rw [Hok.out, hn']; rfl)
            clear hn hn'
            go_wp2_with (first | (go_at_call 120; refine (Hnum.out _).mono ?_; rintro e w' ⟨rfl, rfl⟩))
            go_ret2
            exact retList_none (HB.out (Hfs.out Ho.out)) rfl (bnext hb1 hbl)
        · have e : k = ps.length := by omega
          subst e
          rw [List.take_of_length_le (Nat.le_refl _)] at hro Hall
          have Hg := Lib.hid (HG.out h64 Hall.out)
          go_wp2
          go_ret2
          exact retList_some Hg.out rfl (owns_base hro hb1.size) rfl (bnext hb1 hbl)
    · have h64i : (64 : Int) < (ps.length : Int) := by omega
      have Hr := Lib.hid (HL.out h64)
      go_enter Tryz.func81, Tryz.ntmps81
      go_wp2_with (go_at_call 80; refine (HS.out _).mono ?_; rintro e w1 ⟨A, c, rfl, ho1, hb1⟩; rw [strsV_length] at ho1; rw [strsV_length])
      go_ret2
      exact retList_none Hr.out rfl hb1
end Go.Proofs.YtmopnkkpcgiafabGreatDoor
