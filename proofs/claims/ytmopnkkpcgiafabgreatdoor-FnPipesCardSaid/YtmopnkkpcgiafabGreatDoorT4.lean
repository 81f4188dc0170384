/-
  Reading a pipe: the model's way.
-/
import Derived.Test.YtmopnkkpcgiafabGreatDoorT3
namespace Go.Proofs.YtmopnkkpcgiafabGreatDoor
open Go.ChangeShapes Go.WideShapes Go.ChangeAt Go.RowKit

theorem split_mem (b c : UInt8) (r : List UInt8) : ∀ cur, c ∈ cur ++ r → c = b ∨ ∃ p, p ∈ splitGo b cur r ∧ c ∈ p := by
  induction r with
  | nil =>
    intro cur h
    right
    exact ⟨cur, by simp [splitGo], by simpa using h⟩
  | cons x r ih =>
    intro cur h
    rw [splitGo]
    by_cases hx : x = b
    · rw [if_pos hx]
      rw [List.mem_append, List.mem_cons] at h
      rcases h with h | h | h
      · right; exact ⟨cur, by simp, h⟩
      · left; rw [h, hx]
      · rcases ih [] (by simpa using h) with h | ⟨p, hp, hc⟩
        · left; exact h
        · right; exact ⟨p, by simp [hp], hc⟩
    · rw [if_neg hx]
      exact ih (cur ++ [x]) (by rw [List.append_assoc]; exact h)
theorem num_mem {p : List UInt8} (h : numP p = true) {c : UInt8} (hc : c ∈ p) : c = 45 ∨ isDg c = true := by
  unfold numP readDec at h
  have hb : badNum p = false := by
    cases hh : badNum p with
    | false => rfl
    | true => rw [hh] at h; cases h
  have hd := (goodNum hb).2.2.2
  unfold magOf at hd
  by_cases h45 : p.head? = some 45
  · rw [if_pos h45] at hd
    match p, h45, hc with
    | x :: r, h45, hc =>
      rcases List.mem_cons.1 hc with h | h
      · left; rw [h]; simpa using h45
      · right; exact List.all_eq_true.1 hd c (by simpa using h)
  · rw [if_neg h45] at hd
    right; exact List.all_eq_true.1 hd c hc
theorem index_miss (b : UInt8) : ∀ r : List UInt8, (∀ c ∈ r, c ≠ b) → Lib.index r [b] = -1 := by
  intro r
  induction r with
  | nil => intro _; rfl
  | cons x r ih =>
    intro h
    rw [index_cons, if_neg (h x (by simp)), if_pos (ih fun c hc => h c (by simp [hc]))]
theorem read_noBlank {r : List UInt8} (h : readL r ≠ none) : Lib.index r [32] = -1 := by
  apply index_miss
  intro c hc
  by_cases hd : r = [45]
  · subst hd
    have : c = 45 := by simpa using hc
    rw [this]; decide
  · unfold readL at h
    rw [if_neg hd] at h
    split at h
    · next hh =>
      rcases split_mem 44 c r [] (by simpa using hc) with h1 | ⟨p, hp, hcp⟩
      · rw [h1]; decide
      · have hq := List.all_eq_true.1 hh.2 p hp
        unfold okQ at hq
        rw [Bool.and_eq_true] at hq
        rcases num_mem hq.1 hcp with h2 | h2
        · rw [h2]; decide
        · intro e
          rw [e] at h2
          exact absurd h2 (by decide)
    · exact absurd rfl h
theorem madeP_readNone (id : ByteArray) : madeP id none = none := madeP_none (fiveOk_none _)
/-- a text that does not fall into two parts is no pipe's -/
theorem readP_parts {l : List UInt8} (h : (splitGo 32 [] l).length ≠ 2) : readP l = none := by
  unfold readP
  by_cases hi : 0 ≤ Lib.index l [32]
  · rw [if_pos hi]
    obtain ⟨i, hI⟩ := Int.eq_ofNat_of_zero_le hi
    rw [hI, Int.toNat_natCast]
    have hs := (split_index 32 l []).2 i hI
    cases hr : readL (l.drop (i + 1)) with
    | none => exact madeP_readNone _
    | some zs =>
      have hn := read_noBlank (r := l.drop (i + 1)) (by rw [hr]; simp)
      have := (split_index 32 (l.drop (i + 1)) []).1 hn
      rw [hs, this] at h
      exact absurd rfl h
  · rw [if_neg hi]
theorem readP_two {l a b : List UInt8} (h : splitGo 32 [] l = [a, b]) : cutId l = mkB a ∧ readP l = madeP (mkB a) (readL b) ∧ a.length ≤ l.length ∧ b.length ≤ l.length := by
  have hge := Lib.index_ge l [32]
  by_cases hm : Lib.index l [32] = -1
  · rw [(split_index 32 l []).1 hm] at h
    cases h
  · have hi : 0 ≤ Lib.index l [32] := by omega
    obtain ⟨i, hI⟩ := Int.eq_ofNat_of_zero_le hi
    have hs := (split_index 32 l []).2 i hI
    rw [hs] at h
    obtain ⟨ha, hb⟩ := List.cons.inj h
    have ha' : l.take i = a := by simpa using ha
    have hgr := Lib.index_ge (l.drop (i + 1)) [32]
    have hbb : l.drop (i + 1) = b := by
      by_cases hm2 : Lib.index (l.drop (i + 1)) [32] = -1
      · rw [(split_index 32 (l.drop (i + 1)) []).1 hm2] at hb
        simpa using hb
      · obtain ⟨j, hJ⟩ := Int.eq_ofNat_of_zero_le (by omega : 0 ≤ Lib.index (l.drop (i + 1)) [32])
        rw [(split_index 32 (l.drop (i + 1)) []).2 j hJ] at hb
        have := (List.cons.inj hb).2
        exact absurd this (splitGo_ne _ _ _)
    have hc : cutId l = mkB a := by unfold cutId; rw [hI, Int.toNat_natCast, ha']
    refine ⟨hc, ?_, by rw [← ha', List.length_take]; omega, by rw [← hbb, List.length_drop]; omega⟩
    unfold readP
    rw [if_pos hi, hc, hI, Int.toNat_natCast, hbb]

set_option maxRecDepth 100000 in
theorem l03Read_any (str : ByteArray) (w : World) (hs : str.size ≤ 1048576) :
    Calls Tryz.prog 82 #[.string str] w fun e w' => e = .returned (.tuple #[pipeV (cutId str.data.toList) (readP str.data.toList), .bool (readP str.data.toList).isSome]) ∧ Below w.heap.size w w' := by
  have hC := Lib.hid (fun wx => l01Split_any str 32 wx (by omega))
  have hl := size_list str
  generalize str.data.toList = l at *
  have hb0 : Below w.heap.size w (w.alloc (.cells #[.string ByteArray.empty, .int .i64 0, .int .i64 0, .int .i64 0, .int .i64 0, .int .i64 0] 40)) := bal (Below.refl _ _) _
  have P0 := PipeAt.new w ByteArray.empty 0 0 0 0 0 40
  have F0 := Free6.new w #[.string ByteArray.empty, .int .i64 0, .int .i64 0, .int .i64 0, .int .i64 0, .int .i64 0] 40
  go_enter Tryz.func82, Tryz.ntmps82
  go_wp2_with fail
  refine (hC.out _).mono ?_
  rintro e w1 ⟨A, c, rfl, ho, hb1⟩
  have hb01 := bnext hb0 hb1
  have P1 := P0.next hb1
  have F1 := F0.keep (hb1.block _ P0.lies)
  clear P0 F0 hb0 hb1
  have hlen : (strsV (splitGo 32 [] l)).length = (splitGo 32 [] l).length := by simp [strsV]
  rw [hlen] at ho ⊢
  by_cases h2 : (splitGo 32 [] l).length = 2
  · obtain ⟨a, b, hab⟩ : ∃ a b, splitGo 32 [] l = [a, b] := by
      match splitGo 32 [] l, h2 with
      | [a, b], _ => exact ⟨a, b, rfl⟩
    obtain ⟨hid, hrd, hla, hlb⟩ := readP_two hab
    rw [hab] at ho ⊢
    obtain ⟨B, off, rfl, hc⟩ := owns_cells ho (by simp [strsV])
    have g0 : w1.cell? ⟨B, off, none⟩ = some (.string (mkB a)) := hc 0 (by simp [strsV])
    have g1 : w1.cell? ⟨B, off + 1, none⟩ = some (.string (mkB b)) := hc 1 (by simp [strsV])
    have hBl := World.block_lt_of_cell? _ _ g0
    have hR := Lib.hid (fun wx => specReadList_any (mkB b) wx (by rw [mkB_size]; omega))
    rw [show (mkB b).data.toList = b from rfl] at hR
    have HX : Hid (pipeV (cutId l) (readP l) = pipeV (mkB a) (madeP (mkB a) (readL b)) ∧ (readP l).isSome = (madeP (mkB a) (readL b)).isSome) := Lib.hid (by rw [hid, hrd]; exact ⟨rfl, rfl⟩)
    clear hc ho hid hrd hab
    generalize readL b = o at *
    have hma : (mkB a).size ≤ 1048576 := by rw [mkB_size]; omega
    generalize mkB a = id at *
    generalize mkB b = nb at *
    simp only [List.length_cons, List.length_nil]
    go_wp2_with fail
    refine (hR.out _).mono ?_
    rintro e w2 ⟨A2, c2, rfl, ho, hb2⟩
    have hb02 := bnext hb01 hb2
    have P2 := P1.next hb2
    have F2 := F1.keep (hb2.block _ P1.lies)
    have h0 : w2.cell? ⟨B, off, none⟩ = some (.string id) := (hb2.cell (p := ⟨B, off, none⟩) hBl).trans g0
    clear P1 F1 hb01 hb2 g0 g1
    by_cases h5 : (o.getD []).length = 5
    · skip
      obtain ⟨f, t, L, d, s, h⟩ := list_five _ h5
      have hso : o.isSome = true := by
        cases o with
        | none => cases h5
        | some zs => rfl
      have hfo : fiveOk id (o.getD []) = okP id f t L d s := by rw [h]; rfl
      have HPV : Hid (okP id f t L d s = true → Value.tuple #[pipeV (cutId l) (readP l), .bool (readP l).isSome] = .tuple #[.agg #[.string id, .int .i64 f, .int .i64 t, .int .i64 L, .int .i64 d, .int .i64 s], .bool true]) := Lib.hid (fun k => by rw [HX.out.1, HX.out.2, madeP_some (by rw [hfo]; exact k), h]; rfl)
      have HPN : Hid (okP id f t L d s = false → Value.tuple #[pipeV (cutId l) (readP l), .bool (readP l).isSome] = .tuple #[pipeV id none, .bool false]) := Lib.hid (fun k => by rw [HX.out.1, HX.out.2, madeP_none (by rw [hfo]; exact k)]; rfl)
      rw [h] at ho ⊢
      rw [hso]
      clear HX hfo h h5 hso
      obtain ⟨b, of2, rfl, hc⟩ := owns_cells ho (by simp [intsV])
      have g0 : w2.cell? ⟨b, of2, none⟩ = some (.int .i64 f) := hc 0 (by simp [intsV])
      have g1 : w2.cell? ⟨b, of2 + 1, none⟩ = some (.int .i64 t) := hc 1 (by simp [intsV])
      have g2 : w2.cell? ⟨b, of2 + 2, none⟩ = some (.int .i64 L) := hc 2 (by simp [intsV])
      have g3 : w2.cell? ⟨b, of2 + 3, none⟩ = some (.int .i64 d) := hc 3 (by simp [intsV])
      have g4 : w2.cell? ⟨b, of2 + 4, none⟩ = some (.int .i64 s) := hc 4 (by simp [intsV])
      have n0 := World.new_ne w2 _ g0
      have n1 := World.new_ne w2 _ g1
      have n2 := World.new_ne w2 _ g2
      have n3 := World.new_ne w2 _ g3
      have n4 := World.new_ne w2 _ g4
      have n5 := World.new_ne w2 _ h0
      clear hc ho
      simp only [List.length_cons, List.length_nil]
      go_wp2_with fail
      go_region_held3 (fun w' => w'.cell? ⟨b, of2, none⟩ = some (.int .i64 f) ∧ w'.cell? ⟨b, of2 + 1, none⟩ = some (.int .i64 t) ∧ w'.cell? ⟨b, of2 + 2, none⟩ = some (.int .i64 L) ∧ w'.cell? ⟨b, of2 + 3, none⟩ = some (.int .i64 d) ∧ w'.cell? ⟨b, of2 + 4, none⟩ = some (.int .i64 s) ∧ w'.cell? ⟨B, off, none⟩ = some (.string id)) (go_keep) (fail)
      have hW : Below w2.heap.size w2 ((w2.alloc (.cells #[.string id, .int .i64 f, .int .i64 t, .int .i64 L, .int .i64 d, .int .i64 s] 40)).drew) := below_drewN (bal (Below.refl _ _) _) 1
      have hp2 : PipeAt ((w2.alloc (.cells #[.string id, .int .i64 f, .int .i64 t, .int .i64 L, .int .i64 d, .int .i64 s] 40)).drew) w2.heap.size id f t L d s := PipeAt.keep (PipeAt.new w2 id f t L d s 40) rfl
      have hl1 := P2.lies
      have k2 := P2.next hW
      have f3 := F2.keep (hW.block _ hl1)
      have hb3 := bnext hb02 hW
      have hl2 := k2.lies
      clear g0 g1 g2 g3 g4 n0 n1 n2 n3 n4 n5 h0 hW hb02 P2 F2
      go_wp2_with fail
      refine (l03Ok_any w2.heap.size id f t L d s _ hp2 (by unfold maxLen; omega)).mono ?_
      rintro e w3 ⟨rfl, hd⟩
      have hb' := hd.below
      obtain ⟨d0, d1, d2, d3, d4, d5⟩ := f3.keep (hb'.block _ hl2)
      obtain ⟨b0, b1, b2, b3, b4, b5⟩ := k2.next hb'
      have k3 : PipeAt w3 w.heap.size ByteArray.empty 0 0 0 0 0 := ⟨b0, b1, b2, b3, b4, b5⟩
      have hq3 := hp2.next hb'
      have hb3 := bnext hb3 hb'
      have ⟨p0, p1, p2, p3, p4, p5⟩ := hq3
      clear hb' hd hp2 k2 f3
      by_cases HO : okP id f t L d s = true
      · rw [HO]
        go_wp2
        have hF := (((((k3.set0 id).set1 f).set2 t).set3 L).set4 d).set5 s
        refine bodyPost_ret (results_pipe2 Tryz.results82 _ _ w.heap.size id f t L d s rfl hF) rfl ⟨by rw [HPV.out HO]; rfl, ?_⟩
        exact (Below.setCell (Below.setCell (Below.setCell (Below.setCell (Below.setCell (Below.setCell hb3 (p := ⟨w.heap.size, 0, none⟩) (Nat.le_refl _) _) (p := ⟨w.heap.size, 1, none⟩) (Nat.le_refl _) _) (p := ⟨w.heap.size, 2, none⟩) (Nat.le_refl _) _) (p := ⟨w.heap.size, 3, none⟩) (Nat.le_refl _) _) (p := ⟨w.heap.size, 4, none⟩) (Nat.le_refl _) _) (p := ⟨w.heap.size, 5, none⟩) (Nat.le_refl _) _)
      · have HO : okP id f t L d s = false := by simpa using HO
        rw [HO]
        go_wp2
        have hF := (((((k3.set0 ByteArray.empty).set1 0).set2 0).set3 0).set4 0).set5 0
        refine bodyPost_ret (results_pipe2 Tryz.results82 _ _ w.heap.size ByteArray.empty 0 0 0 0 0 rfl hF) rfl ⟨by rw [HPN.out HO]; rfl, ?_⟩
        exact (Below.setCell (Below.setCell (Below.setCell (Below.setCell (Below.setCell (Below.setCell hb3 (p := ⟨w.heap.size, 0, none⟩) (Nat.le_refl _) _) (p := ⟨w.heap.size, 1, none⟩) (Nat.le_refl _) _) (p := ⟨w.heap.size, 2, none⟩) (Nat.le_refl _) _) (p := ⟨w.heap.size, 3, none⟩) (Nat.le_refl _) _) (p := ⟨w.heap.size, 4, none⟩) (Nat.le_refl _) _) (p := ⟨w.heap.size, 5, none⟩) (Nat.le_refl _) _)
    · have hm : madeP id o = none := madeP_none (by unfold fiveOk; rw [decide_eq_false h5]; rfl)
      have HN : Hid (Value.tuple #[pipeV (cutId l) (readP l), .bool (readP l).isSome] = .tuple #[pipeV id none, .bool false]) := Lib.hid (by rw [HX.out.1, HX.out.2, hm]; rfl)
      have h5'' : (((o.getD []).length : Int) != 5) = true := by
        have : (((o.getD []).length : Int) == 5) = false := by rw [beq_eq_false_iff_ne]; omega
        simp [bne, this]
      clear ho h5 hm HX
      obtain ⟨b0, b1, b2, b3, b4, b5⟩ := P2
      obtain ⟨d0, d1, d2, d3, d4, d5⟩ := F2
      have k0 : PipeAt w2 w.heap.size ByteArray.empty 0 0 0 0 0 := ⟨b0, b1, b2, b3, b4, b5⟩
      generalize (o.getD []).length = n at *
      generalize o.isSome = q at *
      cases q with
      | false =>
        go_wp2
        have hF := (((((k0.set0 ByteArray.empty).set1 0).set2 0).set3 0).set4 0).set5 0
        refine bodyPost_ret (results_pipe2 Tryz.results82 _ _ w.heap.size ByteArray.empty 0 0 0 0 0 rfl hF) rfl ⟨by rw [HN.out]; rfl, ?_⟩
        exact (Below.setCell (Below.setCell (Below.setCell (Below.setCell (Below.setCell (Below.setCell hb02 (p := ⟨w.heap.size, 0, none⟩) (Nat.le_refl _) _) (p := ⟨w.heap.size, 1, none⟩) (Nat.le_refl _) _) (p := ⟨w.heap.size, 2, none⟩) (Nat.le_refl _) _) (p := ⟨w.heap.size, 3, none⟩) (Nat.le_refl _) _) (p := ⟨w.heap.size, 4, none⟩) (Nat.le_refl _) _) (p := ⟨w.heap.size, 5, none⟩) (Nat.le_refl _) _)
      | true =>
        go_wp2
        have hF := (((((k0.set0 ByteArray.empty).set1 0).set2 0).set3 0).set4 0).set5 0
        refine bodyPost_ret (results_pipe2 Tryz.results82 _ _ w.heap.size ByteArray.empty 0 0 0 0 0 rfl hF) rfl ⟨by rw [HN.out]; rfl, ?_⟩
        exact (Below.setCell (Below.setCell (Below.setCell (Below.setCell (Below.setCell (Below.setCell hb02 (p := ⟨w.heap.size, 0, none⟩) (Nat.le_refl _) _) (p := ⟨w.heap.size, 1, none⟩) (Nat.le_refl _) _) (p := ⟨w.heap.size, 2, none⟩) (Nat.le_refl _) _) (p := ⟨w.heap.size, 3, none⟩) (Nat.le_refl _) _) (p := ⟨w.heap.size, 4, none⟩) (Nat.le_refl _) _) (p := ⟨w.heap.size, 5, none⟩) (Nat.le_refl _) _)
  · have hr := readP_parts h2
    have HN : Hid (Value.tuple #[pipeV (cutId l) (readP l), .bool (readP l).isSome] = .tuple #[pipeV (cutId l) none, .bool false]) := Lib.hid (by rw [hr]; rfl)
    have h2' : (((splitGo 32 [] l).length : Int) != 2) = true := by
      have : (((splitGo 32 [] l).length : Int) == 2) = false := by rw [beq_eq_false_iff_ne]; omega
      simp [bne, this]
    clear ho hr
    generalize (splitGo 32 [] l).length = n at *
    obtain ⟨b0, b1, b2, b3, b4, b5⟩ := P1
    obtain ⟨d0, d1, d2, d3, d4, d5⟩ := F1
    have k0 : PipeAt w1 w.heap.size ByteArray.empty 0 0 0 0 0 := ⟨b0, b1, b2, b3, b4, b5⟩
    go_wp2
    have hF := (((((k0.set0 ByteArray.empty).set1 0).set2 0).set3 0).set4 0).set5 0
    refine bodyPost_ret (results_pipe2 Tryz.results82 _ _ w.heap.size ByteArray.empty 0 0 0 0 0 rfl hF) rfl ⟨by rw [HN.out]; rfl, ?_⟩
    exact (Below.setCell (Below.setCell (Below.setCell (Below.setCell (Below.setCell (Below.setCell hb01 (p := ⟨w.heap.size, 0, none⟩) (Nat.le_refl _) _) (p := ⟨w.heap.size, 1, none⟩) (Nat.le_refl _) _) (p := ⟨w.heap.size, 2, none⟩) (Nat.le_refl _) _) (p := ⟨w.heap.size, 3, none⟩) (Nat.le_refl _) _) (p := ⟨w.heap.size, 4, none⟩) (Nat.le_refl _) _) (p := ⟨w.heap.size, 5, none⟩) (Nat.le_refl _) _)

theorem pipeV_form (id : ByteArray) (o : Option (List Int)) : ∃ i f t L d s, pipeV id o = .agg #[.string i, .int .i64 f, .int .i64 t, .int .i64 L, .int .i64 d, .int .i64 s] := by
  cases o with
  | none => exact ⟨_, _, _, _, _, _, rfl⟩
  | some zs => exact ⟨_, _, _, _, _, _, rfl⟩
end Go.Proofs.YtmopnkkpcgiafabGreatDoor
