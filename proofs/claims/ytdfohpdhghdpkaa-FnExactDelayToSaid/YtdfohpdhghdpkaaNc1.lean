import Derived.Test.YtdfohpdhghdpkaaNc0
import Derived.Test.YtdfohpdhghdpkaaNb7
import Derived.Deep.RegionHeld3
import Derived.Deep.DeepCutAuto
/-
  The codes of chapter 7 of the program.
-/
namespace Go.Proofs.Ytdfohpdhghdpkaa
open Go.ChangeShapes Go.WideShapes Go.ChangeAt Go.RowKit
set_option maxRecDepth 100000
set_option linter.unusedVariables false
set_option linter.unusedSimpArgs false

theorem treeCode_any (A B : Option Addr) (c d : Nat) (z : List Int) (ps : List Pp) (r s : Bool) (w : World) (h : NetCells w A z B ps) (hn : z.length ≤ 1048576) (hm : ps.length ≤ 1048576) (hid : ∀ p ∈ ps, p.id.size ≤ maxLen) :
    Calls Try.prog 53 #[.agg #[.slice A z.length c, .slice B ps.length d], .bool r, .bool s] w fun e w' => e = .returned (.int .i64 (preC z ps r s)) ∧ Below w.heap.size w w' := by
  have hb : Below w.heap.size w (w.alloc (.cells #[.slice A z.length c, .slice B ps.length d] 27)) := bal (Below.refl _ _) _
  have hN := NetAt.new w A z.length c B ps.length d 27
  have HCD := Lib.hid (fun wx (hx : Below w.heap.size w wx) => code_any A B c d z ps r wx (h.next hx) hn hm hid)
  have HT := Lib.hid (fun wx (hx : Below w.heap.size w wx) => implIsTree_b A B c d z ps wx (h.next hx) hn hm hid)
  clear h hid
  unfold isTreeB at HT
  unfold preC treeB
  unfold argC at HCD
  generalize netB z ps = vb at *
  generalize (decide (ps.length + 1 = z.length) && decide ((treeTo noneClosed z.length ps ps.length).length = ps.length)) = tb at *
  have ⟨n0, n1⟩ := hN
  cases vb <;> cases r <;> cases s <;> cases tb
  all_goals (
    go_enter Try.func53, Try.ntmps53
    go_wp2_with (first
      | (go_at_call 59; go_must (refine (HCD.out _ hb).mono ?_; rintro e w1 ⟨rfl, hb1⟩; have hN := hN.next hb1; have hb := bnext hb hb1; have ⟨n0, n1⟩ := hN))
      | (go_at_call 115; go_must (refine (HT.out _ hb).mono ?_; rintro e w1 ⟨rfl, hb1⟩; have hb := bnext hb hb1)))
    go_ret
    exact ⟨rfl, hb⟩)
/-- a call that returns the stream of a tree, or a code -/
def RetGiven (ps : List Pp) (Y : List Int) (src : Int) (A B : Option Addr) (n c d : Nat) (F : Option Addr) (fl fc : Nat) (C : Int) (w : World) (e : Ending) (w' : World) : Prop :=
  (C ≠ 0 ∧ e = .returned (.tuple #[.agg #[.pointer none, .int .i64 0, .slice none 0 0, .map none], .int .i64 C]) ∧ Below w.heap.size w w') ∨
  (C = 0 ∧ ∃ sv, e = .returned (.tuple #[sv, .int .i64 C]) ∧ RetStream ps Y src A B n c d F fl fc w (.returned sv) w')
set_option maxHeartbeats 2000000 in
theorem givenStream_any (A B : Option Addr) (c d : Nat) (z : List Int) (ps : List Pp) (src : Int) (Q : Option Addr) (qc : Nat) (q : List Int) (r : Bool) (w : World) (h : NetCells w A z B ps) (hn : z.length ≤ 1048576) (hm : ps.length ≤ 1048576) (hid : ∀ p ∈ ps, p.id.size ≤ maxLen) (hQ : CellsAt w Q (intsV q)) (hq : q.length ≤ 1048576) :
    Calls Try.prog 95 #[.agg #[.slice A z.length c, .slice B ps.length d], .int .i64 src, .slice Q q.length qc, .bool r] w (RetGiven ps (bfsOut ps z.length src z.length).2 src A B z.length c d Q q.length qc (preC z ps (inB src 0 ((z.length : Int) - 1) && r) (flB (-100000) 100000 ps.length q)) w) := by
  have hb0 : Below w.heap.size w ((w.alloc (.cells #[.slice A z.length c, .slice B ps.length d] 27)).alloc (.cells #[.pointer none, .int .i64 0, .slice none 0 0, .map none] 74)) := bal (bal (Below.refl _ _) _) _
  have hN0 := (NetAt.new w A z.length c B ps.length d 27).next (bal (Below.refl _ _) (.cells #[.pointer none, .int .i64 0, .slice none 0 0, .map none] 74))
  have hZ0 := Box4.new (w.alloc (.cells #[.slice A z.length c, .slice B ps.length d] 27)) (.pointer none) (.int .i64 0) (.slice none 0 0) (.map none) 74 (w.heap.size + 1) (by simp)
  have hb : Below w.heap.size w ((w.alloc (.cells #[.slice A z.length c, .slice B ps.length d] 27)).alloc (.cells #[.pointer none, .int .i64 0, .slice none 0 0, .map none] 74)).drew := below_drewN hb0 1
  have hN : NetAt ((w.alloc (.cells #[.slice A z.length c, .slice B ps.length d] 27)).alloc (.cells #[.pointer none, .int .i64 0, .slice none 0 0, .map none] 74)).drew w.heap.size A z.length c B ps.length d := hN0
  have hZ : Box4 ((w.alloc (.cells #[.slice A z.length c, .slice B ps.length d] 27)).alloc (.cells #[.pointer none, .int .i64 0, .slice none 0 0, .map none] 74)).drew (w.heap.size + 1) (.pointer none) (.int .i64 0) (.slice none 0 0) (.map none) := hZ0
  have HC := Lib.hid h
  have HHN := Lib.hid (fun wx => hasNode_any A z.length c B ps.length d src wx hn)
  have HFL := Lib.hid (fun wx (hx : Below w.heap.size w wx) => hasFlows_any A z.length c B ps.length d Q qc q wx hn hm hq (hQ.next hx))
  have HTC := Lib.hid (fun r s wx (hx : Below w.heap.size w wx) => treeCode_any A B c d z ps r s wx (h.next hx) hn hm hid)
  have HNS := Lib.hid (fun (hP : preC z ps (inB src 0 ((z.length : Int) - 1) && r) (flB (-100000) 100000 ps.length q) = 0) wx (hx : Below w.heap.size w wx) => by
    have hpp := preC_net hP
    have hsr : inB src 0 ((z.length : Int) - 1) = true := by have := hpp.2.1; rw [Bool.and_eq_true] at this; exact this.1
    have ⟨R, hj, s0, s1, hm15, hn16⟩ := rooted_net hpp.1 hpp.2.2.2 hsr
    exact newStream_any Q q.length qc src A B z.length c d ps _ _ wx R hj s0 s1 hm15 hn16 (h.2.next hx))
  clear h hid hQ
  generalize (bfsOut ps z.length src z.length).2 = Y at *
  generalize flB (-100000) 100000 ps.length q = fb at *
  cases hs : inB src 0 ((z.length : Int) - 1) with
  | true =>
    rw [hs] at HHN HNS
    clear hs
    rw [Bool.true_and] at HNS ⊢
    obtain ⟨C, hC⟩ : ∃ C, preC z ps r fb = C := ⟨_, rfl⟩
    have HT2 := Lib.hid (fun wx (hx : Below w.heap.size w wx) => by have := HTC.out r fb wx hx; rw [hC] at this; exact this)
    rw [hC] at HNS ⊢
    clear HTC hC
    have ⟨n0, n1⟩ := hN
    go_enter Try.func95, Try.ntmps95
    go_wp2_with fail
    go_region_held3 (fun w' => w'.cell? ⟨w.heap.size, 0, none⟩ = some (.slice A z.length c) ∧ w'.cell? ⟨w.heap.size, 1, none⟩ = some (.slice B ps.length d)) (exact ⟨n0, n1⟩) (first
      | (go_at_call 54; go_must (refine (HHN.out _).mono ?_; rintro e w1 ⟨rfl, hb1⟩; have hN := hN.next hb1; have hZ := hZ.next hb1; have hb := bnext hb hb1; have ⟨n0, n1⟩ := hN))
      | (go_at_call 58; go_must (refine (HFL.out _ hb).mono ?_; rintro e w2 ⟨rfl, hb2⟩; have hN := hN.next hb2; have hZ := hZ.next hb2; have hb := bnext hb hb2; have ⟨n0, n1⟩ := hN))
      | (go_at_call 53; go_must (refine (HT2.out _ hb).mono ?_; rintro e w3 ⟨rfl, hb3⟩; have hN := hN.next hb3; have hZ := hZ.next hb3; have hb := bnext hb hb3; have ⟨n0, n1⟩ := hN)))
    by_cases hC0 : C = 0
    · have HNS1 := HNS.out hC0 _ hb
      have hC1 : (C == 0) = true := by simpa using hC0
      have HC0 := Lib.hid hC0
      clear HNS hC0
      have hs3 : w.heap.size + 1 < w3.heap.size := World.block_lt_of_cell? _ _ hZ.1.1
      go_wp2_with (go_at_call 56; go_must (refine HNS1.mono ?_; rintro e w4 ⟨gb, mb, mn, D, M, rfl, hG, hM, hD, hMa, hg0, hm0, hne, hb4⟩; have hZ := hZ.next hb4; have hb := bnext hb hb4; have ⟨⟨z0, z1, z2, z3⟩, f0, f1, f2, f3⟩ := hZ))
      obtain ⟨cv, hcv⟩ : ∃ cv, cv = (((w4.setCell ⟨w.heap.size + 1, 0, none⟩ (.pointer (some ⟨gb, 0, none⟩))).setCell ⟨w.heap.size + 1, 1, none⟩ (.int .i64 src)).setCell ⟨w.heap.size + 1, 2, none⟩ (.slice Q q.length qc)).setCell ⟨w.heap.size + 1, 3, none⟩ (.map (some mb)) := ⟨_, rfl⟩
      obtain ⟨_, _, _, _, kv⟩ := set4_cells hZ cv hcv
      have hZv := hZ.set4 cv hcv
      rw [← hcv]
      obtain ⟨cw, hcw⟩ : ∃ cw, cw = (((cv.setCell ⟨w.heap.size + 1, 0, none⟩ (.pointer (some ⟨gb, 0, none⟩))).setCell ⟨w.heap.size + 1, 1, none⟩ (.int .i64 src)).setCell ⟨w.heap.size + 1, 2, none⟩ (.slice Q q.length qc)).setCell ⟨w.heap.size + 1, 3, none⟩ (.map (some mb)) := ⟨_, rfl⟩
      obtain ⟨k0, k1, k2, k3, kw⟩ := set4_cells hZv cw hcw
      have kg := kv.trans kw
      have hkk : ∀ k, some (w.heap.size + 1) = some k → w.heap.size ≤ k := fun k hk => by cases hk; omega
      have HRET : RetGiven ps Y src A B z.length c d Q q.length qc C w (.returned (.tuple #[.agg #[.pointer (some ⟨gb, 0, none⟩), .int .i64 src, .slice Q q.length qc, .map (some mb)], .int .i64 C])) cw :=
        .inr ⟨HC0.out, _, rfl, gb, mb, mn, D, M, rfl, hG.grown kg (by omega), hM.kept kg (by intro e; have e : mb = w.heap.size + 1 := (by simpa using e); omega), hD, hMa, by have := hb.size; omega, by have := hb.size; omega, hne, hb.grown kg hb.size hkk⟩
      rw [← hcw]
      clear hcw hcv z0 z1 z2 z3 f0 f1 f2 f3 hZ hG hM hb
      exact bodyPost_ret (results_stream2 Try.results95 _ cw (w.heap.size + 1) _ _ _ _ rfl k0 k1 k2 k3) rfl HRET
    · have hC1 : (C == 0) = false := by simpa using hC0
      have HC0 := Lib.hid hC0
      clear HNS hC0
      have ⟨⟨z0, z1, z2, z3⟩, f0, f1, f2, f3⟩ := hZ
      go_wp2
      obtain ⟨cw, hcw⟩ : ∃ cw, cw = (((w3.setCell ⟨w.heap.size + 1, 0, none⟩ (.pointer none)).setCell ⟨w.heap.size + 1, 1, none⟩ (.int .i64 0)).setCell ⟨w.heap.size + 1, 2, none⟩ (.slice none 0 0)).setCell ⟨w.heap.size + 1, 3, none⟩ (.map none) := ⟨_, rfl⟩
      obtain ⟨k0, k1, k2, k3, kg⟩ := set4_cells hZ cw hcw
      have hkk : ∀ k, some (w.heap.size + 1) = some k → w.heap.size ≤ k := fun k hk => by cases hk; omega
      have hbw := hb.grown kg hb.size hkk
      rw [← hcw]
      clear hcw z0 z1 z2 z3 f0 f1 f2 f3 hZ hb
      exact bodyPost_ret (results_stream2 Try.results95 _ cw (w.heap.size + 1) _ _ _ _ rfl k0 k1 k2 k3) rfl (.inl ⟨HC0.out, rfl, hbw⟩)
  | false =>
    rw [hs] at HHN
    clear hs HNS
    rw [Bool.false_and]
    obtain ⟨C, hC⟩ : ∃ C, preC z ps false fb = C := ⟨_, rfl⟩
    have hC0 : C ≠ 0 := by rw [← hC]; intro e; have := (preC_net e).2.1; cases this
    have HT2 := Lib.hid (fun wx (hx : Below w.heap.size w wx) => by have := HTC.out false fb wx hx; rw [hC] at this; exact this)
    rw [hC]
    have HC0 := Lib.hid hC0
    have hC1 : (C == 0) = false := by simpa using hC0
    clear HTC hC hC0
    have ⟨n0, n1⟩ := hN
    go_enter Try.func95, Try.ntmps95
    go_wp2_with fail
    have hS0 : (fun w' => w'.cell? ⟨w.heap.size, 0, none⟩ = some (.slice A z.length c) ∧ w'.cell? ⟨w.heap.size, 1, none⟩ = some (.slice B ps.length d)) ((w.alloc (.cells #[.slice A z.length c, .slice B ps.length d] 27)).alloc (.cells #[.pointer none, .int .i64 0, .slice none 0 0, .map none] 74)).drew := ⟨n0, n1⟩
    refine wp_region_held_drew (S := (fun w' => w'.cell? ⟨w.heap.size, 0, none⟩ = some (.slice A z.length c) ∧ w'.cell? ⟨w.heap.size, 1, none⟩ = some (.slice B ps.length d))) (by kernel_rfl) hS0 (fun hHeld => ?_)
    refine wpAnyH_take (i := 0) (v := .agg #[.slice A z.length c, .slice B ps.length d]) rfl (by kernel_rfl) (by kernel_rfl) (by kernel_rfl) (fun _ _ _ h => h) (Or.inl ⟨by rfl, fun wz hSw => by obtain ⟨hs0, hs1⟩ := hSw; go_simp⟩) (by assumption) ?_
    try simp only [Act.put, List.getElem_toArray, List.getElem_cons_zero, List.getElem_cons_succ, List.setIfInBounds_toArray, List.set_cons_zero, List.set_cons_succ]
    refine wpAnyH_take (i := 1) (v := .agg #[.slice A z.length c, .slice B ps.length d]) rfl (by kernel_rfl) (by kernel_rfl) (by kernel_rfl) (fun _ _ _ h => h) (Or.inl ⟨by rfl, fun wz hSw => by obtain ⟨hs0, hs1⟩ := hSw; go_simp⟩) (by assumption) ?_
    try simp only [Act.put, List.getElem_toArray, List.getElem_cons_zero, List.getElem_cons_succ, List.setIfInBounds_toArray, List.set_cons_zero, List.set_cons_succ]
    refine wpAnyH_take (i := 2) (v := .int .i64 src) rfl (by kernel_rfl) (by kernel_rfl) (by kernel_rfl) (fun _ _ _ h => h) (Or.inl ⟨by rfl, fun wz hSw => by obtain ⟨hs0, hs1⟩ := hSw; go_simp⟩) (by assumption) ?_
    try simp only [Act.put, List.getElem_toArray, List.getElem_cons_zero, List.getElem_cons_succ, List.setIfInBounds_toArray, List.set_cons_zero, List.set_cons_succ]
    refine wpAnyH_take (i := 7) (v := .agg #[.slice A z.length c, .slice B ps.length d]) rfl (by kernel_rfl) (by kernel_rfl) (by kernel_rfl) (fun _ _ _ h => h) (Or.inl ⟨by rfl, fun wz hSw => by obtain ⟨hs0, hs1⟩ := hSw; go_simp⟩) (by assumption) ?_
    try simp only [Act.put, List.getElem_toArray, List.getElem_cons_zero, List.getElem_cons_succ, List.setIfInBounds_toArray, List.set_cons_zero, List.set_cons_succ]
    refine wpAnyH_take (i := 8) (v := .slice Q q.length qc) rfl (by kernel_rfl) (by kernel_rfl) (by kernel_rfl) (fun _ _ _ h => h) (Or.inl ⟨by rfl, fun wz hSw => by obtain ⟨hs0, hs1⟩ := hSw; go_simp⟩) (by assumption) ?_
    try simp only [Act.put, List.getElem_toArray, List.getElem_cons_zero, List.getElem_cons_succ, List.setIfInBounds_toArray, List.set_cons_zero, List.set_cons_succ]
    refine wpAnyH_ready (rs := [3]) (by kernel_rfl) (by simp) ?_
    refine AllReadyH.cons (o := { dst := some 13, op := Op.call { callee := Callee.value (Operand.func 54), args := #[Operand.tmp 11, Operand.tmp 12], argTypes := #[27, 2] }, type := 4, pos := _, after := _, guard := none }) rfl (fun K hK => ?_) AllReadyH.nil
    rw [if_pos (by rfl)]
    go_simp
    refine (HHN.out _).mono ?_
    rintro e w1 ⟨rfl, hbq⟩
    have hN := hN.next hbq; have hZ := hZ.next hbq; have hb := bnext hb hbq; have ⟨n0, n1⟩ := hN
    clear hbq
    refine hK.out _ _ ⟨n0, n1⟩ (fun hHeld => ?_)
    try simp only [Act.put, List.getElem_toArray, List.getElem_cons_zero, List.getElem_cons_succ, List.setIfInBounds_toArray, List.set_cons_zero, List.set_cons_succ]
    refine wpAnyH_take (i := 4) (v := .bool false) rfl (by kernel_rfl) (by kernel_rfl) (by kernel_rfl) (fun _ _ _ h => h) (Or.inl ⟨by rfl, fun wz hSw => by obtain ⟨hs0, hs1⟩ := hSw; go_simp⟩) (by assumption) ?_
    try simp only [Act.put, List.getElem_toArray, List.getElem_cons_zero, List.getElem_cons_succ, List.setIfInBounds_toArray, List.set_cons_zero, List.set_cons_succ]
    refine wpAnyH_take (i := 5) (v := undef) rfl (by kernel_rfl) (by kernel_rfl) (by kernel_rfl) (fun _ _ _ h => h) (Or.inr ⟨by rfl, rfl⟩) (by assumption) ?_
    try simp only [Act.put, List.getElem_toArray, List.getElem_cons_zero, List.getElem_cons_succ, List.setIfInBounds_toArray, List.set_cons_zero, List.set_cons_succ]
    refine wpAnyH_take (i := 6) (v := .bool false) rfl (by kernel_rfl) (by kernel_rfl) (by kernel_rfl) (fun _ _ _ h => h) (Or.inl ⟨by rfl, fun wz hSw => by obtain ⟨hs0, hs1⟩ := hSw; go_simp⟩) (by assumption) ?_
    try simp only [Act.put, List.getElem_toArray, List.getElem_cons_zero, List.getElem_cons_succ, List.setIfInBounds_toArray, List.set_cons_zero, List.set_cons_succ]
    refine wpAnyH_ready (rs := [9]) (by kernel_rfl) (by simp) ?_
    refine AllReadyH.cons (o := { dst := some 19, op := Op.call { callee := Callee.value (Operand.func 58), args := #[Operand.tmp 17, Operand.tmp 18], argTypes := #[27, 24] }, type := 4, pos := _, after := _, guard := none }) rfl (fun K hK => ?_) AllReadyH.nil
    rw [if_pos (by rfl)]
    go_simp
    refine (HFL.out _ hb).mono ?_
    rintro e w2 ⟨rfl, hbq⟩
    have hN := hN.next hbq; have hZ := hZ.next hbq; have hb := bnext hb hbq; have ⟨n0, n1⟩ := hN
    clear hbq
    refine hK.out _ _ ⟨n0, n1⟩ (fun hHeld => ?_)
    try simp only [Act.put, List.getElem_toArray, List.getElem_cons_zero, List.getElem_cons_succ, List.setIfInBounds_toArray, List.set_cons_zero, List.set_cons_succ]
    refine wpAnyH_ready (rs := [10]) (by kernel_rfl) (by simp) ?_
    refine AllReadyH.cons (o := { dst := some 20, op := Op.call { callee := Callee.value (Operand.func 53), args := #[Operand.tmp 10, Operand.tmp 16, Operand.tmp 19], argTypes := #[27, 4, 4] }, type := 2, pos := _, after := _, guard := none }) rfl (fun K hK => ?_) AllReadyH.nil
    rw [if_pos (by rfl)]
    go_simp
    refine (HT2.out _ hb).mono ?_
    rintro e w3 ⟨rfl, hbq⟩
    have hN := hN.next hbq; have hZ := hZ.next hbq; have hb := bnext hb hbq; have ⟨n0, n1⟩ := hN
    clear hbq
    refine hK.out _ _ ⟨n0, n1⟩ (fun hHeld => ?_)
    try simp only [Act.put, List.getElem_toArray, List.getElem_cons_zero, List.getElem_cons_succ, List.setIfInBounds_toArray, List.set_cons_zero, List.set_cons_succ]
    refine wpAnyH_take (i := 11) (v := .int .i64 C) rfl (by kernel_rfl) (by kernel_rfl) (by kernel_rfl) (fun _ _ _ h => h) (Or.inl ⟨by rfl, fun wz hSw => by obtain ⟨hs0, hs1⟩ := hSw; go_simp⟩) (by assumption) ?_
    try simp only [Act.put, List.getElem_toArray, List.getElem_cons_zero, List.getElem_cons_succ, List.setIfInBounds_toArray, List.set_cons_zero, List.set_cons_succ]
    refine wpAnyH_done (by kernel_rfl) ?_ _
    have ⟨⟨z0, z1, z2, z3⟩, f0, f1, f2, f3⟩ := hZ
    go_wp2
    obtain ⟨cw, hcw⟩ : ∃ cw, cw = (((w3.setCell ⟨w.heap.size + 1, 0, none⟩ (.pointer none)).setCell ⟨w.heap.size + 1, 1, none⟩ (.int .i64 0)).setCell ⟨w.heap.size + 1, 2, none⟩ (.slice none 0 0)).setCell ⟨w.heap.size + 1, 3, none⟩ (.map none) := ⟨_, rfl⟩
    obtain ⟨k0, k1, k2, k3, kg⟩ := set4_cells hZ cw hcw
    have hkk : ∀ k, some (w.heap.size + 1) = some k → w.heap.size ≤ k := fun k hk => by cases hk; omega
    have hbw := hb.grown kg hb.size hkk
    rw [← hcw]
    clear hcw z0 z1 z2 z3 f0 f1 f2 f3 hZ hb
    exact bodyPost_ret (results_stream2 Try.results95 _ cw (w.heap.size + 1) _ _ _ _ rfl k0 k1 k2 k3) rfl (.inl ⟨HC0.out, rfl, hbw⟩)
end Go.Proofs.Ytdfohpdhghdpkaa
