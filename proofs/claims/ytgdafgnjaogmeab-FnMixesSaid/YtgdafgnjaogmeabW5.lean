/-
  ExpandedVolume of the program: its table of densities lies in memory and is read twice.
-/
import Derived.Test.YtgdafgnjaogmeabW3
import Derived.Deep.RegionHeld3
namespace Go.Proofs.Ytgdafgnjaogmeab
open Go.ChangeShapes Go.WideShapes Go.ChangeAt Go.RowKit
set_option linter.unusedSimpArgs false


theorem load_row_yields {P : Program} {ev : Operand → Value} {o : Oper} {w : World} {ty t : TypeId} {x : Operand} {g : Nat} {cs : Array Value} {fr : Nat × Nat} {d : TypeDesc} (ho : o.op = .load ty x) (hx : ev x = .pointer (some ⟨g, 0, none⟩))
    (hg : w.heap[g]? = some (.cells cs t fr)) (hu : P.underlying ty = some d) (hd : (match d with | .struct _ | .array _ _ => true | _ => false) = true) (hi : (P.info? ty).map (·.size) = some cs.size) :
    (execOp ev o).run P w = .ok (.value (.agg cs)) w := by
  unfold execOp
  simp only [ho, hx, Instr.loadAt, Instr.sureAddr, Sem.run_bind, Sem.run_pure, Result.andThen_ok, run_loadVar_row w g t ty cs fr d hg hu hd hi]

set_option maxHeartbeats 1600000 in
theorem implExpandedVolume_any (v a b : Int) (w : World) : Calls Try.prog 30 #[.int .i64 v, .int .i64 a, .int .i64 b] w fun e w' => e = .returned (.tuple #[.int .i64 (volV v a b), .int .i64 (volC v a b)]) ∧ Below w.heap.size w w' := by
  have hb : Below w.heap.size w w := Below.refl _ _
  by_cases h1 : inB v 0 1000000000 = true
  · by_cases h2 : (inB a 0 18000 && inB b 0 18000) = true
    · have hv : volV v a b = nearI (v * densI a) (densI b) := by unfold volV; simp_all
      have hc : volC v a b = 0 := by unfold volC; simp_all
      rw [hv, hc]
      clear hv hc
      have k1 := inB_iff.1 h1
      have d1 := dens_bd a
      have d2 := dens_bd b
      have k3 := mul_range v (densI a) 1000000000 99984 k1.1 k1.2 (by omega) d1.2
      have ew : IntKind.i64.wrap (v * densI a) = v * densI a := IntWalk.i64_in _ (by omega)
      have HA := Lib.hid (fun wx => densAt_any a wx)
      have HB := Lib.hid (fun wx => densAt_any b wx)
      have HN := Lib.hid (fun wx => nearest_any (v * densI a) (densI b) wx (by omega) (by omega) (by omega) (by omega) (by omega))
      generalize nearI (v * densI a) (densI b) = R at *
      generalize densI a = x at *
      generalize densI b = y at *
      go_enter Try.func30, Try.ntmps30
      go_wp2_with (first | (go_at_call 46; (with_reducible refine (one64At _ _ _ _ _ _ ?hn (by omega)).mono ?_); (case hn => simp); rintro e w' ⟨rfl, hb'⟩; have hb := bnext hb hb') | (go_at_call 46; (with_reducible refine (two64At _ _ _ _ _ _ _ ?hn (by omega)).mono ?_); (case hn => simp); rintro e w' ⟨rfl, hb'⟩; have hb := bnext hb hb'))
      refine (densities_any _).mono ?_
      rintro e w1 ⟨rfl, hb'⟩
      have hb := bnext hb hb'
      iterate 5 (first | go_values | go_step | go_upon | go_simp)
      refine wpList_store_row rfl 115 _ _ rfl w1.heap.size (ptsV densPts) (by kernel_rfl) (by kernel_rfl) 115 _ (heap_alloc_new w1 _) (by kernel_rfl) (by kernel_rfl) (by kernel_rfl) ?_
      rw [World.setRow_alloc_new]
      refine wpList_nil ?_
      simp only [Act.put]
      have hS : (w1.alloc (.cells (ptsV densPts) 115)).drew.heap[w1.heap.size]? = some (.cells (ptsV densPts) 115 (0, 0)) := heap_alloc_new w1 _
      have hb := bal hb (.cells (ptsV densPts) 115)
      have hg : w1.heap.size < (w1.alloc (.cells (ptsV densPts) 115)).heap.size := by simp
      go_wp2_with fail
      have hb : Below w.heap.size w (w1.alloc (.cells (ptsV densPts) 115)).drew := below_drewN hb 1
      have hg : w1.heap.size < (w1.alloc (.cells (ptsV densPts) 115)).drew.heap.size := hg
      generalize hgg : w1.heap.size = g at *
      clear hgg
      generalize (w1.alloc (.cells (ptsV densPts) 115)) = W1 at *
      refine wp_region_held_drew (S := fun w' => w'.heap[g]? = some (.cells (ptsV densPts) 115 (0, 0))) (by kernel_rfl) hS (fun hHeld => ?_)
      refine wpAnyH_take (i := 0) (v := .int .i64 v) rfl (by kernel_rfl) (by kernel_rfl) (by kernel_rfl) (fun _ _ _ h => h) (Or.inl ⟨by rfl, ?_⟩) (by assumption) ?_
      · intro wz hSw
        go_simp
      try simp only [List.getElem_toArray, List.getElem_cons_succ, List.getElem_cons_zero, Act.put, List.setIfInBounds_toArray, List.set_cons_zero, List.set_cons_succ]
      refine wpAnyH_take (i := 1) (v := .agg (ptsV densPts)) rfl (by kernel_rfl) (by kernel_rfl) (by kernel_rfl) (fun _ _ _ h => h) (Or.inl ⟨by rfl, ?_⟩) (by assumption) ?_
      · intro wz hSw
        exact load_row_yields rfl rfl hSw Try.underlying115 rfl (by kernel_rfl)
      try simp only [List.getElem_toArray, List.getElem_cons_succ, List.getElem_cons_zero, Act.put, List.setIfInBounds_toArray, List.set_cons_zero, List.set_cons_succ]
      refine wpAnyH_take (i := 2) (v := .int .i64 a) rfl (by kernel_rfl) (by kernel_rfl) (by kernel_rfl) (fun _ _ _ h => h) (Or.inl ⟨by rfl, ?_⟩) (by assumption) ?_
      · intro wz hSw
        go_simp
      try simp only [List.getElem_toArray, List.getElem_cons_succ, List.getElem_cons_zero, Act.put, List.setIfInBounds_toArray, List.set_cons_zero, List.set_cons_succ]
      refine wpAnyH_take (i := 5) (v := .agg (ptsV densPts)) rfl (by kernel_rfl) (by kernel_rfl) (by kernel_rfl) (fun _ _ _ h => h) (Or.inl ⟨by rfl, ?_⟩) (by assumption) ?_
      · intro wz hSw
        exact load_row_yields rfl rfl hSw Try.underlying115 rfl (by kernel_rfl)
      try simp only [List.getElem_toArray, List.getElem_cons_succ, List.getElem_cons_zero, Act.put, List.setIfInBounds_toArray, List.set_cons_zero, List.set_cons_succ]
      refine wpAnyH_take (i := 6) (v := .int .i64 b) rfl (by kernel_rfl) (by kernel_rfl) (by kernel_rfl) (fun _ _ _ h => h) (Or.inl ⟨by rfl, ?_⟩) (by assumption) ?_
      · intro wz hSw
        go_simp
      try simp only [List.getElem_toArray, List.getElem_cons_succ, List.getElem_cons_zero, Act.put, List.setIfInBounds_toArray, List.set_cons_zero, List.set_cons_succ]
      refine wpAnyH_ready (rs := [3]) (by kernel_rfl) (by simp) ?_
      refine AllReadyH.cons rfl (fun K hK => ?_) AllReadyH.nil
      go_simp
      (refine (HA.out _).mono ?_; rintro e w2 ⟨rfl, hb'⟩; have hS := (hb'.block g hg).trans hS; have hb := bnext hb hb'; have hg := Nat.lt_of_lt_of_le hg hb'.size)
      go_wp2_with fail
      refine hK.out _ _ hS (fun hHeld => ?_)
      clear hK K
      try simp only [Act.put, List.setIfInBounds_toArray, List.set_cons_zero, List.set_cons_succ]
      refine wpAnyH_take (i := 4) (v := .int .i64 (v * x)) rfl (by kernel_rfl) (by kernel_rfl) (by kernel_rfl) (fun _ _ _ h => h) (Or.inl ⟨by rfl, ?_⟩) (by assumption) ?_
      · intro wz hSw
        go_simp
      try simp only [List.getElem_toArray, List.getElem_cons_succ, List.getElem_cons_zero, Act.put, List.setIfInBounds_toArray, List.set_cons_zero, List.set_cons_succ]
      refine wpAnyH_ready (rs := [7]) (by kernel_rfl) (by simp) ?_
      refine AllReadyH.cons rfl (fun K hK => ?_) AllReadyH.nil
      go_simp
      (refine (HB.out _).mono ?_; rintro e w3 ⟨rfl, hb'⟩; have hS := (hb'.block g hg).trans hS; have hb := bnext hb hb'; have hg := Nat.lt_of_lt_of_le hg hb'.size)
      go_wp2_with fail
      refine hK.out _ _ hS (fun hHeld => ?_)
      clear hK K
      try simp only [Act.put, List.setIfInBounds_toArray, List.set_cons_zero, List.set_cons_succ]
      refine wpAnyH_ready (rs := [8]) (by kernel_rfl) (by simp) ?_
      refine AllReadyH.cons rfl (fun K hK => ?_) AllReadyH.nil
      go_simp
      (refine (HN.out _).mono ?_; rintro e w4 ⟨rfl, hd'⟩; have hb' : Below w3.heap.size w3 w4 := (by obtain ⟨n, rfl⟩ := hd'; exact below_drewN (Below.refl _ _) _); have hS := (hb'.block g hg).trans hS; have hb := bnext hb hb'; have hg := Nat.lt_of_lt_of_le hg hb'.size)
      go_wp2_with fail
      refine hK.out _ _ hS (fun hHeld => ?_)
      clear hK K
      try simp only [Act.put, List.setIfInBounds_toArray, List.set_cons_zero, List.set_cons_succ]
      refine wpAnyH_take (i := 9) (v := .int .i64 R) rfl (by kernel_rfl) (by kernel_rfl) (by kernel_rfl) (fun _ _ _ h => h) (Or.inl ⟨by rfl, ?_⟩) (by assumption) ?_
      · intro wz hSw
        go_simp
      try simp only [List.getElem_toArray, List.getElem_cons_succ, List.getElem_cons_zero, Act.put, List.setIfInBounds_toArray, List.set_cons_zero, List.set_cons_succ]
      refine wpAnyH_take (i := 10) (v := .int .i64 0) rfl (by kernel_rfl) (by kernel_rfl) (by kernel_rfl) (fun _ _ _ h => h) (Or.inl ⟨by rfl, ?_⟩) (by assumption) ?_
      · intro wz hSw
        go_simp
      try simp only [List.getElem_toArray, List.getElem_cons_succ, List.getElem_cons_zero, Act.put, List.setIfInBounds_toArray, List.set_cons_zero, List.set_cons_succ]
      refine wpAnyH_done (by kernel_rfl) ?_ _
      go_wp2
      go_ret2
      exact ⟨rfl, hb⟩
    · have h2' : (inB a 0 18000 && inB b 0 18000) = false := by simpa using h2
      have hv : volV v a b = 0 := by unfold volV; rw [Bool.and_assoc, h2', Bool.and_false]; rfl
      have hc : volC v a b = 2 := by unfold volC; rw [Bool.and_assoc, h2', Bool.and_false]; rfl
      rw [hv, hc]
      clear hv hc
      go_enter Try.func30, Try.ntmps30
      go_wp2_with (first | (go_at_call 46; (with_reducible refine (one64At _ _ _ _ _ _ ?hn (by omega)).mono ?_); (case hn => simp); rintro e w' ⟨rfl, hb'⟩; have hb := bnext hb hb') | (go_at_call 46; (with_reducible refine (two64At _ _ _ _ _ _ _ ?hn (by omega)).mono ?_); (case hn => simp); rintro e w' ⟨rfl, hb'⟩; have hb := bnext hb hb'))
      go_ret2
      exact ⟨rfl, hb⟩
  · have h1' : inB v 0 1000000000 = false := by simpa using h1
    have hv : volV v a b = 0 := by unfold volV; rw [h1']; rfl
    have hc : volC v a b = 2 := by unfold volC; rw [h1']; rfl
    rw [hv, hc]
    clear hv hc
    go_enter Try.func30, Try.ntmps30
    go_wp2_with ((go_at_call 46; (with_reducible refine (one64At _ _ _ _ _ _ ?hn (by omega)).mono ?_); (case hn => simp); rintro e w' ⟨rfl, hb'⟩; have hb := bnext hb hb'))
    go_ret2
    exact ⟨rfl, hb⟩

end Go.Proofs.Ytgdafgnjaogmeab
