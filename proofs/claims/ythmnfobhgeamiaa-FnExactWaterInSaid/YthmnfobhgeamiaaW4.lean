/-
  firstFrom: the least number at which a function that never falls reaches a goal; what is built on it in chapter 2.
-/
import Derived.Test.YthmnfobhgeamiaaW3
import Derived.Deep.RegionHeld3
namespace Go.Proofs.Ythmnfobhgeamiaa
open Go.ChangeShapes Go.WideShapes Go.ChangeAt Go.RowKit Go.Shelf

theorem reach_any (g : Nat) (fs cp : Array Value) (r l q : Nat) (lo goal v : Int) (i : Nat) (w : World) (eg : ∀ args w, (callFunc g args).run Try.prog w = .ok (.enter g args) w)
    (hr : w.cell? ⟨r, 0, none⟩ = some (.func (.func g) fs cp)) (hl : w.cell? ⟨l, 0, none⟩ = some (.int .i64 lo)) (hq : w.cell? ⟨q, 0, none⟩ = some (.int .i64 goal))
    (l0 : -1000000000000 ≤ lo) (l1 : lo ≤ 1000000000000) (hi : i ≤ 1000000000000)
    (hF : ∀ wr, Below w.heap.size w wr → Calls Try.prog g (fs.push (.int .i64 (lo + i)) ++ cp) wr fun e w' => e = .returned (.int .i64 v) ∧ Below wr.heap.size wr w') :
    Calls Try.prog 78 #[.int .i64 i, .pointer (some ⟨r, 0, none⟩), .pointer (some ⟨l, 0, none⟩), .pointer (some ⟨q, 0, none⟩)] w
      fun e w' => e = .returned (.bool (decide (goal ≤ v))) ∧ Below w.heap.size w w' := by
  rw [show lo + (i : Int) = IntKind.i64.wrap (lo + i) from (IntWalk.i64_in _ (by omega)).symm] at hF
  have HF := Lib.hid hF
  clear hF
  have hb0 : Below w.heap.size w w := Below.refl _ _
  go_enter Try.func78, Try.ntmps78
  go_wp2_with fail
  go_region_held3 (fun w' => w'.cell? ⟨r, 0, none⟩ = some (.func (.func g) fs cp) ∧ w'.cell? ⟨l, 0, none⟩ = some (.int .i64 lo) ∧ w'.cell? ⟨q, 0, none⟩ = some (.int .i64 goal) ∧ Below w.heap.size w w')
    (first | exact ⟨hr, hl, hq, below_drewN hb0 1⟩ | (go_split_ands; exact ⟨(hb'.cell (World.block_lt_of_cell? _ _ (by assumption))).trans (by assumption), (hb'.cell (World.block_lt_of_cell? _ _ (by assumption))).trans (by assumption), (hb'.cell (World.block_lt_of_cell? _ _ (by assumption))).trans (by assumption), bnext (by assumption) hb'⟩))
    (first | (go_at_fn g; go_split_ands; refine (HF.out _ (by assumption)).mono ?_; rintro e w' ⟨rfl, hb'⟩))
  go_wp2
  go_ret
  exact ⟨rfl, bnext (below_drewN hb0 1) hb'⟩

/-- the least number from lo to hi at which f is at least goal, hi + 1 if there is none, where f never falls -/
def leastI (lo hi goal : Int) (f : Int → Int) : Int := lo + countF (fun i => decide (goal ≤ f (lo + (i : Int)))) (hi - lo + 1).toNat
theorem leastI_spec (lo hi goal : Int) (f : Int → Int) (h : lo ≤ hi + 1) (hm : ∀ x y, lo ≤ x → x ≤ y → y ≤ hi → f x ≤ f y) : Least lo hi goal f (leastI lo hi goal f) :=
  least_of_count (by omega) (fun _ _ => rfl) hm
theorem firstFrom_any (g : Nat) (fs cp : Array Value) (lo hi goal : Int) (f : Int → Int) (w : World) (eg : ∀ args w, (callFunc g args).run Try.prog w = .ok (.enter g args) w)
    (l0 : -100000000000 ≤ lo) (lh : lo ≤ hi + 1) (l1 : hi ≤ 100000000000)
    (hF : ∀ (wr : World) (x : Int), lo ≤ x → x ≤ hi → Below w.heap.size w wr → Calls Try.prog g (fs.push (.int .i64 x) ++ cp) wr fun e w' => e = .returned (.int .i64 (f x)) ∧ Below wr.heap.size wr w')
    (hm : ∀ x y, lo ≤ x → x ≤ y → y ≤ hi → f x ≤ f y) :
    Calls Try.prog 51 #[.int .i64 lo, .int .i64 hi, .int .i64 goal, .func (.func g) fs cp] w fun e w' => e = .returned (.int .i64 (leastI lo hi goal f)) ∧ Below w.heap.size w w' := by
  have eg2 : ∀ args w, (callFunc 78 args).run Try.prog w = .ok (.enter 78 args) w := enters_of Try.func78 (by kernel_rfl) rfl
  obtain ⟨W0, hW0⟩ : ∃ W0, W0 = ((w.alloc (.cells #[.int .i64 lo] 2)).alloc (.cells #[.int .i64 goal] 2)).alloc (.cells #[.func (.func g) fs cp] 38) := ⟨_, rfl⟩
  have hb1 : Below w.heap.size w W0 := by rw [hW0]; exact bal (bal (bal (Below.refl _ _) _) _) _
  have hsz : W0.heap.size = w.heap.size + 3 := by rw [hW0]; simp
  have c0 : W0.cell? ⟨w.heap.size, 0, none⟩ = some (.int .i64 lo) := by
    rw [hW0, World.cell?_alloc_old _ _ _ (by simp; omega), World.cell?_alloc2_first]; rfl
  have c1 : W0.cell? ⟨w.heap.size + 1, 0, none⟩ = some (.int .i64 goal) := by
    rw [hW0, World.cell?_alloc_old _ _ _ (by simp), World.cell?_alloc2_new]; rfl
  have c2 : W0.cell? ⟨w.heap.size + 1 + 1, 0, none⟩ = some (.func (.func g) fs cp) := by
    rw [hW0, World.cell?_alloc_at _ _ _ _ (by simp)]; rfl
  obtain ⟨n, hn⟩ : ∃ n : Nat, (hi - lo + 1).toNat = n := ⟨_, rfl⟩
  have hn1 : (n : Int) = hi - lo + 1 := by omega
  have hl0 : w.heap.size < W0.heap.size := by omega
  have hl1 : w.heap.size + 1 < W0.heap.size := by omega
  have hl2 : w.heap.size + 1 + 1 < W0.heap.size := by omega
  have hS := search_any 78 #[.pointer (some ⟨w.heap.size + 1 + 1, 0, none⟩), .pointer (some ⟨w.heap.size, 0, none⟩), .pointer (some ⟨w.heap.size + 1, 0, none⟩)] n (fun i => decide (goal ≤ f (lo + (i : Int)))) W0.drew eg2 (by omega)
    (fun wr i hi2 hbr => reach_any g fs cp (w.heap.size + 1 + 1) w.heap.size (w.heap.size + 1) lo goal (f (lo + (i : Int))) i wr eg ((hbr.cell (p := ⟨w.heap.size + 1 + 1, 0, none⟩) hl2).trans c2) ((hbr.cell (p := ⟨w.heap.size, 0, none⟩) hl0).trans c0) ((hbr.cell (p := ⟨w.heap.size + 1, 0, none⟩) hl1).trans c1)
      (by omega) (by omega) (by omega) (fun wq hbq => hF wq _ (by omega) (by omega) ((below_drewN hb1 1).trans ((hbr.mono (by show _ ≤ W0.heap.size; omega)).trans (hbq.mono (by have : W0.heap.size ≤ wr.heap.size := hbr.size; omega))))))
    (fun a b hab hb2 ha => by
      simp only [decide_eq_true_eq] at ha ⊢
      have := hm (lo + (a : Int)) (lo + (b : Int)) (by omega) (by omega) (by omega)
      omega)
  have hC := countF_spec (fun i => decide (goal ≤ f (lo + (i : Int)))) n (fun a b hab hb2 ha => by
      simp only [decide_eq_true_eq] at ha ⊢
      have := hm (lo + (a : Int)) (lo + (b : Int)) (by omega) (by omega) (by omega)
      omega)
  have hL : leastI lo hi goal f = lo + (countF (fun i => decide (goal ≤ f (lo + (i : Int)))) n : Nat) := by unfold leastI; rw [hn]
  rw [hL]
  have hc := hC.1
  clear hC hL hm hF
  generalize countF (fun i => decide (goal ≤ f (lo + (i : Int)))) n = c at *
  have ew0 : IntKind.i64.wrap (hi - lo) = hi - lo := IntWalk.i64_in _ (by omega)
  have ew : (n : Int) = IntKind.i64.wrap (IntKind.i64.wrap (hi - lo) + 1) := by rw [ew0, IntWalk.i64_in _ (by omega)]; exact hn1
  have ec : IntKind.i64.wrap (lo + (c : Int)) = lo + (c : Int) := IntWalk.i64_in _ (by omega)
  rw [ew] at hS
  have HS := Lib.hid hS
  have HC := Lib.hid ec
  have HW := Lib.hid hW0
  have HB := Lib.hid hb1
  have C0 := Lib.hid c0
  clear hS ec ew ew0 hW0 c0 c1 c2 hn1 hn eg eg2 hb1
  go_enter Try.func51, Try.ntmps51
  go_wp2_with fail
  rw [← HW.out]
  have hb0 : Below W0.heap.size W0 W0 := Below.refl _ _
  have c0 := C0.out
  go_region_held3 (fun w' => w'.cell? ⟨w.heap.size, 0, none⟩ = some (.int .i64 lo) ∧ Below W0.heap.size W0 w')
    (first | exact ⟨c0, below_drewN hb0 1⟩ | (go_split_ands; exact ⟨(hb'.cell (World.block_lt_of_cell? _ _ (by assumption))).trans (by assumption), bnext (below_drewN hb0 1) hb'⟩))
    (first | (go_at_call 79; refine HS.out.mono ?_; rintro e w' ⟨rfl, hb'⟩))
  go_wp2
  go_ret
  exact ⟨ret_int HC.out, HB.out.trans ((bnext (below_drewN hb0 1) hb').mono HB.out.size)⟩
end Go.Proofs.Ythmnfobhgeamiaa
