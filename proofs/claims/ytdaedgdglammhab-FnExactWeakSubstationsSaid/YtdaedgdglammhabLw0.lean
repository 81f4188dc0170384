/-
  lastWith: the last number from one to another for which a condition holds that holds for none behind one without it.
-/
import Derived.Test.YtdaedgdglammhabEx0
import Derived.Deep.RegionHeld3
namespace Go.Proofs.Ytdaedgdglammhab
open Go.ChangeShapes Go.WideShapes Go.ChangeAt Go.RowKit Go.Shelf

theorem notAt_any (g : Nat) (fs cp : Array Value) (r l : Nat) (lo : Int) (v : Bool) (i : Nat) (w : World) (eg : ∀ args w, (callFunc g args).run Try.prog w = .ok (.enter g args) w)
    (hr : w.cell? ⟨r, 0, none⟩ = some (.func (.func g) fs cp)) (hl : w.cell? ⟨l, 0, none⟩ = some (.int .i64 lo))
    (l0 : -1000000000000 ≤ lo) (l1 : lo ≤ 1000000000000) (hi : i ≤ 1000000000000)
    (hF : ∀ wr, Below w.heap.size w wr → Calls Try.prog g (fs.push (.int .i64 (lo + i)) ++ cp) wr fun e w' => e = .returned (.bool v) ∧ Below wr.heap.size wr w') :
    Calls Try.prog 98 #[.int .i64 i, .pointer (some ⟨r, 0, none⟩), .pointer (some ⟨l, 0, none⟩)] w
      fun e w' => e = .returned (.bool (!v)) ∧ Below w.heap.size w w' := by
  have hF2 := hF
  rw [show lo + (i : Int) = IntKind.i64.wrap (lo + i) from (IntWalk.i64_in _ (by omega)).symm] at hF2
  have HF := Lib.hid hF
  have HF2 := Lib.hid hF2
  clear hF hF2
  have hb : Below w.heap.size w w := Below.refl _ _
  go_enter Try.func98, Try.ntmps98
  go_wp2_with fail
  first | refine (HF.out _ hb).mono ?_ | refine (HF2.out _ hb).mono ?_
  rintro e w' ⟨rfl, hb'⟩
  go_wp2
  go_ret
  exact ⟨rfl, hb'⟩

theorem lastWith_any (g : Nat) (fs cp : Array Value) (lo hi : Int) (p : Int → Bool) (w : World) (eg : ∀ args w, (callFunc g args).run Try.prog w = .ok (.enter g args) w)
    (l0 : -100000000000 ≤ lo) (lh : lo ≤ hi + 1) (l1 : hi ≤ 100000000000)
    (hF : ∀ (wr : World) (x : Int), lo ≤ x → x ≤ hi → Below w.heap.size w wr → Calls Try.prog g (fs.push (.int .i64 x) ++ cp) wr fun e w' => e = .returned (.bool (p x)) ∧ Below wr.heap.size wr w')
    (hm : ∀ x y, lo ≤ x → x ≤ y → y ≤ hi → p y = true → p x = true) :
    Calls Try.prog 86 #[.int .i64 lo, .int .i64 hi, .func (.func g) fs cp] w fun e w' => e = .returned (.int .i64 (lastI lo hi p)) ∧ Below w.heap.size w w' := by
  have eg2 : ∀ args w, (callFunc 98 args).run Try.prog w = .ok (.enter 98 args) w := enters_of Try.func98 (by kernel_rfl) rfl
  obtain ⟨W0, hW0⟩ : ∃ W0, W0 = (w.alloc (.cells #[.int .i64 lo] 2)).alloc (.cells #[.func (.func g) fs cp] 53) := ⟨_, rfl⟩
  have hb1 : Below w.heap.size w W0 := by rw [hW0]; exact bal (bal (Below.refl _ _) _) _
  have hsz : W0.heap.size = w.heap.size + 2 := by rw [hW0]; simp
  have c0 : W0.cell? ⟨w.heap.size, 0, none⟩ = some (.int .i64 lo) := by
    rw [hW0, World.cell?_alloc2_first]; rfl
  have c1 : W0.cell? ⟨w.heap.size + 1, 0, none⟩ = some (.func (.func g) fs cp) := by
    rw [hW0, World.cell?_alloc2_new]; rfl
  obtain ⟨n, hn⟩ : ∃ n : Nat, (hi - lo + 1).toNat = n := ⟨_, rfl⟩
  have hn1 : (n : Int) = hi - lo + 1 := by omega
  have hl0 : w.heap.size < W0.heap.size := by omega
  have hl1 : w.heap.size + 1 < W0.heap.size := by omega
  have hS : ∀ W : World, Below W0.heap.size W0 W → _ := fun W hbW => search_any 98 #[.pointer (some ⟨w.heap.size + 1, 0, none⟩), .pointer (some ⟨w.heap.size, 0, none⟩)] n (fun i => !p (lo + (i : Int))) W eg2 (by omega)
    (fun wr i hi2 hbr => notAt_any g fs cp (w.heap.size + 1) w.heap.size lo (p (lo + (i : Int))) i wr eg ((hbr.cell (p := ⟨w.heap.size + 1, 0, none⟩) (by have := hbW.size; show w.heap.size + 1 < _; omega)).trans ((hbW.cell (p := ⟨w.heap.size + 1, 0, none⟩) hl1).trans c1)) ((hbr.cell (p := ⟨w.heap.size, 0, none⟩) (by have := hbW.size; show w.heap.size < _; omega)).trans ((hbW.cell (p := ⟨w.heap.size, 0, none⟩) hl0).trans c0))
      (by omega) (by omega) (by omega) (fun wq hbq => hF wq _ (by omega) (by omega) (bnext (bnext (bnext hb1 hbW) hbr) hbq)))
    (fun a b hab hb2 ha => by
      cases hb3 : p (lo + (b : Int)) with
      | false => rfl
      | true =>
        have := hm (lo + (a : Int)) (lo + (b : Int)) (by omega) (by omega) (by omega) hb3
        simp [this] at ha)
  have hC := countF_spec (fun i => !p (lo + (i : Int))) n (fun a b hab hb2 ha => by
      cases hb3 : p (lo + (b : Int)) with
      | false => rfl
      | true =>
        have := hm (lo + (a : Int)) (lo + (b : Int)) (by omega) (by omega) (by omega) hb3
        simp [this] at ha)
  have hL : lastI lo hi p = lo + (countF (fun i => !p (lo + (i : Int))) n : Nat) - 1 := by unfold lastI; rw [hn]
  rw [hL]
  have hc := hC.1
  clear hC hL hm hF
  generalize countF (fun i => !p (lo + (i : Int))) n = c at *
  have ew0 : IntKind.i64.wrap (hi - lo) = hi - lo := IntWalk.i64_in _ (by omega)
  have ew : (n : Int) = IntKind.i64.wrap (IntKind.i64.wrap (hi - lo) + 1) := by rw [ew0, IntWalk.i64_in _ (by omega)]; exact hn1
  have ec : IntKind.i64.wrap (IntKind.i64.wrap (lo + (c : Int)) - 1) = lo + (c : Int) - 1 := by rw [IntWalk.i64_in (lo + (c : Int)) (by omega), IntWalk.i64_in _ (by omega)]
  have HS2 := Lib.hid hS
  rw [ew] at hS
  have HS := Lib.hid hS
  have HC := Lib.hid ec
  have HW := Lib.hid hW0
  have HB := Lib.hid hb1
  have HN := Lib.hid hn1
  clear hS ec ew ew0 hW0 hn1 hn eg eg2 hb1
  have hb : Below W0.heap.size W0 W0 := Below.refl _ _
  go_enter Try.func86, Try.ntmps86
  go_wp2_with fail
  rw [← HW.out]
  go_region_held3 (fun w' => w'.cell? ⟨w.heap.size, 0, none⟩ = some (.int .i64 lo) ∧ Below W0.heap.size W0 w')
    (first | assumption | exact ⟨c0, below_drewN hb 1⟩ | (go_split_ands; exact ⟨(hb'.cell (World.block_lt_of_cell? _ _ (by assumption))).trans (by assumption), bnext (by assumption) hb'⟩))
    (first | (go_at_call 95; go_split_ands; (first | refine (HS.out _ (by assumption)).mono ?_ | refine (HS.out _ (below_drewN hb 1)).mono ?_); rintro e w' ⟨rfl, hb'⟩))
  all_goals go_wp2
  all_goals go_ret
  all_goals go_split_ands
  all_goals exact ⟨ret_int HC.out, HB.out.trans ((by assumption : Below W0.heap.size W0 _).mono HB.out.size)⟩
end Go.Proofs.Ytdaedgdglammhab
