/-
  OutdoorFor of both sides.
-/
import Derived.Test.YthidaoemonjemabLd4
import Derived.IntWalk
import Derived.Laws.EntriesVeiled
namespace Go.Proofs.Ythidaoemonjemab
open Go.ChangeShapes Go.WideShapes Go.ChangeAt Go.RowKit

set_option maxRecDepth 100000
set_option linter.unusedVariables false

theorem lt1_any (A : Option Addr) (n c : Nat) (xs : List Bd) (t h : Int) (bl : Nat) (w : World) (hx : BdsOk w A n xs) (hok : (xs.map Bd.d).all Bl.ok = true) (hl : n ≤ 12) (ht0 : -4000 ≤ t) (ht1 : t ≤ 4500) (hh0 : 0 ≤ h) (hh1 : h < 24) (cl : w.cell? ⟨bl, 0, none⟩ = some (.slice A n c)) :
    Calls Try.prog 106 #[.int .i64 t, .int .i64 h, .pointer (some ⟨bl, 0, none⟩)] w fun e w' => e = .returned (.int .i64 (sumI (xs.map Bd.d) t h)) ∧ Below w.heap.size w w' := by
  have hb : Below w.heap.size w ((w.alloc (.cells #[.int .i64 t] 2)).alloc (.cells #[.int .i64 h] 2)) := bal (bal (Below.refl _ _) _) _
  have lb := World.block_lt_of_cell? _ _ cl
  have cl2 := (hb.cell (p := ⟨bl, 0, none⟩) lb).trans cl
  have HT := Lib.hid (fun ct ch => total_any A n c xs t h w.heap.size (w.heap.size + 1) _ (hx.go hb) hok hl ht0 ht1 hh0 hh1 ct ch)
  have hd : Below ((w.alloc (.cells #[.int .i64 t] 2)).alloc (.cells #[.int .i64 h] 2)).heap.size ((w.alloc (.cells #[.int .i64 t] 2)).alloc (.cells #[.int .i64 h] 2)) ((w.alloc (.cells #[.int .i64 t] 2)).alloc (.cells #[.int .i64 h] 2)).drew := below_drewN (Below.refl _ _) 1
  clear hx hok
  go_enter Try.func106, Try.ntmps106
  go_wp2_with fail
  refine (HT.out (by simp) (by simp)).mono ?_
  rintro e w1 ⟨rfl, hb1⟩
  go_wp2
  go_ret
  exact ⟨rfl, bnext hb hb1⟩
/-- the closure that adds loads: it holds the place of the list -/
theorem loadsTogether_any (A : Option Addr) (n c : Nat) (w : World) :
    Calls Try.prog 78 #[.slice A n c] w fun e w' => e = .returned (.func (.func 106) #[] #[.pointer (some ⟨w.heap.size, 0, none⟩)]) ∧ w'.cell? ⟨w.heap.size, 0, none⟩ = some (.slice A n c) ∧ Below w.heap.size w w' := by
  go_enter Try.func78, Try.ntmps78
  go_wp2
  go_ret
  exact ⟨rfl, by simp, bal (Below.refl _ _) _⟩
theorem cell_alloc {w : World} {a : Addr} {v : Value} (h : w.cell? a = some v) (O : Obj) : (w.alloc O).cell? a = some v :=
  ((bal (Below.refl w.heap.size w) O).cell (World.block_lt_of_cell? _ _ h)).trans h
theorem load_anti {d : Bl} (hd : d.ok = true) (s t h : Int) (hst : s ≤ t) : loadI d t h ≤ loadI d s h := by
  obtain ⟨-, -, -, h3, -, -, -⟩ := Bl.ok_parts hd
  have h3 := inB_iff.1 h3
  unfold loadI
  have hm : max 0 (d.li - t) ≤ max 0 (d.li - s) := by omega
  have := nearI_mono (d.sl * max 0 (d.li - t)) (d.sl * max 0 (d.li - s)) 100 (by omega) (Int.mul_le_mul_of_nonneg_left hm h3.1)
  omega
theorem sum_anti (s t h : Int) (hst : s ≤ t) : ∀ (ds : List Bl), ds.all Bl.ok = true → sumI ds t h ≤ sumI ds s h
  | [], _ => by simp [sumI]
  | d :: r, hk => by
    have h1 : d.ok = true ∧ r.all Bl.ok = true := by simpa using hk
    have h2 := load_anti h1.1 s t h hst
    have h3 := sum_anti s t h hst r h1.2
    have e : ∀ u, sumI (d :: r) u h = loadI d u h + sumI r u h := fun u => by simp [sumI]
    rw [e, e]
    omega
/-- the least cold at which there is a load -/
def coldI (ds : List Bl) (l h : Int) : Int := leastI (-4500) 4000 l (fun x => sumI ds (-x) h)
theorem cold_least {ds : List Bl} (hk : ds.all Bl.ok = true) (l h : Int) : Least (-4500) 4000 l (fun x => sumI ds (-x) h) (coldI ds l h) :=
  leastI_spec _ _ _ _ (by omega) (fun x y _ hxy _ => sum_anti (-y) (-x) h (by omega) ds hk)
def outB (ds : List Bl) (l h : Int) : Bool := inB l 0 100000000 && inB h 0 23
def outdoorForR0 (ds : List Bl) (l h : Int) : Int := if okBs ds && outB ds l h && decide (coldI ds l h ≤ 4000) then -coldI ds l h else 0
def outdoorForR1 (ds : List Bl) (l h : Int) : Int := if okBs ds then (if outB ds l h then (if coldI ds l h ≤ 4000 then 0 else 3) else 2) else 1

end Go.Proofs.Ythidaoemonjemab
