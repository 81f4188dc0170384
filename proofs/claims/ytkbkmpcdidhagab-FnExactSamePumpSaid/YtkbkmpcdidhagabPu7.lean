/-
  SamePump: both sides.
-/
import Derived.Test.YtkbkmpcdidhagabPm0
import Derived.Test.YtkbkmpcdidhagabP9
import Derived.Deep.QuietTactic
import Derived.Deep.RegionHeld3
namespace Go.Proofs.Ytkbkmpcdidhagab
open Go.ChangeShapes Go.WideShapes Go.ChangeAt Go.RowKit
set_option maxRecDepth 100000
set_option linter.unusedVariables false

theorem take_ne {α : Type} (l r : List α) (h : ∃ k : Nat, l[k]? ≠ r[k]?) : l ≠ r := fun e => by
  obtain ⟨k, hk⟩ := h
  exact hk (by rw [e])
theorem take_eq_succ {α : Type} (l r : List α) (k : Nat) (h : l.take k = r.take k) (hl : k < l.length) (hr : k < r.length) (he : l[k] = r[k]) : l.take (k + 1) = r.take (k + 1) := by
  rw [List.take_succ_eq_append_getElem hl, List.take_succ_eq_append_getElem hr, h, he]

theorem sameInts_any (A B : Option Addr) (c d : Nat) (xs ys : List Int) (w : World) (hx : xs.length ≤ 1048576) (hy : ys.length ≤ 1048576) (hA : CellsAt w A (intsV xs)) (hB : CellsAt w B (intsV ys)) :
    Calls Try.prog 53 #[.slice A xs.length c, .slice B ys.length d] w fun e w' => e = .returned (.bool (decide (xs = ys))) ∧ Drawn w w' := by
  have HA := Lib.hid hA
  have HB := Lib.hid hB
  clear hA hB
  by_cases hlen : xs.length = ys.length
  · have Hlen := Lib.hid hlen
    have hl1 : ((xs.length : Int) == (ys.length : Int)) = true := by rw [beq_iff_eq]; omega
    have hl2 : ((xs.length : Int) != (ys.length : Int)) = false := by unfold bne; rw [hl1]; rfl
    clear hlen hl1
    go_enter Try.func53, Try.ntmps53
    go_wp2
    go_loopw [13] (fun i wr => ∃ k : Nat, k ≤ xs.length ∧ i = .int .i64 k ∧ xs.take k = ys.take k ∧ Drawn w wr) (fun i _ => xs.length - (intOf i).toNat)
    case atStart => exact ⟨0, Nat.zero_le _, rfl, rfl, Drawn.rfl' _⟩
    case round =>
      obtain ⟨k, hk, rfl, htk, ⟨nr, rfl⟩⟩ := hrel
      have HT := Lib.hid htk
      clear htk
      by_cases hlt : k < xs.length
      · have hlt2 : k < ys.length := by rw [← Hlen.out]; exact hlt
        obtain ⟨b1, o1, rfl, h1⟩ := HA.out (by rw [intsV_length]; omega)
        obtain ⟨b2, o2, rfl, h2⟩ := HB.out (by rw [intsV_length]; omega)
        have g1 : w.cell? ⟨b1, o1 + k, none⟩ = some (.int .i64 xs[k]) := by rw [h1 k (by rw [intsV_length]; exact hlt), intsV_at _ _ hlt]
        have g2 : w.cell? ⟨b2, o2 + k, none⟩ = some (.int .i64 ys[k]) := by rw [h2 k (by rw [intsV_length]; exact hlt2), intsV_at _ _ hlt2]
        have hsuc := take_eq_succ xs ys k HT.out hlt hlt2
        have hno : xs[k] ≠ ys[k] → xs ≠ ys := fun h => take_ne xs ys ⟨k, by rw [List.getElem?_eq_getElem hlt, List.getElem?_eq_getElem hlt2]; simpa using h⟩
        generalize xs[k] = x at *
        generalize ys[k] = y at *
        have HS := Lib.hid hsuc
        have HN := Lib.hid hno
        clear hsuc hno h1 h2
        by_cases he : x = y
        · have HS2 := Lib.hid (HS.out he)
          subst he
          go_wp2
          go_quiet (fail)
          go_wp2
          go_roundw
          case rel => exact ⟨k + 1, by omega, by go_num, HS2.out, ⟨_, by first | rfl | exact World.drewN_drewN ..⟩⟩
          case measure => simp [intOf]; omega
        · have HN3 : Hid (decide (xs = ys) = false) := Lib.hid (decide_eq_false (HN.out he))
          have he1 : (x == y) = false := by simpa using he
          have he2 : (x != y) = true := by simpa using he
          clear he
          go_wp2
          go_quiet (fail)
          go_wp2
          go_ret
          exact ⟨by rw [HN3.out]; rfl, ⟨_, by first | rfl | exact World.drewN_drewN ..⟩⟩
      · have hE : Hid (xs = ys) := Lib.hid (by
          have := HT.out
          rw [List.take_of_length_le (by omega), List.take_of_length_le (by rw [← Hlen.out]; omega)] at this
          exact this)
        have hE2 : Hid (decide (xs = ys) = true) := Lib.hid (decide_eq_true hE.out)
        go_wp2
        go_ret
        exact ⟨by rw [hE2.out]; rfl, ⟨_, rfl⟩⟩
  · have hl1 : ((xs.length : Int) == (ys.length : Int)) = false := by rw [beq_eq_false_iff_ne]; omega
    have hl2 : ((xs.length : Int) != (ys.length : Int)) = true := by unfold bne; rw [hl1]; rfl
    have HL2 : Hid (decide (xs = ys) = false) := Lib.hid (decide_eq_false fun e => hlen (by rw [e]))
    clear hlen hl1
    go_enter Try.func53, Try.ntmps53
    go_wp2
    go_ret
    exact ⟨by rw [HL2.out]; rfl, Drawn.rfl' _⟩

theorem l00SameI_any (A B : Option Addr) (c d : Nat) (xs ys : List Int) (w : World) (hx : xs.length ≤ 1048576) (hy : ys.length ≤ 1048576) (hA : CellsAt w A (intsV xs)) (hB : CellsAt w B (intsV ys)) :
    Calls Try.prog 106 #[.slice A xs.length c, .slice B ys.length d] w fun e w' => e = .returned (.bool (decide (xs = ys))) ∧ Drawn w w' := by
  have HA := Lib.hid hA
  have HB := Lib.hid hB
  clear hA hB
  by_cases hlen : xs.length = ys.length
  · have Hlen := Lib.hid hlen
    have hl1 : ((xs.length : Int) == (ys.length : Int)) = true := by rw [beq_iff_eq]; omega
    have hl2 : ((xs.length : Int) != (ys.length : Int)) = false := by unfold bne; rw [hl1]; rfl
    clear hlen hl1
    go_enter Try.func106, Try.ntmps106
    go_wp2
    go_loopw [5] (fun i wr => ∃ k : Nat, k ≤ xs.length ∧ i = .int .i64 k ∧ xs.take k = ys.take k ∧ Drawn w wr) (fun i _ => xs.length - (intOf i).toNat)
    case atStart => exact ⟨0, Nat.zero_le _, rfl, rfl, Drawn.rfl' _⟩
    case round =>
      obtain ⟨k, hk, rfl, htk, ⟨nr, rfl⟩⟩ := hrel
      have HT := Lib.hid htk
      clear htk
      by_cases hlt : k < xs.length
      · have hlt2 : k < ys.length := by rw [← Hlen.out]; exact hlt
        obtain ⟨b1, o1, rfl, h1⟩ := HA.out (by rw [intsV_length]; omega)
        obtain ⟨b2, o2, rfl, h2⟩ := HB.out (by rw [intsV_length]; omega)
        have g1 : w.cell? ⟨b1, o1 + k, none⟩ = some (.int .i64 xs[k]) := by rw [h1 k (by rw [intsV_length]; exact hlt), intsV_at _ _ hlt]
        have g2 : w.cell? ⟨b2, o2 + k, none⟩ = some (.int .i64 ys[k]) := by rw [h2 k (by rw [intsV_length]; exact hlt2), intsV_at _ _ hlt2]
        have hsuc := take_eq_succ xs ys k HT.out hlt hlt2
        have hno : xs[k] ≠ ys[k] → xs ≠ ys := fun h => take_ne xs ys ⟨k, by rw [List.getElem?_eq_getElem hlt, List.getElem?_eq_getElem hlt2]; simpa using h⟩
        generalize xs[k] = x at *
        generalize ys[k] = y at *
        have HS := Lib.hid hsuc
        have HN := Lib.hid hno
        clear hsuc hno h1 h2
        by_cases he : x = y
        · have HS2 := Lib.hid (HS.out he)
          subst he
          go_wp2
          go_quiet (fail)
          go_wp2
          go_roundw
          case rel => exact ⟨k + 1, by omega, by go_num, HS2.out, ⟨_, by first | rfl | exact World.drewN_drewN ..⟩⟩
          case measure => simp [intOf]; omega
        · have HN3 : Hid (decide (xs = ys) = false) := Lib.hid (decide_eq_false (HN.out he))
          have he1 : (x == y) = false := by simpa using he
          have he2 : (x != y) = true := by simpa using he
          clear he
          go_wp2
          go_quiet (fail)
          go_wp2
          go_ret
          exact ⟨by rw [HN3.out]; rfl, ⟨_, by first | rfl | exact World.drewN_drewN ..⟩⟩
      · have hE : Hid (xs = ys) := Lib.hid (by
          have := HT.out
          rw [List.take_of_length_le (by omega), List.take_of_length_le (by rw [← Hlen.out]; omega)] at this
          exact this)
        have hE2 : Hid (decide (xs = ys) = true) := Lib.hid (decide_eq_true hE.out)
        go_wp2
        go_ret
        exact ⟨by rw [hE2.out]; rfl, ⟨_, rfl⟩⟩
  · have hl1 : ((xs.length : Int) == (ys.length : Int)) = false := by rw [beq_eq_false_iff_ne]; omega
    have hl2 : ((xs.length : Int) != (ys.length : Int)) = true := by unfold bne; rw [hl1]; rfl
    have HL2 : Hid (decide (xs = ys) = false) := Lib.hid (decide_eq_false fun e => hlen (by rw [e]))
    clear hlen hl1
    go_enter Try.func106, Try.ntmps106
    go_wp2
    go_ret
    exact ⟨by rw [HL2.out]; rfl, Drawn.rfl' _⟩


/-- are the lists alike? -/
def sameZ (X Y : List (List Int)) : Bool := decide (X = Y)
theorem rows_at {w : World} {A : Option Addr} {n : Nat} {rs : List Rw} (h : RwsIn w A n rs) (hs : shortZ (rs.map Rw.z)) (k : Nat) (hk : k < n) :
    ∃ b o R c z, A = some ⟨b, o, none⟩ ∧ w.cell? ⟨b, o + k, none⟩ = some (.slice R z.length c) ∧ (rs.map Rw.z)[k]? = some z ∧ CellsAt w R (intsV z) ∧ z.length ≤ 1048576 := by
  obtain ⟨b, o, e, hr⟩ := h.at (by omega)
  have hl : k < rs.length := by rw [h.1]; exact hk
  have hp := List.getElem?_eq_getElem hl
  exact ⟨b, o, (rs[k]).A, (rs[k]).c, (rs[k]).z, e, hr k _ hp, by rw [List.getElem?_map, hp]; rfl, (h.2.2.2 _ (List.mem_of_getElem? hp)).2.2.1, hs.2 _ (List.mem_map.2 ⟨_, List.mem_of_getElem? hp, rfl⟩)⟩
theorem equalRws_any (A B : Option Addr) (n m c d : Nat) (xs ys : List Rw) (w : World) (hx : RwsIn w A n xs) (hy : RwsIn w B m ys) (hsx : shortZ (xs.map Rw.z)) (hsy : shortZ (ys.map Rw.z)) :
    Calls Try.prog 52 #[.slice A n c, .slice B m d, .func (.func 53) #[] #[]] w fun e w' => e = .returned (.bool (sameZ (xs.map Rw.z) (ys.map Rw.z))) ∧ Drawn w w' := by
  have HX := Lib.hid (fun k (hk : k < n) => rows_at hx hsx k hk)
  have HY := Lib.hid (fun k (hk : k < m) => rows_at hy hsy k hk)
  have hlx : (xs.map Rw.z).length = n := by rw [List.length_map]; exact hx.1
  have hly : (ys.map Rw.z).length = m := by rw [List.length_map]; exact hy.1
  have hnx : n ≤ 1048576 := by have := hsx.1; omega
  have hny : m ≤ 1048576 := by have := hsy.1; omega
  generalize xs.map Rw.z = X at *
  generalize ys.map Rw.z = Y at *
  have HLX := Lib.hid hlx
  have HLY := Lib.hid hly
  clear hx hy hsx hsy
  by_cases hlen : n = m
  rotate_left
  · have HV : Hid (sameZ X Y = false) := Lib.hid (decide_eq_false fun e => hlen (by rw [← hlx, ← hly, e]))
    have hl2 : ((n : Int) != (m : Int)) = true := by rw [bne_iff_ne]; omega
    clear hlen hlx hly
    go_enter Try.func52, Try.ntmps52
    go_wp2
    go_ret
    exact ⟨by rw [HV.out]; rfl, Drawn.rfl' _⟩
  subst hlen
  clear hlx hly
  go_enter Try.func52, Try.ntmps52
  go_wp2
  go_loopw [17] (fun i wr => ∃ k : Nat, k ≤ n ∧ i = .int .i64 k ∧ Hid (X.take k = Y.take k) ∧ Drawn w wr) (fun i _ => n - (intOf i).toNat)
  case atStart => exact ⟨0, Nat.zero_le _, rfl, Lib.hid rfl, Drawn.rfl' _⟩
  case round =>
    obtain ⟨k, hk, rfl, HT, ⟨nr, rfl⟩⟩ := hrel
    by_cases hlt : k < n
    · obtain ⟨b1, o1, R1, c1, z1, hA1, p1, g1, C1, s1⟩ := HX.out k hlt
      obtain ⟨b2, o2, R2, c2, z2, hA2, p2, g2, C2, s2⟩ := HY.out k hlt
      obtain rfl := hA1
      obtain rfl := hA2
      have HC := Lib.hid (sameInts_any R1 R2 c1 c2 z1 z2 (w.drewN nr) s1 s2 (C1.next (below_drewN (Below.refl _ _) nr)) (C2.next (below_drewN (Below.refl _ _) nr)))
      have HS : Hid (z1 = z2 → X.take (k + 1) = Y.take (k + 1)) := Lib.hid fun e => by
        rw [List.take_add_one, List.take_add_one, g1, g2, HT.out, e]
      have HN : Hid (z1 ≠ z2 → sameZ X Y = false) := Lib.hid fun e => decide_eq_false (take_ne _ _ ⟨k, by rw [g1, g2]; simpa using e⟩)
      clear C1 C2 g1 g2
      by_cases he : z1 = z2
      · have HS2 := Lib.hid (HS.out he)
        rw [decide_eq_true he] at HC
        clear he
        go_wp2_with fail
        refine HC.out.mono ?_
        rintro e w1 ⟨rfl, ⟨k1, rfl⟩⟩
        go_wp2
        go_roundw
        case rel => exact ⟨k + 1, by omega, by go_num, HS2, ⟨_, by first | rfl | exact World.drewN_drewN ..⟩⟩
        case measure => simp [intOf]; omega
      · have HN2 := Lib.hid (HN.out he)
        rw [decide_eq_false he] at HC
        clear he
        go_wp2_with fail
        refine HC.out.mono ?_
        rintro e w1 ⟨rfl, ⟨k1, rfl⟩⟩
        go_wp2
        go_ret
        exact ⟨by rw [HN2.out]; rfl, ⟨_, by first | rfl | exact World.drewN_drewN ..⟩⟩
    · have hE : Hid (sameZ X Y = true) := Lib.hid (decide_eq_true (by
        have := HT.out
        rw [List.take_of_length_le (by rw [HLX.out]; omega), List.take_of_length_le (by rw [HLY.out]; omega)] at this
        exact this))
      go_wp2
      go_ret
      exact ⟨by rw [hE.out]; rfl, ⟨_, rfl⟩⟩
def samePumpR0 (a b : PmD) : Bool := (a.id.toList == b.id.toList) && sameZ a.cv b.cv
theorem implSamePump_ds (x y : Pm) (w : World) (hx : x.okay w) (hy : y.okay w) :
    Calls Try.prog 19 #[.agg #[.string x.d.id, .slice x.cvA x.d.cv.length x.cvc], .agg #[.string y.d.id, .slice y.cvA y.d.cv.length y.cvc]] w fun e w' => e = .returned (.bool (samePumpR0 x.d y.d)) ∧ Below w.heap.size w w' := by
  have hb : Below w.heap.size w ((w.alloc (.cells #[.string x.d.id, .slice x.cvA x.d.cv.length x.cvc] 27)).alloc (.cells #[.string y.d.id, .slice y.cvA y.d.cv.length y.cvc] 27)) := bal (bal (Below.refl _ _) _) _
  have ⟨n0, n1⟩ := (PmO.new w x 27).next (bal (Below.refl _ _) (.cells #[.string y.d.id, .slice y.cvA y.d.cv.length y.cvc] 27))
  have ⟨m0, m1⟩ := PmO.new (w.alloc (.cells #[.string x.d.id, .slice x.cvA x.d.cv.length x.cvc] 27)) y 27
  have HC := Lib.hid (fun wx (hbx : Below w.heap.size w wx) => equalRws_any x.cvA y.cvA x.d.cv.length y.d.cv.length x.cvc y.cvc x.rs y.rs wx (hx.1.2.2.go hbx) (hy.1.2.2.go hbx) (by rw [hx.1.2.1]; exact hx.2) (by rw [hy.1.2.1]; exact hy.2))
  rw [hx.1.2.1, hy.1.2.1] at HC
  have hm1 : (x.d.id.size : Int) ≤ 9223372036854775807 := by have := hx.1.1; unfold maxLen at this; omega
  have hm2 : (y.d.id.size : Int) ≤ 9223372036854775807 := by have := hy.1.1; unfold maxLen at this; omega
  clear hx hy
  by_cases hi : (x.d.id.toList == y.d.id.toList) = true
  · have HV : Hid (samePumpR0 x.d y.d = sameZ x.d.cv y.d.cv) := Lib.hid (by unfold samePumpR0; rw [hi]; rfl)
    go_enter Try.func19, Try.ntmps19
    go_wp2_with fail
    refine (HC.out _ hb).mono ?_
    rintro e w1 ⟨rfl, ⟨k, rfl⟩⟩
    go_wp2
    go_ret
    exact ⟨by rw [HV.out]; rfl, below_drewN hb _⟩
  · have hi : (x.d.id.toList == y.d.id.toList) = false := by simpa only [Bool.not_eq_true] using hi
    have HV : Hid (samePumpR0 x.d y.d = false) := Lib.hid (by unfold samePumpR0; rw [hi]; rfl)
    go_enter Try.func19, Try.ntmps19
    go_wp2
    go_ret
    exact ⟨by rw [HV.out]; rfl, hb⟩
theorem l08Same_any (b1 b2 : Nat) (x y : Pm) (w : World) (h1 : PmO w b1 0 x) (h2 : PmO w b2 0 y) (hx : x.okay w) (hy : y.okay w) :
    Calls Try.prog 51 #[.pointer (some ⟨b1, 0, none⟩), .pointer (some ⟨b2, 0, none⟩)] w fun e w' => e = .returned (.bool (samePumpR0 x.d y.d)) ∧ Drawn w w' := by
  have hrx := hx.1.2.2
  have hry := hy.1.2.2
  have HX := Lib.hid (fun k (hk : k < x.d.cv.length) => rows_at hrx (by rw [hx.1.2.1]; exact hx.2) k hk)
  have HY := Lib.hid (fun k (hk : k < y.d.cv.length) => rows_at hry (by rw [hy.1.2.1]; exact hy.2) k hk)
  rw [hx.1.2.1] at HX
  rw [hy.1.2.1] at HY
  have hnx : x.d.cv.length ≤ 1048576 := hx.2.1
  have hny : y.d.cv.length ≤ 1048576 := hy.2.1
  have ⟨n0, n1⟩ := h1
  have ⟨m0, m1⟩ := h2
  clear hx hy hrx hry h1 h2
  by_cases hi : (x.d.id.toList == y.d.id.toList) = true
  rotate_left
  · have hi : (x.d.id.toList == y.d.id.toList) = false := by simpa only [Bool.not_eq_true] using hi
    have hi2 : (x.d.id.toList != y.d.id.toList) = true := by unfold bne; rw [hi]; rfl
    have HV : Hid (samePumpR0 x.d y.d = false) := Lib.hid (by unfold samePumpR0; rw [hi]; rfl)
    clear hi
    go_enter Try.func51, Try.ntmps51
    go_wp2
    go_quiet (fail)
    go_wp2
    go_ret
    exact ⟨by rw [HV.out]; rfl, ⟨_, rfl⟩⟩
  have HV0 : Hid (samePumpR0 x.d y.d = sameZ x.d.cv y.d.cv) := Lib.hid (by unfold samePumpR0; rw [hi]; rfl)
  generalize hX : x.d.cv = X at *
  generalize hY : y.d.cv = Y at *
  clear hX hY
  by_cases hlen : X.length = Y.length
  rotate_left
  · have HV : Hid (samePumpR0 x.d y.d = false) := Lib.hid (by rw [HV0.out]; exact decide_eq_false fun e => hlen (by rw [e]))
    have hl2 : ((X.length : Int) != (Y.length : Int)) = true := by rw [bne_iff_ne]; omega
    clear hlen
    go_enter Try.func51, Try.ntmps51
    go_wp2
    go_quiet (fail)
    go_wp2
    go_ret
    exact ⟨by rw [HV.out]; rfl, ⟨_, rfl⟩⟩
  have hl2 : ((X.length : Int) != (Y.length : Int)) = false := by rw [hlen]; simp
  have HLEN := Lib.hid hlen
  have hXY : X.length ≤ Y.length := by omega
  clear hlen
  go_enter Try.func51, Try.ntmps51
  go_wp2
  go_quiet (fail)
  go_wp2
  go_loopw [5] (fun i wr => ∃ k : Nat, k ≤ X.length ∧ i = .int .i64 k ∧ Hid (X.take k = Y.take k) ∧ Drawn w wr) (fun i _ => X.length - (intOf i).toNat)
  case atStart => exact ⟨0, Nat.zero_le _, rfl, Lib.hid rfl, ⟨_, rfl⟩⟩
  case round =>
    obtain ⟨k, hk, rfl, HT, ⟨nr, rfl⟩⟩ := hrel
    by_cases hlt : k < X.length
    · have hlt2 : k < Y.length := by omega
      obtain ⟨b1', o1, R1, c1, z1, hA1, p1, g1, C1, s1⟩ := HX.out k hlt
      obtain ⟨b2', o2, R2, c2, z2, hA2, p2, g2, C2, s2⟩ := HY.out k hlt2
      have HA := Lib.hid (And.intro hA1 hA2)
      rw [hA1] at n1
      rw [hA2] at m1
      have HC := Lib.hid (fun m => l00SameI_any R1 R2 c1 c2 z1 z2 (w.drewN m) s1 s2 (C1.next (below_drewN (Below.refl _ _) m)) (C2.next (below_drewN (Below.refl _ _) m)))
      have HS : Hid (z1 = z2 → X.take (k + 1) = Y.take (k + 1)) := Lib.hid fun e => by
        rw [List.take_add_one, List.take_add_one, g1, g2, HT.out, e]
      have HN : Hid (z1 ≠ z2 → sameZ X Y = false) := Lib.hid fun e => decide_eq_false (take_ne _ _ ⟨k, by rw [g1, g2]; simpa using e⟩)
      clear C1 C2 g1 g2 hA1 hA2
      by_cases he : z1 = z2
      · have HS2 := Lib.hid (HS.out he)
        rw [decide_eq_true he] at HC
        clear he
        go_wp2
        go_quiet ((go_at_call 106; exact quiet_drawn2 (HC.out _)))
        go_wp2
        go_roundw
        case rel => exact ⟨k + 1, by omega, by go_num, HS2, ⟨_, by first | rfl | exact World.drewN_drewN ..⟩⟩
        case measure => simp [intOf]; omega
      · have HN2 := Lib.hid (HN.out he)
        rw [decide_eq_false he] at HC
        clear he
        go_wp2
        go_quiet ((go_at_call 106; exact quiet_drawn2 (HC.out _)))
        go_wp2
        go_ret
        exact ⟨by rw [HV0.out, HN2.out]; rfl, ⟨_, by first | rfl | exact World.drewN_drewN ..⟩⟩
    · have hE : Hid (sameZ X Y = true) := Lib.hid (decide_eq_true (by
        have := HT.out
        rw [List.take_of_length_le (by omega), List.take_of_length_le (by rw [← HLEN.out]; omega)] at this
        exact this))
      go_wp2
      go_ret
      exact ⟨by rw [HV0.out, hE.out]; rfl, ⟨_, rfl⟩⟩
theorem specSamePump_ds (x y : Pm) (w : World) (hx : x.okay w) (hy : y.okay w) :
    Calls Try.prog 18 #[.agg #[.string x.d.id, .slice x.cvA x.d.cv.length x.cvc], .agg #[.string y.d.id, .slice y.cvA y.d.cv.length y.cvc]] w fun e w' => e = .returned (.bool (samePumpR0 x.d y.d)) ∧ Below w.heap.size w w' := by
  have hb : Below w.heap.size w ((w.alloc (.cells #[.string x.d.id, .slice x.cvA x.d.cv.length x.cvc] 27)).alloc (.cells #[.string y.d.id, .slice y.cvA y.d.cv.length y.cvc] 27)) := bal (bal (Below.refl _ _) _) _
  have h1 := (PmO.new w x 27).next (bal (Below.refl _ _) (.cells #[.string y.d.id, .slice y.cvA y.d.cv.length y.cvc] 27))
  have h2 := PmO.new (w.alloc (.cells #[.string x.d.id, .slice x.cvA x.d.cv.length x.cvc] 27)) y 27
  have hs : (w.alloc (.cells #[.string x.d.id, .slice x.cvA x.d.cv.length x.cvc] 27)).heap.size = w.heap.size + 1 := World.size_alloc _ _
  rw [hs] at h2
  have HC := Lib.hid (l08Same_any w.heap.size (w.heap.size + 1) x y _ h1 h2 (hx.go hb) (hy.go hb))
  have ⟨n0, n1⟩ := h1
  have ⟨m0, m1⟩ := h2
  clear hx hy h1 h2 hs
  go_enter Try.func18, Try.ntmps18
  go_wp2_with fail
  refine HC.out.mono ?_
  rintro e w1 ⟨rfl, ⟨k, rfl⟩⟩
  go_wp2
  go_ret
  exact ⟨rfl, below_drewN hb _⟩
end Go.Proofs.Ytkbkmpcdidhagab
