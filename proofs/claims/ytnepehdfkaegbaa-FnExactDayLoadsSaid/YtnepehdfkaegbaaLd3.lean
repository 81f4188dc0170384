/-
  LoadOf of both sides.
-/
import Derived.Test.YtnepehdfkaegbaaLd1
import Derived.Deep.RegionHeld3
namespace Go.Proofs.Ytnepehdfkaegbaa
open Go.ChangeShapes Go.WideShapes Go.ChangeAt Go.RowKit

set_option maxRecDepth 100000
set_option linter.unusedVariables false

def loadOfR0 (d : Bl) (t h : Int) : Int := if d.ok && (inB t (-4000) 4500 && inB h 0 23) then loadI d t h else 0
def loadOfR1 (d : Bl) (t h : Int) : Int := if d.ok then (if inB t (-4000) 4500 && inB h 0 23 then 0 else 2) else 1

theorem specLoadOf_ds (x : Bd) (t h : Int) (w : World) (hx : x.okay w) :
    Calls Try.prog 25 #[.agg #[.string x.d.id, .int .i64 x.d.nd, .int .i64 x.d.ba, .int .i64 x.d.sl, .int .i64 x.d.li, .slice x.prA x.d.pr.length x.prc], .int .i64 t, .int .i64 h] w fun e w' => e = .returned (.tuple #[.int .i64 (loadOfR0 x.d t h), .int .i64 (loadOfR1 x.d t h)]) ∧ Below w.heap.size w w' := by
  have hb : Below w.heap.size w (w.alloc (.cells #[.string x.d.id, .int .i64 x.d.nd, .int .i64 x.d.ba, .int .i64 x.d.sl, .int .i64 x.d.li, .slice x.prA x.d.pr.length x.prc] 40)) := bal (Below.refl _ _) _
  have hN := BdO.new w x 40
  have HO := Lib.hid (fun k => l05One_any w.heap.size 0 x ((w.alloc (.cells #[.string x.d.id, .int .i64 x.d.nd, .int .i64 x.d.ba, .int .i64 x.d.sl, .int .i64 x.d.li, .slice x.prA x.d.pr.length x.prc] 40)).drewN k) hN (hx.go hb).1)
  have HL := Lib.hid (fun k h0 h1 h2 h3 h4 => l05Load_any w.heap.size 0 x t h ((w.alloc (.cells #[.string x.d.id, .int .i64 x.d.nd, .int .i64 x.d.ba, .int .i64 x.d.sl, .int .i64 x.d.li, .slice x.prA x.d.pr.length x.prc] 40)).drewN k) hN (hx.go hb).1 h0 h1 h2 h3 h4)
  clear hx hN
  by_cases ho : x.d.ok = true
  rotate_left
  · have ho : x.d.ok = false := by simpa only [Bool.not_eq_true] using ho
    have hv : loadOfR0 x.d t h = 0 := by unfold loadOfR0; simp [*]
    have hc : loadOfR1 x.d t h = 1 := by unfold loadOfR1; simp [*]
    rw [hv, hc]
    clear hv hc
    go_enter Try.func25, Try.ntmps25
    go_wp2_with fail
    refine (HO.out 0).mono ?_
    rintro e w' ⟨rfl, ⟨n1, rfl⟩⟩
    rw [ho]
    go_wp2
    go_ret2
    exact ⟨rfl, below_drewN hb _⟩
  by_cases k1 : inB t (-4000) 4500 = true
  rotate_left
  · have k1 : inB t (-4000) 4500 = false := by simpa only [Bool.not_eq_true] using k1
    have hv : loadOfR0 x.d t h = 0 := by unfold loadOfR0; simp [*]
    have hc : loadOfR1 x.d t h = 2 := by unfold loadOfR1; simp [*]
    rw [hv, hc]
    clear hv hc
    go_enter Try.func25, Try.ntmps25
    go_wp2_with fail
    refine (HO.out 0).mono ?_
    rintro e w' ⟨rfl, ⟨n1, rfl⟩⟩
    rw [ho]
    go_wp2_with (first | (go_at_call 68; refine (l05Outdoor_any _ _).mono ?_; rintro e w' ⟨rfl, rfl⟩) | (go_at_call 69; refine (l05Hour_any _ _).mono ?_; rintro e w' ⟨rfl, rfl⟩))
    go_ret2
    exact ⟨rfl, below_drewN hb _⟩
  by_cases k2 : inB h 0 23 = true
  rotate_left
  · have k2 : inB h 0 23 = false := by simpa only [Bool.not_eq_true] using k2
    have hv : loadOfR0 x.d t h = 0 := by unfold loadOfR0; simp [*]
    have hc : loadOfR1 x.d t h = 2 := by unfold loadOfR1; simp [*]
    rw [hv, hc]
    clear hv hc
    go_enter Try.func25, Try.ntmps25
    go_wp2_with fail
    refine (HO.out 0).mono ?_
    rintro e w' ⟨rfl, ⟨n1, rfl⟩⟩
    rw [ho]
    go_wp2_with (first | (go_at_call 68; refine (l05Outdoor_any _ _).mono ?_; rintro e w' ⟨rfl, rfl⟩) | (go_at_call 69; refine (l05Hour_any _ _).mono ?_; rintro e w' ⟨rfl, rfl⟩))
    go_ret2
    exact ⟨rfl, below_drewN hb _⟩
  have hv : loadOfR0 x.d t h = loadI x.d t h := by unfold loadOfR0; simp [*]
  have hc : loadOfR1 x.d t h = 0 := by unfold loadOfR1; simp [*]
  rw [hv, hc]
  clear hv hc
  have q1 := inB_iff.1 k1
  have q2 := inB_iff.1 k2
  have HL2 := Lib.hid (fun k => HL.out k ho q1.1 q1.2 q2.1 (by omega))
  generalize loadI x.d t h = r at *
  go_enter Try.func25, Try.ntmps25
  go_wp2_with fail
  refine (HO.out 0).mono ?_
  rintro e w' ⟨rfl, ⟨n1, rfl⟩⟩
  rw [ho]
  go_wp2_with (first | (go_at_call 68; refine (l05Outdoor_any _ _).mono ?_; rintro e w' ⟨rfl, rfl⟩) | (go_at_call 69; refine (l05Hour_any _ _).mono ?_; rintro e w' ⟨rfl, rfl⟩) | (go_at_call 70; refine (HL2.out _).mono ?_; rintro e w' ⟨rfl, ⟨n2, rfl⟩⟩))
  go_ret2
  exact ⟨rfl, below_drewN hb _⟩

theorem implLoadOf_ds (x : Bd) (t h : Int) (w : World) (hx : x.okay w) :
    Calls Try.prog 33 #[.agg #[.string x.d.id, .int .i64 x.d.nd, .int .i64 x.d.ba, .int .i64 x.d.sl, .int .i64 x.d.li, .slice x.prA x.d.pr.length x.prc], .int .i64 t, .int .i64 h] w fun e w' => e = .returned (.tuple #[.int .i64 (loadOfR0 x.d t h), .int .i64 (loadOfR1 x.d t h)]) ∧ Below w.heap.size w w' := by
  have hN := BdO.new w x 40
  have HV0 := fun wx (hb : Below w.heap.size w wx) => isValid_any x wx (hx.go hb)
  have HT0 := fun wx => isOutdoor_any t wx
  have HH0 := fun wx => isHour_any h wx
  have HX := Lib.hid hx
  clear hx
  have hb : Below w.heap.size w (w.alloc (.cells #[.string x.d.id, .int .i64 x.d.nd, .int .i64 x.d.ba, .int .i64 x.d.sl, .int .i64 x.d.li, .slice x.prA x.d.pr.length x.prc] 40)) := bal (Below.refl _ _) _
  by_cases ho : x.d.ok = true
  · skip
    by_cases k1 : inB t (-4000) 4500 = true
    · skip
      by_cases k2 : inB h 0 23 = true
      · skip
        have hv : loadOfR0 x.d t h = loadI x.d t h := by unfold loadOfR0; simp [*]
        have hc : loadOfR1 x.d t h = 0 := by unfold loadOfR1; simp [*]
        rw [hv, hc]
        clear hv hc
        have q1 := inB_iff.1 k1
        have q2 := inB_iff.1 k2
        have HL2 := Lib.hid (fun wx (hb : Below w.heap.size w wx) => load_any x t h wx (HX.out.go hb).1 ho q1.1 q1.2 q2.1 (by omega))
        generalize loadI x.d t h = r at *
        rw [ho] at HV0
        rw [k1] at HT0
        rw [k2] at HH0
        have HV := Lib.hid HV0
        have HT := Lib.hid HT0
        have HH := Lib.hid HH0
        clear HV0 HT0 HH0
        have ⟨p0, p1, p2, p3, p4, p5⟩ := hN
        go_enter Try.func33, Try.ntmps33
        go_wp2_with (first | (go_at_call 74; refine (HV.out _ hb).mono ?_; rintro e w' ⟨rfl, hb'⟩; have hb := bnext hb hb'; have hN := BdO.next hN hb'; have ⟨p0, p1, p2, p3, p4, p5⟩ := hN) | (go_at_call 66; refine (HT.out _).mono ?_; rintro e w' ⟨rfl, hb'⟩; have hb := bnext hb hb'; have hN := BdO.next hN hb'; have ⟨p0, p1, p2, p3, p4, p5⟩ := hN) | (go_at_call 62; refine (HH.out _).mono ?_; rintro e w' ⟨rfl, hb'⟩; have hb := bnext hb hb'; have hN := BdO.next hN hb'; have ⟨p0, p1, p2, p3, p4, p5⟩ := hN) | (go_at_call 61; refine (argumentCode_any _ _ _).mono ?_; rintro e w' ⟨rfl, rfl⟩) | (go_at_call 78; refine (HL2.out _ hb).mono ?_; rintro e w' ⟨rfl, hb'⟩; have hb := bnext hb hb'))
        go_ret2
        exact ⟨rfl, hb⟩
      · have k2 : inB h 0 23 = false := by simpa only [Bool.not_eq_true] using k2
        have hv : loadOfR0 x.d t h = 0 := by unfold loadOfR0; simp [*]
        have hc : loadOfR1 x.d t h = 2 := by unfold loadOfR1; simp [*]
        rw [hv, hc]
        clear hv hc
        rw [ho] at HV0
        rw [k1] at HT0
        rw [k2] at HH0
        have HV := Lib.hid HV0
        have HT := Lib.hid HT0
        have HH := Lib.hid HH0
        clear HV0 HT0 HH0
        have ⟨p0, p1, p2, p3, p4, p5⟩ := hN
        go_enter Try.func33, Try.ntmps33
        go_wp2_with (first | (go_at_call 74; refine (HV.out _ hb).mono ?_; rintro e w' ⟨rfl, hb'⟩; have hb := bnext hb hb'; have hN := BdO.next hN hb'; have ⟨p0, p1, p2, p3, p4, p5⟩ := hN) | (go_at_call 66; refine (HT.out _).mono ?_; rintro e w' ⟨rfl, hb'⟩; have hb := bnext hb hb'; have hN := BdO.next hN hb'; have ⟨p0, p1, p2, p3, p4, p5⟩ := hN) | (go_at_call 62; refine (HH.out _).mono ?_; rintro e w' ⟨rfl, hb'⟩; have hb := bnext hb hb'; have hN := BdO.next hN hb'; have ⟨p0, p1, p2, p3, p4, p5⟩ := hN) | (go_at_call 61; refine (argumentCode_any _ _ _).mono ?_; rintro e w' ⟨rfl, rfl⟩))
        go_ret2
        exact ⟨rfl, hb⟩
    · have k1 : inB t (-4000) 4500 = false := by simpa only [Bool.not_eq_true] using k1
      by_cases k2 : inB h 0 23 = true
      · skip
        have hv : loadOfR0 x.d t h = 0 := by unfold loadOfR0; simp [*]
        have hc : loadOfR1 x.d t h = 2 := by unfold loadOfR1; simp [*]
        rw [hv, hc]
        clear hv hc
        rw [ho] at HV0
        rw [k1] at HT0
        rw [k2] at HH0
        have HV := Lib.hid HV0
        have HT := Lib.hid HT0
        have HH := Lib.hid HH0
        clear HV0 HT0 HH0
        have ⟨p0, p1, p2, p3, p4, p5⟩ := hN
        go_enter Try.func33, Try.ntmps33
        go_wp2_with (first | (go_at_call 74; refine (HV.out _ hb).mono ?_; rintro e w' ⟨rfl, hb'⟩; have hb := bnext hb hb'; have hN := BdO.next hN hb'; have ⟨p0, p1, p2, p3, p4, p5⟩ := hN) | (go_at_call 66; refine (HT.out _).mono ?_; rintro e w' ⟨rfl, hb'⟩; have hb := bnext hb hb'; have hN := BdO.next hN hb'; have ⟨p0, p1, p2, p3, p4, p5⟩ := hN) | (go_at_call 62; refine (HH.out _).mono ?_; rintro e w' ⟨rfl, hb'⟩; have hb := bnext hb hb'; have hN := BdO.next hN hb'; have ⟨p0, p1, p2, p3, p4, p5⟩ := hN) | (go_at_call 61; refine (argumentCode_any _ _ _).mono ?_; rintro e w' ⟨rfl, rfl⟩))
        go_ret2
        exact ⟨rfl, hb⟩
      · have k2 : inB h 0 23 = false := by simpa only [Bool.not_eq_true] using k2
        have hv : loadOfR0 x.d t h = 0 := by unfold loadOfR0; simp [*]
        have hc : loadOfR1 x.d t h = 2 := by unfold loadOfR1; simp [*]
        rw [hv, hc]
        clear hv hc
        rw [ho] at HV0
        rw [k1] at HT0
        rw [k2] at HH0
        have HV := Lib.hid HV0
        have HT := Lib.hid HT0
        have HH := Lib.hid HH0
        clear HV0 HT0 HH0
        have ⟨p0, p1, p2, p3, p4, p5⟩ := hN
        go_enter Try.func33, Try.ntmps33
        go_wp2_with (first | (go_at_call 74; refine (HV.out _ hb).mono ?_; rintro e w' ⟨rfl, hb'⟩; have hb := bnext hb hb'; have hN := BdO.next hN hb'; have ⟨p0, p1, p2, p3, p4, p5⟩ := hN) | (go_at_call 66; refine (HT.out _).mono ?_; rintro e w' ⟨rfl, hb'⟩; have hb := bnext hb hb'; have hN := BdO.next hN hb'; have ⟨p0, p1, p2, p3, p4, p5⟩ := hN) | (go_at_call 62; refine (HH.out _).mono ?_; rintro e w' ⟨rfl, hb'⟩; have hb := bnext hb hb'; have hN := BdO.next hN hb'; have ⟨p0, p1, p2, p3, p4, p5⟩ := hN) | (go_at_call 61; refine (argumentCode_any _ _ _).mono ?_; rintro e w' ⟨rfl, rfl⟩))
        go_ret2
        exact ⟨rfl, hb⟩
  · have ho : x.d.ok = false := by simpa only [Bool.not_eq_true] using ho
    by_cases k1 : inB t (-4000) 4500 = true
    · skip
      by_cases k2 : inB h 0 23 = true
      · skip
        have hv : loadOfR0 x.d t h = 0 := by unfold loadOfR0; simp [*]
        have hc : loadOfR1 x.d t h = 1 := by unfold loadOfR1; simp [*]
        rw [hv, hc]
        clear hv hc
        rw [ho] at HV0
        rw [k1] at HT0
        rw [k2] at HH0
        have HV := Lib.hid HV0
        have HT := Lib.hid HT0
        have HH := Lib.hid HH0
        clear HV0 HT0 HH0
        have ⟨p0, p1, p2, p3, p4, p5⟩ := hN
        go_enter Try.func33, Try.ntmps33
        go_wp2_with (first | (go_at_call 74; refine (HV.out _ hb).mono ?_; rintro e w' ⟨rfl, hb'⟩; have hb := bnext hb hb'; have hN := BdO.next hN hb'; have ⟨p0, p1, p2, p3, p4, p5⟩ := hN) | (go_at_call 66; refine (HT.out _).mono ?_; rintro e w' ⟨rfl, hb'⟩; have hb := bnext hb hb'; have hN := BdO.next hN hb'; have ⟨p0, p1, p2, p3, p4, p5⟩ := hN) | (go_at_call 62; refine (HH.out _).mono ?_; rintro e w' ⟨rfl, hb'⟩; have hb := bnext hb hb'; have hN := BdO.next hN hb'; have ⟨p0, p1, p2, p3, p4, p5⟩ := hN) | (go_at_call 61; refine (argumentCode_any _ _ _).mono ?_; rintro e w' ⟨rfl, rfl⟩))
        go_ret2
        exact ⟨rfl, hb⟩
      · have k2 : inB h 0 23 = false := by simpa only [Bool.not_eq_true] using k2
        have hv : loadOfR0 x.d t h = 0 := by unfold loadOfR0; simp [*]
        have hc : loadOfR1 x.d t h = 1 := by unfold loadOfR1; simp [*]
        rw [hv, hc]
        clear hv hc
        rw [ho] at HV0
        rw [k1] at HT0
        rw [k2] at HH0
        have HV := Lib.hid HV0
        have HT := Lib.hid HT0
        have HH := Lib.hid HH0
        clear HV0 HT0 HH0
        have ⟨p0, p1, p2, p3, p4, p5⟩ := hN
        go_enter Try.func33, Try.ntmps33
        go_wp2_with (first | (go_at_call 74; refine (HV.out _ hb).mono ?_; rintro e w' ⟨rfl, hb'⟩; have hb := bnext hb hb'; have hN := BdO.next hN hb'; have ⟨p0, p1, p2, p3, p4, p5⟩ := hN) | (go_at_call 66; refine (HT.out _).mono ?_; rintro e w' ⟨rfl, hb'⟩; have hb := bnext hb hb'; have hN := BdO.next hN hb'; have ⟨p0, p1, p2, p3, p4, p5⟩ := hN) | (go_at_call 62; refine (HH.out _).mono ?_; rintro e w' ⟨rfl, hb'⟩; have hb := bnext hb hb'; have hN := BdO.next hN hb'; have ⟨p0, p1, p2, p3, p4, p5⟩ := hN) | (go_at_call 61; refine (argumentCode_any _ _ _).mono ?_; rintro e w' ⟨rfl, rfl⟩))
        go_ret2
        exact ⟨rfl, hb⟩
    · have k1 : inB t (-4000) 4500 = false := by simpa only [Bool.not_eq_true] using k1
      by_cases k2 : inB h 0 23 = true
      · skip
        have hv : loadOfR0 x.d t h = 0 := by unfold loadOfR0; simp [*]
        have hc : loadOfR1 x.d t h = 1 := by unfold loadOfR1; simp [*]
        rw [hv, hc]
        clear hv hc
        rw [ho] at HV0
        rw [k1] at HT0
        rw [k2] at HH0
        have HV := Lib.hid HV0
        have HT := Lib.hid HT0
        have HH := Lib.hid HH0
        clear HV0 HT0 HH0
        have ⟨p0, p1, p2, p3, p4, p5⟩ := hN
        go_enter Try.func33, Try.ntmps33
        go_wp2_with (first | (go_at_call 74; refine (HV.out _ hb).mono ?_; rintro e w' ⟨rfl, hb'⟩; have hb := bnext hb hb'; have hN := BdO.next hN hb'; have ⟨p0, p1, p2, p3, p4, p5⟩ := hN) | (go_at_call 66; refine (HT.out _).mono ?_; rintro e w' ⟨rfl, hb'⟩; have hb := bnext hb hb'; have hN := BdO.next hN hb'; have ⟨p0, p1, p2, p3, p4, p5⟩ := hN) | (go_at_call 62; refine (HH.out _).mono ?_; rintro e w' ⟨rfl, hb'⟩; have hb := bnext hb hb'; have hN := BdO.next hN hb'; have ⟨p0, p1, p2, p3, p4, p5⟩ := hN) | (go_at_call 61; refine (argumentCode_any _ _ _).mono ?_; rintro e w' ⟨rfl, rfl⟩))
        go_ret2
        exact ⟨rfl, hb⟩
      · have k2 : inB h 0 23 = false := by simpa only [Bool.not_eq_true] using k2
        have hv : loadOfR0 x.d t h = 0 := by unfold loadOfR0; simp [*]
        have hc : loadOfR1 x.d t h = 1 := by unfold loadOfR1; simp [*]
        rw [hv, hc]
        clear hv hc
        rw [ho] at HV0
        rw [k1] at HT0
        rw [k2] at HH0
        have HV := Lib.hid HV0
        have HT := Lib.hid HT0
        have HH := Lib.hid HH0
        clear HV0 HT0 HH0
        have ⟨p0, p1, p2, p3, p4, p5⟩ := hN
        go_enter Try.func33, Try.ntmps33
        go_wp2_with (first | (go_at_call 74; refine (HV.out _ hb).mono ?_; rintro e w' ⟨rfl, hb'⟩; have hb := bnext hb hb'; have hN := BdO.next hN hb'; have ⟨p0, p1, p2, p3, p4, p5⟩ := hN) | (go_at_call 66; refine (HT.out _).mono ?_; rintro e w' ⟨rfl, hb'⟩; have hb := bnext hb hb'; have hN := BdO.next hN hb'; have ⟨p0, p1, p2, p3, p4, p5⟩ := hN) | (go_at_call 62; refine (HH.out _).mono ?_; rintro e w' ⟨rfl, hb'⟩; have hb := bnext hb hb'; have hN := BdO.next hN hb'; have ⟨p0, p1, p2, p3, p4, p5⟩ := hN) | (go_at_call 61; refine (argumentCode_any _ _ _).mono ?_; rintro e w' ⟨rfl, rfl⟩))
        go_ret2
        exact ⟨rfl, hb⟩

end Go.Proofs.Ytnepehdfkaegbaa
