/-
  LeastSpeed of the program.
-/
import Derived.Test.YtkbkmpcdidhagabPv0
import Derived.Test.YtkbkmpcdidhagabPu8
namespace Go.Proofs.Ytkbkmpcdidhagab
open Go.ChangeShapes Go.WideShapes Go.ChangeAt Go.RowKit Go.Shelf

set_option maxRecDepth 100000
set_option maxHeartbeats 1600000
set_option linter.unusedVariables false

/-- the points of a pump at another speed -/
def slC (d : PmD) (th : Int) : List (Int × Int) := (crv d.cv).map (slP th)
def okSl (d : PmD) (th : Int) : Bool := nameL d.id.data.toList && okC (slC d th)
/-- a speed is enough -/
def spF (d : PmD) (s c q : Int) (k : Nat) : Bool := okSl d (100 + k) && decide (needI s c q ≤ headI (slC d (100 + k)) q)
def leastSpeedR0 (d : PmD) (s c q : Int) : Int := if okPu d = true then (if (sysOk s c && inB q 0 100000) = true then (match (List.range 1101).find? (spF d s c q) with | some k => 100 + k | none => 0) else 0) else 0
def leastSpeedR1 (d : PmD) (s c q : Int) : Int := if okPu d = true then (if (sysOk s c && inB q 0 100000) = true then (match (List.range 1101).find? (spF d s c q) with | some _ => 0 | none => 3) else 2) else 1
theorem least_some {d : PmD} {s c q : Int} {k : Nat} (ho : okPu d = true) (hs : (sysOk s c && inB q 0 100000) = true) (hk : k < 1101) (h : spF d s c q k = true) (hj : ∀ j, j < k → spF d s c q j = false) : leastSpeedR0 d s c q = 100 + k ∧ leastSpeedR1 d s c q = 0 := by
  have e : (List.range 1101).find? (spF d s c q) = some k := by
    rw [List.find?_range_eq_some]
    exact ⟨h, List.mem_range.2 hk, fun j hjk => by rw [hj j hjk]; rfl⟩
  unfold leastSpeedR0 leastSpeedR1
  rw [if_pos ho, if_pos ho, if_pos hs, if_pos hs, e]
  exact ⟨rfl, rfl⟩
theorem least_none {d : PmD} {s c q : Int} (ho : okPu d = true) (hs : (sysOk s c && inB q 0 100000) = true) (hj : ∀ j, j < 1101 → spF d s c q j = false) : leastSpeedR0 d s c q = 0 ∧ leastSpeedR1 d s c q = 3 := by
  have e : (List.range 1101).find? (spF d s c q) = none := by
    rw [List.find?_range_eq_none]
    exact fun j hjk => by rw [hj j hjk]; rfl
  unfold leastSpeedR0 leastSpeedR1
  rw [if_pos ho, if_pos ho, if_pos hs, if_pos hs, e]
  exact ⟨rfl, rfl⟩
theorem implLeastSpeed_ds (x : Pm) (s c q : Int) (w : World) (h : x.okay w) :
    Calls Try.prog 35 #[.agg #[.string x.d.id, .slice x.cvA x.d.cv.length x.cvc], .int .i64 s, .int .i64 c, .int .i64 q] w fun e w' => e = .returned (.tuple #[.int .i64 (leastSpeedR0 x.d s c q), .int .i64 (leastSpeedR1 x.d s c q)]) ∧ Below w.heap.size w w' := by
  have hbA : Below w.heap.size w (w.alloc (.cells #[.string x.d.id, .slice x.cvA x.d.cv.length x.cvc] 27)) := bal (Below.refl _ _) _
  have hba : Below w.heap.size w ((w.alloc (.cells #[.string x.d.id, .slice x.cvA x.d.cv.length x.cvc] 27)).alloc (.cells #[.int .i64 s, .int .i64 c] 76)) := bal hbA _
  have hN := (PmO.new w x 27).alloc (.cells #[.int .i64 s, .int .i64 c] 76)
  have hS := SysO.new (w.alloc (.cells #[.string x.d.id, .slice x.cvA x.d.cv.length x.cvc] 27)) s c 76
  rw [World.size_alloc] at hS
  have HV := Lib.hid (fun wx (hbx : Below w.heap.size w wx) => implVP_any x wx (h.go hbx))
  have HC := Lib.hid (fun wx (hbx : Below w.heap.size w wx) => newPump_any x wx (h.go hbx))
  have hcl : (crv x.d.cv).length ≤ 1048576 := Nat.le_trans (crv_length _) h.2.1
  have hsz := h.1.1
  have HST := Lib.hid (fun wx => sysStated_any s c wx)
  have HIP := Lib.hid (fun wx => isPumped_any q wx)
  have HO : Hid (okPu x.d = okPu x.d) := Lib.hid rfl
  have HT : Hid (sysOk s c = sysOk s c) := Lib.hid rfl
  have HU : Hid (inB q 0 100000 = inB q 0 100000) := Lib.hid rfl
  generalize hbo : okPu x.d = bo at HV HO
  generalize hbt : sysOk s c = bt at HST HT
  generalize hbu : inB q 0 100000 = bu at HIP HU
  have HBO := Lib.hid hbo
  have HBT := Lib.hid hbt
  have HBU := Lib.hid hbu
  clear h hbA hbo hbt hbu HO HT HU
  have ⟨n0, n1⟩ := hN
  have ⟨p0, p1⟩ := hS
  go_enter Try.func35, Try.ntmps35
  go_wp2_with fail
  generalize (w.alloc (.cells #[.string x.d.id, .slice x.cvA x.d.cv.length x.cvc] 27)).alloc (.cells #[.int .i64 s, .int .i64 c] 76) = W0 at *
  have hdr : Below W0.heap.size W0 W0.drew := below_drewN (Below.refl _ _) 1
  have hb := bnext hba hdr
  have hN := hN.next hdr
  have hS := hS.next hdr
  have ⟨n0, n1⟩ := hN
  have ⟨p0, p1⟩ := hS
  clear hdr
  cases bt
  · first | (go_region_held (fun w' => w'.cell? ⟨w.heap.size, 0, none⟩ = some (.string x.d.id) ∧ w'.cell? ⟨w.heap.size, 1, none⟩ = some (.slice x.cvA x.d.cv.length x.cvc) ∧ w'.cell? ⟨w.heap.size + 1, 0, none⟩ = some (.int .i64 s) ∧ w'.cell? ⟨w.heap.size + 1, 1, none⟩ = some (.int .i64 c)) (exact ⟨n0, n1, p0, p1⟩) (first | (go_at_call 16; refine (HV.out _ hb).mono ?_; rintro e w' ⟨rfl, hb'⟩; have hb := bnext hb hb'; have hN := hN.next hb'; have hS := hS.next hb'; have ⟨n0, n1⟩ := hN; have ⟨p0, p1⟩ := hS) | (go_at_call 61; refine (HST.out _).mono ?_; rintro e w' ⟨rfl, hb'⟩; have hb := bnext hb hb'; have hN := hN.next hb'; have hS := hS.next hb'; have ⟨n0, n1⟩ := hN; have ⟨p0, p1⟩ := hS) | (go_at_call 57; refine (HIP.out _).mono ?_; rintro e w' ⟨rfl, hb'⟩; have hb := bnext hb hb'; have hN := hN.next hb'; have hS := hS.next hb'; have ⟨n0, n1⟩ := hN; have ⟨p0, p1⟩ := hS) | (go_at_call 56; refine (argumentCode_any _ _ _).mono ?_; rintro e w'' ⟨rfl, rfl⟩))) | fail
    clear HV HST HIP
    have hz : (sysOk s c && inB q 0 100000) = false := by rw [HBT.out]; rfl
    cases bo
    · have HW : Hid (leastSpeedR0 x.d s c q = 0 ∧ leastSpeedR1 x.d s c q = 1) := Lib.hid (by unfold leastSpeedR0 leastSpeedR1; rw [HBO.out]; exact ⟨rfl, rfl⟩)
      have hc : argC false false = 1 := rfl
      rw [hc]
      clear hz hc
      go_wp2
      go_ret2
      exact ⟨by rw [HW.out.1, HW.out.2]; rfl, hb⟩
    · have HW : Hid (leastSpeedR0 x.d s c q = 0 ∧ leastSpeedR1 x.d s c q = 2) := Lib.hid (by unfold leastSpeedR0 leastSpeedR1; rw [HBO.out, hz]; exact ⟨rfl, rfl⟩)
      have hc : argC true false = 2 := rfl
      rw [hc]
      clear hz hc
      go_wp2
      go_ret2
      exact ⟨by rw [HW.out.1, HW.out.2]; rfl, hb⟩
  (go_region_held3 (fun w' => w'.cell? ⟨w.heap.size, 0, none⟩ = some (.string x.d.id) ∧ w'.cell? ⟨w.heap.size, 1, none⟩ = some (.slice x.cvA x.d.cv.length x.cvc) ∧ w'.cell? ⟨w.heap.size + 1, 0, none⟩ = some (.int .i64 s) ∧ w'.cell? ⟨w.heap.size + 1, 1, none⟩ = some (.int .i64 c)) (exact ⟨n0, n1, p0, p1⟩) (first | (go_at_call 16; refine (HV.out _ hb).mono ?_; rintro e w' ⟨rfl, hb'⟩; have hb := bnext hb hb'; have hN := hN.next hb'; have hS := hS.next hb'; have ⟨n0, n1⟩ := hN; have ⟨p0, p1⟩ := hS) | (go_at_call 61; refine (HST.out _).mono ?_; rintro e w' ⟨rfl, hb'⟩; have hb := bnext hb hb'; have hN := hN.next hb'; have hS := hS.next hb'; have ⟨n0, n1⟩ := hN; have ⟨p0, p1⟩ := hS) | (go_at_call 57; refine (HIP.out _).mono ?_; rintro e w' ⟨rfl, hb'⟩; have hb := bnext hb hb'; have hN := hN.next hb'; have hS := hS.next hb'; have ⟨n0, n1⟩ := hN; have ⟨p0, p1⟩ := hS) | (go_at_call 56; refine (argumentCode_any _ _ _).mono ?_; rintro e w'' ⟨rfl, rfl⟩)))
  clear HV HST HIP
  cases bo
  · have HW : Hid (leastSpeedR0 x.d s c q = 0 ∧ leastSpeedR1 x.d s c q = 1) := Lib.hid (by unfold leastSpeedR0 leastSpeedR1; rw [HBO.out]; exact ⟨rfl, rfl⟩)
    have hc : argC false bu = 1 := by cases bu <;> rfl
    rw [hc]
    clear hc
    go_wp2
    go_ret2
    exact ⟨by rw [HW.out.1, HW.out.2]; rfl, hb⟩
  cases bu
  · have hz : (sysOk s c && inB q 0 100000) = false := by rw [HBT.out, HBU.out]; rfl
    have HW : Hid (leastSpeedR0 x.d s c q = 0 ∧ leastSpeedR1 x.d s c q = 2) := Lib.hid (by unfold leastSpeedR0 leastSpeedR1; rw [HBO.out, hz]; exact ⟨rfl, rfl⟩)
    have hc : argC true false = 2 := rfl
    rw [hc]
    clear hz hc
    go_wp2
    go_ret2
    exact ⟨by rw [HW.out.1, HW.out.2]; rfl, hb⟩
  have hc : argC true true = 0 := rfl
  rw [hc]
  have HZ : Hid ((sysOk s c && inB q 0 100000) = true) := Lib.hid (by rw [HBT.out, HBU.out]; rfl)
  have HPS : Hid (∀ i, i < (crv x.d.cv).length → (0 ≤ (ptAt (crv x.d.cv) i).1 ∧ (ptAt (crv x.d.cv) i).1 ≤ 100000) ∧ (0 ≤ (ptAt (crv x.d.cv) i).2 ∧ (ptAt (crv x.d.cv) i).2 ≤ 2000000)) := Lib.hid (fun i hi => by have := okC_one (okPu_parts HBO.out).2.1 i hi; exact ⟨⟨this.1, this.2.1⟩, ⟨this.2.2.1, this.2.2.2⟩⟩)
  have HBX := Lib.hid hb
  have HNX := Lib.hid hN
  have HSX := Lib.hid hS
  have HSH := Lib.hid (fun wx => sysHead_any s c q wx HBT.out HBU.out)
  have HND := Lib.hid (need_bd HBT.out HBU.out)
  clear hc hb hN hS n0 n1 p0 p1 hba
  go_wp2_with fail
  go_loopw [12] (fun v wr => ∃ k : Nat, k ≤ 1101 ∧ v = .int .i64 (100 + (k : Int)) ∧ Hid (∀ j, j < k → spF x.d s c q j = false) ∧ Below w.heap.size w wr ∧ PmO wr w.heap.size 0 x ∧ SysO wr (w.heap.size + 1) s c) (fun v _ => 1101 - (intOf v - 100).toNat)
  case atStart => exact ⟨0, by omega, rfl, Lib.hid (fun j hj => absurd hj (Nat.not_lt_zero _)), HBX.out, HNX.out, HSX.out⟩
  case round =>
    obtain ⟨k, hk, rfl, Hno, hb, hN, hS⟩ := hrel
    have ⟨n0, n1⟩ := hN
    by_cases hlt : k < 1101
    · have hle : (100 : Int) + (k : Int) ≤ 1200 := by omega
      have HCW := Lib.hid (HC.out wr hb)
      have HB := Lib.hid hb
      have HN2 := Lib.hid hN
      have HS2 := Lib.hid hS
      have HSP : Hid (spF x.d s c q k = (okSl x.d (100 + (k : Int)) && decide (needI s c q ≤ headI (slC x.d (100 + (k : Int))) q))) := Lib.hid rfl
      have HYES : Hid (spF x.d s c q k = true → leastSpeedR0 x.d s c q = 100 + (k : Int) ∧ leastSpeedR1 x.d s c q = 0) := Lib.hid fun h => least_some HBO.out HZ.out hlt h Hno.out
      have HNO : Hid (spF x.d s c q k = false → ∀ j, j < k + 1 → spF x.d s c q j = false) := Lib.hid fun h j hj => by
        by_cases e : j = k
        · rw [e]; exact h
        · exact Hno.out j (by omega)
      have hsl : (slC x.d (100 + (k : Int))).length = (crv x.d.cv).length := by unfold slC; rw [List.length_map]
      have HSL := Lib.hid hsl
      have HSLE : Hid ((crv x.d.cv).map (slP (100 + (k : Int))) = slC x.d (100 + (k : Int))) := Lib.hid rfl
      have HOS : Hid (okSl x.d (100 + (k : Int)) = (nameL x.d.id.data.toList && okC (slC x.d (100 + (k : Int))))) := Lib.hid rfl
      have hth : (100 : Int) ≤ 100 + (k : Int) ∧ (100 : Int) + (k : Int) ≤ 1200 := by omega
      generalize spF x.d s c q k = sp at *
      clear hb hN hS hsl
      go_wp2_with fail
      refine HCW.out.mono ?_
      rintro e w1 ⟨b, B, dd, rfl, hO, hown, -, hne, hb1⟩
      have HSS := Lib.hid (setSpeed_any b x.d.id B dd wr.heap.size (crv x.d.cv) (100 + (k : Int)) w1 hO hown hne HPS.out hcl hth hb1.size)
      rw [HSLE.out] at HSS
      have HB1 := Lib.hid hb1
      clear hO hown hne hb1 n0 n1
      generalize slC x.d (100 + (k : Int)) = sl at *
      generalize hsp : (100 : Int) + (k : Int) = sv at *
      go_wp2_with fail
      refine HSS.out.mono ?_
      rintro e w2 ⟨rfl, hO2, hown2, hb2⟩
      have hbw : Below wr.heap.size wr w2 := HB1.out.trans hb2
      have hPT : PtsOk w2 B sl.length sl := RetPump.pts (by rw [HSL.out]; exact hown2) (by rw [HSL.out]; exact hcl)
      have HIV := Lib.hid (fun wx (hbx : Below w2.heap.size w2 wx) => isValidPump_any b x.d.id B dd sl wx (hO2.next hbx) (hPT.go hbx) hsz)
      have HHD0 : Hid (okC sl = true → ∀ wx, Below w2.heap.size w2 wx → Calls Try.prog 58 #[.pointer (some ⟨b, 0, none⟩), .int .i64 q] wx fun e w' => e = .returned (.int .i64 (headI sl q)) ∧ Below wx.heap.size wx w') := Lib.hid fun ho wx hbx => pmpHead_any b x.d.id B dd sl q wx (hO2.next hbx) (hPT.go hbx) ho
      have HBD0 : Hid (okC sl = true → 0 ≤ headI sl q ∧ headI sl q ≤ 2000000) := Lib.hid fun ho => head_bd ho q
      rw [← HOS.out] at HIV
      have HOK : Hid (okSl x.d sv = true → okC sl = true) := Lib.hid fun h => by rw [HOS.out, Bool.and_eq_true] at h; exact h.2
      have HB2 := Lib.hid (bnext HB.out hbw)
      have HN3 := Lib.hid (HN2.out.next hbw)
      have HS3 := Lib.hid (HS2.out.next hbw)
      clear hO2 hown2 hb2 hPT HSS HOS
      go_wp2_with fail
      have hr : Below w2.heap.size w2 w2.drew := below_drewN (Below.refl _ _) 1
      have hS := HS3.out.next hr
      have ⟨p0, p1⟩ := hS
      cases hos : okSl x.d sv
      · rw [hos] at HIV HSP
        have hsf : sp = false := by rw [HSP.out]; rfl
        have HNX2 := Lib.hid (HNO.out hsf)
        clear hos hsf HYES HNO HSP HHD0 HBD0
        first | (go_region_with (first | (go_at_call 49; refine (HIV.out _ hr).mono ?_; rintro e w' ⟨rfl, hb'⟩; have hr := bnext hr hb'; have hS := hS.next hb'; have ⟨p0, p1⟩ := hS) | fail)) | fail
        all_goals
          have HR := Lib.hid (bnext HB2.out hr)
          have HNR := Lib.hid (HN3.out.next hr)
          have HSR := Lib.hid hS
          clear hr hS p0 p1
          go_wp2
          go_roundw
          case rel => exact ⟨k + 1, by omega, by go_num, HNX2, HR.out, HNR.out, HSR.out⟩
          case measure => simp [intOf]; omega
      · rw [hos] at HIV HSP
        have hok := HOK.out hos
        have HHD := Lib.hid (HHD0.out hok)
        have hdb := HBD0.out hok
        have hnd := HND.out
        clear hos hok HHD0 HBD0
        generalize headI sl q = hd at *
        generalize needI s c q = nd at *
        by_cases hge : nd ≤ hd
        · have hst : sp = true := by rw [HSP.out]; simp [hge]
          have HW := Lib.hid (HYES.out hst)
          clear hst HYES HNO HSP
          go_region_held3 (fun w' => w'.cell? ⟨w.heap.size + 1, 0, none⟩ = some (.int .i64 s) ∧ w'.cell? ⟨w.heap.size + 1, 1, none⟩ = some (.int .i64 c)) (exact ⟨p0, p1⟩) (first | (go_at_call 49; refine (HIV.out _ hr).mono ?_; rintro e w' ⟨rfl, hb'⟩; have hr := bnext hr hb'; have hS := hS.next hb'; have ⟨p0, p1⟩ := hS) | (go_at_call 58; refine (HHD.out _ hr).mono ?_; rintro e w' ⟨rfl, hb'⟩; have hr := bnext hr hb'; have hS := hS.next hb'; have ⟨p0, p1⟩ := hS) | (go_at_call 62; refine (HSH.out _).mono ?_; rintro e w' ⟨rfl, hb'⟩; have hr := bnext hr hb'; have hS := hS.next hb'; have ⟨p0, p1⟩ := hS))
          have HR := Lib.hid (bnext HB2.out hr)
          clear hr hS p0 p1
          go_wp2
          go_ret2
          exact ⟨by rw [HW.out.1, HW.out.2]; rfl, HR.out⟩
        · have hsf : sp = false := by rw [HSP.out]; simp; omega
          have HNX2 := Lib.hid (HNO.out hsf)
          clear hsf HYES HNO HSP
          go_region_held3 (fun w' => w'.cell? ⟨w.heap.size + 1, 0, none⟩ = some (.int .i64 s) ∧ w'.cell? ⟨w.heap.size + 1, 1, none⟩ = some (.int .i64 c)) (exact ⟨p0, p1⟩) (first | (go_at_call 49; refine (HIV.out _ hr).mono ?_; rintro e w' ⟨rfl, hb'⟩; have hr := bnext hr hb'; have hS := hS.next hb'; have ⟨p0, p1⟩ := hS) | (go_at_call 58; refine (HHD.out _ hr).mono ?_; rintro e w' ⟨rfl, hb'⟩; have hr := bnext hr hb'; have hS := hS.next hb'; have ⟨p0, p1⟩ := hS) | (go_at_call 62; refine (HSH.out _).mono ?_; rintro e w' ⟨rfl, hb'⟩; have hr := bnext hr hb'; have hS := hS.next hb'; have ⟨p0, p1⟩ := hS))
          have HR := Lib.hid (bnext HB2.out hr)
          have HNR := Lib.hid (HN3.out.next hr)
          have HSR := Lib.hid hS
          clear hr hS p0 p1
          go_wp2
          go_roundw
          case rel => exact ⟨k + 1, by omega, by go_num, HNX2, HR.out, HNR.out, HSR.out⟩
          case measure => simp [intOf]; omega
    · obtain rfl : k = 1101 := by omega
      have HW := Lib.hid (least_none HBO.out HZ.out Hno.out)
      clear Hno
      go_wp2
      go_ret2
      exact ⟨by rw [HW.out.1, HW.out.2]; rfl, hb⟩

end Go.Proofs.Ytkbkmpcdidhagab
