/-
  WorkingFlow: both sides.
-/
import Derived.Test.YtkbkmpcdidhagabPu6
import Derived.Test.YtkbkmpcdidhagabW4
namespace Go.Proofs.Ytkbkmpcdidhagab
open Go.ChangeShapes Go.WideShapes Go.ChangeAt Go.RowKit Go.Shelf

set_option maxRecDepth 100000
set_option linter.unusedVariables false

/-- by how much the system's head is greater than the pump's -/
def gapI (d : PmD) (s c q : Int) : Int := needI s c q - headI (crv d.cv) q
theorem need_mono {s c q r : Int} (hs : sysOk s c = true) (hq : 0 ≤ q) (hqr : q ≤ r) : needI s c q ≤ needI s c r := by
  unfold sysOk at hs
  simp only [Bool.and_eq_true, inB_iff] at hs
  have h1 : c * q ≤ c * r := Int.mul_le_mul_of_nonneg_left hqr hs.2.1
  have h0 : 0 ≤ c * q := Int.mul_nonneg hs.2.1 hq
  have h2 : c * q * q ≤ c * r * r := Int.mul_le_mul h1 hqr hq (by omega)
  unfold needI
  have := nearI_mono (c * q * q) (c * r * r) 10000000000 (by omega) h2
  omega
theorem gap_mono {d : PmD} {s c : Int} (hv : okPu d = true) (hs : sysOk s c = true) : ∀ q r, 0 ≤ q → q ≤ r → r ≤ 100000 → gapI d s c q ≤ gapI d s c r := fun q r h0 h1 _ => by
  have a := need_mono hs h0 h1
  have b := head_anti (okPu_parts hv).2.1 q r h1
  unfold gapI
  omega
/-- the least flow at which the system's head is too great -/
def tooI (d : PmD) (s c : Int) : Int := leastI 0 100000 1 (gapI d s c)
theorem tooI_least {d : PmD} {s c : Int} (hv : okPu d = true) (hs : sysOk s c = true) : Least 0 100000 1 (gapI d s c) (tooI d s c) := leastI_spec 0 100000 1 (gapI d s c) (by omega) (gap_mono hv hs)
def workingFlowR0 (d : PmD) (s c : Int) : Int := if okPu d = true then (if sysOk s c = true then (if tooI d s c = 0 then 0 else tooI d s c - 1) else 0) else 0
def workingFlowR1 (d : PmD) (s c : Int) : Int := if okPu d = true then (if sysOk s c = true then (if tooI d s c = 0 then 0 else headI (crv d.cv) (tooI d s c - 1)) else 0) else 0
def workingFlowR2 (d : PmD) (s c : Int) : Int := if okPu d = true then (if sysOk s c = true then (if tooI d s c = 0 then 3 else 0) else 2) else 1
theorem specWorkingFlow_ds (x : Pm) (s c : Int) (w : World) (h : x.okay w) :
    Calls Try.prog 24 #[.agg #[.string x.d.id, .slice x.cvA x.d.cv.length x.cvc], .int .i64 s, .int .i64 c] w fun e w' => e = .returned (.tuple #[.int .i64 (workingFlowR0 x.d s c), .int .i64 (workingFlowR1 x.d s c), .int .i64 (workingFlowR2 x.d s c)]) ∧ Below w.heap.size w w' := by
  have hb : Below w.heap.size w (w.alloc (.cells #[.string x.d.id, .slice x.cvA x.d.cv.length x.cvc] 27)) := bal (Below.refl _ _) _
  have hO := PmO.new w x 27
  have HC := Lib.hid (l08Ok_any w.heap.size x _ hO (h.go hb))
  have HHD := Lib.hid (fun k q (hv : okPu x.d = true) => l08Head_any w.heap.size x q ((w.alloc (.cells #[.string x.d.id, .slice x.cvA x.d.cv.length x.cvc] 27)).drewN k) (hO.next (below_drewN (Below.refl _ _) k)) ((h.go hb).go (below_drewN (Below.refl _ _) k)) hv)
  have ⟨n0, n1⟩ := hO
  clear h hO
  by_cases ho : okPu x.d = true
  rotate_left
  · have ho' : okPu x.d = false := by simpa only [Bool.not_eq_true] using ho
    have HV : Hid (workingFlowR0 x.d s c = 0 ∧ workingFlowR1 x.d s c = 0 ∧ workingFlowR2 x.d s c = 1) := Lib.hid ⟨by unfold workingFlowR0; rw [if_neg ho], by unfold workingFlowR1; rw [if_neg ho], by unfold workingFlowR2; rw [if_neg ho]⟩
    rw [ho'] at HC
    clear ho ho'
    go_enter Try.func24, Try.ntmps24
    go_wp2_with fail
    refine HC.out.mono ?_
    rintro e w1 ⟨rfl, ⟨k, rfl⟩⟩
    go_wp2
    go_ret3
    exact ⟨by rw [HV.out.1, HV.out.2.1, HV.out.2.2]; rfl, below_drewN hb _⟩
  rw [ho] at HC
  by_cases hs : sysOk s c = true
  rotate_left
  · have hs' : sysOk s c = false := by simpa only [Bool.not_eq_true] using hs
    have HV : Hid (workingFlowR0 x.d s c = 0 ∧ workingFlowR1 x.d s c = 0 ∧ workingFlowR2 x.d s c = 2) := Lib.hid ⟨by unfold workingFlowR0; rw [if_pos ho, if_neg hs], by unfold workingFlowR1; rw [if_pos ho, if_neg hs], by unfold workingFlowR2; rw [if_pos ho, if_neg hs]⟩
    clear ho hs
    go_enter Try.func24, Try.ntmps24
    go_wp2_with fail
    refine HC.out.mono ?_
    rintro e w1 ⟨rfl, ⟨k, rfl⟩⟩
    go_wp2_with fail
    refine (l08System_any s c _).mono ?_
    rintro e w2 ⟨rfl, rfl⟩
    rw [hs']
    go_wp2
    go_ret3
    exact ⟨by rw [HV.out.1, HV.out.2.1, HV.out.2.2]; rfl, below_drewN hb _⟩
  have HL := Lib.hid (tooI_least ho hs)
  have HM := Lib.hid (gap_mono ho hs)
  have HNB := Lib.hid (fun q (hq : inB q 0 100000 = true) => need_bd hs hq)
  have HHB := Lib.hid (fun q => head_bd (okPu_parts ho).2.1 q)
  have HV0 : Hid (workingFlowR0 x.d s c = (if tooI x.d s c = 0 then 0 else tooI x.d s c - 1) ∧ workingFlowR1 x.d s c = (if tooI x.d s c = 0 then 0 else headI (crv x.d.cv) (tooI x.d s c - 1)) ∧ workingFlowR2 x.d s c = (if tooI x.d s c = 0 then 3 else 0)) := Lib.hid ⟨by unfold workingFlowR0; rw [if_pos ho, if_pos hs], by unfold workingFlowR1; rw [if_pos ho, if_pos hs], by unfold workingFlowR2; rw [if_pos ho, if_pos hs]⟩
  have HND := Lib.hid (fun q wx (hq : inB q 0 100000 = true) => l08Needs_any s c q wx hs hq)
  have HHQ := Lib.hid (fun k q => HHD.out k q ho)
  clear HHD
  go_enter Try.func24, Try.ntmps24
  go_wp2_with fail
  refine HC.out.mono ?_
  rintro e w1 ⟨rfl, ⟨k0, rfl⟩⟩
  go_wp2_with fail
  refine (l08System_any s c _).mono ?_
  rintro e w2 ⟨rfl, rfl⟩
  rw [hs]
  clear hs ho
  go_wp2
  go_loopw [9, 10] (fun va vb wr => ∃ l r : Int, va = .int .i64 l ∧ vb = .int .i64 r ∧ -1 ≤ l ∧ l < r ∧ r ≤ 100001 ∧ Hid ((0 ≤ l → gapI x.d s c l < 1) ∧ (r ≤ 100000 → 1 ≤ gapI x.d s c r)) ∧ (∃ k, wr = (w.alloc (.cells #[.string x.d.id, .slice x.cvA x.d.cv.length x.cvc] 27)).drewN k)) (fun va vb _ => (intOf vb - intOf va).toNat)
  case atStart => exact ⟨-1, 100001, rfl, rfl, by omega, by omega, by omega, Lib.hid ⟨fun h => by omega, fun h => by omega⟩, ⟨_, rfl⟩⟩
  case round =>
    obtain ⟨l, r, rfl, rfl, l0, lr, r1, HI, ⟨kr, rfl⟩⟩ := hrel
    by_cases hlt : 1 < r - l
    · obtain ⟨m, hm, m0, m1⟩ : ∃ m : Int, (l + r).tdiv 2 = m ∧ l < m ∧ m < r := ⟨_, rfl, by rw [Int.tdiv_eq_ediv_of_nonneg (by omega)]; omega, by rw [Int.tdiv_eq_ediv_of_nonneg (by omega)]; omega⟩
      have hmi : inB m 0 100000 = true := inB_iff.2 ⟨by omega, by omega⟩
      have HNm := Lib.hid (fun wx => HND.out m wx hmi)
      have HHm := Lib.hid (fun k => HHQ.out k m)
      have hnb := HNB.out m hmi
      have hhb := HHB.out m
      have HG : Hid (gapI x.d s c m = needI s c m - headI (crv x.d.cv) m) := Lib.hid rfl
      generalize needI s c m = nd at *
      generalize headI (crv x.d.cv) m = hd at *
      go_wp2_with fail
      refine (HNm.out _).mono ?_
      rintro e w3 ⟨rfl, rfl⟩
      go_wp2_with fail
      refine (HHm.out _).mono ?_
      rintro e w4 ⟨rfl, ⟨k4, rfl⟩⟩
      by_cases hle : nd ≤ hd
      · go_wp2
        go_roundw
        case rel => exact ⟨m, r, rfl, rfl, by omega, m1, r1, Lib.hid ⟨fun _ => by rw [HG.out]; omega, HI.out.2⟩, ⟨_, by first | rfl | exact World.drewN_drewN ..⟩⟩
        case measure => simp [intOf]; omega
      · have hlt2 : hd < nd := by omega
        clear hle
        go_wp2
        go_roundw
        case rel => exact ⟨l, m, rfl, rfl, l0, m0, by omega, Lib.hid ⟨HI.out.1, fun _ => by rw [HG.out]; omega⟩, ⟨_, by first | rfl | exact World.drewN_drewN ..⟩⟩
        case measure => simp [intOf]; omega
    · have hr1 : r = l + 1 := by omega
      have HT : Hid (tooI x.d s c = l + 1) := Lib.hid (Least.eq HL.out (by
        rw [← hr1]
        exact least_of_pair HM.out hr1 (by omega) (by omega) HI.out.1 HI.out.2))
      by_cases hl : l < 0
      · have HV : Hid (workingFlowR0 x.d s c = 0 ∧ workingFlowR1 x.d s c = 0 ∧ workingFlowR2 x.d s c = 3) := Lib.hid (by
          rw [HV0.out.1, HV0.out.2.1, HV0.out.2.2, HT.out, if_pos (by omega), if_pos (by omega), if_pos (by omega)]; exact ⟨rfl, rfl, rfl⟩)
        clear hr1
        go_wp2
        go_ret3
        exact ⟨by rw [HV.out.1, HV.out.2.1, HV.out.2.2]; rfl, below_drewN hb _⟩
      · have HV : Hid (workingFlowR0 x.d s c = l ∧ workingFlowR1 x.d s c = headI (crv x.d.cv) l ∧ workingFlowR2 x.d s c = 0) := Lib.hid (by
          rw [HV0.out.1, HV0.out.2.1, HV0.out.2.2, HT.out, if_neg (by omega), if_neg (by omega), if_neg (by omega), Int.add_sub_cancel]; exact ⟨rfl, rfl, rfl⟩)
        have hl0 : 0 ≤ l := by omega
        have HHl := Lib.hid (fun k => HHQ.out k l)
        generalize headI (crv x.d.cv) l = hd at *
        clear hr1 hl
        go_wp2_with fail
        refine (HHl.out _).mono ?_
        rintro e w4 ⟨rfl, ⟨k4, rfl⟩⟩
        go_wp2
        go_ret3
        exact ⟨by rw [HV.out.1, HV.out.2.1, HV.out.2.2]; rfl, by first | exact below_drewN hb _ | exact below_drewN (below_drewN hb _) _⟩
theorem gap_any (bs bx : Nat) (b : Nat) (id : ByteArray) (B : Option Addr) (dd : Nat) (d : PmD) (s c q : Int) (w : World) (h1 : SysO w bs s c) (h2 : One w bx (.pointer (some ⟨b, 0, none⟩)))
    (hO : PmpO w b id B dd (crv d.cv)) (h : PtsOk w B (crv d.cv).length (crv d.cv)) (hv : okPu d = true) (hs : sysOk s c = true) (hq : inB q 0 100000 = true) :
    Calls Try.prog 64 #[.int .i64 q, .pointer (some ⟨bs, 0, none⟩), .pointer (some ⟨bx, 0, none⟩)] w fun e w' => e = .returned (.int .i64 (gapI d s c q)) ∧ Below w.heap.size w w' := by
  have HG : Hid (gapI d s c q = needI s c q - headI (crv d.cv) q) := Lib.hid rfl
  have hnb := need_bd hs hq
  have hhb := head_bd (okPu_parts hv).2.1 q
  have HN := Lib.hid (fun wx => sysHead_any s c q wx hs hq)
  have HH := Lib.hid (fun wx (hbx : Below w.heap.size w wx) => pmpHead_any b id B dd (crv d.cv) q wx (hO.next hbx) (h.go hbx) (okPu_parts hv).2.1)
  have HX := Lib.hid (And.intro h1 h2)
  generalize needI s c q = nd at *
  generalize headI (crv d.cv) q = hd at *
  have hb : Below w.heap.size w w.drew := below_drewN (Below.refl _ _) 1
  have hS := HX.out.1.next hb
  have hX := HX.out.2.next hb
  have ⟨p0, p1⟩ := hS
  have ⟨x1, f1⟩ := hX
  have hw : IntKind.i64.wrap (nd - hd) = nd - hd := IntWalk.i64_in _ (by omega)
  clear h1 h2 hO h hv hs hq
  go_enter Try.func64, Try.ntmps64
  go_wp2_with fail
  go_region_held3 (fun w' => w'.cell? ⟨bs, 0, none⟩ = some (.int .i64 s) ∧ w'.cell? ⟨bs, 1, none⟩ = some (.int .i64 c) ∧ w'.cell? ⟨bx, 0, none⟩ = some (.pointer (some ⟨b, 0, none⟩))) (exact ⟨p0, p1, x1⟩) (first | (go_at_call 62; refine (HN.out _).mono ?_; rintro e w' ⟨rfl, hb'⟩; have hb := bnext hb hb'; have hS := hS.next hb'; have hX := hX.next hb'; have ⟨p0, p1⟩ := hS; have ⟨x1, f1⟩ := hX) | (go_at_call 58; refine (HH.out _ hb).mono ?_; rintro e w' ⟨rfl, hb'⟩; have hb := bnext hb hb'; have hS := hS.next hb'; have hX := hX.next hb'; have ⟨p0, p1⟩ := hS; have ⟨x1, f1⟩ := hX))
  go_wp2
  go_ret
  exact ⟨by rw [HG.out]; rfl, hb⟩
theorem implWorkingFlow_ds (x : Pm) (s c : Int) (w : World) (h : x.okay w) :
    Calls Try.prog 25 #[.agg #[.string x.d.id, .slice x.cvA x.d.cv.length x.cvc], .int .i64 s, .int .i64 c] w fun e w' => e = .returned (.tuple #[.int .i64 (workingFlowR0 x.d s c), .int .i64 (workingFlowR1 x.d s c), .int .i64 (workingFlowR2 x.d s c)]) ∧ Below w.heap.size w w' := by
  have hb : Below w.heap.size w (w.alloc (.cells #[.string x.d.id, .slice x.cvA x.d.cv.length x.cvc] 27)) := bal (Below.refl _ _) _
  have hN := PmO.new w x 27
  have HC := Lib.hid (fun wx (hbx : Below w.heap.size w wx) => newPump_any x wx (h.go hbx))
  have HOP : Hid (okPu x.d = (nameL x.d.id.data.toList && okC (crv x.d.cv))) := Lib.hid (by unfold okPu; rw [okC_crv])
  have hcl : (crv x.d.cv).length ≤ 1048576 := Nat.le_trans (crv_length _) h.2.1
  have hsz := h.1.1
  have ⟨n0, n1⟩ := hN
  clear h
  go_enter Try.func25, Try.ntmps25
  go_wp2_with fail
  refine (HC.out _ hb).mono ?_
  rintro e w1 ⟨b, B, dd, rfl, hO, hown, -, -, hb1⟩
  have HPT := Lib.hid (RetPump.pts hown hcl)
  have hb := bnext hb hb1
  have hN := hN.next hb1
  clear n0 n1 hown
  have ⟨n0, n1⟩ := hN
  have hsz1 : (w1.alloc (.cells #[.pointer (some ⟨b, 0, none⟩)] 63)).heap.size = w1.heap.size + 1 := World.size_alloc _ _
  have hb12 : Below w1.heap.size w1 ((w1.alloc (.cells #[.pointer (some ⟨b, 0, none⟩)] 63)).alloc (.cells #[.int .i64 s, .int .i64 c] 76)) := bal (bal (Below.refl _ _) _) _
  have hX := (One.new w1 (.pointer (some ⟨b, 0, none⟩)) 63).next (bal (Below.refl _ _) (.cells #[.int .i64 s, .int .i64 c] 76))
  have hS := SysO.new (w1.alloc (.cells #[.pointer (some ⟨b, 0, none⟩)] 63)) s c 76
  rw [hsz1] at hS
  have hdr : Below ((w1.alloc (.cells #[.pointer (some ⟨b, 0, none⟩)] 63)).alloc (.cells #[.int .i64 s, .int .i64 c] 76)).heap.size ((w1.alloc (.cells #[.pointer (some ⟨b, 0, none⟩)] 63)).alloc (.cells #[.int .i64 s, .int .i64 c] 76)) ((w1.alloc (.cells #[.pointer (some ⟨b, 0, none⟩)] 63)).alloc (.cells #[.int .i64 s, .int .i64 c] 76)).drew := below_drewN (Below.refl _ _) 1
  have hbo := bnext hb12 hdr
  have hX := hX.next hdr
  have hS := hS.next hdr
  have ⟨x1, f1⟩ := hX
  have ⟨p0, p1⟩ := hS
  have HO := Lib.hid hO
  have HIV := Lib.hid (fun wx (hbx : Below w1.heap.size w1 wx) => isValidPump_any b x.d.id B dd (crv x.d.cv) wx (HO.out.next hbx) (HPT.out.go hbx) hsz)
  rw [← HOP.out] at HIV
  clear hO hb1 hb12 hdr hsz1
  go_wp2_with fail
  go_region_held3 (fun w' => w'.cell? ⟨w1.heap.size, 0, none⟩ = some (.pointer (some ⟨b, 0, none⟩)) ∧ w'.cell? ⟨w1.heap.size + 1, 0, none⟩ = some (.int .i64 s) ∧ w'.cell? ⟨w1.heap.size + 1, 1, none⟩ = some (.int .i64 c)) (exact ⟨x1, p0, p1⟩) (first | (go_at_call 49; refine (HIV.out _ hbo).mono ?_; rintro e w' ⟨rfl, hb'⟩; have hbo := bnext hbo hb'; have hX := hX.next hb'; have hS := hS.next hb'; have ⟨x1, f1⟩ := hX; have ⟨p0, p1⟩ := hS) | (go_at_call 61; refine (sysStated_any s c _).mono ?_; rintro e w' ⟨rfl, hb'⟩; have hbo := bnext hbo hb'; have hX := hX.next hb'; have hS := hS.next hb'; have ⟨x1, f1⟩ := hX; have ⟨p0, p1⟩ := hS) | (go_at_call 56; refine (argumentCode_any _ _ _).mono ?_; rintro e w'' ⟨rfl, rfl⟩))
  have hb := bnext hb hbo
  by_cases ho : okPu x.d = true
  rotate_left
  · have ho' : okPu x.d = false := by simpa only [Bool.not_eq_true] using ho
    have HV : Hid (workingFlowR0 x.d s c = 0 ∧ workingFlowR1 x.d s c = 0 ∧ workingFlowR2 x.d s c = 1) := Lib.hid ⟨by unfold workingFlowR0; rw [if_neg ho], by unfold workingFlowR1; rw [if_neg ho], by unfold workingFlowR2; rw [if_neg ho]⟩
    have hc : argC (okPu x.d) (sysOk s c) = 1 := by rw [ho']; rfl
    rw [hc]
    clear ho ho' hc
    go_wp2
    go_ret3
    exact ⟨by rw [HV.out.1, HV.out.2.1, HV.out.2.2]; rfl, hb⟩
  by_cases hs : sysOk s c = true
  rotate_left
  · have hs' : sysOk s c = false := by simpa only [Bool.not_eq_true] using hs
    have HV : Hid (workingFlowR0 x.d s c = 0 ∧ workingFlowR1 x.d s c = 0 ∧ workingFlowR2 x.d s c = 2) := Lib.hid ⟨by unfold workingFlowR0; rw [if_pos ho, if_neg hs], by unfold workingFlowR1; rw [if_pos ho, if_neg hs], by unfold workingFlowR2; rw [if_pos ho, if_neg hs]⟩
    have hc : argC (okPu x.d) (sysOk s c) = 2 := by rw [ho, hs']; rfl
    rw [hc]
    clear ho hs hs' hc
    go_wp2
    go_ret3
    exact ⟨by rw [HV.out.1, HV.out.2.1, HV.out.2.2]; rfl, hb⟩
  have hc : argC (okPu x.d) (sysOk s c) = 0 := by rw [ho, hs]; rfl
  rw [hc]
  have eg : ∀ args w, (callFunc 64 args).run Try.prog w = .ok (.enter 64 args) w := enters_of Try.func64 (by kernel_rfl) rfl
  have HFF := Lib.hid (firstFrom_any 64 #[] #[.pointer (some ⟨w1.heap.size + 1, 0, none⟩), .pointer (some ⟨w1.heap.size, 0, none⟩)] 0 100000 1 (gapI x.d s c) w' eg (by omega) (by omega) (by omega)
    (fun wr q h0 h1 hbr => gap_any (w1.heap.size + 1) w1.heap.size b x.d.id B dd x.d s c q wr (hS.next hbr) (hX.next hbr) (HO.out.next (bnext hbo hbr)) (HPT.out.go (bnext hbo hbr)) ho hs (inB_iff.2 ⟨h0, h1⟩)) (gap_mono ho hs))
  have hL := tooI_least ho hs
  have HV0 : Hid (workingFlowR0 x.d s c = (if tooI x.d s c = 0 then 0 else tooI x.d s c - 1) ∧ workingFlowR1 x.d s c = (if tooI x.d s c = 0 then 0 else headI (crv x.d.cv) (tooI x.d s c - 1)) ∧ workingFlowR2 x.d s c = (if tooI x.d s c = 0 then 3 else 0)) := Lib.hid ⟨by unfold workingFlowR0; rw [if_pos ho, if_pos hs], by unfold workingFlowR1; rw [if_pos ho, if_pos hs], by unfold workingFlowR2; rw [if_pos ho, if_pos hs]⟩
  have HHD := Lib.hid (fun q wx (hbx : Below w1.heap.size w1 wx) => pmpHead_any b x.d.id B dd (crv x.d.cv) q wx (HO.out.next hbx) (HPT.out.go hbx) (okPu_parts ho).2.1)
  have ht0 := hL.1
  have ht1 := hL.2.1
  have HTI : Hid (tooI x.d s c = leastI 0 100000 1 (gapI x.d s c)) := Lib.hid rfl
  rw [← HTI.out] at HFF
  generalize tooI x.d s c = T at *
  clear hc ho hs hL eg HTI
  go_wp2_with fail
  refine HFF.out.mono ?_
  rintro e w3 ⟨rfl, hb3⟩
  have hb := bnext hb hb3
  have hbo3 := bnext hbo hb3
  have hX3 := hX.next hb3
  clear x1 f1 p0 p1
  have ⟨x1, f1⟩ := hX3
  by_cases hT : T = 0
  · have HV : Hid (workingFlowR0 x.d s c = 0 ∧ workingFlowR1 x.d s c = 0 ∧ workingFlowR2 x.d s c = 3) := Lib.hid (by
      rw [HV0.out.1, HV0.out.2.1, HV0.out.2.2, if_pos hT, if_pos hT, if_pos hT]; exact ⟨rfl, rfl, rfl⟩)
    subst hT
    go_wp2
    go_ret3
    exact ⟨by rw [HV.out.1, HV.out.2.1, HV.out.2.2]; rfl, hb⟩
  · have HV : Hid (workingFlowR0 x.d s c = T - 1 ∧ workingFlowR1 x.d s c = headI (crv x.d.cv) (T - 1) ∧ workingFlowR2 x.d s c = 0) := Lib.hid (by
      rw [HV0.out.1, HV0.out.2.1, HV0.out.2.2, if_neg hT, if_neg hT, if_neg hT]; exact ⟨rfl, rfl, rfl⟩)
    have hT1 : (T == 0) = false := by rw [beq_eq_false_iff_ne]; exact hT
    have hT2 : 1 ≤ T := by omega
    clear hT
    have HHT := Lib.hid (fun wx hbx => HHD.out (T - 1) wx hbx)
    generalize headI (crv x.d.cv) (T - 1) = hd at *
    go_wp2_with fail
    refine (HHT.out _ hbo3).mono ?_
    rintro e w4 ⟨rfl, hb4⟩
    go_wp2
    go_ret3
    exact ⟨by rw [HV.out.1, HV.out.2.1, HV.out.2.2]; rfl, bnext hb hb4⟩
end Go.Proofs.Ytkbkmpcdidhagab
