/-
  OutdoorFor of both sides.
-/
import Derived.Test.YtnepehdfkaegbaaLd4
import Derived.IntWalk
import Derived.Laws.EntriesVeiled
namespace Go.Proofs.Ytnepehdfkaegbaa
open Go.ChangeShapes Go.WideShapes Go.ChangeAt Go.RowKit

set_option maxRecDepth 100000
set_option linter.unusedVariables false

theorem lt1_any (A : Option Addr) (n c : Nat) (xs : List Bd) (t h : Int) (bl : Nat) (w : World) (hx : BdsOk w A n xs) (hok : (xs.map Bd.d).all Bl.ok = true) (hl : n ≤ 12) (ht0 : -4000 ≤ t) (ht1 : t ≤ 4500) (hh0 : 0 ≤ h) (hh1 : h < 24) (cl : w.cell? ⟨bl, 0, none⟩ = some (.slice A n c)) :
    Calls Try.prog 101 #[.int .i64 t, .int .i64 h, .pointer (some ⟨bl, 0, none⟩)] w fun e w' => e = .returned (.int .i64 (sumI (xs.map Bd.d) t h)) ∧ Below w.heap.size w w' := by
  have hb : Below w.heap.size w ((w.alloc (.cells #[.int .i64 t] 2)).alloc (.cells #[.int .i64 h] 2)) := bal (bal (Below.refl _ _) _) _
  have lb := World.block_lt_of_cell? _ _ cl
  have cl2 := (hb.cell (p := ⟨bl, 0, none⟩) lb).trans cl
  have HT := Lib.hid (fun ct ch => total_any A n c xs t h w.heap.size (w.heap.size + 1) _ (hx.go hb) hok hl ht0 ht1 hh0 hh1 ct ch)
  have hd : Below ((w.alloc (.cells #[.int .i64 t] 2)).alloc (.cells #[.int .i64 h] 2)).heap.size ((w.alloc (.cells #[.int .i64 t] 2)).alloc (.cells #[.int .i64 h] 2)) ((w.alloc (.cells #[.int .i64 t] 2)).alloc (.cells #[.int .i64 h] 2)).drew := below_drewN (Below.refl _ _) 1
  clear hx hok
  go_enter Try.func101, Try.ntmps101
  go_wp2_with fail
  refine (HT.out (by simp) (by simp)).mono ?_
  rintro e w1 ⟨rfl, hb1⟩
  go_wp2
  go_ret
  exact ⟨rfl, bnext hb hb1⟩
/-- the closure that adds loads: it holds the place of the list -/
theorem loadsTogether_any (A : Option Addr) (n c : Nat) (w : World) :
    Calls Try.prog 63 #[.slice A n c] w fun e w' => e = .returned (.func (.func 101) #[] #[.pointer (some ⟨w.heap.size, 0, none⟩)]) ∧ w'.cell? ⟨w.heap.size, 0, none⟩ = some (.slice A n c) ∧ Below w.heap.size w w' := by
  go_enter Try.func63, Try.ntmps63
  go_wp2
  go_ret
  exact ⟨rfl, by simp, bal (Below.refl _ _) _⟩
theorem of1_any (A : Option Addr) (n c : Nat) (xs : List Bd) (x h : Int) (bl ba bh : Nat) (w : World) (hx : BdsOk w A n xs) (hok : (xs.map Bd.d).all Bl.ok = true) (hl : n ≤ 12) (ht0 : -4500 ≤ x) (ht1 : x ≤ 4000) (hh0 : 0 ≤ h) (hh1 : h < 24)
    (cl : w.cell? ⟨bl, 0, none⟩ = some (.slice A n c)) (ca : w.cell? ⟨ba, 0, none⟩ = some (.func (.func 101) #[] #[.pointer (some ⟨bl, 0, none⟩)])) (ch : w.cell? ⟨bh, 0, none⟩ = some (.int .i64 h)) :
    Calls Try.prog 65 #[.int .i64 x, .pointer (some ⟨ba, 0, none⟩), .pointer (some ⟨bh, 0, none⟩)] w fun e w' => e = .returned (.int .i64 (sumI (xs.map Bd.d) (-x) h)) ∧ Below w.heap.size w w' := by
  have HT := Lib.hid (fun k => lt1_any A n c xs (-x) h bl (w.drewN k) (hx.go (below_drewN (Below.refl _ _) k)) hok hl (by omega) (by omega) hh0 hh1 cl)
  clear hx hok
  go_enter Try.func65, Try.ntmps65
  go_wp2_with fail
  refine (HT.out 0).mono ?_
  rintro e w1 ⟨rfl, hb1⟩
  go_wp2
  go_ret
  exact ⟨rfl, hb1⟩
theorem cell_alloc {w : World} {a : Addr} {v : Value} (h : w.cell? a = some v) (O : Obj) : (w.alloc O).cell? a = some v :=
  ((bal (Below.refl w.heap.size w) O).cell (World.block_lt_of_cell? _ _ h)).trans h
theorem load_anti {d : Bl} (hd : d.ok = true) (s t h : Int) (hst : s ≤ t) : loadI d t h ≤ loadI d s h := by
  obtain ⟨-, -, -, h3, -, -, -⟩ := Bl.ok_parts hd
  have h3 := inB_iff.1 h3
  unfold loadI
  have hm : max 0 (d.li - t) ≤ max 0 (d.li - s) := by omega
  have := nearI_mono (d.sl * max 0 (d.li - t)) (d.sl * max 0 (d.li - s)) 100 (by omega) (Int.mul_le_mul_of_nonneg_left hm h3.1)
  omega
theorem sum_anti (s t h : Int) (hst : s ≤ t) : ∀ (ds : List Bl), ds.all Bl.ok = true → sumI ds t h ≤ sumI ds s h
  | [], _ => by simp [sumI]
  | d :: r, hk => by
    have h1 : d.ok = true ∧ r.all Bl.ok = true := by simpa using hk
    have h2 := load_anti h1.1 s t h hst
    have h3 := sum_anti s t h hst r h1.2
    have e : ∀ u, sumI (d :: r) u h = loadI d u h + sumI r u h := fun u => by simp [sumI]
    rw [e, e]
    omega
/-- the least cold at which there is a load -/
def coldI (ds : List Bl) (l h : Int) : Int := leastI (-4500) 4000 l (fun x => sumI ds (-x) h)
theorem cold_least {ds : List Bl} (hk : ds.all Bl.ok = true) (l h : Int) : Least (-4500) 4000 l (fun x => sumI ds (-x) h) (coldI ds l h) :=
  leastI_spec _ _ _ _ (by omega) (fun x y _ hxy _ => sum_anti (-y) (-x) h (by omega) ds hk)
def outB (ds : List Bl) (l h : Int) : Bool := inB l 0 100000000 && inB h 0 23
def outdoorForR0 (ds : List Bl) (l h : Int) : Int := if okBs ds && outB ds l h && decide (coldI ds l h ≤ 4000) then -coldI ds l h else 0
def outdoorForR1 (ds : List Bl) (l h : Int) : Int := if okBs ds then (if outB ds l h then (if coldI ds l h ≤ 4000 then 0 else 3) else 2) else 1

theorem specOutdoorFor_ds (A : Option Addr) (n c : Nat) (xs : List Bd) (l h : Int) (w : World) (hx : BdsOk w A n xs) :
    Calls Try.prog 49 #[.slice A n c, .int .i64 l, .int .i64 h] w fun e w' => e = .returned (.tuple #[.int .i64 (outdoorForR0 (xs.map Bd.d) l h), .int .i64 (outdoorForR1 (xs.map Bd.d) l h)]) ∧ Below w.heap.size w w' := by
  have hlen := hx.1.1
  have HO := Lib.hid (fun k => l05Ok_any A n c xs (w.drewN k) (hx.go (below_drewN (Below.refl _ _) k)))
  have HSM := Lib.hid (fun (k : Nat) (t : Int) hok hl ht0 ht1 hh0 hh1 => l05Sum_any A n c xs t h (w.drewN k) (hx.go (below_drewN (Below.refl _ _) k)) hok hl ht0 ht1 hh0 hh1)
  clear hx
  by_cases ho : okBs (xs.map Bd.d) = true
  rotate_left
  · have ho : okBs (xs.map Bd.d) = false := by simpa only [Bool.not_eq_true] using ho
    have hv : outdoorForR0 (xs.map Bd.d) l h = 0 := by unfold outdoorForR0 outB; simp [*]
    have hc : outdoorForR1 (xs.map Bd.d) l h = 1 := by unfold outdoorForR1 outB; simp [*]
    rw [hv, hc]
    clear hv hc
    go_enter Try.func49, Try.ntmps49
    go_wp2_with fail
    refine (HO.out 0).mono ?_
    rintro e w1 ⟨rfl, ⟨n1, rfl⟩⟩
    rw [ho]
    go_wp2
    go_ret2
    exact ⟨rfl, below_drewN (Below.refl _ _) _⟩
  by_cases k1 : inB l 0 100000000 = true
  rotate_left
  · have k1 : inB l 0 100000000 = false := by simpa only [Bool.not_eq_true] using k1
    have hv : outdoorForR0 (xs.map Bd.d) l h = 0 := by unfold outdoorForR0 outB; simp [*]
    have hc : outdoorForR1 (xs.map Bd.d) l h = 2 := by unfold outdoorForR1 outB; simp [*]
    rw [hv, hc]
    clear hv hc
    go_enter Try.func49, Try.ntmps49
    go_wp2_with fail
    refine (HO.out 0).mono ?_
    rintro e w1 ⟨rfl, ⟨n1, rfl⟩⟩
    rw [ho]
    go_wp2_with (first | (go_at_call 83; refine (in_any _ _ _ _).mono ?_; rintro e w' ⟨rfl, rfl⟩) | (go_at_call 69; refine (l05Hour_any _ _).mono ?_; rintro e w' ⟨rfl, rfl⟩))
    go_ret2
    exact ⟨rfl, below_drewN (Below.refl _ _) _⟩
  by_cases k2 : inB h 0 23 = true
  rotate_left
  · have k2 : inB h 0 23 = false := by simpa only [Bool.not_eq_true] using k2
    have hv : outdoorForR0 (xs.map Bd.d) l h = 0 := by unfold outdoorForR0 outB; simp [*]
    have hc : outdoorForR1 (xs.map Bd.d) l h = 2 := by unfold outdoorForR1 outB; simp [*]
    rw [hv, hc]
    clear hv hc
    go_enter Try.func49, Try.ntmps49
    go_wp2_with fail
    refine (HO.out 0).mono ?_
    rintro e w1 ⟨rfl, ⟨n1, rfl⟩⟩
    rw [ho]
    go_wp2_with (first | (go_at_call 83; refine (in_any _ _ _ _).mono ?_; rintro e w' ⟨rfl, rfl⟩) | (go_at_call 69; refine (l05Hour_any _ _).mono ?_; rintro e w' ⟨rfl, rfl⟩))
    go_ret2
    exact ⟨rfl, below_drewN (Below.refl _ _) _⟩
  obtain ⟨b1, b2, -⟩ := okBs_parts ho
  rw [List.length_map, hlen] at b1
  have q1 := inB_iff.1 k1
  have q2 := inB_iff.1 k2
  have hL := cold_least b2 l h
  have HL := Lib.hid hL
  have HM := Lib.hid (fun x y (hxy : x ≤ y) => sum_anti x y h hxy (xs.map Bd.d) b2)
  have HS := Lib.hid (fun (k : Nat) (t : Int) ht0 ht1 => HSM.out k t b2 b1 ht0 ht1 q2.1 (by omega))
  have HF := Lib.hid (show (outdoorForR0 (xs.map Bd.d) l h = if coldI (xs.map Bd.d) l h ≤ 4000 then -coldI (xs.map Bd.d) l h else 0) ∧ (outdoorForR1 (xs.map Bd.d) l h = if coldI (xs.map Bd.d) l h ≤ 4000 then 0 else 3) from ⟨by unfold outdoorForR0 outB; simp [*], by unfold outdoorForR1 outB; simp [*]⟩)
  clear hL HSM b2
  by_cases hs : sumI (xs.map Bd.d) (-4000) h < l
  · have hc : ¬ coldI (xs.map Bd.d) l h ≤ 4000 := fun hle => by
      have h3 := HL.out.2.2.2 hle
      have h4 := HM.out (-4000) (-coldI (xs.map Bd.d) l h) (by omega)
      simp only at h3
      omega
    rw [HF.out.1, HF.out.2, if_neg hc, if_neg hc]
    clear hc
    go_enter Try.func49, Try.ntmps49
    go_wp2_with fail
    refine (HO.out 0).mono ?_
    rintro e w1 ⟨rfl, ⟨n1, rfl⟩⟩
    rw [ho]
    go_wp2_with (first | (go_at_call 83; refine (in_any _ _ _ _).mono ?_; rintro e w' ⟨rfl, rfl⟩) | (go_at_call 69; refine (l05Hour_any _ _).mono ?_; rintro e w' ⟨rfl, rfl⟩) | (go_at_call 90; refine (HS.out _ _ (by omega) (by omega)).mono ?_; rintro e w' ⟨rfl, ⟨n2, rfl⟩⟩))
    go_ret2
    exact ⟨rfl, below_drewN (Below.refl _ _) _⟩
  · have hs' : l ≤ sumI (xs.map Bd.d) (-4000) h := by omega
    have HS4 := Lib.hid hs'
    go_enter Try.func49, Try.ntmps49
    go_wp2_with fail
    refine (HO.out 0).mono ?_
    rintro e w1 ⟨rfl, ⟨n1, rfl⟩⟩
    rw [ho]
    go_wp2_with (first | (go_at_call 83; refine (in_any _ _ _ _).mono ?_; rintro e w' ⟨rfl, rfl⟩) | (go_at_call 69; refine (l05Hour_any _ _).mono ?_; rintro e w' ⟨rfl, rfl⟩) | (go_at_call 90; refine (HS.out _ _ (by omega) (by omega)).mono ?_; rintro e w' ⟨rfl, ⟨n2, rfl⟩⟩))
    clear hs hs'
    go_loopw [8, 9] (fun va vb wr => ∃ a b : Int, va = .int .i64 a ∧ vb = .int .i64 b ∧ -4000 ≤ a ∧ a ≤ b ∧ b ≤ 4500 ∧ Drawn w wr ∧ Hid (l ≤ sumI (xs.map Bd.d) a h ∧ (b < 4500 → sumI (xs.map Bd.d) (b + 1) h < l))) (fun va vb _ => (intOf vb - intOf va).toNat)
    case atStart => exact ⟨_, _, rfl, rfl, by omega, by omega, by omega, ⟨_, rfl⟩, Lib.hid ⟨HS4.out, fun h => by omega⟩⟩
    case round =>
      obtain ⟨a, b, rfl, rfl, h0, h1, h2, ⟨nr, rfl⟩, I⟩ := hrel
      by_cases hlt : a < b
      · have m0 : a < a + (b - a + 1) / 2 := by omega
        have m1 : a + (b - a + 1) / 2 ≤ b := by omega
        have m2 : 0 ≤ b - a + 1 := by omega
        have HSM := Lib.hid (fun k => HS.out k (a + (b - a + 1) / 2) (by omega) (by omega))
        by_cases hg : l ≤ sumI (xs.map Bd.d) (a + (b - a + 1) / 2) h
        · have HG := Lib.hid hg
          generalize sumI (xs.map Bd.d) (a + (b - a + 1) / 2) h = z at HSM hg
          go_wp2_with ((go_at_call 90; refine (HSM.out _).mono ?_; rintro e w' ⟨rfl, ⟨n2, rfl⟩⟩))
          go_roundw
          case rel => exact ⟨a + (b - a + 1) / 2, b, rfl, rfl, by omega, by omega, by omega, ⟨_, rfl⟩, Lib.hid ⟨HG.out, I.out.2⟩⟩
          case measure => simp [intOf]; omega
        · have HG := Lib.hid hg
          generalize sumI (xs.map Bd.d) (a + (b - a + 1) / 2) h = z at HSM hg
          have hg' : z < l := by omega
          go_wp2_with ((go_at_call 90; refine (HSM.out _).mono ?_; rintro e w' ⟨rfl, ⟨n2, rfl⟩⟩))
          go_roundw
          case rel => exact ⟨a, a + (b - a + 1) / 2 - 1, rfl, rfl, by omega, by omega, by omega, ⟨_, rfl⟩, Lib.hid ⟨I.out.1, fun _ => by rw [show a + (b - a + 1) / 2 - 1 + 1 = a + (b - a + 1) / 2 by omega]; have := HG.out; omega⟩⟩
          case measure => simp [intOf]; omega
      · have hab : a = b := by omega
        subst hab
        have hL2 : Least (-4500) 4000 l (fun x => sumI (xs.map Bd.d) (-x) h) (-a) := least_of_pair (l := -a - 1) (fun x y _ hxy _ => HM.out (-y) (-x) (by omega)) (by omega) (by omega) (by omega) (fun hh => by
          show sumI (xs.map Bd.d) (-(-a - 1)) h < l
          rw [show -(-a - 1) = a + 1 by omega]
          exact I.out.2 (by omega)) (fun _ => by
          show l ≤ sumI (xs.map Bd.d) (-(-a)) h
          rw [Int.neg_neg]
          exact I.out.1)
        have hc := HL.out.eq hL2
        have HV := Lib.hid (show outdoorForR0 (xs.map Bd.d) l h = a ∧ outdoorForR1 (xs.map Bd.d) l h = 0 from by rw [HF.out.1, HF.out.2, hc, if_pos (by omega), if_pos (by omega)]; omega)
        clear hL2 hc
        go_wp2
        go_ret2
        exact ⟨by rw [HV.out.1, HV.out.2]; rfl, below_drewN (Below.refl _ _) _⟩

theorem implOutdoorFor_ds (A : Option Addr) (n c : Nat) (xs : List Bd) (l h : Int) (w : World) (hx : BdsOk w A n xs) :
    Calls Try.prog 24 #[.slice A n c, .int .i64 l, .int .i64 h] w fun e w' => e = .returned (.tuple #[.int .i64 (outdoorForR0 (xs.map Bd.d) l h), .int .i64 (outdoorForR1 (xs.map Bd.d) l h)]) ∧ Below w.heap.size w w' := by
  have hlen := hx.1.1
  have hb : Below w.heap.size w (w.alloc (.cells #[.int .i64 h] 2)) := bal (Below.refl _ _) _
  have hN : (w.alloc (.cells #[.int .i64 h] 2)).cell? ⟨w.heap.size, 0, none⟩ = some (.int .i64 h) := by simp
  have HV := Lib.hid (fun wx (hb : Below w.heap.size w wx) => implVB_any A n c xs wx (hx.go hb))
  have HX := Lib.hid hx
  clear hx
  by_cases ho : okBs (xs.map Bd.d) = true
  · skip
    by_cases k1 : inB l 0 100000000 = true
    · skip
      by_cases k2 : inB h 0 23 = true
      · skip
        obtain ⟨b1, b2, -⟩ := okBs_parts ho
        rw [List.length_map, hlen] at b1
        have q1 := inB_iff.1 k1
        have q2 := inB_iff.1 k2
        have hL := (cold_least b2 l h).1
        have hH := (cold_least b2 l h).2.1
        have HFF := Lib.hid (fun (wx : World) (bl ba bh : Nat) (hbx : Below w.heap.size w wx) (cl : wx.cell? ⟨bl, 0, none⟩ = some (.slice A n c)) (ca : wx.cell? ⟨ba, 0, none⟩ = some (.func (.func 101) #[] #[.pointer (some ⟨bl, 0, none⟩)])) (ch : wx.cell? ⟨bh, 0, none⟩ = some (.int .i64 h)) =>
          (show Calls Try.prog 64 #[.int .i64 (-4500), .int .i64 4000, .int .i64 l, .func (.func 65) #[] #[.pointer (some ⟨ba, 0, none⟩), .pointer (some ⟨bh, 0, none⟩)]] wx fun e w' => e = .returned (.int .i64 (coldI (xs.map Bd.d) l h)) ∧ Below wx.heap.size wx w' from
          firstFrom_any 65 #[] #[.pointer (some ⟨ba, 0, none⟩), .pointer (some ⟨bh, 0, none⟩)] (-4500) 4000 l (fun x => sumI (xs.map Bd.d) (-x) h) wx (enters_of Try.func65 (by kernel_rfl) rfl) (by omega) (by omega) (by omega)
            (fun wr x h0 h1 hbr => by simpa using of1_any A n c xs x h bl ba bh wr (HX.out.go (bnext hbx hbr)) b2 b1 h0 h1 q2.1 (by omega) ((hbr.cell (World.block_lt_of_cell? _ _ cl)).trans cl) ((hbr.cell (World.block_lt_of_cell? _ _ ca)).trans ca) ((hbr.cell (World.block_lt_of_cell? _ _ ch)).trans ch))
            (fun x y _ hxy _ => sum_anti (-y) (-x) h (by omega) _ b2)))
        have HF := Lib.hid (show (outdoorForR0 (xs.map Bd.d) l h = if coldI (xs.map Bd.d) l h ≤ 4000 then -coldI (xs.map Bd.d) l h else 0) ∧ (outdoorForR1 (xs.map Bd.d) l h = if coldI (xs.map Bd.d) l h ≤ 4000 then 0 else 3) from ⟨by unfold outdoorForR0 outB; simp [*], by unfold outdoorForR1 outB; simp [*]⟩)
        clear b2
        generalize coldI (xs.map Bd.d) l h = cc at *
        have n0 : -cc ≤ 4500 := by omega
        have n1 : -4001 ≤ -cc := by omega
        go_enter Try.func24, Try.ntmps24
        go_wp2_with (first | (go_at_call 29; refine (HV.out _ hb).mono ?_; rintro e w' ⟨rfl, hb'⟩; have hN := (hb'.cell (World.block_lt_of_cell? _ _ hN)).trans hN; have hb := bnext hb hb'; rw [ho]) | (go_at_call 56; refine (isLoad_any _ _).mono ?_; rintro e w' ⟨rfl, hb'⟩; have hN := (hb'.cell (World.block_lt_of_cell? _ _ hN)).trans hN; have hb := bnext hb hb'; rw [k1]) | (go_at_call 62; refine (isHour_any _ _).mono ?_; rintro e w' ⟨rfl, hb'⟩; have hN := (hb'.cell (World.block_lt_of_cell? _ _ hN)).trans hN; have hb := bnext hb hb'; rw [k2]) | (go_at_call 61; refine (argumentCode_any _ _ _).mono ?_; rintro e w' ⟨rfl, rfl⟩))
        refine (loadsTogether_any A n c _).mono ?_
        rintro e w2 ⟨rfl, cl, hb'⟩
        have hN := (hb'.cell (World.block_lt_of_cell? _ _ hN)).trans hN
        have hb := bnext hb hb'
        clear hb'
        go_wp2_with fail
        refine (HFF.out _ _ _ _ (bal hb _) (cell_alloc cl _) ?ca (cell_alloc hN _)).mono ?_
        case ca => simp
        rintro e w3 ⟨rfl, hb'⟩
        have hb := bnext (bal hb _) hb'
        clear hb'
        by_cases hc : cc ≤ 4000
        · have HR := Lib.hid (And.intro (HF.out.1.trans (if_pos hc)) (HF.out.2.trans (if_pos hc)))
          have hB : inB (-cc) (-4000) 4500 = true := inB_true ⟨by omega, by omega⟩
          go_wp2_with ((go_at_call 66; refine (isOutdoor_any _ _).mono ?_; rintro e w' ⟨rfl, hb'⟩; have hb := bnext hb hb'))
          go_ret2
          exact ⟨by rw [HR.out.1, HR.out.2]; rfl, hb⟩
        · have HR := Lib.hid (And.intro (HF.out.1.trans (if_neg hc)) (HF.out.2.trans (if_neg hc)))
          have hB : inB (-cc) (-4000) 4500 = false := inB_false (by omega)
          go_wp2_with ((go_at_call 66; refine (isOutdoor_any _ _).mono ?_; rintro e w' ⟨rfl, hb'⟩; have hb := bnext hb hb'))
          go_ret2
          exact ⟨by rw [HR.out.1, HR.out.2]; rfl, hb⟩
      · have k2 : inB h 0 23 = false := by simpa only [Bool.not_eq_true] using k2
        have hv : outdoorForR0 (xs.map Bd.d) l h = 0 := by unfold outdoorForR0 outB; simp [*]
        have hc : outdoorForR1 (xs.map Bd.d) l h = 2 := by unfold outdoorForR1 outB; simp [*]
        rw [hv, hc]
        clear hv hc
        go_enter Try.func24, Try.ntmps24
        go_wp2_with (first | (go_at_call 29; refine (HV.out _ hb).mono ?_; rintro e w' ⟨rfl, hb'⟩; have hN := (hb'.cell (World.block_lt_of_cell? _ _ hN)).trans hN; have hb := bnext hb hb'; rw [ho]) | (go_at_call 56; refine (isLoad_any _ _).mono ?_; rintro e w' ⟨rfl, hb'⟩; have hN := (hb'.cell (World.block_lt_of_cell? _ _ hN)).trans hN; have hb := bnext hb hb'; rw [k1]) | (go_at_call 62; refine (isHour_any _ _).mono ?_; rintro e w' ⟨rfl, hb'⟩; have hN := (hb'.cell (World.block_lt_of_cell? _ _ hN)).trans hN; have hb := bnext hb hb'; rw [k2]) | (go_at_call 61; refine (argumentCode_any _ _ _).mono ?_; rintro e w' ⟨rfl, rfl⟩))
        go_ret2
        exact ⟨rfl, hb⟩
    · have k1 : inB l 0 100000000 = false := by simpa only [Bool.not_eq_true] using k1
      by_cases k2 : inB h 0 23 = true
      · skip
        have hv : outdoorForR0 (xs.map Bd.d) l h = 0 := by unfold outdoorForR0 outB; simp [*]
        have hc : outdoorForR1 (xs.map Bd.d) l h = 2 := by unfold outdoorForR1 outB; simp [*]
        rw [hv, hc]
        clear hv hc
        go_enter Try.func24, Try.ntmps24
        go_wp2_with (first | (go_at_call 29; refine (HV.out _ hb).mono ?_; rintro e w' ⟨rfl, hb'⟩; have hN := (hb'.cell (World.block_lt_of_cell? _ _ hN)).trans hN; have hb := bnext hb hb'; rw [ho]) | (go_at_call 56; refine (isLoad_any _ _).mono ?_; rintro e w' ⟨rfl, hb'⟩; have hN := (hb'.cell (World.block_lt_of_cell? _ _ hN)).trans hN; have hb := bnext hb hb'; rw [k1]) | (go_at_call 62; refine (isHour_any _ _).mono ?_; rintro e w' ⟨rfl, hb'⟩; have hN := (hb'.cell (World.block_lt_of_cell? _ _ hN)).trans hN; have hb := bnext hb hb'; rw [k2]) | (go_at_call 61; refine (argumentCode_any _ _ _).mono ?_; rintro e w' ⟨rfl, rfl⟩))
        go_ret2
        exact ⟨rfl, hb⟩
      · have k2 : inB h 0 23 = false := by simpa only [Bool.not_eq_true] using k2
        have hv : outdoorForR0 (xs.map Bd.d) l h = 0 := by unfold outdoorForR0 outB; simp [*]
        have hc : outdoorForR1 (xs.map Bd.d) l h = 2 := by unfold outdoorForR1 outB; simp [*]
        rw [hv, hc]
        clear hv hc
        go_enter Try.func24, Try.ntmps24
        go_wp2_with (first | (go_at_call 29; refine (HV.out _ hb).mono ?_; rintro e w' ⟨rfl, hb'⟩; have hN := (hb'.cell (World.block_lt_of_cell? _ _ hN)).trans hN; have hb := bnext hb hb'; rw [ho]) | (go_at_call 56; refine (isLoad_any _ _).mono ?_; rintro e w' ⟨rfl, hb'⟩; have hN := (hb'.cell (World.block_lt_of_cell? _ _ hN)).trans hN; have hb := bnext hb hb'; rw [k1]) | (go_at_call 62; refine (isHour_any _ _).mono ?_; rintro e w' ⟨rfl, hb'⟩; have hN := (hb'.cell (World.block_lt_of_cell? _ _ hN)).trans hN; have hb := bnext hb hb'; rw [k2]) | (go_at_call 61; refine (argumentCode_any _ _ _).mono ?_; rintro e w' ⟨rfl, rfl⟩))
        go_ret2
        exact ⟨rfl, hb⟩
  · have ho : okBs (xs.map Bd.d) = false := by simpa only [Bool.not_eq_true] using ho
    by_cases k1 : inB l 0 100000000 = true
    · skip
      by_cases k2 : inB h 0 23 = true
      · skip
        have hv : outdoorForR0 (xs.map Bd.d) l h = 0 := by unfold outdoorForR0 outB; simp [*]
        have hc : outdoorForR1 (xs.map Bd.d) l h = 1 := by unfold outdoorForR1 outB; simp [*]
        rw [hv, hc]
        clear hv hc
        go_enter Try.func24, Try.ntmps24
        go_wp2_with (first | (go_at_call 29; refine (HV.out _ hb).mono ?_; rintro e w' ⟨rfl, hb'⟩; have hN := (hb'.cell (World.block_lt_of_cell? _ _ hN)).trans hN; have hb := bnext hb hb'; rw [ho]) | (go_at_call 56; refine (isLoad_any _ _).mono ?_; rintro e w' ⟨rfl, hb'⟩; have hN := (hb'.cell (World.block_lt_of_cell? _ _ hN)).trans hN; have hb := bnext hb hb'; rw [k1]) | (go_at_call 62; refine (isHour_any _ _).mono ?_; rintro e w' ⟨rfl, hb'⟩; have hN := (hb'.cell (World.block_lt_of_cell? _ _ hN)).trans hN; have hb := bnext hb hb'; rw [k2]) | (go_at_call 61; refine (argumentCode_any _ _ _).mono ?_; rintro e w' ⟨rfl, rfl⟩))
        go_ret2
        exact ⟨rfl, hb⟩
      · have k2 : inB h 0 23 = false := by simpa only [Bool.not_eq_true] using k2
        have hv : outdoorForR0 (xs.map Bd.d) l h = 0 := by unfold outdoorForR0 outB; simp [*]
        have hc : outdoorForR1 (xs.map Bd.d) l h = 1 := by unfold outdoorForR1 outB; simp [*]
        rw [hv, hc]
        clear hv hc
        go_enter Try.func24, Try.ntmps24
        go_wp2_with (first | (go_at_call 29; refine (HV.out _ hb).mono ?_; rintro e w' ⟨rfl, hb'⟩; have hN := (hb'.cell (World.block_lt_of_cell? _ _ hN)).trans hN; have hb := bnext hb hb'; rw [ho]) | (go_at_call 56; refine (isLoad_any _ _).mono ?_; rintro e w' ⟨rfl, hb'⟩; have hN := (hb'.cell (World.block_lt_of_cell? _ _ hN)).trans hN; have hb := bnext hb hb'; rw [k1]) | (go_at_call 62; refine (isHour_any _ _).mono ?_; rintro e w' ⟨rfl, hb'⟩; have hN := (hb'.cell (World.block_lt_of_cell? _ _ hN)).trans hN; have hb := bnext hb hb'; rw [k2]) | (go_at_call 61; refine (argumentCode_any _ _ _).mono ?_; rintro e w' ⟨rfl, rfl⟩))
        go_ret2
        exact ⟨rfl, hb⟩
    · have k1 : inB l 0 100000000 = false := by simpa only [Bool.not_eq_true] using k1
      by_cases k2 : inB h 0 23 = true
      · skip
        have hv : outdoorForR0 (xs.map Bd.d) l h = 0 := by unfold outdoorForR0 outB; simp [*]
        have hc : outdoorForR1 (xs.map Bd.d) l h = 1 := by unfold outdoorForR1 outB; simp [*]
        rw [hv, hc]
        clear hv hc
        go_enter Try.func24, Try.ntmps24
        go_wp2_with (first | (go_at_call 29; refine (HV.out _ hb).mono ?_; rintro e w' ⟨rfl, hb'⟩; have hN := (hb'.cell (World.block_lt_of_cell? _ _ hN)).trans hN; have hb := bnext hb hb'; rw [ho]) | (go_at_call 56; refine (isLoad_any _ _).mono ?_; rintro e w' ⟨rfl, hb'⟩; have hN := (hb'.cell (World.block_lt_of_cell? _ _ hN)).trans hN; have hb := bnext hb hb'; rw [k1]) | (go_at_call 62; refine (isHour_any _ _).mono ?_; rintro e w' ⟨rfl, hb'⟩; have hN := (hb'.cell (World.block_lt_of_cell? _ _ hN)).trans hN; have hb := bnext hb hb'; rw [k2]) | (go_at_call 61; refine (argumentCode_any _ _ _).mono ?_; rintro e w' ⟨rfl, rfl⟩))
        go_ret2
        exact ⟨rfl, hb⟩
      · have k2 : inB h 0 23 = false := by simpa only [Bool.not_eq_true] using k2
        have hv : outdoorForR0 (xs.map Bd.d) l h = 0 := by unfold outdoorForR0 outB; simp [*]
        have hc : outdoorForR1 (xs.map Bd.d) l h = 1 := by unfold outdoorForR1 outB; simp [*]
        rw [hv, hc]
        clear hv hc
        go_enter Try.func24, Try.ntmps24
        go_wp2_with (first | (go_at_call 29; refine (HV.out _ hb).mono ?_; rintro e w' ⟨rfl, hb'⟩; have hN := (hb'.cell (World.block_lt_of_cell? _ _ hN)).trans hN; have hb := bnext hb hb'; rw [ho]) | (go_at_call 56; refine (isLoad_any _ _).mono ?_; rintro e w' ⟨rfl, hb'⟩; have hN := (hb'.cell (World.block_lt_of_cell? _ _ hN)).trans hN; have hb := bnext hb hb'; rw [k1]) | (go_at_call 62; refine (isHour_any _ _).mono ?_; rintro e w' ⟨rfl, hb'⟩; have hN := (hb'.cell (World.block_lt_of_cell? _ _ hN)).trans hN; have hb := bnext hb hb'; rw [k2]) | (go_at_call 61; refine (argumentCode_any _ _ _).mono ?_; rintro e w' ⟨rfl, rfl⟩))
        go_ret2
        exact ⟨rfl, hb⟩

end Go.Proofs.Ytnepehdfkaegbaa
