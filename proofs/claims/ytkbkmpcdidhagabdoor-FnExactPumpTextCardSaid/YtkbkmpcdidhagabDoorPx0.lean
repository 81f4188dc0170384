/-
  PumpText: both sides.
-/
import Derived.Test.YtkbkmpcdidhagabDoorPu4
import Derived.Test.YtkbkmpcdidhagabDoorTp0
namespace Go.Proofs.YtkbkmpcdidhagabDoor
open Go.ChangeShapes Go.WideShapes Go.ChangeAt Go.RowKit Go.Shelf

set_option maxRecDepth 100000
set_option maxHeartbeats 1600000
set_option linter.unusedVariables false

/-- the text of a pump with its first k points -/
def pmpT (id : ByteArray) (ps : List (Int × Int)) : Nat → ByteArray
  | 0 => id
  | k + 1 => pmpT id ps k ++ (⟨#[32]⟩ ++ mkB (Lib.itoa (ptAt ps k).1) ++ ⟨#[58]⟩ ++ mkB (Lib.itoa (ptAt ps k).2))
theorem ba_assoc (a b c : ByteArray) : a ++ b ++ c = a ++ (b ++ c) := by
  apply ByteArray.ext
  simp [Array.append_assoc]
theorem pmpT_eq (id : ByteArray) (ps : List (Int × Int)) (k : Nat) : pmpT id ps (k + 1) = id ++ ⟨#[32]⟩ ++ ptsT ps (k + 1) := by
  induction k with
  | zero =>
    unfold pmpT ptsT ptT pmpT ptsT
    rw [if_pos rfl]
    apply ByteArray.ext
    simp [Array.append_assoc]
  | succ k ih =>
    rw [show pmpT id ps (k + 1 + 1) = pmpT id ps (k + 1) ++ (⟨#[32]⟩ ++ mkB (Lib.itoa (ptAt ps (k + 1)).1) ++ ⟨#[58]⟩ ++ mkB (Lib.itoa (ptAt ps (k + 1)).2)) from rfl, ih]
    rw [show ptsT ps (k + 1 + 1) = ptsT ps (k + 1) ++ ⟨#[32]⟩ ++ ptT (ptAt ps (k + 1)) from by
      conv => lhs; unfold ptsT
      rw [if_neg (by omega)]]
    unfold ptT
    simp only [ba_assoc]
def pumpTextR0 (d : PmD) : ByteArray := if okPu d = true then d.id ++ ⟨#[32]⟩ ++ ptsT (crv d.cv) (crv d.cv).length else ⟨#[]⟩
theorem okPu_four {d : PmD} (h : okPu d = true) : nameL d.id.data.toList = true ∧ okC (crv d.cv) = true ∧ crv d.cv = d.cv.map toPt ∧ ∀ z ∈ d.cv, z.length = 2 := by
  unfold okPu at h
  rw [Bool.and_eq_true] at h
  have h2 : okC (crv d.cv) = true := by rw [okC_crv]; exact h.2
  have h3 : d.cv.all (fun z => decide (z.length = 2)) = true := by
    by_cases h9 : d.cv.all (fun z => decide (z.length = 2)) = true
    · exact h9
    · unfold crv at h2
      rw [if_neg h9] at h2
      have := (okC_parts h2).1
      simp at this
  exact ⟨h.1, h2, by unfold crv; rw [if_pos h3], fun z hz => of_decide_eq_true (List.all_eq_true.1 h3 z hz)⟩
theorem ptIn_of {ps : List (Int × Int)} (h : okC ps = true) (i : Nat) (hi : i < ps.length) : ptIn (ptAt ps i) = true := by
  have := okC_one h i hi
  unfold ptIn inV
  rw [Bool.and_eq_true]
  exact ⟨inB_iff.2 (by omega), inB_iff.2 (by omega)⟩
/-- a point of a pump's list, in memory -/
def Row4 (w : World) (b : Nat) (A : Value) (bt o : Nat) (R : Value) (bz oz : Nat) (p : Int × Int) : Prop :=
  w.cell? ⟨b, 0 + 1, none⟩ = some A ∧ w.cell? ⟨bt, o, none⟩ = some R ∧ w.cell? ⟨bz, oz, none⟩ = some (.int .i64 p.1) ∧ w.cell? ⟨bz, oz + 1, none⟩ = some (.int .i64 p.2)
theorem Row4.next {w w' : World} {b : Nat} {A : Value} {bt o : Nat} {R : Value} {bz oz : Nat} {p : Int × Int} (h : Row4 w b A bt o R bz oz p) (hb : Below w.heap.size w w') : Row4 w' b A bt o R bz oz p :=
  ⟨(hb.cell (p := ⟨b, 0 + 1, none⟩) (World.block_lt_of_cell? _ _ h.1)).trans h.1, (hb.cell (p := ⟨bt, o, none⟩) (World.block_lt_of_cell? _ _ h.2.1)).trans h.2.1,
   (hb.cell (p := ⟨bz, oz, none⟩) (World.block_lt_of_cell? _ _ h.2.2.1)).trans h.2.2.1, (hb.cell (p := ⟨bz, oz + 1, none⟩) (World.block_lt_of_cell? _ _ h.2.2.2)).trans h.2.2.2⟩
theorem pm_row {w : World} {b : Nat} {x : Pm} (hO : PmO w b 0 x) (h : x.okay w) (hv : okPu x.d = true) (k : Nat) (hk : k < x.d.cv.length) :
    ∃ bt ot bz oz rc, x.cvA = some ⟨bt, ot, none⟩ ∧ Row4 w b (.slice (some ⟨bt, ot, none⟩) x.d.cv.length x.cvc) bt (ot + k) (.slice (some ⟨bz, oz, none⟩) 2 rc) bz oz (ptAt (crv x.d.cv) k) := by
  obtain ⟨-, hok, hcrv, htwo⟩ := okPu_four hv
  have HF := h.1
  obtain ⟨bt, ot, hA, hr⟩ := HF.2.2.at (by omega)
  have hlr : k < x.rs.length := by rw [HF.2.2.1]; exact hk
  have hp := List.getElem?_eq_getElem hlr
  have p0 := hr k _ hp
  have hfr := HF.2.2.2.2.2 _ (List.mem_of_getElem? hp)
  have hzq : x.d.cv[k]? = some (x.rs[k]).z := by rw [← HF.2.1, List.getElem?_map, hp]; rfl
  have h2 := htwo _ (List.mem_of_getElem? hzq)
  have hpt : ptAt (crv x.d.cv) k = toPt (x.rs[k]).z := ptAt_get (by rw [hcrv, List.getElem?_map, hzq]; rfl)
  rw [hpt]
  generalize x.rs[k] = r at *
  obtain ⟨bz, oz, hzA, hzc⟩ := hfr.2.2.1 (by rw [List.length_map, h2]; omega)
  refine ⟨bt, ot, bz, oz, r.c, hA, by rw [← hA]; exact hO.2, by rw [p0, hzA, h2], ?_, ?_⟩
  · have := hzc 0 (by rw [List.length_map, h2]; omega)
    rw [Nat.add_zero] at this
    rw [this, List.getElem?_map]
    unfold toPt
    rw [List.getD, List.getElem?_eq_getElem (by omega)]; rfl
  · have := hzc 1 (by rw [List.length_map, h2]; omega)
    rw [this, List.getElem?_map]
    unfold toPt
    rw [List.getD, List.getD, List.getElem?_eq_getElem (by omega), List.getElem?_eq_getElem (by omega)]; rfl
theorem l08Text_any (b : Nat) (x : Pm) (w : World) (hO : PmO w b 0 x) (h : x.okay w) (hv : okPu x.d = true) :
    Calls Tryd.prog 16 #[.pointer (some ⟨b, 0, none⟩)] w fun e w' => e = .returned (.string (pmpT x.d.id (crv x.d.cv) x.d.cv.length)) ∧ Below w.heap.size w w' := by
  have hrow := fun k hk => pm_row hO h hv k hk
  have hok := (okPu_four hv).2.1
  have hcl : (crv x.d.cv).length = x.d.cv.length := by rw [(okPu_four hv).2.2.1, List.length_map]
  have hl8 : x.d.cv.length ≤ 8 := by have := (okC_parts hok).2.1; omega
  have hone := fun k (hk : k < x.d.cv.length) => okC_one hok k (by rw [hcl]; exact hk)
  have hsz : x.d.id.size ≤ 10 := by
    have := (okPu_four hv).1
    unfold nameL at this
    simp only [Bool.and_eq_true, decide_eq_true_eq] at this
    have e : x.d.id.data.toList.length = x.d.id.size := rfl
    omega
  have HROW := Lib.hid hrow
  have HONE := Lib.hid hone
  have ⟨n0, n1⟩ := hO
  have HPT : Hid (∀ k, pmpT x.d.id (crv x.d.cv) (k + 1) = pmpT x.d.id (crv x.d.cv) k ++ (⟨#[32]⟩ ++ mkB (Lib.itoa (ptAt (crv x.d.cv) k).1) ++ ⟨#[58]⟩ ++ mkB (Lib.itoa (ptAt (crv x.d.cv) k).2))) := Lib.hid fun _ => rfl
  have HP0 : Hid (pmpT x.d.id (crv x.d.cv) 0 = x.d.id) := Lib.hid rfl
  have HO := Lib.hid hO
  clear hrow hone hok hcl hv h hO
  go_enter Tryd.func16, Tryd.ntmps16
  go_wp2
  go_loopw [3, 4] (fun o i wr => ∃ (k : Nat) (s : ByteArray), k ≤ x.d.cv.length ∧ i = .int .i64 k ∧ o = .string s ∧ s.size ≤ 10 + 44 * k ∧ Hid (s = pmpT x.d.id (crv x.d.cv) k) ∧ Below w.heap.size w wr) (fun _ i _ => x.d.cv.length - (intOf i).toNat)
  case atStart => exact ⟨0, _, Nat.zero_le _, rfl, rfl, by omega, Lib.hid HP0.out.symm, Below.refl _ _⟩
  case round =>
    obtain ⟨k, s, hk, rfl, rfl, hs, Hs, hb⟩ := hrel
    have hOw := HO.out.next hb
    have ⟨n0w, n1w⟩ := hOw
    by_cases hlt : k < x.d.cv.length
    · obtain ⟨bt, ot, bz, oz, rc, hA, hR⟩ := HROW.out k hlt
      have hR0 := hR.next hb
      have a1 := HONE.out k hlt
      have H1 := Lib.hid (HPT.out k)
      have hb2 := itoa_bd (ptAt (crv x.d.cv) k).1 (by unfold inV; exact inB_iff.2 (by omega))
      have hb3 := itoa_bd (ptAt (crv x.d.cv) k).2 (by unfold inV; exact inB_iff.2 (by omega))
      have HD1 := Lib.hid (fun W => l01Dec_any (ptAt (crv x.d.cv) k).1 W (by omega) (by omega))
      have HD2 := Lib.hid (fun W => l01Dec_any (ptAt (crv x.d.cv) k).2 W (by omega) (by omega))
      generalize ptAt (crv x.d.cv) k = p at *
      have hq1 : (mkB (Lib.itoa p.1)).size ≤ 21 := hb2
      have hq2 : (mkB (Lib.itoa p.2)).size ≤ 21 := hb3
      generalize mkB (Lib.itoa p.1) = u at *
      generalize mkB (Lib.itoa p.2) = v at *
      have e0 : (⟨#[32]⟩ ++ u : ByteArray).size = 1 + u.size := by rw [ByteArray.size_append]; rfl
      have e1 : (⟨#[32]⟩ ++ u ++ ⟨#[58]⟩ : ByteArray).size = 1 + u.size + 1 := by rw [ByteArray.size_append, e0]; rfl
      have e2 : (⟨#[32]⟩ ++ u ++ ⟨#[58]⟩ ++ v : ByteArray).size = 1 + u.size + 1 + v.size := by rw [ByteArray.size_append, e1]
      have e5 : (s ++ (⟨#[32]⟩ ++ u ++ ⟨#[58]⟩ ++ v)).size = s.size + (1 + u.size + 1 + v.size) := by rw [ByteArray.size_append, e2]
      have hk0 : ¬ 9223372036854775807 < 1 + u.size := by omega
      have hk1 : ¬ 9223372036854775807 < 1 + u.size + 1 := by omega
      have hk2 : ¬ 9223372036854775807 < 1 + u.size + 1 + v.size := by omega
      have hk3 : ¬ 9223372036854775807 < s.size + (1 + u.size + 1 + v.size) := by omega
      have HE5 := Lib.hid e5
      have HF : Hid (s ++ (⟨#[32]⟩ ++ u ++ ⟨#[58]⟩ ++ v) = pmpT x.d.id (crv x.d.cv) (k + 1)) := Lib.hid (by rw [H1.out, ← Hs.out])
      have hdr : Below wr.heap.size wr wr.drew := below_drewN (Below.refl _ _) 1
      have hbw := bnext hb hdr
      have hR1 := hR0.next hdr
      have ⟨r0, r1, r2, r3⟩ := hR1
      have HAA := Lib.hid hA
      rw [hA] at n1w
      have tok : True := trivial
      clear e5 hb2 hb3 hR hR0 hA n0 n1 n0w
      go_wp2_with fail
      go_region_held3 (fun w' => w'.cell? ⟨b, 0 + 1, none⟩ = some (.slice (some ⟨bt, ot, none⟩) x.d.cv.length x.cvc) ∧ w'.cell? ⟨bt, ot + k, none⟩ = some (.slice (some ⟨bz, oz, none⟩) 2 rc) ∧ w'.cell? ⟨bz, oz, none⟩ = some (.int .i64 p.1) ∧ w'.cell? ⟨bz, oz + 1, none⟩ = some (.int .i64 p.2)) (exact ⟨r0, r1, r2, r3⟩)
        (first | (go_at_call 32; clear tok; refine (HD1.out _).mono ?_; rintro e w1 ⟨rfl, hb'⟩; have hbw := bnext hbw hb'; have hR1 := hR1.next hb'; have ⟨r0, r1, r2, r3⟩ := hR1) | (go_at_call 32; refine (HD2.out _).mono ?_; rintro e w2 ⟨rfl, hb'⟩; have hbw := bnext hbw hb'; have hR1 := hR1.next hb'; have ⟨r0, r1, r2, r3⟩ := hR1))
      all_goals (
        have HBF := Lib.hid hbw
        clear hbw r0 r1 r2 r3 hR1
        go_wp2
        go_roundw)
      all_goals first
        | (simp [intOf]; omega)
        | exact ⟨k + 1, _, by omega, by go_num, rfl, by rw [HE5.out]; omega, HF, HBF.out⟩
    · have e : k = x.d.cv.length := by omega
      subst e
      go_wp2
      go_ret
      exact ⟨by rw [Hs.out]; rfl, hb⟩
theorem specPumpText_ds (x : Pm) (w : World) (h : x.okay w) :
    Calls Tryd.prog 6 #[.agg #[.string x.d.id, .slice x.cvA x.d.cv.length x.cvc]] w fun e w' => e = .returned (.string (pumpTextR0 x.d)) ∧ Below w.heap.size w w' := by
  have hb : Below w.heap.size w (w.alloc (.cells #[.string x.d.id, .slice x.cvA x.d.cv.length x.cvc] 27)) := bal (Below.refl _ _) _
  have hO := PmO.new w x 27
  have HC := Lib.hid (l08Ok_any w.heap.size x _ hO (h.go hb))
  have HT := Lib.hid (fun k (hv : okPu x.d = true) => l08Text_any w.heap.size x ((w.alloc (.cells #[.string x.d.id, .slice x.cvA x.d.cv.length x.cvc] 27)).drewN k) (hO.next (below_drewN (Below.refl _ _) k)) ((h.go hb).go (below_drewN (Below.refl _ _) k)) hv)
  have ⟨n0, n1⟩ := hO
  clear h hO
  by_cases ho : okPu x.d = true
  rotate_left
  · have ho' : okPu x.d = false := by simpa only [Bool.not_eq_true] using ho
    have HV : Hid (pumpTextR0 x.d = ⟨#[]⟩) := Lib.hid (by unfold pumpTextR0; rw [if_neg ho])
    rw [ho'] at HC
    clear ho ho'
    go_enter Tryd.func6, Tryd.ntmps6
    go_wp2_with fail
    refine HC.out.mono ?_
    rintro e w1 ⟨rfl, ⟨k, rfl⟩⟩
    go_wp2
    go_ret
    exact ⟨by rw [HV.out]; rfl, below_drewN hb _⟩
  have hfo := okPu_four ho
  have hlen : (crv x.d.cv).length = x.d.cv.length := by rw [hfo.2.2.1, List.length_map]
  have HV : Hid (pumpTextR0 x.d = pmpT x.d.id (crv x.d.cv) x.d.cv.length) := Lib.hid (by
    have h2 := (okC_parts hfo.2.1).1
    unfold pumpTextR0
    rw [if_pos ho, hlen]
    obtain ⟨m, hm⟩ : ∃ m, x.d.cv.length = m + 1 := ⟨x.d.cv.length - 1, by omega⟩
    rw [hm]
    exact (pmpT_eq _ _ m).symm)
  have HTQ := Lib.hid (fun k => HT.out k ho)
  rw [ho] at HC
  clear HT ho hfo hlen
  generalize pmpT x.d.id (crv x.d.cv) x.d.cv.length = s at *
  go_enter Tryd.func6, Tryd.ntmps6
  go_wp2_with fail
  refine HC.out.mono ?_
  rintro e w1 ⟨rfl, ⟨k, rfl⟩⟩
  go_wp2_with fail
  refine (HTQ.out _).mono ?_
  rintro e w2 ⟨rfl, hb2⟩
  go_wp2
  go_ret
  exact ⟨by rw [HV.out]; rfl, bnext (below_drewN hb _) hb2⟩
theorem pmpString_any (b : Nat) (id : ByteArray) (B : Option Addr) (dd : Nat) (ps : List (Int × Int)) (w : World) (hO : PmpO w b id B dd ps) (h : PtsOk w B ps.length ps) (hs : id.size ≤ 10) (hv : okC ps = true) (ht : PowTab w) :
    Calls Tryd.prog 20 #[.pointer (some ⟨b, 0, none⟩)] w fun e w' => e = .returned (.string (id ++ ⟨#[32]⟩ ++ ptsT ps ps.length)) ∧ Below w.heap.size w w' := by
  have h2 := okC_parts hv
  have hbd := ptsT_bd (fun i hi => ptIn_of hv i hi) ps.length (Nat.le_refl _)
  have HC := Lib.hid (fun wx (hbx : Below w.heap.size w wx) => pointsString_any B ps.length dd ps wx (h.go hbx) (by omega) (fun i hi => ptIn_of hv i hi) (ht.next hbx) (by omega))
  generalize ptsT ps ps.length = s at *
  have e1 : (id ++ ⟨#[32]⟩).size = id.size + 1 := by rw [ByteArray.size_append]; rfl
  have hk1 : ¬ 9223372036854775807 < id.size + 1 := by omega
  have hk2 : ¬ 9223372036854775807 < id.size + 1 + s.size := by omega
  have hdr : Below w.heap.size w w.drew := below_drewN (Below.refl _ _) 1
  have hb := hdr
  have hO1 := hO.next hdr
  have ⟨n0, n1⟩ := hO1
  clear hv ht h h2 hdr hO
  go_enter Tryd.func20, Tryd.ntmps20
  go_wp2_with fail
  go_region_held3 (fun w' => w'.cell? ⟨b, 0, none⟩ = some (.string id) ∧ w'.cell? ⟨b, 1, none⟩ = some (.slice B ps.length dd)) (exact ⟨n0, n1⟩) ((go_at_call 50; refine (HC.out _ hb).mono ?_; rintro e w1 ⟨rfl, hb'⟩; have hb := bnext hb hb'; have hO1 := hO1.next hb'; have ⟨n0, n1⟩ := hO1))
  all_goals
    go_wp2
    go_ret
    exact ⟨rfl, hb⟩
theorem implPumpText_ds (x : Pm) (w : World) (h : x.okay w) (ht : PowTab w) :
    Calls Tryd.prog 8 #[.agg #[.string x.d.id, .slice x.cvA x.d.cv.length x.cvc]] w fun e w' => e = .returned (.string (pumpTextR0 x.d)) ∧ Below w.heap.size w w' := by
  have hb : Below w.heap.size w (w.alloc (.cells #[.string x.d.id, .slice x.cvA x.d.cv.length x.cvc] 27)) := bal (Below.refl _ _) _
  have hN := PmO.new w x 27
  have HC := Lib.hid (newPump_any x (w.alloc (.cells #[.string x.d.id, .slice x.cvA x.d.cv.length x.cvc] 27)) (h.go hb))
  have HOP : Hid (okPu x.d = (nameL x.d.id.data.toList && okC (crv x.d.cv))) := Lib.hid (by unfold okPu; rw [okC_crv])
  have hcl : (crv x.d.cv).length ≤ 1048576 := Nat.le_trans (crv_length _) h.2.1
  have hsz := h.1.1
  have HT := Lib.hid ht
  have ⟨n0, n1⟩ := hN
  clear h hN ht
  go_enter Tryd.func8, Tryd.ntmps8
  go_wp2_with fail
  refine HC.out.mono ?_
  rintro e w1 ⟨b, B, dd, rfl, hO, hown, -, -, hb1⟩
  have HPT := Lib.hid (RetPump.pts hown hcl)
  have hb := bnext hb hb1
  have HO := Lib.hid hO
  have HIV := Lib.hid (isValidPump_any b x.d.id B dd (crv x.d.cv) w1 hO HPT.out hsz)
  rw [← HOP.out] at HIV
  clear hO hown hb1
  go_wp2_with fail
  refine HIV.out.mono ?_
  rintro e w2 ⟨rfl, hb2⟩
  have hb := bnext hb hb2
  by_cases ho : okPu x.d = true
  rotate_left
  · have ho' : okPu x.d = false := by simpa only [Bool.not_eq_true] using ho
    have HV : Hid (pumpTextR0 x.d = ⟨#[]⟩) := Lib.hid (by unfold pumpTextR0; rw [if_neg ho])
    rw [ho']
    clear ho ho'
    go_wp2
    go_ret
    exact ⟨by rw [HV.out]; rfl, hb⟩
  have hfo := okPu_four ho
  have hs10 : x.d.id.size ≤ 10 := by
    have := hfo.1
    unfold nameL at this
    simp only [Bool.and_eq_true, decide_eq_true_eq] at this
    have e : x.d.id.data.toList.length = x.d.id.size := rfl
    omega
  have HV : Hid (pumpTextR0 x.d = x.d.id ++ ⟨#[32]⟩ ++ ptsT (crv x.d.cv) (crv x.d.cv).length) := Lib.hid (by unfold pumpTextR0; rw [if_pos ho])
  have HST := Lib.hid (pmpString_any b x.d.id B dd (crv x.d.cv) w2 (HO.out.next hb2) (HPT.out.go hb2) hs10 hfo.2.1 (HT.out.next hb))
  rw [ho]
  clear ho hfo hs10
  generalize x.d.id ++ ⟨#[32]⟩ ++ ptsT (crv x.d.cv) (crv x.d.cv).length = s at *
  go_wp2_with fail
  refine HST.out.mono ?_
  rintro e w3 ⟨rfl, hb3⟩
  go_wp2
  go_ret
  exact ⟨by rw [HV.out]; rfl, bnext hb hb3⟩
end Go.Proofs.YtkbkmpcdidhagabDoor
