/-
  What makes a list of substations valid: both sides.
-/
import Derived.Test.YtdaedgdglammhabEx1
import Derived.Test.YtdaedgdglammhabKr
import Derived.Test.YtdaedgdglammhabTw
import Derived.Deep.RegionHeld3
import Derived.IntWalk
namespace Go.Proofs.Ytdaedgdglammhab
open Go.ChangeShapes Go.WideShapes Go.ChangeAt Go.RowKit

set_option maxRecDepth 100000
set_option maxHeartbeats 4000000
set_option linter.unusedVariables false

def keysSb (ds : List Sb) : List ByteArray := ds.map Sb.id
/-- buildings that are valid -/
def okSbs (ds : List Sb) : Bool := decide (ds.length ≤ 12) && (ds.all okSb && riseK (keysSb ds) ds.length)
theorem okSbs_parts {ds : List Sb} (h : okSbs ds = true) : ds.length ≤ 12 ∧ ds.all okSb = true ∧ riseK (keysSb ds) ds.length = true := by
  unfold okSbs at h
  simp only [Bool.and_eq_true, decide_eq_true_eq] at h
  exact h
theorem keySb_at {xs : List Sb} {k : Nat} {x : Sb} (h : xs[k]? = some x) : (keysSb xs)[k]? = some x.id := by
  unfold keysSb
  rw [List.getElem?_map, h]
  rfl

theorem l12Ok_any (A : Option Addr) (n c : Nat) (xs : List Sb) (w : World) (h : SbsOk w A n xs) :
    Calls Try.prog 40 #[.slice A n c] w fun e w' => e = .returned (.bool (okSbs xs)) ∧ Drawn w w' := by
  have hn := h.2
  obtain rfl := h.1.1
  have HB := Lib.hid h.cells
  have HD := Lib.hid h.1.2.2.2
  have HFT := Lib.hid (fun (b o : Nat) (x : Sb) (k : Nat) (P : SbO w b o x) (hx : x.fine) => l12One_any b o x (w.drewN k) P hx)
  clear h
  go_enter Try.func40, Try.ntmps40
  go_wp2
  go_loopw [3] (fun i wr => ∃ q : Nat, q ≤ xs.length ∧ i = .int .i64 q ∧ Hid ((xs.take q).all okSb = true ∧ riseK (keysSb xs) q = true) ∧ Drawn w wr) (fun i _ => xs.length - (intOf i).toNat)
  case atStart => exact ⟨0, Nat.zero_le _, rfl, Lib.hid ⟨by simp, rfl⟩, Drawn.rfl' _⟩
  case round =>
    obtain ⟨q, hq, rfl, HIN, ⟨nr, rfl⟩⟩ := hrel
    by_cases hlq : q < xs.length
    · obtain ⟨b2, o2, rfl, hrow⟩ := SbO.at HB.out (by omega)
      have hp := List.getElem?_eq_getElem hlq
      have P := hrow q _ hp
      have hs := HD.out _ (List.mem_of_getElem? hp)
      have Hrow := Lib.hid hrow
      clear hrow
      have hsuc : (xs.take (q + 1)).all okSb = ((xs.take q).all okSb && okSb xs[q]) := by
        have := all_take_succ okSb xs q hlq
        simpa using this
      have hnot : okSb xs[q] = false → xs.all okSb = false := fun hh => all_false_at okSb xs q hlq hh
      have HLn : Hid (xs.length = xs.length) := Lib.hid rfl
      generalize xs[q] = x at *
      have HP := Lib.hid hp
      have HS := Lib.hid hsuc
      have HNo := Lib.hid hnot
      have HRS := Lib.hid (riseK_succ (keysSb xs) q)
      have HRF := Lib.hid (riseK_false (keysSb xs) q xs.length hlq)
      clear hp hsuc hnot
      have HC := Lib.hid (fun k => HFT.out b2 (o2 + q * 5) x k P hs)
      obtain ⟨p0, p1, p2, p3, p4⟩ := P
      clear p1 p2 p3 p4
      by_cases hf : okSb x = true
      · rw [hf] at HC
        have HF := Lib.hid hf
        clear hf
        by_cases hq0 : q = 0
        · subst hq0
          have HC0 := Lib.hid (fun k => by have := HC.out k; rw [Nat.zero_mul, Nat.add_zero] at this; exact this)
          go_wp2
          go_quiet ((go_at_call 47; exact quiet_drawn2 (HC0.out _)))
          go_wp2
          go_roundw
          case rel => exact ⟨0 + 1, by omega, by go_num, Lib.hid ⟨by rw [HS.out, HIN.out.1, HF.out]; rfl, by rw [HRS.out, HIN.out.2, riseKAt_zero]; rfl⟩, ⟨_, rfl⟩⟩
          case measure => simp [intOf]; omega
        · obtain ⟨r, hr⟩ : ∃ r, q = r + 1 := ⟨q - 1, by omega⟩
          have hp' := List.getElem?_eq_getElem (show r < xs.length by omega)
          have P' := Hrow.out r _ hp'
          have hat : ∀ x', xs[r]? = some x' → riseKAt (keysSb xs) q = idLt x'.id x.id := fun x' h' => by
            have hq' : xs[r + 1]? = some x := by rw [← hr]; exact HP.out
            have := riseKAt_at (keysSb xs) r _ _ (keySb_at h') (keySb_at hq')
            rw [← hr] at this
            exact this
          replace hat := hat _ hp'
          generalize xs[r] = x' at *
          obtain ⟨s0, s1, s2, s3, s4⟩ := P'
          clear s1 s2 s3 s4 hp'
          have hi0 : 0 < q := by omega
          have hi1 : decide (0 < q) = true := decide_eq_true hi0
          have hi2 : (0 : Int) ≤ (q : Int) - 1 := by omega
          have hi3 : ((q : Int) - 1).toNat = r := by omega
          have hi4 : (q : Int) - 1 < (xs.length : Int) := by omega
          have HR := Lib.hid hr
          clear hr
          by_cases hl : Op.bytesLess x'.id.toList x.id.toList = true
          · have Hat : Hid (riseKAt (keysSb xs) q = true) := Lib.hid (by rw [hat]; exact hl)
            clear hat
            go_wp2
            go_quiet ((go_at_call 47; exact quiet_drawn2 (HC.out _)))
            go_wp2
            go_roundw
            case rel => exact ⟨q + 1, by omega, by go_num, Lib.hid ⟨by rw [HS.out, HIN.out.1, HF.out]; rfl, by rw [HRS.out, HIN.out.2, Hat.out]; rfl⟩, ⟨_, rfl⟩⟩
            case measure => simp [intOf]; omega
          · have hl : Op.bytesLess x'.id.toList x.id.toList = false := by simpa using hl
            have HV : Hid (okSbs xs = false) := Lib.hid (by
              unfold okSbs
              rw [HLn.out, HRF.out (by rw [hat]; exact hl)]
              simp)
            clear hat
            go_wp2
            go_quiet ((go_at_call 47; exact quiet_drawn2 (HC.out _)))
            go_wp2
            go_ret
            exact ⟨by rw [HV.out]; rfl, ⟨_, World.drewN_drewN ..⟩⟩
      · have hf : okSb x = false := by simpa using hf
        rw [hf] at HC
        have HV : Hid (okSbs xs = false) := Lib.hid (by
          unfold okSbs
          rw [HNo.out hf]
          simp)
        clear hf
        go_wp2
        go_quiet ((go_at_call 47; exact quiet_drawn2 (HC.out _)))
        go_wp2
        go_ret
        exact ⟨by rw [HV.out]; rfl, ⟨_, World.drewN_drewN ..⟩⟩
    · have e : q = xs.length := by omega
      subst e
      have HV : Hid (okSbs xs = decide (xs.length ≤ 12)) := Lib.hid (by
        have hf := HIN.out.1
        have hr := HIN.out.2
        rw [List.take_of_length_le (by simp)] at hf
        unfold okSbs
        rw [hf, hr]
        simp)
      go_wp2
      go_ret
      exact ⟨ret_bool (by rw [HV.out]; exact decide_eq_decide.2 (by omega)), ⟨_, rfl⟩⟩
theorem specVS_any (A : Option Addr) (n c : Nat) (xs : List Sb) (w : World) (h : SbsOk w A n xs) :
    Calls Try.prog 13 #[.slice A n c] w fun e w' => e = .returned (.bool (okSbs xs)) ∧ Below w.heap.size w w' := by
  have HO := Lib.hid (l12Ok_any A n c xs w h)
  clear h
  go_enter Try.func13, Try.ntmps13
  go_wp2_with fail
  refine HO.out.mono ?_
  rintro e w1 ⟨rfl, ⟨k, rfl⟩⟩
  go_wp2
  go_ret
  exact ⟨rfl, below_drewN (Below.refl _ _) _⟩

theorem refusesSb_any (x : Sb) (w : World) (h : x.fine) :
    Calls Try.prog 42 #[.agg #[.string x.id, .int .i64 x.nd, .int .i64 x.tr, .int .i64 x.su, .int .i64 x.re]] w fun e w' => e = .returned (.bool (!okSb x)) ∧ Below w.heap.size w w' := by
  have HV := Lib.hid (fun W => implValidSubstation_any x W h)
  go_enter Try.func42, Try.ntmps42
  go_wp2_with fail
  refine (HV.out _).mono ?_
  rintro e w1 ⟨rfl, hb1⟩
  go_wp2
  go_ret
  exact ⟨rfl, bnext (bal (Below.refl _ _) _) hb1⟩
theorem nameOfSb_any (x : Sb) (w : World) :
    Calls Try.prog 45 #[.agg #[.string x.id, .int .i64 x.nd, .int .i64 x.tr, .int .i64 x.su, .int .i64 x.re]] w fun e w' => e = .returned (.string x.id) ∧ Below w.heap.size w w' := by
  have hb : Below w.heap.size w (w.alloc (.cells #[.string x.id, .int .i64 x.nd, .int .i64 x.tr, .int .i64 x.su, .int .i64 x.re] 34)) := bal (Below.refl _ _) _
  have ⟨n0, n1, n2, n3, n4⟩ := SbO.new w x 34
  go_enter Try.func45, Try.ntmps45
  go_wp2
  go_ret
  exact ⟨rfl, hb⟩
theorem indexSb_any (A : Option Addr) (n c : Nat) (xs : List Sb) (w : World) (h : SbsOk w A n xs) :
    Calls Try.prog 72 #[.slice A n c, .func (.func 42) #[] #[]] w (IdxR (xs.all okSb) w) := by
  have hn := h.2
  obtain rfl := h.1.1
  have HB := Lib.hid h.cells
  have HD := Lib.hid h.1.2.2.2
  clear h
  go_enter Try.func72, Try.ntmps72
  go_wp2
  go_loopw [8] (fun i wr => ∃ k : Nat, k ≤ xs.length ∧ i = .int .i64 k ∧ Hid ((xs.take k).all okSb = true) ∧ Below w.heap.size w wr) (fun i _ => xs.length - (intOf i).toNat)
  case atStart => exact ⟨0, Nat.zero_le _, rfl, Lib.hid (by simp), Below.refl _ _⟩
  case round =>
    obtain ⟨k, hk, rfl, Hall, hb⟩ := hrel
    by_cases hlt : k < xs.length
    · obtain ⟨b, off, rfl, hrow⟩ := SbO.at (HB.out.next hb) (by omega)
      have hp := List.getElem?_eq_getElem hlt
      have hs := HD.out _ (List.mem_of_getElem? hp)
      have P := hrow k _ hp
      have hsuc : (xs.take (k + 1)).all okSb = ((xs.take k).all okSb && okSb xs[k]) := by
        have := all_take_succ okSb xs k hlt
        simpa using this
      have hnot : okSb xs[k] = false → xs.all okSb = false := fun hh => all_false_at okSb xs k hlt hh
      generalize xs[k] = x at *
      have HS := Lib.hid hsuc
      have HNo := Lib.hid hnot
      have ⟨p0, p1, p2, p3, p4⟩ := P
      clear hp hrow hsuc hnot P
      have HC := Lib.hid (refusesSb_any x wr hs)
      clear hs
      go_wp2_with fail
      refine HC.out.mono ?_
      rintro e w1 ⟨rfl, hb1⟩
      have hb2 := bnext hb hb1
      by_cases hf : okSb x = true
      · rw [hf]
        have HF := Lib.hid hf
        clear hf
        go_wp2
        go_roundw
        case rel => exact ⟨k + 1, by omega, by go_num, Lib.hid (by rw [HS.out, Hall.out, HF.out]; rfl), hb2⟩
        case measure => simp [intOf]; omega
      · have hf : okSb x = false := by simpa using hf
        have HF := Lib.hid (HNo.out hf)
        rw [hf]
        clear hf
        go_wp2
        go_ret
        exact ⟨(k : Int), rfl, .inr ⟨HF.out, by omega⟩, hb2⟩
    · have HF : Hid (xs.all okSb = true) := Lib.hid (by have := Hall.out; rw [List.take_of_length_le (by omega)] at this; exact this)
      go_wp2
      go_ret
      exact ⟨-1, rfl, .inl ⟨HF.out, rfl⟩, hb⟩
theorem containsSb_any (A : Option Addr) (n c : Nat) (xs : List Sb) (w : World) (h : SbsOk w A n xs) :
    Calls Try.prog 41 #[.slice A n c, .func (.func 42) #[] #[]] w fun e w' => e = .returned (.bool (!xs.all okSb)) ∧ Below w.heap.size w w' := by
  have HI := Lib.hid (fun k => indexSb_any A n c xs (w.drewN k) (h.go (below_drewN (Below.refl _ _) k)))
  clear h
  go_enter Try.func41, Try.ntmps41
  go_wp2_with fail
  refine (HI.out 0).mono ?_
  rintro e w1 ⟨r, rfl, hr, hb⟩
  rcases hr with ⟨h1, rfl⟩ | ⟨h1, h2⟩
  · have H1 := Lib.hid h1
    clear h1
    go_wp2
    go_ret
    exact ⟨by rw [H1.out]; rfl, hb⟩
  · have H1 := Lib.hid h1
    clear h1
    go_wp2
    go_ret
    exact ⟨by rw [H1.out]; rfl, hb⟩
theorem increasingSb_any (A : Option Addr) (n c : Nat) (xs : List Sb) (w : World) (h : SbsOk w A n xs) :
    Calls Try.prog 44 #[.slice A n c, .func (.func 45) #[] #[]] w fun e w' => e = .returned (.bool (riseK (keysSb xs) n)) ∧ Below w.heap.size w w' := by
  have hn := h.2
  obtain rfl := h.1.1
  have HB := Lib.hid h.cells
  clear h
  go_enter Try.func44, Try.ntmps44
  go_wp2
  go_loopw [5] (fun i wr => ∃ k : Nat, 1 ≤ k ∧ (k ≤ xs.length ∨ k = 1) ∧ i = .int .i64 k ∧ Hid (riseK (keysSb xs) k = true) ∧ Below w.heap.size w wr) (fun i _ => xs.length - (intOf i).toNat)
  case atStart => exact ⟨1, by omega, .inr rfl, rfl, Lib.hid (riseK_one _), Below.refl _ _⟩
  case round =>
    obtain ⟨k, hk1, hk, rfl, Hrise, hb⟩ := hrel
    by_cases hlt : k < xs.length
    · obtain ⟨b, off, rfl, hrow⟩ := SbO.at (HB.out.next hb) (by omega)
      obtain ⟨r, hr⟩ : ∃ r, k = r + 1 := ⟨k - 1, by omega⟩
      have hp := List.getElem?_eq_getElem hlt
      have hq := List.getElem?_eq_getElem (show r < xs.length by omega)
      have P0 := hrow k _ hp
      have Q0 := hrow r _ hq
      have hat : ∀ p q, xs[k]? = some p → xs[r]? = some q → riseKAt (keysSb xs) k = idLt q.id p.id := fun p q h1 h2 => by
        rw [hr] at h1 ⊢
        exact riseKAt_at _ r _ _ (keySb_at h2) (keySb_at h1)
      replace hat := hat _ _ hp hq
      generalize xs[k] = p at *
      generalize xs[r] = q at *
      have HR := Lib.hid hr
      have HRS := Lib.hid (riseK_succ (keysSb xs) k)
      have HRF := Lib.hid (riseK_false (keysSb xs) k xs.length hlt)
      have hi2 : (0 : Int) ≤ (k : Int) - 1 := by omega
      have hi3 : ((k : Int) - 1).toNat = r := by omega
      have hi4 : (k : Int) - 1 < (xs.length : Int) := by omega
      have hdr : Below wr.heap.size wr wr.drew := below_drewN (Below.refl _ _) 1
      have hb1 : Below w.heap.size w wr.drew := bnext hb hdr
      have P := P0.next hdr
      have Q := Q0.next hdr
      have ⟨p0, p1, p2, p3, p4⟩ := P
      have ⟨q0, q1, q2, q3, q4⟩ := Q
      clear hp hq hr hrow P0 Q0 hb hdr
      have hi6 : (1 : Int) ≤ (k : Int) := by omega
      have hi7 : (k : Int) - 1 + 1 ≤ (xs.length : Int) := by omega
      have hi8 : 1 ≤ k := by omega
      have hi5 : IntKind.i64.wrap ((k : Int) - 1) = (k : Int) - 1 := IntWalk.i64_in _ (by omega)
      go_wp2_with fail
      go_region_held3 (fun w' => w'.cell? ⟨b, off + k * 5, none⟩ = some (.string p.id) ∧ w'.cell? ⟨b, off + k * 5 + 1, none⟩ = some (.int .i64 p.nd) ∧ w'.cell? ⟨b, off + k * 5 + 2, none⟩ = some (.int .i64 p.tr) ∧ w'.cell? ⟨b, off + k * 5 + 3, none⟩ = some (.int .i64 p.su) ∧ w'.cell? ⟨b, off + k * 5 + 4, none⟩ = some (.int .i64 p.re) ∧ w'.cell? ⟨b, off + r * 5, none⟩ = some (.string q.id) ∧ w'.cell? ⟨b, off + r * 5 + 1, none⟩ = some (.int .i64 q.nd) ∧ w'.cell? ⟨b, off + r * 5 + 2, none⟩ = some (.int .i64 q.tr) ∧ w'.cell? ⟨b, off + r * 5 + 3, none⟩ = some (.int .i64 q.su) ∧ w'.cell? ⟨b, off + r * 5 + 4, none⟩ = some (.int .i64 q.re)) (exact ⟨p0, p1, p2, p3, p4, q0, q1, q2, q3, q4⟩) ((go_at_call 45; first | (refine (nameOfSb_any p _).mono ?_; rintro e w' ⟨rfl, hb'⟩; have hb1 := bnext hb1 hb'; have P := P.next hb'; have Q := Q.next hb'; have ⟨p0, p1, p2, p3, p4⟩ := P; have ⟨q0, q1, q2, q3, q4⟩ := Q) | (refine (nameOfSb_any q _).mono ?_; rintro e w' ⟨rfl, hb'⟩; have hb1 := bnext hb1 hb'; have P := P.next hb'; have Q := Q.next hb'; have ⟨p0, p1, p2, p3, p4⟩ := P; have ⟨q0, q1, q2, q3, q4⟩ := Q)))
      clear hi5
      by_cases hl : idLt q.id p.id = true
      · have Hat : Hid (riseKAt (keysSb xs) k = true) := Lib.hid (by rw [hat]; exact hl)
        have e0 : (Op.bytesLess p.id.toList q.id.toList || p.id.toList == q.id.toList) = false := by
          have hl' : Op.bytesLess q.id.toList p.id.toList = true := hl
          rw [leq_flip, hl']; rfl
        rw [e0]
        clear e0 hat hl
        go_wp2
        go_roundw
        case rel => exact ⟨k + 1, by omega, .inl (by omega), by go_num, Lib.hid (by rw [HRS.out, Hrise.out, Hat.out]; rfl), hb1⟩
        case measure => simp [intOf]; omega
      · have hl' : Op.bytesLess q.id.toList p.id.toList = false := by simpa [idLt] using hl
        have HV : Hid (riseK (keysSb xs) xs.length = false) := Lib.hid (HRF.out (by rw [hat]; exact hl'))
        have e0 : (Op.bytesLess p.id.toList q.id.toList || p.id.toList == q.id.toList) = true := by
          rw [leq_flip, hl']; rfl
        rw [e0]
        clear e0 hat hl hl'
        go_wp2
        go_ret
        exact ⟨by rw [HV.out]; rfl, hb1⟩
    · have HV : Hid (riseK (keysSb xs) xs.length = true) := Lib.hid (by
        rcases hk with h | h
        · have : k = xs.length := by omega
          rw [← this]; exact Hrise.out
        · have : xs.length = 0 ∨ xs.length = 1 := by omega
          rcases this with h | h <;> rw [h]
          · rfl
          · exact riseK_one _)
      go_wp2
      go_ret
      exact ⟨by rw [HV.out]; rfl, hb⟩
theorem implVS_any (A : Option Addr) (n c : Nat) (xs : List Sb) (w : World) (h : SbsOk w A n xs) :
    Calls Try.prog 15 #[.slice A n c] w fun e w' => e = .returned (.bool (okSbs xs)) ∧ Below w.heap.size w w' := by
  have hn := h.2
  have hl : xs.length = n := h.1.1
  have HH := Lib.hid h
  have HLN := Lib.hid hl
  clear h hl
  by_cases h1 : n ≤ 12
  rotate_left
  · have h1' : decide (n ≤ 12) = false := decide_eq_false h1
    have HV : Hid (okSbs xs = false) := Lib.hid (by unfold okSbs; rw [HLN.out, h1']; rfl)
    have h1n : 12 < n := by omega
    go_enter Try.func15, Try.ntmps15
    go_wp2
    go_ret
    exact ⟨by rw [HV.out]; rfl, Below.refl _ _⟩
  have h1' : decide (n ≤ 12) = true := decide_eq_true h1
  go_enter Try.func15, Try.ntmps15
  go_wp2_with fail
  refine (containsSb_any A n c xs _ HH.out).mono ?_
  rintro e w1 ⟨rfl, hb⟩
  by_cases h2 : xs.all okSb = true
  rotate_left
  · have h2 : xs.all okSb = false := by simpa only [Bool.not_eq_true] using h2
    have HV : Hid (okSbs xs = false) := Lib.hid (by unfold okSbs; rw [h2]; simp)
    rw [h2]
    clear h2
    go_wp2
    go_ret
    exact ⟨by rw [HV.out]; rfl, hb⟩
  have HV : Hid (okSbs xs = riseK (keysSb xs) n) := Lib.hid (by unfold okSbs; rw [HLN.out, h1', h2]; simp)
  rw [h2]
  clear h2
  go_wp2_with fail
  refine (increasingSb_any A n c xs _ (HH.out.go hb)).mono ?_
  rintro e w2 ⟨rfl, hb2⟩
  go_wp2
  go_ret
  exact ⟨by rw [HV.out]; rfl, bnext hb hb2⟩
def validSubstationsR0 (ds : List Sb) : Bool := okSbs ds
theorem specValidSubstations_ds (A : Option Addr) (n c : Nat) (xs : List Sb) (w : World) (h : SbsOk w A n xs) :
    Calls Try.prog 13 #[.slice A n c] w fun e w' => e = .returned (.bool (validSubstationsR0 xs)) ∧ Below w.heap.size w w' := specVS_any A n c xs w h
theorem implValidSubstations_ds (A : Option Addr) (n c : Nat) (xs : List Sb) (w : World) (h : SbsOk w A n xs) :
    Calls Try.prog 15 #[.slice A n c] w fun e w' => e = .returned (.bool (validSubstationsR0 xs)) ∧ Below w.heap.size w w' := implVS_any A n c xs w h

end Go.Proofs.Ytdaedgdglammhab
