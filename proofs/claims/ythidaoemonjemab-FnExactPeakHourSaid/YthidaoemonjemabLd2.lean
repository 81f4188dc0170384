/-
  What makes a list of buildings valid: both sides.
-/
import Derived.Test.YthidaoemonjemabLd1
import Derived.Test.YthidaoemonjemabKr
import Derived.Test.YthidaoemonjemabBd4
import Derived.Deep.RegionHeld3
import Derived.IntWalk
namespace Go.Proofs.Ythidaoemonjemab
open Go.ChangeShapes Go.WideShapes Go.ChangeAt Go.RowKit

set_option maxRecDepth 100000
set_option linter.unusedVariables false

def keysBl (ds : List Bl) : List ByteArray := ds.map Bl.id
/-- buildings that are valid -/
def okBs (ds : List Bl) : Bool := decide (ds.length ≤ 12) && (ds.all Bl.ok && riseK (keysBl ds) ds.length)
theorem okBs_parts {ds : List Bl} (h : okBs ds = true) : ds.length ≤ 12 ∧ ds.all Bl.ok = true ∧ riseK (keysBl ds) ds.length = true := by
  unfold okBs at h
  simp only [Bool.and_eq_true, decide_eq_true_eq] at h
  exact h
theorem key_at {xs : List Bd} {k : Nat} {x : Bd} (h : xs[k]? = some x) : (keysBl (xs.map Bd.d))[k]? = some x.d.id := by
  simp [keysBl, h]

theorem l05Ok_any (A : Option Addr) (n c : Nat) (xs : List Bd) (w : World) (h : BdsOk w A n xs) :
    Calls Try.prog 73 #[.slice A n c] w fun e w' => e = .returned (.bool (okBs (xs.map Bd.d))) ∧ Drawn w w' := by
  have hn := h.2.1
  obtain rfl := h.1.1
  have HB := Lib.hid h.cells
  have HD := Lib.hid h.1.2.2.2
  have HFT := Lib.hid (fun (b o : Nat) (x : Bd) (k : Nat) (P : BdO w b o x) (hx : x.fine w) => l05One_any b o x (w.drewN k) P hx)
  clear h
  go_enter Try.func73, Try.ntmps73
  go_wp2
  go_loopw [3] (fun i wr => ∃ q : Nat, q ≤ xs.length ∧ i = .int .i64 q ∧ Hid (((xs.map Bd.d).take q).all Bl.ok = true ∧ riseK (keysBl (xs.map Bd.d)) q = true) ∧ Drawn w wr) (fun i _ => xs.length - (intOf i).toNat)
  case atStart => exact ⟨0, Nat.zero_le _, rfl, Lib.hid ⟨by simp, rfl⟩, Drawn.rfl' _⟩
  case round =>
    obtain ⟨q, hq, rfl, HIN, ⟨nr, rfl⟩⟩ := hrel
    by_cases hlq : q < xs.length
    · obtain ⟨b2, o2, rfl, hrow⟩ := BdO.at HB.out (by omega)
      have hp := List.getElem?_eq_getElem hlq
      have P := hrow q _ hp
      have hs := HD.out _ (List.mem_of_getElem? hp)
      have Hrow := Lib.hid hrow
      clear hrow
      have hsuc : ((xs.map Bd.d).take (q + 1)).all Bl.ok = (((xs.map Bd.d).take q).all Bl.ok && xs[q].d.ok) := by
        have := all_take_succ Bl.ok (xs.map Bd.d) q (by simpa using hlq)
        simpa using this
      have hnot : xs[q].d.ok = false → (xs.map Bd.d).all Bl.ok = false := fun hh => all_false_at Bl.ok (xs.map Bd.d) q (by simpa using hlq) (by simpa using hh)
      have HLn : Hid ((xs.map Bd.d).length = xs.length) := Lib.hid (by simp)
      generalize xs[q] = x at *
      have HP := Lib.hid hp
      have HS := Lib.hid hsuc
      have HNo := Lib.hid hnot
      have HRS := Lib.hid (riseK_succ (keysBl (xs.map Bd.d)) q)
      have HRF := Lib.hid (riseK_false (keysBl (xs.map Bd.d)) q xs.length hlq)
      clear hp hsuc hnot
      have HC := Lib.hid (fun k => HFT.out b2 (o2 + q * 6) x k P hs)
      obtain ⟨p0, p1, p2, p3, p4, p5⟩ := P
      clear p1 p2 p3 p4 p5
      by_cases hf : x.d.ok = true
      · rw [hf] at HC
        have HF := Lib.hid hf
        clear hf
        by_cases hq0 : q = 0
        · subst hq0
          have HC0 := Lib.hid (fun k => by have := HC.out k; rw [Nat.zero_mul, Nat.add_zero] at this; exact this)
          go_wp2
          go_quiet ((go_at_call 98; exact quiet_drawn2 (HC0.out _)))
          go_wp2
          go_roundw
          case rel => exact ⟨0 + 1, by omega, by go_num, Lib.hid ⟨by rw [HS.out, HIN.out.1, HF.out]; rfl, by rw [HRS.out, HIN.out.2, riseKAt_zero]; rfl⟩, ⟨_, rfl⟩⟩
          case measure => simp [intOf]; omega
        · obtain ⟨r, hr⟩ : ∃ r, q = r + 1 := ⟨q - 1, by omega⟩
          have hp' := List.getElem?_eq_getElem (show r < xs.length by omega)
          have P' := Hrow.out r _ hp'
          have hat : ∀ x', xs[r]? = some x' → riseKAt (keysBl (xs.map Bd.d)) q = idLt x'.d.id x.d.id := fun x' h' => by
            have hq' : xs[r + 1]? = some x := by rw [← hr]; exact HP.out
            have := riseKAt_at (keysBl (xs.map Bd.d)) r _ _ (key_at h') (key_at hq')
            rw [← hr] at this
            exact this
          replace hat := hat _ hp'
          generalize xs[r] = x' at *
          obtain ⟨s0, s1, s2, s3, s4, s5⟩ := P'
          clear s1 s2 s3 s4 s5 hp'
          have hi0 : 0 < q := by omega
          have hi1 : decide (0 < q) = true := decide_eq_true hi0
          have hi2 : (0 : Int) ≤ (q : Int) - 1 := by omega
          have hi3 : ((q : Int) - 1).toNat = r := by omega
          have hi4 : (q : Int) - 1 < (xs.length : Int) := by omega
          have HR := Lib.hid hr
          clear hr
          by_cases hl : Op.bytesLess x'.d.id.toList x.d.id.toList = true
          · have Hat : Hid (riseKAt (keysBl (xs.map Bd.d)) q = true) := Lib.hid (by rw [hat]; exact hl)
            clear hat
            go_wp2
            go_quiet ((go_at_call 98; exact quiet_drawn2 (HC.out _)))
            go_wp2
            go_roundw
            case rel => exact ⟨q + 1, by omega, by go_num, Lib.hid ⟨by rw [HS.out, HIN.out.1, HF.out]; rfl, by rw [HRS.out, HIN.out.2, Hat.out]; rfl⟩, ⟨_, rfl⟩⟩
            case measure => simp [intOf]; omega
          · have hl : Op.bytesLess x'.d.id.toList x.d.id.toList = false := by simpa using hl
            have HV : Hid (okBs (xs.map Bd.d) = false) := Lib.hid (by
              unfold okBs
              rw [HLn.out, HRF.out (by rw [hat]; exact hl)]
              simp)
            clear hat
            go_wp2
            go_quiet ((go_at_call 98; exact quiet_drawn2 (HC.out _)))
            go_wp2
            go_ret
            exact ⟨by rw [HV.out]; rfl, ⟨_, World.drewN_drewN ..⟩⟩
      · have hf : x.d.ok = false := by simpa using hf
        rw [hf] at HC
        have HV : Hid (okBs (xs.map Bd.d) = false) := Lib.hid (by
          unfold okBs
          rw [HNo.out hf]
          simp)
        clear hf
        go_wp2
        go_quiet ((go_at_call 98; exact quiet_drawn2 (HC.out _)))
        go_wp2
        go_ret
        exact ⟨by rw [HV.out]; rfl, ⟨_, World.drewN_drewN ..⟩⟩
    · have e : q = xs.length := by omega
      subst e
      have HV : Hid (okBs (xs.map Bd.d) = decide (xs.length ≤ 12)) := Lib.hid (by
        have hf := HIN.out.1
        have hr := HIN.out.2
        rw [List.take_of_length_le (by simp)] at hf
        unfold okBs
        rw [hf, List.length_map, hr]
        simp)
      go_wp2
      go_ret
      exact ⟨ret_bool (by rw [HV.out]; exact decide_eq_decide.2 (by omega)), ⟨_, rfl⟩⟩
theorem refusesBd_any (x : Bd) (w : World) (h : x.okay w) :
    Calls Try.prog 102 #[.agg #[.string x.d.id, .int .i64 x.d.nd, .int .i64 x.d.ba, .int .i64 x.d.sl, .int .i64 x.d.li, .slice x.prA x.d.pr.length x.prc]] w fun e w' => e = .returned (.bool (!x.d.ok)) ∧ Below w.heap.size w w' := by
  have hb : Below w.heap.size w (w.alloc (.cells #[.string x.d.id, .int .i64 x.d.nd, .int .i64 x.d.ba, .int .i64 x.d.sl, .int .i64 x.d.li, .slice x.prA x.d.pr.length x.prc] 61)) := bal (Below.refl _ _) _
  have ⟨n0, n1, n2, n3, n4, n5⟩ := BdO.new w x 61
  have HV := Lib.hid (isValid_any x _ (h.go hb))
  go_enter Try.func102, Try.ntmps102
  go_wp2_with fail
  refine HV.out.mono ?_
  rintro e w1 ⟨rfl, hb1⟩
  go_wp2
  go_ret
  exact ⟨rfl, bnext hb hb1⟩
theorem nameOfBd_any (x : Bd) (w : World) :
    Calls Try.prog 105 #[.agg #[.string x.d.id, .int .i64 x.d.nd, .int .i64 x.d.ba, .int .i64 x.d.sl, .int .i64 x.d.li, .slice x.prA x.d.pr.length x.prc]] w fun e w' => e = .returned (.string x.d.id) ∧ Below w.heap.size w w' := by
  have hb : Below w.heap.size w (w.alloc (.cells #[.string x.d.id, .int .i64 x.d.nd, .int .i64 x.d.ba, .int .i64 x.d.sl, .int .i64 x.d.li, .slice x.prA x.d.pr.length x.prc] 61)) := bal (Below.refl _ _) _
  have ⟨n0, n1, n2, n3, n4, n5⟩ := BdO.new w x 61
  go_enter Try.func105, Try.ntmps105
  go_wp2
  go_ret
  exact ⟨rfl, hb⟩
theorem indexBd_any (A : Option Addr) (n c : Nat) (xs : List Bd) (w : World) (h : BdsOk w A n xs) :
    Calls Try.prog 119 #[.slice A n c, .func (.func 102) #[] #[]] w (IdxR ((xs.map Bd.d).all Bl.ok) w) := by
  have hn := h.2.1
  obtain rfl := h.1.1
  have HB := Lib.hid h.cells
  have HD := Lib.hid (fun (x : Bd) (hx : x ∈ xs) => (⟨h.1.2.2.2 x hx, h.2.2 x hx⟩ : x.okay w))
  clear h
  go_enter Try.func119, Try.ntmps119
  go_wp2
  go_loopw [8] (fun i wr => ∃ k : Nat, k ≤ xs.length ∧ i = .int .i64 k ∧ Hid (((xs.map Bd.d).take k).all Bl.ok = true) ∧ Below w.heap.size w wr) (fun i _ => xs.length - (intOf i).toNat)
  case atStart => exact ⟨0, Nat.zero_le _, rfl, Lib.hid (by simp), Below.refl _ _⟩
  case round =>
    obtain ⟨k, hk, rfl, Hall, hb⟩ := hrel
    by_cases hlt : k < xs.length
    · obtain ⟨b, off, rfl, hrow⟩ := BdO.at (HB.out.next hb) (by omega)
      have hp := List.getElem?_eq_getElem hlt
      have hs := Bd.okay.go (HD.out _ (List.mem_of_getElem? hp)) hb
      have P := hrow k _ hp
      have hsuc : ((xs.map Bd.d).take (k + 1)).all Bl.ok = (((xs.map Bd.d).take k).all Bl.ok && xs[k].d.ok) := by
        have := all_take_succ Bl.ok (xs.map Bd.d) k (by simpa using hlt)
        simpa using this
      have hnot : xs[k].d.ok = false → (xs.map Bd.d).all Bl.ok = false := fun hh => all_false_at Bl.ok (xs.map Bd.d) k (by simpa using hlt) (by simpa using hh)
      generalize xs[k] = x at *
      have HS := Lib.hid hsuc
      have HNo := Lib.hid hnot
      have ⟨p0, p1, p2, p3, p4, p5⟩ := P
      clear hp hrow hsuc hnot P
      have HC := Lib.hid (refusesBd_any x wr hs)
      clear hs
      go_wp2_with fail
      refine HC.out.mono ?_
      rintro e w1 ⟨rfl, hb1⟩
      have hb2 := bnext hb hb1
      by_cases hf : x.d.ok = true
      · rw [hf]
        have HF := Lib.hid hf
        clear hf
        go_wp2
        go_roundw
        case rel => exact ⟨k + 1, by omega, by go_num, Lib.hid (by rw [HS.out, Hall.out, HF.out]; rfl), hb2⟩
        case measure => simp [intOf]; omega
      · have hf : x.d.ok = false := by simpa using hf
        have HF := Lib.hid (HNo.out hf)
        rw [hf]
        clear hf
        go_wp2
        go_ret
        exact ⟨(k : Int), rfl, .inr ⟨HF.out, by omega⟩, hb2⟩
    · have HF : Hid ((xs.map Bd.d).all Bl.ok = true) := Lib.hid (by have := Hall.out; rw [List.take_of_length_le (by simp; omega)] at this; exact this)
      go_wp2
      go_ret
      exact ⟨-1, rfl, .inl ⟨HF.out, rfl⟩, hb⟩
theorem containsBd_any (A : Option Addr) (n c : Nat) (xs : List Bd) (w : World) (h : BdsOk w A n xs) :
    Calls Try.prog 101 #[.slice A n c, .func (.func 102) #[] #[]] w fun e w' => e = .returned (.bool (!(xs.map Bd.d).all Bl.ok)) ∧ Below w.heap.size w w' := by
  have HI := Lib.hid (fun k => indexBd_any A n c xs (w.drewN k) (h.go (below_drewN (Below.refl _ _) k)))
  clear h
  go_enter Try.func101, Try.ntmps101
  go_wp2_with fail
  refine (HI.out 0).mono ?_
  rintro e w1 ⟨r, rfl, hr, hb⟩
  rcases hr with ⟨h1, rfl⟩ | ⟨h1, h2⟩
  · have H1 := Lib.hid h1
    clear h1
    go_wp2
    go_ret
    exact ⟨by rw [H1.out]; rfl, hb⟩
  · have H1 := Lib.hid h1
    clear h1
    go_wp2
    go_ret
    exact ⟨by rw [H1.out]; rfl, hb⟩
theorem increasingBd_any (A : Option Addr) (n c : Nat) (xs : List Bd) (w : World) (h : BdsOk w A n xs) :
    Calls Try.prog 104 #[.slice A n c, .func (.func 105) #[] #[]] w fun e w' => e = .returned (.bool (riseK (keysBl (xs.map Bd.d)) n)) ∧ Below w.heap.size w w' := by
  have hn := h.2.1
  obtain rfl := h.1.1
  have HB := Lib.hid h.cells
  clear h
  go_enter Try.func104, Try.ntmps104
  go_wp2
  go_loopw [5] (fun i wr => ∃ k : Nat, 1 ≤ k ∧ (k ≤ xs.length ∨ k = 1) ∧ i = .int .i64 k ∧ Hid (riseK (keysBl (xs.map Bd.d)) k = true) ∧ Below w.heap.size w wr) (fun i _ => xs.length - (intOf i).toNat)
  case atStart => exact ⟨1, by omega, .inr rfl, rfl, Lib.hid (riseK_one _), Below.refl _ _⟩
  case round =>
    obtain ⟨k, hk1, hk, rfl, Hrise, hb⟩ := hrel
    by_cases hlt : k < xs.length
    · obtain ⟨b, off, rfl, hrow⟩ := BdO.at (HB.out.next hb) (by omega)
      obtain ⟨r, hr⟩ : ∃ r, k = r + 1 := ⟨k - 1, by omega⟩
      have hp := List.getElem?_eq_getElem hlt
      have hq := List.getElem?_eq_getElem (show r < xs.length by omega)
      have P0 := hrow k _ hp
      have Q0 := hrow r _ hq
      have hat : ∀ p q, xs[k]? = some p → xs[r]? = some q → riseKAt (keysBl (xs.map Bd.d)) k = idLt q.d.id p.d.id := fun p q h1 h2 => by
        rw [hr] at h1 ⊢
        exact riseKAt_at _ r _ _ (key_at h2) (key_at h1)
      replace hat := hat _ _ hp hq
      generalize xs[k] = p at *
      generalize xs[r] = q at *
      have HR := Lib.hid hr
      have HRS := Lib.hid (riseK_succ (keysBl (xs.map Bd.d)) k)
      have HRF := Lib.hid (riseK_false (keysBl (xs.map Bd.d)) k xs.length hlt)
      have hi2 : (0 : Int) ≤ (k : Int) - 1 := by omega
      have hi3 : ((k : Int) - 1).toNat = r := by omega
      have hi4 : (k : Int) - 1 < (xs.length : Int) := by omega
      have hdr : Below wr.heap.size wr wr.drew := below_drewN (Below.refl _ _) 1
      have hb1 : Below w.heap.size w wr.drew := bnext hb hdr
      have P := P0.next hdr
      have Q := Q0.next hdr
      have ⟨p0, p1, p2, p3, p4, p5⟩ := P
      have ⟨q0, q1, q2, q3, q4, q5⟩ := Q
      clear hp hq hr hrow P0 Q0 hb hdr
      have hi6 : (1 : Int) ≤ (k : Int) := by omega
      have hi7 : (k : Int) - 1 + 1 ≤ (xs.length : Int) := by omega
      have hi8 : 1 ≤ k := by omega
      have hi5 : IntKind.i64.wrap ((k : Int) - 1) = (k : Int) - 1 := IntWalk.i64_in _ (by omega)
      go_wp2_with fail
      go_region_held3 (fun w' => w'.cell? ⟨b, off + k * 6, none⟩ = some (.string p.d.id) ∧ w'.cell? ⟨b, off + k * 6 + 1, none⟩ = some (.int .i64 p.d.nd) ∧ w'.cell? ⟨b, off + k * 6 + 2, none⟩ = some (.int .i64 p.d.ba) ∧ w'.cell? ⟨b, off + k * 6 + 3, none⟩ = some (.int .i64 p.d.sl) ∧ w'.cell? ⟨b, off + k * 6 + 4, none⟩ = some (.int .i64 p.d.li) ∧ w'.cell? ⟨b, off + k * 6 + 5, none⟩ = some (.slice p.prA p.d.pr.length p.prc) ∧ w'.cell? ⟨b, off + r * 6, none⟩ = some (.string q.d.id) ∧ w'.cell? ⟨b, off + r * 6 + 1, none⟩ = some (.int .i64 q.d.nd) ∧ w'.cell? ⟨b, off + r * 6 + 2, none⟩ = some (.int .i64 q.d.ba) ∧ w'.cell? ⟨b, off + r * 6 + 3, none⟩ = some (.int .i64 q.d.sl) ∧ w'.cell? ⟨b, off + r * 6 + 4, none⟩ = some (.int .i64 q.d.li) ∧ w'.cell? ⟨b, off + r * 6 + 5, none⟩ = some (.slice q.prA q.d.pr.length q.prc)) (exact ⟨p0, p1, p2, p3, p4, p5, q0, q1, q2, q3, q4, q5⟩) ((go_at_call 105; first | (refine (nameOfBd_any p _).mono ?_; rintro e w' ⟨rfl, hb'⟩; have hb1 := bnext hb1 hb'; have P := P.next hb'; have Q := Q.next hb'; have ⟨p0, p1, p2, p3, p4, p5⟩ := P; have ⟨q0, q1, q2, q3, q4, q5⟩ := Q) | (refine (nameOfBd_any q _).mono ?_; rintro e w' ⟨rfl, hb'⟩; have hb1 := bnext hb1 hb'; have P := P.next hb'; have Q := Q.next hb'; have ⟨p0, p1, p2, p3, p4, p5⟩ := P; have ⟨q0, q1, q2, q3, q4, q5⟩ := Q)))
      clear hi5
      by_cases hl : idLt q.d.id p.d.id = true
      · have Hat : Hid (riseKAt (keysBl (xs.map Bd.d)) k = true) := Lib.hid (by rw [hat]; exact hl)
        have e0 : (Op.bytesLess p.d.id.toList q.d.id.toList || p.d.id.toList == q.d.id.toList) = false := by
          have hl' : Op.bytesLess q.d.id.toList p.d.id.toList = true := hl
          rw [leq_flip, hl']; rfl
        rw [e0]
        clear e0 hat hl
        go_wp2
        go_roundw
        case rel => exact ⟨k + 1, by omega, .inl (by omega), by go_num, Lib.hid (by rw [HRS.out, Hrise.out, Hat.out]; rfl), hb1⟩
        case measure => simp [intOf]; omega
      · have hl' : Op.bytesLess q.d.id.toList p.d.id.toList = false := by simpa [idLt] using hl
        have HV : Hid (riseK (keysBl (xs.map Bd.d)) xs.length = false) := Lib.hid (HRF.out (by rw [hat]; exact hl'))
        have e0 : (Op.bytesLess p.d.id.toList q.d.id.toList || p.d.id.toList == q.d.id.toList) = true := by
          rw [leq_flip, hl']; rfl
        rw [e0]
        clear e0 hat hl hl'
        go_wp2
        go_ret
        exact ⟨by rw [HV.out]; rfl, hb1⟩
    · have HV : Hid (riseK (keysBl (xs.map Bd.d)) xs.length = true) := Lib.hid (by
        rcases hk with h | h
        · have : k = xs.length := by omega
          rw [← this]; exact Hrise.out
        · have : xs.length = 0 ∨ xs.length = 1 := by omega
          rcases this with h | h <;> rw [h]
          · rfl
          · exact riseK_one _)
      go_wp2
      go_ret
      exact ⟨by rw [HV.out]; rfl, hb⟩
theorem implVB_any (A : Option Addr) (n c : Nat) (xs : List Bd) (w : World) (h : BdsOk w A n xs) :
    Calls Try.prog 76 #[.slice A n c] w fun e w' => e = .returned (.bool (okBs (xs.map Bd.d))) ∧ Below w.heap.size w w' := by
  have hn := h.2.1
  have hl : (xs.map Bd.d).length = n := by rw [List.length_map]; exact h.1.1
  have HH := Lib.hid h
  have HLN := Lib.hid hl
  clear h hl
  by_cases h1 : n ≤ 12
  rotate_left
  · have h1' : decide (n ≤ 12) = false := decide_eq_false h1
    have HV : Hid (okBs (xs.map Bd.d) = false) := Lib.hid (by unfold okBs; rw [HLN.out, h1']; rfl)
    have h1n : 12 < n := by omega
    go_enter Try.func76, Try.ntmps76
    go_wp2
    go_ret
    exact ⟨by rw [HV.out]; rfl, Below.refl _ _⟩
  have h1' : decide (n ≤ 12) = true := decide_eq_true h1
  go_enter Try.func76, Try.ntmps76
  go_wp2_with fail
  refine (containsBd_any A n c xs _ HH.out).mono ?_
  rintro e w1 ⟨rfl, hb⟩
  by_cases h2 : (xs.map Bd.d).all Bl.ok = true
  rotate_left
  · have h2 : (xs.map Bd.d).all Bl.ok = false := by simpa only [Bool.not_eq_true] using h2
    have HV : Hid (okBs (xs.map Bd.d) = false) := Lib.hid (by unfold okBs; rw [h2]; simp)
    rw [h2]
    clear h2
    go_wp2
    go_ret
    exact ⟨by rw [HV.out]; rfl, hb⟩
  have HV : Hid (okBs (xs.map Bd.d) = riseK (keysBl (xs.map Bd.d)) n) := Lib.hid (by unfold okBs; rw [HLN.out, h1', h2]; simp)
  rw [h2]
  clear h2
  go_wp2_with fail
  refine (increasingBd_any A n c xs _ (HH.out.go hb)).mono ?_
  rintro e w2 ⟨rfl, hb2⟩
  go_wp2
  go_ret
  exact ⟨by rw [HV.out]; rfl, bnext hb hb2⟩
def validBuildingsR0 (ds : List Bl) : Bool := okBs ds
theorem implValidBuildings_ds (A : Option Addr) (n c : Nat) (xs : List Bd) (w : World) (h : BdsOk w A n xs) :
    Calls Try.prog 76 #[.slice A n c] w fun e w' => e = .returned (.bool (validBuildingsR0 (xs.map Bd.d))) ∧ Below w.heap.size w w' := implVB_any A n c xs w h

end Go.Proofs.Ythidaoemonjemab
