/-
  A pump as the program holds it; newPump, isValid and ValidPump of the program.
-/
import Derived.Test.YtkbkmpcdidhagabPu1
import Derived.Test.YtkbkmpcdidhagabPu0
import Derived.Test.YtkbkmpcdidhagabGs
namespace Go.Proofs.Ytkbkmpcdidhagab
open Go.ChangeShapes Go.WideShapes Go.ChangeAt Go.RowKit

set_option maxRecDepth 100000
set_option linter.unusedVariables false

def cmpI (a b : Int) : Int := if a < b then -1 else if b < a then 1 else 0
theorem compareI_any (a b : Int) (w : World) : Calls Try.prog 105 #[.int .i64 a, .int .i64 b] w fun e w' => e = .returned (.int .i64 (cmpI a b)) ∧ w = w' := by
  have H : Hid (cmpI a b = _) := Lib.hid (by unfold cmpI; rfl)
  by_cases h1 : a < b
  · rw [if_pos h1] at H
    go_enter Try.func105, Try.ntmps105
    go_wp2
    go_ret
    exact ⟨by rw [H.out]; rfl, rfl⟩
  · by_cases h2 : b < a
    · rw [if_neg h1, if_pos h2] at H
      go_enter Try.func105, Try.ntmps105
      go_wp2
      go_ret
      exact ⟨by rw [H.out]; rfl, rfl⟩
    · rw [if_neg h1, if_neg h2] at H
      go_enter Try.func105, Try.ntmps105
      go_wp2
      go_ret
      exact ⟨by rw [H.out]; rfl, rfl⟩
theorem flowOf_any (x : Int × Int) (w : World) :
    Calls Try.prog 96 #[.agg #[.int .i64 x.1, .int .i64 x.2]] w fun e w' => e = .returned (.int .i64 x.1) ∧ Below w.heap.size w w' := by
  have hb : Below w.heap.size w (w.alloc (.cells #[.int .i64 x.1, .int .i64 x.2] 90)) := bal (Below.refl _ _) _
  have ⟨n0, n1⟩ := PtO.new w x 90
  go_enter Try.func96, Try.ntmps96
  go_wp2
  go_ret
  exact ⟨rfl, hb⟩
theorem refusesPt_any (x : Int × Int) (w : World) :
    Calls Try.prog 102 #[.agg #[.int .i64 x.1, .int .i64 x.2]] w fun e w' => e = .returned (.bool (!yOk x)) ∧ Below w.heap.size w w' := by
  have hb : Below w.heap.size w (w.alloc (.cells #[.int .i64 x.1, .int .i64 x.2] 90)) := bal (Below.refl _ _) _
  have ⟨n0, n1⟩ := PtO.new w x 90
  have HV : Hid (yOk x = inB x.2 0 2000000) := Lib.hid rfl
  go_enter Try.func102, Try.ntmps102
  go_wp2_with fail
  refine (one64Free _ 0 2000000 _ _ _ (by simp)).mono ?_
  rintro e w1 ⟨rfl, hb1⟩
  have hb2 := bnext hb hb1
  rw [← HV.out]
  go_wp2
  go_ret
  exact ⟨rfl, hb2⟩
theorem cmpC_any (x y : Int × Int) (w : World) :
    Calls Try.prog 104 #[.agg #[.int .i64 x.1, .int .i64 x.2], .agg #[.int .i64 y.1, .int .i64 y.2]] w fun e w' => e = .returned (.int .i64 (cmpI y.2 x.2)) ∧ Below w.heap.size w w' := by
  have hb : Below w.heap.size w ((w.alloc (.cells #[.int .i64 x.1, .int .i64 x.2] 90)).alloc (.cells #[.int .i64 y.1, .int .i64 y.2] 90)) := bal (bal (Below.refl _ _) _) _
  have ⟨n0, n1⟩ := (PtO.new w x 90).next (bal (Below.refl _ _) (.cells #[.int .i64 y.1, .int .i64 y.2] 90))
  have ⟨m0, m1⟩ := PtO.new (w.alloc (.cells #[.int .i64 x.1, .int .i64 x.2] 90)) y 90
  go_enter Try.func104, Try.ntmps104
  go_wp2_with fail
  refine (compareI_any _ _ _).mono ?_
  rintro e w' ⟨rfl, rfl⟩
  go_wp2
  go_ret
  exact ⟨rfl, hb⟩
theorem indexPt_any (A : Option Addr) (n c : Nat) (xs : List (Int × Int)) (w : World) (h : PtsOk w A n xs) :
    Calls Try.prog 133 #[.slice A n c, .func (.func 102) #[] #[]] w (IdxR (xs.all yOk) w) := by
  have hn := h.2
  obtain rfl := h.1.1
  have HB := Lib.hid h.cells
  clear h
  go_enter Try.func133, Try.ntmps133
  go_wp2
  go_loopw [8] (fun i wr => ∃ k : Nat, k ≤ xs.length ∧ i = .int .i64 k ∧ Hid ((xs.take k).all yOk = true) ∧ Below w.heap.size w wr) (fun i _ => xs.length - (intOf i).toNat)
  case atStart => exact ⟨0, Nat.zero_le _, rfl, Lib.hid (by simp), Below.refl _ _⟩
  case round =>
    obtain ⟨k, hk, rfl, Hall, hb⟩ := hrel
    by_cases hlt : k < xs.length
    · obtain ⟨b, off, rfl, hrow⟩ := PtO.at (HB.out.next hb) (by omega)
      have hp := List.getElem?_eq_getElem hlt
      have P := hrow k _ hp
      have HS := Lib.hid (all_take_succ yOk xs k hlt)
      have HNo := Lib.hid (all_false_at yOk xs k hlt)
      generalize xs[k] = x at *
      have ⟨p0, p1⟩ := P
      clear hp hrow P
      go_wp2_with fail
      refine (refusesPt_any x wr).mono ?_
      rintro e w1 ⟨rfl, hb1⟩
      have hb2 := bnext hb hb1
      by_cases hf : yOk x = true
      · rw [hf]
        have HF := Lib.hid hf
        clear hf
        go_wp2
        go_roundw
        case rel => exact ⟨k + 1, by omega, by go_num, Lib.hid (by rw [HS.out, Hall.out, HF.out]; rfl), hb2⟩
        case measure => simp [intOf]; omega
      · have hf : yOk x = false := by simpa using hf
        have HF := Lib.hid (HNo.out hf)
        rw [hf]
        clear hf
        go_wp2
        go_ret
        exact ⟨(k : Int), rfl, .inr ⟨HF.out, by omega⟩, hb2⟩
    · have HF : Hid (xs.all yOk = true) := Lib.hid (by have := Hall.out; rw [List.take_of_length_le (by omega)] at this; exact this)
      go_wp2
      go_ret
      exact ⟨-1, rfl, .inl ⟨HF.out, rfl⟩, hb⟩
theorem containsPt_any (A : Option Addr) (n c : Nat) (xs : List (Int × Int)) (w : World) (h : PtsOk w A n xs) :
    Calls Try.prog 101 #[.slice A n c, .func (.func 102) #[] #[]] w fun e w' => e = .returned (.bool (!xs.all yOk)) ∧ Below w.heap.size w w' := by
  have HI := Lib.hid (fun k => indexPt_any A n c xs (w.drewN k) (h.go (below_drewN (Below.refl _ _) k)))
  clear h
  go_enter Try.func101, Try.ntmps101
  go_wp2_with fail
  refine (HI.out 0).mono ?_
  rintro e w1 ⟨r, rfl, hr, hb⟩
  rcases hr with ⟨h1, rfl⟩ | ⟨h1, h2⟩
  · have H1 := Lib.hid h1
    clear h1
    go_wp2
    go_ret
    exact ⟨by rw [H1.out]; rfl, hb⟩
  · have H1 := Lib.hid h1
    clear h1
    go_wp2
    go_ret
    exact ⟨by rw [H1.out]; rfl, hb⟩
theorem increasingPt_any (A : Option Addr) (n c : Nat) (xs : List (Int × Int)) (w : World) (h : PtsOk w A n xs) :
    Calls Try.prog 100 #[.slice A n c, .func (.func 96) #[] #[]] w fun e w' => e = .returned (.bool (riseBy xUp xs n)) ∧ Below w.heap.size w w' := by
  have hn := h.2
  obtain rfl := h.1.1
  have HB := Lib.hid h.cells
  clear h
  go_enter Try.func100, Try.ntmps100
  go_wp2
  go_loopw [5] (fun i wr => ∃ k : Nat, 1 ≤ k ∧ (k ≤ xs.length ∨ k = 1) ∧ i = .int .i64 k ∧ Hid (riseBy xUp xs k = true) ∧ Below w.heap.size w wr) (fun i _ => xs.length - (intOf i).toNat)
  case atStart => exact ⟨1, by omega, .inr rfl, rfl, Lib.hid (riseBy_one _ _), Below.refl _ _⟩
  case round =>
    obtain ⟨k, hk1, hk, rfl, Hrise, hb⟩ := hrel
    by_cases hlt : k < xs.length
    · obtain ⟨b, off, rfl, hrow⟩ := PtO.at (HB.out.next hb) (by omega)
      obtain ⟨r, hr⟩ : ∃ r, k = r + 1 := ⟨k - 1, by omega⟩
      have hp := List.getElem?_eq_getElem hlt
      have hq := List.getElem?_eq_getElem (show r < xs.length by omega)
      have P0 := hrow k _ hp
      have Q0 := hrow r _ hq
      have hat : ∀ p q, xs[k]? = some p → xs[r]? = some q → riseByAt xUp xs k = xUp q p := fun p q h1 h2 => by
        rw [hr] at h1 ⊢
        exact riseByAt_at _ _ r _ _ h2 h1
      replace hat := hat _ _ hp hq
      generalize xs[k] = p at *
      generalize xs[r] = q at *
      have HR := Lib.hid hr
      have HRS := Lib.hid (riseBy_succ xUp xs k)
      have HRF := Lib.hid (riseBy_false xUp xs k xs.length hlt)
      have hi2 : (0 : Int) ≤ (k : Int) - 1 := by omega
      have hi3 : ((k : Int) - 1).toNat = r := by omega
      have hi4 : (k : Int) - 1 < (xs.length : Int) := by omega
      have hdr : Below wr.heap.size wr wr.drew := below_drewN (Below.refl _ _) 1
      have hb1 : Below w.heap.size w wr.drew := bnext hb hdr
      have P := P0.next hdr
      have Q := Q0.next hdr
      have ⟨p0, p1⟩ := P
      have ⟨q0, q1⟩ := Q
      clear hp hq hr hrow P0 Q0 hb hdr
      have hi6 : (1 : Int) ≤ (k : Int) := by omega
      have hi7 : (k : Int) - 1 + 1 ≤ (xs.length : Int) := by omega
      have hi8 : 1 ≤ k := by omega
      have hi5 : IntKind.i64.wrap ((k : Int) - 1) = (k : Int) - 1 := IntWalk.i64_in _ (by omega)
      go_wp2_with fail
      go_region_held3 (fun w' => w'.cell? ⟨b, off + k * 2, none⟩ = some (.int .i64 p.1) ∧ w'.cell? ⟨b, off + k * 2 + 1, none⟩ = some (.int .i64 p.2) ∧ w'.cell? ⟨b, off + r * 2, none⟩ = some (.int .i64 q.1) ∧ w'.cell? ⟨b, off + r * 2 + 1, none⟩ = some (.int .i64 q.2)) (exact ⟨p0, p1, q0, q1⟩) ((go_at_call 96; first | (refine (flowOf_any p _).mono ?_; rintro e w' ⟨rfl, hb'⟩; have hb1 := bnext hb1 hb'; have P := P.next hb'; have Q := Q.next hb'; have ⟨p0, p1⟩ := P; have ⟨q0, q1⟩ := Q) | (refine (flowOf_any q _).mono ?_; rintro e w' ⟨rfl, hb'⟩; have hb1 := bnext hb1 hb'; have P := P.next hb'; have Q := Q.next hb'; have ⟨p0, p1⟩ := P; have ⟨q0, q1⟩ := Q)))
      clear hi5
      by_cases hl : q.1 < p.1
      · have Hat : Hid (riseByAt xUp xs k = true) := Lib.hid (by rw [hat]; unfold xUp; exact decide_eq_true hl)
        clear hat
        go_wp2
        go_roundw
        case rel => exact ⟨k + 1, by omega, .inl (by omega), by go_num, Lib.hid (by rw [HRS.out, Hrise.out, Hat.out]; rfl), hb1⟩
        case measure => simp [intOf]; omega
      · have HV : Hid (riseBy xUp xs xs.length = false) := Lib.hid (HRF.out (by rw [hat]; unfold xUp; exact decide_eq_false hl))
        have hl' : p.1 ≤ q.1 := by omega
        clear hat hl
        go_wp2
        go_ret
        exact ⟨by rw [HV.out]; rfl, hb1⟩
    · have HV : Hid (riseBy xUp xs xs.length = true) := Lib.hid (by
        rcases hk with h | h
        · have : k = xs.length := by omega
          rw [← this]; exact Hrise.out
        · have : xs.length = 0 ∨ xs.length = 1 := by omega
          rcases this with h | h <;> rw [h]
          · rfl
          · exact riseBy_one _ _)
      go_wp2
      go_ret
      exact ⟨by rw [HV.out]; rfl, hb⟩
theorem sortedPt_any (A : Option Addr) (n c : Nat) (xs : List (Int × Int)) (w : World) (h : PtsOk w A n xs) :
    Calls Try.prog 103 #[.slice A n c, .func (.func 104) #[] #[]] w fun e w' => e = .returned (.bool (riseBy yDn xs n)) ∧ Below w.heap.size w w' := by
  have hn := h.2
  obtain rfl := h.1.1
  have HB := Lib.hid h.cells
  clear h
  go_enter Try.func103, Try.ntmps103
  go_wp2
  go_loopw [5] (fun i wr => ∃ m : Nat, m ≤ xs.length ∧ i = .int .i64 ((m : Int) - 1) ∧ Hid (∀ j p q, m ≤ j + 1 → xs[j]? = some p → xs[j + 1]? = some q → yDn p q = true) ∧ Below w.heap.size w wr) (fun i _ => (intOf i + 1).toNat)
  case atStart => exact ⟨xs.length, Nat.le_refl _, rfl, Lib.hid (fun j p q hj _ hq => by have := (List.getElem?_eq_some_iff.1 hq).1; omega), Below.refl _ _⟩
  case round =>
    obtain ⟨m, hm, rfl, Hall, hb⟩ := hrel
    by_cases hlt : 2 ≤ m
    · obtain ⟨b, off, rfl, hrow⟩ := PtO.at (HB.out.next hb) (by omega)
      obtain ⟨k, hk⟩ : ∃ k, m = k + 1 := ⟨m - 1, by omega⟩
      subst hk
      have hi0 : ((k + 1 : Nat) : Int) - 1 = (k : Int) := by omega
      rw [hi0]
      clear hi0
      obtain ⟨r, hr⟩ : ∃ r, k = r + 1 := ⟨k - 1, by omega⟩
      have hp := List.getElem?_eq_getElem (show k < xs.length by omega)
      have hq := List.getElem?_eq_getElem (show r < xs.length by omega)
      have P0 := hrow k _ hp
      have Q0 := hrow r _ hq
      generalize xs[k] = p at *
      generalize xs[r] = q at *
      have HR := Lib.hid hr
      have HPQ := Lib.hid (And.intro hp hq)
      have hi2 : (0 : Int) ≤ (k : Int) - 1 := by omega
      have hi3 : ((k : Int) - 1).toNat = r := by omega
      have hi4 : (k : Int) - 1 < (xs.length : Int) := by omega
      have hdr : Below wr.heap.size wr wr.drew := below_drewN (Below.refl _ _) 1
      have hb1 : Below w.heap.size w wr.drew := bnext hb hdr
      have P := P0.next hdr
      have Q := Q0.next hdr
      have ⟨p0, p1⟩ := P
      have ⟨q0, q1⟩ := Q
      clear hp hq hr hrow P0 Q0 hb hdr
      have hi6 : (1 : Int) ≤ (k : Int) := by omega
      have hi7 : (k : Int) - 1 + 1 ≤ (xs.length : Int) := by omega
      have hi8 : 1 ≤ k := by omega
      have hi9 : k < xs.length := by omega
      have hi5 : IntKind.i64.wrap ((k : Int) - 1) = (k : Int) - 1 := IntWalk.i64_in _ (by omega)
      go_wp2_with fail
      go_region_held3 (fun w' => w'.cell? ⟨b, off + k * 2, none⟩ = some (.int .i64 p.1) ∧ w'.cell? ⟨b, off + k * 2 + 1, none⟩ = some (.int .i64 p.2) ∧ w'.cell? ⟨b, off + r * 2, none⟩ = some (.int .i64 q.1) ∧ w'.cell? ⟨b, off + r * 2 + 1, none⟩ = some (.int .i64 q.2)) (exact ⟨p0, p1, q0, q1⟩) ((go_at_call 104; refine (cmpC_any p q _).mono ?_; rintro e w' ⟨rfl, hb'⟩; have hb1 := bnext hb1 hb'; have P := P.next hb'; have Q := Q.next hb'; have ⟨p0, p1⟩ := P; have ⟨q0, q1⟩ := Q))
      clear hi5
      by_cases hl : p.2 ≤ q.2
      · have hneg : ¬ (cmpI q.2 p.2 < 0) := by unfold cmpI; (repeat' split) <;> omega
        have Hall' : Hid (∀ j p q, k ≤ j + 1 → xs[j]? = some p → xs[j + 1]? = some q → yDn p q = true) := Lib.hid (fun j p' q' hj h1 h2 => by
          by_cases hj2 : j = r
          · subst hj2
            rw [HPQ.out.2] at h1
            rw [← HR.out, HPQ.out.1] at h2
            injection h1 with h1
            injection h2 with h2
            subst h1; subst h2
            unfold yDn; exact decide_eq_true hl
          · exact Hall.out j p' q' (by have := HR.out; omega) h1 h2)
        clear hl
        go_wp2
        go_roundw
        case rel => exact ⟨k, by omega, by go_num, Hall', hb1⟩
        case measure => simp [intOf] <;> omega
      · have hneg : cmpI q.2 p.2 < 0 := by unfold cmpI; rw [if_pos (by omega)]; omega
        have HV : Hid (riseBy yDn xs xs.length = false) := Lib.hid (riseBy_false yDn xs k xs.length hi9 (by
          have h1 := HPQ.out.1
          rw [HR.out] at h1 ⊢
          rw [riseByAt_at yDn xs r q p HPQ.out.2 h1]
          unfold yDn; exact decide_eq_false hl))
        clear hl
        go_wp2
        go_ret
        exact ⟨by rw [HV.out]; rfl, hb1⟩
    · have HV : Hid (riseBy yDn xs xs.length = true) := Lib.hid (riseBy_of (fun j p q h1 h2 => Hall.out j p q (by omega) h1 h2))
      have hi1 : ¬ ((0 : Int) < (m : Int) - 1) := by omega
      go_wp2
      go_ret
      exact ⟨by rw [HV.out]; rfl, hb⟩

/-- a pump in memory -/
def PmpO (w : World) (b : Nat) (id : ByteArray) (B : Option Addr) (d : Nat) (ps : List (Int × Int)) : Prop :=
  w.cell? ⟨b, 0, none⟩ = some (.string id) ∧ w.cell? ⟨b, 1, none⟩ = some (.slice B ps.length d)
theorem PmpO.lies {w : World} {b : Nat} {id : ByteArray} {B : Option Addr} {d : Nat} {ps : List (Int × Int)} (h : PmpO w b id B d ps) : b < w.heap.size := World.block_lt_of_cell? _ _ h.1
theorem PmpO.next {w w' : World} {b : Nat} {id : ByteArray} {B : Option Addr} {d : Nat} {ps : List (Int × Int)} (h : PmpO w b id B d ps) (hb : Below w.heap.size w w') : PmpO w' b id B d ps :=
  ⟨(hb.cell (p := ⟨b, 0, none⟩) h.lies).trans h.1, (hb.cell (p := ⟨b, 1, none⟩) h.lies).trans h.2⟩
theorem lastFlow_any (b : Nat) (id : ByteArray) (B : Option Addr) (d : Nat) (ps : List (Int × Int)) (w : World) (hO : PmpO w b id B d ps) (h : PtsOk w B ps.length ps) (h0 : 0 < ps.length) :
    Calls Try.prog 99 #[.pointer (some ⟨b, 0, none⟩)] w fun e w' => e = .returned (.int .i64 (ptAt ps (ps.length - 1)).1) ∧ Drawn w w' := by
  have hn := h.2
  obtain ⟨bt, ot, rfl, hrow⟩ := PtO.at h.cells h0
  obtain ⟨r, hr⟩ : ∃ r, ps.length = r + 1 := ⟨ps.length - 1, by omega⟩
  have ⟨p0, p1⟩ := hrow r _ (ptAt_some ps r (by omega))
  have HR : Hid (ps.length - 1 = r) := Lib.hid (by omega)
  rw [HR.out]
  have hi2 : (0 : Int) ≤ (ps.length : Int) - 1 := by omega
  have hi3 : ((ps.length : Int) - 1).toNat = r := by omega
  have hi4 : (ps.length : Int) - 1 < (ps.length : Int) := by omega
  have hi5 : IntKind.i64.wrap ((ps.length : Int) - 1) = (ps.length : Int) - 1 := IntWalk.i64_in _ (by omega)
  have ⟨n0, n1⟩ := hO
  generalize ptAt ps r = x at *
  clear hrow h hO hr
  go_enter Try.func99, Try.ntmps99
  go_wp2
  go_quiet (fail)
  go_wp2
  go_ret
  exact ⟨rfl, ⟨_, rfl⟩⟩
end Go.Proofs.Ytkbkmpcdidhagab
