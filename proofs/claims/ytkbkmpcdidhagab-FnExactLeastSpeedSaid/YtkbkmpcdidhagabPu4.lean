/-
  isValid and ValidPump of the program.
-/
import Derived.Test.YtkbkmpcdidhagabPu3
namespace Go.Proofs.Ytkbkmpcdidhagab
open Go.ChangeShapes Go.WideShapes Go.ChangeAt Go.RowKit

set_option maxRecDepth 100000
set_option linter.unusedVariables false

theorem okC_chain (ps : List (Int × Int)) : okC ps = (inB (ps.length : Int) 2 8 && (decide ((ptAt ps 0).1 = 0) && (inB (ptAt ps (ps.length - 1)).1 0 100000 && (riseBy xUp ps ps.length && ((ps.all yOk) && riseBy yDn ps ps.length))))) := by
  have e : riseBy pUp ps ps.length = (riseBy xUp ps ps.length && riseBy yDn ps ps.length) := by rw [← riseBy_and]; rfl
  rw [Bool.eq_iff_iff]
  unfold okC
  rw [e]
  simp only [Bool.and_eq_true, decide_eq_true_eq, inB_iff]
  constructor
  · rintro ⟨⟨h1, h2⟩, h3, h4, h5, h6⟩
    have hone : ∀ i, i < ps.length → ptOk (ptAt ps i) = true := fun i hi => List.all_eq_true.1 h3 _ (List.mem_of_getElem? (ptAt_some ps i hi))
    refine ⟨by omega, h4, ?_, h5, ?_, h6⟩
    · have := hone (ps.length - 1) (by omega)
      unfold ptOk at this
      simp only [Bool.and_eq_true, inB_iff] at this
      exact this.1
    · rw [List.all_eq_true] at h3 ⊢
      intro p hp
      have := h3 p hp
      unfold ptOk at this
      simp only [Bool.and_eq_true] at this
      exact this.2
  · rintro ⟨h1, h4, h7, h5, h8, h6⟩
    refine ⟨⟨by omega, by omega⟩, ?_, h4, h5, h6⟩
    have hup : ∀ i, i + 1 < ps.length → (ptAt ps i).1 < (ptAt ps (i + 1)).1 := fun i hi => by
      have := riseBy_get h5 i hi _ _ (ptAt_some ps i (by omega)) (ptAt_some ps (i + 1) hi)
      unfold xUp at this
      exact of_decide_eq_true this
    have hle : ∀ k i, i + k < ps.length → (ptAt ps i).1 ≤ (ptAt ps (i + k)).1 := fun k => by
      induction k with
      | zero => intro i _; exact Int.le_refl _
      | succ k ih =>
        intro i hi
        have h9 := ih i (by omega)
        have := hup (i + k) (by omega)
        rw [show i + (k + 1) = i + k + 1 from rfl]
        omega
    rw [List.all_eq_true] at h8 ⊢
    intro p hp
    obtain ⟨i, hi, rfl⟩ := List.getElem_of_mem hp
    have e1 : ps[i] = ptAt ps i := Option.some.inj ((List.getElem?_eq_getElem hi).symm.trans (ptAt_some ps i hi))
    have hy := h8 _ hp
    have l1 := hle i 0 (by omega)
    have l2 := hle (ps.length - 1 - i) i (by omega)
    rw [Nat.zero_add] at l1
    rw [show i + (ps.length - 1 - i) = ps.length - 1 by omega] at l2
    unfold ptOk
    rw [Bool.and_eq_true, inB_iff]
    rw [e1] at hy ⊢
    exact ⟨by omega, hy⟩

theorem isValidPump_any (b : Nat) (id : ByteArray) (B : Option Addr) (d : Nat) (ps : List (Int × Int)) (w : World) (hO : PmpO w b id B d ps) (h : PtsOk w B ps.length ps) (hs : id.size ≤ maxLen) :
    Calls Try.prog 49 #[.pointer (some ⟨b, 0, none⟩)] w fun e w' => e = .returned (.bool (nameL id.data.toList && okC ps)) ∧ Below w.heap.size w w' := by
  have HCH := Lib.hid (okC_chain ps)
  have HH := Lib.hid h
  have HO := Lib.hid hO
  have hpl := h.2
  clear h
  have ⟨n0, n1⟩ := hO
  clear hO
  go_enter Try.func49, Try.ntmps49
  go_wp2_with fail
  refine (implIsName_any id _ hs).mono ?_
  rintro e w1 ⟨rfl, hb⟩
  have hO := HO.out.next hb
  clear n0 n1
  have ⟨n0, n1⟩ := hO
  by_cases h1 : nameL id.data.toList = true
  rotate_left
  · have h1 : nameL id.data.toList = false := by simpa only [Bool.not_eq_true] using h1
    have HV : Hid ((nameL id.data.toList && okC ps) = false) := Lib.hid (by rw [h1]; rfl)
    rw [h1]
    go_wp2
    go_ret
    exact ⟨by rw [HV.out]; rfl, hb⟩
  have HN : Hid ((nameL id.data.toList && okC ps) = okC ps) := Lib.hid (by rw [h1]; rfl)
  rw [h1]
  clear h1
  go_wp2_with fail
  refine (oneInt _ 2 8 _ _ _ (by simp) (by omega)).mono ?_
  rintro e w2 ⟨rfl, hb2⟩
  have hb := bnext hb hb2
  have hO := hO.next hb2
  clear n0 n1 hb2
  have ⟨n0, n1⟩ := hO
  by_cases h1 : inB (ps.length : Int) 2 8 = true
  rotate_left
  · have h1 : inB (ps.length : Int) 2 8 = false := by simpa only [Bool.not_eq_true] using h1
    have HV : Hid (okC ps = false) := Lib.hid (by rw [HCH.out, h1]; rfl)
    rw [h1]
    go_wp2
    go_ret
    exact ⟨by rw [HN.out, HV.out]; rfl, hb⟩
  have hl := inB_iff.1 h1
  have HC1 : Hid (okC ps = (decide ((ptAt ps 0).1 = 0) && (inB (ptAt ps (ps.length - 1)).1 0 100000 && (riseBy xUp ps ps.length && ((ps.all yOk) && riseBy yDn ps ps.length))))) := Lib.hid (by rw [HCH.out, h1]; rfl)
  rw [h1]
  clear h1
  have hl0 : 0 < ps.length := by omega
  obtain ⟨bt, ot, hB, hrow⟩ := PtO.at ((HH.out.go hb).cells) hl0
  have ⟨p0, p1⟩ := hrow 0 _ (ptAt_some ps 0 hl0)
  rw [Nat.zero_mul, Nat.add_zero] at p0 p1
  have HB := Lib.hid hB
  rw [hB] at n1
  clear hrow hB
  by_cases h1 : (ptAt ps 0).1 = 0
  rotate_left
  · have HV : Hid (okC ps = false) := Lib.hid (by rw [HC1.out, decide_eq_false h1]; rfl)
    have hne : ((ptAt ps 0).1 == 0) = false := by simpa using h1
    generalize ptAt ps 0 = pt at *
    clear h1
    go_wp2
    go_ret
    exact ⟨by rw [HN.out, HV.out]; rfl, hb⟩
  have HC2 : Hid (okC ps = (inB (ptAt ps (ps.length - 1)).1 0 100000 && (riseBy xUp ps ps.length && ((ps.all yOk) && riseBy yDn ps ps.length)))) := Lib.hid (by rw [HC1.out, decide_eq_true h1]; rfl)
  have hne : ((ptAt ps 0).1 == 0) = true := by rw [h1]; rfl
  clear h1 HC1
  have HLF := Lib.hid (fun wx (hbx : Below w.heap.size w wx) (hox : PmpO wx b id B d ps) => lastFlow_any b id B d ps wx hox (HH.out.go hbx) hl0)
  generalize ptAt ps 0 = pt at *
  go_wp2_with fail
  refine (HLF.out _ hb hO).mono ?_
  rintro e w3 ⟨rfl, ⟨k3, rfl⟩⟩
  have hdr : Below w2.heap.size w2 (w2.drewN k3) := below_drewN (Below.refl _ _) k3
  have hb := bnext hb hdr
  have hO := hO.next hdr
  clear n0 n1 p0 p1 hdr hne
  have ⟨n0, n1⟩ := hO
  rw [HB.out] at n1
  generalize (ptAt ps (ps.length - 1)).1 = lf at *
  go_wp2_with fail
  refine (isPumped_any lf _).mono ?_
  rintro e w4 ⟨rfl, hb4⟩
  have hb := bnext hb hb4
  have hO := hO.next hb4
  clear n0 n1 hb4
  have ⟨n0, n1⟩ := hO
  by_cases h1 : inB lf 0 100000 = true
  rotate_left
  · have h1 : inB lf 0 100000 = false := by simpa only [Bool.not_eq_true] using h1
    have HV : Hid (okC ps = false) := Lib.hid (by rw [HC2.out, h1]; rfl)
    rw [h1]
    go_wp2
    go_ret
    exact ⟨by rw [HN.out, HV.out]; rfl, hb⟩
  have HC3 : Hid (okC ps = (riseBy xUp ps ps.length && ((ps.all yOk) && riseBy yDn ps ps.length))) := Lib.hid (by rw [HC2.out, h1]; rfl)
  rw [h1]
  clear h1 HC2
  go_wp2_with fail
  refine (increasingPt_any B ps.length d ps _ (HH.out.go hb)).mono ?_
  rintro e w5 ⟨rfl, hb5⟩
  have hb := bnext hb hb5
  have hO := hO.next hb5
  clear n0 n1 hb5
  have ⟨n0, n1⟩ := hO
  by_cases h1 : riseBy xUp ps ps.length = true
  rotate_left
  · have h1 : riseBy xUp ps ps.length = false := by simpa only [Bool.not_eq_true] using h1
    have HV : Hid (okC ps = false) := Lib.hid (by rw [HC3.out, h1]; rfl)
    rw [h1]
    go_wp2
    go_ret
    exact ⟨by rw [HN.out, HV.out]; rfl, hb⟩
  have HC4 : Hid (okC ps = ((ps.all yOk) && riseBy yDn ps ps.length)) := Lib.hid (by rw [HC3.out, h1]; rfl)
  rw [h1]
  clear h1 HC3
  go_wp2_with fail
  refine (containsPt_any B ps.length d ps _ (HH.out.go hb)).mono ?_
  rintro e w6 ⟨rfl, hb6⟩
  have hb := bnext hb hb6
  have hO := hO.next hb6
  clear n0 n1 hb6
  have ⟨n0, n1⟩ := hO
  by_cases h1 : ps.all yOk = true
  rotate_left
  · have h1 : ps.all yOk = false := by simpa only [Bool.not_eq_true] using h1
    have HV : Hid (okC ps = false) := Lib.hid (by rw [HC4.out, h1]; rfl)
    rw [h1]
    go_wp2
    go_ret
    exact ⟨by rw [HN.out, HV.out]; rfl, hb⟩
  have HC5 : Hid (okC ps = riseBy yDn ps ps.length) := Lib.hid (by rw [HC4.out, h1]; rfl)
  rw [h1]
  clear h1 HC4
  go_wp2_with fail
  refine (sortedPt_any B ps.length d ps _ (HH.out.go hb)).mono ?_
  rintro e w7 ⟨rfl, hb7⟩
  go_wp2
  go_ret
  exact ⟨by rw [HN.out, HC5.out]; rfl, bnext hb hb7⟩
theorem crv_length (Z : List (List Int)) : (crv Z).length ≤ Z.length := by
  unfold crv
  split
  · rw [List.length_map]; exact Nat.le_refl _
  · exact Nat.zero_le _
theorem implVP_any (x : Pm) (w : World) (h : x.okay w) :
    Calls Try.prog 16 #[.agg #[.string x.d.id, .slice x.cvA x.d.cv.length x.cvc]] w fun e w' => e = .returned (.bool (okPu x.d)) ∧ Below w.heap.size w w' := by
  have hb : Below w.heap.size w (w.alloc (.cells #[.string x.d.id, .slice x.cvA x.d.cv.length x.cvc] 27)) := bal (Below.refl _ _) _
  have hN := PmO.new w x 27
  have HC := Lib.hid (newPump_any x (w.alloc (.cells #[.string x.d.id, .slice x.cvA x.d.cv.length x.cvc] 27)) (h.go hb))
  have HV : Hid (okPu x.d = (nameL x.d.id.data.toList && okC (crv x.d.cv))) := Lib.hid (by unfold okPu; rw [okC_crv])
  have hcl : (crv x.d.cv).length ≤ 1048576 := Nat.le_trans (crv_length _) h.2.1
  have hsz := h.1.1
  have ⟨n0, n1⟩ := hN
  clear h hN
  go_enter Try.func16, Try.ntmps16
  go_wp2_with fail
  refine HC.out.mono ?_
  rintro e w1 ⟨b, B, d, rfl, hO, hown, -, -, hb1⟩
  have hpts := RetPump.pts hown hcl
  have hb2 := bnext hb hb1
  have HIV := Lib.hid (isValidPump_any b x.d.id B d (crv x.d.cv) w1 hO hpts hsz)
  clear hO hown hpts hb1
  go_wp2_with fail
  refine HIV.out.mono ?_
  rintro e w2 ⟨rfl, hb3⟩
  go_wp2
  go_ret
  exact ⟨by rw [HV.out]; rfl, bnext hb2 hb3⟩
theorem specValidPump_ds (x : Pm) (w : World) (h : x.okay w) :
    Calls Try.prog 14 #[.agg #[.string x.d.id, .slice x.cvA x.d.cv.length x.cvc]] w fun e w' => e = .returned (.bool (validPumpR0 x.d)) ∧ Below w.heap.size w w' := specVP_any x w h
theorem implValidPump_ds (x : Pm) (w : World) (h : x.okay w) :
    Calls Try.prog 16 #[.agg #[.string x.d.id, .slice x.cvA x.d.cv.length x.cvc]] w fun e w' => e = .returned (.bool (validPumpR0 x.d)) ∧ Below w.heap.size w w' := implVP_any x w h
end Go.Proofs.Ytkbkmpcdidhagab
