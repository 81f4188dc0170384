/-
  What makes a substation valid: both sides; the code of a substation and of the other arguments.
-/
import Derived.Test.YtdaedgdglammhabSb2
import Derived.Test.YtdaedgdglammhabEx0
import Derived.Test.YtdaedgdglammhabP2
import Derived.Test.YtdaedgdglammhabB2
import Derived.BigQuiet
namespace Go.Proofs.Ytdaedgdglammhab
open Go.ChangeShapes Go.WideShapes Go.ChangeAt Go.RowKit

set_option linter.unusedVariables false
def okSb (x : Sb) : Bool := nameL x.id.data.toList && (inB x.nd 0 15 && (inB x.tr 1 100000 && (inB x.su 0 18000 && inB x.re 0 (x.su - 1))))
theorem okSb_bd {x : Sb} (h : okSb x = true) : nameL x.id.data.toList = true ∧ (0 ≤ x.nd ∧ x.nd ≤ 15) ∧ (1 ≤ x.tr ∧ x.tr ≤ 100000) ∧ (0 ≤ x.su ∧ x.su ≤ 18000) ∧ 0 ≤ x.re ∧ x.re < x.su := by
  unfold okSb at h
  simp only [Bool.and_eq_true, inB_iff] at h
  exact ⟨h.1, h.2.1, h.2.2.1, h.2.2.2.1, h.2.2.2.2.1, by omega⟩
/-- a substation as a value of the program's -/
abbrev Sb.agg (x : Sb) : Value := .agg #[.string x.id, .int .i64 x.nd, .int .i64 x.tr, .int .i64 x.su, .int .i64 x.re]

set_option maxRecDepth 100000 in
set_option maxHeartbeats 4000000 in
theorem l12One_any (b o : Nat) (x : Sb) (w : World) (hx : SbO w b o x) (hs : x.id.size ≤ maxLen) :
    Calls Try.prog 47 #[.pointer (some ⟨b, o, none⟩)] w fun e w' => e = .returned (.bool (okSb x)) ∧ Drawn w w' := by
  obtain ⟨p0, p1, p2, p3, p4⟩ := hx
  by_cases h0 : nameL x.id.data.toList = true
  · skip
    by_cases h1 : inB x.nd 0 15 = true
    · skip
      by_cases h2 : inB x.tr 1 100000 = true
      · skip
        by_cases h3 : inB x.su 0 18000 = true
        · skip
          by_cases h4 : inB x.re 0 (x.su - 1) = true
          · skip
            have hv : okSb x = true := by unfold okSb; simp only [h0, h1, h2, h3, h4, Bool.and_self]
            rw [hv]
            clear hv
            have HC0 := Lib.hid (fun W => by have h := l01Name_any x.id W hs; rw [h0] at h; exact h)
            have HC1 := Lib.hid (fun W => by have h := in_any x.nd 0 15 W; rw [h1] at h; exact h)
            have HC2 := Lib.hid (fun W => by have h := in_any x.tr 1 100000 W; rw [h2] at h; exact h)
            have HC3 := Lib.hid (fun W => by have h := l02Degrees_any x.su W; rw [h3] at h; exact h)
            have k3 := inB_iff.1 h3
            have ew : x.su - 1 = IntKind.i64.wrap (x.su - 1) := (IntWalk.i64_in _ (by omega)).symm
            have HC4 := Lib.hid (fun W => by have h := in_any x.re 0 (x.su - 1) W; rw [h4, ew] at h; exact h)
            clear ew
            go_enter Try.func47, Try.ntmps47
            go_wp2
            go_quiet (first | (go_at_call 76; with_reducible exact quiet_same (HC0.out _)) | (go_at_call 60; with_reducible exact quiet_same (HC1.out _)) | (go_at_call 60; with_reducible exact quiet_same (HC2.out _)) | (go_at_call 48; with_reducible exact quiet_same (HC3.out _)) | (go_at_call 60; with_reducible exact quiet_same (HC4.out _)))
            go_wp2
            go_ret
            exact ⟨rfl, ⟨_, rfl⟩⟩
          · have h4' : inB x.re 0 (x.su - 1) = false := by simpa using h4
            have hv : okSb x = false := by unfold okSb; rw [h4']; simp
            rw [hv]
            clear hv
            have HC0 := Lib.hid (fun W => by have h := l01Name_any x.id W hs; rw [h0] at h; exact h)
            have HC1 := Lib.hid (fun W => by have h := in_any x.nd 0 15 W; rw [h1] at h; exact h)
            have HC2 := Lib.hid (fun W => by have h := in_any x.tr 1 100000 W; rw [h2] at h; exact h)
            have HC3 := Lib.hid (fun W => by have h := l02Degrees_any x.su W; rw [h3] at h; exact h)
            have k3 := inB_iff.1 h3
            have ew : x.su - 1 = IntKind.i64.wrap (x.su - 1) := (IntWalk.i64_in _ (by omega)).symm
            have HC4 := Lib.hid (fun W => by have h := in_any x.re 0 (x.su - 1) W; rw [h4', ew] at h; exact h)
            clear ew
            go_enter Try.func47, Try.ntmps47
            go_wp2
            go_quiet (first | (go_at_call 76; with_reducible exact quiet_same (HC0.out _)) | (go_at_call 60; with_reducible exact quiet_same (HC1.out _)) | (go_at_call 60; with_reducible exact quiet_same (HC2.out _)) | (go_at_call 48; with_reducible exact quiet_same (HC3.out _)) | (go_at_call 60; with_reducible exact quiet_same (HC4.out _)))
            go_wp2
            go_ret
            exact ⟨rfl, ⟨_, rfl⟩⟩
        · have h3' : inB x.su 0 18000 = false := by simpa using h3
          have hv : okSb x = false := by unfold okSb; rw [h3']; simp
          rw [hv]
          clear hv
          have HC0 := Lib.hid (fun W => by have h := l01Name_any x.id W hs; rw [h0] at h; exact h)
          have HC1 := Lib.hid (fun W => by have h := in_any x.nd 0 15 W; rw [h1] at h; exact h)
          have HC2 := Lib.hid (fun W => by have h := in_any x.tr 1 100000 W; rw [h2] at h; exact h)
          have HC3 := Lib.hid (fun W => by have h := l02Degrees_any x.su W; rw [h3'] at h; exact h)
          go_enter Try.func47, Try.ntmps47
          go_wp2
          go_quiet (first | (go_at_call 76; with_reducible exact quiet_same (HC0.out _)) | (go_at_call 60; with_reducible exact quiet_same (HC1.out _)) | (go_at_call 60; with_reducible exact quiet_same (HC2.out _)) | (go_at_call 48; with_reducible exact quiet_same (HC3.out _)))
          go_wp2
          go_ret
          exact ⟨rfl, ⟨_, rfl⟩⟩
      · have h2' : inB x.tr 1 100000 = false := by simpa using h2
        have hv : okSb x = false := by unfold okSb; rw [h2']; simp
        rw [hv]
        clear hv
        have HC0 := Lib.hid (fun W => by have h := l01Name_any x.id W hs; rw [h0] at h; exact h)
        have HC1 := Lib.hid (fun W => by have h := in_any x.nd 0 15 W; rw [h1] at h; exact h)
        have HC2 := Lib.hid (fun W => by have h := in_any x.tr 1 100000 W; rw [h2'] at h; exact h)
        go_enter Try.func47, Try.ntmps47
        go_wp2
        go_quiet (first | (go_at_call 76; with_reducible exact quiet_same (HC0.out _)) | (go_at_call 60; with_reducible exact quiet_same (HC1.out _)) | (go_at_call 60; with_reducible exact quiet_same (HC2.out _)))
        go_wp2
        go_ret
        exact ⟨rfl, ⟨_, rfl⟩⟩
    · have h1' : inB x.nd 0 15 = false := by simpa using h1
      have hv : okSb x = false := by unfold okSb; rw [h1']; simp
      rw [hv]
      clear hv
      have HC0 := Lib.hid (fun W => by have h := l01Name_any x.id W hs; rw [h0] at h; exact h)
      have HC1 := Lib.hid (fun W => by have h := in_any x.nd 0 15 W; rw [h1'] at h; exact h)
      go_enter Try.func47, Try.ntmps47
      go_wp2
      go_quiet (first | (go_at_call 76; with_reducible exact quiet_same (HC0.out _)) | (go_at_call 60; with_reducible exact quiet_same (HC1.out _)))
      go_wp2
      go_ret
      exact ⟨rfl, ⟨_, rfl⟩⟩
  · have h0' : nameL x.id.data.toList = false := by simpa using h0
    have hv : okSb x = false := by unfold okSb; rw [h0']; simp
    rw [hv]
    clear hv
    have HC0 := Lib.hid (fun W => by have h := l01Name_any x.id W hs; rw [h0'] at h; exact h)
    go_enter Try.func47, Try.ntmps47
    go_wp2
    go_quiet ((go_at_call 76; with_reducible exact quiet_same (HC0.out _)))
    go_wp2
    go_ret
    exact ⟨rfl, ⟨_, rfl⟩⟩

set_option maxRecDepth 100000 in
set_option maxHeartbeats 4000000 in
theorem implValidSubstation_any (x : Sb) (w : World) (hs : x.id.size ≤ maxLen) :
    Calls Try.prog 43 #[.agg #[.string x.id, .int .i64 x.nd, .int .i64 x.tr, .int .i64 x.su, .int .i64 x.re]] w fun e w' => e = .returned (.bool (okSb x)) ∧ Below w.heap.size w w' := by
  have hp := SbO.new w x 34
  have hb : Below w.heap.size w (w.alloc (.cells #[.string x.id, .int .i64 x.nd, .int .i64 x.tr, .int .i64 x.su, .int .i64 x.re] 34)) := bal (Below.refl _ _) _
  by_cases h0 : nameL x.id.data.toList = true
  · skip
    by_cases h1 : inB x.nd 0 15 = true
    · skip
      by_cases h2 : inB x.tr 1 100000 = true
      · skip
        by_cases h3 : inB x.su 0 18000 = true
        · skip
          by_cases h4 : inB x.re 0 (x.su - 1) = true
          · skip
            have hv : okSb x = true := by unfold okSb; simp only [h0, h1, h2, h3, h4, Bool.and_self]
            rw [hv]
            clear hv
            have k3 := inB_iff.1 h3
            have k4 := inB_iff.1 h4
            have h5 : inB x.re 0 18000 = true := inB_true (by omega)
            have hl : decide (x.re < x.su) = true := decide_eq_true (by omega)
            go_enter Try.func43, Try.ntmps43
            go_wp2_with (first | (go_at_call 73; refine (implIsName_any _ _ hs).mono ?_; rintro e w' ⟨rfl, hb'⟩; first | (have hb := bnext hb hb'; have hp := SbO.next hp hb'; have ⟨p0, p1, p2, p3, p4⟩ := hp) | (have hb := bnext (bal hb _) hb'; have hp := SbO.next (SbO.alloc hp _) hb'; have ⟨p0, p1, p2, p3, p4⟩ := hp) | (have hb := bnext (bal (bal hb _) _) hb'; have hp := SbO.next (SbO.alloc (SbO.alloc hp _) _) hb'; have ⟨p0, p1, p2, p3, p4⟩ := hp) | (have hb := bnext (bal (bal (bal hb _) _) _) hb'; have hp := SbO.next (SbO.alloc (SbO.alloc (SbO.alloc hp _) _) _) hb'; have ⟨p0, p1, p2, p3, p4⟩ := hp)) | (go_at_call 74; refine (isNode_any _ _).mono ?_; rintro e w' ⟨rfl, hb'⟩; first | (have hb := bnext hb hb'; have hp := SbO.next hp hb'; have ⟨p0, p1, p2, p3, p4⟩ := hp) | (have hb := bnext (bal hb _) hb'; have hp := SbO.next (SbO.alloc hp _) hb'; have ⟨p0, p1, p2, p3, p4⟩ := hp) | (have hb := bnext (bal (bal hb _) _) hb'; have hp := SbO.next (SbO.alloc (SbO.alloc hp _) _) hb'; have ⟨p0, p1, p2, p3, p4⟩ := hp) | (have hb := bnext (bal (bal (bal hb _) _) _) hb'; have hp := SbO.next (SbO.alloc (SbO.alloc (SbO.alloc hp _) _) _) hb'; have ⟨p0, p1, p2, p3, p4⟩ := hp)) | (go_at_call 75; (with_reducible refine (one64At _ _ _ _ _ _ ?hn (by omega)).mono ?_); (case hn => simp); rintro e w' ⟨rfl, hb'⟩; first | (have hb := bnext hb hb'; have hp := SbO.next hp hb'; have ⟨p0, p1, p2, p3, p4⟩ := hp) | (have hb := bnext (bal hb _) hb'; have hp := SbO.next (SbO.alloc hp _) hb'; have ⟨p0, p1, p2, p3, p4⟩ := hp) | (have hb := bnext (bal (bal hb _) _) hb'; have hp := SbO.next (SbO.alloc (SbO.alloc hp _) _) hb'; have ⟨p0, p1, p2, p3, p4⟩ := hp) | (have hb := bnext (bal (bal (bal hb _) _) _) hb'; have hp := SbO.next (SbO.alloc (SbO.alloc (SbO.alloc hp _) _) _) hb'; have ⟨p0, p1, p2, p3, p4⟩ := hp)) | (go_at_call 52; (with_reducible refine (water2At _ _ _ _ _ ?hn).mono ?_); (case hn => simp); rintro e w' ⟨rfl, hb'⟩; first | (have hb := bnext hb hb'; have hp := SbO.next hp hb'; have ⟨p0, p1, p2, p3, p4⟩ := hp) | (have hb := bnext (bal hb _) hb'; have hp := SbO.next (SbO.alloc hp _) hb'; have ⟨p0, p1, p2, p3, p4⟩ := hp) | (have hb := bnext (bal (bal hb _) _) hb'; have hp := SbO.next (SbO.alloc (SbO.alloc hp _) _) hb'; have ⟨p0, p1, p2, p3, p4⟩ := hp) | (have hb := bnext (bal (bal (bal hb _) _) _) hb'; have hp := SbO.next (SbO.alloc (SbO.alloc (SbO.alloc hp _) _) _) hb'; have ⟨p0, p1, p2, p3, p4⟩ := hp)))
            go_ret
            first | exact ⟨rfl, hb⟩ | exact ⟨rfl, (bal hb _)⟩ | exact ⟨rfl, (bal (bal hb _) _)⟩ | exact ⟨rfl, (bal (bal (bal hb _) _) _)⟩ | exact ⟨rfl, (bal (bal (bal (bal hb _) _) _) _)⟩ | exact ⟨rfl, (bal (bal (bal (bal (bal hb _) _) _) _) _)⟩
          · have h4' : inB x.re 0 (x.su - 1) = false := by simpa using h4
            have hv : okSb x = false := by unfold okSb; rw [h4']; simp
            rw [hv]
            clear hv
            by_cases h5 : inB x.re 0 18000 = true
            · skip
              have ha : (inB x.su 0 18000 && inB x.re 0 18000) = true := by rw [h3, h5]; rfl
              have hl : decide (x.re < x.su) = false := decide_eq_false (fun hh => by have k5 := inB_iff.1 h5; rw [inB_true (by omega)] at h4'; cases h4')
              go_enter Try.func43, Try.ntmps43
              go_wp2_with (first | (go_at_call 73; refine (implIsName_any _ _ hs).mono ?_; rintro e w' ⟨rfl, hb'⟩; first | (have hb := bnext hb hb'; have hp := SbO.next hp hb'; have ⟨p0, p1, p2, p3, p4⟩ := hp) | (have hb := bnext (bal hb _) hb'; have hp := SbO.next (SbO.alloc hp _) hb'; have ⟨p0, p1, p2, p3, p4⟩ := hp) | (have hb := bnext (bal (bal hb _) _) hb'; have hp := SbO.next (SbO.alloc (SbO.alloc hp _) _) hb'; have ⟨p0, p1, p2, p3, p4⟩ := hp) | (have hb := bnext (bal (bal (bal hb _) _) _) hb'; have hp := SbO.next (SbO.alloc (SbO.alloc (SbO.alloc hp _) _) _) hb'; have ⟨p0, p1, p2, p3, p4⟩ := hp)) | (go_at_call 74; refine (isNode_any _ _).mono ?_; rintro e w' ⟨rfl, hb'⟩; first | (have hb := bnext hb hb'; have hp := SbO.next hp hb'; have ⟨p0, p1, p2, p3, p4⟩ := hp) | (have hb := bnext (bal hb _) hb'; have hp := SbO.next (SbO.alloc hp _) hb'; have ⟨p0, p1, p2, p3, p4⟩ := hp) | (have hb := bnext (bal (bal hb _) _) hb'; have hp := SbO.next (SbO.alloc (SbO.alloc hp _) _) hb'; have ⟨p0, p1, p2, p3, p4⟩ := hp) | (have hb := bnext (bal (bal (bal hb _) _) _) hb'; have hp := SbO.next (SbO.alloc (SbO.alloc (SbO.alloc hp _) _) _) hb'; have ⟨p0, p1, p2, p3, p4⟩ := hp)) | (go_at_call 75; (with_reducible refine (one64At _ _ _ _ _ _ ?hn (by omega)).mono ?_); (case hn => simp); rintro e w' ⟨rfl, hb'⟩; first | (have hb := bnext hb hb'; have hp := SbO.next hp hb'; have ⟨p0, p1, p2, p3, p4⟩ := hp) | (have hb := bnext (bal hb _) hb'; have hp := SbO.next (SbO.alloc hp _) hb'; have ⟨p0, p1, p2, p3, p4⟩ := hp) | (have hb := bnext (bal (bal hb _) _) hb'; have hp := SbO.next (SbO.alloc (SbO.alloc hp _) _) hb'; have ⟨p0, p1, p2, p3, p4⟩ := hp) | (have hb := bnext (bal (bal (bal hb _) _) _) hb'; have hp := SbO.next (SbO.alloc (SbO.alloc (SbO.alloc hp _) _) _) hb'; have ⟨p0, p1, p2, p3, p4⟩ := hp)) | (go_at_call 52; (with_reducible refine (water2At _ _ _ _ _ ?hn).mono ?_); (case hn => simp); rintro e w' ⟨rfl, hb'⟩; first | (have hb := bnext hb hb'; have hp := SbO.next hp hb'; have ⟨p0, p1, p2, p3, p4⟩ := hp) | (have hb := bnext (bal hb _) hb'; have hp := SbO.next (SbO.alloc hp _) hb'; have ⟨p0, p1, p2, p3, p4⟩ := hp) | (have hb := bnext (bal (bal hb _) _) hb'; have hp := SbO.next (SbO.alloc (SbO.alloc hp _) _) hb'; have ⟨p0, p1, p2, p3, p4⟩ := hp) | (have hb := bnext (bal (bal (bal hb _) _) _) hb'; have hp := SbO.next (SbO.alloc (SbO.alloc (SbO.alloc hp _) _) _) hb'; have ⟨p0, p1, p2, p3, p4⟩ := hp)))
              go_ret
              first | exact ⟨rfl, hb⟩ | exact ⟨rfl, (bal hb _)⟩ | exact ⟨rfl, (bal (bal hb _) _)⟩ | exact ⟨rfl, (bal (bal (bal hb _) _) _)⟩ | exact ⟨rfl, (bal (bal (bal (bal hb _) _) _) _)⟩ | exact ⟨rfl, (bal (bal (bal (bal (bal hb _) _) _) _) _)⟩
            · have h5' : inB x.re 0 18000 = false := by simpa using h5
              have ha : (inB x.su 0 18000 && inB x.re 0 18000) = false := by rw [h5']; simp
              go_enter Try.func43, Try.ntmps43
              go_wp2_with (first | (go_at_call 73; refine (implIsName_any _ _ hs).mono ?_; rintro e w' ⟨rfl, hb'⟩; first | (have hb := bnext hb hb'; have hp := SbO.next hp hb'; have ⟨p0, p1, p2, p3, p4⟩ := hp) | (have hb := bnext (bal hb _) hb'; have hp := SbO.next (SbO.alloc hp _) hb'; have ⟨p0, p1, p2, p3, p4⟩ := hp) | (have hb := bnext (bal (bal hb _) _) hb'; have hp := SbO.next (SbO.alloc (SbO.alloc hp _) _) hb'; have ⟨p0, p1, p2, p3, p4⟩ := hp) | (have hb := bnext (bal (bal (bal hb _) _) _) hb'; have hp := SbO.next (SbO.alloc (SbO.alloc (SbO.alloc hp _) _) _) hb'; have ⟨p0, p1, p2, p3, p4⟩ := hp)) | (go_at_call 74; refine (isNode_any _ _).mono ?_; rintro e w' ⟨rfl, hb'⟩; first | (have hb := bnext hb hb'; have hp := SbO.next hp hb'; have ⟨p0, p1, p2, p3, p4⟩ := hp) | (have hb := bnext (bal hb _) hb'; have hp := SbO.next (SbO.alloc hp _) hb'; have ⟨p0, p1, p2, p3, p4⟩ := hp) | (have hb := bnext (bal (bal hb _) _) hb'; have hp := SbO.next (SbO.alloc (SbO.alloc hp _) _) hb'; have ⟨p0, p1, p2, p3, p4⟩ := hp) | (have hb := bnext (bal (bal (bal hb _) _) _) hb'; have hp := SbO.next (SbO.alloc (SbO.alloc (SbO.alloc hp _) _) _) hb'; have ⟨p0, p1, p2, p3, p4⟩ := hp)) | (go_at_call 75; (with_reducible refine (one64At _ _ _ _ _ _ ?hn (by omega)).mono ?_); (case hn => simp); rintro e w' ⟨rfl, hb'⟩; first | (have hb := bnext hb hb'; have hp := SbO.next hp hb'; have ⟨p0, p1, p2, p3, p4⟩ := hp) | (have hb := bnext (bal hb _) hb'; have hp := SbO.next (SbO.alloc hp _) hb'; have ⟨p0, p1, p2, p3, p4⟩ := hp) | (have hb := bnext (bal (bal hb _) _) hb'; have hp := SbO.next (SbO.alloc (SbO.alloc hp _) _) hb'; have ⟨p0, p1, p2, p3, p4⟩ := hp) | (have hb := bnext (bal (bal (bal hb _) _) _) hb'; have hp := SbO.next (SbO.alloc (SbO.alloc (SbO.alloc hp _) _) _) hb'; have ⟨p0, p1, p2, p3, p4⟩ := hp)) | (go_at_call 52; (with_reducible refine (water2At _ _ _ _ _ ?hn).mono ?_); (case hn => simp); rintro e w' ⟨rfl, hb'⟩; first | (have hb := bnext hb hb'; have hp := SbO.next hp hb'; have ⟨p0, p1, p2, p3, p4⟩ := hp) | (have hb := bnext (bal hb _) hb'; have hp := SbO.next (SbO.alloc hp _) hb'; have ⟨p0, p1, p2, p3, p4⟩ := hp) | (have hb := bnext (bal (bal hb _) _) hb'; have hp := SbO.next (SbO.alloc (SbO.alloc hp _) _) hb'; have ⟨p0, p1, p2, p3, p4⟩ := hp) | (have hb := bnext (bal (bal (bal hb _) _) _) hb'; have hp := SbO.next (SbO.alloc (SbO.alloc (SbO.alloc hp _) _) _) hb'; have ⟨p0, p1, p2, p3, p4⟩ := hp)))
              go_ret
              first | exact ⟨rfl, hb⟩ | exact ⟨rfl, (bal hb _)⟩ | exact ⟨rfl, (bal (bal hb _) _)⟩ | exact ⟨rfl, (bal (bal (bal hb _) _) _)⟩ | exact ⟨rfl, (bal (bal (bal (bal hb _) _) _) _)⟩ | exact ⟨rfl, (bal (bal (bal (bal (bal hb _) _) _) _) _)⟩
        · have h3' : inB x.su 0 18000 = false := by simpa using h3
          have hv : okSb x = false := by unfold okSb; rw [h3']; simp
          rw [hv]
          clear hv
          have ha : (inB x.su 0 18000 && inB x.re 0 18000) = false := by rw [h3']; rfl
          go_enter Try.func43, Try.ntmps43
          go_wp2_with (first | (go_at_call 73; refine (implIsName_any _ _ hs).mono ?_; rintro e w' ⟨rfl, hb'⟩; first | (have hb := bnext hb hb'; have hp := SbO.next hp hb'; have ⟨p0, p1, p2, p3, p4⟩ := hp) | (have hb := bnext (bal hb _) hb'; have hp := SbO.next (SbO.alloc hp _) hb'; have ⟨p0, p1, p2, p3, p4⟩ := hp) | (have hb := bnext (bal (bal hb _) _) hb'; have hp := SbO.next (SbO.alloc (SbO.alloc hp _) _) hb'; have ⟨p0, p1, p2, p3, p4⟩ := hp) | (have hb := bnext (bal (bal (bal hb _) _) _) hb'; have hp := SbO.next (SbO.alloc (SbO.alloc (SbO.alloc hp _) _) _) hb'; have ⟨p0, p1, p2, p3, p4⟩ := hp)) | (go_at_call 74; refine (isNode_any _ _).mono ?_; rintro e w' ⟨rfl, hb'⟩; first | (have hb := bnext hb hb'; have hp := SbO.next hp hb'; have ⟨p0, p1, p2, p3, p4⟩ := hp) | (have hb := bnext (bal hb _) hb'; have hp := SbO.next (SbO.alloc hp _) hb'; have ⟨p0, p1, p2, p3, p4⟩ := hp) | (have hb := bnext (bal (bal hb _) _) hb'; have hp := SbO.next (SbO.alloc (SbO.alloc hp _) _) hb'; have ⟨p0, p1, p2, p3, p4⟩ := hp) | (have hb := bnext (bal (bal (bal hb _) _) _) hb'; have hp := SbO.next (SbO.alloc (SbO.alloc (SbO.alloc hp _) _) _) hb'; have ⟨p0, p1, p2, p3, p4⟩ := hp)) | (go_at_call 75; (with_reducible refine (one64At _ _ _ _ _ _ ?hn (by omega)).mono ?_); (case hn => simp); rintro e w' ⟨rfl, hb'⟩; first | (have hb := bnext hb hb'; have hp := SbO.next hp hb'; have ⟨p0, p1, p2, p3, p4⟩ := hp) | (have hb := bnext (bal hb _) hb'; have hp := SbO.next (SbO.alloc hp _) hb'; have ⟨p0, p1, p2, p3, p4⟩ := hp) | (have hb := bnext (bal (bal hb _) _) hb'; have hp := SbO.next (SbO.alloc (SbO.alloc hp _) _) hb'; have ⟨p0, p1, p2, p3, p4⟩ := hp) | (have hb := bnext (bal (bal (bal hb _) _) _) hb'; have hp := SbO.next (SbO.alloc (SbO.alloc (SbO.alloc hp _) _) _) hb'; have ⟨p0, p1, p2, p3, p4⟩ := hp)) | (go_at_call 52; (with_reducible refine (water2At _ _ _ _ _ ?hn).mono ?_); (case hn => simp); rintro e w' ⟨rfl, hb'⟩; first | (have hb := bnext hb hb'; have hp := SbO.next hp hb'; have ⟨p0, p1, p2, p3, p4⟩ := hp) | (have hb := bnext (bal hb _) hb'; have hp := SbO.next (SbO.alloc hp _) hb'; have ⟨p0, p1, p2, p3, p4⟩ := hp) | (have hb := bnext (bal (bal hb _) _) hb'; have hp := SbO.next (SbO.alloc (SbO.alloc hp _) _) hb'; have ⟨p0, p1, p2, p3, p4⟩ := hp) | (have hb := bnext (bal (bal (bal hb _) _) _) hb'; have hp := SbO.next (SbO.alloc (SbO.alloc (SbO.alloc hp _) _) _) hb'; have ⟨p0, p1, p2, p3, p4⟩ := hp)))
          go_ret
          first | exact ⟨rfl, hb⟩ | exact ⟨rfl, (bal hb _)⟩ | exact ⟨rfl, (bal (bal hb _) _)⟩ | exact ⟨rfl, (bal (bal (bal hb _) _) _)⟩ | exact ⟨rfl, (bal (bal (bal (bal hb _) _) _) _)⟩ | exact ⟨rfl, (bal (bal (bal (bal (bal hb _) _) _) _) _)⟩
      · have h2' : inB x.tr 1 100000 = false := by simpa using h2
        have hv : okSb x = false := by unfold okSb; rw [h2']; simp
        rw [hv]
        clear hv
        go_enter Try.func43, Try.ntmps43
        go_wp2_with (first | (go_at_call 73; refine (implIsName_any _ _ hs).mono ?_; rintro e w' ⟨rfl, hb'⟩; first | (have hb := bnext hb hb'; have hp := SbO.next hp hb'; have ⟨p0, p1, p2, p3, p4⟩ := hp) | (have hb := bnext (bal hb _) hb'; have hp := SbO.next (SbO.alloc hp _) hb'; have ⟨p0, p1, p2, p3, p4⟩ := hp) | (have hb := bnext (bal (bal hb _) _) hb'; have hp := SbO.next (SbO.alloc (SbO.alloc hp _) _) hb'; have ⟨p0, p1, p2, p3, p4⟩ := hp) | (have hb := bnext (bal (bal (bal hb _) _) _) hb'; have hp := SbO.next (SbO.alloc (SbO.alloc (SbO.alloc hp _) _) _) hb'; have ⟨p0, p1, p2, p3, p4⟩ := hp)) | (go_at_call 74; refine (isNode_any _ _).mono ?_; rintro e w' ⟨rfl, hb'⟩; first | (have hb := bnext hb hb'; have hp := SbO.next hp hb'; have ⟨p0, p1, p2, p3, p4⟩ := hp) | (have hb := bnext (bal hb _) hb'; have hp := SbO.next (SbO.alloc hp _) hb'; have ⟨p0, p1, p2, p3, p4⟩ := hp) | (have hb := bnext (bal (bal hb _) _) hb'; have hp := SbO.next (SbO.alloc (SbO.alloc hp _) _) hb'; have ⟨p0, p1, p2, p3, p4⟩ := hp) | (have hb := bnext (bal (bal (bal hb _) _) _) hb'; have hp := SbO.next (SbO.alloc (SbO.alloc (SbO.alloc hp _) _) _) hb'; have ⟨p0, p1, p2, p3, p4⟩ := hp)) | (go_at_call 75; (with_reducible refine (one64At _ _ _ _ _ _ ?hn (by omega)).mono ?_); (case hn => simp); rintro e w' ⟨rfl, hb'⟩; first | (have hb := bnext hb hb'; have hp := SbO.next hp hb'; have ⟨p0, p1, p2, p3, p4⟩ := hp) | (have hb := bnext (bal hb _) hb'; have hp := SbO.next (SbO.alloc hp _) hb'; have ⟨p0, p1, p2, p3, p4⟩ := hp) | (have hb := bnext (bal (bal hb _) _) hb'; have hp := SbO.next (SbO.alloc (SbO.alloc hp _) _) hb'; have ⟨p0, p1, p2, p3, p4⟩ := hp) | (have hb := bnext (bal (bal (bal hb _) _) _) hb'; have hp := SbO.next (SbO.alloc (SbO.alloc (SbO.alloc hp _) _) _) hb'; have ⟨p0, p1, p2, p3, p4⟩ := hp)) | (go_at_call 52; (with_reducible refine (water2At _ _ _ _ _ ?hn).mono ?_); (case hn => simp); rintro e w' ⟨rfl, hb'⟩; first | (have hb := bnext hb hb'; have hp := SbO.next hp hb'; have ⟨p0, p1, p2, p3, p4⟩ := hp) | (have hb := bnext (bal hb _) hb'; have hp := SbO.next (SbO.alloc hp _) hb'; have ⟨p0, p1, p2, p3, p4⟩ := hp) | (have hb := bnext (bal (bal hb _) _) hb'; have hp := SbO.next (SbO.alloc (SbO.alloc hp _) _) hb'; have ⟨p0, p1, p2, p3, p4⟩ := hp) | (have hb := bnext (bal (bal (bal hb _) _) _) hb'; have hp := SbO.next (SbO.alloc (SbO.alloc (SbO.alloc hp _) _) _) hb'; have ⟨p0, p1, p2, p3, p4⟩ := hp)))
        go_ret
        first | exact ⟨rfl, hb⟩ | exact ⟨rfl, (bal hb _)⟩ | exact ⟨rfl, (bal (bal hb _) _)⟩ | exact ⟨rfl, (bal (bal (bal hb _) _) _)⟩ | exact ⟨rfl, (bal (bal (bal (bal hb _) _) _) _)⟩ | exact ⟨rfl, (bal (bal (bal (bal (bal hb _) _) _) _) _)⟩
    · have h1' : inB x.nd 0 15 = false := by simpa using h1
      have hv : okSb x = false := by unfold okSb; rw [h1']; simp
      rw [hv]
      clear hv
      go_enter Try.func43, Try.ntmps43
      go_wp2_with (first | (go_at_call 73; refine (implIsName_any _ _ hs).mono ?_; rintro e w' ⟨rfl, hb'⟩; first | (have hb := bnext hb hb'; have hp := SbO.next hp hb'; have ⟨p0, p1, p2, p3, p4⟩ := hp) | (have hb := bnext (bal hb _) hb'; have hp := SbO.next (SbO.alloc hp _) hb'; have ⟨p0, p1, p2, p3, p4⟩ := hp) | (have hb := bnext (bal (bal hb _) _) hb'; have hp := SbO.next (SbO.alloc (SbO.alloc hp _) _) hb'; have ⟨p0, p1, p2, p3, p4⟩ := hp) | (have hb := bnext (bal (bal (bal hb _) _) _) hb'; have hp := SbO.next (SbO.alloc (SbO.alloc (SbO.alloc hp _) _) _) hb'; have ⟨p0, p1, p2, p3, p4⟩ := hp)) | (go_at_call 74; refine (isNode_any _ _).mono ?_; rintro e w' ⟨rfl, hb'⟩; first | (have hb := bnext hb hb'; have hp := SbO.next hp hb'; have ⟨p0, p1, p2, p3, p4⟩ := hp) | (have hb := bnext (bal hb _) hb'; have hp := SbO.next (SbO.alloc hp _) hb'; have ⟨p0, p1, p2, p3, p4⟩ := hp) | (have hb := bnext (bal (bal hb _) _) hb'; have hp := SbO.next (SbO.alloc (SbO.alloc hp _) _) hb'; have ⟨p0, p1, p2, p3, p4⟩ := hp) | (have hb := bnext (bal (bal (bal hb _) _) _) hb'; have hp := SbO.next (SbO.alloc (SbO.alloc (SbO.alloc hp _) _) _) hb'; have ⟨p0, p1, p2, p3, p4⟩ := hp)) | (go_at_call 75; (with_reducible refine (one64At _ _ _ _ _ _ ?hn (by omega)).mono ?_); (case hn => simp); rintro e w' ⟨rfl, hb'⟩; first | (have hb := bnext hb hb'; have hp := SbO.next hp hb'; have ⟨p0, p1, p2, p3, p4⟩ := hp) | (have hb := bnext (bal hb _) hb'; have hp := SbO.next (SbO.alloc hp _) hb'; have ⟨p0, p1, p2, p3, p4⟩ := hp) | (have hb := bnext (bal (bal hb _) _) hb'; have hp := SbO.next (SbO.alloc (SbO.alloc hp _) _) hb'; have ⟨p0, p1, p2, p3, p4⟩ := hp) | (have hb := bnext (bal (bal (bal hb _) _) _) hb'; have hp := SbO.next (SbO.alloc (SbO.alloc (SbO.alloc hp _) _) _) hb'; have ⟨p0, p1, p2, p3, p4⟩ := hp)) | (go_at_call 52; (with_reducible refine (water2At _ _ _ _ _ ?hn).mono ?_); (case hn => simp); rintro e w' ⟨rfl, hb'⟩; first | (have hb := bnext hb hb'; have hp := SbO.next hp hb'; have ⟨p0, p1, p2, p3, p4⟩ := hp) | (have hb := bnext (bal hb _) hb'; have hp := SbO.next (SbO.alloc hp _) hb'; have ⟨p0, p1, p2, p3, p4⟩ := hp) | (have hb := bnext (bal (bal hb _) _) hb'; have hp := SbO.next (SbO.alloc (SbO.alloc hp _) _) hb'; have ⟨p0, p1, p2, p3, p4⟩ := hp) | (have hb := bnext (bal (bal (bal hb _) _) _) hb'; have hp := SbO.next (SbO.alloc (SbO.alloc (SbO.alloc hp _) _) _) hb'; have ⟨p0, p1, p2, p3, p4⟩ := hp)))
      go_ret
      first | exact ⟨rfl, hb⟩ | exact ⟨rfl, (bal hb _)⟩ | exact ⟨rfl, (bal (bal hb _) _)⟩ | exact ⟨rfl, (bal (bal (bal hb _) _) _)⟩ | exact ⟨rfl, (bal (bal (bal (bal hb _) _) _) _)⟩ | exact ⟨rfl, (bal (bal (bal (bal (bal hb _) _) _) _) _)⟩
  · have h0' : nameL x.id.data.toList = false := by simpa using h0
    have hv : okSb x = false := by unfold okSb; rw [h0']; simp
    rw [hv]
    clear hv
    go_enter Try.func43, Try.ntmps43
    go_wp2_with (first | (go_at_call 73; refine (implIsName_any _ _ hs).mono ?_; rintro e w' ⟨rfl, hb'⟩; first | (have hb := bnext hb hb'; have hp := SbO.next hp hb'; have ⟨p0, p1, p2, p3, p4⟩ := hp) | (have hb := bnext (bal hb _) hb'; have hp := SbO.next (SbO.alloc hp _) hb'; have ⟨p0, p1, p2, p3, p4⟩ := hp) | (have hb := bnext (bal (bal hb _) _) hb'; have hp := SbO.next (SbO.alloc (SbO.alloc hp _) _) hb'; have ⟨p0, p1, p2, p3, p4⟩ := hp) | (have hb := bnext (bal (bal (bal hb _) _) _) hb'; have hp := SbO.next (SbO.alloc (SbO.alloc (SbO.alloc hp _) _) _) hb'; have ⟨p0, p1, p2, p3, p4⟩ := hp)) | (go_at_call 74; refine (isNode_any _ _).mono ?_; rintro e w' ⟨rfl, hb'⟩; first | (have hb := bnext hb hb'; have hp := SbO.next hp hb'; have ⟨p0, p1, p2, p3, p4⟩ := hp) | (have hb := bnext (bal hb _) hb'; have hp := SbO.next (SbO.alloc hp _) hb'; have ⟨p0, p1, p2, p3, p4⟩ := hp) | (have hb := bnext (bal (bal hb _) _) hb'; have hp := SbO.next (SbO.alloc (SbO.alloc hp _) _) hb'; have ⟨p0, p1, p2, p3, p4⟩ := hp) | (have hb := bnext (bal (bal (bal hb _) _) _) hb'; have hp := SbO.next (SbO.alloc (SbO.alloc (SbO.alloc hp _) _) _) hb'; have ⟨p0, p1, p2, p3, p4⟩ := hp)) | (go_at_call 75; (with_reducible refine (one64At _ _ _ _ _ _ ?hn (by omega)).mono ?_); (case hn => simp); rintro e w' ⟨rfl, hb'⟩; first | (have hb := bnext hb hb'; have hp := SbO.next hp hb'; have ⟨p0, p1, p2, p3, p4⟩ := hp) | (have hb := bnext (bal hb _) hb'; have hp := SbO.next (SbO.alloc hp _) hb'; have ⟨p0, p1, p2, p3, p4⟩ := hp) | (have hb := bnext (bal (bal hb _) _) hb'; have hp := SbO.next (SbO.alloc (SbO.alloc hp _) _) hb'; have ⟨p0, p1, p2, p3, p4⟩ := hp) | (have hb := bnext (bal (bal (bal hb _) _) _) hb'; have hp := SbO.next (SbO.alloc (SbO.alloc (SbO.alloc hp _) _) _) hb'; have ⟨p0, p1, p2, p3, p4⟩ := hp)) | (go_at_call 52; (with_reducible refine (water2At _ _ _ _ _ ?hn).mono ?_); (case hn => simp); rintro e w' ⟨rfl, hb'⟩; first | (have hb := bnext hb hb'; have hp := SbO.next hp hb'; have ⟨p0, p1, p2, p3, p4⟩ := hp) | (have hb := bnext (bal hb _) hb'; have hp := SbO.next (SbO.alloc hp _) hb'; have ⟨p0, p1, p2, p3, p4⟩ := hp) | (have hb := bnext (bal (bal hb _) _) hb'; have hp := SbO.next (SbO.alloc (SbO.alloc hp _) _) hb'; have ⟨p0, p1, p2, p3, p4⟩ := hp) | (have hb := bnext (bal (bal (bal hb _) _) _) hb'; have hp := SbO.next (SbO.alloc (SbO.alloc (SbO.alloc hp _) _) _) hb'; have ⟨p0, p1, p2, p3, p4⟩ := hp)))
    go_ret
    first | exact ⟨rfl, hb⟩ | exact ⟨rfl, (bal hb _)⟩ | exact ⟨rfl, (bal (bal hb _) _)⟩ | exact ⟨rfl, (bal (bal (bal hb _) _) _)⟩ | exact ⟨rfl, (bal (bal (bal (bal hb _) _) _) _)⟩ | exact ⟨rfl, (bal (bal (bal (bal (bal hb _) _) _) _) _)⟩

theorem substationCode_any (x : Sb) (r : Bool) (w : World) (hs : x.id.size ≤ maxLen) :
    Calls Try.prog 51 #[.agg #[.string x.id, .int .i64 x.nd, .int .i64 x.tr, .int .i64 x.su, .int .i64 x.re], .bool r] w fun e w' => e = .returned (.int .i64 (argC (okSb x) r)) ∧ Below w.heap.size w w' := by
  have hb : Below w.heap.size w w := Below.refl _ _
  go_enter Try.func51, Try.ntmps51
  go_wp2_with (first | (go_at_call 43; refine (implValidSubstation_any _ _ hs).mono ?_; rintro e w' ⟨rfl, hb'⟩; first | have hb := bnext hb hb' | have hb := bnext (bal hb _) hb' | have hb := bnext (bal (bal hb _) _) hb' | have hb := bnext (bal (bal (bal hb _) _) _) hb' | have hb := bnext (bal (bal (bal (bal hb _) _) _) _) hb' | have hb := bnext (bal (bal (bal (bal (bal hb _) _) _) _) _) hb') | (go_at_call 77; refine (argumentCode_any _ _ _).mono ?_; rintro e w' ⟨rfl, rfl⟩))
  go_ret
  first | exact ⟨rfl, hb⟩ | exact ⟨rfl, (bal hb _)⟩ | exact ⟨rfl, (bal (bal hb _) _)⟩ | exact ⟨rfl, (bal (bal (bal hb _) _) _)⟩ | exact ⟨rfl, (bal (bal (bal (bal hb _) _) _) _)⟩ | exact ⟨rfl, (bal (bal (bal (bal (bal hb _) _) _) _) _)⟩

end Go.Proofs.Ytdaedgdglammhab
