/-
  What makes a pipe valid, wherever it lies; what makes a network valid.
-/
import Derived.Test.YtdaedgdglammhaaGs
import Derived.Test.YtdaedgdglammhaaH0
namespace Go.Proofs.Ytdaedgdglammhaa
open Go.ChangeShapes Go.WideShapes Go.ChangeAt Go.RowKit

/-- a pipe that is valid and joins two of n nodes -/
def fitB (n : Nat) (p : Pp) : Bool := p.ok && (decide (p.f < n) && decide (p.t < n))
/-- the name of the i-th pipe stands behind that of the one ahead of it -/
def riseAt (ps : List Pp) (i : Nat) : Bool := match ps[i - 1]?, ps[i]? with
  | some p, some q => i == 0 || idLt p.id q.id
  | _, _ => true
def riseTo (ps : List Pp) (k : Nat) : Bool := (List.range k).all (riseAt ps)
theorem riseTo_succ (ps : List Pp) (k : Nat) : riseTo ps (k + 1) = (riseTo ps k && riseAt ps k) := by
  unfold riseTo
  rw [List.range_succ, List.all_append]
  simp
theorem riseTo_false (ps : List Pp) (k n : Nat) (h : k < n) (hf : riseAt ps k = false) : riseTo ps n = false := by
  unfold riseTo
  rw [List.all_eq_false]
  exact ⟨k, List.mem_range.2 h, by simp [hf]⟩
theorem riseAt_zero (ps : List Pp) : riseAt ps 0 = true := by
  unfold riseAt
  split <;> rfl
theorem riseAt_at (ps : List Pp) (k : Nat) (p q : Pp) (hp : ps[k]? = some p) (hq : ps[k + 1]? = some q) : riseAt ps (k + 1) = idLt p.id q.id := by
  unfold riseAt
  rw [Nat.add_sub_cancel, hp, hq]
  simp
/-- a network that is valid -/
def netB (zs : List Int) (ps : List Pp) : Bool := inB zs.length 1 16 && (allIn (-100000) 100000 zs && (decide (ps.length ≤ 20) && (ps.all (fitB zs.length) && riseTo ps ps.length)))
theorem netB_parts {zs : List Int} {ps : List Pp} (h : netB zs ps = true) : (1 ≤ zs.length ∧ zs.length ≤ 16) ∧ allIn (-100000) 100000 zs = true ∧ ps.length ≤ 20 ∧ ps.all (fitB zs.length) = true ∧ riseTo ps ps.length = true := by
  unfold netB at h
  simp only [Bool.and_eq_true, inB_iff, decide_eq_true_eq] at h
  obtain ⟨h1, h2, h3, h4, h5⟩ := h
  exact ⟨by omega, h2, h3, h4, h5⟩
theorem fitB_parts {n : Nat} {p : Pp} (h : fitB n p = true) : p.ok = true ∧ p.f < n ∧ p.t < n := by
  unfold fitB at h
  simp only [Bool.and_eq_true, decide_eq_true_eq] at h
  exact h
theorem okP_ends {p : Pp} (h : p.ok = true) : (0 ≤ p.f ∧ p.f ≤ 15) ∧ (0 ≤ p.t ∧ p.t ≤ 15) ∧ p.f ≠ p.t := by
  unfold Pp.ok okP at h
  simp only [Bool.and_eq_true, inB_iff, Bool.not_eq_true', decide_eq_false_iff_not] at h
  exact ⟨h.2.1, h.2.2.1, h.2.2.2.1⟩
theorem fitB_at {n : Nat} {ps : List Pp} (h : ps.all (fitB n) = true) (k : Nat) (p : Pp) (hk : ps[k]? = some p) : fitB n p = true :=
  List.all_eq_true.1 h p (List.mem_of_getElem? hk)
theorem l03OkO_any (b o : Nat) (p : Pp) (w : World) (hp : PipeO w b o p) (hs : p.id.size ≤ maxLen) :
    Calls Try.prog 146 #[.pointer (some ⟨b, o, none⟩)] w fun e w' => e = .returned (.bool p.ok) ∧ Drawn w w' := by
  obtain ⟨id, f, t, L, d, s⟩ := p
  obtain ⟨p0, p1, p2, p3, p4, p5⟩ := hp
  unfold Pp.ok
  dsimp only at *
  by_cases h0 : nameL id.data.toList = true
  · skip
    by_cases h1 : inB f 0 15 = true
    · skip
      by_cases h2 : inB t 0 15 = true
      · skip
        by_cases h3 : f = t
        · have h3' : (f == t) = true := by simpa using h3
          have h3n : (f != t) = false := by simpa using h3
          have hv : okP id f t L d s = false := by unfold okP; simp [h3]
          rw [hv]
          clear hv
          have H3 := Lib.hid h3
          clear h3
          go_enter Try.func146, Try.ntmps146
          go_wp2
          go_quiet ((first | (go_at_call 138; exact quiet_same (l01Name_any _ _ hs)) | (go_at_call 65; exact quiet_same (in_any _ _ _ _))))
          go_wp2
          go_ret
          exact ⟨rfl, ⟨_, rfl⟩⟩
        · have h3' : (f == t) = false := by simpa using h3
          have h3n : (f != t) = true := by simpa using h3
          by_cases h4 : inB L 1 10000 = true
          · skip
            by_cases h5 : inB d 20 1000 = true
            · skip
              by_cases h6 : inB s 0 5000 = true
              · skip
                have hv : okP id f t L d s = true := by unfold okP; simp [*]
                rw [hv]
                clear hv
                go_enter Try.func146, Try.ntmps146
                go_wp2
                go_quiet ((first | (go_at_call 138; exact quiet_same (l01Name_any _ _ hs)) | (go_at_call 65; exact quiet_same (in_any _ _ _ _))))
                go_wp2_with ((go_at_call 65; refine (in_any _ _ _ _).mono ?_; rintro e w' ⟨rfl, rfl⟩))
                go_ret
                exact ⟨rfl, ⟨_, rfl⟩⟩
              · have h6' : inB s 0 5000 = false := by simpa using h6
                have hv : okP id f t L d s = false := by unfold okP; simp [*]
                rw [hv]
                clear hv
                go_enter Try.func146, Try.ntmps146
                go_wp2
                go_quiet ((first | (go_at_call 138; exact quiet_same (l01Name_any _ _ hs)) | (go_at_call 65; exact quiet_same (in_any _ _ _ _))))
                go_wp2_with ((go_at_call 65; refine (in_any _ _ _ _).mono ?_; rintro e w' ⟨rfl, rfl⟩))
                go_ret
                exact ⟨rfl, ⟨_, rfl⟩⟩
            · have h5' : inB d 20 1000 = false := by simpa using h5
              have hv : okP id f t L d s = false := by unfold okP; simp [*]
              rw [hv]
              clear hv
              go_enter Try.func146, Try.ntmps146
              go_wp2
              go_quiet ((first | (go_at_call 138; exact quiet_same (l01Name_any _ _ hs)) | (go_at_call 65; exact quiet_same (in_any _ _ _ _))))
              go_wp2_with ((go_at_call 65; refine (in_any _ _ _ _).mono ?_; rintro e w' ⟨rfl, rfl⟩))
              go_ret
              exact ⟨rfl, ⟨_, rfl⟩⟩
          · have h4' : inB L 1 10000 = false := by simpa using h4
            have hv : okP id f t L d s = false := by unfold okP; simp [*]
            rw [hv]
            clear hv
            go_enter Try.func146, Try.ntmps146
            go_wp2
            go_quiet ((first | (go_at_call 138; exact quiet_same (l01Name_any _ _ hs)) | (go_at_call 65; exact quiet_same (in_any _ _ _ _))))
            go_wp2_with ((go_at_call 65; refine (in_any _ _ _ _).mono ?_; rintro e w' ⟨rfl, rfl⟩))
            go_ret
            exact ⟨rfl, ⟨_, rfl⟩⟩
      · have h2' : inB t 0 15 = false := by simpa using h2
        have hv : okP id f t L d s = false := by unfold okP; simp [*]
        rw [hv]
        clear hv
        go_enter Try.func146, Try.ntmps146
        go_wp2
        go_quiet ((first | (go_at_call 138; exact quiet_same (l01Name_any _ _ hs)) | (go_at_call 65; exact quiet_same (in_any _ _ _ _))))
        go_wp2
        go_ret
        exact ⟨rfl, ⟨_, rfl⟩⟩
    · have h1' : inB f 0 15 = false := by simpa using h1
      have hv : okP id f t L d s = false := by unfold okP; simp [*]
      rw [hv]
      clear hv
      go_enter Try.func146, Try.ntmps146
      go_wp2
      go_quiet ((first | (go_at_call 138; exact quiet_same (l01Name_any _ _ hs)) | (go_at_call 65; exact quiet_same (in_any _ _ _ _))))
      go_wp2
      go_ret
      exact ⟨rfl, ⟨_, rfl⟩⟩
  · have h0' : nameL id.data.toList = false := by simpa using h0
    have hv : okP id f t L d s = false := by unfold okP; simp [*]
    rw [hv]
    clear hv
    go_enter Try.func146, Try.ntmps146
    go_wp2
    go_quiet ((first | (go_at_call 138; exact quiet_same (l01Name_any _ _ hs)) | (go_at_call 65; exact quiet_same (in_any _ _ _ _))))
    go_wp2
    go_ret
    exact ⟨rfl, ⟨_, rfl⟩⟩

end Go.Proofs.Ytdaedgdglammhaa
