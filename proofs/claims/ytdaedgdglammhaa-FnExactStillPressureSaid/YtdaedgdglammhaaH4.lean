/-
  What makes a network valid, for the model.
-/
import Derived.Test.YtdaedgdglammhaaH2
namespace Go.Proofs.Ytdaedgdglammhaa
open Go.ChangeShapes Go.WideShapes Go.ChangeAt Go.RowKit
set_option maxRecDepth 100000
set_option linter.unusedVariables false

/-- a network in memory: its two slices -/
def NetAt (w : World) (b : Nat) (A : Option Addr) (n c : Nat) (B : Option Addr) (m d : Nat) : Prop :=
  w.cell? ⟨b, 0, none⟩ = some (.slice A n c) ∧ w.cell? ⟨b, 1, none⟩ = some (.slice B m d)
theorem NetAt.lies {w : World} {b : Nat} {A : Option Addr} {n c : Nat} {B : Option Addr} {m d : Nat} (h : NetAt w b A n c B m d) : b < w.heap.size := World.block_lt_of_cell? _ _ h.1
theorem NetAt.next {w w' : World} {b : Nat} {A : Option Addr} {n c : Nat} {B : Option Addr} {m d : Nat} (h : NetAt w b A n c B m d) (hb : Below w.heap.size w w') : NetAt w' b A n c B m d :=
  ⟨(hb.cell (p := ⟨b, 0, none⟩) h.lies).trans h.1, (hb.cell (p := ⟨b, 1, none⟩) h.lies).trans h.2⟩
theorem NetAt.new (w : World) (A : Option Addr) (n c : Nat) (B : Option Addr) (m d : Nat) (T : TypeId) : NetAt (w.alloc (.cells #[.slice A n c, .slice B m d] T)) w.heap.size A n c B m d := by
  unfold NetAt
  simp

theorem l04Fits_any (bn b o : Nat) (A : Option Addr) (n c : Nat) (B : Option Addr) (m d : Nat) (p : Pp) (w : World) (hN : NetAt w bn A n c B m d) (hp : PipeO w b o p) (hs : p.id.size ≤ maxLen) (hn : n ≤ 1048576) :
    Calls Try.prog 120 #[.pointer (some ⟨bn, 0, none⟩), .pointer (some ⟨b, o, none⟩)] w fun e w' => e = .returned (.bool (fitB n p)) ∧ Drawn w w' := by
  have HF := Lib.hid (fun k => l03OkO_any b o p (w.drewN k) hp hs)
  obtain ⟨n0, n1⟩ := hN
  obtain ⟨p0, p1, p2, p3, p4, p5⟩ := hp
  by_cases h0 : p.ok = true
  · rw [h0] at HF
    by_cases h1 : p.f < n
    · have h1' : decide (p.f < (n : Int)) = true := decide_eq_true h1
      by_cases h2 : p.t < n
      · have h2' : decide (p.t < (n : Int)) = true := decide_eq_true h2
        have hv : fitB n p = true := by unfold fitB; simp [*]
        rw [hv]
        clear hv
        go_enter Try.func120, Try.ntmps120
        go_wp2
        go_quiet ((go_at_call 146; exact quiet_drawn (HF.out _)))
        go_wp2
        go_ret
        exact ⟨rfl, ⟨_, rfl⟩⟩
      · have h2' : decide (p.t < (n : Int)) = false := decide_eq_false h2
        have hv : fitB n p = false := by unfold fitB; simp [*]
        rw [hv]
        clear hv
        go_enter Try.func120, Try.ntmps120
        go_wp2
        go_quiet ((go_at_call 146; exact quiet_drawn (HF.out _)))
        go_wp2
        go_ret
        exact ⟨rfl, ⟨_, rfl⟩⟩
    · have h1' : decide (p.f < (n : Int)) = false := decide_eq_false h1
      have hv : fitB n p = false := by unfold fitB; simp [*]
      rw [hv]
      clear hv
      go_enter Try.func120, Try.ntmps120
      go_wp2
      go_quiet ((go_at_call 146; exact quiet_drawn (HF.out _)))
      go_wp2
      go_ret
      exact ⟨rfl, ⟨_, rfl⟩⟩
  · have h0 : p.ok = false := by simpa using h0
    rw [h0] at HF
    have hv : fitB n p = false := by unfold fitB; simp [*]
    rw [hv]
    clear hv
    go_enter Try.func120, Try.ntmps120
    go_wp2
    go_quiet ((go_at_call 146; exact quiet_drawn (HF.out _)))
    go_wp2
    go_ret
    exact ⟨rfl, ⟨_, rfl⟩⟩

set_option maxHeartbeats 1000000 in
theorem l04Ok_any (bn : Nat) (A : Option Addr) (n c : Nat) (B : Option Addr) (m d : Nat) (zs : List Int) (ps : List Pp) (w : World) (hN : NetAt w bn A n c B m d) (hn : zs.length = n) (hm : ps.length = m) (hn1 : n ≤ 1048576) (hm1 : m ≤ 1048576)
    (hA : CellsAt w A (intsV zs)) (hB : CellsAt w B (rowsP ps)) (hid : ∀ p ∈ ps, p.id.size ≤ maxLen) :
    Calls Try.prog 63 #[.pointer (some ⟨bn, 0, none⟩)] w fun e w' => e = .returned (.bool (netB zs ps)) ∧ Drawn w w' := by
  have HFT := Lib.hid (fun (b o : Nat) (p : Pp) (k : Nat) (hp : PipeO w b o p) (hs : p.id.size ≤ maxLen) => l04Fits_any bn b o A n c B m d p (w.drewN k) hN hp hs hn1)
  obtain ⟨n0, n1⟩ := hN
  subst hn
  subst hm
  have HA := Lib.hid hA
  have HB := Lib.hid hB
  have HD := Lib.hid hid
  have HV : Hid (∀ v, netB zs ps = v → True) := Lib.hid (fun _ _ => trivial)
  clear hA hB hid HV
  go_enter Try.func63, Try.ntmps63
  go_wp2
  go_loopw [3] (fun i wr => ∃ k : Nat, k ≤ zs.length ∧ i = .int .i64 k ∧ allIn (-100000) 100000 (zs.take k) = true ∧ Drawn w wr) (fun i _ => zs.length - (intOf i).toNat)
  case atStart => exact ⟨0, Nat.zero_le _, rfl, by simp [allIn], Drawn.rfl' _⟩
  case round =>
    obtain ⟨k, hk, rfl, hall, ⟨nq, rfl⟩⟩ := hrel
    have Hall := Lib.hid hall
    clear hall
    by_cases hlt : k < zs.length
    · obtain ⟨b1, o1, rfl, h1⟩ := HA.out (by rw [intsV_length]; omega)
      have g1 : w.cell? ⟨b1, o1 + k, none⟩ = some (.int .i64 (zs.getD k 0)) := by rw [h1 k (by rw [intsV_length]; exact hlt), intsV_at _ _ hlt]; simp [List.getD, hlt]
      have Hts := Lib.hid (allIn_take_succ (-100000) 100000 zs k hlt)
      have Hfs := Lib.hid (allIn_false (-100000) 100000 zs k hlt)
      generalize zs.getD k 0 = z at *
      clear h1
      by_cases hz : inB z (-100000) 100000 = true
      · have HI := Lib.hid (fun wx => by have := in_any z (-100000) 100000 wx; rw [hz] at this; exact this)
        have Hz := Lib.hid (inB_iff.1 hz)
        clear hz
        go_wp2_with ((go_at_call 65; refine (HI.out _).mono ?_; rintro e w' ⟨rfl, rfl⟩))
        go_roundw
        case rel => exact ⟨k + 1, by omega, by go_num, by rw [Hts.out, Hall.out, Bool.true_and]; exact decide_eq_true Hz.out, ⟨_, rfl⟩⟩
        case measure => simp [intOf]; omega
      · have hz : inB z (-100000) 100000 = false := by simpa using hz
        have HI := Lib.hid (fun wx => by have := in_any z (-100000) 100000 wx; rw [hz] at this; exact this)
        have Hz : Hid (netB zs ps = false) := Lib.hid (by unfold netB; rw [Hfs.out (fun h => by rw [inB_true h] at hz; cases hz)]; simp)
        clear hz
        go_wp2_with ((go_at_call 65; refine (HI.out _).mono ?_; rintro e w' ⟨rfl, rfl⟩))
        go_ret
        exact ⟨by rw [Hz.out]; rfl, ⟨_, rfl⟩⟩
    · have hall := Hall.out
      rw [List.take_of_length_le (by omega)] at hall
      have HAL := Lib.hid hall
      clear hall Hall
      by_cases hl : (1 ≤ zs.length ∧ zs.length ≤ 16) ∧ ps.length ≤ 20
      · obtain ⟨⟨l0, l1⟩, l2⟩ := hl
        go_wp2
        go_loopw [4] (fun i wr => ∃ q : Nat, q ≤ ps.length ∧ i = .int .i64 q ∧ (ps.take q).all (fitB zs.length) = true ∧ riseTo ps q = true ∧ Drawn w wr) (fun i _ => ps.length - (intOf i).toNat)
        case atStart => exact ⟨0, Nat.zero_le _, rfl, by simp, rfl, ⟨_, rfl⟩⟩
        case round =>
          obtain ⟨q, hq, rfl, hfit, hrise, ⟨nr, rfl⟩⟩ := hrel
          have Hfit := Lib.hid hfit
          have Hrise := Lib.hid hrise
          clear hfit hrise
          by_cases hlq : q < ps.length
          · obtain ⟨b2, o2, rfl, hrow⟩ := pipe_at HB.out (by omega)
            have hp := List.getElem?_eq_getElem hlq
            have P := hrow q _ hp
            have hs := HD.out _ (List.mem_of_getElem? hp)
            have Hrow := Lib.hid hrow
            clear hrow
            have hsuc : (ps.take (q + 1)).all (fitB zs.length) = ((ps.take q).all (fitB zs.length) && fitB zs.length ps[q]) := all_take_succ _ _ _ hlq
            have hnot : fitB zs.length ps[q] = false → ps.all (fitB zs.length) = false := all_false_at _ _ _ hlq
            generalize ps[q] = p at *
            have HP := Lib.hid hp
            have HS := Lib.hid hsuc
            have HNo := Lib.hid hnot
            have HRS := Lib.hid (riseTo_succ ps q)
            have HRF := Lib.hid (riseTo_false ps q ps.length hlq)
            clear hp hsuc hnot
            by_cases hf : fitB zs.length p = true
            · have HC := Lib.hid (fun k => by have := HFT.out b2 (o2 + q * 6) p k P hs; rw [hf] at this; exact this)
              have HF := Lib.hid hf
              clear hf
              obtain ⟨p0, p1, p2, p3, p4, p5⟩ := P
              clear p1 p2 p3 p4 p5
              by_cases hq0 : q = 0
              · subst hq0
                have HC0 := Lib.hid (fun k => by have := HC.out k; rw [Nat.zero_mul, Nat.add_zero] at this; exact this)
                go_wp2
                go_quiet ((go_at_call 120; exact quiet_drawn2 (HC0.out _)))
                go_wp2
                go_roundw
                case rel => exact ⟨0 + 1, by omega, by go_num, by rw [HS.out, Hfit.out, HF.out]; rfl, by rw [HRS.out, Hrise.out, riseAt_zero]; rfl, ⟨_, rfl⟩⟩
                case measure => simp [intOf]; omega
              · obtain ⟨r, hr⟩ : ∃ r, q = r + 1 := ⟨q - 1, by omega⟩
                have hp' := List.getElem?_eq_getElem (show r < ps.length by omega)
                have P' := Hrow.out r _ hp'
                have hat : ∀ p', ps[r]? = some p' → riseAt ps q = idLt p'.id p.id := fun p' h' => by
                  have hq' : ps[r + 1]? = some p := by rw [← hr]; exact HP.out
                  have := riseAt_at ps r _ _ h' hq'
                  rw [← hr] at this
                  exact this
                replace hat := hat _ hp'
                generalize ps[r] = p' at *
                obtain ⟨s0, s1, s2, s3, s4, s5⟩ := P'
                clear s1 s2 s3 s4 s5 hp'
                have hi0 : 0 < q := by omega
                have hi1 : decide (0 < q) = true := decide_eq_true hi0
                have hi2 : (0 : Int) ≤ (q : Int) - 1 := by omega
                have hi3 : ((q : Int) - 1).toNat = r := by omega
                have hi4 : (q : Int) - 1 < (ps.length : Int) := by omega
                have HR := Lib.hid hr
                clear hr
                by_cases hl : Op.bytesLess p'.id.toList p.id.toList = true
                · have Hat : Hid (riseAt ps q = true) := Lib.hid (by rw [hat]; exact hl)
                  clear hat
                  go_wp2
                  go_quiet ((go_at_call 120; exact quiet_drawn2 (HC.out _)))
                  go_wp2
                  go_roundw
                  case rel => exact ⟨q + 1, by omega, by go_num, by rw [HS.out, Hfit.out, HF.out]; rfl, by rw [HRS.out, Hrise.out, Hat.out]; rfl, ⟨_, rfl⟩⟩
                  case measure => simp [intOf]; omega
                · have hl : Op.bytesLess p'.id.toList p.id.toList = false := by simpa using hl
                  have HV : Hid (netB zs ps = false) := Lib.hid (by
                    unfold netB
                    rw [HRF.out (by rw [hat]; exact hl)]
                    simp)
                  clear hat
                  go_wp2
                  go_quiet ((go_at_call 120; exact quiet_drawn2 (HC.out _)))
                  go_wp2
                  go_ret
                  exact ⟨by rw [HV.out]; rfl, ⟨_, World.drewN_drewN ..⟩⟩
            · have hf : fitB zs.length p = false := by simpa using hf
              have HC := Lib.hid (fun k => by have := HFT.out b2 (o2 + q * 6) p k P hs; rw [hf] at this; exact this)
              have HV : Hid (netB zs ps = false) := Lib.hid (by
                unfold netB
                rw [HNo.out hf]
                simp)
              obtain ⟨p0, p1, p2, p3, p4, p5⟩ := P
              clear p1 p2 p3 p4 p5 hf
              go_wp2
              go_quiet ((go_at_call 120; exact quiet_drawn2 (HC.out _)))
              go_wp2
              go_ret
              exact ⟨by rw [HV.out]; rfl, ⟨_, World.drewN_drewN ..⟩⟩
          · have e : q = ps.length := by omega
            subst e
            have HV : Hid (netB zs ps = true) := Lib.hid (by
              have hf := Hfit.out
              rw [List.take_length] at hf
              unfold netB
              rw [inB_true ⟨by omega, by omega⟩, HAL.out, hf, Hrise.out]
              simp [l2])
            go_wp2
            go_ret
            exact ⟨by rw [HV.out]; rfl, ⟨_, rfl⟩⟩
      · have HV : Hid (netB zs ps = false) := Lib.hid (by
          unfold netB
          by_cases h1 : inB zs.length 1 16 = true
          · have := inB_iff.1 h1
            have h2 : decide (ps.length ≤ 20) = false := decide_eq_false (fun h => hl ⟨⟨by omega, by omega⟩, h⟩)
            rw [h2]
            simp
          · have h1 : inB zs.length 1 16 = false := by simpa using h1
            rw [h1]
            simp)
        by_cases l0 : 1 ≤ zs.length
        · by_cases l1 : zs.length ≤ 16
          · have l2 : 20 < ps.length := by omega
            go_wp2
            go_ret
            exact ⟨by rw [HV.out]; rfl, ⟨_, rfl⟩⟩
          · go_wp2
            go_ret
            exact ⟨by rw [HV.out]; rfl, ⟨_, rfl⟩⟩
        · have l0 : zs.length < 1 := by omega
          go_wp2
          go_ret
          exact ⟨by rw [HV.out]; rfl, ⟨_, rfl⟩⟩

end Go.Proofs.Ytdaedgdglammhaa
