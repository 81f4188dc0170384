/-
  ValidNetwork of both sides.
-/
import Derived.Test.YtdaedgdglammhaaGs
import Derived.Test.YtdaedgdglammhaaH5
import Derived.IntWalk
import Derived.Deep.RegionHeld3
namespace Go.Proofs.Ytdaedgdglammhaa
open Go.ChangeShapes Go.WideShapes Go.ChangeAt Go.RowKit
set_option maxRecDepth 100000
set_option linter.unusedVariables false

theorem indexFunc_any (A : Option Addr) (n c : Nat) (B : Option Addr) (m d : Nat) (bn : Nat) (ps : List Pp) (w : World) (hn : n ≤ 1048576) (hl : ps.length = m) (hm : m ≤ 1048576) (hN : NetAt w bn A n c B m d) (hB : CellsAt w B (rowsP ps)) (hid : ∀ p ∈ ps, p.id.size ≤ maxLen) :
    Calls Try.prog 159 #[.slice B m d, .func (.func 149) #[] #[.pointer (some ⟨bn, 0, none⟩)]] w (IdxR (ps.all (fitB n)) w) := by
  subst hl
  have HB := Lib.hid hB
  have HD := Lib.hid hid
  have HN := Lib.hid hN
  clear hB hid hN
  go_enter Try.func159, Try.ntmps159
  go_wp2
  go_loopw [8] (fun i wr => ∃ k : Nat, k ≤ ps.length ∧ i = .int .i64 k ∧ (ps.take k).all (fitB n) = true ∧ Below w.heap.size w wr) (fun i _ => ps.length - (intOf i).toNat)
  case atStart => exact ⟨0, Nat.zero_le _, rfl, by simp, Below.refl _ _⟩
  case round =>
    obtain ⟨k, hk, rfl, hall, hb⟩ := hrel
    have Hall := Lib.hid hall
    clear hall
    by_cases hlt : k < ps.length
    · obtain ⟨b, off, rfl, hrow⟩ := pipe_at (HB.out.next hb) (by omega)
      have hp := List.getElem?_eq_getElem hlt
      have hs := HD.out _ (List.mem_of_getElem? hp)
      have P := hrow k _ hp
      have hsuc : (ps.take (k + 1)).all (fitB n) = ((ps.take k).all (fitB n) && fitB n ps[k]) := all_take_succ _ _ _ hlt
      have hnot : fitB n ps[k] = false → ps.all (fitB n) = false := all_false_at _ _ _ hlt
      generalize ps[k] = p at *
      have HS := Lib.hid hsuc
      have HNo := Lib.hid hnot
      have ⟨p0, p1, p2, p3, p4, p5⟩ := P
      clear hp hrow hsuc hnot P
      have HC := Lib.hid (fun wx (h : NetAt wx bn A n c (some ⟨b, off, none⟩) ps.length d) => refuses_any A n c (some ⟨b, off, none⟩) ps.length d bn p wx hn hs h)
      by_cases hf : fitB n p = true
      · rw [hf] at HC
        have HF := Lib.hid hf
        clear hf
        go_wp2_with fail
        refine (HC.out _ (HN.out.next hb)).mono ?_
        rintro e w1 ⟨rfl, hb1⟩
        have hb2 := bnext hb hb1
        go_wp2
        go_roundw
        case rel => exact ⟨k + 1, by omega, by go_num, by rw [HS.out, Hall.out, HF.out]; rfl, hb2⟩
        case measure => simp [intOf]; omega
      · have hf : fitB n p = false := by simpa using hf
        rw [hf] at HC
        have HF := Lib.hid (HNo.out hf)
        clear hf
        go_wp2_with fail
        refine (HC.out _ (HN.out.next hb)).mono ?_
        rintro e w1 ⟨rfl, hb1⟩
        have hb2 := bnext hb hb1
        go_wp2
        go_ret
        exact ⟨(k : Int), rfl, .inr ⟨HF.out, by omega⟩, hb2⟩
    · have HF : Hid (ps.all (fitB n) = true) := Lib.hid (by have := Hall.out; rw [List.take_of_length_le (by omega)] at this; exact this)
      go_wp2
      go_ret
      exact ⟨-1, rfl, .inl ⟨HF.out, rfl⟩, hb⟩
theorem contains_any (A : Option Addr) (n c : Nat) (B : Option Addr) (m d : Nat) (bn : Nat) (ps : List Pp) (w : World) (hn : n ≤ 1048576) (hl : ps.length = m) (hm : m ≤ 1048576) (hN : NetAt w bn A n c B m d) (hB : CellsAt w B (rowsP ps)) (hid : ∀ p ∈ ps, p.id.size ≤ maxLen) :
    Calls Try.prog 148 #[.slice B m d, .func (.func 149) #[] #[.pointer (some ⟨bn, 0, none⟩)]] w fun e w' => e = .returned (.bool (!ps.all (fitB n))) ∧ Below w.heap.size w w' := by
  have HI := Lib.hid (fun k => indexFunc_any A n c B m d bn ps (w.drewN k) hn hl hm hN hB hid)
  clear hN hB hid
  go_enter Try.func148, Try.ntmps148
  go_wp2_with fail
  refine (HI.out 0).mono ?_
  rintro e w1 ⟨r, rfl, hr, hb⟩
  rcases hr with ⟨h1, rfl⟩ | ⟨h1, h2⟩
  · have H1 := Lib.hid h1
    clear h1
    go_wp2
    go_ret
    exact ⟨by rw [H1.out]; rfl, hb⟩
  · have H1 := Lib.hid h1
    clear h1
    go_wp2
    go_ret
    exact ⟨by rw [H1.out]; rfl, hb⟩

theorem nameOf_flat (id : ByteArray) (f t L d s : Int) (w : World) :
    Calls Try.prog 152 #[.agg #[.string id, .int .i64 f, .int .i64 t, .int .i64 L, .int .i64 d, .int .i64 s]] w fun e w' => e = .returned (.string id) ∧ Below w.heap.size w w' := nameOf_any ⟨id, f, t, L, d, s⟩ w

theorem increasing_any (A : Option Addr) (n c : Nat) (B : Option Addr) (m d : Nat) (ps : List Pp) (w : World) (hl : ps.length = m) (hm : m ≤ 1048576) (hB : CellsAt w B (rowsP ps)) :
    Calls Try.prog 151 #[.slice B m d, .func (.func 152) #[] #[]] w fun e w' => e = .returned (.bool (riseTo ps m)) ∧ Below w.heap.size w w' := by
  subst hl
  have HB := Lib.hid hB
  clear hB
  go_enter Try.func151, Try.ntmps151
  go_wp2
  go_loopw [5] (fun i wr => ∃ k : Nat, 1 ≤ k ∧ (k ≤ ps.length ∨ k = 1) ∧ i = .int .i64 k ∧ riseTo ps k = true ∧ Below w.heap.size w wr) (fun i _ => ps.length - (intOf i).toNat)
  case atStart => exact ⟨1, by omega, .inr rfl, rfl, by unfold riseTo; simp [riseAt_zero], Below.refl _ _⟩
  case round =>
    obtain ⟨k, hk1, hk, rfl, hrise, hb⟩ := hrel
    have Hrise := Lib.hid hrise
    clear hrise
    by_cases hlt : k < ps.length
    · obtain ⟨b, off, rfl, hrow⟩ := pipe_at (HB.out.next hb) (by omega)
      obtain ⟨r, hr⟩ : ∃ r, k = r + 1 := ⟨k - 1, by omega⟩
      have hp := List.getElem?_eq_getElem hlt
      have hq := List.getElem?_eq_getElem (show r < ps.length by omega)
      have P0 := hrow k _ hp
      have Q0 := hrow r _ hq
      have hat : ∀ p q, ps[k]? = some p → ps[r]? = some q → riseAt ps k = idLt q.id p.id := fun p q h1 h2 => by
        rw [hr] at h1 ⊢
        exact riseAt_at ps r q p h2 h1
      replace hat := hat _ _ hp hq
      generalize ps[k] = p at *
      generalize ps[r] = q at *
      have HR := Lib.hid hr
      have HRS := Lib.hid (riseTo_succ ps k)
      have HRF := Lib.hid (riseTo_false ps k ps.length hlt)
      have hi2 : (0 : Int) ≤ (k : Int) - 1 := by omega
      have hi3 : ((k : Int) - 1).toNat = r := by omega
      have hi4 : (k : Int) - 1 < (ps.length : Int) := by omega
      have hb1 : Below w.heap.size w wr.drew := below_drewN hb 1
      have P : PipeO wr.drew b (off + k * 6) p := P0
      have Q : PipeO wr.drew b (off + r * 6) q := Q0
      have ⟨p0, p1, p2, p3, p4, p5⟩ := P
      have ⟨q0, q1, q2, q3, q4, q5⟩ := Q
      clear hp hq hr hrow P0 Q0 hb
      have hi6 : (1 : Int) ≤ (k : Int) := by omega
      have hi7 : (k : Int) - 1 + 1 ≤ (ps.length : Int) := by omega
      have hi8 : 1 ≤ k := by omega
      have hi5 : IntKind.i64.wrap ((k : Int) - 1) = (k : Int) - 1 := IntWalk.i64_in _ (by omega)
      go_wp2_with fail
      go_region_held3 (fun w' => w'.cell? ⟨b, off + k * 6, none⟩ = some (.string p.id) ∧ w'.cell? ⟨b, off + k * 6 + 1, none⟩ = some (.int .i64 p.f) ∧ w'.cell? ⟨b, off + k * 6 + 2, none⟩ = some (.int .i64 p.t) ∧ w'.cell? ⟨b, off + k * 6 + 3, none⟩ = some (.int .i64 p.L) ∧ w'.cell? ⟨b, off + k * 6 + 4, none⟩ = some (.int .i64 p.d) ∧ w'.cell? ⟨b, off + k * 6 + 5, none⟩ = some (.int .i64 p.s) ∧ w'.cell? ⟨b, off + r * 6, none⟩ = some (.string q.id) ∧ w'.cell? ⟨b, off + r * 6 + 1, none⟩ = some (.int .i64 q.f) ∧ w'.cell? ⟨b, off + r * 6 + 2, none⟩ = some (.int .i64 q.t) ∧ w'.cell? ⟨b, off + r * 6 + 3, none⟩ = some (.int .i64 q.L) ∧ w'.cell? ⟨b, off + r * 6 + 4, none⟩ = some (.int .i64 q.d) ∧ w'.cell? ⟨b, off + r * 6 + 5, none⟩ = some (.int .i64 q.s)) (exact ⟨p0, p1, p2, p3, p4, p5, q0, q1, q2, q3, q4, q5⟩) ((go_at_call 152; refine (nameOf_flat _ _ _ _ _ _ _).mono ?_; rintro e w' ⟨rfl, hb'⟩; have hb1 := bnext hb1 hb'; have P := P.next hb'; have Q := Q.next hb'; have ⟨p0, p1, p2, p3, p4, p5⟩ := P; have ⟨q0, q1, q2, q3, q4, q5⟩ := Q))
      clear hi5
      by_cases hl : idLt q.id p.id = true
      · have Hat : Hid (riseAt ps k = true) := Lib.hid (by rw [hat]; exact hl)
        have e0 : (Op.bytesLess p.id.toList q.id.toList || p.id.toList == q.id.toList) = false := by
          have hl' : Op.bytesLess q.id.toList p.id.toList = true := hl
          rw [leq_flip, hl']; rfl
        rw [e0]
        clear e0 hat hl
        go_wp2
        go_roundw
        case rel => exact ⟨k + 1, by omega, .inl (by omega), by go_num, by rw [HRS.out, Hrise.out, Hat.out]; rfl, hb1⟩
        case measure => simp [intOf]; omega
      · have hl' : Op.bytesLess q.id.toList p.id.toList = false := by simpa [idLt] using hl
        have HV : Hid (riseTo ps ps.length = false) := Lib.hid (HRF.out (by rw [hat]; exact hl'))
        have e0 : (Op.bytesLess p.id.toList q.id.toList || p.id.toList == q.id.toList) = true := by
          rw [leq_flip, hl']; rfl
        rw [e0]
        clear e0 hat hl hl'
        go_wp2
        go_ret
        exact ⟨by rw [HV.out]; rfl, hb1⟩
    · have HV : Hid (riseTo ps ps.length = true) := Lib.hid (by
        rcases hk with h | h
        · have : k = ps.length := by omega
          rw [← this]; exact Hrise.out
        · have : ps.length = 0 ∨ ps.length = 1 := by omega
          rcases this with h | h <;> rw [h] <;> simp [riseTo, riseAt_zero])
      go_wp2
      go_ret
      exact ⟨by rw [HV.out]; rfl, hb⟩

end Go.Proofs.Ytdaedgdglammhaa
