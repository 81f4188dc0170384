/-
  PipeText of both sides: the Id, a blank and the text of the five numbers.
-/
import Derived.Test.YtmopnkkpcgiafabDoorP9
import Derived.Test.YtmopnkkpcgiafabDoorP3
import Derived.Test.YtmopnkkpcgiafabDoorD4
import Derived.Deep.RegionHeld3
namespace Go.Proofs.YtmopnkkpcgiafabDoor
open Go.ChangeShapes Go.WideShapes Go.ChangeAt Go.RowKit


theorem five_cells (w : World) (E : TypeId) (a b c d e : Int) : CellsAt (w.alloc (.cells #[.int .i64 a, .int .i64 b, .int .i64 c, .int .i64 d, .int .i64 e] E)) (some ⟨w.heap.size, 0, none⟩) (intsV [a, b, c, d, e]) := by
  intro _
  refine ⟨_, _, rfl, fun j hj => ?_⟩
  rw [intsV_length] at hj
  match j, hj with
  | 0, _ => simp [intsV]
  | 1, _ => simp [intsV]
  | 2, _ => simp [intsV]
  | 3, _ => simp [intsV]
  | 4, _ => simp [intsV]
/-- a pipe as text -/
def pipeB (id : ByteArray) (f t L d s : Int) : ByteArray := id ++ mkB [32] ++ mkB (listL [f, t, L, d, s])
def textB (id : ByteArray) (f t L d s : Int) : ByteArray := if okP id f t L d s then pipeB id f t L d s else ByteArray.empty
theorem ok_small {id : ByteArray} {f t L d s : Int} (h : okP id f t L d s = true) : id.size ≤ 10 := by
  have := (okP_bd id f t L d s h).1
  unfold nameL at this
  rw [Bool.and_eq_true] at this
  have h2 := (of_decide_eq_true this.1).2
  rwa [size_list] at h2
theorem fits_five {id : ByteArray} {f t L d s : Int} (h : okP id f t L d s = true) : fitsL [f, t, L, d, s] = true := by
  obtain ⟨_, hf, ht, _, hL, hd, hs⟩ := okP_bd id f t L d s h
  have e : ∀ x : Int, 0 ≤ x → x ≤ 10000 → inV x = true := fun x h0 h1 => inB_true (by omega)
  unfold fitsL
  simp [e f (by omega) (by omega), e t (by omega) (by omega), e L (by omega) (by omega), e d (by omega) (by omega), e s (by omega) (by omega)]
theorem five_small {f t L d s : Int} (h : fitsL [f, t, L, d, s] = true) : (mkB (listL [f, t, L, d, s])).size ≤ 110 := by
  have hv : listL [f, t, L, d, s] = commaL [f, t, L, d, s] := by unfold listL; rw [if_pos h]; rfl
  rw [mkB_size, hv]
  exact commaL_bd _ (fitsL_true h).1

theorem implPipeText_any (id : ByteArray) (f t L d s : Int) (w : World) (hs : id.size ≤ maxLen) (hpt : PowTab w) :
    Calls Tryd.prog 17 #[.agg #[.string id, .int .i64 f, .int .i64 t, .int .i64 L, .int .i64 d, .int .i64 s]] w fun e w' => e = .returned (.string (textB id f t L d s)) ∧ Below w.heap.size w w' := by
  have hp := PipeAt.new w id f t L d s 45
  have hb : Below w.heap.size w (w.alloc (.cells #[.string id, .int .i64 f, .int .i64 t, .int .i64 L, .int .i64 d, .int .i64 s] 45)) := bal (Below.refl _ _) _
  by_cases HO : okP id f t L d s = true
  · have hv : textB id f t L d s = pipeB id f t L d s := if_pos HO
    rw [hv]
    clear hv
    have hi := ok_small HO
    have hfit := fits_five HO
    have hsm := five_small hfit
    have HP : Hid (pipeB id f t L d s = id ++ ⟨#[32]⟩ ++ mkB (listL [f, t, L, d, s])) := Lib.hid rfl
    have HL := Lib.hid (fun A c wx (hA : CellsAt wx A (intsV [f, t, L, d, s])) hx => implListText_any A c 5 [f, t, L, d, s] wx rfl (by unfold maxLen; omega) hA hx)
    have ⟨p0, p1, p2, p3, p4, p5⟩ := hp
    go_enter Tryd.func17, Tryd.ntmps17
    go_wp2_with fail
    refine (implValidPipe_any id f t L d s _ hs).mono ?_
    rintro e w1 ⟨rfl, hb1⟩
    rw [HO]
    have hp := hp.next hb1
    have hb := bnext hb hb1
    clear hb1 p0 p1 p2 p3 p4 p5
    have ⟨p0, p1, p2, p3, p4, p5⟩ := hp
    generalize hq : mkB (listL [f, t, L, d, s]) = q at *
    have hcs : (id ++ ⟨#[32]⟩).size = id.size + 1 := by rw [ByteArray.size_append]; rfl
    have hk1 : ¬ 9223372036854775807 < id.size + 1 := by omega
    have hk2 : ¬ 9223372036854775807 < id.size + 1 + q.size := by omega
    clear hcs
    have Hq := Lib.hid hq
    clear hq
    go_wp2_with fail
    go_region_held3 (fun w' => w'.cell? ⟨w.heap.size, 0, none⟩ = some (.string id) ∧ w'.cell? ⟨w.heap.size, 1, none⟩ = some (.int .i64 f) ∧ w'.cell? ⟨w.heap.size, 2, none⟩ = some (.int .i64 t) ∧ w'.cell? ⟨w.heap.size, 3, none⟩ = some (.int .i64 L) ∧ w'.cell? ⟨w.heap.size, 4, none⟩ = some (.int .i64 d) ∧ w'.cell? ⟨w.heap.size, 5, none⟩ = some (.int .i64 s))
      (first | exact hp2 | exact hp | exact PipeAt.keep hp rfl | exact PipeAt.alloc (PipeAt.keep hp rfl) _)
      (first | (go_at_call 16; refine (HL.out _ _ _ (five_cells _ _ f t L d s) (hpt.next (bal (below_drewN hb 1) _))).mono ?_; rintro e w2 ⟨rfl, hb2⟩; have hp2 : PipeAt w2 w.heap.size id f t L d s := PipeAt.next (PipeAt.alloc (show PipeAt (w1.drewN 1) w.heap.size id f t L d s from PipeAt.keep hp rfl) _) hb2))
    all_goals (go_wp2; go_ret; exact ⟨by rw [HP.out]; rfl, bnext (bal (below_drewN hb 1) _) hb2⟩)
  · have HO : okP id f t L d s = false := by simpa using HO
    have hv : textB id f t L d s = ⟨#[]⟩ := by unfold textB; rw [HO]; rfl
    rw [hv]
    clear hv
    have ⟨p0, p1, p2, p3, p4, p5⟩ := hp
    go_enter Tryd.func17, Tryd.ntmps17
    go_wp2_with fail
    refine (implValidPipe_any id f t L d s _ hs).mono ?_
    rintro e w1 ⟨rfl, hb1⟩
    rw [HO]
    have hb := bnext hb hb1
    go_wp2
    go_ret
    exact ⟨rfl, hb⟩

theorem l03Text_any (b : Nat) (id : ByteArray) (f t L d s : Int) (w : World) (hp : PipeAt w b id f t L d s) (HO : okP id f t L d s = true) :
    Calls Tryd.prog 25 #[.pointer (some ⟨b, 0, none⟩)] w fun e w' => e = .returned (.string (pipeB id f t L d s)) ∧ Below w.heap.size w w' := by
  have hi := ok_small HO
  have hfit := fits_five HO
  have hsm := five_small hfit
  have HP : Hid (pipeB id f t L d s = id ++ ⟨#[32]⟩ ++ mkB (listL [f, t, L, d, s])) := Lib.hid rfl
  have HL := Lib.hid (fun A c wx (hA : CellsAt wx A (intsV [f, t, L, d, s])) => l01List_any A c 5 [f, t, L, d, s] wx rfl hfit hA)
  have ⟨p0, p1, p2, p3, p4, p5⟩ := hp
  generalize hq : mkB (listL [f, t, L, d, s]) = q at *
  have Hq := Lib.hid hq
  have hcs : (id ++ ⟨#[32]⟩).size = id.size + 1 := by rw [ByteArray.size_append]; rfl
  have hk1 : ¬ 9223372036854775807 < id.size + 1 := by omega
  have hk2 : ¬ 9223372036854775807 < id.size + 1 + q.size := by omega
  clear hcs
  clear hq
  have hw := PipeAt.lies hp
  go_enter Tryd.func25, Tryd.ntmps25
  go_wp2_with fail
  go_region_held3 (fun w' => w'.cell? ⟨b, 0, none⟩ = some (.string id) ∧ w'.cell? ⟨b, 1, none⟩ = some (.int .i64 f) ∧ w'.cell? ⟨b, 2, none⟩ = some (.int .i64 t) ∧ w'.cell? ⟨b, 3, none⟩ = some (.int .i64 L) ∧ w'.cell? ⟨b, 4, none⟩ = some (.int .i64 d) ∧ w'.cell? ⟨b, 5, none⟩ = some (.int .i64 s))
    (first | exact hp2 | exact hp | exact PipeAt.keep hp rfl | exact PipeAt.alloc (PipeAt.keep hp rfl) _)
    (first | (go_at_call 24; refine (HL.out (some ⟨w.heap.size, 0, none⟩) _ ((w.alloc (.cells #[.int .i64 f, .int .i64 t, .int .i64 L, .int .i64 d, .int .i64 s] 2)).drew) (five_cells w 2 f t L d s)).mono ?_; rintro e w2 ⟨rfl, hb2⟩; have hp2 : PipeAt w2 b id f t L d s := PipeAt.next (show PipeAt ((w.alloc (.cells #[.int .i64 f, .int .i64 t, .int .i64 L, .int .i64 d, .int .i64 s] 2)).drew) b id f t L d s from PipeAt.alloc hp _) hb2))
  all_goals (go_wp2; go_ret; exact ⟨by rw [HP.out]; rfl, bnext (show Below w.heap.size w ((w.alloc (.cells #[.int .i64 f, .int .i64 t, .int .i64 L, .int .i64 d, .int .i64 s] 2)).drew) from below_drewN (bal (Below.refl _ _) _) 1) hb2⟩)
end Go.Proofs.YtmopnkkpcgiafabDoor
