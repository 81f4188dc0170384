/-
  A network as text: maths, and the model.
-/
import Derived.Test.YtmopnkkpcgiafabDoorT2
import Derived.Test.YtmopnkkpcgiafabDoorH8
import Derived.Test.YtmopnkkpcgiafabDoorH6
import Derived.Test.YtmopnkkpcgiafabDoorI0
import Derived.Deep.RegionHeld3
namespace Go.Proofs.YtmopnkkpcgiafabDoor
open Go.ChangeShapes Go.WideShapes Go.ChangeAt Go.RowKit
set_option maxRecDepth 100000
set_option linter.unusedVariables false

/-- a pipe's text -/
def Pp.tx (p : Pp) : ByteArray := pipeB p.id p.f p.t p.L p.d p.s
/-- a network's text up to its k-th pipe -/
def netText (z : List Int) (ps : List Pp) : Nat → ByteArray
  | 0 => mkB (listL z)
  | k + 1 => match ps[k]? with
    | some p => netText z ps k ++ (⟨#[47]⟩ ++ p.tx)
    | none => netText z ps k
theorem netText_at {z : List Int} {ps : List Pp} {k : Nat} {p : Pp} (h : ps[k]? = some p) : netText z ps (k + 1) = netText z ps k ++ (⟨#[47]⟩ ++ p.tx) := by
  show (match ps[k]? with | some p => _ | none => _) = _
  rw [h]
theorem ok_of_fit {n : Nat} {ps : List Pp} (h : ps.all (fitB n) = true) {k : Nat} {p : Pp} (hp : ps[k]? = some p) : okP p.id p.f p.t p.L p.d p.s = true := by
  have := List.all_eq_true.1 h p (List.mem_of_getElem? hp)
  unfold fitB at this
  rw [Bool.and_eq_true] at this
  exact this.1
theorem tx_small {p : Pp} (h : okP p.id p.f p.t p.L p.d p.s = true) : p.tx.size ≤ 121 := by
  have h1 := ok_small h
  have h2 := five_small (fits_five h)
  unfold Pp.tx pipeB
  rw [ByteArray.size_append, ByteArray.size_append]
  have : (mkB [32]).size = 1 := rfl
  omega
theorem nodes_fit {z : List Int} {ps : List Pp} (h : netB z ps = true) : fitsL z = true := by
  have hp := netB_parts h
  have ha := hp.2.1
  unfold fitsL
  rw [Bool.and_eq_true]
  refine ⟨List.all_eq_true.2 fun x hx => ?_, decide_eq_true (by omega)⟩
  have hb : inB x (-100000) 100000 = true := by
    have : ∀ l : List Int, allIn (-100000) 100000 l = true → ∀ x ∈ l, inB x (-100000) 100000 = true := by
      intro l
      induction l with
      | nil => intro _ x hx; cases hx
      | cons a r ih =>
        intro h x hx
        rw [allIn_cons _ _ _ _ (by omega), Bool.and_eq_true] at h
        rcases List.mem_cons.1 hx with rfl | hx
        · exact h.1
        · exact ih h.2 x hx
    exact this z ha x hx
  have := inB_iff.1 hb
  exact inB_true (by omega)
theorem netText_small {z : List Int} {ps : List Pp} (h : netB z ps = true) (k : Nat) : (netText z ps k).size ≤ 400 + 122 * k := by
  have hp := netB_parts h
  induction k with
  | zero =>
    have hf := nodes_fit h
    show (mkB (listL z)).size ≤ _
    rw [mkB_size]
    unfold listL
    rw [if_pos hf]
    split
    · simp
    · have := commaL_bd z (fitsL_true hf).1
      omega
  | succ k ih =>
    cases hk : ps[k]? with
    | none =>
      show (match ps[k]? with | some p => _ | none => _ : ByteArray).size ≤ _
      rw [hk]
      show (netText z ps k).size ≤ _
      omega
    | some p =>
      rw [netText_at hk, ByteArray.size_append, ByteArray.size_append]
      have := tx_small (ok_of_fit hp.2.2.2.1 hk)
      have : (ByteArray.mk #[47]).size = 1 := rfl
      omega
def netTextB (z : List Int) (ps : List Pp) : ByteArray := if netB z ps = true then netText z ps ps.length else ⟨#[]⟩

theorem l03TextO_any (b o : Nat) (id : ByteArray) (f t L d s : Int) (w : World) (hp : PipeO w b o ⟨id, f, t, L, d, s⟩) (HO : okP id f t L d s = true) :
    Calls Tryd.prog 25 #[.pointer (some ⟨b, o, none⟩)] w fun e w' => e = .returned (.string (pipeB id f t L d s)) ∧ Below w.heap.size w w' := by
  have hi := ok_small HO
  have hfit := fits_five HO
  have hsm := five_small hfit
  have HP : Hid (pipeB id f t L d s = id ++ ⟨#[32]⟩ ++ mkB (listL [f, t, L, d, s])) := Lib.hid rfl
  have HL := Lib.hid (fun A c wx (hA : CellsAt wx A (intsV [f, t, L, d, s])) => l01List_any A c 5 [f, t, L, d, s] wx rfl hfit hA)
  have ⟨p0, p1, p2, p3, p4, p5⟩ := hp
  generalize hq : mkB (listL [f, t, L, d, s]) = q at *
  have Hq := Lib.hid hq
  have hcs : (id ++ ⟨#[32]⟩).size = id.size + 1 := by rw [ByteArray.size_append]; rfl
  have hk1 : ¬ 9223372036854775807 < id.size + 1 := by omega
  have hk2 : ¬ 9223372036854775807 < id.size + 1 + q.size := by omega
  clear hcs
  clear hq
  have hw := PipeO.lies hp
  go_enter Tryd.func25, Tryd.ntmps25
  go_wp2_with fail
  go_region_held3 (fun w' => w'.cell? ⟨b, o, none⟩ = some (.string id) ∧ w'.cell? ⟨b, o + 1, none⟩ = some (.int .i64 f) ∧ w'.cell? ⟨b, o + 2, none⟩ = some (.int .i64 t) ∧ w'.cell? ⟨b, o + 3, none⟩ = some (.int .i64 L) ∧ w'.cell? ⟨b, o + 4, none⟩ = some (.int .i64 d) ∧ w'.cell? ⟨b, o + 5, none⟩ = some (.int .i64 s))
    (first | exact hp2 | exact hp | exact PipeO.keep hp rfl | exact PipeO.alloc (PipeO.keep hp rfl) _)
    (first | (go_at_call 24; refine (HL.out (some ⟨w.heap.size, 0, none⟩) _ ((w.alloc (.cells #[.int .i64 f, .int .i64 t, .int .i64 L, .int .i64 d, .int .i64 s] 2)).drew) (five_cells w 2 f t L d s)).mono ?_; rintro e w2 ⟨rfl, hb2⟩; have hp2 : PipeO w2 b o ⟨id, f, t, L, d, s⟩ := PipeO.next (show PipeO ((w.alloc (.cells #[.int .i64 f, .int .i64 t, .int .i64 L, .int .i64 d, .int .i64 s] 2)).drew) b o ⟨id, f, t, L, d, s⟩ from PipeO.alloc hp _) hb2))
  all_goals (go_wp2; go_ret; exact ⟨by rw [HP.out]; rfl, bnext (show Below w.heap.size w ((w.alloc (.cells #[.int .i64 f, .int .i64 t, .int .i64 L, .int .i64 d, .int .i64 s] 2)).drew) from below_drewN (bal (Below.refl _ _) _) 1) hb2⟩)

end Go.Proofs.YtmopnkkpcgiafabDoor
