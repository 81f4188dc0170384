/-
  StillPressure of the program.
-/
import Derived.Test.YtdaedgdglammhaaBo2
import Derived.Test.YtdaedgdglammhaaHc
import Derived.Test.YtdaedgdglammhaaH6
import Derived.Test.YtdaedgdglammhaaB6
import Derived.Test.YtdaedgdglammhaaH5
namespace Go.Proofs.Ytdaedgdglammhaa
open Go.ChangeShapes Go.WideShapes Go.ChangeAt Go.RowKit Go.Shelf

set_option linter.unusedVariables false
set_option maxRecDepth 100000
set_option maxHeartbeats 4000000
def rstB (z : List Int) (s t m : Int) : Bool := inB s 0 ((z.length : Int) - 1) && (inB m 0 1000000 && inB t 0 18000)
def stillC (z : List Int) (ps : List Pp) (s t m : Int) : Int := argC (netB z ps) (rstB z s t m)
def riseP (z : List Int) (s : Int) : Int := nearI (981 * (maxTo (fun k => z.getD k 0) (z.length - 1) - z.getD s.toNat 0)) 10
def stillV (z : List Int) (ps : List Pp) (s t m : Int) : Int := if netB z ps && rstB z s t m then stmI t + m + riseP z s else 0
theorem still_bad (z : List Int) (ps : List Pp) (s t m : Int) (h : rstB z s t m = false) : stillV z ps s t m = 0 ∧ stillC z ps s t m = argC (netB z ps) false := by
  unfold stillV stillC
  rw [h, Bool.and_false]
  exact ⟨if_neg (by decide), rfl⟩
theorem still_no (z : List Int) (ps : List Pp) (s t m : Int) (h : netB z ps = false) : stillV z ps s t m = 0 ∧ stillC z ps s t m = 1 := by
  unfold stillV stillC
  rw [h, Bool.false_and]
  exact ⟨if_neg (by decide), rfl⟩
theorem still_ok (z : List Int) (ps : List Pp) (s t m : Int) (h : netB z ps = true) (h2 : rstB z s t m = true) : stillV z ps s t m = stmI t + m + riseP z s ∧ stillC z ps s t m = 0 := by
  unfold stillV stillC
  rw [h, h2]
  exact ⟨if_pos rfl, rfl⟩
theorem balDrew {w a : World} (h : Below w.heap.size w a) (O : Obj) : Below w.heap.size w (a.alloc O).drew := below_drewN (bal h O) 1
theorem isWaterOne (a : Int) (b : Nat) (w : World) (hc : w.cell? ⟨b, 0, none⟩ = some (.int .i64 a)) :
    Calls Try.prog 53 #[.slice (some ⟨b, 0, none⟩) 1 1] w fun e w' => e = .returned (.bool (inB a 0 18000)) ∧ w = w' := by
  have H := Lib.hid (within64_free 0 18000 a b w hc)
  go_enter Try.func53, Try.ntmps53
  go_wp2_with ((go_at_call 109; refine H.out.mono ?_; rintro e w' ⟨rfl, rfl⟩))
  go_ret
  exact ⟨rfl, rfl⟩
theorem netAlloc {w : World} {b : Nat} {A : Option Addr} {n c : Nat} {B : Option Addr} {m d : Nat} (h : NetAt w b A n c B m d) (O : Obj) : NetAt (w.alloc O) b A n c B m d := h.next (bal (Below.refl _ _) O)
theorem netAllocDrew {w : World} {b : Nat} {A : Option Addr} {n c : Nat} {B : Option Addr} {m d : Nat} (h : NetAt w b A n c B m d) (O : Obj) : NetAt (w.alloc O).drew b A n c B m d := netAlloc h O
theorem argC_ne (v : Bool) : argC v false ≠ 0 := by unfold argC; split <;> decide
theorem pressureOfRise_any (x : Int) (w : World) (x0 : -1000000 ≤ x) (x1 : x ≤ 1000000) :
    Calls Try.prog 99 #[.int .i64 x] w fun e w' => e = .returned (.int .i64 (nearI (981 * x) 10)) ∧ Below w.heap.size w w' := by
  have hb : Below w.heap.size w w := Below.refl _ _
  go_enter Try.func99, Try.ntmps99
  go_wp2_with ((go_at_call 137; refine (nearest_any _ _ _ (by omega) (by omega) (by omega) (by omega) (by omega)).mono ?_; rintro e w' ⟨rfl, ⟨nq, rfl⟩⟩; have hb := below_drewN hb nq))
  go_ret
  exact ⟨rfl, hb⟩

theorem implStillPressure_any (A B : Option Addr) (cA d : Nat) (z : List Int) (ps : List Pp) (s t m : Int) (w : World) (h : NetCells w A z B ps) (hn : z.length ≤ 1048576) (hm : ps.length ≤ 1048576) (hid : ∀ p ∈ ps, p.id.size ≤ maxLen) :
    Calls Try.prog 38 #[.agg #[.slice A z.length cA, .slice B ps.length d], .int .i64 s, .int .i64 t, .int .i64 m] w (fun e w' => e = .returned (.tuple #[.int .i64 (stillV z ps s t m), .int .i64 (stillC z ps s t m)]) ∧ Below w.heap.size w w') := by
  have HC0 := Lib.hid (fun (r : Bool) wx (hbx : Below w.heap.size w wx) => code_any A B cA d z ps r wx (h.next hbx) hn hm hid)
  have H1 := Lib.hid (fun W => hasNode_any A z.length cA B ps.length d s W hn)
  have H2 := Lib.hid (fun W => isMargin_any m W)
  have H3 := Lib.hid (fun W b hc => isWaterOne t b W hc)
  by_cases h1 : inB s 0 ((z.length : Int) - 1) = true
  rotate_left
  · have h1' : inB s 0 ((z.length : Int) - 1) = false := by simpa using h1
    have hr : rstB z s t m = false := by unfold rstB; rw [h1']; rfl
    rw [(still_bad z ps s t m hr).1, (still_bad z ps s t m hr).2]
    have HC := Lib.hid (HC0.out false)
    have H1 := Lib.hid (by have h := H1.out; rw [h1'] at h; exact h)
    have hk := argC_ne (netB z ps)
    generalize argC (netB z ps) false = k at *
    clear h1 h1' hr
    have hN := NetAt.new w A z.length cA B ps.length d 38
    have ⟨n0, n1⟩ := hN
    have hb : Below w.heap.size w (w.alloc (.cells #[.slice A z.length cA, .slice B ps.length d] 38)) := bal (Below.refl _ _) _
    go_enter Try.func38, Try.ntmps38
    go_wp2_with fail
    first | (go_region_held (fun w' => w'.cell? ⟨w.heap.size, 0, none⟩ = some (.slice A z.length cA) ∧ w'.cell? ⟨w.heap.size, 1, none⟩ = some (.slice B ps.length d) ∧ Below w.heap.size w w') (first | assumption | exact ⟨n0, n1, below_drewN hb 1⟩ | (go_split_ands; have hq := NetAt.next (A := A) (n := z.length) (c := cA) (B := B) (m := ps.length) (d := d) ⟨by assumption, by assumption⟩ hb'; exact ⟨hq.1, hq.2, bnext (by assumption) hb'⟩) | exact ⟨(netAllocDrew hN _).1, (netAllocDrew hN _).2, balDrew hb _⟩ | (have hq := NetAt.next (netAllocDrew hN _) hb'; exact ⟨hq.1, hq.2, bnext (balDrew hb _) hb'⟩) | (go_split_ands; exact ⟨(netAlloc (A := A) (n := z.length) (c := cA) (B := B) (m := ps.length) (d := d) ⟨by assumption, by assumption⟩ _).1, (netAlloc (A := A) (n := z.length) (c := cA) (B := B) (m := ps.length) (d := d) ⟨by assumption, by assumption⟩ _).2, bal (by assumption) _⟩) | (go_split_ands; exact ⟨(netAllocDrew (A := A) (n := z.length) (c := cA) (B := B) (m := ps.length) (d := d) ⟨by assumption, by assumption⟩ _).1, (netAllocDrew (A := A) (n := z.length) (c := cA) (B := B) (m := ps.length) (d := d) ⟨by assumption, by assumption⟩ _).2, balDrew (by assumption) _⟩)) (first | (go_at_call 97; refine (H1.out _).mono ?_; rintro e w' ⟨rfl, hb'⟩) | (go_at_call 68; refine (HC.out _ (by first | (go_split_ands; assumption) | exact below_drewN hb 1 | exact balDrew hb _)).mono ?_; rintro e w' ⟨rfl, hb'⟩))) | fail
    rename_i hHeld
    obtain ⟨n0, n1, hb⟩ := hHeld
    go_wp2
    go_ret2
    exact ⟨rfl, hb⟩
  have H1 := Lib.hid (by have h := H1.out; rw [h1] at h; exact h)
  by_cases h2 : inB m 0 1000000 = true
  rotate_left
  · have h2' : inB m 0 1000000 = false := by simpa using h2
    have hr : rstB z s t m = false := by unfold rstB; rw [h2', Bool.false_and, Bool.and_false]
    rw [(still_bad z ps s t m hr).1, (still_bad z ps s t m hr).2]
    have HC := Lib.hid (HC0.out false)
    have H2 := Lib.hid (by have h := H2.out; rw [h2'] at h; exact h)
    have hk := argC_ne (netB z ps)
    generalize argC (netB z ps) false = k at *
    clear h1 h2 h2' hr
    have hN := NetAt.new w A z.length cA B ps.length d 38
    have ⟨n0, n1⟩ := hN
    have hb : Below w.heap.size w (w.alloc (.cells #[.slice A z.length cA, .slice B ps.length d] 38)) := bal (Below.refl _ _) _
    go_enter Try.func38, Try.ntmps38
    go_wp2_with fail
    first | (go_region_held (fun w' => w'.cell? ⟨w.heap.size, 0, none⟩ = some (.slice A z.length cA) ∧ w'.cell? ⟨w.heap.size, 1, none⟩ = some (.slice B ps.length d) ∧ Below w.heap.size w w') (first | assumption | exact ⟨n0, n1, below_drewN hb 1⟩ | (go_split_ands; have hq := NetAt.next (A := A) (n := z.length) (c := cA) (B := B) (m := ps.length) (d := d) ⟨by assumption, by assumption⟩ hb'; exact ⟨hq.1, hq.2, bnext (by assumption) hb'⟩) | exact ⟨(netAllocDrew hN _).1, (netAllocDrew hN _).2, balDrew hb _⟩ | (have hq := NetAt.next (netAllocDrew hN _) hb'; exact ⟨hq.1, hq.2, bnext (balDrew hb _) hb'⟩) | (go_split_ands; exact ⟨(netAlloc (A := A) (n := z.length) (c := cA) (B := B) (m := ps.length) (d := d) ⟨by assumption, by assumption⟩ _).1, (netAlloc (A := A) (n := z.length) (c := cA) (B := B) (m := ps.length) (d := d) ⟨by assumption, by assumption⟩ _).2, bal (by assumption) _⟩) | (go_split_ands; exact ⟨(netAllocDrew (A := A) (n := z.length) (c := cA) (B := B) (m := ps.length) (d := d) ⟨by assumption, by assumption⟩ _).1, (netAllocDrew (A := A) (n := z.length) (c := cA) (B := B) (m := ps.length) (d := d) ⟨by assumption, by assumption⟩ _).2, balDrew (by assumption) _⟩)) (first | (go_at_call 97; refine (H1.out _).mono ?_; rintro e w' ⟨rfl, hb'⟩) | (go_at_call 81; refine (H2.out _).mono ?_; rintro e w' ⟨rfl, hb'⟩) | (go_at_call 68; refine (HC.out _ (by first | (go_split_ands; assumption) | exact below_drewN hb 1 | exact balDrew hb _)).mono ?_; rintro e w' ⟨rfl, hb'⟩))) | fail
    rename_i hHeld
    obtain ⟨n0, n1, hb⟩ := hHeld
    go_wp2
    go_ret2
    exact ⟨rfl, hb⟩
  have H2 := Lib.hid (by have h := H2.out; rw [h2] at h; exact h)
  by_cases h3 : inB t 0 18000 = true
  rotate_left
  · have h3' : inB t 0 18000 = false := by simpa using h3
    have hr : rstB z s t m = false := by unfold rstB; rw [h3', Bool.and_false, Bool.and_false]
    rw [(still_bad z ps s t m hr).1, (still_bad z ps s t m hr).2]
    have HC := Lib.hid (HC0.out false)
    have H3 := Lib.hid (by have h := H3.out; rw [h3'] at h; exact h)
    have hk := argC_ne (netB z ps)
    generalize argC (netB z ps) false = k at *
    clear h1 h2 h3 h3' hr
    have hN := NetAt.new w A z.length cA B ps.length d 38
    have ⟨n0, n1⟩ := hN
    have hb : Below w.heap.size w (w.alloc (.cells #[.slice A z.length cA, .slice B ps.length d] 38)) := bal (Below.refl _ _) _
    go_enter Try.func38, Try.ntmps38
    go_wp2_with fail
    first | (go_region_held3 (fun w' => w'.cell? ⟨w.heap.size, 0, none⟩ = some (.slice A z.length cA) ∧ w'.cell? ⟨w.heap.size, 1, none⟩ = some (.slice B ps.length d) ∧ Below w.heap.size w w') (first | assumption | exact ⟨n0, n1, below_drewN hb 1⟩ | (go_split_ands; have hq := NetAt.next (A := A) (n := z.length) (c := cA) (B := B) (m := ps.length) (d := d) ⟨by assumption, by assumption⟩ hb'; exact ⟨hq.1, hq.2, bnext (by assumption) hb'⟩) | exact ⟨(netAllocDrew hN _).1, (netAllocDrew hN _).2, balDrew hb _⟩ | (have hq := NetAt.next (netAllocDrew hN _) hb'; exact ⟨hq.1, hq.2, bnext (balDrew hb _) hb'⟩) | (go_split_ands; exact ⟨(netAlloc (A := A) (n := z.length) (c := cA) (B := B) (m := ps.length) (d := d) ⟨by assumption, by assumption⟩ _).1, (netAlloc (A := A) (n := z.length) (c := cA) (B := B) (m := ps.length) (d := d) ⟨by assumption, by assumption⟩ _).2, bal (by assumption) _⟩) | (go_split_ands; exact ⟨(netAllocDrew (A := A) (n := z.length) (c := cA) (B := B) (m := ps.length) (d := d) ⟨by assumption, by assumption⟩ _).1, (netAllocDrew (A := A) (n := z.length) (c := cA) (B := B) (m := ps.length) (d := d) ⟨by assumption, by assumption⟩ _).2, balDrew (by assumption) _⟩)) (first | (go_at_call 97; refine (H1.out _).mono ?_; rintro e w' ⟨rfl, hb'⟩) | (go_at_call 81; refine (H2.out _).mono ?_; rintro e w' ⟨rfl, hb'⟩) | (go_at_call 53; refine (H3.out _ _ ?hn).mono ?_; (case hn => first | exact (World.cell?_alloc_at _ _ _ _ (by simp)).trans rfl | simp); rintro e w' ⟨rfl, rfl⟩) | (go_at_call 68; refine (HC.out _ (by first | (go_split_ands; assumption) | exact below_drewN hb 1 | exact balDrew hb _)).mono ?_; rintro e w' ⟨rfl, hb'⟩))) | fail
    rename_i hHeld
    obtain ⟨n0, n1, hb⟩ := hHeld
    go_wp2
    go_ret2
    exact ⟨rfl, hb⟩
  have H3 := Lib.hid (by have h := H3.out; rw [h3] at h; exact h)
  have hr : rstB z s t m = true := by unfold rstB; rw [h1, h2, h3]; rfl
  by_cases hv : netB z ps = true
  rotate_left
  · have hv' : netB z ps = false := by simpa using hv
    rw [(still_no z ps s t m hv').1, (still_no z ps s t m hv').2]
    have HC := Lib.hid (by have h := HC0.out true; rw [hv'] at h; exact h)
    clear h1 h2 h3 hr hv hv'
    have hN := NetAt.new w A z.length cA B ps.length d 38
    have ⟨n0, n1⟩ := hN
    have hb : Below w.heap.size w (w.alloc (.cells #[.slice A z.length cA, .slice B ps.length d] 38)) := bal (Below.refl _ _) _
    go_enter Try.func38, Try.ntmps38
    go_wp2_with fail
    first | (go_region_held3 (fun w' => w'.cell? ⟨w.heap.size, 0, none⟩ = some (.slice A z.length cA) ∧ w'.cell? ⟨w.heap.size, 1, none⟩ = some (.slice B ps.length d) ∧ Below w.heap.size w w') (first | assumption | exact ⟨n0, n1, below_drewN hb 1⟩ | (go_split_ands; have hq := NetAt.next (A := A) (n := z.length) (c := cA) (B := B) (m := ps.length) (d := d) ⟨by assumption, by assumption⟩ hb'; exact ⟨hq.1, hq.2, bnext (by assumption) hb'⟩) | exact ⟨(netAllocDrew hN _).1, (netAllocDrew hN _).2, balDrew hb _⟩ | (have hq := NetAt.next (netAllocDrew hN _) hb'; exact ⟨hq.1, hq.2, bnext (balDrew hb _) hb'⟩) | (go_split_ands; exact ⟨(netAlloc (A := A) (n := z.length) (c := cA) (B := B) (m := ps.length) (d := d) ⟨by assumption, by assumption⟩ _).1, (netAlloc (A := A) (n := z.length) (c := cA) (B := B) (m := ps.length) (d := d) ⟨by assumption, by assumption⟩ _).2, bal (by assumption) _⟩) | (go_split_ands; exact ⟨(netAllocDrew (A := A) (n := z.length) (c := cA) (B := B) (m := ps.length) (d := d) ⟨by assumption, by assumption⟩ _).1, (netAllocDrew (A := A) (n := z.length) (c := cA) (B := B) (m := ps.length) (d := d) ⟨by assumption, by assumption⟩ _).2, balDrew (by assumption) _⟩)) (first | (go_at_call 97; refine (H1.out _).mono ?_; rintro e w' ⟨rfl, hb'⟩) | (go_at_call 81; refine (H2.out _).mono ?_; rintro e w' ⟨rfl, hb'⟩) | (go_at_call 53; refine (H3.out _ _ ?hn).mono ?_; (case hn => first | exact (World.cell?_alloc_at _ _ _ _ (by simp)).trans rfl | simp); rintro e w' ⟨rfl, rfl⟩) | (go_at_call 68; refine (HC.out _ (by first | (go_split_ands; assumption) | exact below_drewN hb 1 | exact balDrew hb _)).mono ?_; rintro e w' ⟨rfl, hb'⟩))) | fail
    rename_i hHeld
    obtain ⟨n0, n1, hb⟩ := hHeld
    go_wp2
    go_ret2
    exact ⟨rfl, hb⟩
  rw [(still_ok z ps s t m hv hr).1, (still_ok z ps s t m hv hr).2]
  have HC := Lib.hid (by have h := HC0.out true; rw [hv] at h; exact h)
  have q1 := inB_iff.1 h1
  have q2 := inB_iff.1 h2
  have q3 := inB_iff.1 h3
  obtain ⟨hz1, hall, -⟩ := netB_parts hv
  have hsn : s.toNat < z.length := by omega
  have HA := Lib.hid h.1
  have HMX := Lib.hid (fun (W : World) (hW : Below w.heap.size w W) => slicesMax_any A cA z W (h.1.next hW) (by omega) hn)
  have HST := Lib.hid (fun W => implSteam_in t W q3.1 q3.2)
  have ks := stm_bd t
  have bM := maxTo_bd (f := fun k => z.getD k 0) (lo := -100000) (hi := 100000) (k := z.length - 1) (fun j hj => allIn_one' hall (show j < z.length by omega))
  have bS := allIn_one' hall hsn
  have hPR := Lib.hid (fun W => pressureOfRise_any (maxTo (fun k => z.getD k 0) (z.length - 1) - z.getD s.toNat 0) W (by omega) (by omega))
  have hrp : nearI (981 * (maxTo (fun k => z.getD k 0) (z.length - 1) - z.getD s.toNat 0)) 10 = riseP z s := rfl
  have kr := nearI_lim (981 * (maxTo (fun k => z.getD k 0) (z.length - 1) - z.getD s.toNat 0)) 10 1000000000 (by omega) (by omega) (by omega)
  rw [hrp] at hPR kr
  clear hrp h1 h2 h3 hr hv hall
  generalize riseP z s = rp at *
  generalize stmI t = st at *
  obtain ⟨bz, oz, rfl, qz⟩ := intsCell h.1 hsn
  have hs1 : s < ((z.length : Nat) : Int) := by omega
  have QZ := Lib.hid qz
  generalize maxTo (fun k => z.getD k 0) (z.length - 1) = mx at *
  generalize z.getD s.toNat 0 = zv at *
  have hN := NetAt.new w (some ⟨bz, oz, none⟩) z.length cA B ps.length d 38
  have ⟨n0, n1⟩ := hN
  have hb : Below w.heap.size w (w.alloc (.cells #[.slice (some ⟨bz, oz, none⟩) z.length cA, .slice B ps.length d] 38)) := bal (Below.refl _ _) _
  go_enter Try.func38, Try.ntmps38
  go_wp2_with fail
  first | (go_region_held3 (fun w' => w'.cell? ⟨w.heap.size, 0, none⟩ = some (.slice (some ⟨bz, oz, none⟩) z.length cA) ∧ w'.cell? ⟨w.heap.size, 1, none⟩ = some (.slice B ps.length d) ∧ Below w.heap.size w w') (first | assumption | exact ⟨n0, n1, below_drewN hb 1⟩ | (go_split_ands; have hq := NetAt.next (A := some ⟨bz, oz, none⟩) (n := z.length) (c := cA) (B := B) (m := ps.length) (d := d) ⟨by assumption, by assumption⟩ hb'; exact ⟨hq.1, hq.2, bnext (by assumption) hb'⟩) | exact ⟨(netAllocDrew hN _).1, (netAllocDrew hN _).2, balDrew hb _⟩ | (have hq := NetAt.next (netAllocDrew hN _) hb'; exact ⟨hq.1, hq.2, bnext (balDrew hb _) hb'⟩) | (go_split_ands; exact ⟨(netAlloc (A := some ⟨bz, oz, none⟩) (n := z.length) (c := cA) (B := B) (m := ps.length) (d := d) ⟨by assumption, by assumption⟩ _).1, (netAlloc (A := some ⟨bz, oz, none⟩) (n := z.length) (c := cA) (B := B) (m := ps.length) (d := d) ⟨by assumption, by assumption⟩ _).2, bal (by assumption) _⟩) | (go_split_ands; exact ⟨(netAllocDrew (A := some ⟨bz, oz, none⟩) (n := z.length) (c := cA) (B := B) (m := ps.length) (d := d) ⟨by assumption, by assumption⟩ _).1, (netAllocDrew (A := some ⟨bz, oz, none⟩) (n := z.length) (c := cA) (B := B) (m := ps.length) (d := d) ⟨by assumption, by assumption⟩ _).2, balDrew (by assumption) _⟩)) (first | (go_at_call 97; refine (H1.out _).mono ?_; rintro e w' ⟨rfl, hb'⟩) | (go_at_call 81; refine (H2.out _).mono ?_; rintro e w' ⟨rfl, hb'⟩) | (go_at_call 53; refine (H3.out _ _ ?hn).mono ?_; (case hn => first | exact (World.cell?_alloc_at _ _ _ _ (by simp)).trans rfl | simp); rintro e w' ⟨rfl, rfl⟩) | (go_at_call 68; refine (HC.out _ (by first | (go_split_ands; assumption) | exact below_drewN hb 1 | exact balDrew hb _)).mono ?_; rintro e w' ⟨rfl, hb'⟩))) | fail
  rename_i hHeld
  obtain ⟨n0, n1, hb⟩ := hHeld
  go_wp2_with ((go_at_call 98; refine (HST.out _).mono ?_; rintro e w' ⟨rfl, hb'⟩; have n0 := (hb'.cell (World.block_lt_of_cell? _ _ n0)).trans n0; have n1 := (hb'.cell (World.block_lt_of_cell? _ _ n1)).trans n1; have hb := bnext hb hb'; clear hb'))
  have qz := (hb.cell (World.block_lt_of_cell? _ _ QZ.out)).trans QZ.out
  have w1 : IntKind.i64.wrap (st + m) = st + m := IntWalk.i64_in _ (by omega)
  have w2 : IntKind.i64.wrap (mx - zv) = mx - zv := IntWalk.i64_in _ (by omega)
  have w3 : IntKind.i64.wrap (st + m + rp) = st + m + rp := IntWalk.i64_in _ (by omega)
  go_wp2_with fail
  go_region_held3 (fun w' => w'.cell? ⟨w.heap.size, 0, none⟩ = some (.slice (some ⟨bz, oz, none⟩) z.length cA) ∧ w'.cell? ⟨w.heap.size, 1, none⟩ = some (.slice B ps.length d) ∧ w'.cell? ⟨bz, oz + s.toNat, none⟩ = some (.int .i64 zv) ∧ Below w.heap.size w w') (first | assumption | exact ⟨n0, n1, qz, below_drewN hb 1⟩ | (go_split_ands; exact ⟨(hb'.cell (World.block_lt_of_cell? _ _ (by assumption))).trans (by assumption), (hb'.cell (World.block_lt_of_cell? _ _ (by assumption))).trans (by assumption), (hb'.cell (World.block_lt_of_cell? _ _ (by assumption))).trans (by assumption), bnext (by assumption) hb'⟩)) (first | (go_at_call 100; refine (HMX.out _ (by first | (go_split_ands; assumption) | exact below_drewN hb 1)).mono ?_; rintro e w' ⟨rfl, hb'⟩) | (go_at_call 99; refine (hPR.out _).mono ?_; rintro e w' ⟨rfl, hb'⟩))
  all_goals go_wp2
  all_goals go_ret2
  all_goals go_split_ands
  all_goals exact ⟨rfl, by assumption⟩
end Go.Proofs.Ytdaedgdglammhaa
