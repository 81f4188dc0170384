/-
  newPump, isValid and ValidPump of the program.
-/
import Derived.Test.YtkbkmpcdidhagabPu2
import Derived.Test.YtkbkmpcdidhagabP9
namespace Go.Proofs.Ytkbkmpcdidhagab
open Go.ChangeShapes Go.WideShapes Go.ChangeAt Go.RowKit

set_option maxRecDepth 100000
set_option linter.unusedVariables false

def two (z : List Int) : Bool := decide (z.length = 2)
theorem notTwo_any (r : Rw) (w : World) (h : r.fine w) :
    Calls Try.prog 93 #[.slice r.A r.z.length r.c] w fun e w' => e = .returned (.bool (!two r.z)) ∧ w = w' := by
  have HV : Hid ((!two r.z) = ((r.z.length : Int) != 2)) := Lib.hid (by
    unfold two
    by_cases e : r.z.length = 2
    · rw [e]; rfl
    · rw [decide_eq_false e]
      symm
      simp only [Bool.not_false, bne_iff_ne]
      omega)
  clear h
  go_enter Try.func93, Try.ntmps93
  go_wp2
  go_ret
  exact ⟨by rw [HV.out]; rfl, rfl⟩
theorem indexRws_any (A : Option Addr) (n c : Nat) (rs : List Rw) (w : World) (h : RwsIn w A n rs) (hn : n ≤ 1048576) :
    Calls Try.prog 130 #[.slice A n c, .func (.func 93) #[] #[]] w (IdxR (rs.all fun r => two r.z) w) := by
  have HH := Lib.hid h
  obtain rfl := h.1
  clear h
  go_enter Try.func130, Try.ntmps130
  go_wp2
  go_loopw [8] (fun i wr => ∃ k : Nat, k ≤ rs.length ∧ i = .int .i64 k ∧ Hid ((rs.take k).all (fun r => two r.z) = true) ∧ w = wr) (fun i _ => rs.length - (intOf i).toNat)
  case atStart => exact ⟨0, Nat.zero_le _, rfl, Lib.hid (by simp), rfl⟩
  case round =>
    obtain ⟨k, hk, rfl, Hall, rfl⟩ := hrel
    by_cases hlt : k < rs.length
    · obtain ⟨b, off, rfl, hrow⟩ := HH.out.at (by omega)
      have hp := List.getElem?_eq_getElem hlt
      have p0 := hrow k _ hp
      have hf := HH.out.2.2.2 _ (List.mem_of_getElem? hp)
      have HS := Lib.hid (all_take_at (fun r : Rw => two r.z) rs k _ hp)
      have HNo := Lib.hid (all_false_of (fun r : Rw => two r.z) rs k _ hp)
      generalize rs[k] = r at *
      have HC := Lib.hid (notTwo_any r w hf)
      clear hp hrow hf
      go_wp2_with fail
      refine HC.out.mono ?_
      rintro e w1 ⟨rfl, rfl⟩
      by_cases hf : two r.z = true
      · rw [hf]
        have HF := Lib.hid hf
        clear hf
        go_wp2
        go_roundw
        case rel => exact ⟨k + 1, by omega, by go_num, Lib.hid (by rw [HS.out, Hall.out, HF.out]; rfl), trivial⟩
        case measure => simp [intOf]; omega
      · have hf : two r.z = false := by simpa using hf
        have HF := Lib.hid (HNo.out hf)
        rw [hf]
        clear hf
        go_wp2
        go_ret
        exact ⟨(k : Int), rfl, .inr ⟨HF.out, by omega⟩, Below.refl _ _⟩
    · have HF : Hid (rs.all (fun r => two r.z) = true) := Lib.hid (by have := Hall.out; rw [List.take_of_length_le (by omega)] at this; exact this)
      go_wp2
      go_ret
      exact ⟨-1, rfl, .inl ⟨HF.out, rfl⟩, Below.refl _ _⟩
theorem containsRws_any (A : Option Addr) (n c : Nat) (rs : List Rw) (w : World) (h : RwsIn w A n rs) (hn : n ≤ 1048576) :
    Calls Try.prog 92 #[.slice A n c, .func (.func 93) #[] #[]] w fun e w' => e = .returned (.bool (!rs.all fun r => two r.z)) ∧ Below w.heap.size w w' := by
  have HI := Lib.hid (indexRws_any A n c rs w h hn)
  clear h
  go_enter Try.func92, Try.ntmps92
  go_wp2_with fail
  refine HI.out.mono ?_
  rintro e w1 ⟨r, rfl, hr, hb⟩
  rcases hr with ⟨h1, rfl⟩ | ⟨h1, h2⟩
  · have H1 := Lib.hid h1
    clear h1
    go_wp2
    go_ret
    exact ⟨by rw [H1.out]; rfl, hb⟩
  · have H1 := Lib.hid h1
    clear h1
    go_wp2
    go_ret
    exact ⟨by rw [H1.out]; rfl, hb⟩
theorem pair_any (r : Rw) (w : World) (h : r.fine w) (h2 : r.z.length = 2) :
    Calls Try.prog 95 #[.slice r.A r.z.length r.c] w fun e w' => e = .returned (.agg #[.int .i64 (toPt r.z).1, .int .i64 (toPt r.z).2]) ∧ Below w.heap.size w w' := by
  obtain ⟨bz, oz, hzA, hzc⟩ := h.2.2.1 (by rw [List.length_map, h2]; omega)
  have c0 : w.cell? ⟨bz, oz, none⟩ = some (.int .i64 (toPt r.z).1) := by
    have := hzc 0 (by rw [List.length_map, h2]; omega)
    rw [Nat.add_zero] at this
    rw [this, List.getElem?_map]
    unfold toPt
    rw [List.getD, List.getElem?_eq_getElem (by omega)]; rfl
  have c1 : w.cell? ⟨bz, oz + 1, none⟩ = some (.int .i64 (toPt r.z).2) := by
    have := hzc 1 (by rw [List.length_map, h2]; omega)
    rw [this, List.getElem?_map]
    unfold toPt
    rw [List.getD, List.getD, List.getElem?_eq_getElem (by omega), List.getElem?_eq_getElem (by omega)]; rfl
  generalize toPt r.z = pt at *
  rw [h2, hzA]
  generalize r.c = rc at *
  clear h h2 hzA hzc
  go_enter Try.func95, Try.ntmps95
  have hb : Below w.heap.size w (w.alloc (.cells #[.int .i64 0, .int .i64 0] 90)) := bal (Below.refl _ _) _
  have e0 : (w.alloc (.cells #[.int .i64 0, .int .i64 0] 90)).cell? ⟨bz, oz, none⟩ = some (.int .i64 pt.1) := (hb.cell (p := ⟨bz, oz, none⟩) (World.block_lt_of_cell? _ _ c0)).trans c0
  have e1 : (w.alloc (.cells #[.int .i64 0, .int .i64 0] 90)).cell? ⟨bz, oz + 1, none⟩ = some (.int .i64 pt.2) := (hb.cell (p := ⟨bz, oz + 1, none⟩) (World.block_lt_of_cell? _ _ c1)).trans c1
  have hlb : bz < w.heap.size := World.block_lt_of_cell? _ _ c0
  go_wp2_with fail
  go_region_with (fail)
  all_goals
    go_wp2
    exact bodyPost_ret (results_cell_row Try.results95 _ _ w.heap.size 90 #[.int .i64 pt.1, .int .i64 pt.2] (0, 0) _ rfl (heap_alloc_new w _) Try.underlying90 rfl (by kernel_rfl)) rfl ⟨rfl, below_drewN (bal (Below.refl _ _) _) 1⟩


/-- a call that returns a new slice of points -/
def RetPts (ps : List (Int × Int)) (w : World) (e : Ending) (w' : World) : Prop :=
  ∃ A c, e = .returned (.slice A ps.length c) ∧ w'.ownsRow w.heap.size 90 2 (.slice A ps.length c) ps.length (rowsF ptCs ps) ∧ Below w.heap.size w w'
theorem infoPt : (Try.prog.info? 90).map (fun i => (i.zero, i.size, i.bytes)) = some (some (.agg #[.int .i64 0, .int .i64 0]), 2, 16) := by kernel_rfl
theorem convRws_any (A : Option Addr) (n c : Nat) (rs : List Rw) (w : World) (h : RwsIn w A n rs) (hn : n ≤ 1048576) (h2 : rs.all (fun r => two r.z) = true) :
    Calls Try.prog 94 #[.slice A n c, .func (.func 95) #[] #[]] w (RetPts (rs.map fun r => toPt r.z) w) := by
  have HH := Lib.hid h
  have H2 := Lib.hid h2
  obtain rfl := h.1
  have hM : rs.length ≤ maxLen := by unfold maxLen; omega
  have hm : rs.length ≤ 9223372036854775807 := by omega
  obtain ⟨i0, hi, hz0, hz1, hz2⟩ := info_parts infoPt
  clear h h2
  go_enter Try.func94, Try.ntmps94
  go_wp2_with (refine wpList_make_full _ rfl _ _ _ rfl w.heap.size 90 i0 (.agg #[.int .i64 0, .int .i64 0]) 2 Try.underlying84 hi hz0 hz1 _ _ _ _ rs.length rfl rfl rfl rfl (by rw [hz2]; omega) hM (Nat.le_refl _) ?_; intro w1 hown hgrow)
  have hb1 := Below.grown (Below.refl w.heap.size w) hgrow (Nat.le_refl _) (fun k hk => by cases hk)
  have hl1 := hown.1
  generalize (madeCells (Value.agg #[.int .i64 0, .int .i64 0]).cells (rs.length * 2)).toList = us at *
  have HX := Lib.hid hl1
  clear hl1
  go_loopw [13] (fun i wr => ∃ k : Nat, k ≤ rs.length ∧ i = .int .i64 k ∧ wr.ownsRow w.heap.size 90 2 (.slice (some ⟨w.heap.size, 0, none⟩) rs.length rs.length) rs.length (fillF ptCs 2 ((rs.map fun r => toPt r.z).take k) us) ∧ Below w.heap.size w wr) (fun i _ => rs.length - (intOf i).toNat)
  case atStart => exact ⟨0, Nat.zero_le _, rfl, by rw [List.take_zero, fillF_nil]; exact hown, hb1⟩
  case round =>
    obtain ⟨k, hk, rfl, hro, hb⟩ := hrel
    by_cases hlt : k < rs.length
    · obtain ⟨b, off, rfl, hrow⟩ := (HH.out.go hb).at (by omega)
      have hp := List.getElem?_eq_getElem hlt
      have p0 := hrow k _ hp
      have hf := (HH.out.2.2.2 _ (List.mem_of_getElem? hp)).go hb
      have ht : (rs[k]).z.length = 2 := by
        have := List.all_eq_true.1 H2.out _ (List.mem_of_getElem? hp)
        exact of_decide_eq_true this
      have hT : Hid ((rs.map fun r => toPt r.z).take (k + 1) = (rs.map fun r => toPt r.z).take k ++ [toPt (rs[k]).z]) := Lib.hid (by rw [List.take_add_one, List.getElem?_map, hp]; rfl)
      generalize rs[k] = r at *
      have HC := Lib.hid (pair_any r wr hf ht)
      clear hp hrow hf ht
      generalize toPt r.z = p at *
      go_wp2_with fail
      refine HC.out.mono ?_
      rintro e w1 ⟨rfl, hbt⟩
      have hb2 := bnext hb hbt
      have hro1 := hro.kept (row := none) ⟨hbt.os, hbt.tape, hbt.output, hbt.size, fun k hk _ => hbt.block k hk⟩ (.inr (by simp [Value.ownBlock]))
      clear p0 hro hb hbt
      have hkl : ((rs.map fun r => toPt r.z).take k).length = k := by rw [List.length_take, List.length_map]; omega
      have hbig : ((rs.map fun r => toPt r.z).take k).length * 2 + 2 ≤ us.length := by rw [HX.out, hkl]; omega
      obtain ⟨u0, hu0⟩ := fillF_at ptCsL ((rs.map fun r => toPt r.z).take k) us hbig 0 (by omega)
      obtain ⟨u1, hu1⟩ := fillF_at ptCsL ((rs.map fun r => toPt r.z).take k) us hbig 1 (by omega)
      rw [hkl] at hu0 hu1
      have c0 := (hro1.cellAt (k * 2) (by omega)).trans hu0
      have c1 := (hro1.cellAt (k * 2 + 1) (by omega)).trans hu1
      have f0 := hro1.frozenAt (k * 2)
      have f1 := hro1.frozenAt (k * 2 + 1)
      have hst := ((hro1.stored (k * 2) (.int .i64 p.1)).1.stored (k * 2 + 1) (.int .i64 p.2)).1
      have hfs := fillF_set ptCsL ((rs.map fun r => toPt r.z).take k) us p hbig
      rw [hkl] at hfs
      rw [show ((fillF ptCs 2 ((rs.map fun r => toPt r.z).take k) us).set (k * 2) (.int .i64 p.1)).set (k * 2 + 1) (.int .i64 p.2) = _ from hfs, ← hT.out] at hst
      have Hst := Lib.hid hst
      clear hst hro1 hbig hkl hfs hu0 hu1
      go_wp2
      go_roundw
      case rel => exact ⟨k + 1, by omega, by go_num, Hst.out, (hb2.setCell (Nat.le_refl _) _).setCell (Nat.le_refl _) _⟩
      case measure => simp [intOf]; omega
    · obtain rfl : k = rs.length := by omega
      rw [List.take_of_length_le (by rw [List.length_map]; exact Nat.le_refl _), fillF_all ptCsL _ us (by rw [List.length_map]; exact HX.out)] at hro
      have HFIN : Hid (RetPts (rs.map fun r => toPt r.z) w (.returned (.slice (some ⟨w.heap.size, 0, none⟩) rs.length rs.length)) wr) := Lib.hid ⟨_, _, by rw [List.length_map], by rw [List.length_map]; exact hro, hb⟩
      go_wp2
      go_ret
      exact HFIN.out
theorem owns2_cells {w : World} {base : Nat} {E : TypeId} {A : Option Addr} {n c : Nat} {vs : List Value} (h : w.ownsRow base E 2 (.slice A n c) n vs) : CellsAt w A vs := by
  intro hp
  rcases h.2 with ⟨hv, hn⟩ | ⟨g, cap, cur, hv, _, hg, _⟩
  · have := h.1; omega
  · injection hv with hA
    subst hA
    exact ⟨g, 0, rfl, fun j hj => by rw [Nat.zero_add]; exact h.cellAt j (by have := h.1; omega)⟩
theorem owns2_below {B : Nat} {w w' : World} {base : Nat} {E : TypeId} {A : Option Addr} {n c : Nat} {vs : List Value} (h : w.ownsRow base E 2 (.slice A n c) n vs) (hb : Below B w w') (hB : w.heap.size ≤ B) : w'.ownsRow base E 2 (.slice A n c) n vs :=
  owns_keep h fun b hb' => hb.block _ (Nat.lt_of_lt_of_le (h.lt b hb').2 hB)
theorem owns2_base {w : World} {base base' : Nat} {E : TypeId} {v : Value} {n : Nat} {vs : List Value} (h : w.ownsRow base E 2 v n vs) (hb : base' ≤ base) : w.ownsRow base' E 2 v n vs := by
  obtain ⟨h1, h2 | ⟨g, cap, cur, h3, h4, h5, h6⟩⟩ := h
  · exact ⟨h1, .inl h2⟩
  · exact ⟨h1, .inr ⟨g, cap, cur, h3, by omega, h5, h6⟩⟩
/-- a call that returns a new pump -/
def RetPump (id : ByteArray) (ps : List (Int × Int)) (w : World) (e : Ending) (w' : World) : Prop :=
  ∃ b B d, e = .returned (.pointer (some ⟨b, 0, none⟩)) ∧ PmpO w' b id B d ps ∧ w'.ownsRow w.heap.size 90 2 (.slice B ps.length d) ps.length (rowsF ptCs ps) ∧ w.heap.size ≤ b ∧ (∀ k, (Value.slice B ps.length d).ownBlock = some k → k ≠ b) ∧ Below w.heap.size w w'
theorem RetPump.pts {w' : World} {B : Option Addr} {d : Nat} {ps : List (Int × Int)} {base : Nat} (h : w'.ownsRow base 90 2 (.slice B ps.length d) ps.length (rowsF ptCs ps)) (hl : ps.length ≤ 1048576) : PtsOk w' B ps.length ps := ⟨⟨rfl, owns2_cells h⟩, hl⟩
theorem newPump_any (x : Pm) (w : World) (h : x.okay w) :
    Calls Try.prog 48 #[.agg #[.string x.d.id, .slice x.cvA x.d.cv.length x.cvc]] w (RetPump x.d.id (crv x.d.cv) w) := by
  have hN := PmO.new w x 27
  have hb : Below w.heap.size w (w.alloc (.cells #[.string x.d.id, .slice x.cvA x.d.cv.length x.cvc] 27)) := bal (Below.refl _ _) _
  have hZ := h.1.2.1
  have hcl : x.d.cv.length ≤ 1048576 := h.2.1
  have HR := Lib.hid h.1.2.2
  have HCO := Lib.hid (fun wx (hbx : Below w.heap.size w wx) => containsRws_any x.cvA x.d.cv.length x.cvc x.rs wx (h.1.2.2.go hbx) hcl)
  have HCV := Lib.hid (fun wx (hbx : Below w.heap.size w wx) (h2 : x.rs.all (fun r => two r.z) = true) => convRws_any x.cvA x.d.cv.length x.cvc x.rs wx (h.1.2.2.go hbx) hcl h2)
  have HAL : Hid (x.rs.all (fun r => two r.z) = x.d.cv.all (fun z => decide (z.length = 2))) := Lib.hid (by rw [← hZ, List.all_map]; rfl)
  have HMP : Hid ((x.rs.map fun r => toPt r.z) = x.d.cv.map toPt) := Lib.hid (by rw [← hZ, List.map_map]; rfl)
  have ⟨n0, n1⟩ := hN
  clear h hZ
  go_enter Try.func48, Try.ntmps48
  go_wp2_with fail
  refine (HCO.out _ hb).mono ?_
  rintro e w1 ⟨rfl, hb1⟩
  have hb2 := bnext hb hb1
  have hN := hN.next hb1
  clear n0 n1
  have ⟨n0, n1⟩ := hN
  by_cases h2 : x.rs.all (fun r => two r.z) = true
  rotate_left
  · have h2 : x.rs.all (fun r => two r.z) = false := by simpa only [Bool.not_eq_true] using h2
    have HV : Hid (crv x.d.cv = []) := Lib.hid (by unfold crv; rw [← HAL.out, h2]; rfl)
    rw [h2]
    go_wp2
    go_ret
    rw [HV.out]
    exact ⟨_, none, 0, rfl, ⟨by simp, by simp⟩, ⟨rfl, .inl ⟨rfl, rfl⟩⟩, hb2.size, fun k hk => by simp [Value.ownBlock] at hk, bal hb2 _⟩
  have HV : Hid (crv x.d.cv = x.rs.map fun r => toPt r.z) := Lib.hid (by unfold crv; rw [← HAL.out, h2, HMP.out]; rfl)
  have H2 := Lib.hid h2
  rw [h2]
  clear h2 n0 n1
  have hdr : Below w1.heap.size w1 w1.drew := below_drewN (Below.refl _ _) 1
  have hb3 := bnext hb2 hdr
  have hN := hN.next hdr
  have ⟨n0, n1⟩ := hN
  rw [Nat.zero_add] at n1
  go_wp2_with fail
  go_region_held3 (fun w' => w'.cell? ⟨w.heap.size, 0, none⟩ = some (.string x.d.id) ∧ w'.cell? ⟨w.heap.size, 1, none⟩ = some (.slice x.cvA x.d.cv.length x.cvc)) (first | exact ⟨n0, n1⟩ | exact ⟨(hN.alloc _).1, (hN.alloc _).2⟩) ((go_at_call 94; refine (HCV.out _ hb3 H2.out).mono ?_; rintro e w' ⟨T, td, rfl, hown, hb'⟩; have hb4 := bnext hb3 hb'; have hN := hN.next hb'; have ⟨n0, n1'⟩ := hN; have n1 : w'.cell? ⟨w.heap.size, 1, none⟩ = some (.slice x.cvA x.d.cv.length x.cvc) := n1'; have HOWN := Lib.hid hown; have hcur : w1.drew.heap.size ≤ w'.heap.size := hb'.size))
  go_wp2
  go_ret
  rw [HV.out]
  refine ⟨_, T, td, rfl, ⟨by simp, by simp⟩, owns2_base (owns2_below HOWN.out (bal (Below.refl _ _) _) (Nat.le_refl _)) hb3.size, hb4.size, fun k hk => ?_, bal hb4 _⟩
  have := (World.ownsRow.lt HOWN.out k hk).2
  omega
end Go.Proofs.Ytkbkmpcdidhagab
