/-
  ReadWave of the program.
-/
import Derived.Test.YtkbkmpcdidhagacDoorRp0
import Derived.Test.YtkbkmpcdidhagacDoorWa0
namespace Go.Proofs.YtkbkmpcdidhagacDoor
open Go.ChangeShapes Go.WideShapes Go.ChangeAt Go.RowKit Go.Shelf

set_option maxRecDepth 100000
set_option maxHeartbeats 1600000
set_option linter.unusedVariables false

/-- a point as a step -/
def ptSp (p : Int × Int) : Sp := ⟨p.1, p.2⟩
theorem ptSpF_any (p : Int × Int) (w : World) :
    Calls Tryd.prog 26 #[.agg #[.int .i64 p.1, .int .i64 p.2]] w fun e w' => e = .returned (.agg #[.int .i64 (ptSp p).t, .int .i64 (ptSp p).d]) ∧ Below w.heap.size w w' := by
  let W1 := w.alloc (.cells #[.int .i64 p.1, .int .i64 p.2] 42)
  have e0 : (W1.alloc (.cells #[.int .i64 0, .int .i64 0] 35)).cell? ⟨w.heap.size, 0, none⟩ = some (.int .i64 p.1) := by dsimp only [W1]; rw [World.cell?_alloc_lt _ _ _ (by simp)]; simp
  have e1 : (W1.alloc (.cells #[.int .i64 0, .int .i64 0] 35)).cell? ⟨w.heap.size, 1, none⟩ = some (.int .i64 p.2) := by dsimp only [W1]; rw [World.cell?_alloc_lt _ _ _ (by simp)]; simp
  dsimp only [W1] at e0 e1
  clear W1
  go_enter Tryd.func26, Tryd.ntmps26
  go_wp2
  exact bodyPost_ret (results_cell_row Tryd.results26 _ _ (w.heap.size + 1) 35 #[.int .i64 p.1, .int .i64 p.2] (0, 0) _ rfl (by
      have := heap_alloc_new (w.alloc (.cells #[.int .i64 p.1, .int .i64 p.2] 42)) (.cells #[.int .i64 p.1, .int .i64 p.2] 35)
      rw [World.size_alloc] at this
      exact this) Tryd.underlying35 rfl (by kernel_rfl)) rfl ⟨rfl, bal (bal (Below.refl _ _) _) _⟩
theorem infoSpR : (Tryd.prog.info? 35).map (fun i => (i.zero, i.size, i.bytes)) = some (some (.agg #[.int .i64 0, .int .i64 0]), 2, 16) := by kernel_rfl
def RetSpL (xs : List Sp) (w : World) (e : Ending) (w' : World) : Prop :=
  ∃ A c, e = .returned (.slice A xs.length c) ∧ w'.ownsRow w.heap.size 35 2 (.slice A xs.length c) xs.length (rowsF Sp.cs xs) ∧ Below w.heap.size w w'
theorem convPtSp_any (A : Option Addr) (n c : Nat) (ps : List (Int × Int)) (w : World) (h : PtsOk w A n ps) :
    Calls Tryd.prog 25 #[.slice A n c, .func (.func 26) #[] #[]] w (RetSpL (ps.map ptSp) w) := by
  have hn := h.2
  obtain rfl := h.1.1
  have HB := Lib.hid h.cells
  have hM : ps.length ≤ maxLen := by unfold maxLen; omega
  have hm : ps.length ≤ 9223372036854775807 := by omega
  have eg : ∀ args w, (callFunc 26 args).run Tryd.prog w = .ok (.enter 26 args) w := enters_of Tryd.func26 (by kernel_rfl) rfl
  obtain ⟨i0, hi, hz0, hz1, hz2⟩ := info_parts infoSpR
  clear h
  go_enter Tryd.func25, Tryd.ntmps25
  go_wp2_with (refine wpList_make_full _ rfl _ _ _ rfl w.heap.size 35 i0 (.agg #[.int .i64 0, .int .i64 0]) 2 Tryd.underlying25 hi hz0 hz1 _ _ _ _ ps.length rfl rfl rfl rfl (by rw [hz2]; omega) hM (Nat.le_refl _) ?_; intro w1 hown hgrow)
  have hb1 := Below.grown (Below.refl w.heap.size w) hgrow (Nat.le_refl _) (fun k hk => by cases hk)
  have hl1 := hown.1
  generalize (madeCells (Value.agg #[.int .i64 0, .int .i64 0]).cells (ps.length * 2)).toList = us at *
  have HX := Lib.hid hl1
  clear hl1
  go_loopw [13] (fun i wr => ∃ k : Nat, k ≤ ps.length ∧ i = .int .i64 k ∧ wr.ownsRow w.heap.size 35 2 (.slice (some ⟨w.heap.size, 0, none⟩) ps.length ps.length) ps.length (fillF Sp.cs 2 ((ps.map ptSp).take k) us) ∧ Below w.heap.size w wr) (fun i _ => ps.length - (intOf i).toNat)
  case atStart => exact ⟨0, Nat.zero_le _, rfl, by rw [List.take_zero, fillF_nil]; exact hown, hb1⟩
  case round =>
    obtain ⟨k, hk, rfl, hro, hb⟩ := hrel
    by_cases hlt : k < ps.length
    · obtain ⟨b, off, rfl, hrow⟩ := PtO.at (HB.out.next hb) (by omega)
      have hp := ptAt_some ps k hlt
      have ⟨p0, p1⟩ := hrow k _ hp
      have hT : Hid ((ps.map ptSp).take (k + 1) = (ps.map ptSp).take k ++ [ptSp (ptAt ps k)]) := Lib.hid (by rw [List.take_add_one, List.getElem?_map, hp]; rfl)
      generalize ptAt ps k = x at *
      have HC := Lib.hid (fun wx => ptSpF_any x wx)
      clear hp hrow
      generalize ptSp x = p at *
      go_wp2_with fail
      refine (HC.out _).mono ?_
      rintro e w1 ⟨rfl, hbt'⟩
      have hbt := bnext (bal (Below.refl _ _) (.cells #[.int .i64 x.1, .int .i64 x.2] 42) : Below wr.heap.size wr _) hbt'
      have hb2 := bnext hb hbt
      have hro1 := hro.kept (row := none) ⟨hbt.os, hbt.tape, hbt.output, hbt.size, fun k hk _ => hbt.block k hk⟩ (.inr (by simp [Value.ownBlock]))
      clear p0 p1 hro hb hbt hbt'
      have hkl : ((ps.map ptSp).take k).length = k := by rw [List.length_take, List.length_map]; omega
      have hbig : ((ps.map ptSp).take k).length * 2 + 2 ≤ us.length := by rw [HX.out, hkl]; omega
      obtain ⟨u0, hu0⟩ := fillF_at Sp.csL ((ps.map ptSp).take k) us hbig 0 (by omega)
      obtain ⟨u1, hu1⟩ := fillF_at Sp.csL ((ps.map ptSp).take k) us hbig 1 (by omega)
      rw [hkl] at hu0 hu1
      have c0 := (hro1.cellAt (k * 2) (by omega)).trans hu0
      have c1 := (hro1.cellAt (k * 2 + 1) (by omega)).trans hu1
      have f0 := hro1.frozenAt (k * 2)
      have f1 := hro1.frozenAt (k * 2 + 1)
      have hst := ((hro1.stored (k * 2) (.int .i64 p.t)).1.stored (k * 2 + 1) (.int .i64 p.d)).1
      have hfs := fillF_set Sp.csL ((ps.map ptSp).take k) us p hbig
      rw [hkl] at hfs
      rw [show ((fillF Sp.cs 2 ((ps.map ptSp).take k) us).set (k * 2) (.int .i64 p.t)).set (k * 2 + 1) (.int .i64 p.d) = _ from hfs, ← hT.out] at hst
      have Hst := Lib.hid hst
      clear hst hro1 hbig hkl hfs hu0 hu1
      go_wp2
      go_roundw
      case rel => exact ⟨k + 1, by omega, by go_num, Hst.out, (hb2.setCell (Nat.le_refl _) _).setCell (Nat.le_refl _) _⟩
      case measure => simp [intOf]; omega
    · obtain rfl : k = ps.length := by omega
      rw [List.take_of_length_le (by rw [List.length_map]; exact Nat.le_refl _), fillF_all Sp.csL _ us (by rw [List.length_map]; exact HX.out)] at hro
      have HFIN : Hid (RetSpL (ps.map ptSp) w (.returned (.slice (some ⟨w.heap.size, 0, none⟩) ps.length ps.length)) wr) := Lib.hid ⟨_, _, by rw [List.length_map], by rw [List.length_map]; exact hro, hb⟩
      go_wp2
      go_ret
      exact HFIN.out
/-- steps or none, as a call returns them -/
def RetSpO (o : Option (List Sp)) (w : World) (e : Ending) (w' : World) : Prop :=
  (∃ l, o = some l ∧ ∃ A c, e = .returned (.tuple #[.slice A l.length c, .bool true]) ∧ w'.ownsRow w.heap.size 35 2 (.slice A l.length c) l.length (rowsF Sp.cs l) ∧ Below w.heap.size w w') ∨
  (o = none ∧ e = .returned (.tuple #[.slice none 0 0, .bool false]) ∧ Below w.heap.size w w')
def implW (s : ByteArray) : Option (List Sp) := if okW (((readPts 24 s).getD []).map ptSp) = true then some (((readPts 24 s).getD []).map ptSp) else none
theorem readPts_short (m : Nat) (s : ByteArray) : ((readPts m s).getD []).length ≤ m := by
  unfold readPts
  split
  · rename_i h
    show (List.map rdPt (partsN (m + 1) s)).length ≤ _
    rw [List.length_map]; exact h.1
  · exact Nat.zero_le _
theorem implReadWave_any (s : ByteArray) (w : World) (hs : s.size ≤ 1048576) (hm : MaxVar w) (hv : ErrVars w) (ht : PowTab w) :
    Calls Tryd.prog 11 #[.string s] w (RetSpO (implW s) w) := by
  have hC := readPoints_any 24 s w (by omega) (by omega) hs hm hv ht
  have hsh := readPts_short 24 s
  have HR : Hid (implW s = if okW (((readPts 24 s).getD []).map ptSp) = true then some (((readPts 24 s).getD []).map ptSp) else none) := Lib.hid rfl
  have HC : Hid (Calls Tryd.prog 24 #[.string s, .int .i64 24] w fun e w' => ∃ A c b, e = .returned (.tuple #[.slice A ((readPts 24 s).getD []).length c, .bool b]) ∧ PtsOk w' A ((readPts 24 s).getD []).length ((readPts 24 s).getD []) ∧ Below w.heap.size w w') := Lib.hid (hC.mono (by
    rintro e w' (⟨l, e1, A, c, rfl, hown, hb⟩ | ⟨e1, rfl, hb⟩)
    · rw [e1] at hsh ⊢
      exact ⟨A, c, true, rfl, ⟨⟨rfl, rowsF_owned hown⟩, by show l.length ≤ _; have : l.length ≤ 24 := hsh; omega⟩, hb⟩
    · rw [e1]
      exact ⟨none, 0, false, rfl, ⟨⟨rfl, fun h => absurd h (by simp [rowsF])⟩, by simp⟩, hb⟩))
  clear hC hm hv ht
  generalize (readPts 24 s).getD [] = ps at *
  generalize implW s = R at *
  have HV := Lib.hid (fun A c wx (h : SpsOk wx A (ps.map ptSp).length (ps.map ptSp)) => implVW_any A _ c (ps.map ptSp) wx h)
  have HCV := Lib.hid (fun A c wx h => convPtSp_any A ps.length c ps wx h)
  have hl : (ps.map ptSp).length ≤ 24 := by rw [List.length_map]; exact hsh
  generalize hxs : ps.map ptSp = xs at *
  clear hxs
  go_enter Tryd.func11, Tryd.ntmps11
  go_wp2_with fail
  refine HC.out.mono ?_
  rintro e w1 ⟨A, c, b, rfl, hok, hb1⟩
  go_wp2_with fail
  refine (HCV.out A c _ hok).mono ?_
  rintro e w2 ⟨A2, c2, rfl, hown, hb2⟩
  have hok2 : SpsOk w2 A2 xs.length xs := ⟨⟨rfl, by unfold maxLen; omega, rowsF_owned hown, fun _ _ => by first | trivial | exact True.intro⟩, by omega⟩
  have HV2 := Lib.hid (HV.out A2 c2 w2 hok2)
  have HO := Lib.hid hown
  have HB2 := Lib.hid (bnext hb1 hb2)
  have HSZ := Lib.hid hb1.size
  clear hok hok2 hown hb1 hb2 HV
  by_cases ho : okW xs = true
  · have HN : Hid (R = some xs) := Lib.hid (by rw [HR.out, if_pos ho])
    rw [ho] at HV2
    clear ho
    go_wp2_with (go_at_call 17; refine HV2.out.mono ?_; rintro e w5 ⟨rfl, hb5⟩; have HB6 := Lib.hid (bnext HB2.out hb5); have HO6 := Lib.hid (rowsF_below HO.out hb5 (Nat.le_refl _)); clear hb5)
    go_ret2
    exact .inl ⟨_, HN.out, _, _, rfl, ownsP_base HO6.out HSZ.out, HB6.out⟩
  · have ho : okW xs = false := by simpa only [Bool.not_eq_true] using ho
    have HN : Hid (R = none) := Lib.hid (by rw [HR.out, if_neg (by rw [ho]; simp)])
    rw [ho] at HV2
    clear ho
    go_wp2_with (go_at_call 17; refine HV2.out.mono ?_; rintro e w5 ⟨rfl, hb5⟩; have HB6 := Lib.hid (bnext HB2.out hb5); clear hb5)
    go_ret2
    exact .inr ⟨HN.out, rfl, HB6.out⟩

end Go.Proofs.YtkbkmpcdidhagacDoor
