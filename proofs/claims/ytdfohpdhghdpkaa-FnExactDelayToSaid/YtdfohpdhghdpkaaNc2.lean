import Derived.Test.YtdfohpdhghdpkaaNc1
import Derived.Test.YtdfohpdhghdpkaaNb8
/-
  DelayTo of the program.
-/
namespace Go.Proofs.Ytdfohpdhghdpkaa
open Go.ChangeShapes Go.WideShapes Go.ChangeAt Go.RowKit
set_option maxRecDepth 100000
set_option linter.unusedVariables false

/-- a stream's box with its code -/
def RetCut2 (ps : List Pp) (Y : List Int) (src : Int) (A B : Option Addr) (n c d : Nat) (F : Option Addr) (fl fc : Nat) (C : Int) (w : World) (s10 s11 : Value) (wx : World) : Prop :=
  ∃ (sb gb mb mn : Nat) (D : DataW Unit) (M : Int → Prop), s10 = .pointer (some ⟨sb, 0, none⟩) ∧ s11 = .int .i64 C ∧ Hid (StreamAt wx sb gb mb src F fl fc ∧ GridAt wx gb A n c B ps.length d noneClosed ∧ wx.ownsMap Try.prog 2 (legR ps Y src n) mb mn D ∧ MapOk D M ∧ ∀ x : Int, 0 ≤ x → x < n → M x) ∧ gb ≠ mb ∧ w.heap.size ≤ sb ∧ w.heap.size ≤ gb ∧ w.heap.size ≤ mb ∧ Below w.heap.size w wx
theorem cut2New {ps : List Pp} {Y : List Int} {src : Int} {A B : Option Addr} {n c d : Nat} {F : Option Addr} {fl fc : Nat} {C : Int} {w w2 : World} {gb mb mn : Nat} {D : DataW Unit} {M : Int → Prop} {T : TypeId} (hG : GridAt w2 gb A n c B ps.length d noneClosed) (hM : w2.ownsMap Try.prog 2 (legR ps Y src n) mb mn D) (hD : MapOk D M) (hMa : ∀ x : Int, 0 ≤ x → x < n → M x) (hne : gb ≠ mb) (hb : Below w.heap.size w w2) (h1 : w.heap.size ≤ gb) (h2 : w.heap.size ≤ mb) :
    RetCut2 ps Y src A B n c d F fl fc C w (.pointer (some ⟨w2.heap.size, 0, none⟩)) (.int .i64 C) (w2.alloc (.cells #[.pointer (some ⟨gb, 0, none⟩), .int .i64 src, .slice F fl fc, .map (some mb)] T)) := by
  have hal := bal (Below.refl w2.heap.size w2) (.cells #[.pointer (some ⟨gb, 0, none⟩), .int .i64 src, .slice F fl fc, .map (some mb)] T)
  exact ⟨_, gb, mb, mn, D, M, rfl, rfl, Lib.hid ⟨StreamAt.new w2 gb mb src F fl fc T, hG.next hal, ownsMap_below hM hal, hD, hMa⟩, hne, hb.size, h1, h2, bal hb _⟩
theorem cut2Set {ps : List Pp} {Y : List Int} {src : Int} {A B : Option Addr} {n c d : Nat} {F : Option Addr} {fl fc : Nat} {C : Int} {w w2 : World} {sb gb mb mn : Nat} {D : DataW Unit} {M : Int → Prop} {v0 v1 v2 v3 : Value} (hZ : Box4 w2 sb v0 v1 v2 v3) (hG : GridAt w2 gb A n c B ps.length d noneClosed) (hM : w2.ownsMap Try.prog 2 (legR ps Y src n) mb mn D) (hD : MapOk D M) (hMa : ∀ x : Int, 0 ≤ x → x < n → M x) (hne : gb ≠ mb) (hb : Below w.heap.size w w2) (h0 : w.heap.size ≤ sb) (h1 : sb < gb) (h2 : sb < mb) :
    RetCut2 ps Y src A B n c d F fl fc C w (.pointer (some ⟨sb, 0, none⟩)) (.int .i64 C) ((((w2.setCell ⟨sb, 0, none⟩ (.pointer (some ⟨gb, 0, none⟩))).setCell ⟨sb, 1, none⟩ (.int .i64 src)).setCell ⟨sb, 2, none⟩ (.slice F fl fc)).setCell ⟨sb, 3, none⟩ (.map (some mb))) := by
  obtain ⟨k0, k1, k2, k3, kg⟩ := set4_cells hZ _ rfl
  have hkk : ∀ k, some sb = some k → w.heap.size ≤ k := fun k hk => by cases hk; exact h0
  exact ⟨sb, gb, mb, mn, D, M, rfl, rfl, Lib.hid ⟨⟨k0, k1, k2, k3⟩, hG.grown kg (by omega), hM.kept kg (by intro e; have e : mb = sb := (by simpa using e); omega), hD, hMa⟩, hne, h0, by omega, by omega, hb.grown kg hb.size hkk⟩

/-- a code, whatever the stream -/
def RetCut3 (C : Int) (w : World) (s10 s11 : Value) (wx : World) : Prop := s11 = .int .i64 C ∧ Below w.heap.size w wx
theorem cut3New {C : Int} {w w2 : World} {s : Value} (o : Obj) (hb : Below w.heap.size w w2) : RetCut3 C w s (.int .i64 C) (w2.alloc o) := ⟨rfl, bal hb _⟩
theorem cut3Set {C : Int} {w w2 : World} {s : Value} {sb : Nat} {v0 v1 v2 v3 a0 a1 a2 a3 : Value} (hZ : Box4 w2 sb v0 v1 v2 v3) (hb : Below w.heap.size w w2) (h0 : w.heap.size ≤ sb) :
    RetCut3 C w s (.int .i64 C) ((((w2.setCell ⟨sb, 0, none⟩ a0).setCell ⟨sb, 1, none⟩ a1).setCell ⟨sb, 2, none⟩ a2).setCell ⟨sb, 3, none⟩ a3) := by
  obtain ⟨k0, k1, k2, k3, kg⟩ := set4_cells hZ _ rfl
  have hkk : ∀ k, some sb = some k → w.heap.size ≤ k := fun k hk => by cases hk; exact h0
  exact ⟨rfl, hb.grown kg hb.size hkk⟩
/-- a leg in a box -/
def LegBox (w : World) (b : Nat) (y x : Int) (p : Pp) (bx : Int) : Prop :=
  (w.cell? ⟨b, 0, none⟩ = some (.int .i64 y) ∧ w.cell? ⟨b, 1, none⟩ = some (.int .i64 x)) ∧ PipeO w b 2 p ∧ w.cell? ⟨b, 8, none⟩ = some (.int .i64 bx)
theorem LegBox.next {w w' : World} {b : Nat} {y x : Int} {p : Pp} {bx : Int} (h : LegBox w b y x p bx) (hb : Below w.heap.size w w') : LegBox w' b y x p bx :=
  ⟨⟨cellNext h.1.1 hb, cellNext h.1.2 hb⟩, h.2.1.next hb, cellNext h.2.2 hb⟩
theorem LegBox.new (w : World) (y x : Int) (p : Pp) (bx : Int) (T : TypeId) : LegBox (w.alloc (.cells #[.int .i64 y, .int .i64 x, .string p.id, .int .i64 p.f, .int .i64 p.t, .int .i64 p.L, .int .i64 p.d, .int .i64 p.s, .int .i64 bx] T)) w.heap.size y x p bx := by
  have hh := heap_alloc_new w (.cells #[.int .i64 y, .int .i64 x, .string p.id, .int .i64 p.f, .int .i64 p.t, .int .i64 p.L, .int .i64 p.d, .int .i64 p.s, .int .i64 bx] T)
  exact ⟨⟨(cell_of_row _ w.heap.size 0 _ _ _ hh).trans rfl, (cell_of_row _ w.heap.size 1 _ _ _ hh).trans rfl⟩, ⟨(cell_of_row _ w.heap.size 2 _ _ _ hh).trans rfl, (cell_of_row _ w.heap.size 3 _ _ _ hh).trans rfl, (cell_of_row _ w.heap.size 4 _ _ _ hh).trans rfl, (cell_of_row _ w.heap.size 5 _ _ _ hh).trans rfl, (cell_of_row _ w.heap.size 6 _ _ _ hh).trans rfl, (cell_of_row _ w.heap.size 7 _ _ _ hh).trans rfl⟩, (cell_of_row _ w.heap.size 8 _ _ _ hh).trans rfl⟩

set_option maxHeartbeats 8000000 in
theorem implDelayTo_any (A B : Option Addr) (c d : Nat) (z : List Int) (ps : List Pp) (src : Int) (Q : Option Addr) (qc : Nat) (q : List Int) (node : Int) (w : World) (h : NetCells w A z B ps) (hn : z.length ≤ 1048576) (hm : ps.length ≤ 1048576) (hid : ∀ p ∈ ps, p.id.size ≤ maxLen) (hQ : CellsAt w Q (intsV q)) (hq : q.length ≤ 1048576) :
    Calls Try.prog 41 #[.agg #[.slice A z.length c, .slice B ps.length d], .int .i64 src, .slice Q q.length qc, .int .i64 node] w fun e w' => e = .returned (.tuple #[.int .i64 (dtV z ps src q node), .int .i64 (dtC z ps src q node)]) ∧ Below w.heap.size w w' := by
  have hb0 : Below w.heap.size w (w.alloc (.cells #[.slice A z.length c, .slice B ps.length d] 27)) := bal (Below.refl _ _) _
  have hb : Below w.heap.size w (w.alloc (.cells #[.slice A z.length c, .slice B ps.length d] 27)).drew := below_drewN hb0 1
  have hN0 := NetAt.new w A z.length c B ps.length d 27
  have hN : NetAt (w.alloc (.cells #[.slice A z.length c, .slice B ps.length d] 27)).drew w.heap.size A z.length c B ps.length d := hN0
  have HHN := Lib.hid (fun wx => hasNode_any A z.length c B ps.length d node wx hn)
  have HGS := Lib.hid (fun wx (hbx : Below w.heap.size w wx) => by have := givenStream_any A B c d z ps src Q qc q (inB node 0 ((z.length : Int) - 1)) wx (h.next hbx) hn hm hid (hQ.next hbx) hq; exact this)
  have HQ := Lib.hid hQ
  have HC := Lib.hid h
  have hP : dtP z ps src q node = preC z ps (inB src 0 ((z.length : Int) - 1) && inB node 0 ((z.length : Int) - 1)) (flB (-100000) 100000 ps.length q) := rfl
  rw [← hP] at HGS
  have hid1 := Lib.hid hid
  clear h hid hQ
  have ⟨n0, n1⟩ := hN
  by_cases h0 : dtP z ps src q node = 0
  · have hpp := preC_net (hP.symm.trans h0)
    have hsr : inB src 0 ((z.length : Int) - 1) = true := by have := hpp.2.1; rw [Bool.and_eq_true] at this; exact this.1
    have hnd : inB node 0 ((z.length : Int) - 1) = true := by have := hpp.2.1; rw [Bool.and_eq_true] at this; exact this.2
    have hfl := flB_parts hpp.2.2.1
    have ⟨R, hj, s0, s1, hm15, hn16⟩ := rooted_net hpp.1 hpp.2.2.2 hsr
    have hf := (netB_parts hpp.1).2.2.2.1
    have hidm := hpp.1
    have hd' := inB_iff.1 hnd
    have hV : dtV z ps src q node = (dtO z ps src q node).getD 0 := by unfold dtV; rw [if_pos h0]
    have hCc : dtC z ps src q node = if (dtO z ps src q node).isSome then 0 else 3 := by unfold dtC; rw [if_pos h0]
    rw [hV, hCc]
    unfold dtO
    rw [hnd] at HHN HGS
    have HGS2 := Lib.hid (fun wx (hbx : Below w.heap.size w wx) => (HGS.out wx hbx).mono (fun e w' hh => (show ∃ sv, e = .returned (.tuple #[sv, .int .i64 0]) ∧ RetStream ps (bfsOut ps z.length src z.length).2 src A B z.length c d Q q.length qc wx (.returned sv) w' from by
      rcases hh with ⟨h1, _⟩ | ⟨h1, sv, h2, h3⟩
      · exact absurd h0 h1
      · exact ⟨sv, by rw [h2, h0], h3⟩)))
    clear HGS
    generalize (bfsOut ps z.length src z.length).1 = O at *
    generalize (bfsOut ps z.length src z.length).2 = Y at *
    have HR := Lib.hid R
    have HSTEP := Lib.hid (fun x x0 x1 hs => R.step hj hf hm15 (x := x) x0 x1 hs)
    have hL := R.legs hj s0 s1
    have HLL := Lib.hid hL
    have HQA := Lib.hid hfl.2
    have HQL := Lib.hid hfl.1
    obtain ⟨res, hres⟩ : ∃ res, delO ps Y src q z.length node = res := ⟨_, rfl⟩
    rw [hres]
    have HRES := Lib.hid hres
    obtain ⟨vv, hvv⟩ : ∃ vv : Int, res.getD 0 = vv := ⟨_, rfl⟩
    obtain ⟨cc, hcc⟩ : ∃ cc : Int, (if res.isSome then (0 : Int) else 3) = cc := ⟨_, rfl⟩
    rw [hvv, hcc]
    have HVV := Lib.hid hvv
    have HCV := Lib.hid hcc
    clear hvv hcc hP h0 hpp hfl hj hV hCc hf hres hsr hnd R hL hidm
    go_enter Try.func41, Try.ntmps41
    go_upto_region 1 with fail
    go_cut [10, 11] (fun s10 s11 wx => RetCut2 ps Y src A B z.length c d Q q.length qc 0 w s10 s11 wx)
    case first =>
      go_wp2_with fail
      go_region_held3 (fun w' => w'.cell? ⟨w.heap.size, 0, none⟩ = some (.slice A z.length c) ∧ w'.cell? ⟨w.heap.size, 1, none⟩ = some (.slice B ps.length d)) (first | exact ⟨n0, n1⟩ | exact ⟨cellNext n0 (bal (Below.refl _ _) _), cellNext n1 (bal (Below.refl _ _) _)⟩ | exact ⟨cell_set4 n0 (by omega), cell_set4 n1 (by omega)⟩) (first
        | (go_at_call 54; go_must (refine (HHN.out _).mono ?_; rintro e w1 ⟨rfl, hb1⟩; first
            | (have n0 := cellNext n0 hb1; have n1 := cellNext n1 hb1; have hlt1 : w.heap.size < w1.heap.size := World.block_lt_of_cell? _ _ n0; have hb := bnext hb hb1)
            | (have n0 := cellNext (cellNext n0 (bal (Below.refl _ _) (.cells #[.pointer none, .int .i64 0, .slice none 0 0, .map none] 74))) hb1; have n1 := cellNext (cellNext n1 (bal (Below.refl _ _) (.cells #[.pointer none, .int .i64 0, .slice none 0 0, .map none] 74))) hb1; have hlt1 : w.heap.size < w1.heap.size := World.block_lt_of_cell? _ _ n0; have hb := bnext (below_drewN (bal hb0 (.cells #[.pointer none, .int .i64 0, .slice none 0 0, .map none] 74)) 1) hb1; have Z := (show Box4 (((w.alloc (.cells #[.slice A z.length c, .slice B ps.length d] 27)).alloc (.cells #[.pointer none, .int .i64 0, .slice none 0 0, .map none] 74)).drew) (w.heap.size + 1) (.pointer none) (.int .i64 0) (.slice none 0 0) (.map none) from Box4.new (w.alloc (.cells #[.slice A z.length c, .slice B ps.length d] 27)) _ _ _ _ _ (w.heap.size + 1) (by simp)).next hb1; have hzs : w.heap.size + 1 < w1.heap.size := Z.lies)))
        | (go_at_call 95; go_must (first
            | (refine (HGS2.out w1 hb).mono ?_; rintro e w2 ⟨sv, rfl, gb, mb, mn, D, M, hsv, hG, hM, hD, hMa, hg0, hm0, hne, hb2⟩; cases hsv; have n0 := cellNext n0 hb2; have n1 := cellNext n1 hb2; have hbw := bnext hb hb2; have hsz := hb.size; first | (have Z := Z.next hb2; have ⟨⟨z0, z1, z2, z3⟩, f0, f1, f2, f3⟩ := Z) | skip)
            | (refine (HGS2.out (w1.alloc (.cells #[.pointer none, .int .i64 0, .slice none 0 0, .map none] 74)) (bal hb _)).mono ?_; rintro e w2 ⟨sv, rfl, gb, mb, mn, D, M, hsv, hG, hM, hD, hMa, hg0, hm0, hne, hb2⟩; cases hsv; have n0 := cellNext (cellNext n0 (bal (Below.refl _ _) (.cells #[.pointer none, .int .i64 0, .slice none 0 0, .map none] 74))) hb2; have n1 := cellNext (cellNext n1 (bal (Below.refl _ _) (.cells #[.pointer none, .int .i64 0, .slice none 0 0, .map none] 74))) hb2; have hbw := bnext (bal hb (.cells #[.pointer none, .int .i64 0, .slice none 0 0, .map none] 74)) hb2; have hsz := hb.size; have Z := (Box4.new w1 _ _ _ _ _ w1.heap.size rfl : Box4 (w1.alloc (.cells #[.pointer none, .int .i64 0, .slice none 0 0, .map none] 74)) w1.heap.size (.pointer none) (.int .i64 0) (.slice none 0 0) (.map none)).next hb2; have ⟨⟨z0, z1, z2, z3⟩, f0, f1, f2, f3⟩ := Z; have hg0 : w1.heap.size + 1 ≤ gb := (by simpa using hg0); have hm0 : w1.heap.size + 1 ≤ mb := (by simpa using hm0)))))
      all_goals (go_wp2; go_meet; first | exact cut2New hG hM hD hMa hne hbw (by omega) (by omega) | exact cut2Set Z hG hM hD hMa hne hbw (by omega) (by omega) (by omega) | go_show)
    case rest =>
      obtain ⟨sb, gb, mb, mn, D, M, rfl, rfl, HS, hne, hs0, hs1, hs2, hbc⟩ := hcut
      have HBC := Lib.hid hbc
      have hnw : w.heap.size < wc.heap.size := Nat.lt_of_le_of_lt hs0 (World.block_lt_of_cell? _ _ HS.out.1.1)
      clear n0 n1 hb hb0 hN hN0 HHN HGS2 hs0 hs1 hs2 hne
      have HPOS := Lib.hid (Nat.lt_of_lt_of_le (pos_lt (HR.out.all node hd'.1 (by omega))) HR.out.ok.short)
      go_wp2
      go_loopw [12, 13] (fun s a wr => ∃ (f : Nat) (x t : Int), s = .int .i64 t ∧ a = .int .i64 x ∧ 0 ≤ x ∧ x < z.length ∧ pos O x < f ∧ f ≤ 16 ∧ 0 ≤ t ∧ t ≤ (20 - (f : Int)) * 80000000000000 ∧ Hid (res = (delO ps Y src q f x).map fun u => t + u) ∧ Below wc.heap.size wc wr) (fun _ a _ => pos O (intOf a))
      case atStart => exact ⟨z.length, node, 0, rfl, rfl, hd'.1, by omega, HPOS.out, hn16, by omega, by omega, Lib.hid (by rw [HRES.out]; simp), Below.refl _ _⟩
      case round =>
        obtain ⟨f, x, t, rfl, rfl, x0, x1, hpf, hf16, t0, t1, HT, hbr⟩ := hrel
        have hbw := bnext HBC.out hbr
        obtain ⟨f, rfl⟩ : ∃ g, f = g + 1 := ⟨f - 1, by omega⟩
        by_cases hxs : x = src
        · have hx1 : (x != src) = false := by simpa using hxs
          have HE := Lib.hid (show res = some t by rw [HT.out, delO_at, if_pos hxs]; simp)
          clear hxs
          go_wp2
          go_ret2
          exact ⟨by rw [← HVV.out, ← HCV.out, HE.out]; rfl, hbw⟩
        · have hx1 : (x != src) = true := by simpa using hxs
          obtain ⟨p, hp, hpe, hbf, ⟨y0, y1, y2, y3⟩, hps, ⟨b0, b1⟩, hok⟩ := HSTEP.out x x0 x1 hxs
          have hok' := okP_ends hok
          obtain ⟨-, -, -, -, ⟨L0, L1⟩, ⟨D0, D1⟩, -⟩ := okP_bd _ _ _ _ _ _ hok
          have hidp := hid1.out p (List.mem_of_getElem? hp)
          have HD0 := HT.out
          rw [delO_at, if_neg hxs, hpe] at HD0
          have HDD := Lib.hid HD0
          have HPS := Lib.hid hps
          have hyn : absI (getI Y x) ≤ q.length := by rw [HQL.out]; exact y3
          have HAL := Lib.hid (fun wx (hbx : Below w.heap.size w wx) => exAlong_any (getI Y x) x Q qc q wx (HQ.out.next hbx) HQA.out (by omega) (by omega) y2 hyn hq)
          have hab := along_bd HQA.out (getI Y x)
          have HLEG := Lib.hid (show legOf ps Y src x = .agg #[.int .i64 (getI Y x), .int .i64 x, .string p.id, .int .i64 p.f, .int .i64 p.t, .int .i64 p.L, .int .i64 p.d, .int .i64 p.s, .int .i64 (befI ps Y x)] by unfold legOf legV legCs; rw [if_neg (by omega), if_neg hxs, hpe])
          have HAT := Lib.hid (HS.out.2.2.2.1.2 x (HS.out.2.2.2.2 x x0 x1))
          have hkey : keyOf Try.prog 2 (.int .i64 x) = some (nodeKey x) := keyI64 (by omega)
          have hMr := ownsMap_below HS.out.2.2.1 hbr
          have ⟨s0', s1', s2', s3'⟩ := HS.out.1.next hbr
          have HDL := Lib.hid (fun wx => implDelayOf_any p.id p.f p.t p.L p.d p.s (alongI q (getI Y x)) wx hidp)
          have HDB := Lib.hid (fun (f0 : -100000 ≤ alongI q (getI Y x)) (f1 : alongI q (getI Y x) ≤ 100000) (fn : alongI q (getI Y x) ≠ 0) => (show dlyV p.id p.f p.t p.L p.d p.s (alongI q (getI Y x)) = delayI p.L p.d (alongI q (getI Y x)) by unfold dlyV; rw [show okP p.id p.f p.t p.L p.d p.s = true from hok, inB_iff.2 ⟨f0, f1⟩, (by simpa using fn : (alongI q (getI Y x) != 0) = true)]; rfl))
          have HDC := Lib.hid (fun (f0 : -100000 ≤ alongI q (getI Y x)) (f1 : alongI q (getI Y x) ≤ 100000) (fn : alongI q (getI Y x) ≠ 0) => delay_bd p.L p.d (alongI q (getI Y x)) (by omega) L1 D0 D1 f0 f1 fn)
          clear hpe hbf hps HD0 hp hok hxs
          generalize befI ps Y x = bx at *
          generalize alongI q (getI Y x) = fl at *
          generalize getI Y x = y at *
          have hST := HS.out.1.next hbr
          have hLG := LegBox.new wr y x p bx 119
          have ⟨⟨l0, l1⟩, ⟨l2, l3, l4, l5, l6, l7⟩, l8⟩ := hLG
          have hbl := bal hbw (.cells #[.int .i64 y, .int .i64 x, .string p.id, .int .i64 p.f, .int .i64 p.t, .int .i64 p.L, .int .i64 p.d, .int .i64 p.s, .int .i64 bx] 119)
          have hbrl := bal hbr (.cells #[.int .i64 y, .int .i64 x, .string p.id, .int .i64 p.f, .int .i64 p.t, .int .i64 p.L, .int .i64 p.d, .int .i64 p.s, .int .i64 bx] 119)
          by_cases hfl : fl ≤ 0
          · have HE := Lib.hid (show res = none by rw [HDD.out, if_pos hfl]; rfl)
            go_wp2_with (first
              | (at_lookup; go_must (refine wpList_look_leg rfl _ _ 72 rfl 2 119 (Maps.int_keyed Try.underlying2) Try.underlying72 (legR ps Y src z.length) (zeroLeg _ ps Y src) (.lit (.int .i64 (-1))) [] (legR_of HLL.out (by omega)) mb mn D rfl (by first | exact hMr | exact ownsMap_below hMr (bal (Below.refl _ _) _)) _ _ rfl hkey ?_; intro lv lp hlv; rw [HAT.out] at hlv; (obtain ⟨x', hx', rfl, hxe⟩ := legR_inv hlv); (obtain rfl : x = x' := (by have h2 := congrArg Prod.fst hxe; simpa using h2)); rw [HLEG.out]; clear hlv hxe hx'))
              | (go_at_call 64; go_must (refine (HAL.out _ hbl).mono ?_; rintro e wa ⟨rfl, hba⟩; have hbl := bnext hbl hba)))
            go_ret2
            exact ⟨by rw [← HVV.out, ← HCV.out, HE.out]; rfl, hbl⟩
          · have HE := Lib.hid (show res = ((delO ps Y src q f bx).map fun t => delayI p.L p.d fl + t).map fun u => t + u by rw [HDD.out, if_neg hfl])
            have hdb := HDC.out hab.1 hab.2 (by omega)
            have HDL1 := Lib.hid (fun wx => (HDL.out wx).mono (fun e w' hh => (show ∃ cc : Int, e = .returned (.tuple #[.int .i64 (delayI p.L p.d fl), .int .i64 cc]) ∧ Below wx.heap.size wx w' from ⟨_, by rw [← HDB.out hab.1 hab.2 (by omega)]; exact hh.1, hh.2⟩)))
            clear HDL HDB HDC
            generalize delayI p.L p.d fl = dl at *
            go_wp2_with (first
              | (at_lookup; go_must (refine wpList_look_leg rfl _ _ 72 rfl 2 119 (Maps.int_keyed Try.underlying2) Try.underlying72 (legR ps Y src z.length) (zeroLeg _ ps Y src) (.lit (.int .i64 (-1))) [] (legR_of HLL.out (by omega)) mb mn D rfl (by first | exact hMr | exact ownsMap_below hMr (bal (Below.refl _ _) _)) _ _ rfl hkey ?_; intro lv lp hlv; rw [HAT.out] at hlv; (obtain ⟨x', hx', rfl, hxe⟩ := legR_inv hlv); (obtain rfl : x = x' := (by have h2 := congrArg Prod.fst hxe; simpa using h2)); rw [HLEG.out]; clear hlv hxe hx'))
              | (go_at_call 64; go_must (refine (HAL.out _ hbl).mono ?_; rintro e wa ⟨rfl, hba⟩; have hLG := hLG.next hba; have hbl := bnext hbl hba; have hbrl := bnext hbrl hba; have hMr := ownsMap_below (ownsMap_below hMr (bal (Below.refl _ _) _)) hba; have hST := (hST.next (bal (Below.refl _ _) (.cells #[.int .i64 y, .int .i64 x, .string p.id, .int .i64 p.f, .int .i64 p.t, .int .i64 p.L, .int .i64 p.d, .int .i64 p.s, .int .i64 bx] 119))).next hba; have ⟨s0', s1', s2', s3'⟩ := hST; have ⟨⟨l0, l1⟩, ⟨l2, l3, l4, l5, l6, l7⟩, l8⟩ := hLG))
              | (go_at_call 96; go_must (refine (HDL1.out _).mono ?_; rintro e wd ⟨dc, rfl, hbd⟩; have hbl := bnext hbl hbd; have hbrl := bnext hbrl hbd; have hMr := ownsMap_below hMr hbd; have hST := hST.next hbd; have ⟨s0', s1', s2', s3'⟩ := hST; have hfl9 := legBef (.int .i64 y) (.int .i64 x) (.string p.id) (.int .i64 p.f) (.int .i64 p.t) (.int .i64 p.L) (.int .i64 p.d) (.int .i64 p.s) (.int .i64 bx) wd)))
            go_roundw
            case rel => exact ⟨f, bx, t + dl, by go_num, rfl, b0, b1, by have := HPS.out; omega, by omega, by omega, by omega, Lib.hid (by rw [HE.out, Option.map_map]; congr 1; funext u; simp only [Function.comp]; omega), hbrl⟩
            case measure => have := HPS.out; simp [intOf]; omega
  · have hV : dtV z ps src q node = 0 := by unfold dtV; rw [if_neg h0]
    have hCc : dtC z ps src q node = dtP z ps src q node := by unfold dtC; rw [if_neg h0]
    rw [hV, hCc]
    generalize dtP z ps src q node = C at *
    have HGS2 := Lib.hid (fun wx (hbx : Below w.heap.size w wx) => (HGS.out wx hbx).mono (fun e w' hh => (show e = .returned (.tuple #[.agg #[.pointer none, .int .i64 0, .slice none 0 0, .map none], .int .i64 C]) ∧ Below wx.heap.size wx w' from by
      rcases hh with ⟨_, h2, h3⟩ | ⟨h1, _⟩
      · exact ⟨h2, h3⟩
      · exact absurd h1 h0)))
    have hCn : (C != 0) = true := by simpa using h0
    generalize inB node 0 ((z.length : Int) - 1) = nb at *
    clear HGS hP hV hCc h0
    go_enter Try.func41, Try.ntmps41
    go_upto_region 1 with fail
    go_cut [10, 11] (fun s10 s11 wx => RetCut3 C w s10 s11 wx)
    case first =>
      go_wp2_with fail
      go_region_held3 (fun w' => w'.cell? ⟨w.heap.size, 0, none⟩ = some (.slice A z.length c) ∧ w'.cell? ⟨w.heap.size, 1, none⟩ = some (.slice B ps.length d)) (first | exact ⟨n0, n1⟩ | exact ⟨cellNext n0 (bal (Below.refl _ _) _), cellNext n1 (bal (Below.refl _ _) _)⟩ | exact ⟨cell_set4 n0 (by omega), cell_set4 n1 (by omega)⟩) (first
        | (go_at_call 54; go_must (refine (HHN.out _).mono ?_; rintro e w1 ⟨rfl, hb1⟩; first
            | (have n0 := cellNext n0 hb1; have n1 := cellNext n1 hb1; have hlt1 : w.heap.size < w1.heap.size := World.block_lt_of_cell? _ _ n0; have hb := bnext hb hb1)
            | (have n0 := cellNext (cellNext n0 (bal (Below.refl _ _) (.cells #[.pointer none, .int .i64 0, .slice none 0 0, .map none] 74))) hb1; have n1 := cellNext (cellNext n1 (bal (Below.refl _ _) (.cells #[.pointer none, .int .i64 0, .slice none 0 0, .map none] 74))) hb1; have hlt1 : w.heap.size < w1.heap.size := World.block_lt_of_cell? _ _ n0; have hb := bnext (below_drewN (bal hb0 (.cells #[.pointer none, .int .i64 0, .slice none 0 0, .map none] 74)) 1) hb1; have Z := (show Box4 (((w.alloc (.cells #[.slice A z.length c, .slice B ps.length d] 27)).alloc (.cells #[.pointer none, .int .i64 0, .slice none 0 0, .map none] 74)).drew) (w.heap.size + 1) (.pointer none) (.int .i64 0) (.slice none 0 0) (.map none) from Box4.new (w.alloc (.cells #[.slice A z.length c, .slice B ps.length d] 27)) _ _ _ _ _ (w.heap.size + 1) (by simp)).next hb1; have hzs : w.heap.size + 1 < w1.heap.size := Z.lies)))
        | (go_at_call 95; go_must (first
            | (refine (HGS2.out w1 hb).mono ?_; rintro e w2 ⟨rfl, hb2⟩; have n0 := cellNext n0 hb2; have n1 := cellNext n1 hb2; have hbw := bnext hb hb2; have hsz := hb.size; first | (have Z := Z.next hb2; have ⟨⟨z0, z1, z2, z3⟩, f0, f1, f2, f3⟩ := Z) | skip)
            | (refine (HGS2.out (w1.alloc (.cells #[.pointer none, .int .i64 0, .slice none 0 0, .map none] 74)) (bal hb _)).mono ?_; rintro e w2 ⟨rfl, hb2⟩; have n0 := cellNext (cellNext n0 (bal (Below.refl _ _) (.cells #[.pointer none, .int .i64 0, .slice none 0 0, .map none] 74))) hb2; have n1 := cellNext (cellNext n1 (bal (Below.refl _ _) (.cells #[.pointer none, .int .i64 0, .slice none 0 0, .map none] 74))) hb2; have hbw := bnext (bal hb (.cells #[.pointer none, .int .i64 0, .slice none 0 0, .map none] 74)) hb2; have hsz := hb.size; have Z := (Box4.new w1 _ _ _ _ _ w1.heap.size rfl : Box4 (w1.alloc (.cells #[.pointer none, .int .i64 0, .slice none 0 0, .map none] 74)) w1.heap.size (.pointer none) (.int .i64 0) (.slice none 0 0) (.map none)).next hb2; have ⟨⟨z0, z1, z2, z3⟩, f0, f1, f2, f3⟩ := Z; skip))))
      all_goals (go_wp2; go_meet; first | exact cut3New _ hbw | exact cut3Set Z hbw (by omega) | go_show)
    case rest =>
      obtain ⟨rfl, hbc⟩ := hcut
      go_wp2
      go_ret2
      exact ⟨rfl, hbc⟩
end Go.Proofs.Ytdfohpdhghdpkaa
