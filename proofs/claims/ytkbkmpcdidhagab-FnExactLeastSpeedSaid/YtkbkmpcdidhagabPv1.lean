/-
  A pump at another speed: the model makes a new one.
-/
import Derived.Test.YtkbkmpcdidhagabPv0
import Derived.Test.YtkbkmpcdidhagabPm2
import Derived.Maps.AppendAt
import Derived.Deep.AppendLies
import Derived.Deep.RegionLaw
import Derived.Test.YtkbkmpcdidhagabQu
import Derived.Test.YtkbkmpcdidhagabA4
namespace Go.Proofs.Ytkbkmpcdidhagab
open Go.ChangeShapes Go.WideShapes Go.ChangeAt Go.RowKit Go.Shelf

set_option maxRecDepth 100000
set_option maxHeartbeats 1600000
set_option linter.unusedVariables false

/-- a row of a curve at another speed -/
def slZ (th : Int) (z : List Int) : List Int := [nearI (z.getD 0 0 * th) 1000, nearI (z.getD 1 0 * th * th) 1000000]
theorem wf_i64' {z : Int} (h0 : -9223372036854775808 ≤ z) (h1 : z ≤ 9223372036854775807) : (Lit.int .i64 z).wf = true := by
  have h := wrap64_wf z
  have e : wrap64 z = z := by unfold wrap64; omega
  rw [e] at h
  exact h
theorem pair_keep {w w' : World} {b : Nat} {a c : Value} (h : w.cell? ⟨b, 0, none⟩ = some a ∧ w.cell? ⟨b, 1, none⟩ = some c) (k : w'.heap[b]? = w.heap[b]?) : w'.cell? ⟨b, 0, none⟩ = some a ∧ w'.cell? ⟨b, 1, none⟩ = some c := by
  unfold World.cell? at h ⊢
  rw [k]
  exact h
theorem pair_set1 {w : World} {b : Nat} {a c : Value} (h : w.cell? ⟨b, 0, none⟩ = some a ∧ w.cell? ⟨b, 1, none⟩ = some c) (u : Value) : (w.setCell ⟨b, 1, none⟩ u).cell? ⟨b, 0, none⟩ = some a ∧ (w.setCell ⟨b, 1, none⟩ u).cell? ⟨b, 1, none⟩ = some u :=
  ⟨(World.cell?_setCell_other _ _ _ _ (by simp)).trans h.1, World.cell?_setCell_same _ _ _ h.2⟩
theorem PmF.set {w : World} {b : Nat} (h : PmF w b) (p : Addr) (u : Value) : PmF (w.setCell p u) b := by
  unfold PmF at *
  rw [World.frozen?_setCell, World.frozen?_setCell]
  exact h
def slD (d : PmD) (th : Int) : PmD := ⟨d.id, d.cv.map (slZ th)⟩
theorem l08Slow_any (b : Nat) (x : Pm) (th : Int) (w : World) (hO : PmO w b 0 x) (h : x.okay w) (hv : okPu x.d = true) (hth : 100 ≤ th ∧ th ≤ 1200) :
    Calls Try.prog 66 #[.pointer (some ⟨b, 0, none⟩), .int .i64 th] w fun e w' => ∃ y : Pm, y.d = slD x.d th ∧ e = .returned (.agg #[.string y.d.id, .slice y.cvA y.d.cv.length y.cvc]) ∧ y.okay w' ∧ Below w.heap.size w w' := by
  obtain ⟨i0, hi, hz0, hz1, hz2⟩ := info_parts infoRow
  have hba : Below w.heap.size w (w.alloc (.cells #[.string x.d.id, .slice none 0 0] 27)) := bal (Below.refl _ _) _
  have HO := Lib.hid hO
  have HR := Lib.hid h.1.2.2
  have hbl := hO.lies
  obtain ⟨-, hok, hcrv, htwo⟩ := okPu_parts hv
  have hlen : (crv x.d.cv).length = x.d.cv.length := by rw [hcrv, List.length_map]
  have h8 : x.d.cv.length ≤ 8 := by have := (okC_parts hok).2.1; omega
  have h2 : 2 ≤ x.d.cv.length := by have := (okC_parts hok).1; omega
  have HZ := Lib.hid h.1.2.1
  have HTW := Lib.hid htwo
  have HCR := Lib.hid hcrv
  have HBD := Lib.hid (fun (i : Nat) (hi : i < x.d.cv.length) => okC_one hok i (by omega))
  have hsz := h.1.1
  have hP := hO.next hba
  have ⟨n0, n1⟩ := hP
  let W1 := w.alloc (.cells #[.string ⟨#[]⟩, .slice none 0 0] 27)
  let W2 := W1.alloc (.cells #[.string x.d.id, .slice none 0 0] 27)
  have s1 : W1.heap.size = w.heap.size + 1 := by simp [W1]
  have s2 : W2.heap.size = w.heap.size + 2 := by simp [W2, s1]
  have hb : Below w.heap.size w W2 := bal (bal (Below.refl _ _) _) _
  have hN : PmO W2 (w.heap.size + 1) 0 ⟨⟨x.d.id, []⟩, none, 0, []⟩ := by rw [← s1]; exact PmO.new W1 ⟨⟨x.d.id, []⟩, none, 0, []⟩ 27
  have hF : PmF W2 (w.heap.size + 1) := by rw [← s1]; exact PmF.new W1 _ _
  have hC : PmO W2 w.heap.size 0 zeroPm := (PmO.new w zeroPm 27).alloc _
  have hCF : PmF W2 w.heap.size := (PmF.new w _ _).keep (by have := (bal (Below.refl _ _) (.cells #[.string x.d.id, .slice none 0 0] 27) : Below W1.heap.size W1 W2).block w.heap.size (by omega); exact this)
  have ⟨m0, m1⟩ := hO
  have HB2 := Lib.hid hb
  have HN := Lib.hid hN
  have HF := Lib.hid hF
  have HCC := Lib.hid hC
  have HCF := Lib.hid hCF
  have HS2 := Lib.hid s2
  clear h hv hok hcrv hlen htwo hO hb hN hF hC hCF s1 s2 hba hP n0 n1
  go_enter Try.func66, Try.ntmps66
  go_wp2_with fail
  go_loopw [6] (fun i wr => ∃ (k : Nat) (T : Option Addr) (td : Nat) (rs : List Rw), k ≤ x.d.cv.length ∧ i = .int .i64 k ∧ wr.cell? ⟨w.heap.size + 1, 0, none⟩ = some (.string x.d.id) ∧ wr.cell? ⟨w.heap.size + 1, 1, none⟩ = some (.slice T k td) ∧ PmF wr (w.heap.size + 1) ∧ PmO wr w.heap.size 0 zeroPm ∧ PmF wr w.heap.size ∧ wr.ownsRow (w.heap.size + 2) 49 1 (.slice T k td) k (rwsV rs) ∧ Hid (rs.map Rw.z = (x.d.cv.take k).map (slZ th)) ∧ Hid (∀ r ∈ rs, r.own (w.heap.size + 2) wr ∧ (∀ j, r.v.ownBlock = some j → (Value.slice T k td).ownBlock ≠ some j) ∧ ∀ z ∈ r.z, (Lit.int .i64 z).wf = true) ∧ Below w.heap.size w wr ∧ w.heap.size + 2 ≤ wr.heap.size) (fun i _ => x.d.cv.length - (intOf i).toNat)
  case atStart => exact ⟨0, none, 0, [], Nat.zero_le _, rfl, HN.out.1, HN.out.2, HF.out, HCC.out, HCF.out, World.ownsRow_nil _ _ _ _, Lib.hid rfl, Lib.hid (fun r hr => by cases hr), HB2.out, by rw [HS2.out]; exact Nat.le_refl _⟩
  case round =>
    obtain ⟨k, T, td, rs, hk, rfl, q0, q1, hF, hC, hCF, hro, Hz, Hrs, hb, hsw⟩ := hrel
    have hP := HO.out.next hb
    have ⟨n0, n1⟩ := hP
    clear m0 m1 HN HF HCC HCF HS2
    clear HB2
    clear W2
    clear W1
    by_cases hlt : k < x.d.cv.length
    · have hrl : x.rs.length = x.d.cv.length := HR.out.1
      obtain ⟨bt, ot, hA, hrow⟩ := RwsIn.at HR.out (by omega)
      obtain ⟨r, hr⟩ : ∃ r, x.rs[k]? = some r := ⟨_, List.getElem?_eq_getElem (by omega)⟩
      have hrz : x.d.cv[k]? = some r.z := by rw [← HZ.out, List.getElem?_map, hr]; rfl
      have hr2 : r.z.length = 2 := HTW.out r.z (List.mem_of_getElem? hrz)
      obtain ⟨u, v, huv⟩ : ∃ u v, r.z = [u, v] := by
        match hz : r.z, hr2 with
        | [u, v], _ => exact ⟨u, v, rfl⟩
      have hbd := HBD.out k hlt
      have hrc := (hrow k r hr)
      have hfine : r.fine w := HR.out.2.2.2 r (List.mem_of_getElem? hr)
      obtain ⟨br, off, hrA, hrcell⟩ := hfine.2.2.1 (by rw [List.length_map, hr2]; omega)
      have hc0 := hrcell 0 (by rw [List.length_map, hr2]; omega)
      have hc1 := hrcell 1 (by rw [List.length_map, hr2]; omega)
      rw [hr2] at hrc
      rw [huv] at hc0 hc1
      have hpt : ptAt (crv x.d.cv) k = (u, v) := ptAt_get (by rw [HCR.out, List.getElem?_map, hrz, huv]; rfl)
      rw [hpt] at hbd
      have hbd : 0 ≤ u ∧ u ≤ 100000 ∧ 0 ≤ v ∧ v ≤ 2000000 := hbd
      obtain ⟨rA, rc, rz⟩ := r
      simp only at huv hrA hrc hr2
      subst huv
      subst hrA
      have hbtl := World.block_lt_of_cell? _ _ hrc
      have hbrl := World.block_lt_of_cell? _ _ hc0
      have g0 := (hb.cell (p := ⟨bt, ot + k, none⟩) hbtl).trans hrc
      have g1 := (hb.cell (p := ⟨br, off + 0, none⟩) hbrl).trans hc0
      rw [Nat.add_zero] at g1
      have g2 := (hb.cell (p := ⟨br, off + 1, none⟩) hbrl).trans hc1
      rw [hA] at n1
      have hm1 := mul_bdV hbd.1 hbd.2.1 (show (0 : Int) ≤ th by omega) hth.2
      have hm2 := mul_bdV hbd.2.2.1 hbd.2.2.2 (show (0 : Int) ≤ th by omega) hth.2
      have hm3 := mul_bdV hm2.1 hm2.2 (show (0 : Int) ≤ th by omega) hth.2
      have hw1 : IntKind.i64.wrap (u * th) = u * th := IntWalk.i64_in _ (by omega)
      have hw2 : IntKind.i64.wrap (v * th) = v * th := IntWalk.i64_in _ (by omega)
      have hw3 : IntKind.i64.wrap (v * th * th) = v * th * th := IntWalk.i64_in _ (by omega)
      have HD1 := Lib.hid (fun wx => l01Div_any (u * th) 1000 wx (by omega) (by omega) (by omega) (by omega) (by omega))
      have HD2 := Lib.hid (fun wx => l01Div_any (v * th * th) 1000000 wx (by omega) (by omega) (by omega) (by omega) (by omega))
      have HSZ : Hid (slZ th [u, v] = [nearI (u * th) 1000, nearI (v * th * th) 1000000]) := Lib.hid rfl
      have HTK : Hid ((x.d.cv.take (k + 1)).map (slZ th) = (x.d.cv.take k).map (slZ th) ++ [slZ th [u, v]]) := Lib.hid (by rw [List.take_add_one, List.map_append, hrz]; rfl)
      rw [HSZ.out] at HTK
      have hn1b := nearI_bd (u * th) 1000 (100000 * 1200) (by omega) (by omega) (by omega)
      have hn2b := nearI_bd (v * th * th) 1000000 (2000000 * 1200 * 1200) (by omega) (by omega) (by omega)
      generalize nearI (u * th) 1000 = y1 at *
      generalize nearI (v * th * th) 1000000 = y2 at *
      have HWF : Hid (∀ z ∈ [y1, y2], (Lit.int .i64 z).wf = true) := Lib.hid (by
        intro z hz
        have : -2880000000001 ≤ z ∧ z ≤ 2880000000001 := by
          rcases List.mem_cons.1 hz with rfl | hz
          · omega
          · rw [List.mem_singleton] at hz; subst hz; omega
        exact wf_i64' (by omega) (by omega))
      have HRO := Lib.hid hro
      have HC := Lib.hid hC
      have HCF := Lib.hid hCF
      have HFF := Lib.hid hF
      have HBW := Lib.hid hb
      have HQ := Lib.hid (And.intro q0 q1)
      have hk8 : k ≤ 8 := by omega
      clear hro hC hCF hF hb hpt hbd hm1 hm2 hm3 hrl hrow hr hrz hfine hc0 hc1 hrcell hbtl hbrl hn1b hn2b hrc
      go_wp2_with (go_at_call 76; refine (HD1.out _).mono ?_; rintro e w' ⟨rfl, rfl⟩)
      refine quiet_tailG (fun w' => w'.cell? ⟨w.heap.size + 1, 1, none⟩ = some (.slice T k td)) 2 17 19 (by kernel_rfl) (by kernel_rfl) (fun _ => q1) ?_
      simp only [List.take_succ_cons, List.take_zero, List.drop_succ_cons, List.drop_zero, Nat.reduceSub]
      iterate 2 (
        unfold wpPureS
        apply Exists.intro
        refine ⟨⟨rfl, fun wq hwq => ?hv⟩, ?_⟩
        case hv => ((try dsimp only at hwq); go_simp; try rfl)
        go_simp)
      unfold wpPureS
      repeat (go_big_quiet_step ((go_at_call 76; exact quiet_same (HD2.out _))))
      refine wpQuiet_nil ?_
      intro nq
      have hbw : w.heap.size + 1 < wr.heap.size := by omega
      have HBQ : Hid (Below wr.heap.size wr ((wr.drewN nq).alloc (.cells #[.int .i64 y1, .int .i64 y2] 2))) := Lib.hid (bal (below_drewN (Below.refl _ _) nq) _)
      have HB6 : Hid (Below wr.heap.size wr (((wr.drewN nq).alloc (.cells #[.int .i64 y1, .int .i64 y2] 2)).alloc (.cells #[.slice (some ⟨wr.heap.size, 0, none⟩) 2 2] 49))) := Lib.hid (bal HBQ.out _)
      have HNEW : Hid (∀ j u, [Value.slice (some ⟨wr.heap.size, 0, none⟩) 2 2][j]? = some u → (((wr.drewN nq).alloc (.cells #[.int .i64 y1, .int .i64 y2] 2)).alloc (.cells #[.slice (some ⟨wr.heap.size, 0, none⟩) 2 2] 49)).cell? ((⟨wr.heap.size + 1, 0, none⟩ : Addr).add j) = some u) := Lib.hid (by
        have h := cell_one_new ((wr.drewN nq).alloc (.cells #[.int .i64 y1, .int .i64 y2] 2)) (.slice (some ⟨wr.heap.size, 0, none⟩) 2 2) 49
        rw [World.size_alloc] at h
        exact h)
      have HR6 := Lib.hid (owns_below HRO.out HB6.out (Nat.le_refl _))
      have HLIT : Hid (((wr.drewN nq).alloc (.cells #[.int .i64 y1, .int .i64 y2] 2)).ownsRow (w.heap.size + 2) 2 1 (.slice (some ⟨wr.heap.size, 0, none⟩) 2 2) 2 [.int .i64 y1, .int .i64 y2]) := Lib.hid (World.ownsRow_lit (size := 1) (wr.drewN nq) #[.int .i64 y1, .int .i64 y2] 2 hsw (by unfold maxLen; omega) rfl)
      have c1 := (HBQ.out.cell (p := ⟨w.heap.size + 1, 1, none⟩) hbw).trans HQ.out.2
      have c2 := (HB6.out.cell (p := ⟨w.heap.size + 1, 1, none⟩) hbw).trans HQ.out.2
      clear q0 q1 n0 n1 g0 g1 g2
      unfold wpTailG
      rw [if_pos (by rfl)]
      unfold Oper.wp
      go_simp
      unfold wpTailG
      rw [if_pos (by rfl)]
      unfold Oper.wp
      go_simp
      unfold wpTailG
      refine wpList_append_lies _ rfl _ _ 22 rfl (w.heap.size + 2) 49 i0 (.slice none 0 0) 1 24 Try.underlying22 hi hz0 hz1 hz2 rfl (by decide) _ k _ rfl HR6.out ⟨wr.heap.size + 1, 0, none⟩ 1 1 [.slice (some ⟨wr.heap.size, 0, none⟩) 2 2] rfl rfl HNEW.out (by simp [Value.oneCell']) (by decide) (by unfold maxLen; omega) (by omega) (by have := HB6.out.size; omega) (wr.heap.size + 2) (by simp) ?_
      intro g cap w4 hown4 hgrow4 hat4 hlt4
      have hTlt : ∀ j, (Value.slice T k td).ownBlock = some j → w.heap.size + 2 ≤ j ∧ j < wr.heap.size := fun j hj => HRO.out.lt j hj
      have hne1 : some (w.heap.size + 1) ≠ (Value.slice T k td).ownBlock := fun e => by have := (hTlt _ e.symm).1; omega
      have hne0 : some w.heap.size ≠ (Value.slice T k td).ownBlock := fun e => by have := (hTlt _ e.symm).1; omega
      have k1 := (hgrow4.block (w.heap.size + 1) (by have := HB6.out.size; omega) hne1).trans (HB6.out.block (w.heap.size + 1) hbw)
      have k0 := (hgrow4.block w.heap.size (by have := HB6.out.size; omega) hne0).trans (HB6.out.block w.heap.size (by omega))
      have hq4 := pair_keep HQ.out k1
      have hF4 := HFF.out.keep k1
      have hC4 := HC.out.keep k0
      have hCF4 := HCF.out.keep k0
      have hg2 : w.heap.size + 2 ≤ g := (hown4.lt g rfl).1
      have hb4 : Below w.heap.size w w4 := (bnext HBW.out HB6.out).grown hgrow4 (by have := HB6.out.size; omega) (fun j hj => by have := (hTlt j hj).1; omega)
      have hsz4 : w.heap.size + 2 ≤ w4.heap.size := by have := hgrow4.size; have := HB6.out.size; omega
      have HOLD : Hid (∀ r ∈ rs, r.own (w.heap.size + 2) w4 ∧ ∀ j, r.v.ownBlock = some j → j ≠ g) := Lib.hid (fun r hr => by
        have h1 := (Hrs.out r hr).1
        have h2 := (Hrs.out r hr).2.1
        have hl : ∀ j, r.v.ownBlock = some j → j < wr.heap.size := fun j hj => (World.ownsRow.lt h1 j hj).2
        refine ⟨World.ownsRow.kept (owns_below h1 HB6.out (Nat.le_refl _)) hgrow4 ?_, fun j hj e => ?_⟩
        · cases hc : r.v.ownBlock with
          | none => exact .inl hc
          | some j => exact .inr (fun e => h2 j hc (e.symm.trans hc))
        · subst e
          rcases hat4 with h | h
          · exact h2 _ hj h
          · have := hl _ hj; omega)
      have HNW : Hid ((⟨some ⟨wr.heap.size, 0, none⟩, 2, [y1, y2]⟩ : Rw).own (w.heap.size + 2) w4 ∧ wr.heap.size ≠ g) := Lib.hid ⟨World.ownsRow.kept (HLIT.out.alloc _) hgrow4 (.inr (fun e => by have := (hTlt wr.heap.size e.symm).2; omega)), fun e => by
        rcases hat4 with h | h
        · have := (hTlt _ h).2; omega
        · omega⟩
      have d1 := hq4.2
      have f1 := hF4.2
      have HQ5 := Lib.hid (pair_set1 hq4 (.slice (some ⟨g, 0, none⟩) (k + 1) cap))
      have HF5 := Lib.hid (hF4.set ⟨w.heap.size + 1, 1, none⟩ (.slice (some ⟨g, 0, none⟩) (k + 1) cap))
      have HC5 := Lib.hid (hC4.setOther (w.heap.size + 1) 1 (.slice (some ⟨g, 0, none⟩) (k + 1) cap) (by omega))
      have HCF5 := Lib.hid (hCF4.set ⟨w.heap.size + 1, 1, none⟩ (.slice (some ⟨g, 0, none⟩) (k + 1) cap))
      have HO5 := Lib.hid (owns_set_low hown4 (a := ⟨w.heap.size + 1, 1, none⟩) (by simp) (.slice (some ⟨g, 0, none⟩) (k + 1) cap))
      have HB5 := Lib.hid (hb4.setCell (p := ⟨w.heap.size + 1, 1, none⟩) (by simp) (.slice (some ⟨g, 0, none⟩) (k + 1) cap))
      have HRS5 : Hid (∀ r ∈ rs ++ [(⟨some ⟨wr.heap.size, 0, none⟩, 2, [y1, y2]⟩ : Rw)], r.own (w.heap.size + 2) (w4.setCell ⟨w.heap.size + 1, 1, none⟩ (.slice (some ⟨g, 0, none⟩) (k + 1) cap)) ∧ (∀ j, r.v.ownBlock = some j → (Value.slice (some ⟨g, 0, none⟩) (k + 1) cap).ownBlock ≠ some j) ∧ ∀ z ∈ r.z, (Lit.int .i64 z).wf = true) := Lib.hid (fun r hr => by
        rcases List.mem_append.1 hr with hr | hr
        · exact ⟨owns_set_low (HOLD.out r hr).1 (by simp) _, fun j hj e => (HOLD.out r hr).2 j hj (Option.some.inj e).symm, (Hrs.out r hr).2.2⟩
        · rw [List.mem_singleton] at hr
          subst hr
          exact ⟨owns_set_low HNW.out.1 (by simp) _, fun j hj e => HNW.out.2 ((Option.some.inj hj).trans (Option.some.inj e).symm), HWF.out⟩)
      have HZ5 : Hid ((rs ++ [(⟨some ⟨wr.heap.size, 0, none⟩, 2, [y1, y2]⟩ : Rw)]).map Rw.z = (x.d.cv.take (k + 1)).map (slZ th)) := Lib.hid (by rw [List.map_append, Hz.out, HTK.out]; rfl)
      clear hq4 hF4 hC4 hCF4 hb4 hown4 hgrow4 hat4 hlt4 k1 k0 hne1 hne0 hTlt c1 c2
      go_wp2_with fail
      refine mute_mk ?_
      go_wp2
      go_roundw
      case rel => exact ⟨k + 1, some ⟨g, 0, none⟩, cap, _, by omega, by go_num, HQ5.out.1, HQ5.out.2, HF5.out, HC5.out, HCF5.out, by unfold rwsV at *; rw [List.map_append]; exact HO5.out, HZ5, HRS5, HB5.out, by rw [World.size_setCell]; exact hsz4⟩
      case measure => simp [intOf]; omega
    · have hke : k = x.d.cv.length := by omega
      subst hke
      rw [List.take_length] at Hz
      have hl : rs.length = x.d.cv.length := by
        have := congrArg List.length Hz.out
        rw [List.length_map, List.length_map] at this
        exact this
      have HL := Lib.hid hl
      have ⟨r0, r1⟩ := hC
      have ⟨g0, g1⟩ := hCF
      dsimp only [zeroPm] at r0 r1
      have HRO := Lib.hid hro
      have HC := Lib.hid hC
      have HBW := Lib.hid hb
      clear hro hb hl hC
      go_wp2
      have hF := (HC.out.set0 x.d.id).set1 T td (x.d.cv.map (slZ th)) rs
      rw [List.length_map] at hF
      have hlm : (slD x.d th).cv.length = x.d.cv.length := by show (x.d.cv.map (slZ th)).length = _; rw [List.length_map]
      have ho2 := owns_set_low (owns_set_low HRO.out (a := ⟨w.heap.size, 0, none⟩) (by simp) (.string x.d.id)) (a := ⟨w.heap.size, 1, none⟩) (by simp) (.slice T x.d.cv.length td)
      have hP2 : PmO ((wr.setCell ⟨w.heap.size, 0, none⟩ (.string x.d.id)).setCell ⟨w.heap.size, 1, none⟩ (.slice T x.d.cv.length td)) w.heap.size 0 ⟨slD x.d th, T, td, rs⟩ := ⟨hF.1, by have := hF.2; show _ = some (Value.slice T (slD x.d th).cv.length td); rw [hlm]; rw [this]; show some (Value.slice T (x.d.cv.map (slZ th)).length td) = _; rw [List.length_map]⟩
      refine bodyPost_ret (results_Pm Try.results66 _ _ w.heap.size ⟨slD x.d th, T, td, rs⟩ rfl hP2) rfl ⟨⟨slD x.d th, T, td, rs⟩, rfl, rfl, ⟨⟨hsz, Hz.out, ?_⟩, ?_⟩, ?_⟩
      · refine ⟨by rw [hlm]; exact HL.out, by rw [hlm]; unfold maxLen; omega, owns_cells ho2, fun r hr => Rw.own.fine (owns_set_low (owns_set_low (Hrs.out r hr).1 (by simp) _) (by simp) _) (Hrs.out r hr).2.2⟩
      · refine ⟨by show (slD x.d th).cv.length ≤ _; rw [hlm]; omega, fun z hz => ?_⟩
        obtain ⟨z0, -, rfl⟩ := List.mem_map.1 (show z ∈ x.d.cv.map (slZ th) from hz)
        show (2 : Nat) ≤ 1048576
        omega
      · exact (HBW.out.setCell (p := ⟨w.heap.size, 0, none⟩) (by simp) _).setCell (p := ⟨w.heap.size, 1, none⟩) (by simp) _

end Go.Proofs.Ytkbkmpcdidhagab
