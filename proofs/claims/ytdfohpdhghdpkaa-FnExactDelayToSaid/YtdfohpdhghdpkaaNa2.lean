import Derived.Test.YtdfohpdhghdpkaaNa1
/-
  BalanceAt on both sides.
-/
namespace Go.Proofs.Ytdfohpdhghdpkaa
open Go.ChangeShapes Go.WideShapes Go.ChangeAt Go.RowKit
set_option maxRecDepth 100000
set_option linter.unusedVariables false

def balB (z : List Int) (ps : List Pp) (q : List Int) (node : Int) : Bool := netB z ps && (inB node 0 ((z.length : Int) - 1) && flB (-100000) 100000 ps.length q)
def balV (z : List Int) (ps : List Pp) (q : List Int) (node : Int) : Int := if balB z ps q node then balTo ps q node ps.length else 0
def balC (z : List Int) (ps : List Pp) (q : List Int) (node : Int) : Int := if netB z ps then (if inB node 0 ((z.length : Int) - 1) then (if flB (-100000) 100000 ps.length q then 0 else 7) else 2) else 1
theorem flB_parts {lo hi : Int} {m : Nat} {q : List Int} (h : flB lo hi m q = true) : q.length = m ∧ allIn lo hi q = true := by
  unfold flB at h
  rw [Bool.and_eq_true] at h
  exact ⟨of_decide_eq_true h.1, h.2⟩

theorem specBalanceAt_any (A B : Option Addr) (c d : Nat) (z : List Int) (ps : List Pp) (Q : Option Addr) (qc : Nat) (q : List Int) (node : Int) (w : World) (h : NetCells w A z B ps) (hn : z.length ≤ 1048576) (hm : ps.length ≤ 1048576) (hid : ∀ p ∈ ps, p.id.size ≤ maxLen) (hQ : CellsAt w Q (intsV q)) (hq : q.length ≤ 1048576) :
    Calls Try.prog 31 #[.agg #[.slice A z.length c, .slice B ps.length d], .slice Q q.length qc, .int .i64 node] w fun e w' => e = .returned (.tuple #[.int .i64 (balV z ps q node), .int .i64 (balC z ps q node)]) ∧ Below w.heap.size w w' := by
  have hN := NetAt.new w A z.length c B ps.length d 27
  have hb : Below w.heap.size w (w.alloc (.cells #[.slice A z.length c, .slice B ps.length d] 27)) := bal (Below.refl _ _) _
  have HK := Lib.hid (l07Ask_any w.heap.size A B c d z ps node _ hN (h.next hb) hn hm hid)
  have HFL := Lib.hid (fun wx (hx : NetAt wx w.heap.size A z.length c B ps.length d) (hbx : Below w.heap.size w wx) => l07Flows_any w.heap.size A z.length c B ps.length d Q qc q wx hx hn hm hq (hQ.next hbx))
  have HC := Lib.hid h
  have HQ := Lib.hid hQ
  clear h hid hQ
  by_cases hv : netB z ps = true
  · by_cases hr : inB node 0 ((z.length : Int) - 1) = true
    · have e0 : argC (netB z ps) (inB node 0 ((z.length : Int) - 1)) = 0 := by rw [hv, hr]; rfl
      rw [e0] at HK
      clear e0
      by_cases hf : flB (-100000) 100000 ps.length q = true
      · have ev : balV z ps q node = balTo ps q node ps.length := by unfold balV balB; simp [hv, hr, hf]
        have ec : balC z ps q node = 0 := by unfold balC; simp [hv, hr, hf]
        have hfp := flB_parts hf
        rw [ev, ec]
        rw [hf] at HFL
        have hm20 := (netB_parts hv).2.2.1
        have HBD := Lib.hid (fun k => balTo_bd (ps := ps) hfp.2 node k)
        have HGD := Lib.hid (fun k => getD_bd hfp.2 (by omega) (by omega) k)
        have HQL := Lib.hid hfp.1
        clear ev ec hv hr hf hfp
        go_enter Try.func31, Try.ntmps31
        have ⟨n0, n1⟩ := hN
        go_wp2_with fail
        refine HK.out.mono ?_
        rintro e w1 ⟨rfl, hd1⟩
        have hb1 := drawn_below hd1
        have hN := hN.next hb1
        have hb := bnext hb hb1
        clear n0 n1 hb1 hd1
        have ⟨n0, n1⟩ := hN
        have HF1 := HFL.out _ hN hb
        go_wp2_with fail
        refine HF1.mono ?_
        rintro e w2 ⟨rfl, rfl⟩
        have HN := Lib.hid hN
        have HB1 := Lib.hid hb
        clear HF1
        go_wp2_with fail
        clear hN hb
        go_loop [9, 10] (fun v i => ∃ (k : Nat) (s : Int), k ≤ q.length ∧ i = .int .i64 k ∧ v = .int .i64 s ∧ Hid (s = balTo ps q node k) ∧ -4000000 ≤ s ∧ s ≤ 4000000) (fun _ i => q.length - (intOf i).toNat)
        case atStart => exact ⟨0, 0, Nat.zero_le _, rfl, rfl, Lib.hid rfl, by omega, by omega⟩
        case round =>
          obtain ⟨k, s, hk, rfl, rfl, HS, s0, s1⟩ := hrel
          by_cases hlt : k < q.length
          · have hlp : k < ps.length := by have := HQL.out; omega
            obtain ⟨b, o, rfl, h1⟩ := (HQ.out.next HB1.out) (by rw [intsV_length]; omega)
            have hc := h1 k (by rw [intsV_length]; exact hlt)
            have hg : q.getD k 0 = q[k] := by rw [List.getD_eq_getElem?_getD, List.getElem?_eq_getElem hlt]; rfl
            rw [intsV_at _ _ hlt, ← hg] at hc
            obtain ⟨b2, off, rfl, hrow⟩ := pipe_at (HC.out.2.next HB1.out) (by omega)
            have hp := List.getElem?_eq_getElem hlp
            obtain ⟨p0, p1, p2, p3, p4, p5⟩ := hrow k _ hp
            have hst := balTo_at (q := q) (node := node) hp
            have hbd := HBD.out (k + 1)
            have hg2 := HGD.out k
            rw [hst, ← HS.out] at hbd
            rw [← HS.out] at hst
            generalize ps[k] = p at *
            generalize q.getD k 0 = x at *
            have HST := Lib.hid hst
            clear hp hrow hst p0 p3 p4 p5 hg h1
            by_cases ht : p.t = node
            · have ht1 : (p.t == node) = true := by simpa using ht
              rw [if_pos ht] at HST
              by_cases hf : p.f = node
              · have hf1 : (p.f == node) = true := by simpa using hf
                rw [if_pos hf] at HST
                clear hf ht hbd
                go_wp2
                go_round
                case rel => exact ⟨k + 1, s + x - x, by omega, by go_num, by go_num, Lib.hid HST.out.symm, by omega, by omega⟩
                case measure => simp [intOf]; omega
              · have hf1 : (p.f == node) = false := by simpa using hf
                rw [if_neg hf] at HST
                rw [if_pos ht, if_neg hf] at hbd
                clear hf ht
                go_wp2
                go_round
                case rel => exact ⟨k + 1, s + x, by omega, by go_num, by go_num, Lib.hid (by rw [HST.out]; omega), by omega, by omega⟩
                case measure => simp [intOf]; omega
            · have ht1 : (p.t == node) = false := by simpa using ht
              rw [if_neg ht] at HST
              by_cases hf : p.f = node
              · have hf1 : (p.f == node) = true := by simpa using hf
                rw [if_pos hf] at HST
                rw [if_neg ht, if_pos hf] at hbd
                clear hf ht
                go_wp2
                go_round
                case rel => exact ⟨k + 1, s - x, by omega, by go_num, by go_num, Lib.hid HST.out.symm, by omega, by omega⟩
                case measure => simp [intOf]; omega
              · have hf1 : (p.f == node) = false := by simpa using hf
                rw [if_neg hf] at HST
                clear hf ht hbd
                go_wp2
                go_round
                case rel => exact ⟨k + 1, s, by omega, by go_num, by go_num, Lib.hid (by rw [HST.out]; omega), by omega, by omega⟩
                case measure => simp [intOf]; omega
          · have HE := Lib.hid (show s = balTo ps q node ps.length by rw [HS.out, show k = ps.length by have := HQL.out; omega])
            go_wp2
            go_ret2
            exact ⟨by rw [← HE.out]; rfl, HB1.out⟩
      · have hf : flB (-100000) 100000 ps.length q = false := by simpa using hf
        have ev : balV z ps q node = 0 := by unfold balV balB; simp [hv, hr, hf]
        have ec : balC z ps q node = 7 := by unfold balC; simp [hv, hr, hf]
        rw [ev, ec]
        rw [hf] at HFL
        clear ev ec hv hr hf
        go_enter Try.func31, Try.ntmps31
        have ⟨n0, n1⟩ := hN
        go_wp2_with fail
        refine HK.out.mono ?_
        rintro e w1 ⟨rfl, hd1⟩
        have hb1 := drawn_below hd1
        have hN := hN.next hb1
        have hb := bnext hb hb1
        clear n0 n1 hb1 hd1
        have HF1 := HFL.out _ hN hb
        go_wp2_with fail
        refine HF1.mono ?_
        rintro e w2 ⟨rfl, rfl⟩
        clear HF1
        go_wp2
        go_ret2
        exact ⟨rfl, hb⟩
    · have hr : inB node 0 ((z.length : Int) - 1) = false := by simpa using hr
      have e0 : argC (netB z ps) (inB node 0 ((z.length : Int) - 1)) = 2 := by rw [hv, hr]; rfl
      have ev : balV z ps q node = 0 := by unfold balV balB; simp [hv, hr]
      have ec : balC z ps q node = 2 := by unfold balC; simp [hv, hr]
      rw [e0] at HK
      rw [ev, ec]
      clear ev ec hv hr e0
      go_enter Try.func31, Try.ntmps31
      have ⟨n0, n1⟩ := hN
      go_wp2_with fail
      refine HK.out.mono ?_
      rintro e w1 ⟨rfl, hd1⟩
      have hb := bnext hb (drawn_below hd1)
      go_wp2
      go_ret2
      exact ⟨rfl, hb⟩
  · have hv : netB z ps = false := by simpa using hv
    have e0 : argC (netB z ps) (inB node 0 ((z.length : Int) - 1)) = 1 := by rw [hv]; rfl
    have ev : balV z ps q node = 0 := by unfold balV balB; simp [hv]
    have ec : balC z ps q node = 1 := by unfold balC; simp [hv]
    rw [e0] at HK
    rw [ev, ec]
    clear ev ec hv e0
    go_enter Try.func31, Try.ntmps31
    have ⟨n0, n1⟩ := hN
    go_wp2_with fail
    refine HK.out.mono ?_
    rintro e w1 ⟨rfl, hd1⟩
    have hb := bnext hb (drawn_below hd1)
    go_wp2
    go_ret2
    exact ⟨rfl, hb⟩

theorem bal1_any (st nd : Int) (fb : Nat) (Q : Option Addr) (qc : Nat) (q : List Int) (w : World) (cf : w.cell? ⟨fb, 0, none⟩ = some (.slice Q q.length qc)) (hQ : CellsAt w Q (intsV q)) (hq : allIn (-100000) 100000 q = true) (h0 : -20 ≤ st) (h1 : st ≤ 20) (hs : st ≠ 0) (hl : absI st ≤ q.length) (hm : q.length ≤ 1048576) :
    Calls Try.prog 63 #[.agg #[.int .i64 st, .int .i64 nd], .pointer (some ⟨fb, 0, none⟩)] w fun e w' => e = .returned (.int .i64 (alongI q st)) ∧ Below w.heap.size w w' := by
  have hb : Below w.heap.size w (w.alloc (.cells #[.int .i64 st, .int .i64 nd] 80)) := bal (Below.refl _ _) _
  have hX := ExAt.new w st nd 80
  have lf := World.block_lt_of_cell? _ _ cf
  have cf := (hb.cell (p := ⟨fb, 0, none⟩) lf).trans cf
  have HL := Lib.hid (fun wx (hbx : Below w.heap.size w wx) => exAlong_any st nd Q qc q wx (hQ.next hbx) hq h0 h1 hs hl hm)
  clear hQ hq hl
  generalize alongI q st = r at *
  have ⟨x0, x1⟩ := hX
  go_enter Try.func63, Try.ntmps63
  go_wp2_with (go_at_call 64; refine (HL.out _ hb).mono ?_; rintro e w' ⟨rfl, hb'⟩; have hb := bnext hb hb')
  go_ret
  exact ⟨rfl, hb⟩
theorem totalEx_any (E : Option Addr) (ec : Nat) (X : List (Int × Int)) (fb : Nat) (Q : Option Addr) (qc : Nat) (q : List Int) (w : World) (hE : CellsAt w E (rowsE X)) (hX : ∀ e ∈ X, -20 ≤ e.1 ∧ e.1 ≤ 20 ∧ e.1 ≠ 0 ∧ absI e.1 ≤ q.length) (hl : X.length ≤ 20) (cf : w.cell? ⟨fb, 0, none⟩ = some (.slice Q q.length qc)) (hQ : CellsAt w Q (intsV q)) (hq : allIn (-100000) 100000 q = true) (hm : q.length ≤ 1048576) :
    Calls Try.prog 60 #[.slice E X.length ec, .func (.func 63) #[] #[.pointer (some ⟨fb, 0, none⟩)]] w fun e w' => e = .returned (.int .i64 ((X.map fun e => alongI q e.1).sum)) ∧ Below w.heap.size w w' := by
  have HE := Lib.hid hE
  have HX := Lib.hid hX
  have HBD := Lib.hid (fun k => take_along_bd hq X hl k)
  have lf := World.block_lt_of_cell? _ _ cf
  have HL := Lib.hid (fun (e : Int × Int) (he : e ∈ X) wx (hb : Below w.heap.size w wx) => bal1_any e.1 e.2 fb Q qc q wx ((hb.cell (p := ⟨fb, 0, none⟩) lf).trans cf) (hQ.next hb) hq (hX e he).1 (hX e he).2.1 (hX e he).2.2.1 (hX e he).2.2.2 hm)
  have HAB := Lib.hid (fun st => along_bd hq st)
  clear hE hX cf hQ hq lf
  go_enter Try.func60, Try.ntmps60
  go_wp2
  go_loopw [5, 10] (fun v i wr => ∃ (k : Nat) (s : Int), k ≤ X.length ∧ v = .int .i64 s ∧ i = .int .i64 k ∧ -2000000 ≤ s ∧ s ≤ 2000000 ∧ Hid (s = ((X.take k).map fun e => alongI q e.1).sum) ∧ Below w.heap.size w wr) (fun _ i _ => X.length - (intOf i).toNat)
  case atStart => exact ⟨0, 0, Nat.zero_le _, rfl, rfl, by omega, by omega, Lib.hid rfl, Below.refl _ _⟩
  case round =>
    obtain ⟨k, s, hk, rfl, rfl, s0, s1, HS, hb⟩ := hrel
    by_cases hlt : k < X.length
    · obtain ⟨b, o, rfl, h1⟩ := (HE.out.next hb) (by rw [rowsE_length]; omega)
      have hx := List.getElem?_eq_getElem hlt
      have hat := rowsE_at X k _ hx
      have hbl : b < wr.heap.size := CellsAt.lies (HE.out.next hb) (by rw [rowsE_length]; omega)
      have g1 : wr.cell? ⟨b, o + k * 2, none⟩ = some (.int .i64 X[k].1) := by
        rw [h1 (k * 2) (by rw [rowsE_length]; omega)]; exact hat.1
      have g2 : wr.cell? ⟨b, o + k * 2 + 1, none⟩ = some (.int .i64 X[k].2) := by
        rw [Nat.add_assoc, h1 (k * 2 + 1) (by rw [rowsE_length]; omega)]; exact hat.2
      have hmem := List.getElem_mem hlt
      have hsum := sumTake (fun e : Int × Int => alongI q e.1) X k _ hx
      have HB2 := HBD.out (k + 1)
      rw [hsum, ← HS.out] at HB2
      have HSU := Lib.hid (show s + alongI q X[k].1 = ((X.take (k + 1)).map fun e => alongI q e.1).sum by rw [hsum, HS.out])
      have HC := Lib.hid (fun wx (hb2 : Below wr.heap.size wr wx) => HL.out X[k] hmem wx (bnext hb hb2))
      clear hx hat h1 hmem hsum
      generalize alongI q X[k].1 = u at *
      generalize X[k].1 = x1 at *
      generalize X[k].2 = x2 at *
      have hbr : Below wr.heap.size wr wr := Below.refl _ _
      go_wp2_with ((go_at_call 63; first | (refine (HC.out _ (bal hbr _)).mono ?_; rintro e w' ⟨rfl, hb'⟩; have hb2 := bnext (bal hb _) hb') | (refine (HC.out _ hbr).mono ?_; rintro e w' ⟨rfl, hb'⟩; have hb2 := bnext hb hb')))
      go_roundw
      case rel => exact ⟨k + 1, s + u, by omega, rfl, by go_num, by omega, by omega, Lib.hid HSU.out, hb2⟩
      case measure => simp [intOf]; omega
    · have e : k = X.length := by omega
      subst e
      have HE2 := Lib.hid (by have := HS.out; rw [List.take_of_length_le (by simp)] at this; exact this)
      go_wp2
      go_ret
      exact ⟨ret_int HE2.out, hb⟩

theorem exits_in {ps : List Pp} {node : Int} : ∀ (k : Nat), k ≤ ps.length → ∀ e ∈ exitsTo (closedBy []) ps node k, e.1 ≠ 0 ∧ absI e.1 ≤ ps.length
  | 0, _ => fun e he => by cases he
  | k + 1, hk => fun e he => by
    have hp : ps[k]? = some (ps[k]'(by omega)) := List.getElem?_eq_getElem (by omega)
    rw [exitsTo_at hp, if_neg (by simp [closedBy])] at he
    have ih := exits_in (ps := ps) (node := node) k (by omega) e
    split at he
    · rw [List.mem_append, List.mem_singleton] at he
      rcases he with he | rfl
      · exact ih he
      · refine ⟨by simp; omega, ?_⟩
        unfold absI; split <;> simp <;> omega
    · split at he
      · rw [List.mem_append, List.mem_singleton] at he
        rcases he with he | rfl
        · exact ih he
        · refine ⟨by simp; omega, ?_⟩
          unfold absI; split <;> simp <;> omega
      · exact ih he
theorem cellNext {w w' : World} {b o : Nat} {v : Value} (h : w.cell? ⟨b, o, none⟩ = some v) (hb : Below w.heap.size w w') : w'.cell? ⟨b, o, none⟩ = some v :=
  (hb.cell (p := ⟨b, o, none⟩) (World.block_lt_of_cell? _ _ h)).trans h
theorem implBalanceAt_any (A B : Option Addr) (c d : Nat) (z : List Int) (ps : List Pp) (Q : Option Addr) (qc : Nat) (q : List Int) (node : Int) (w : World) (h : NetCells w A z B ps) (hn : z.length ≤ 1048576) (hm : ps.length ≤ 1048576) (hid : ∀ p ∈ ps, p.id.size ≤ maxLen) (hQ : CellsAt w Q (intsV q)) (hq : q.length ≤ 1048576) :
    Calls Try.prog 19 #[.agg #[.slice A z.length c, .slice B ps.length d], .slice Q q.length qc, .int .i64 node] w fun e w' => e = .returned (.tuple #[.int .i64 (balV z ps q node), .int .i64 (balC z ps q node)]) ∧ Below w.heap.size w w' := by
  have HC := Lib.hid h
  have HQ := Lib.hid hQ
  have HD := Lib.hid hid
  clear h hQ hid
  have HHN0 := fun wx => hasNode_any A z.length c B ps.length d node wx hn
  have HFL0 := fun wx (hx : Below w.heap.size w wx) => hasFlows_any A z.length c B ps.length d Q qc q wx hn hm hq (HQ.out.next hx)
  have HCD0 := fun r wx (hx : NetCells wx A z B ps) => code_any A B c d z ps r wx hx hn hm HD.out
  have hN := (NetAt.new w A z.length c B ps.length d 27).next (bal (Below.refl _ _) (.cells #[.slice Q q.length qc] 24))
  have hb : Below w.heap.size w ((w.alloc (.cells #[.slice A z.length c, .slice B ps.length d] 27)).alloc (.cells #[.slice Q q.length qc] 24)) := bal (bal (Below.refl _ _) _) _
  have cf := cell_one_new (w.alloc (.cells #[.slice A z.length c, .slice B ps.length d] 27)) (.slice Q q.length qc) 24
  have cf := cf 0 _ rfl
  rw [World.size_alloc] at cf
  unfold balV balC balB
  generalize hr : inB node 0 ((z.length : Int) - 1) = r at *
  by_cases hv : (netB z ps && r) = true
  · obtain ⟨hv1, rfl⟩ : netB z ps = true ∧ r = true := by simpa using hv
    rw [hv1] at HCD0 ⊢
    have HP := Lib.hid (netB_parts hv1)
    have hm20 := HP.out.2.2.1
    have HHN := Lib.hid HHN0
    have HCD := Lib.hid (HCD0 true)
    have HFL := Lib.hid HFL0
    clear hv hv1 hr HHN0 HCD0 HFL0
    by_cases hf : flB (-100000) 100000 ps.length q = true
    · have hfp := flB_parts hf
      rw [hf] at HFL ⊢
      have HQL := Lib.hid hfp.1
      have HQA := Lib.hid hfp.2
      have HEA := Lib.hid (exits_along HP.out.2.2.2.1 q node ps.length)
      clear hf hfp
      go_enter Try.func19, Try.ntmps19
      have hb := below_drewN hb 1
      have hN : NetAt ((w.alloc (.cells #[.slice A z.length c, .slice B ps.length d] 27)).alloc (.cells #[.slice Q q.length qc] 24)).drew w.heap.size A z.length c B ps.length d := hN
      have cf : ((w.alloc (.cells #[.slice A z.length c, .slice B ps.length d] 27)).alloc (.cells #[.slice Q q.length qc] 24)).drew.cell? ⟨w.heap.size + 1, 0, none⟩ = some (.slice Q q.length qc) := cf
      have ⟨n0, n1⟩ := hN
      go_wp2_with fail
      go_region_held3 (fun w' => w'.cell? ⟨w.heap.size, 0, none⟩ = some (.slice A z.length c) ∧ w'.cell? ⟨w.heap.size, 1, none⟩ = some (.slice B ps.length d)) (exact ⟨n0, n1⟩) (first | (go_at_call 54; refine (HHN.out _).mono ?_; rintro e w1 ⟨rfl, hb1⟩; have hN := hN.next hb1; have hb := bnext hb hb1; have cf := cellNext cf hb1; have ⟨n0, n1⟩ := hN) | (go_at_call 59; refine (HCD.out _ (HC.out.next hb)).mono ?_; rintro e w2 ⟨rfl, hb2⟩; have hN := hN.next hb2; have hb := bnext hb hb2; have cf := cellNext cf hb2; have ⟨n0, n1⟩ := hN))
      have hcode : argC true true = 0 := rfl
      rw [hcode]
      clear hcode
      go_wp2_with fail
      refine (HFL.out _ hb).mono ?_
      rintro e w3 ⟨rfl, hb3⟩
      have hN := hN.next hb3
      have hb := bnext hb hb3
      have cf := cellNext cf hb3
      clear n0 n1
      have ⟨n0, n1⟩ := hN
      go_wp2_with fail
      refine (newGrid_any A z.length c B ps.length d none 0 [] _ (by simp) (CellsAt.nil _ _) (fun x hx => by cases hx)).mono ?_
      rintro e w4 ⟨gb, rfl, hlb, hG, hb4⟩
      have hN := hN.next hb4
      have hb := bnext hb hb4
      have cf := cellNext cf hb4
      clear n0 n1 hb4
      have ⟨n0, n1⟩ := hN
      go_wp2_with fail
      refine (exits_any A z.length c B ps.length d gb ps (closedBy []) node _ rfl hm20 hG (HC.out.2.next hb)).mono ?_
      rintro e w5 ⟨E, ec, rfl, oE, hb5⟩
      have hbd := exits_bd (closedBy []) ps node ps.length
      have hin := exits_in (ps := ps) (node := node) ps.length (Nat.le_refl _)
      have hls := exitsTo_short (closedBy []) ps node ps.length
      generalize exitsTo (closedBy []) ps node ps.length = X at *
      have hb := bnext hb hb5
      have cf := cellNext cf hb5
      have hE : CellsAt w5 E (rowsE X) := by
        intro hp
        rcases oE.2 with ⟨hv, hn'⟩ | ⟨g, cap, cur, hv, _, hg, _⟩
        · rw [rowsE_length] at hp; omega
        · injection hv with hA
          subst hA
          exact ⟨g, 0, rfl, fun j hj => by rw [Nat.zero_add]; exact oE.cellAt j (by rw [rowsE_length] at hj; exact hj)⟩
      have HT := Lib.hid (totalEx_any E ec X (w.heap.size + 1) Q qc q _ hE (fun e he => ⟨by have := hbd e he; omega, by have := hbd e he; omega, (hin e he).1, by rw [HQL.out]; exact (hin e he).2⟩) (by omega) cf (HQ.out.next hb) HQA.out hq)
      clear hbd hin hls oE hE hG n0 n1 hN hb5
      go_wp2_with fail
      refine HT.out.mono ?_
      rintro e w6 ⟨rfl, hb6⟩
      rw [HEA.out]
      have HBD := balTo_bd (ps := ps) HQA.out node ps.length
      generalize hs : balTo ps q node ps.length = s at HBD ⊢
      have HS := Lib.hid hs
      clear hs HEA
      have hb := bnext hb hb6
      go_wp2
      go_ret2
      exact ⟨by rw [HS.out]; simp, hb⟩
    · have hf : flB (-100000) 100000 ps.length q = false := by simpa using hf
      rw [hf] at HFL ⊢
      clear hf
      go_enter Try.func19, Try.ntmps19
      have hb := below_drewN hb 1
      have hN : NetAt ((w.alloc (.cells #[.slice A z.length c, .slice B ps.length d] 27)).alloc (.cells #[.slice Q q.length qc] 24)).drew w.heap.size A z.length c B ps.length d := hN
      have cf : ((w.alloc (.cells #[.slice A z.length c, .slice B ps.length d] 27)).alloc (.cells #[.slice Q q.length qc] 24)).drew.cell? ⟨w.heap.size + 1, 0, none⟩ = some (.slice Q q.length qc) := cf
      have ⟨n0, n1⟩ := hN
      go_wp2_with fail
      go_region_held3 (fun w' => w'.cell? ⟨w.heap.size, 0, none⟩ = some (.slice A z.length c) ∧ w'.cell? ⟨w.heap.size, 1, none⟩ = some (.slice B ps.length d)) (exact ⟨n0, n1⟩) (first | (go_at_call 54; refine (HHN.out _).mono ?_; rintro e w1 ⟨rfl, hb1⟩; have hN := hN.next hb1; have hb := bnext hb hb1; have cf := cellNext cf hb1; have ⟨n0, n1⟩ := hN) | (go_at_call 59; refine (HCD.out _ (HC.out.next hb)).mono ?_; rintro e w2 ⟨rfl, hb2⟩; have hN := hN.next hb2; have hb := bnext hb hb2; have cf := cellNext cf hb2; have ⟨n0, n1⟩ := hN))
      have hcode : argC true true = 0 := rfl
      rw [hcode]
      clear hcode
      go_wp2_with fail
      refine (HFL.out _ hb).mono ?_
      rintro e w3 ⟨rfl, hb3⟩
      have hb := bnext hb hb3
      go_wp2
      go_ret2
      exact ⟨rfl, hb⟩
  · have HCN : Hid ((if (netB z ps && (r && flB (-100000) 100000 ps.length q)) = true then balTo ps q node ps.length else 0) = 0 ∧ (if netB z ps = true then (if r = true then (if flB (-100000) 100000 ps.length q = true then (0 : Int) else 7) else 2) else 1) = argC (netB z ps) r ∧ argC (netB z ps) r ≠ 0) := Lib.hid (by
      revert hv
      unfold argC
      cases netB z ps <;> cases r <;> simp)
    rw [HCN.out.1, HCN.out.2.1]
    have HCE := Lib.hid HCN.out.2.2
    have HHN := Lib.hid HHN0
    have HCD := Lib.hid (HCD0 r)
    clear hv hr HHN0 HCD0 HFL0 HCN
    generalize argC (netB z ps) r = C at *
    have hCn : (C != 0) = true := by simpa using HCE.out
    go_enter Try.func19, Try.ntmps19
    have hb := below_drewN hb 1
    have hN : NetAt ((w.alloc (.cells #[.slice A z.length c, .slice B ps.length d] 27)).alloc (.cells #[.slice Q q.length qc] 24)).drew w.heap.size A z.length c B ps.length d := hN
    have ⟨n0, n1⟩ := hN
    go_wp2_with fail
    go_region_held3 (fun w' => w'.cell? ⟨w.heap.size, 0, none⟩ = some (.slice A z.length c) ∧ w'.cell? ⟨w.heap.size, 1, none⟩ = some (.slice B ps.length d)) (exact ⟨n0, n1⟩) (first | (go_at_call 54; refine (HHN.out _).mono ?_; rintro e w1 ⟨rfl, hb1⟩; have hN := hN.next hb1; have hb := bnext hb hb1; have ⟨n0, n1⟩ := hN) | (go_at_call 59; refine (HCD.out _ (HC.out.next hb)).mono ?_; rintro e w2 ⟨rfl, hb2⟩; have hN := hN.next hb2; have hb := bnext hb hb2; have ⟨n0, n1⟩ := hN))
    go_wp2
    go_ret2
    exact ⟨rfl, hb⟩

end Go.Proofs.Ytdfohpdhghdpkaa
