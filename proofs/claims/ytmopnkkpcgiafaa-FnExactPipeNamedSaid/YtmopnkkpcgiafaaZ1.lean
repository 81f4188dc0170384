/-
  PipeNamed of both sides.
-/
import Derived.Test.YtmopnkkpcgiafaaZ0
import Derived.Test.YtmopnkkpcgiafaaH8
import Derived.Carry
import Derived.Test.YtmopnkkpcgiafaaH6
import Derived.Test.YtmopnkkpcgiafaaI0
import Derived.Deep.QuietTactic
namespace Go.Proofs.Ytmopnkkpcgiafaa
open Go.ChangeShapes Go.WideShapes Go.ChangeAt Go.RowKit
set_option maxRecDepth 100000
set_option linter.unusedVariables false

theorem mapHint (n : Int) (w : World) : (Instr.makeMap 71 (some (.int .i64 n))).run Try.prog w = .ok (.map (some w.heap.size)) (w.alloc (.map #[] 0)) := by rfl
theorem zeroInt (w : World) : (zeroValue 3).run Try.prog w = .ok (.int .i64 0) w := by kernel_rfl
def RetPlaces (ps : List Pp) (w : World) (e : Ending) (w' : World) : Prop :=
  ∃ (b : Nat) (D : DataW Unit), e = .returned (.map (some b)) ∧ w'.ownsMap Try.prog 9 (plainElem Try.prog 3) b ps.length D ∧ Placed ps ps.length D ∧ Below w.heap.size w w'
set_option maxHeartbeats 1000000 in
theorem places_any (A B : Option Addr) (c d : Nat) (z : List Int) (ps : List Pp) (w : World) (hm : ps.length ≤ 20) (hB : CellsAt w B (rowsP ps)) (hid : ∀ p ∈ ps, p.id.size ≤ maxLen) :
    Calls Try.prog 65 #[.agg #[.slice A z.length c, .slice B ps.length d]] w (RetPlaces ps w) := by
  have hN := NetAt.new w A z.length c B ps.length d 30
  have hbx : Below w.heap.size w (w.alloc (.cells #[.slice A z.length c, .slice B ps.length d] 30)) := bal (Below.refl _ _) _
  have hb0 := bal hbx (.map #[] 0)
  have ho : ((w.alloc (.cells #[.slice A z.length c, .slice B ps.length d] 30)).alloc (.map #[] 0)).ownsMap Try.prog 9 (plainElem (H := Unit) Try.prog 3) (w.heap.size + 1) 0 (.map []) := by
    have := World.ownsMap_made (w.alloc (.cells #[.slice A z.length c, .slice B ps.length d] 30)) Try.prog 9 (plainElem (H := Unit) Try.prog 3)
    rwa [show (w.alloc (.cells #[.slice A z.length c, .slice B ps.length d] 30)).heap.size = w.heap.size + 1 by simp] at this
  have HO := Lib.hid ho
  have HB := Lib.hid hB
  have HD := Lib.hid hid
  have hmm := mapHint (ps.length : Int)
  clear hB hid ho
  have ⟨n0, n1⟩ := hN
  go_enter Try.func65, Try.ntmps65
  go_wp2
  go_loopw [13] (fun i wr => ∃ (k : Nat) (D : DataW Unit), k ≤ ps.length ∧ i = .int .i64 k ∧ wr.ownsMap Try.prog 9 (plainElem Try.prog 3) (w.heap.size + 1) k D ∧ Placed ps k D ∧ Below w.heap.size w wr) (fun i _ => ps.length - (intOf i).toNat)
  case atStart => exact ⟨0, _, Nat.zero_le _, rfl, HO.out, Placed.zero _, hb0⟩
  case round =>
    clear n0 n1 hN
    obtain ⟨k, D, hk, rfl, hown, hpl, hb⟩ := hrel
    have HP := Lib.hid hpl
    clear hpl
    by_cases hlt : k < ps.length
    · obtain ⟨b, off, rfl, hrow⟩ := pipe_at (HB.out.next hb) (by omega)
      have hp := List.getElem?_eq_getElem hlt
      have P := hrow k _ hp
      have HP2 := Lib.hid (HP.out.succ hp)
      have hsz := HD.out _ (List.getElem_mem hlt)
      clear hrow
      generalize ps[k] = p at *
      have ⟨p0, p1, p2, p3, p4, p5⟩ := P
      have hkey : keyOf Try.prog 9 (.string p.id) = some (placeKey p.id) := Go.WideMaps.keyOf_string_mk Try.underlying9 hsz
      have hown1 := hown.alloc (.cells #[.string p.id, .int .i64 p.f, .int .i64 p.t, .int .i64 p.L, .int .i64 p.d, .int .i64 p.s] 43)
      have hb1 := bal hb (.cells #[.string p.id, .int .i64 p.f, .int .i64 p.t, .int .i64 p.L, .int .i64 p.d, .int .i64 p.s] 43)
      go_wp2_with (first
        | (at_mapUpdate; refine wpList_mapUpdate_own _ rfl _ _ _ 71 rfl 9 3 (Maps.string_keyed Try.underlying9) Try.underlying71 _ (w.heap.size + 1) k _ rfl (by first | exact hown | exact hown1) (by unfold maxLen; omega) _ _ _ rfl rfl hkey _ [] (plainElem_int Try.underlying3 (WalkArith.wf_i64 (by omega))) ?_)
        | go_in)
      intro w1 hown2 hgrow
      have hb2 : Below w.heap.size w w1 := by
        first | exact hb1.grown hgrow hb1.size (fun j hj => by cases hj; omega) | exact hb.grown hgrow hb.size (fun j hj => by cases hj; omega)
      clear hown1 hgrow hown hb hb1
      go_wp2
      go_roundw
      case rel => exact ⟨k + 1, _, by omega, by go_num, hown2, HP2.out, hb2⟩
      case measure => simp [intOf]; omega
    · have : k = ps.length := by omega
      subst this
      go_wp2
      go_ret
      exact ⟨_, _, rfl, hown, HP.out, hb⟩

theorem nameX_bad {z : List Int} {ps : List Pp} (id : ByteArray) (h : netB z ps = false) : nameX z ps id = 0 ∧ nameC z ps id = 1 := by
  unfold nameX nameC
  rw [h]
  exact ⟨rfl, rfl⟩
theorem nameX_some {z : List Int} {ps : List Pp} {id : ByteArray} {i : Nat} (h : netB z ps = true) (e : named ps id = some i) : nameX z ps id = i ∧ nameC z ps id = 0 := by
  unfold nameX nameC
  rw [h, e]
  exact ⟨rfl, rfl⟩
theorem nameX_none {z : List Int} {ps : List Pp} {id : ByteArray} (h : netB z ps = true) (e : named ps id = none) : nameX z ps id = 0 ∧ nameC z ps id = 3 := by
  unfold nameX nameC
  rw [h, e]
  exact ⟨rfl, rfl⟩
/-- a call that says where the pipe with a name is -/
def RetNamed (z : List Int) (ps : List Pp) (id : ByteArray) (w : World) (e : Ending) (w' : World) : Prop := e = .returned (.tuple #[.int .i64 (nameX z ps id), .int .i64 (nameC z ps id)]) ∧ Below w.heap.size w w'

theorem specNamed_any (A B : Option Addr) (c d : Nat) (z : List Int) (ps : List Pp) (id : ByteArray) (w : World) (h : NetCells w A z B ps) (hn : z.length ≤ 1048576) (hm : ps.length ≤ 1048576) (hid : ∀ p ∈ ps, p.id.size ≤ maxLen) (hsz : id.size ≤ maxLen) :
    Calls Try.prog 22 #[.agg #[.slice A z.length c, .slice B ps.length d], .string id] w (RetNamed z ps id w) := by
  have hN := NetAt.new w A z.length c B ps.length d 30
  have hb : Below w.heap.size w (w.alloc (.cells #[.slice A z.length c, .slice B ps.length d] 30)) := bal (Below.refl _ _) _
  have HO := Lib.hid (l04Ok_any w.heap.size A z.length c B ps.length d z ps _ hN rfl rfl hn hm (h.next hb).1 (h.next hb).2 hid)
  have HC := Lib.hid h
  have HD := Lib.hid hid
  clear h hid
  by_cases hv : netB z ps = true
  · rw [hv] at HO
    have HV := Lib.hid hv
    clear hv
    go_enter Try.func22, Try.ntmps22
    go_wp2_with fail
    refine HO.out.mono ?_
    rintro e w1 ⟨rfl, hd⟩
    have hb1 := drawn_below hd
    have hN := hN.next hb1
    have hc := bnext hb hb1
    clear hb1 hd
    have ⟨n0, n1⟩ := hN
    have HA := Lib.hid (HC.out.2.next hc)
    go_wp2
    go_loopw [6] (fun i wr => ∃ k : Nat, k ≤ ps.length ∧ i = .int .i64 k ∧ (∀ j, j < k → ∀ q, ps[j]? = some q → q.id ≠ id) ∧ Drawn w1 wr) (fun i _ => ps.length - (intOf i).toNat)
    case atStart => exact ⟨0, Nat.zero_le _, rfl, fun j hj => by omega, Drawn.rfl' _⟩
    case round =>
      obtain ⟨k, hk, rfl, hall, ⟨nr, rfl⟩⟩ := hrel
      have HL := Lib.hid hall
      clear hall
      by_cases hlt : k < ps.length
      · obtain ⟨b1, o1, rfl, h1⟩ := pipe_at HA.out (by omega)
        have hp := List.getElem?_eq_getElem hlt
        obtain ⟨P0, P1, P2, P3, P4, P5⟩ := h1 k _ hp
        have HP := Lib.hid hp
        generalize ps[k] = p at *
        clear h1 hp P1 P2 P3 P4 P5
        by_cases he : p.id = id
        · have HE := Lib.hid (nameX_some HV.out (named_some HP.out he HL.out))
          have h9 : (p.id.toList == id.toList) = true := ba_list.2 he
          clear he
          go_wp2
          go_ret2
          exact ⟨by rw [HE.out.1, HE.out.2]; rfl, (by first | exact below_drewN hc _ | exact below_drewN (below_drewN hc _) _)⟩
        · have HE : Hid (∀ j, j < k + 1 → ∀ q, ps[j]? = some q → q.id ≠ id) := Lib.hid (fun j hj q hq => by
            by_cases ej : j = k
            · subst ej
              rw [HP.out] at hq
              cases hq
              exact he
            · exact HL.out j (by omega) q hq)
          have h9 : (p.id.toList == id.toList) = false := by
            cases hx : (p.id.toList == id.toList) with
            | false => rfl
            | true => exact absurd (ba_list.1 hx) he
          clear he
          go_wp2
          go_roundw
          case rel => exact ⟨k + 1, by omega, by go_num, HE.out, ⟨_, by first | rfl | exact World.drewN_drewN ..⟩⟩
          case measure => simp [intOf]; omega
      · have HE := Lib.hid (nameX_none HV.out (named_none (id := id) fun j q hq => HL.out j (by have := (List.getElem?_eq_some_iff.1 hq).1; omega) q hq))
        go_wp2
        go_ret2
        exact ⟨by rw [HE.out.1, HE.out.2]; rfl, (by first | exact below_drewN hc _ | exact below_drewN (below_drewN hc _) _)⟩
  · have hv : netB z ps = false := by simpa using hv
    rw [hv] at HO
    have HE := Lib.hid (nameX_bad id hv)
    clear hv
    go_enter Try.func22, Try.ntmps22
    go_wp2_with fail
    refine HO.out.mono ?_
    rintro e w1 ⟨rfl, hd⟩
    have hc := bnext hb (drawn_below hd)
    go_wp2
    go_ret2
    exact ⟨by rw [HE.out.1, HE.out.2]; rfl, hc⟩

theorem implNamed_any (A B : Option Addr) (c d : Nat) (z : List Int) (ps : List Pp) (id : ByteArray) (w : World) (h : NetCells w A z B ps) (hn : z.length ≤ 1048576) (hm : ps.length ≤ 1048576) (hid : ∀ p ∈ ps, p.id.size ≤ maxLen) (hsz : id.size ≤ maxLen) :
    Calls Try.prog 23 #[.agg #[.slice A z.length c, .slice B ps.length d], .string id] w (RetNamed z ps id w) := by
  have hN := NetAt.new w A z.length c B ps.length d 30
  have hb : Below w.heap.size w (w.alloc (.cells #[.slice A z.length c, .slice B ps.length d] 30)) := bal (Below.refl _ _) _
  have HO := Lib.hid (implValidNet_any A z.length c B ps.length d z ps _ rfl rfl hn hm (h.next hb).1 (h.next hb).2 hid)
  have HC := Lib.hid h
  have HD := Lib.hid hid
  clear h hid
  have ⟨n0, n1⟩ := hN
  by_cases hv : netB z ps = true
  · rw [hv] at HO
    have HV := Lib.hid hv
    have hm20 := (netB_parts hv).2.2.1
    clear hv
    go_enter Try.func23, Try.ntmps23
    go_wp2_with fail
    refine HO.out.mono ?_
    rintro e w1 ⟨rfl, hb1⟩
    have hN := hN.next hb1
    have hc := bnext hb hb1
    clear hb1 n0 n1
    have ⟨n0, n1⟩ := hN
    go_wp2_with fail
    refine (places_any A B c d z ps w1 hm20 (HC.out.2.next hc) HD.out).mono ?_
    rintro e w2 ⟨b, D, rfl, hown, hpl, hb2⟩
    have hc2 := bnext hc hb2
    have hkey : keyOf Try.prog 9 (.string id) = some (placeKey id) := Go.WideMaps.keyOf_string_mk Try.underlying9 hsz
    have HP := Lib.hid (hpl.named HV.out id)
    clear hpl hb2 n0 n1 hN
    rcases HP.out with ⟨i, h1, h2, h3, h4⟩ | ⟨h1, h3⟩
    · have HE := Lib.hid (nameX_some HV.out h1)
      have H4 := Lib.hid h4
      clear h1 h4
      go_wp2_with (first
        | (at_lookup; refine wpList_lookup_own_ok_int _ rfl _ _ 71 rfl 9 3 .i64 (Maps.string_keyed Try.underlying9) Try.underlying71 Try.underlying3 (zeroInt _) b ps.length _ rfl hown _ _ rfl hkey ?_; intro cv hat hwc; rw [H4.out] at hat; obtain rfl : (i : Int) = cv := (by simpa using hat); clear hat)
        | go_in)
      go_ret2
      exact ⟨by rw [HE.out.1, HE.out.2]; rfl, hc2⟩
    · have HE := Lib.hid (nameX_none HV.out h1)
      clear h1
      go_wp2_with (first
        | (at_lookup; refine wpList_lookup_own_ok_int _ rfl _ _ 71 rfl 9 3 .i64 (Maps.string_keyed Try.underlying9) Try.underlying71 Try.underlying3 (zeroInt _) b ps.length _ rfl hown _ _ rfl hkey ?_; intro cv hat hwc; clear hat)
        | go_in)
      go_ret2
      exact ⟨by rw [HE.out.1, HE.out.2]; rfl, hc2⟩
  · have hv : netB z ps = false := by simpa using hv
    rw [hv] at HO
    have HE := Lib.hid (nameX_bad id hv)
    clear hv
    go_enter Try.func23, Try.ntmps23
    go_wp2_with fail
    refine HO.out.mono ?_
    rintro e w1 ⟨rfl, hb1⟩
    have hc := bnext hb hb1
    go_wp2
    go_ret2
    exact ⟨by rw [HE.out.1, HE.out.2]; rfl, hc⟩

end Go.Proofs.Ytmopnkkpcgiafaa
