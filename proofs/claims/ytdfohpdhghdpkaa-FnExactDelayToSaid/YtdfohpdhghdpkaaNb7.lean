import Derived.Test.YtdfohpdhghdpkaaNb6
import Derived.Test.YtdfohpdhghdpkaaNb2
/-
  The codes of chapter 7; DelayTo of the model.
-/
namespace Go.Proofs.Ytdfohpdhghdpkaa
open Go.ChangeShapes Go.WideShapes Go.ChangeAt Go.RowKit
set_option maxRecDepth 100000
set_option linter.unusedVariables false

def treeB (z : List Int) (ps : List Pp) : Bool := decide (ps.length + 1 = z.length) && decide ((treeTo noneClosed z.length ps ps.length).length = ps.length)
/-- the first error of a network that should be a tree, of other arguments, and of flows or demands -/
def preC (z : List Int) (ps : List Pp) (r s : Bool) : Int := if netB z ps then (if r then (if s then (if treeB z ps then 0 else 6) else 7) else 2) else 1
theorem preC_net {z : List Int} {ps : List Pp} {r s : Bool} (h : preC z ps r s = 0) : netB z ps = true ∧ r = true ∧ s = true ∧ treeB z ps = true := by
  revert h
  unfold preC
  cases netB z ps <;> cases r <;> cases s <;> cases treeB z ps <;> simp
theorem rooted_net {z : List Int} {ps : List Pp} {src : Int} (hv : netB z ps = true) (ht : treeB z ps = true) (hs : inB src 0 ((z.length : Int) - 1) = true) :
    Rooted ps z.length src (bfsOut ps z.length src z.length).1 (bfsOut ps z.length src z.length).2 ∧ Joins z.length ps ∧ 0 ≤ src ∧ src < z.length ∧ ps.length ≤ 15 ∧ z.length ≤ 16 := by
  have hp := netB_parts hv
  have hj := joins_of hp.2.2.2.1
  have hs := inB_iff.1 hs
  unfold treeB at ht
  rw [Bool.and_eq_true, decide_eq_true_eq, decide_eq_true_eq] at ht
  exact ⟨rooted_of hj ht.1 ht.2 hs.1 (by omega), hj, hs.1, by omega, by omega, by omega⟩
theorem l07Given_any (bn : Nat) (A B : Option Addr) (c d : Nat) (z : List Int) (ps : List Pp) (Q : Option Addr) (qc : Nat) (q : List Int) (src pr : Int) (w : World) (hN : NetAt w bn A z.length c B ps.length d) (h : NetCells w A z B ps) (hn : z.length ≤ 1048576) (hm : ps.length ≤ 1048576) (hid : ∀ p ∈ ps, p.id.size ≤ maxLen) (hQ : CellsAt w Q (intsV q)) (hq : q.length ≤ 1048576) :
    Calls Try.prog 75 #[.pointer (some ⟨bn, 0, none⟩), .int .i64 src, .int .i64 pr, .slice Q q.length qc] w fun e w' => e = .returned (.int .i64 (preC z ps (inB src 0 ((z.length : Int) - 1) && inB pr 0 100000000) (flB (-100000) 100000 ps.length q))) ∧ Below w.heap.size w w' := by
  have HK := Lib.hid (l07Ask_any bn A B c d z ps src w hN h hn hm hid)
  have HP := Lib.hid (fun wx => l03Press_any pr wx)
  have HF := Lib.hid (fun wx (hx : NetAt wx bn A z.length c B ps.length d) (hb : Below w.heap.size w wx) => l07Flows_any bn A z.length c B ps.length d Q qc q wx hx hn hm hq (hQ.next hb))
  have HN := Lib.hid hN
  have HC := Lib.hid h
  by_cases hv : netB z ps = true
  · have hp := netB_parts hv
    have HT := Lib.hid (fun wx (hx : NetAt wx bn A z.length c B ps.length d) (hb : Below w.heap.size w wx) => l04IsTree_any bn A c B d z ps wx hx (by omega) (by omega) hp.2.2.1 (h.2.next hb) hp.2.2.2.1)
    unfold preC treeB
    rw [hv] at HK ⊢
    clear hp hv h hN hid hQ
    unfold argC at HK
    generalize inB src 0 ((z.length : Int) - 1) = b1 at *
    generalize inB pr 0 100000000 = b2 at *
    generalize flB (-100000) 100000 ps.length q = b3 at *
    generalize (decide (ps.length + 1 = z.length) && decide ((treeTo noneClosed z.length ps ps.length).length = ps.length)) = b4 at *
    cases b1 with
    | false =>
      go_enter Try.func75, Try.ntmps75
      go_wp2_with fail
      refine HK.out.mono ?_
      rintro e w1 ⟨rfl, hd⟩
      go_wp2
      go_ret
      exact ⟨rfl, drawn_below hd⟩
    | true =>
      cases b2 with
      | false =>
        go_enter Try.func75, Try.ntmps75
        go_wp2_with fail
        refine HK.out.mono ?_
        rintro e w1 ⟨rfl, hd⟩
        go_wp2_with (go_at_call 78; refine (HP.out _).mono ?_; rintro e w' ⟨rfl, rfl⟩)
        go_ret
        exact ⟨rfl, drawn_below hd⟩
      | true =>
        cases b3 with
        | false =>
          go_enter Try.func75, Try.ntmps75
          go_wp2_with fail
          refine HK.out.mono ?_
          rintro e w1 ⟨rfl, hd⟩
          have hb := drawn_below hd
          have HF1 := HF.out _ (HN.out.next hb) hb
          go_wp2_with (first | (go_at_call 78; refine (HP.out _).mono ?_; rintro e w' ⟨rfl, rfl⟩) | (go_at_call 74; refine HF1.mono ?_; rintro e w' ⟨rfl, rfl⟩))
          go_ret
          exact ⟨rfl, hb⟩
        | true =>
          cases b4 with
          | false =>
            go_enter Try.func75, Try.ntmps75
            go_wp2_with fail
            refine HK.out.mono ?_
            rintro e w1 ⟨rfl, hd⟩
            have hb := drawn_below hd
            have HF1 := HF.out _ (HN.out.next hb) hb
            have HT1 := HT.out _ (HN.out.next hb) hb
            go_wp2_with (first | (go_at_call 78; refine (HP.out _).mono ?_; rintro e w' ⟨rfl, rfl⟩) | (go_at_call 74; refine HF1.mono ?_; rintro e w' ⟨rfl, rfl⟩) | (go_at_call 124; refine HT1.mono ?_; rintro e w' ⟨rfl, hb2⟩; have hb := bnext hb hb2))
            go_ret
            exact ⟨rfl, hb⟩
          | true =>
            go_enter Try.func75, Try.ntmps75
            go_wp2_with fail
            refine HK.out.mono ?_
            rintro e w1 ⟨rfl, hd⟩
            have hb := drawn_below hd
            have HF1 := HF.out _ (HN.out.next hb) hb
            have HT1 := HT.out _ (HN.out.next hb) hb
            go_wp2_with (first | (go_at_call 78; refine (HP.out _).mono ?_; rintro e w' ⟨rfl, rfl⟩) | (go_at_call 74; refine HF1.mono ?_; rintro e w' ⟨rfl, rfl⟩) | (go_at_call 124; refine HT1.mono ?_; rintro e w' ⟨rfl, hb2⟩; have hb := bnext hb hb2))
            go_ret
            exact ⟨rfl, hb⟩
  · have hv : netB z ps = false := by simpa using hv
    have e : preC z ps (inB src 0 ((z.length : Int) - 1) && inB pr 0 100000000) (flB (-100000) 100000 ps.length q) = 1 := by unfold preC; rw [hv]; rfl
    rw [e]
    rw [hv] at HK
    unfold argC at HK
    clear e hv h hN hid hQ
    go_enter Try.func75, Try.ntmps75
    go_wp2_with fail
    refine HK.out.mono ?_
    rintro e w1 ⟨rfl, hd⟩
    go_wp2
    go_ret
    exact ⟨rfl, drawn_below hd⟩
/-- how long water runs to a node: none if a flow along its way is not positive -/
def delO (ps : List Pp) (Y : List Int) (src : Int) (q : List Int) : Nat → Int → Option Int
  | 0, _ => none
  | f + 1, x => if x = src then some 0 else if alongI q (getI Y x) ≤ 0 then none else (delO ps Y src q f (befI ps Y x)).map fun t => delayI (pipeE ps (getI Y x)).L (pipeE ps (getI Y x)).d (alongI q (getI Y x)) + t
def dtO (z : List Int) (ps : List Pp) (src : Int) (q : List Int) (node : Int) : Option Int := delO ps (bfsOut ps z.length src z.length).2 src q z.length node
def dtP (z : List Int) (ps : List Pp) (src : Int) (q : List Int) (node : Int) : Int := preC z ps (inB src 0 ((z.length : Int) - 1) && inB node 0 ((z.length : Int) - 1)) (flB (-100000) 100000 ps.length q)
def dtV (z : List Int) (ps : List Pp) (src : Int) (q : List Int) (node : Int) : Int := if dtP z ps src q node = 0 then (dtO z ps src q node).getD 0 else 0
def dtC (z : List Int) (ps : List Pp) (src : Int) (q : List Int) (node : Int) : Int := if dtP z ps src q node = 0 then (if (dtO z ps src q node).isSome then 0 else 3) else dtP z ps src q node
end Go.Proofs.Ytdfohpdhghdpkaa
