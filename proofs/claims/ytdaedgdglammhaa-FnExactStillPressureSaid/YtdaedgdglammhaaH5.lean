/-
  What makes a network valid, for the program.
-/
import Derived.Test.YtdaedgdglammhaaGs
import Derived.Test.YtdaedgdglammhaaH4
import Derived.Test.YtdaedgdglammhaaB6
namespace Go.Proofs.Ytdaedgdglammhaa
open Go.ChangeShapes Go.WideShapes Go.ChangeAt Go.RowKit
set_option maxRecDepth 100000
set_option linter.unusedVariables false

theorem hasNode_any (A : Option Addr) (n c : Nat) (B : Option Addr) (m d : Nat) (node : Int) (w : World) (hn : n ≤ 1048576) :
    Calls Try.prog 97 #[.agg #[.slice A n c, .slice B m d], .int .i64 node] w fun e w' => e = .returned (.bool (inB node 0 ((n : Int) - 1))) ∧ Below w.heap.size w w' := by
  have hb : Below w.heap.size w (w.alloc (.cells #[.slice A n c, .slice B m d] 38)) := bal (Below.refl _ _) _
  go_enter Try.func97, Try.ntmps97
  go_wp2_with (go_at_call 109; refine (one64Free _ _ _ _ _ _ (by simp)).mono ?_; rintro e w' ⟨rfl, hb'⟩; first | have hb := bnext hb hb' | have hb := bnext (bal hb _) hb' | have hb := bnext (bal (bal hb _) _) hb' | have hb := bnext (bal (bal (bal hb _) _) _) hb' | have hb := bnext (bal (bal (bal (bal hb _) _) _) _) hb' | have hb := bnext (bal (bal (bal (bal (bal hb _) _) _) _) _) hb')
  go_ret
  first | exact ⟨rfl, hb⟩ | exact ⟨rfl, (bal hb _)⟩ | exact ⟨rfl, (bal (bal hb _) _)⟩ | exact ⟨rfl, (bal (bal (bal hb _) _) _)⟩ | exact ⟨rfl, (bal (bal (bal (bal hb _) _) _) _)⟩ | exact ⟨rfl, (bal (bal (bal (bal (bal hb _) _) _) _) _)⟩

theorem inB_node {n : Nat} {x : Int} (h : 0 ≤ x) : inB x 0 ((n : Int) - 1) = decide (x < n) := by
  unfold inB
  exact decide_eq_decide.2 ⟨fun k => by omega, fun k => ⟨h, by omega⟩⟩
theorem takes_any (A : Option Addr) (n c : Nat) (B : Option Addr) (m d : Nat) (p : Pp) (w : World) (hn : n ≤ 1048576) (hs : p.id.size ≤ maxLen) :
    Calls Try.prog 150 #[.agg #[.slice A n c, .slice B m d], .agg #[.string p.id, .int .i64 p.f, .int .i64 p.t, .int .i64 p.L, .int .i64 p.d, .int .i64 p.s]] w fun e w' => e = .returned (.bool (fitB n p)) ∧ Below w.heap.size w w' := by
  have HV0 := fun wx => implValidPipe_any p.id p.f p.t p.L p.d p.s wx hs
  have hb : Below w.heap.size w ((w.alloc (.cells #[.slice A n c, .slice B m d] 38)).alloc (.cells #[.string p.id, .int .i64 p.f, .int .i64 p.t, .int .i64 p.L, .int .i64 p.d, .int .i64 p.s] 89)) := bal (bal (Below.refl _ _) _) _
  have hs1 : (w.alloc (.cells #[.slice A n c, .slice B m d] 38)).heap.size = w.heap.size + 1 := by simp
  have hN := (NetAt.new w A n c B m d 38).next (bal (Below.refl _ _) (.cells #[.string p.id, .int .i64 p.f, .int .i64 p.t, .int .i64 p.L, .int .i64 p.d, .int .i64 p.s] 89))
  have hp : PipeO ((w.alloc (.cells #[.slice A n c, .slice B m d] 38)).alloc (.cells #[.string p.id, .int .i64 p.f, .int .i64 p.t, .int .i64 p.L, .int .i64 p.d, .int .i64 p.s] 89)) (w.heap.size + 1) 0 p := by rw [← hs1]; exact PipeO.new _ p _
  have ⟨n0, n1⟩ := hN
  have ⟨p0, p1, p2, p3, p4, p5⟩ := hp
  by_cases h0 : p.ok = true
  · have ho := okP_ends h0
    have HVP : Hid (∀ wx, Calls Try.prog 160 #[.agg #[.string p.id, .int .i64 p.f, .int .i64 p.t, .int .i64 p.L, .int .i64 p.d, .int .i64 p.s]] wx fun e w' => e = .returned (.bool true) ∧ Below wx.heap.size wx w') := Lib.hid (fun wx => by have := HV0 wx; unfold Pp.ok at h0; rw [h0] at this; exact this)
    have HNF0 := fun wx => hasNode_any A n c B m d p.f wx hn
    have HNT0 := fun wx => hasNode_any A n c B m d p.t wx hn
    rw [inB_node ho.1.1] at HNF0
    rw [inB_node ho.2.1.1] at HNT0
    clear HV0
    by_cases h1 : p.f < n
    · have h1' : decide (p.f < (n : Int)) = true := decide_eq_true h1
      rw [h1'] at HNF0
      by_cases h2 : p.t < n
      · have h2' : decide (p.t < (n : Int)) = true := decide_eq_true h2
        rw [h2'] at HNT0
        have HNF := Lib.hid HNF0
        have HNT := Lib.hid HNT0
        clear HNF0 HNT0
        have hv : fitB n p = true := by unfold fitB; simp [*]
        rw [hv]
        clear hv
        go_enter Try.func150, Try.ntmps150
        go_wp2_with fail
        refine (HVP.out _).mono ?_
        rintro e w1 ⟨rfl, hb1⟩
        have hN := hN.next hb1
        have hp := hp.next hb1
        have hb := bnext hb hb1
        clear n0 n1 p0 p1 p2 p3 p4 p5 hb1
        have ⟨n0, n1⟩ := hN
        have ⟨p0, p1, p2, p3, p4, p5⟩ := hp
        go_wp2_with fail
        refine (HNF.out _).mono ?_
        rintro e w2 ⟨rfl, hb2⟩
        have hN := hN.next hb2
        have hp := hp.next hb2
        have hb := bnext hb hb2
        clear n0 n1 p0 p1 p2 p3 p4 p5 hb2
        have ⟨n0, n1⟩ := hN
        have ⟨p0, p1, p2, p3, p4, p5⟩ := hp
        go_wp2_with fail
        refine (HNT.out _).mono ?_
        rintro e w3 ⟨rfl, hb3⟩
        have hN := hN.next hb3
        have hp := hp.next hb3
        have hb := bnext hb hb3
        clear n0 n1 p0 p1 p2 p3 p4 p5 hb3
        have ⟨n0, n1⟩ := hN
        have ⟨p0, p1, p2, p3, p4, p5⟩ := hp
        go_wp2
        go_ret
        exact ⟨rfl, hb⟩
      · have h2' : decide (p.t < (n : Int)) = false := decide_eq_false h2
        rw [h2'] at HNT0
        have HNF := Lib.hid HNF0
        have HNT := Lib.hid HNT0
        clear HNF0 HNT0
        have hv : fitB n p = false := by unfold fitB; simp [*]
        rw [hv]
        clear hv
        go_enter Try.func150, Try.ntmps150
        go_wp2_with fail
        refine (HVP.out _).mono ?_
        rintro e w1 ⟨rfl, hb1⟩
        have hN := hN.next hb1
        have hp := hp.next hb1
        have hb := bnext hb hb1
        clear n0 n1 p0 p1 p2 p3 p4 p5 hb1
        have ⟨n0, n1⟩ := hN
        have ⟨p0, p1, p2, p3, p4, p5⟩ := hp
        go_wp2_with fail
        refine (HNF.out _).mono ?_
        rintro e w2 ⟨rfl, hb2⟩
        have hN := hN.next hb2
        have hp := hp.next hb2
        have hb := bnext hb hb2
        clear n0 n1 p0 p1 p2 p3 p4 p5 hb2
        have ⟨n0, n1⟩ := hN
        have ⟨p0, p1, p2, p3, p4, p5⟩ := hp
        go_wp2_with fail
        refine (HNT.out _).mono ?_
        rintro e w3 ⟨rfl, hb3⟩
        have hN := hN.next hb3
        have hp := hp.next hb3
        have hb := bnext hb hb3
        clear n0 n1 p0 p1 p2 p3 p4 p5 hb3
        have ⟨n0, n1⟩ := hN
        have ⟨p0, p1, p2, p3, p4, p5⟩ := hp
        go_wp2
        go_ret
        exact ⟨rfl, hb⟩
    · have h1' : decide (p.f < (n : Int)) = false := decide_eq_false h1
      rw [h1'] at HNF0
      have HNF := Lib.hid HNF0
      clear HNF0 HNT0
      have hv : fitB n p = false := by unfold fitB; simp [*]
      rw [hv]
      clear hv
      go_enter Try.func150, Try.ntmps150
      go_wp2_with fail
      refine (HVP.out _).mono ?_
      rintro e w1 ⟨rfl, hb1⟩
      have hN := hN.next hb1
      have hp := hp.next hb1
      have hb := bnext hb hb1
      clear n0 n1 p0 p1 p2 p3 p4 p5 hb1
      have ⟨n0, n1⟩ := hN
      have ⟨p0, p1, p2, p3, p4, p5⟩ := hp
      go_wp2_with fail
      refine (HNF.out _).mono ?_
      rintro e w2 ⟨rfl, hb2⟩
      have hN := hN.next hb2
      have hp := hp.next hb2
      have hb := bnext hb hb2
      clear n0 n1 p0 p1 p2 p3 p4 p5 hb2
      have ⟨n0, n1⟩ := hN
      have ⟨p0, p1, p2, p3, p4, p5⟩ := hp
      go_wp2
      go_ret
      exact ⟨rfl, hb⟩
  · have h0 : p.ok = false := by simpa using h0
    have HVP : Hid (∀ wx, Calls Try.prog 160 #[.agg #[.string p.id, .int .i64 p.f, .int .i64 p.t, .int .i64 p.L, .int .i64 p.d, .int .i64 p.s]] wx fun e w' => e = .returned (.bool false) ∧ Below wx.heap.size wx w') := Lib.hid (fun wx => by have := HV0 wx; unfold Pp.ok at h0; rw [h0] at this; exact this)
    clear HV0
    have hv : fitB n p = false := by unfold fitB; simp [*]
    rw [hv]
    clear hv
    go_enter Try.func150, Try.ntmps150
    go_wp2_with fail
    refine (HVP.out _).mono ?_
    rintro e w1 ⟨rfl, hb1⟩
    have hN := hN.next hb1
    have hp := hp.next hb1
    have hb := bnext hb hb1
    clear n0 n1 p0 p1 p2 p3 p4 p5 hb1
    have ⟨n0, n1⟩ := hN
    have ⟨p0, p1, p2, p3, p4, p5⟩ := hp
    go_wp2
    go_ret
    exact ⟨rfl, hb⟩

theorem refuses_any (A : Option Addr) (n c : Nat) (B : Option Addr) (m d : Nat) (bn : Nat) (p : Pp) (w : World) (hn : n ≤ 1048576) (hs : p.id.size ≤ maxLen) (hN : NetAt w bn A n c B m d) :
    Calls Try.prog 149 #[.agg #[.string p.id, .int .i64 p.f, .int .i64 p.t, .int .i64 p.L, .int .i64 p.d, .int .i64 p.s], .pointer (some ⟨bn, 0, none⟩)] w fun e w' => e = .returned (.bool (!fitB n p)) ∧ Below w.heap.size w w' := by
  have hb : Below w.heap.size w (w.alloc (.cells #[.string p.id, .int .i64 p.f, .int .i64 p.t, .int .i64 p.L, .int .i64 p.d, .int .i64 p.s] 89)) := bal (Below.refl _ _) _
  obtain ⟨n0, n1⟩ := hN.next hb
  generalize hv : fitB n p = v
  have HT : Hid (∀ wx, Calls Try.prog 150 #[.agg #[.slice A n c, .slice B m d], .agg #[.string p.id, .int .i64 p.f, .int .i64 p.t, .int .i64 p.L, .int .i64 p.d, .int .i64 p.s]] wx fun e w' => e = .returned (.bool v) ∧ Below wx.heap.size wx w') := Lib.hid (fun wx => by have := takes_any A n c B m d p wx hn hs; rw [hv] at this; exact this)
  clear hv hN
  go_enter Try.func149, Try.ntmps149
  go_wp2_with (go_at_call 150; refine (HT.out _).mono ?_; rintro e w' ⟨rfl, hb'⟩; first | have hb := bnext hb hb' | have hb := bnext (bal hb _) hb' | have hb := bnext (bal (bal hb _) _) hb' | have hb := bnext (bal (bal (bal hb _) _) _) hb' | have hb := bnext (bal (bal (bal (bal hb _) _) _) _) hb' | have hb := bnext (bal (bal (bal (bal (bal hb _) _) _) _) _) hb')
  go_ret
  first | exact ⟨rfl, hb⟩ | exact ⟨rfl, (bal hb _)⟩ | exact ⟨rfl, (bal (bal hb _) _)⟩ | exact ⟨rfl, (bal (bal (bal hb _) _) _)⟩ | exact ⟨rfl, (bal (bal (bal (bal hb _) _) _) _)⟩ | exact ⟨rfl, (bal (bal (bal (bal (bal hb _) _) _) _) _)⟩
theorem nameOf_any (p : Pp) (w : World) :
    Calls Try.prog 152 #[.agg #[.string p.id, .int .i64 p.f, .int .i64 p.t, .int .i64 p.L, .int .i64 p.d, .int .i64 p.s]] w fun e w' => e = .returned (.string p.id) ∧ Below w.heap.size w w' := by
  have hb : Below w.heap.size w (w.alloc (.cells #[.string p.id, .int .i64 p.f, .int .i64 p.t, .int .i64 p.L, .int .i64 p.d, .int .i64 p.s] 89)) := bal (Below.refl _ _) _
  go_enter Try.func152, Try.ntmps152
  go_wp2
  go_ret
  exact ⟨rfl, hb⟩

end Go.Proofs.Ytdaedgdglammhaa
