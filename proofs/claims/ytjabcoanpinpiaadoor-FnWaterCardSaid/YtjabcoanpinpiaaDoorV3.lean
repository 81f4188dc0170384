/-
  Reading a temperature: the program's way.
-/
import Derived.Test.YtjabcoanpinpiaaDoorV2
import Derived.Test.YtjabcoanpinpiaaDoorL0
namespace Go.Proofs.YtjabcoanpinpiaaDoor
open Go.ChangeShapes Go.WideShapes Go.ChangeAt Go.RowKit

theorem replace_any (s : ByteArray) (w : World) (hs : s.size ≤ 1048576) (hm : MaxVar w) :
    Calls Tryd.prog 32 #[.string s, .string ⟨#[46]⟩, .string ⟨#[]⟩, .int .i64 1] w fun e w' => ∃ r : ByteArray, e = .returned (.string r) ∧ r.data.toList = Lib.replace s.data.toList [46] [] 1 ∧ r.size ≤ 1048576 ∧ Below w.heap.size w w' := by
  obtain ⟨m, hm⟩ := hm
  refine (Tryd.strings_Replace s ⟨#[46]⟩ ⟨#[]⟩ 1 m w (by omega) hm (by show 1 ≤ 1; omega) (by show s.size + _ * 0 ≤ _; omega)).mono ?_
  rintro e w' ⟨rfl, hb⟩
  refine ⟨mkB (Lib.replace s.data.toList [46] [] 1), rfl, rfl, ?_, hb⟩
  have := replace_le s.data.toList
  have h2 := size_list s
  show (Lib.replace s.data.toList [46] [] 1).length ≤ _
  omega
theorem degOf_parse {l : List UInt8} {v : Int} (h : Lib.parseIntB 64 (Lib.replace l [46] [] 1) = .ok v) : (inB v (-99999) 99999 = true → degL v = l → DegOf l (some v)) ∧ (¬ (inB v (-99999) 99999 = true ∧ degL v = l) → DegOf l none) := by
  refine ⟨fun h1 h2 => ⟨fun t e => ?_, fun e => by cases e⟩, fun hn => ⟨fun t e => (by cases e), fun _ t ht hl => ?_⟩⟩
  · obtain ⟨rfl⟩ := e
    exact ⟨h1, h2⟩
  · have := parse_deg t ht
    rw [hl, h] at this
    cases this
    exact hn ⟨ht, hl⟩
theorem degOf_bad {l : List UInt8} (h : ∀ v, Lib.parseIntB 64 (Lib.replace l [46] [] 1) ≠ .ok v) : DegOf l none := by
  refine ⟨fun t e => (by cases e), fun _ t ht hl => ?_⟩
  have := parse_deg t ht
  rw [hl] at this
  exact h t this
theorem degT_eq {l : List UInt8} {v : Int} (hp : Lib.parseIntB 64 (Lib.replace l [46] [] 1) = .ok v) : degT v = l ↔ (inB v (-99999) 99999 = true ∧ degL v = l) := by
  unfold degT
  by_cases h : inB v (-99999) 99999 = true
  · rw [if_pos h]
    exact ⟨fun k => ⟨h, k⟩, fun k => k.2⟩
  · rw [if_neg h]
    refine ⟨fun k => ?_, fun k => absurd k.1 h⟩
    subst k
    exact absurd hp (by intro e; cases e)

set_option maxRecDepth 100000 in
theorem implReadDegrees_any (s : ByteArray) (w : World) (hs : s.size ≤ 1048576) (hm : MaxVar w) (hv : ErrVars w) (ht : PowTab w) :
    Calls Tryd.prog 15 #[.string s] w fun e w' => ∃ o, e = .returned (decT o) ∧ DegOf s.data.toList o ∧ Below w.heap.size w w' := by
  go_enter Tryd.func15, Tryd.ntmps15
  go_wp2_with fail
  refine (replace_any s _ hs hm).mono ?_
  rintro e w1 ⟨r, rfl, hr, hrs, hb1⟩
  go_wp2_with fail
  refine (parseInt_any r _ (by omega) (hv.next hb1)).mono ?_
  rintro e w2 hpi
  unfold PiPost at hpi
  rw [hr] at hpi
  rcases hpi with ⟨v, hp, rfl, hb2⟩ | ⟨hp, k, t, p, rfl, hb2⟩
  · have hb := bnext hb1 hb2
    have hbd := parse_bd hp
    go_wp2_with fail
    refine (implDegreesText_any v _ hbd.1 hbd.2 (ht.next hb)).mono ?_
    rintro e w3 ⟨rfl, hb3⟩
    have hb := bnext hb hb3
    by_cases he : degT v = s.data.toList
    · have hd := (degOf_parse hp).1 ((degT_eq hp).1 he).1 ((degT_eq hp).1 he).2
      have hx : mkB (degT v) = s := by rw [he]; exact ByteArray.ext rfl
      rw [hx]
      clear hx he hp
      have Hd := Lib.hid hd
      clear hd
      go_wp2
      go_ret2
      exact ⟨some v, rfl, Hd.out, hb⟩
    · have hd := (degOf_parse hp).2 fun h => he ((degT_eq hp).2 h)
      have hx : mkB (degT v) ≠ s := fun h => he (by rw [← h]; rfl)
      have Hd := Lib.hid hd
      clear hd he hp
      generalize mkB (degT v) = q at *
      have hx2 : (q.toList == s.toList) = false := by
        rw [beq_eq_false_iff_ne]
        intro h
        exact hx (by apply ByteArray.ext; rw [← Array.toList_inj]; rw [ByteArray.toList_eq, ByteArray.toList_eq] at h; exact h)
      go_wp2
      go_ret2
      exact ⟨none, rfl, Hd.out, hb⟩
  · have hb := bnext hb1 hb2
    have Hd := Lib.hid (degOf_bad hp)
    clear hp
    go_wp2
    go_ret2
    exact ⟨none, rfl, Hd.out, hb⟩

end Go.Proofs.YtjabcoanpinpiaaDoor
