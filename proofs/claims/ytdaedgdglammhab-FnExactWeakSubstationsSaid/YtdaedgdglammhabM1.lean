/-
  The laws' own helpers over slices of strings: equal slices, marks written and found again.
-/
import Derived.Test.YtdaedgdglammhabG1
import Derived.Deep.RegionHeld3
namespace Go.Proofs.Ytdaedgdglammhab
open Go.ChangeShapes Go.WideShapes Go.ChangeAt Go.RowKit
set_option maxRecDepth 100000

/-- the decimal digits of m, in front of s -/
def digitsInto : Nat → Nat → ByteArray → ByteArray
  | 0, _, s => s
  | f + 1, m, s => if m = 0 then s else digitsInto f (m / 10) (strOfNums [48 + (m : Int) % 10] ++ s)
theorem digitsInto_zero (f : Nat) (s : ByteArray) : digitsInto f 0 s = s := by
  cases f <;> simp [digitsInto]
theorem digitsInto_step (f m : Nat) (s : ByteArray) (h : m ≠ 0) : digitsInto (f + 1) m s = digitsInto f (m / 10) (strOfNums [48 + (m : Int) % 10] ++ s) := by
  rw [digitsInto, if_neg h]
def mText (k : Int) : ByteArray := if k ≤ 0 then ⟨#[109, 48]⟩ else ⟨#[109]⟩ ++ digitsInto 20 k.toNat ⟨#[]⟩

theorem one_byte (b : Nat) (w : World) (n : Int) (t : TypeId) (hb : b = w.heap.size) :
    (convert 77 9 (.slice (some ⟨b, 0, none⟩) 1 1)).run Try.prog (w.alloc (.cells #[.int .u8 n] t)) = .ok (.string (strOfNums [n])) (w.alloc (.cells #[.int .u8 n] t)) := by
  subst hb
  exact run_convert_bytes_arg (P := Try.prog) _ _ 5 Try.underlying77 Try.underlying5 w.heap.size 0 1 1 [n] rfl (fun i hi => by
    have : i = 0 := by omega
    subst this
    simp) _ Try.underlying9

theorem markText_any (k : Int) (w : World) (h1 : k ≤ 9223372036854775807) :
    Calls Try.prog 71 #[.int .i64 k] w fun e w' => e = .returned (.string (mText k)) ∧ Below w.heap.size w w' := by
  by_cases h0 : k ≤ 0
  · have H : Hid (mText k = ⟨#[109, 48]⟩) := Lib.hid (if_pos h0)
    go_enter Try.func71, Try.ntmps71
    go_wp2
    go_ret
    exact ⟨by rw [H.out]; rfl, Below.refl _ _⟩
  · have H : Hid (mText k = ⟨#[109]⟩ ++ digitsInto 20 k.toNat ⟨#[]⟩) := Lib.hid (if_neg h0)
    have hcb := fun (wx : World) (n : Int) => one_byte wx.heap.size wx n 5 rfl
    obtain ⟨K, rfl⟩ := Int.eq_ofNat_of_zero_le (by omega : 0 ≤ k)
    rw [Int.toNat_natCast] at H
    go_enter Try.func71, Try.ntmps71
    go_wp2
    go_loopw [0, 3] (fun n o wr => ∃ (f m : Nat) (s : ByteArray), n = .int .i64 m ∧ o = .string s ∧ m ≤ 9223372036854775807 ∧ s.size + f ≤ 20 ∧ Hid (m < 10 ^ f) ∧ Hid (digitsInto f m s = digitsInto 20 K ⟨#[]⟩) ∧ Below w.heap.size w wr) (fun n _ _ => (intOf n).toNat)
    case atStart => exact ⟨20, K, _, rfl, rfl, by omega, by simp [ByteArray.size], Lib.hid (by omega), Lib.hid rfl, Below.refl _ _⟩
    case round =>
      obtain ⟨f, m, s, rfl, rfl, hm, hs, Hf, Hd, hb⟩ := hrel
      by_cases hz : 0 < (m : Int)
      · have hf : 0 < f := by
          rcases Nat.eq_zero_or_pos f with e | e
          · subst e; have := Hf.out; omega
          · exact e
        obtain ⟨f, rfl⟩ : ∃ g, f = g + 1 := ⟨f - 1, by omega⟩
        have hd := digitsInto_step f m s (by omega)
        have Hs := Lib.hid hd
        clear hd
        have hcc := hcb wr (48 + (m : Int) % 10)
        have hsz := strOfNums_size [48 + (m : Int) % 10]
        have Hsz := Lib.hid hsz
        have hsz1 : (strOfNums [48 + (m : Int) % 10] ++ s).size = 1 + s.size := by rw [ByteArray.size_append, Hsz.out]; rfl
        have Hsz1 := Lib.hid hsz1
        have hle : (strOfNums [48 + (m : Int) % 10]).size ≤ 1 := by rw [hsz]; exact Nat.le_refl _
        clear hsz hsz1 hcb
        go_wp2
        go_roundw
        case rel => exact ⟨f, m / 10, _, by go_num, rfl, by omega, by rw [Hsz1.out]; omega, Lib.hid (by have := Hf.out; rw [Nat.pow_succ] at this; omega), Lib.hid (by rw [← Hs.out, Hd.out]), hb.alloc hb.size _⟩
        case measure => simp only [intOf]; omega
      · go_wp2
        go_ret
        have e : m = 0 := by omega
        have Hd' := Hd.out
        rw [e, digitsInto_zero] at Hd'
        exact ⟨by rw [H.out, ← Hd']; rfl, hb⟩

/-- the i-th mark from k on -/
def markAt (k : Int) (i : Nat) : Value := Value.string (mText (k + (i : Int)))
/-- so many marks, from k on -/
def marksS (k : Int) (n : Nat) : List Value := (List.range n).map (markAt k)
theorem marksS_length (k : Int) (n : Nat) : (marksS k n).length = n := by simp [marksS]
theorem marksS_at (k : Int) (n i : Nat) (h : i < n) : (marksS k n)[i]? = some (Value.string (mText (k + (i : Int)))) := by simp [marksS, markAt, h]

/-- a call that returns a new slice of the strings xs -/
def RetStrs (xs : List ByteArray) (w : World) (e : Ending) (w' : World) : Prop :=
  ∃ A c, e = .returned (.slice A xs.length c) ∧ w'.ownsRow w.heap.size 9 1 (.slice A xs.length c) xs.length (xs.map Value.string) ∧ Below w.heap.size w w'
theorem retStrs_of {xs : List ByteArray} {vs : List Value} {w w' : World} {e : Ending} (h : RetRow 9 vs w e w') (hv : vs = xs.map Value.string) : RetStrs xs w e w' := by
  subst hv
  obtain ⟨A, c, he, ho, hb⟩ := h
  rw [List.length_map] at he ho
  exact ⟨A, c, he, ho, hb⟩
/-- what a slice of the call's own, marked and found again, does not touch -/
theorem owns_kept {w w' : World} {base base' : Nat} {E E' : TypeId} {A B : Option Addr} {n m c d : Nat} {vs us : List Value} (h : w.ownsRow base E 1 (.slice A n c) n vs) (hg : w.grownBy w' (Value.ownBlock (.slice B m d)))
    (hlt : LiesIn base' A) (hB : w.ownsRow base' E' 1 (.slice B m d) m us) : w'.ownsRow base E 1 (.slice A n c) n vs := by
  refine h.kept hg ?_
  cases A with
  | none => exact .inl rfl
  | some a =>
    right
    intro he
    rcases h.2 with ⟨hv, _⟩ | ⟨g, cap, cur, hv, _⟩
    · cases hv
    · injection hv with hA
      injection hA with hA
      subst hA
      have h1 := hlt g 0 rfl
      have h2 := (hB.lt g (by rw [← he]; rfl)).1
      omega
theorem grown_old {w0 w w' : World} {base : Nat} {E : TypeId} {B : Option Addr} {m d : Nat} {us : List Value} (hb : Below w0.heap.size w0 w) (hg : w.grownBy w' (Value.ownBlock (.slice B m d))) (hB : w.ownsRow base E 1 (.slice B m d) m us) (hbase : w0.heap.size ≤ base) : Below w0.heap.size w0 w' :=
  hb.grown hg hb.size fun k hk => Nat.le_trans hbase (hB.lt k hk).1
end Go.Proofs.Ytdaedgdglammhab
