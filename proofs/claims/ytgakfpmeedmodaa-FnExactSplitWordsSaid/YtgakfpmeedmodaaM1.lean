/-
  The laws' own helpers over slices of strings: equal slices, marks written and found again.
-/
import Derived.Test.YtgakfpmeedmodaaG1
import Derived.Deep.RegionHeld3
namespace Go.Proofs.Ytgakfpmeedmodaa
open Go.ChangeShapes Go.WideShapes Go.ChangeAt Go.RowKit

theorem eqStrings_same (A B : Option Addr) (c d : Nat) (xs : List ByteArray) (w : World) (hx : xs.length ≤ maxLen)
    (hA : CellsAt w A (xs.map Value.string)) (hB : CellsAt w B (xs.map Value.string)) :
    Calls Try.prog 16 #[.slice A xs.length c, .slice B xs.length d] w fun e w' => e = .returned (.bool true) ∧ Drawn w w' := by
  have hm : xs.length ≤ 9223372036854775807 := by unfold maxLen at hx; omega
  by_cases h0 : 0 < xs.length
  · obtain ⟨b1, o1, rfl, h1⟩ := hA (by simpa using h0)
    obtain ⟨b2, o2, rfl, h2⟩ := hB (by simpa using h0)
    go_enter Try.func16, Try.ntmps16
    go_wp2
    go_loopw [5] (fun i wr => ∃ k : Nat, k ≤ xs.length ∧ i = .int .i64 k ∧ Drawn w wr) (fun i _ => xs.length - (intOf i).toNat)
    case atStart => exact ⟨0, Nat.zero_le _, rfl, Drawn.rfl' _⟩
    case round =>
      obtain ⟨k, hk, rfl, ⟨n, rfl⟩⟩ := hrel
      by_cases hlt : k < xs.length
      · have g1 : w.cell? ⟨b1, o1 + k, none⟩ = some (.string xs[k]) := by rw [h1 k (by simpa using hlt)]; simp [hlt]
        have g2 : w.cell? ⟨b2, o2 + k, none⟩ = some (.string xs[k]) := by rw [h2 k (by simpa using hlt)]; simp [hlt]
        generalize xs[k] = x at *
        clear h1 h2 hA hB
        go_wp2
        go_quiet (fail)
        go_wp2
        go_roundw
        case rel => exact ⟨k + 1, by omega, by go_num, ⟨_, rfl⟩⟩
        case measure => simp [intOf]; omega
      · go_wp2
        go_ret
        exact ⟨rfl, ⟨_, rfl⟩⟩
  · go_enter Try.func16, Try.ntmps16
    go_wp2
    go_loopw [5] (fun i wr => i = .int .i64 0 ∧ w = wr) (fun _ _ => 0)
    case atStart => exact ⟨rfl, rfl⟩
    case round =>
      obtain ⟨rfl, rfl⟩ := hrel
      go_wp2
      go_ret
      exact ⟨rfl, Drawn.rfl' _⟩

/-- the decimal digits of m, in front of s -/
def digitsInto : Nat → Nat → ByteArray → ByteArray
  | 0, _, s => s
  | f + 1, m, s => if m = 0 then s else digitsInto f (m / 10) (strOfNums [48 + (m : Int) % 10] ++ s)
theorem digitsInto_zero (f : Nat) (s : ByteArray) : digitsInto f 0 s = s := by
  cases f <;> simp [digitsInto]
theorem digitsInto_step (f m : Nat) (s : ByteArray) (h : m ≠ 0) : digitsInto (f + 1) m s = digitsInto f (m / 10) (strOfNums [48 + (m : Int) % 10] ++ s) := by
  rw [digitsInto, if_neg h]
def mText (k : Int) : ByteArray := if k ≤ 0 then ⟨#[109, 48]⟩ else ⟨#[109]⟩ ++ digitsInto 20 k.toNat ⟨#[]⟩

theorem one_byte (b : Nat) (w : World) (n : Int) (t : TypeId) (hb : b = w.heap.size) :
    (convert 55 9 (.slice (some ⟨b, 0, none⟩) 1 1)).run Try.prog (w.alloc (.cells #[.int .u8 n] t)) = .ok (.string (strOfNums [n])) (w.alloc (.cells #[.int .u8 n] t)) := by
  subst hb
  exact run_convert_bytes_arg (P := Try.prog) _ _ 5 Try.underlying55 Try.underlying5 w.heap.size 0 1 1 [n] rfl (fun i hi => by
    have : i = 0 := by omega
    subst this
    simp) _ Try.underlying9

theorem markText_any (k : Int) (w : World) (h1 : k ≤ 9223372036854775807) :
    Calls Try.prog 36 #[.int .i64 k] w fun e w' => e = .returned (.string (mText k)) ∧ Below w.heap.size w w' := by
  by_cases h0 : k ≤ 0
  · have H : Hid (mText k = ⟨#[109, 48]⟩) := Lib.hid (if_pos h0)
    go_enter Try.func36, Try.ntmps36
    go_wp2
    go_ret
    exact ⟨by rw [H.out]; rfl, Below.refl _ _⟩
  · have H : Hid (mText k = ⟨#[109]⟩ ++ digitsInto 20 k.toNat ⟨#[]⟩) := Lib.hid (if_neg h0)
    have hcb := fun (wx : World) (n : Int) => one_byte wx.heap.size wx n 5 rfl
    obtain ⟨K, rfl⟩ := Int.eq_ofNat_of_zero_le (by omega : 0 ≤ k)
    rw [Int.toNat_natCast] at H
    go_enter Try.func36, Try.ntmps36
    go_wp2
    go_loopw [0, 3] (fun n o wr => ∃ (f m : Nat) (s : ByteArray), n = .int .i64 m ∧ o = .string s ∧ m ≤ 9223372036854775807 ∧ s.size + f ≤ 20 ∧ Hid (m < 10 ^ f) ∧ Hid (digitsInto f m s = digitsInto 20 K ⟨#[]⟩) ∧ Below w.heap.size w wr) (fun n _ _ => (intOf n).toNat)
    case atStart => exact ⟨20, K, _, rfl, rfl, by omega, by simp [ByteArray.size], Lib.hid (by omega), Lib.hid rfl, Below.refl _ _⟩
    case round =>
      obtain ⟨f, m, s, rfl, rfl, hm, hs, Hf, Hd, hb⟩ := hrel
      by_cases hz : 0 < (m : Int)
      · have hf : 0 < f := by
          rcases Nat.eq_zero_or_pos f with e | e
          · subst e; have := Hf.out; omega
          · exact e
        obtain ⟨f, rfl⟩ : ∃ g, f = g + 1 := ⟨f - 1, by omega⟩
        have hd := digitsInto_step f m s (by omega)
        have Hs := Lib.hid hd
        clear hd
        have hcc := hcb wr (48 + (m : Int) % 10)
        have hsz := strOfNums_size [48 + (m : Int) % 10]
        have Hsz := Lib.hid hsz
        have hsz1 : (strOfNums [48 + (m : Int) % 10] ++ s).size = 1 + s.size := by rw [ByteArray.size_append, Hsz.out]; rfl
        have Hsz1 := Lib.hid hsz1
        have hle : (strOfNums [48 + (m : Int) % 10]).size ≤ 1 := by rw [hsz]; exact Nat.le_refl _
        clear hsz hsz1 hcb
        go_wp2
        go_roundw
        case rel => exact ⟨f, m / 10, _, by go_num, rfl, by omega, by rw [Hsz1.out]; omega, Lib.hid (by have := Hf.out; rw [Nat.pow_succ] at this; omega), Lib.hid (by rw [← Hs.out, Hd.out]), hb.alloc hb.size _⟩
        case measure => simp only [intOf]; omega
      · go_wp2
        go_ret
        have e : m = 0 := by omega
        have Hd' := Hd.out
        rw [e, digitsInto_zero] at Hd'
        exact ⟨by rw [H.out, ← Hd']; rfl, hb⟩

/-- the i-th mark from k on -/
def markAt (k : Int) (i : Nat) : Value := Value.string (mText (k + (i : Int)))
/-- so many marks, from k on -/
def marksS (k : Int) (n : Nat) : List Value := (List.range n).map (markAt k)
theorem marksS_length (k : Int) (n : Nat) : (marksS k n).length = n := by simp [marksS]
theorem marksS_at (k : Int) (n i : Nat) (h : i < n) : (marksS k n)[i]? = some (Value.string (mText (k + (i : Int)))) := by simp [marksS, markAt, h]

theorem markStrings_any (A : Option Addr) (c n : Nat) (base : Nat) (xs : List Value) (k : Int) (w : World) (hk0 : 0 ≤ k) (hk1 : k + n ≤ 9223372036854775807)
    (hown : w.ownsRow base 9 1 (.slice A n c) n xs) :
    Calls Try.prog 17 #[.slice A n c, .int .i64 k] w
      fun e w' => e = .returned (.int .i64 (k + n)) ∧ w'.ownsRow base 9 1 (.slice A n c) n (marksS k n) ∧ w.grownBy w' (Value.ownBlock (.slice A n c)) := by
  have hlen := owns_len hown
  by_cases h0 : 0 < n
  · obtain ⟨g, rfl⟩ : ∃ g, A = some ⟨g, 0, none⟩ := by
      rcases hown.2 with ⟨hv, hn⟩ | ⟨g, cap, cur, hv, _⟩
      · omega
      · injection hv with hA; exact ⟨g, hA⟩
    have Hlen := Lib.hid hlen
    clear hlen
    go_enter Try.func17, Try.ntmps17
    go_wp2
    go_loopw [1, 5] (fun m i wr => ∃ j : Nat, j ≤ n ∧ i = .int .i64 j ∧ m = .int .i64 (k + j) ∧ wr.ownsRow base 9 1 (.slice (some ⟨g, 0, none⟩) n c) n (fillV (markAt k) j xs) ∧ w.grownBy wr (some g)) (fun _ i _ => n - (intOf i).toNat)
    case atStart => exact ⟨0, by omega, rfl, by simp, hown, grown_refl _ _⟩
    case round =>
      obtain ⟨j, hj, rfl, rfl, hro, hgr⟩ := hrel
      by_cases hlt : j < n
      · go_wp2_with (go_at_call 36; refine (markText_any _ _ (by omega)).mono ?_; rintro e w1 ⟨rfl, hb1⟩; have hro1 := owns_below hro hb1 (Nat.le_refl _); have hc1 := hro1.cellAt j (by omega); have hf1 := hro1.frozenAt j; rw [fillV_get, List.getElem?_eq_getElem (by rw [Hlen.out]; exact hlt)] at hc1)
        go_roundw
        case rel =>
          refine ⟨j + 1, by omega, by go_num, by go_num, ?_, grown_set (grown_below hgr hb1) _ _ _⟩
          have := hro1.stored j (markAt k j)
          rw [fillV_set _ _ _ (by rw [Hlen.out]; exact hlt)] at this
          exact this.1
        case measure => simp [intOf]; omega
      · have e : j = n := by omega
        subst e
        have hfa := fillV_all (markAt k) j xs Hlen.out
        rw [hfa] at hro
        clear hfa
        go_wp2
        go_ret
        exact ⟨rfl, hro, hgr⟩
  · have e : n = 0 := by omega
    subst e
    have hx : xs = [] := List.length_eq_zero_iff.1 hlen
    subst hx
    go_enter Try.func17, Try.ntmps17
    go_wp2
    go_loopw [1, 5] (fun m i wr => m = .int .i64 k ∧ i = .int .i64 0 ∧ w = wr) (fun _ _ _ => 0)
    case atStart => exact ⟨rfl, rfl, rfl⟩
    case round =>
      obtain ⟨rfl, rfl, rfl⟩ := hrel
      go_wp2
      go_ret
      exact ⟨by simp, hown, grown_refl _ _⟩

theorem heldStrings_any (A : Option Addr) (c n : Nat) (k : Int) (w : World) (hk0 : 0 ≤ k) (hk1 : k + n ≤ 9223372036854775807) (hx : n ≤ maxLen)
    (hA : CellsAt w A (marksS k n)) (hl : LiesIn w.heap.size A) :
    Calls Try.prog 18 #[.slice A n c, .int .i64 k] w
      fun e w' => e = .returned (.int .i64 (k + n)) ∧ Below w.heap.size w w' := by
  by_cases h0 : 0 < n
  · obtain ⟨b, o, rfl, h1⟩ := hA (by rw [marksS_length]; exact h0)
    have hlb := hl b o rfl
    go_enter Try.func18, Try.ntmps18
    go_wp2
    go_loopw [1, 5] (fun m i wr => ∃ j : Nat, j ≤ n ∧ i = .int .i64 j ∧ m = .int .i64 (k + j) ∧ Below w.heap.size w wr) (fun _ i _ => n - (intOf i).toNat)
    case atStart => exact ⟨0, by omega, rfl, by simp, Below.refl _ _⟩
    case round =>
      obtain ⟨j, hj, rfl, rfl, hb⟩ := hrel
      by_cases hlt : j < n
      · have g1 : wr.cell? ⟨b, o + j, none⟩ = some (.string (mText (k + (j : Int)))) := by
          rw [hb.cell (p := ⟨b, o + j, none⟩) hlb, h1 j (by rw [marksS_length]; exact hlt), marksS_at _ _ _ hlt]
        have hlw : b < wr.heap.size := Nat.lt_of_lt_of_le hlb hb.size
        clear h1 hA
        go_wp2_with fail
        go_region_held3 (fun w' => w'.cell? ⟨b, o + j, none⟩ = some (.string (mText (k + (j : Int))))) (first | go_keep | (rw [hb1.cell (by simp; omega)]; assumption)) (first | (go_at_call 36; refine (markText_any _ _ (by omega)).mono ?_; rintro e w1 ⟨rfl, hb1⟩))
        have hb2 := hb.drew.trans (hb1.mono hb.size)
        go_wp2
        go_roundw
        case rel => exact ⟨j + 1, by omega, by go_num, by go_num, hb2⟩
        case measure => simp [intOf]; omega
      · have e : j = n := by omega
        subst e
        go_wp2
        go_ret
        exact ⟨rfl, hb⟩
  · have e : n = 0 := by omega
    subst e
    go_enter Try.func18, Try.ntmps18
    go_wp2
    go_loopw [1, 5] (fun m i wr => m = .int .i64 k ∧ i = .int .i64 0 ∧ w = wr) (fun _ _ _ => 0)
    case atStart => exact ⟨rfl, rfl, rfl⟩
    case round =>
      obtain ⟨rfl, rfl, rfl⟩ := hrel
      go_wp2
      go_ret
      exact ⟨by simp, Below.refl _ _⟩

/-- a call that returns a new slice of the strings xs -/
def RetStrs (xs : List ByteArray) (w : World) (e : Ending) (w' : World) : Prop :=
  ∃ A c, e = .returned (.slice A xs.length c) ∧ w'.ownsRow w.heap.size 9 1 (.slice A xs.length c) xs.length (xs.map Value.string) ∧ Below w.heap.size w w'
theorem retStrs_of {xs : List ByteArray} {vs : List Value} {w w' : World} {e : Ending} (h : RetRow 9 vs w e w') (hv : vs = xs.map Value.string) : RetStrs xs w e w' := by
  subst hv
  obtain ⟨A, c, he, ho, hb⟩ := h
  rw [List.length_map] at he ho
  exact ⟨A, c, he, ho, hb⟩
/-- what a slice of the call's own, marked and found again, does not touch -/
theorem owns_kept {w w' : World} {base base' : Nat} {E E' : TypeId} {A B : Option Addr} {n m c d : Nat} {vs us : List Value} (h : w.ownsRow base E 1 (.slice A n c) n vs) (hg : w.grownBy w' (Value.ownBlock (.slice B m d)))
    (hlt : LiesIn base' A) (hB : w.ownsRow base' E' 1 (.slice B m d) m us) : w'.ownsRow base E 1 (.slice A n c) n vs := by
  refine h.kept hg ?_
  cases A with
  | none => exact .inl rfl
  | some a =>
    right
    intro he
    rcases h.2 with ⟨hv, _⟩ | ⟨g, cap, cur, hv, _⟩
    · cases hv
    · injection hv with hA
      injection hA with hA
      subst hA
      have h1 := hlt g 0 rfl
      have h2 := (hB.lt g (by rw [← he]; rfl)).1
      omega
theorem grown_old {w0 w w' : World} {base : Nat} {E : TypeId} {B : Option Addr} {m d : Nat} {us : List Value} (hb : Below w0.heap.size w0 w) (hg : w.grownBy w' (Value.ownBlock (.slice B m d))) (hB : w.ownsRow base E 1 (.slice B m d) m us) (hbase : w0.heap.size ≤ base) : Below w0.heap.size w0 w' :=
  hb.grown hg hb.size fun k hk => Nat.le_trans hbase (hB.lt k hk).1
end Go.Proofs.Ytgakfpmeedmodaa
