/-
  The model's l01Dec and both Decimal: a number in decimal.
-/
import Derived.Test.YtmopnkkpcgiafabGreatDoorG1
import Derived.Test.YtmopnkkpcgiafabGreatDoorShelf
import Derived.Lib.ItoaNum
import Derived.Lib.AppendIntMem
namespace Go.Proofs.YtmopnkkpcgiafabGreatDoor
open Go.ChangeShapes Go.WideShapes Go.ChangeAt Go.RowKit

theorem infoU8 : (Tryz.prog.info? 5).map (fun i => (i.zero, i.size, i.bytes)) = some (some (.int .u8 0), 1, 1) := by kernel_rfl
/-- bytes as cells -/
def bytesV (l : List UInt8) : List Value := l.map fun b => Value.int .u8 (b.toNat : Int)
theorem bytesV_length (l : List UInt8) : (bytesV l).length = l.length := by simp [bytesV]
theorem bytesV_at (l : List UInt8) (k : Nat) (h : k < l.length) : (bytesV l)[k]? = some (Value.int .u8 (l[k].toNat : Int)) := by simp [bytesV, h]
theorem bytesV_snoc (l : List UInt8) (b : UInt8) : bytesV (l ++ [b]) = bytesV l ++ [Value.int .u8 (b.toNat : Int)] := by simp [bytesV]
theorem strOfNums_bytes (l : List UInt8) : strOfNums (l.map fun b => (b.toNat : Int)) = mkB l := by
  unfold strOfNums mkB
  rw [List.map_map]
  congr 2
  have : (fun n : Int => UInt8.ofNat n.toNat) ∘ (fun b : UInt8 => (b.toNat : Int)) = id := by
    funext b; simp
  rw [this, List.map_id]

/-- string(b) of a slice of bytes that is known whole -/
theorem conv_bytes (w : World) (A : Option Addr) (c n : Nat) (l : List UInt8) (hl : l.length = n) (h0 : 0 < n) (hc : CellsAt w A (bytesV l)) :
    (convert 31 9 (.slice A n c)).run Tryz.prog w = .ok (.string (mkB l)) w := by
  obtain ⟨b, o, rfl, h⟩ := hc (by rw [bytesV_length]; omega)
  have := run_convert_bytes_arg (P := Tryz.prog) w _ 5 Tryz.underlying31 Tryz.underlying5 b o n c (l.map fun b => (b.toNat : Int)) (by simpa using hl) (fun i hi => by
    rw [h i (by rw [bytesV_length]; omega), bytesV_at _ _ (by omega)]
    simp [List.getD, show i < l.length by omega]) _ Tryz.underlying9
  rw [strOfNums_bytes] at this
  exact this

def decHead (M : Nat) : List UInt8 := if M = 0 then [] else Lib.decDigits M
theorem decHead_step (M : Nat) (h : M ≠ 0) : decHead M = decHead (M / 10) ++ [UInt8.ofNat (48 + M % 10)] := by
  unfold decHead
  rw [if_neg h]
  by_cases h10 : M < 10
  · rw [Lib.decDigits, dif_pos h10, if_pos (by omega)]
    congr 2
    omega
  · rw [Lib.decDigits, dif_neg h10, if_neg (by omega)]
theorem digit_cell (M : Nat) : ((UInt8.ofNat (48 + M % 10)).toNat : Int) = 48 + (M : Int) % 10 := by
  have : (UInt8.ofNat (48 + M % 10)).toNat = 48 + M % 10 := by
    rw [UInt8.toNat_ofNat']; omega
  rw [this]; omega

theorem nDigits_pos (n : Nat) : 1 ≤ Lib.nDigits n := by
  rw [Lib.nDigits]; split <;> omega

/-- the table of the powers of ten, as the library's text lays it, here and wherever nothing below is written -/
def PowTab (w : World) : Prop := ∀ w', Below w.heap.size w w' → Lib.TabIs Tryz.prog w' "internal/strconv.uint64pow10" .u64 Lib.pow10Tab
theorem PowTab.next {w w' : World} (h : PowTab w) (hb : Below w.heap.size w w') : PowTab w' := fun _ hb' => h _ (bnext hb hb')
theorem var_below {P : Program} {B g : Nat} {W W' : World} {n : String} {cs : Array Value} (h : Below B W W') (hg : P.globalNamed n = some g) (hgB : g < B) (hv : W.var? P n = some cs) : W'.var? P n = some cs := by
  unfold World.var? at hv ⊢
  simp only [hg, Option.bind_some] at hv ⊢
  rw [h.block g hgB]
  exact hv
theorem powTab_of {w : World} {g : Nat} (hg : Tryz.prog.globalNamed "internal/strconv.uint64pow10" = some g) (h : Lib.TabIs Tryz.prog w "internal/strconv.uint64pow10" .u64 Lib.pow10Tab) : PowTab w := fun w' hb => by
  have hc := h.cell hg 0 (by decide)
  exact var_below hb hg (World.block_lt_of_cell? _ _ hc) h

theorem implDecimal_any (n : Int) (w : World) (h0 : -9223372036854775808 ≤ n) (h1 : n ≤ 9223372036854775807) (ht : PowTab w) :
    Calls Tryz.prog 107 #[.int .i64 n] w fun e w' => e = .returned (.string (mkB (Lib.itoa n))) ∧ Below w.heap.size w w' := by
  have hcall := (Tryz.strconv_FormatInt_10 n h0 h1 w (ht w (Below.refl _ _))).mono (R' := fun e w' => e = .returned (.string (mkB (Lib.itoa n))) ∧ Below w.heap.size w w') (by
    rintro e w' ⟨he, k, os, rfl⟩
    exact ⟨he, Lib.below_grow _ _ (Nat.le_refl _) _ _⟩)
  have Hc := Lib.hid hcall
  clear hcall
  go_enter Tryz.func107, Tryz.ntmps107
  go_wp2_with (go_at_call 143; refine Hc.out.mono ?_; rintro e w1 ⟨rfl, hb⟩)
  go_ret
  exact ⟨rfl, hb⟩

end Go.Proofs.YtmopnkkpcgiafabGreatDoor
