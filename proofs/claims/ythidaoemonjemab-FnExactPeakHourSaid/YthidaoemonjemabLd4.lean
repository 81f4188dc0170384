/-
  Loads of several buildings together, both sides.
-/
import Derived.Test.YthidaoemonjemabLd2
import Derived.Test.YthidaoemonjemabW4
namespace Go.Proofs.Ythidaoemonjemab
open Go.ChangeShapes Go.WideShapes Go.ChangeAt Go.RowKit

set_option maxRecDepth 100000
set_option linter.unusedVariables false

def sumI (ds : List Bl) (t h : Int) : Int := (ds.map fun d => loadI d t h).sum
theorem sum_take {α : Type} (f : α → Int) (l : List α) (k : Nat) (x : α) (hx : l[k]? = some x) : ((l.take (k + 1)).map f).sum = ((l.take k).map f).sum + f x := by
  rw [List.take_add_one, hx]
  simp
theorem sum_bd {α : Type} (f : α → Int) (K : Int) (hK : 0 ≤ K) : ∀ (l : List α), (∀ x ∈ l, 0 ≤ f x ∧ f x ≤ K) → 0 ≤ (l.map f).sum ∧ (l.map f).sum ≤ l.length * K
  | [], _ => by simp
  | a :: r, h => by
    have h1 := h a (by simp)
    have h2 := sum_bd f K hK r fun x hx => h x (by simp [hx])
    simp only [List.map_cons, List.sum_cons, List.length_cons]
    have e : ((r.length + 1 : Nat) : Int) * K = r.length * K + K := by rw [Int.natCast_add, Int.add_mul]; simp
    rw [e]
    omega
theorem take_sum_bd {ds : List Bl} (hok : ds.all Bl.ok = true) (hl : ds.length ≤ 12) (t h : Int) (ht0 : -4000 ≤ t) (ht1 : t ≤ 4500) (k : Nat) : 0 ≤ sumI (ds.take k) t h ∧ sumI (ds.take k) t h ≤ 138000000 := by
  have := sum_bd (fun d => loadI d t h) 11500000 (by omega) (ds.take k) fun d hd => load_bd (List.all_eq_true.1 hok d (List.mem_of_mem_take hd)) t ht0 ht1 h
  have hlen : (ds.take k).length ≤ 12 := by rw [List.length_take]; omega
  unfold sumI
  have h2 : ((ds.take k).length : Int) * 11500000 ≤ 12 * 11500000 := by omega
  omega
theorem sumI_all (ds : List Bl) (t h : Int) : sumI (ds.take ds.length) t h = sumI ds t h := by rw [List.take_length]

theorem l05Sum_any (A : Option Addr) (n c : Nat) (xs : List Bd) (t h : Int) (w : World) (hx : BdsOk w A n xs) (hok : (xs.map Bd.d).all Bl.ok = true) (hl : n ≤ 12) (ht0 : -4000 ≤ t) (ht1 : t ≤ 4500) (hh0 : 0 ≤ h) (hh1 : h < 24) :
    Calls Try.prog 75 #[.slice A n c, .int .i64 t, .int .i64 h] w fun e w' => e = .returned (.int .i64 (sumI (xs.map Bd.d) t h)) ∧ Drawn w w' := by
  obtain rfl := hx.1.1
  have HB := Lib.hid hx.cells
  have HD := Lib.hid hx.1.2.2.2
  have HBD := Lib.hid (fun k => take_sum_bd hok (by simpa using hl) t h ht0 ht1 k)
  have HL := Lib.hid (fun (b o : Nat) (x : Bd) (k : Nat) (P : BdO w b o x) (hx : x.fine w) (ok : x.d.ok = true) => l05Load_any b o x t h (w.drewN k) P hx ok ht0 ht1 hh0 hh1)
  have HLB := Lib.hid (fun (x : Bd) (ok : x.d.ok = true) => load_bd ok t ht0 ht1 h)
  have HOK := Lib.hid (fun (x : Bd) (hx : x ∈ xs) => List.all_eq_true.1 hok x.d (List.mem_map.2 ⟨x, hx, rfl⟩))
  clear hx hok
  go_enter Try.func75, Try.ntmps75
  go_wp2
  go_loopw [7, 8] (fun v i wr => ∃ (q : Nat) (s : Int), q ≤ xs.length ∧ v = .int .i64 s ∧ i = .int .i64 q ∧ 0 ≤ s ∧ s ≤ 138000000 ∧ Hid (s = sumI ((xs.map Bd.d).take q) t h) ∧ Drawn w wr) (fun _ i _ => xs.length - (intOf i).toNat)
  case atStart => exact ⟨0, 0, Nat.zero_le _, rfl, rfl, by omega, by omega, Lib.hid rfl, Drawn.rfl' _⟩
  case round =>
    obtain ⟨q, s, hq, rfl, rfl, s0, s1, HS, ⟨nr, rfl⟩⟩ := hrel
    by_cases hlq : q < xs.length
    · obtain ⟨b2, o2, rfl, hrow⟩ := BdO.at HB.out (by omega)
      have hp := List.getElem?_eq_getElem hlq
      have P := hrow q _ hp
      have hm := List.mem_of_getElem? hp
      have hs := HD.out _ hm
      have hk := HOK.out _ hm
      have hd : (xs.map Bd.d)[q]? = some xs[q].d := by simp [hp]
      have HT := Lib.hid (sum_take (fun d => loadI d t h) (xs.map Bd.d) q _ hd)
      have HB2 := HBD.out (q + 1)
      have hu := HLB.out _ hk
      have HC := Lib.hid (fun k => HL.out b2 (o2 + q * 6) xs[q] k P hs hk)
      have hsum : sumI ((xs.map Bd.d).take (q + 1)) t h = s + loadI xs[q].d t h := by rw [HS.out]; exact HT.out
      have HSU := Lib.hid hsum
      rw [hsum] at HB2
      generalize xs[q] = x at *
      generalize loadI x.d t h = u at *
      obtain ⟨p0, p1, p2, p3, p4, p5⟩ := P
      clear p1 p2 p3 p4 p5 hp hm hd hrow hsum
      go_wp2_with ((go_at_call 100; refine (HC.out _).mono ?_; rintro e w' ⟨rfl, ⟨k2, rfl⟩⟩))
      go_roundw
      case rel => exact ⟨q + 1, s + u, by omega, rfl, by go_num, by omega, by omega, Lib.hid HSU.out.symm, ⟨_, rfl⟩⟩
      case measure => simp [intOf]; omega
    · have e : q = xs.length := by omega
      subst e
      have HE := Lib.hid (by have := HS.out; rw [List.take_of_length_le (by simp)] at this; exact this)
      go_wp2
      go_ret
      exact ⟨ret_int HE.out, ⟨_, rfl⟩⟩

theorem lt2_any (x : Bd) (t h : Int) (bt bh : Nat) (w : World) (hx : x.okay w) (ok : x.d.ok = true) (ht0 : -4000 ≤ t) (ht1 : t ≤ 4500) (hh0 : 0 ≤ h) (hh1 : h < 24) (ct : w.cell? ⟨bt, 0, none⟩ = some (.int .i64 t)) (ch : w.cell? ⟨bh, 0, none⟩ = some (.int .i64 h)) :
    Calls Try.prog 108 #[.agg #[.string x.d.id, .int .i64 x.d.nd, .int .i64 x.d.ba, .int .i64 x.d.sl, .int .i64 x.d.li, .slice x.prA x.d.pr.length x.prc], .pointer (some ⟨bt, 0, none⟩), .pointer (some ⟨bh, 0, none⟩)] w fun e w' => e = .returned (.int .i64 (loadI x.d t h)) ∧ Below w.heap.size w w' := by
  have hb : Below w.heap.size w (w.alloc (.cells #[.string x.d.id, .int .i64 x.d.nd, .int .i64 x.d.ba, .int .i64 x.d.sl, .int .i64 x.d.li, .slice x.prA x.d.pr.length x.prc] 61)) := bal (Below.refl _ _) _
  have ⟨p0, p1, p2, p3, p4, p5⟩ := BdO.new w x 61
  have lt := World.block_lt_of_cell? _ _ ct
  have lh := World.block_lt_of_cell? _ _ ch
  have ct := (hb.cell (p := ⟨bt, 0, none⟩) lt).trans ct
  have ch := (hb.cell (p := ⟨bh, 0, none⟩) lh).trans ch
  have HL := Lib.hid (fun wx (hb : Below w.heap.size w wx) => load_any x t h wx (hx.go hb).1 ok ht0 ht1 hh0 hh1)
  clear hx
  generalize loadI x.d t h = r at *
  go_enter Try.func108, Try.ntmps108
  go_wp2_with ((go_at_call 109; refine (HL.out _ hb).mono ?_; rintro e w' ⟨rfl, hb'⟩; have hb := bnext hb hb'))
  go_ret
  exact ⟨rfl, hb⟩
theorem total_any (A : Option Addr) (n c : Nat) (xs : List Bd) (t h : Int) (bt bh : Nat) (w : World) (hx : BdsOk w A n xs) (hok : (xs.map Bd.d).all Bl.ok = true) (hl : n ≤ 12) (ht0 : -4000 ≤ t) (ht1 : t ≤ 4500) (hh0 : 0 ≤ h) (hh1 : h < 24) (ct : w.cell? ⟨bt, 0, none⟩ = some (.int .i64 t)) (ch : w.cell? ⟨bh, 0, none⟩ = some (.int .i64 h)) :
    Calls Try.prog 107 #[.slice A n c, .func (.func 108) #[] #[.pointer (some ⟨bt, 0, none⟩), .pointer (some ⟨bh, 0, none⟩)]] w fun e w' => e = .returned (.int .i64 (sumI (xs.map Bd.d) t h)) ∧ Below w.heap.size w w' := by
  obtain rfl := hx.1.1
  have HB := Lib.hid hx.cells
  have HD := Lib.hid (fun (x : Bd) (hm : x ∈ xs) => (⟨hx.1.2.2.2 x hm, hx.2.2 x hm⟩ : x.okay w))
  have HBD := Lib.hid (fun k => take_sum_bd hok (by simpa using hl) t h ht0 ht1 k)
  have HLB := Lib.hid (fun (x : Bd) (ok : x.d.ok = true) => load_bd ok t ht0 ht1 h)
  have HOK := Lib.hid (fun (x : Bd) (hx : x ∈ xs) => List.all_eq_true.1 hok x.d (List.mem_map.2 ⟨x, hx, rfl⟩))
  have lt := World.block_lt_of_cell? _ _ ct
  have lh := World.block_lt_of_cell? _ _ ch
  have HL := Lib.hid (fun (x : Bd) wx (hb : Below w.heap.size w wx) (hx : x.okay wx) (ok : x.d.ok = true) => lt2_any x t h bt bh wx hx ok ht0 ht1 hh0 hh1 ((hb.cell (p := ⟨bt, 0, none⟩) lt).trans ct) ((hb.cell (p := ⟨bh, 0, none⟩) lh).trans ch))
  clear hx hok ct ch lt lh
  go_enter Try.func107, Try.ntmps107
  go_wp2
  go_loopw [5, 10] (fun v i wr => ∃ (q : Nat) (s : Int), q ≤ xs.length ∧ v = .int .i64 s ∧ i = .int .i64 q ∧ 0 ≤ s ∧ s ≤ 138000000 ∧ Hid (s = sumI ((xs.map Bd.d).take q) t h) ∧ Below w.heap.size w wr) (fun _ i _ => xs.length - (intOf i).toNat)
  case atStart => exact ⟨0, 0, Nat.zero_le _, rfl, rfl, by omega, by omega, Lib.hid rfl, Below.refl _ _⟩
  case round =>
    obtain ⟨q, s, hq, rfl, rfl, s0, s1, HS, hb⟩ := hrel
    by_cases hlq : q < xs.length
    · obtain ⟨b2, o2, rfl, hrow⟩ := BdO.at (HB.out.next hb) (by omega)
      have hp := List.getElem?_eq_getElem hlq
      have P := hrow q _ hp
      have hm := List.mem_of_getElem? hp
      have hs := Bd.okay.go (HD.out _ hm) hb
      have hk := HOK.out _ hm
      have hd : (xs.map Bd.d)[q]? = some xs[q].d := by simp [hp]
      have HT := Lib.hid (sum_take (fun d => loadI d t h) (xs.map Bd.d) q _ hd)
      have HB2 := HBD.out (q + 1)
      have hu := HLB.out _ hk
      have hsum : sumI ((xs.map Bd.d).take (q + 1)) t h = s + loadI xs[q].d t h := by rw [HS.out]; exact HT.out
      have HSU := Lib.hid hsum
      rw [hsum] at HB2
      have HC := Lib.hid (fun wx (hb2 : Below wr.heap.size wr wx) => HL.out xs[q] wx (bnext hb hb2) (hs.go hb2) hk)
      clear hs hk
      generalize xs[q] = x at *
      generalize loadI x.d t h = u at *
      have ⟨p0, p1, p2, p3, p4, p5⟩ := P
      clear hp hm hd hrow hsum
      have hbr : Below wr.heap.size wr wr := Below.refl _ _
      go_wp2_with ((go_at_call 108; refine (HC.out _ (bal hbr _)).mono ?_; rintro e w' ⟨rfl, hb'⟩; have hb2 := bnext (bal hb _) hb'))
      go_roundw
      case rel => exact ⟨q + 1, s + u, by omega, rfl, by go_num, by omega, by omega, Lib.hid HSU.out.symm, hb2⟩
      case measure => simp [intOf]; omega
    · have e : q = xs.length := by omega
      subst e
      have HE := Lib.hid (by have := HS.out; rw [List.take_of_length_le (by simp)] at this; exact this)
      go_wp2
      go_ret
      exact ⟨ret_int HE.out, hb⟩

end Go.Proofs.Ythidaoemonjemab
