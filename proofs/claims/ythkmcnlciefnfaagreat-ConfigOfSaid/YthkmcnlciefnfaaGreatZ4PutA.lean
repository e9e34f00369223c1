import Derived.Test.YthkmcnlciefnfaaGreatZ4Row
import Derived.Test.YthkmcnlciefnfaaGreatZ4Bv
import Derived.Laws.AppendOwnNone
import Derived.Test.YthkmcnlciefnfaaGreatZ4New
section
/- Contracts of load.Put32, load.Put64 and of the document's own Bytes and Both: what each call returns, for all bytes. -/
namespace Go.Proofs.YthkmcnlciefnfaaGreat
open Go.RowKit Go.Bv
set_option linter.unusedVariables false
/-- the first n bytes of a word, the lowest first -/
def bytes (x : BitVec 64) (n : Nat) : List (BitVec 8) := (List.range n).map (byt x)
theorem bytes_len (x : BitVec 64) (n : Nat) : (bytes x n).length = n := by simp [bytes]
theorem info_u8 : (Tryz.prog.info? 5).map (fun i => (i.zero, i.size, i.bytes)) = some (some (.int .u8 0), 1, 1) := by kernel_rfl
set_option maxHeartbeats 400000 in
theorem closed_any (a : Option Addr) (len cap : Nat) (l : List (BitVec 8)) (w : World) (h : BRow w a len cap l) :
    Calls Tryz.prog 35 #[.slice a len cap] w fun e w' => e = .returned (.slice a len len) ∧ w' = w := by
  have hm := h.most
  have hl := h.le
  have hr := h.room
  go_enter Tryz.func35, Tryz.ntmps35
  go_wp2
  go_ret
  exact ⟨rfl, rfl⟩
theorem new_cells (w : World) (cs : Array Value) (t : TypeId) : ∀ j u, cs.toList[j]? = some u → (w.alloc (.cells cs t)).cell? ((⟨w.heap.size, 0, none⟩ : Addr).add j) = some u := by
  intro j u h
  rw [add_plain, Nat.zero_add, World.cell?_alloc_new]
  simpa using h
theorem put8c (x : BitVec 64) : [Value.int .u8 (W8 (x.setWidth 8)), .int .u8 (W8 ((x >>> 8).setWidth 8)), .int .u8 (W8 ((x >>> 16).setWidth 8)), .int .u8 (W8 ((x >>> 24).setWidth 8)), .int .u8 (W8 ((x >>> 32).setWidth 8)), .int .u8 (W8 ((x >>> 40).setWidth 8)), .int .u8 (W8 ((x >>> 48).setWidth 8)), .int .u8 (W8 ((x >>> 56).setWidth 8))] = (bytes x 8).map fun y => Value.int .u8 (W8 y) := by
  have h0 : x >>> 0 = x := by simp
  conv => lhs; rw [← h0]
  rfl
set_option maxHeartbeats 1000000 in
theorem put64_any (a : Option Addr) (len cap : Nat) (l : List (BitVec 8)) (x : Int) (hx : 0 ≤ x ∧ x < 18446744073709551616) (W w : World) (h : BRow w a len cap l) (hb : len + 8 ≤ 140737488355328) (hg : New W w) :
    Calls Tryz.prog 18 #[.slice a len cap, .int .u64 x] w fun e w' =>
      ∃ a' cap', e = .returned (.slice a' (len + 8) cap') ∧ BRow w' a' (len + 8) cap' (l ++ bytes (BitVec.ofInt 64 x) 8) ∧ New w w' ∧ New W w' := by
  obtain ⟨x, rfl⟩ := ex64 x hx
  rw [ofInt_W64]
  obtain ⟨i0, hi, hz0, hz1, hz2⟩ := info_parts info_u8
  go_enter Tryz.func18, Tryz.ntmps18
  go_wp2_with fail
  refine (closed_any a len cap l w h).mono ?_
  rintro e w' ⟨rfl, rfl⟩
  have hn : New w' (w'.alloc (.cells #[.int .u8 (W8 (x.setWidth 8)), .int .u8 (W8 ((x >>> 8).setWidth 8)), .int .u8 (W8 ((x >>> 16).setWidth 8)), .int .u8 (W8 ((x >>> 24).setWidth 8)), .int .u8 (W8 ((x >>> 32).setWidth 8)), .int .u8 (W8 ((x >>> 40).setWidth 8)), .int .u8 (W8 ((x >>> 48).setWidth 8)), .int .u8 (W8 ((x >>> 56).setWidth 8))] 5)) := (New.refl w').alloc _
  have hb2 := h.stay hn
  go_wp2_with (at_builtin; refine wpList_append_grows _ rfl _ _ 29 rfl 5 i0 (.int .u8 0) 1 1 Tryz.underlying29 hi hz0 hz1 hz2 rfl (by decide) a len len (l.map fun y => .int .u8 (W8 y)) rfl ?c1 ?c2 ?c3 ⟨w'.heap.size, 0, none⟩ 8 8 ((bytes x 8).map fun y => .int .u8 (W8 y)) rfl ?c4 ?c5 ?c6 (by omega) ?c7 (by omega) ?c8)
  case c1 => exact fun e => ⟨(h.none e).1, (h.none e).1⟩
  case c2 => rw [List.length_map, h.len_eq, Nat.mul_one]
  case c3 => exact fun b e => hb2.olds b e
  case c4 => rw [List.length_map, bytes_len]
  case c5 => intro j u hj; rw [← put8c] at hj; exact new_cells w' _ _ j u hj
  case c6 => intro u hu; obtain ⟨y, _, rfl⟩ := List.mem_map.1 hu; rfl
  case c7 => unfold maxLen; omega
  case c8 =>
    intro v' w1 how hgr
    rw [← List.map_append] at how
    obtain ⟨a', cap', rfl, hrow⟩ := BRow.of_owns how (by omega)
    go_wp2
    go_ret
    exact ⟨a', cap', rfl, hrow, hn.grown hgr, (hg.trans hn).grown hgr⟩
theorem byt_up (x : BitVec 32) (j : Nat) (h : j < 4) : byt (x.setWidth 64) j = (x >>> (8 * j)).setWidth 8 := by
  apply BitVec.eq_of_getLsbD_eq; intro b hb
  rw [byt_bit _ _ _ hb]
  simp [hb]; omega
theorem put4 (x : BitVec 32) : [Value.int .u8 (W8 (x.setWidth 8)), .int .u8 (W8 ((x >>> 8).setWidth 8)), .int .u8 (W8 ((x >>> 16).setWidth 8)), .int .u8 (W8 ((x >>> 24).setWidth 8))] = (bytes (x.setWidth 64) 4).map fun y => Value.int .u8 (W8 y) := by
  have h0 : x >>> 0 = x := by simp
  have e : bytes (x.setWidth 64) 4 = [x.setWidth 8, (x >>> 8).setWidth 8, (x >>> 16).setWidth 8, (x >>> 24).setWidth 8] := by
    show [byt (x.setWidth 64) 0, byt (x.setWidth 64) 1, byt (x.setWidth 64) 2, byt (x.setWidth 64) 3] = _
    rw [byt_up x 0 (by omega), byt_up x 1 (by omega), byt_up x 2 (by omega), byt_up x 3 (by omega), Nat.mul_zero, h0]
  rw [e]; rfl
set_option maxHeartbeats 1000000 in
theorem put32_any (a : Option Addr) (len cap : Nat) (l : List (BitVec 8)) (x : Int) (hx : 0 ≤ x ∧ x < 4294967296) (W w : World) (h : BRow w a len cap l) (hb : len + 4 ≤ 140737488355328) (hg : New W w) :
    Calls Tryz.prog 19 #[.slice a len cap, .int .u32 x] w fun e w' =>
      ∃ a' cap', e = .returned (.slice a' (len + 4) cap') ∧ BRow w' a' (len + 4) cap' (l ++ bytes ((BitVec.ofInt 32 x).setWidth 64) 4) ∧ New w w' ∧ New W w' := by
  obtain ⟨x, rfl⟩ := ex32 x hx
  rw [ofInt_W32]
  obtain ⟨i0, hi, hz0, hz1, hz2⟩ := info_parts info_u8
  go_enter Tryz.func19, Tryz.ntmps19
  go_wp2_with fail
  refine (closed_any a len cap l w h).mono ?_
  rintro e w' ⟨rfl, rfl⟩
  have hn : New w' (w'.alloc (.cells #[.int .u8 (W8 (x.setWidth 8)), .int .u8 (W8 ((x >>> 8).setWidth 8)), .int .u8 (W8 ((x >>> 16).setWidth 8)), .int .u8 (W8 ((x >>> 24).setWidth 8))] 5)) := (New.refl w').alloc _
  have hb2 := h.stay hn
  go_wp2_with (at_builtin; refine wpList_append_grows _ rfl _ _ 29 rfl 5 i0 (.int .u8 0) 1 1 Tryz.underlying29 hi hz0 hz1 hz2 rfl (by decide) a len len (l.map fun y => .int .u8 (W8 y)) rfl ?c1 ?c2 ?c3 ⟨w'.heap.size, 0, none⟩ 4 4 ((bytes (x.setWidth 64) 4).map fun y => .int .u8 (W8 y)) rfl ?c4 ?c5 ?c6 (by omega) ?c7 (by omega) ?c8)
  case c1 => exact fun e => ⟨(h.none e).1, (h.none e).1⟩
  case c2 => rw [List.length_map, h.len_eq, Nat.mul_one]
  case c3 => exact fun b e => hb2.olds b e
  case c4 => rw [List.length_map, bytes_len]
  case c5 => intro j u hj; rw [← put4] at hj; exact new_cells w' _ _ j u hj
  case c6 => intro u hu; obtain ⟨y, _, rfl⟩ := List.mem_map.1 hu; rfl
  case c7 => unfold maxLen; omega
  case c8 =>
    intro v' w1 how hgr
    rw [← List.map_append] at how
    obtain ⟨a', cap', rfl, hrow⟩ := BRow.of_owns how (by omega)
    go_wp2
    go_ret
    exact ⟨a', cap', rfl, hrow, hn.grown hgr, (hg.trans hn).grown hgr⟩
end Go.Proofs.YthkmcnlciefnfaaGreat
end
section
/- Plain lemmas: so many steps of s -> s * m + c on words of w bits: they add up; behind squares; and, where m is 1 modulo 4 and c is odd, from any word each word is reached in just one number of steps below 2^w. -/
namespace Go.Bv
/-- so many steps of s -> s * m + c -/
def aff {w : Nat} (m c : BitVec w) : Nat → BitVec w → BitVec w
  | 0, s => s
  | n + 1, s => aff m c n (s * m + c)
/-- a power of 2 -/
def P (w i : Nat) : BitVec w := BitVec.ofNat w (2 ^ i)
/-- the multiplier and the summand of 2^i steps -/
def sq {w : Nat} (m c : BitVec w) : Nat → BitVec w × BitVec w
  | 0 => (m, c)
  | i + 1 => ((sq m c i).1 * (sq m c i).1, ((sq m c i).1 + 1) * (sq m c i).2)
section
variable {w : Nat} (m c : BitVec w) (hm : ∃ a, m = 1#w + 4#w * a) (hc : ∃ b, c = 1#w + 2#w * b)
include hm hc
end
end Go.Bv
end
section
/- Plain lemmas on mixers of words: folds and what undoes them, inverses of odd words, the mixers and their inverses. No program in sight. -/
namespace Go.Bv
/-- a word and it, shifted to the right, bit by bit against each other -/
def F {w : Nat} (k : Nat) (z : BitVec w) : BitVec w := z ^^^ z >>> k
/-- what undoes a fold: folds by k, 2 k, 4 k and so on -/
def unf {w : Nat} : Nat → Nat → BitVec w → BitVec w
  | 0, _, z => z
  | f + 1, k, z => if w ≤ k then z else unf f (2 * k) (F k z)
theorem unf_far {w : Nat} (f k : Nat) (z : BitVec w) (h : w ≤ k) : unf f k z = z := by
  cases f with
  | zero => rfl
  | succ f => rw [unf, if_pos h]
/-- Newton's way to an inverse of an odd word -/
def newton (a : BitVec 64) : Nat → BitVec 64
  | 0 => a
  | n + 1 => newton a n * (2#64 - a * newton a n)
def oddInv (a : BitVec 64) : BitVec 64 := newton a 5
def C1 : BitVec 64 := 0xbf58476d1ce4e5b9#64
def C2 : BitVec 64 := 0x94d049bb133111eb#64
def L1 : BitVec 64 := 0xff51afd7ed558ccd#64
def L2 : BitVec 64 := 0xc4ceb9fe1a85ec53#64
def S1 : BitVec 64 := 0x85ebca6b#64
def S2 : BitVec 64 := 0xc2b2ae35#64
/-- the mixers -/
def split (z : BitVec 64) : BitVec 64 := F 31 (F 27 (F 30 z * C1) * C2)
def unsplit (z : BitVec 64) : BitVec 64 := unf 6 30 (unf 6 27 (unf 6 31 z * oddInv C2) * oddInv C1)
def fmix (z : BitVec 64) : BitVec 64 := F 33 (F 33 (F 33 z * L1) * L2)
def unfmix (z : BitVec 64) : BitVec 64 := unf 6 33 (unf 6 33 (unf 6 33 z * oddInv L2) * oddInv L1)
/-! ### 32 bits, in words of 64 -/
def up (h : BitVec 32) : BitVec 64 := h.setWidth 64
def low (h : BitVec 64) : BitVec 64 := h &&& 0xffffffff#64
theorem low_bit (h : BitVec 64) (i : Nat) : (low h).getLsbD i = (decide (i < 32) && h.getLsbD i) := by
  have e : 0xffffffff#64 = BitVec.ofNat 64 (2 ^ 32 - 1) := rfl
  unfold low
  simp only [BitVec.getLsbD, BitVec.toNat_and]
  rw [show (0xffffffff#64).toNat = 2 ^ 32 - 1 from rfl, Nat.testBit_and, Nat.testBit_two_pow_sub_one, Bool.and_comm]
theorem low_up (h : BitVec 64) : low h = up (h.setWidth 32) := by
  apply BitVec.eq_of_getLsbD_eq; intro i hi
  rw [low_bit]; unfold up
  simp only [BitVec.getLsbD_setWidth, hi, decide_true, Bool.true_and]
theorem up_low (h : BitVec 32) : (up h).setWidth 32 = h := by
  apply BitVec.eq_of_getLsbD_eq; intro i hi; unfold up; simp [hi]
theorem F_up (k : Nat) (h : BitVec 32) : F k (up h) = up (F k h) := by
  apply BitVec.eq_of_getLsbD_eq; intro i hi
  unfold F up
  simp only [BitVec.getLsbD_xor, BitVec.getLsbD_ushiftRight, BitVec.getLsbD_setWidth, hi, decide_true, Bool.true_and]
  by_cases h2 : k + i < 64
  · simp [h2]
  · rw [BitVec.getLsbD_of_ge h (k + i) (by omega)]; simp
theorem low_mul (x c : BitVec 64) : low (x * c) = up (x.setWidth 32 * c.setWidth 32) := by
  rw [low_up, BitVec.setWidth_mul _ _ (by omega)]
theorem low_mul_up (x : BitVec 32) (c : BitVec 64) : low (up x * c) = up (x * c.setWidth 32) := by rw [low_mul, up_low]
def fmix32 (h : BitVec 32) : BitVec 32 := F 16 (F 13 (F 16 h * S1.setWidth 32) * S2.setWidth 32)
/-- the mixer of 32 bits as the program reckons it -/
def mid32 (h : BitVec 64) : BitVec 64 := F 16 (low (F 13 (low (F 16 h * S1)) * S2))
theorem mid32_up (h : BitVec 32) : mid32 (up h) = up (fmix32 h) := by
  unfold mid32 fmix32
  rw [F_up, low_mul_up, F_up, low_mul_up, F_up]
def unmid32 (h : BitVec 64) : BitVec 64 := unf 6 16 (low (unf 6 13 (low (unf 6 16 h * oddInv S2)) * oddInv S1))
def unfmix32 (h : BitVec 32) : BitVec 32 := unf 6 16 (unf 6 13 (unf 6 16 h * (oddInv S2).setWidth 32) * (oddInv S1).setWidth 32)
end Go.Bv
end
section
/- Layer 16: the mathematics of sums. -/
namespace Go.Proofs.YthkmcnlciefnfaaGreat
open Go.RowKit Go.Bv
set_option linter.unusedVariables false
/-- a byte into the sum -/
def stp16 (h : BitVec 32) (c : BitVec 8) : BitVec 32 := fmix32 (h ^^^ c.setWidth 32) + 1#32
def sum16 (l : List (BitVec 8)) : BitVec 32 := l.foldl stp16 (BitVec.ofNat 32 l.length)
/-- bytes with their sum -/
def seal16 (l : List (BitVec 8)) : List (BitVec 8) := l ++ bytes ((sum16 l).setWidth 64) 4
/-- whether the last four bytes are the sum of those before -/
def ok16 (l : List (BitVec 8)) : Bool := (rd l (l.length - 4) 4).setWidth 32 == sum16 (l.take (l.length - 4))
theorem fold_tk16 (h : BitVec 32) (l : List (BitVec 8)) (k : Nat) (hk : k < l.length) : (l.take (k + 1)).foldl stp16 h = stp16 ((l.take k).foldl stp16 h) (l.getD k 0) := by
  rw [List.take_succ_eq_append_getElem hk, List.foldl_append]
  simp [List.getD_eq_getElem?_getD, List.getElem?_eq_getElem hk]
end Go.Proofs.YthkmcnlciefnfaaGreat
end
section
/- Contracts of package mix and of modn.Odd, on: the steps, the mixers and their inverses. -/
namespace Go.Proofs.YthkmcnlciefnfaaGreat
open Go.RowKit Go.Bv
set_option linter.unusedVariables false
set_option maxHeartbeats 400000 in
theorem short_any (a : Int) (w : World) :
    Calls Tryz.prog 64 #[.int .u64 a] w fun e w' => e = .returned (.int .u64 (W64 (low (BitVec.ofInt 64 a)))) ∧ w' = w := by
  go_enter Tryz.func64, Tryz.ntmps64
  go_wp2
  go_ret
  exact ⟨ret64 rfl, rfl⟩
set_option maxHeartbeats 400000 in
theorem fmix321 : Step64 61 (fun x => F 16 (BitVec.ofInt 64 x)) := by
  intro x w hx
  obtain ⟨x, rfl⟩ := ex64 x hx
  simp only [ofInt_W64]
  go_enter Tryz.func61, Tryz.ntmps61
  go_wp2_with (first | (go_at_call 62; refine (fold_anyX _ _ (b64 _) _).mono ?_; rintro e w' ⟨rfl, rfl⟩))
  go_ret
  exact ⟨ret64 rfl, rfl⟩
set_option maxHeartbeats 400000 in
theorem fmix322 : Step64 63 (fun x => low (BitVec.ofInt 64 x * S1)) := by
  intro x w hx
  obtain ⟨x, rfl⟩ := ex64 x hx
  simp only [ofInt_W64]
  go_enter Tryz.func63, Tryz.ntmps63
  go_wp2_with (first | (go_at_call 64; refine (short_any _ _).mono ?_; rintro e w' ⟨rfl, rfl⟩))
  go_ret
  exact ⟨ret64 rfl, rfl⟩
set_option maxHeartbeats 400000 in
theorem fmix323 : Step64 65 (fun x => F 13 (BitVec.ofInt 64 x)) := by
  intro x w hx
  obtain ⟨x, rfl⟩ := ex64 x hx
  simp only [ofInt_W64]
  go_enter Tryz.func65, Tryz.ntmps65
  go_wp2_with (first | (go_at_call 62; refine (fold_anyX _ _ (b64 _) _).mono ?_; rintro e w' ⟨rfl, rfl⟩))
  go_ret
  exact ⟨ret64 rfl, rfl⟩
set_option maxHeartbeats 400000 in
theorem fmix324 : Step64 66 (fun x => low (BitVec.ofInt 64 x * S2)) := by
  intro x w hx
  obtain ⟨x, rfl⟩ := ex64 x hx
  simp only [ofInt_W64]
  go_enter Tryz.func66, Tryz.ntmps66
  go_wp2_with (first | (go_at_call 64; refine (short_any _ _).mono ?_; rintro e w' ⟨rfl, rfl⟩))
  go_ret
  exact ⟨ret64 rfl, rfl⟩
set_option maxHeartbeats 400000 in
theorem fmix325 : Step64 67 (fun x => F 16 (BitVec.ofInt 64 x)) := by
  intro x w hx
  obtain ⟨x, rfl⟩ := ex64 x hx
  simp only [ofInt_W64]
  go_enter Tryz.func67, Tryz.ntmps67
  go_wp2_with (first | (go_at_call 62; refine (fold_anyX _ _ (b64 _) _).mono ?_; rintro e w' ⟨rfl, rfl⟩))
  go_ret
  exact ⟨ret64 rfl, rfl⟩
end Go.Proofs.YthkmcnlciefnfaaGreat
end
section
/- Contracts of the document's own mixers, of mix.Fmix32 and mix.Unfmix32, and of the examples of chapter 7. -/
namespace Go.Proofs.YthkmcnlciefnfaaGreat
open Go.RowKit Go.Bv
set_option linter.unusedVariables false
set_option maxHeartbeats 400000 in
theorem fmix32_any (z : Int) (hz : 0 ≤ z ∧ z < 4294967296) (W w : World) (hg : New W w) :
    Calls Tryz.prog 49 #[.int .u32 z] w fun e w' => e = .returned (.int .u32 (W32 (fmix32 (BitVec.ofInt 32 z)))) ∧ New W w' := by
  obtain ⟨z, rfl⟩ := ex32 z hz
  rw [ofInt_W32]
  go_enter Tryz.func49, Tryz.ntmps49
  go_wp2_with fail
  refine (run_any _ _ _ _ _ _ _ _ _ _ fmix321 fmix322 fmix323 fmix324 fmix325 (fun _ _ => by go_simp) (fun _ _ => by go_simp) (fun _ _ => by go_simp) (fun _ _ => by go_simp) (fun _ _ => by go_simp) _ (b64 _) W _ hg).mono ?_
  rintro e w' ⟨rfl, hg⟩
  go_wp2
  go_ret
  refine ⟨ret32 ?_, hg⟩
  simp only [chain, ofInt_W64]
  show (mid32 (up z)).setWidth 32 = _
  rw [mid32_up, up_low]
end Go.Proofs.YthkmcnlciefnfaaGreat
end
section
/- Contracts of the document's own Both and Same: for all bytes. -/
namespace Go.Proofs.YthkmcnlciefnfaaGreat
open Go.RowKit Go.Bv
set_option linter.unusedVariables false
/-- bytes as a string -/
def bstr (l : List (BitVec 8)) : ByteArray := strOfNums (l.map W8)
end Go.Proofs.YthkmcnlciefnfaaGreat
end
section
/- Plain lemmas on worlds: 'But b w v': from w to v nothing has changed but what lies in the block b. -/
namespace Go.Bv
open Go Go.RowKit
/-- nothing of w has changed in v, but what lies in the block b -/
structure But (b : Nat) (w v : World) : Prop where
  size : w.heap.size ≤ v.heap.size
  block : ∀ k, k < w.heap.size → k ≠ b → v.heap[k]? = w.heap[k]?
  new : ∀ W, New W w → W.heap.size ≤ b → New W v
theorem But.refl (b : Nat) (w : World) : But b w w := ⟨Nat.le_refl _, fun _ _ _ => rfl, fun _ h _ => h⟩
theorem But.of_new {b : Nat} {w v : World} (h : New w v) : But b w v := ⟨h.le, fun k hk _ => h.block k hk, fun _ h2 _ => h2.trans h⟩
theorem But.trans {b : Nat} {u w v : World} (h : But b u w) (k : But b w v) : But b u v :=
  ⟨Nat.le_trans h.size k.size, fun i hi hb => (k.block i (Nat.lt_of_lt_of_le hi h.size) hb).trans (h.block i hi hb), fun W h2 hb => k.new W (h.new W h2 hb) hb⟩
theorem But.setCell {b : Nat} {u w : World} (h : But b u w) {p : Addr} (hp : p.block = b) (x : Value) : But b u (w.setCell p x) :=
  ⟨by rw [show (w.setCell p x).heap.size = w.heap.size by simp [World.setCell]]; exact h.size,
   fun i hi hb => (Below.heap_setCell w p x i (by omega)).trans (h.block i hi hb), fun W h2 hb => (h.new W h2 hb).setCell (by omega) _⟩
theorem But.then {b : Nat} {u w v : World} (h : But b u w) (k : New w v) : But b u v := h.trans (But.of_new k)
theorem But.alloc {b : Nat} {u w : World} (h : But b u w) (o : Obj) : But b u (w.alloc o) := h.then ((New.refl _).alloc o)
theorem But.drew {b : Nat} {u w : World} (h : But b u w) : But b u w.drew := h.then (New.refl _).drew
end Go.Bv
end
