import Derived.Test.YtdjlbpgjbgepdaaGreatProg
import Derived.Test.YtdjlbpgjbgepdaaGreatRowI
import Derived.Deep.OwnRows
import Derived.OneCell
import Derived.Deep.QuietTactic
import Derived.BigQuiet
import Derived.Handy
import Derived.Test.YtdjlbpgjbgepdaaGreatWidA
import Derived.Deep.RegionLaw
import Derived.Deep.RegionWith
import Derived.Deep.AppendLies
section
/- Numbers as lists of bits; contracts of the document's own Of, at, Word: for all words. -/
namespace Go.Bv
open Go Go.RowKit
set_option linter.unusedVariables false
set_option maxRecDepth 100000
/-- a number's bit -/
def bt (N i : Nat) : Int := ((N / 2 ^ i % 2 : Nat) : Int)
theorem bt_lt (N i : Nat) : 0 ≤ bt N i ∧ bt N i ≤ 1 := by unfold bt; omega
theorem bt_high {N i : Nat} (h : N < 2 ^ i) : bt N i = 0 := by unfold bt; rw [Nat.div_eq_of_lt h]; rfl
/-- a number's bits, the lowest first -/
def bitsOf (N n : Nat) : List Int := (List.range n).map (bt N)
theorem bitsOf_len (N n : Nat) : (bitsOf N n).length = n := by simp [bitsOf]
theorem bitsOf_at {N n i : Nat} (h : i < n) : (bitsOf N n).getD i 0 = bt N i := by
  unfold bitsOf; rw [List.getD_eq_getElem?_getD, List.getElem?_map, List.getElem?_range h]; rfl
theorem bitsOf_succ (N n : Nat) : bitsOf N (n + 1) = bitsOf N n ++ [bt N n] := by
  unfold bitsOf; rw [List.range_succ, List.map_append]; rfl
theorem bitsOf_wf (N n : Nat) : ∀ z ∈ bitsOf N n, In64 z := by
  intro z hz
  obtain ⟨i, _, rfl⟩ := List.mem_map.1 hz
  have := bt_lt N i
  unfold In64; omega
/-- a bit at any place; 0 where there is none -/
def btI (N : Nat) (i : Int) : Int := if i < 0 then 0 else bt N i.toNat
theorem btI_nat (N i : Nat) : btI N (i : Int) = bt N i := by unfold btI; rw [if_neg (by omega)]; rfl
theorem bt_step (N i : Nat) : N / 2 ^ i = 2 * (N / 2 ^ (i + 1)) + N / 2 ^ i % 2 := by
  rw [Nat.pow_succ, ← Nat.div_div_eq_div_mul]; omega
end Go.Bv
namespace Go.Proofs.YtdjlbpgjbgepdaaGreat
open Go.RowKit Go.Bv
set_option linter.unusedVariables false
theorem info_int : (Tryz.prog.info? 3).map (fun i => (i.zero, i.size, i.bytes)) = some (some (.int .i64 0), 1, 8) := by kernel_rfl
theorem new_cells_z (w : World) (cs : Array Value) (t : TypeId) : ∀ j u, cs.toList[j]? = some u → (w.alloc (.cells cs t)).cell? ((⟨w.heap.size, 0, none⟩ : Addr).add j) = some u := by
  intro j u h
  rw [add_plain, Nat.zero_add, World.cell?_alloc_new]
  simpa using h
theorem own_keep {w w' : World} {base : Nat} {e : TypeId} {size : Nat} {v : Value} {n : Nat} {xs : List Value} (h : w.ownsRow base e size v n xs) (hn : New w w') : w'.ownsRow base e size v n xs := by
  obtain ⟨hl, h⟩ := h
  refine ⟨hl, ?_⟩
  rcases h with h | ⟨g, cap, cur, hv, hb, hc, h2⟩
  · exact Or.inl h
  · exact Or.inr ⟨g, cap, cur, hv, hb, by rw [hn.block _ (lt_of_block hc)]; exact hc, h2⟩
set_option maxHeartbeats 1000000 in
theorem at_any (N n c : Nat) (a : Option Addr) (i : Int) (w : World) (hr : ZRow w a n c (bitsOf N n)) (hN : N < 2 ^ n) :
    Calls Tryz.prog 121 #[.slice a n c, .int .i64 i] w fun e w' => e = .returned (.int .i64 (btI N i)) ∧ w' = w := by
  have hm := hr.most
  by_cases h0 : i < 0
  · have HE : Hid (btI N i = 0) := Lib.hid (by unfold btI; rw [if_pos h0])
    go_enter Tryz.func121, Tryz.ntmps121
    go_wp2
    go_ret
    rw [HE.out]; exact ⟨rfl, rfl⟩
  · obtain ⟨k, rfl⟩ : ∃ k : Nat, i = (k : Int) := ⟨i.toNat, by omega⟩
    by_cases h1 : (n : Int) ≤ (k : Int)
    · have HE : Hid (btI N (k : Int) = 0) := Lib.hid (by
        rw [btI_nat]; exact bt_high (Nat.lt_of_lt_of_le hN (Nat.pow_le_pow_right (by omega) (by omega))))
      go_enter Tryz.func121, Tryz.ntmps121
      go_wp2
      go_ret
      rw [HE.out]; exact ⟨rfl, rfl⟩
    · obtain ⟨b, off, rfl, hc⟩ := hr.addr (by omega)
      have c1 := hc k (by omega)
      rw [bitsOf_at (by omega)] at c1
      have HE : Hid (btI N (k : Int) = bt N k) := Lib.hid (btI_nat N k)
      clear hc
      go_enter Tryz.func121, Tryz.ntmps121
      go_wp2
      go_ret
      rw [HE.out]; exact ⟨rfl, rfl⟩
set_option maxHeartbeats 1000000 in
theorem of_own (x : BitVec 64) (n : Int) (m : Nat) (hm : m ≤ 4096) (hnm : n = (m : Int)) (w : World) :
    Calls Tryz.prog 68 #[.int .u64 (W64 x), .int .i64 n] w fun e w' =>
      ∃ v, e = .returned v ∧ w'.ownsRow w.heap.size 3 1 v m ((bitsOf x.toNat m).map fun y => .int .i64 y) ∧ New w w' := by
  subst hnm
  obtain ⟨i0, hi, hz0, hz1, hz2⟩ := info_parts info_int
  go_enter Tryz.func68, Tryz.ntmps68
  go_wp2
  go_loopw [5, 6] (fun v i wr => ∃ k : Nat, k ≤ m ∧ i = .int .i64 k ∧ wr.ownsRow w.heap.size 3 1 v k ((bitsOf x.toNat k).map fun y => .int .i64 y) ∧ New w wr) (fun _ i _ => m - (intOf i).toNat)
  case atStart => exact ⟨0, by omega, rfl, World.ownsRow_nil w _ _ 1, New.refl w⟩
  case round =>
    obtain ⟨k, hk, rfl, hown, hnew⟩ := hrel
    by_cases hlt : (k : Int) < m
    · by_cases h64 : (k : Int) < 64
      · have hs : N64 (BitVec.ofNat 64 k) = k := by show (BitVec.ofNat 64 k).toNat = k; rw [BitVec.toNat_ofNat]; exact Nat.mod_eq_of_lt (by omega)
        have hk0 : 0 ≤ (k : Int) := by omega
        have e6 : wrap64 (W64 (x >>> k % 2#64)) = bt x.toNat k := by
          have e : W64 (x >>> k % 2#64) = bt x.toNat k := by
            unfold W64 bt; rw [BitVec.toNat_umod, BitVec.toNat_ushiftRight, Nat.shiftRight_eq_div_pow]; rfl
          have := bt_lt x.toNat k
          rw [e]; unfold wrap64; omega
        go_wp2_with (at_builtin; refine wpList_append_own _ rfl _ _ 78 rfl w.heap.size 3 i0 (.int .i64 0) 1 8 Tryz.underlying78 hi hz0 hz1 hz2 rfl (by decide) _ k _ rfl (hown.alloc _) ⟨wr.heap.size, 0, none⟩ 1 1 [.int .i64 (bt x.toNat k)] rfl rfl ?c1 ?c2 ?c3 ?c4 ?c5 ?_)
        case c1 => exact new_cells_z wr _ _
        case c2 => intro u hu; simp at hu; subst hu; rfl
        case c3 => unfold maxLen; omega
        case c4 => omega
        case c5 => simp; have := hnew.le; omega
        intro v' w1 how hgr _
        have how2 : w1.ownsRow w.heap.size 3 1 v' (k + 1) ((bitsOf x.toNat (k + 1)).map fun y => .int .i64 y) := by
          rw [bitsOf_succ, List.map_append]; exact how
        have hn1 : New w w1 := (hnew.alloc _).grown' hgr (own_base hown)
        clear how hgr
        go_wp2
        exact ⟨⟨k + 1, by omega, by go_num, how2, hn1⟩, by simp [intOf]; omega⟩
      · have HZ : Hid (bt x.toNat k = 0) := Lib.hid (bt_high (Nat.lt_of_lt_of_le x.isLt (Nat.pow_le_pow_right (by omega) (by omega))))
        go_wp2_with (at_builtin; refine wpList_append_own _ rfl _ _ 78 rfl w.heap.size 3 i0 (.int .i64 0) 1 8 Tryz.underlying78 hi hz0 hz1 hz2 rfl (by decide) _ k _ rfl (hown.alloc _) ⟨wr.heap.size, 0, none⟩ 1 1 [.int .i64 0] rfl rfl ?c1 ?c2 ?c3 ?c4 ?c5 ?_)
        case c2 => rfl
        case c3 => unfold maxLen; omega
        case c4 => omega
        case c5 => have := hnew.le; omega
        intro v' w1 how hgr _
        have how2 : w1.ownsRow w.heap.size 3 1 v' (k + 1) ((bitsOf x.toNat (k + 1)).map fun y => .int .i64 y) := by
          rw [bitsOf_succ, List.map_append]
          show w1.ownsRow _ _ _ _ _ (_ ++ [.int .i64 (bt x.toNat k)])
          rw [HZ.out]; exact how
        have hn1 : New w w1 := (hnew.alloc _).grown' hgr (own_base hown)
        clear how hgr
        go_wp2
        exact ⟨⟨k + 1, by omega, by go_num, how2, hn1⟩, by simp [intOf]; omega⟩
    · obtain rfl : k = m := by omega
      go_wp2
      go_ret
      exact ⟨_, rfl, hown, hnew⟩
set_option maxHeartbeats 1000000 in
theorem word_any (N n c f : Nat) (a : Option Addr) (w : World) (hr : ZRow w a n c (bitsOf N n)) (hN : N < 2 ^ n) (hf : f ≤ 4096) :
    Calls Tryz.prog 72 #[.slice a n c, .int .i64 f] w fun e w' => e = .returned (.int .u64 (W64 (BitVec.ofNat 64 (N / 2 ^ f)))) ∧ w' = w := by
  have hm := hr.most
  have HST : Hid (BitVec.ofNat 64 (N / 2 ^ f / 2 ^ 64 * 2 ^ 64 / 2 ^ 64) = BitVec.ofNat 64 (N / 2 ^ f / 2 ^ 64)) := Lib.hid (by rw [Nat.mul_div_cancel _ (Nat.two_pow_pos 64)])
  have H0 : Hid (W64 0#64 = 0) := Lib.hid (W64_lit 0 (by omega))
  have HEND : Hid (∀ o : BitVec 64, o = BitVec.ofNat 64 (N / 2 ^ (f + 0)) - BitVec.ofNat 64 (N / 2 ^ (f + 64)) * BitVec.ofNat 64 (2 ^ 64) → o = BitVec.ofNat 64 (N / 2 ^ f)) := Lib.hid (by
    intro o h
    rw [h, show BitVec.ofNat 64 (2 ^ 64) = 0#64 from rfl, BitVec.mul_zero, BitVec.sub_zero, Nat.add_zero])
  go_enter Tryz.func72, Tryz.ntmps72
  go_wp2
  go_loop [5, 6] (fun O I => ∃ (o : BitVec 64) (j : Nat), j ≤ 64 ∧ I = .int .i64 ((j : Int) - 1) ∧ O = .int .u64 (W64 o) ∧ Hid (o = BitVec.ofNat 64 (N / 2 ^ (f + j)) - BitVec.ofNat 64 (N / 2 ^ (f + 64)) * BitVec.ofNat 64 (2 ^ (64 - j)))) (fun _ I => (intOf I + 1).toNat)
  case atStart => exact ⟨0#64, 64, by omega, rfl, congrArg (Value.int .u64) H0.out.symm, Lib.hid (by rw [show 64 - 64 = 0 by omega, Nat.pow_zero, show BitVec.ofNat 64 1 = 1#64 from rfl, BitVec.mul_one, BitVec.sub_self])⟩
  case round =>
    obtain ⟨o, j, hj, rfl, rfl, H⟩ := hrel
    by_cases h0 : j = 0
    · subst h0
      have HE : Hid (o = BitVec.ofNat 64 (N / 2 ^ f)) := Lib.hid (HEND.out o H.out)
      clear H
      go_wp2
      go_ret
      rw [HE.out]
      exact ⟨rfl, rfl⟩
    · obtain ⟨m, rfl⟩ : ∃ m, j = m + 1 := ⟨j - 1, by omega⟩
      have ei : ((m + 1 : Nat) : Int) - 1 = (m : Int) := by omega
      rw [ei]
      have hw1 : wrap64 ((m : Int) - 1) = (m : Int) - 1 := by unfold wrap64; omega
      have hw2 : wrap64 ((f : Int) + (m : Int)) = (f : Int) + (m : Int) := by unfold wrap64; omega
      have hstep : ∀ b : BitVec 64, b = BitVec.ofNat 64 (N / 2 ^ (f + m) % 2) → o * 2#64 + b = BitVec.ofNat 64 (N / 2 ^ (f + m)) - BitVec.ofNat 64 (N / 2 ^ (f + 64)) * BitVec.ofNat 64 (2 ^ (64 - m)) := by
        intro b hb
        rw [H.out, hb]
        have e1 : BitVec.ofNat 64 (N / 2 ^ (f + m)) = BitVec.ofNat 64 (N / 2 ^ (f + (m + 1))) * 2#64 + BitVec.ofNat 64 (N / 2 ^ (f + m) % 2) := by
          conv => lhs; rw [bt_step N (f + m)]
          rw [BitVec.ofNat_add, BitVec.ofNat_mul, BitVec.mul_comm]; rfl
        have e2 : BitVec.ofNat 64 (2 ^ (64 - m)) = BitVec.ofNat 64 (2 ^ (64 - (m + 1))) * 2#64 := by
          rw [show 64 - m = 64 - (m + 1) + 1 by omega, Nat.pow_succ, BitVec.ofNat_mul]
        rw [e1, e2]
        generalize BitVec.ofNat 64 (N / 2 ^ (f + (m + 1))) = p
        generalize BitVec.ofNat 64 (N / 2 ^ (f + m) % 2) = q
        generalize BitVec.ofNat 64 (N / 2 ^ (f + 64)) = r
        generalize BitVec.ofNat 64 (2 ^ (64 - (m + 1))) = s
        grind
      have HM : Hid (((m : Int) - 1 + 1).toNat < ((m : Int) + 1).toNat) := Lib.hid (by omega)
      by_cases hin : (f : Int) + (m : Int) < (n : Int)
      · obtain ⟨b, off, rfl, hc⟩ := hr.addr (by omega)
        have c1 := hc (f + m) (by omega)
        rw [bitsOf_at (by omega)] at c1
        have ht : ((f : Int) + (m : Int)).toNat = f + m := by omega
        have HG := Lib.hid (hstep (BitVec.ofInt 64 (bt N (f + m))) (by
          unfold bt; apply BitVec.eq_of_toNat_eq; rw [BitVec.toNat_ofInt, BitVec.toNat_ofNat]; omega))
        clear hc hstep H
        generalize bt N (f + m) = z at c1 HG
        go_wp2
        exact ⟨⟨_, m, by omega, rfl, rfl, HG⟩, by simp [intOf]⟩
      · have HG := Lib.hid (hstep 0#64 (by
          have : N / 2 ^ (f + m) = 0 := Nat.div_eq_of_lt (Nat.lt_of_lt_of_le hN (Nat.pow_le_pow_right (by omega) (by omega)))
          rw [this]))
        rw [BitVec.add_zero] at HG
        clear hstep H
        go_wp2
        exact ⟨⟨_, m, by omega, rfl, rfl, HG⟩, by simp [intOf]⟩
end Go.Proofs.YtdjlbpgjbgepdaaGreat
end
section
/- Contracts of the document's own Add, Sub, Shl, Cmp and To2 of numbers as lists of bits. -/
namespace Go.Bv
open Go Go.RowKit
set_option linter.unusedVariables false
set_option maxRecDepth 100000
/-- what is carried from the lowest bits of a sum -/
def cy (A B k : Nat) : Nat := (A % 2 ^ k + B % 2 ^ k) / 2 ^ k
theorem cy_zero (A B : Nat) : cy A B 0 = 0 := by unfold cy; simp [Nat.mod_one]
theorem cy_le (A B k : Nat) : cy A B k ≤ 1 := by
  unfold cy
  have h1 := Nat.mod_lt A (Nat.two_pow_pos k)
  have h2 := Nat.mod_lt B (Nat.two_pow_pos k)
  have : (A % 2 ^ k + B % 2 ^ k) / 2 ^ k < 2 := by rw [Nat.div_lt_iff_lt_mul (Nat.two_pow_pos k)]; omega
  omega
theorem mod_bit (A k : Nat) : A % 2 ^ (k + 1) = A % 2 ^ k + 2 ^ k * (A / 2 ^ k % 2) := by rw [Nat.pow_succ, Nat.mod_mul]
theorem cy_succ (A B k : Nat) : cy A B (k + 1) = (A / 2 ^ k % 2 + B / 2 ^ k % 2 + cy A B k) / 2 := by
  unfold cy
  rw [mod_bit A k, mod_bit B k, Nat.pow_succ, ← Nat.div_div_eq_div_mul]
  congr 1
  generalize A / 2 ^ k % 2 = p
  generalize B / 2 ^ k % 2 = q
  rw [show A % 2 ^ k + 2 ^ k * p + (B % 2 ^ k + 2 ^ k * q) = 2 ^ k * (p + q) + (A % 2 ^ k + B % 2 ^ k) by rw [Nat.mul_add]; omega]
  exact Nat.mul_add_div (Nat.two_pow_pos k) _ _
theorem add_bit (A B k : Nat) : (A + B) / 2 ^ k % 2 = (A / 2 ^ k % 2 + B / 2 ^ k % 2 + cy A B k) % 2 := by
  have h1 := Nat.div_add_mod A (2 ^ k)
  have h2 := Nat.div_add_mod B (2 ^ k)
  have e : A + B = 2 ^ k * (A / 2 ^ k + B / 2 ^ k) + (A % 2 ^ k + B % 2 ^ k) := by rw [Nat.mul_add]; omega
  have e2 : (A + B) / 2 ^ k = A / 2 ^ k + B / 2 ^ k + cy A B k := by
    conv => lhs; rw [e]
    exact Nat.mul_add_div (Nat.two_pow_pos k) _ _
  rw [e2]; omega
theorem shl_bit (A b i : Nat) : bt (A * 2 ^ b) i = btI A ((i : Int) - (b : Int)) := by
  by_cases h : i < b
  · unfold btI
    rw [if_pos (by omega)]
    unfold bt
    obtain ⟨d, rfl⟩ : ∃ d, b = i + (d + 1) := ⟨b - i - 1, by omega⟩
    rw [Nat.pow_add, show A * (2 ^ i * 2 ^ (d + 1)) = 2 ^ i * (A * 2 ^ (d + 1)) by grind, Nat.mul_div_cancel_left _ (Nat.two_pow_pos i), Nat.pow_succ, ← Nat.mul_assoc, Nat.mul_mod_left]; rfl
  · unfold btI
    rw [if_neg (by omega)]
    obtain ⟨d, rfl⟩ : ∃ d, i = b + d := ⟨i - b, by omega⟩
    rw [show (((b + d : Nat) : Int) - (b : Int)).toNat = d by omega]
    unfold bt
    rw [Nat.pow_add, ← Nat.div_div_eq_div_mul, Nat.mul_div_cancel _ (Nat.two_pow_pos b)]
theorem top_bits {A B k : Nat} (h : A / 2 ^ (k + 1) = B / 2 ^ (k + 1)) : (A / 2 ^ k % 2 = B / 2 ^ k % 2 → A / 2 ^ k = B / 2 ^ k) ∧ (A / 2 ^ k % 2 < B / 2 ^ k % 2 → A < B) := by
  have h1 := bt_step A k
  have h2 := bt_step B k
  refine ⟨fun e => by omega, fun e => ?_⟩
  have h3 : A / 2 ^ k < B / 2 ^ k := by omega
  rcases Nat.lt_or_ge A B with h4 | h4
  · exact h4
  · exact absurd (Nat.div_le_div_right (c := 2 ^ k) h4) (by omega)
def cmpN (A B : Nat) : Int := if A < B then -1 else if B < A then 1 else 0
theorem bitsOf_mod (N n : Nat) : bitsOf (N % 2 ^ n) n = bitsOf N n := by
  unfold bitsOf
  apply List.map_congr_left
  intro i hi
  have hi := List.mem_range.1 hi
  unfold bt
  congr 1
  rw [← Nat.mod_mul_right_div_self, ← Nat.mod_mul_right_div_self, ← Nat.pow_succ, Nat.mod_mod_of_dvd]
  exact Nat.pow_dvd_pow 2 (by omega)
end Go.Bv
namespace Go.Proofs.YtdjlbpgjbgepdaaGreat
open Go.RowKit Go.Bv
set_option linter.unusedVariables false
theorem bits_row {w : World} {base : Nat} {v : Value} {n N : Nat} (h : w.ownsRow base 3 1 v n ((bitsOf N n).map fun y => .int .i64 y)) (hn : n ≤ 4096) :
    ∃ a c, v = .slice a n c ∧ ZRow w a n c (bitsOf N n) := ZRow.of_owns h (by omega) (bitsOf_wf N n)
set_option maxHeartbeats 1000000 in
theorem badd_own (A B na nb ca cb : Nat) (a b : Option Addr) (n : Int) (m : Nat) (hnm : n = (m : Int)) (hm : m ≤ 4096) (w : World) (ha : ZRow w a na ca (bitsOf A na)) (hA : A < 2 ^ na) (hb : ZRow w b nb cb (bitsOf B nb)) (hB : B < 2 ^ nb) :
    Calls Tryz.prog 69 #[.slice a na ca, .slice b nb cb, .int .i64 n] w fun e w' =>
      ∃ v, e = .returned (.tuple #[v, .int .i64 (cy A B m : Nat)]) ∧ w'.ownsRow w.heap.size 3 1 v m ((bitsOf (A + B) m).map fun y => .int .i64 y) ∧ New w w' := by
  subst hnm
  obtain ⟨i0, hi, hz0, hz1, hz2⟩ := info_parts info_int
  have H0 : Hid (cy A B 0 = 0) := Lib.hid (cy_zero A B)
  go_enter Tryz.func69, Tryz.ntmps69
  go_wp2
  go_loopw [8, 9, 10] (fun v cc i wr => ∃ k : Nat, k ≤ m ∧ i = .int .i64 k ∧ cc = .int .i64 (cy A B k : Nat) ∧ wr.ownsRow w.heap.size 3 1 v k ((bitsOf (A + B) k).map fun y => .int .i64 y) ∧ New w wr) (fun _ _ i _ => m - (intOf i).toNat)
  case atStart => exact ⟨0, by omega, rfl, by rw [H0.out]; rfl, World.ownsRow_nil w _ _ 1, New.refl w⟩
  case round =>
    obtain ⟨k, hk, rfl, rfl, hown, hnew⟩ := hrel
    by_cases hlt : (k : Int) < m
    · have ha' := ha.stay hnew
      have hb' := hb.stay hnew
      have hcl := cy_le A B k
      have HS : Hid ((bt A k + bt B k + (cy A B k : Nat)) % 2 = bt (A + B) k ∧ (bt A k + bt B k + (cy A B k : Nat)) / 2 = (cy A B (k + 1) : Nat)) := Lib.hid (by
        have h1 := add_bit A B k
        have h2 := cy_succ A B k
        unfold bt
        rw [h1, h2]
        omega)
      have HA : Hid (∀ w, ZRow w a na ca (bitsOf A na) → Calls Tryz.prog 121 #[.slice a na ca, .int .i64 (k : Int)] w fun e w' => e = .returned (.int .i64 (bt A k)) ∧ w' = w) := Lib.hid fun w h => by
        have := at_any A na ca a (k : Int) w h hA
        rw [btI_nat] at this; exact this
      have HB : Hid (∀ w, ZRow w b nb cb (bitsOf B nb) → Calls Tryz.prog 121 #[.slice b nb cb, .int .i64 (k : Int)] w fun e w' => e = .returned (.int .i64 (bt B k)) ∧ w' = w) := Lib.hid fun w h => by
        have := at_any B nb cb b (k : Int) w h hB
        rw [btI_nat] at this; exact this
      have hp := bt_lt A k
      have hq := bt_lt B k
      have hr : bitsOf (A + B) (k + 1) = bitsOf (A + B) k ++ [bt (A + B) k] := bitsOf_succ _ _
      have HR := Lib.hid hr
      clear hr
      generalize bt A k = p at *
      generalize bt B k = q at *
      generalize bt (A + B) k = s at *
      obtain ⟨c2, hc2⟩ : ∃ c2 : Int, ((cy A B (k + 1) : Nat) : Int) = c2 := ⟨_, rfl⟩
      rw [hc2] at HS
      have HC2 := Lib.hid hc2
      clear hc2
      generalize (cy A B k : Nat) = c1 at *
      have e1 : wrap64 (p + q) = p + q := by unfold wrap64; omega
      have e2 : wrap64 (p + q + (c1 : Int)) = p + q + (c1 : Int) := by unfold wrap64; omega
      have e3 : (p + q + (c1 : Int)).tmod 2 = s := by rw [Int.tmod_eq_emod_of_nonneg (by omega)]; exact HS.out.1
      have e4 : (p + q + (c1 : Int)).tdiv 2 = c2 := by rw [Int.tdiv_eq_ediv_of_nonneg (by omega)]; exact HS.out.2
      have e5 : wrap64 c2 = c2 := by have := HS.out.2; unfold wrap64; omega
      go_wp2_with fail
      refine (HA.out _ ha').mono ?_
      rintro e w' ⟨rfl, rfl⟩
      go_wp2_with fail
      refine (HB.out _ hb').mono ?_
      rintro e w' ⟨rfl, rfl⟩
      go_wp2_with (at_builtin; refine wpList_append_own _ rfl _ _ 78 rfl w.heap.size 3 i0 (.int .i64 0) 1 8 Tryz.underlying78 hi hz0 hz1 hz2 rfl (by decide) _ k _ rfl (hown.alloc _) ⟨w'.heap.size, 0, none⟩ 1 1 [.int .i64 (s)] rfl rfl ?c1 ?c2 ?c3 ?c4 ?c5 ?_)
      case c1 => exact new_cells_z w' _ _
      case c2 => intro u hu; simp at hu; subst hu; rfl
      case c3 => unfold maxLen; omega
      case c4 => omega
      case c5 => simp; have := hnew.le; omega
      intro v' w1 how hgr _
      have how2 : w1.ownsRow w.heap.size 3 1 v' (k + 1) ((bitsOf (A + B) (k + 1)).map fun y => .int .i64 y) := by
        rw [HR.out, List.map_append]; exact how
      have hn1 : New w w1 := (hnew.alloc _).grown' hgr (own_base hown)
      clear how hgr
      go_wp2
      exact ⟨⟨k + 1, by omega, by go_num, by first | rw [e5, HC2.out] | rw [HC2.out], how2, hn1⟩, by simp [intOf]; omega⟩
    · obtain rfl : k = m := by omega
      go_wp2
      go_ret2
      exact ⟨_, rfl, hown, hnew⟩
set_option maxHeartbeats 1000000 in
theorem bsub_own (A B na nb ca cb : Nat) (a b : Option Addr) (n : Int) (m : Nat) (hnm : n = (m : Int)) (hm : m ≤ 4096) (w : World) (ha : ZRow w a na ca (bitsOf A na)) (hA : A < 2 ^ na) (hb : ZRow w b nb cb (bitsOf B nb)) (hB : B < 2 ^ nb) (E : Nat) (hE : E + B = A + 2 ^ m) :
    Calls Tryz.prog 124 #[.slice a na ca, .slice b nb cb, .int .i64 n] w fun e w' =>
      ∃ v, e = .returned (.tuple #[v, .int .i64 (cy E B m : Nat)]) ∧ w'.ownsRow w.heap.size 3 1 v m ((bitsOf E m).map fun y => .int .i64 y) ∧ New w w' := by
  subst hnm
  obtain ⟨i0, hi, hz0, hz1, hz2⟩ := info_parts info_int
  have H0 : Hid (cy E B 0 = 0) := Lib.hid (cy_zero E B)
  go_enter Tryz.func124, Tryz.ntmps124
  go_wp2
  go_loopw [8, 9, 10] (fun v cc i wr => ∃ k : Nat, k ≤ m ∧ i = .int .i64 k ∧ cc = .int .i64 (cy E B k : Nat) ∧ wr.ownsRow w.heap.size 3 1 v k ((bitsOf E k).map fun y => .int .i64 y) ∧ New w wr) (fun _ _ i _ => m - (intOf i).toNat)
  case atStart => exact ⟨0, by omega, rfl, by rw [H0.out]; rfl, World.ownsRow_nil w _ _ 1, New.refl w⟩
  case round =>
    obtain ⟨k, hk, rfl, rfl, hown, hnew⟩ := hrel
    by_cases hlt : (k : Int) < m
    · have ha' := ha.stay hnew
      have hb' := hb.stay hnew
      have hcl := cy_le E B k
      have HS : Hid ((bt A k - bt B k - (cy E B k : Nat) + 2) % 2 = bt E k ∧ 1 - (bt A k - bt B k - (cy E B k : Nat) + 2) / 2 = (cy E B (k + 1) : Nat)) := Lib.hid (by
        have h1 := add_bit E B k
        have h2 := cy_succ E B k
        have h3 : (E + B) / 2 ^ k % 2 = A / 2 ^ k % 2 := by
          obtain ⟨d, rfl⟩ : ∃ d, m = k + (d + 1) := ⟨m - k - 1, by omega⟩
          rw [hE, Nat.pow_add, Nat.add_mul_div_left _ _ (Nat.two_pow_pos k), Nat.pow_succ]
          omega
        rw [h3] at h1
        unfold bt
        rw [h2]
        have l1 := Nat.mod_lt (E / 2 ^ k) (show 0 < 2 by decide)
        have l2 := Nat.mod_lt (B / 2 ^ k) (show 0 < 2 by decide)
        have l3 := Nat.mod_lt (A / 2 ^ k) (show 0 < 2 by decide)
        omega)
      have HA : Hid (∀ w, ZRow w a na ca (bitsOf A na) → Calls Tryz.prog 121 #[.slice a na ca, .int .i64 (k : Int)] w fun e w' => e = .returned (.int .i64 (bt A k)) ∧ w' = w) := Lib.hid fun w h => by
        have := at_any A na ca a (k : Int) w h hA
        rw [btI_nat] at this; exact this
      have HB : Hid (∀ w, ZRow w b nb cb (bitsOf B nb) → Calls Tryz.prog 121 #[.slice b nb cb, .int .i64 (k : Int)] w fun e w' => e = .returned (.int .i64 (bt B k)) ∧ w' = w) := Lib.hid fun w h => by
        have := at_any B nb cb b (k : Int) w h hB
        rw [btI_nat] at this; exact this
      have hp := bt_lt A k
      have hq := bt_lt B k
      have hr : bitsOf E (k + 1) = bitsOf E k ++ [bt E k] := bitsOf_succ _ _
      have HR := Lib.hid hr
      clear hr
      generalize bt A k = p at *
      generalize bt B k = q at *
      generalize bt E k = s at *
      obtain ⟨c2, hc2⟩ : ∃ c2 : Int, ((cy E B (k + 1) : Nat) : Int) = c2 := ⟨_, rfl⟩
      rw [hc2] at HS
      have HC2 := Lib.hid hc2
      clear hc2
      generalize (cy E B k : Nat) = c1 at *
      have e1 : wrap64 (p - q) = p - q := by unfold wrap64; omega
      have e2 : wrap64 (p - q - (c1 : Int)) = p - q - (c1 : Int) := by unfold wrap64; omega
      have e6 : wrap64 (p - q - (c1 : Int) + 2) = p - q - (c1 : Int) + 2 := by unfold wrap64; omega
      have e3 : (p - q - (c1 : Int) + 2).tmod 2 = s := by rw [Int.tmod_eq_emod_of_nonneg (by omega)]; exact HS.out.1
      have e4 : (p - q - (c1 : Int) + 2).tdiv 2 = (p - q - (c1 : Int) + 2) / 2 := Int.tdiv_eq_ediv_of_nonneg (by omega)
      have e7 : wrap64 ((p - q - (c1 : Int) + 2) / 2) = (p - q - (c1 : Int) + 2) / 2 := by unfold wrap64; omega
      have e5 : wrap64 (1 - (p - q - (c1 : Int) + 2) / 2) = c2 := by rw [HS.out.2]; have := HS.out.2; unfold wrap64; omega
      go_wp2_with fail
      refine (HA.out _ ha').mono ?_
      rintro e w' ⟨rfl, rfl⟩
      go_wp2_with fail
      refine (HB.out _ hb').mono ?_
      rintro e w' ⟨rfl, rfl⟩
      go_wp2_with (at_builtin; refine wpList_append_own _ rfl _ _ 78 rfl w.heap.size 3 i0 (.int .i64 0) 1 8 Tryz.underlying78 hi hz0 hz1 hz2 rfl (by decide) _ k _ rfl (hown.alloc _) ⟨w'.heap.size, 0, none⟩ 1 1 [.int .i64 (s)] rfl rfl ?c1 ?c2 ?c3 ?c4 ?c5 ?_)
      case c1 => exact new_cells_z w' _ _
      case c2 => intro u hu; simp at hu; subst hu; rfl
      case c3 => unfold maxLen; omega
      case c4 => omega
      case c5 => simp; have := hnew.le; omega
      intro v' w1 how hgr _
      have how2 : w1.ownsRow w.heap.size 3 1 v' (k + 1) ((bitsOf E (k + 1)).map fun y => .int .i64 y) := by
        rw [HR.out, List.map_append]; exact how
      have hn1 : New w w1 := (hnew.alloc _).grown' hgr (own_base hown)
      clear how hgr
      go_wp2
      exact ⟨⟨k + 1, by omega, by go_num, by rw [HC2.out, ← HS.out.2], how2, hn1⟩, by simp [intOf]; omega⟩
    · obtain rfl : k = m := by omega
      go_wp2
      go_ret2
      exact ⟨_, rfl, hown, hnew⟩
set_option maxHeartbeats 1000000 in
theorem bshl_own (A na ca by_ : Nat) (a : Option Addr) (n : Int) (m : Nat) (hnm : n = (m : Int)) (hm : m ≤ 4096) (hby : by_ ≤ 4096) (w : World) (ha : ZRow w a na ca (bitsOf A na)) (hA : A < 2 ^ na) :
    Calls Tryz.prog 67 #[.slice a na ca, .int .i64 (by_ : Int), .int .i64 n] w fun e w' =>
      ∃ v, e = .returned v ∧ w'.ownsRow w.heap.size 3 1 v m ((bitsOf (A * 2 ^ by_) m).map fun y => .int .i64 y) ∧ New w w' := by
  subst hnm
  obtain ⟨i0, hi, hz0, hz1, hz2⟩ := info_parts info_int
  go_enter Tryz.func67, Tryz.ntmps67
  go_wp2
  go_loopw [7, 8] (fun v i wr => ∃ k : Nat, k ≤ m ∧ i = .int .i64 k ∧ wr.ownsRow w.heap.size 3 1 v k ((bitsOf (A * 2 ^ by_) k).map fun y => .int .i64 y) ∧ New w wr) (fun _ i _ => m - (intOf i).toNat)
  case atStart => exact ⟨0, by omega, rfl, World.ownsRow_nil w _ _ 1, New.refl w⟩
  case round =>
    obtain ⟨k, hk, rfl, hown, hnew⟩ := hrel
    by_cases hlt : (k : Int) < m
    · have ha' := ha.stay hnew
      have e1 : wrap64 ((k : Int) - (by_ : Int)) = (k : Int) - (by_ : Int) := by unfold wrap64; omega
      have HA : Hid (∀ w, ZRow w a na ca (bitsOf A na) → Calls Tryz.prog 121 #[.slice a na ca, .int .i64 ((k : Int) - (by_ : Int))] w fun e w' => e = .returned (.int .i64 (bt (A * 2 ^ by_) k)) ∧ w' = w) := Lib.hid fun w h => by
        rw [shl_bit]; exact at_any A na ca a _ w h hA
      have HR := Lib.hid (bitsOf_succ (A * 2 ^ by_) k)
      generalize bt (A * 2 ^ by_) k = s at *
      go_wp2_with fail
      refine (HA.out _ ha').mono ?_
      rintro e w' ⟨rfl, rfl⟩
      go_wp2_with (at_builtin; refine wpList_append_own _ rfl _ _ 78 rfl w.heap.size 3 i0 (.int .i64 0) 1 8 Tryz.underlying78 hi hz0 hz1 hz2 rfl (by decide) _ k _ rfl (hown.alloc _) ⟨w'.heap.size, 0, none⟩ 1 1 [.int .i64 (s)] rfl rfl ?c1 ?c2 ?c3 ?c4 ?c5 ?_)
      case c1 => exact new_cells_z w' _ _
      case c2 => intro u hu; simp at hu; subst hu; rfl
      case c3 => unfold maxLen; omega
      case c4 => omega
      case c5 => simp; have := hnew.le; omega
      intro v' w1 how hgr _
      have how2 : w1.ownsRow w.heap.size 3 1 v' (k + 1) ((bitsOf (A * 2 ^ by_) (k + 1)).map fun y => .int .i64 y) := by
        rw [HR.out, List.map_append]; exact how
      have hn1 : New w w1 := (hnew.alloc _).grown' hgr (own_base hown)
      clear how hgr
      go_wp2
      exact ⟨⟨k + 1, by omega, by go_num, how2, hn1⟩, by simp [intOf]; omega⟩
    · obtain rfl : k = m := by omega
      go_wp2
      go_ret
      exact ⟨_, rfl, hown, hnew⟩
set_option maxHeartbeats 1000000 in
theorem bcmp_any (A B na nb ca cb : Nat) (a b : Option Addr) (w : World) (ha : ZRow w a na ca (bitsOf A na)) (hA : A < 2 ^ na) (hb : ZRow w b nb cb (bitsOf B nb)) (hB : B < 2 ^ nb) :
    Calls Tryz.prog 123 #[.slice a na ca, .slice b nb cb] w fun e w' => e = .returned (.int .i64 (cmpN A B)) ∧ w' = w := by
  have hma := ha.most
  have hmb := hb.most
  obtain ⟨m, hm⟩ : ∃ m, m = max na nb := ⟨_, rfl⟩
  have e0 : max (na : Int) (nb : Int) = (m : Int) := by omega
  have e1 : wrap64 ((m : Int) - 1) = (m : Int) - 1 := by unfold wrap64; omega
  have HST : Hid (A / 2 ^ m = B / 2 ^ m) := Lib.hid (by
    rw [Nat.div_eq_of_lt (Nat.lt_of_lt_of_le hA (Nat.pow_le_pow_right (by omega) (by omega))), Nat.div_eq_of_lt (Nat.lt_of_lt_of_le hB (Nat.pow_le_pow_right (by omega) (by omega)))])
  have HAT : Hid (∀ (i : Nat), Calls Tryz.prog 121 #[.slice a na ca, .int .i64 (i : Int)] w fun e w' => e = .returned (.int .i64 (bt A i)) ∧ w' = w) := Lib.hid fun i => by
    have := at_any A na ca a (i : Int) w ha hA
    rw [btI_nat] at this; exact this
  have HBT : Hid (∀ (i : Nat), Calls Tryz.prog 121 #[.slice b nb cb, .int .i64 (i : Int)] w fun e w' => e = .returned (.int .i64 (bt B i)) ∧ w' = w) := Lib.hid fun i => by
    have := at_any B nb cb b (i : Int) w hb hB
    rw [btI_nat] at this; exact this
  have hml : m ≤ 17592186044416 := by omega
  have HSTEP : Hid (∀ i, A / 2 ^ (i + 1) = B / 2 ^ (i + 1) → (bt A i < bt B i ∧ cmpN A B = -1) ∨ (¬ bt A i < bt B i ∧ bt B i < bt A i ∧ cmpN A B = 1) ∨ (¬ bt A i < bt B i ∧ ¬ bt B i < bt A i ∧ A / 2 ^ i = B / 2 ^ i)) := Lib.hid (by
    intro i h
    have h1 := top_bits h
    have h2 := top_bits h.symm
    have f1 : bt A i < bt B i ↔ A / 2 ^ i % 2 < B / 2 ^ i % 2 := by unfold bt; omega
    have f2 : bt B i < bt A i ↔ B / 2 ^ i % 2 < A / 2 ^ i % 2 := by unfold bt; omega
    by_cases c1 : A / 2 ^ i % 2 < B / 2 ^ i % 2
    · exact Or.inl ⟨f1.2 c1, by unfold cmpN; rw [if_pos (h1.2 c1)]⟩
    · by_cases c2 : B / 2 ^ i % 2 < A / 2 ^ i % 2
      · exact Or.inr (Or.inl ⟨fun e => c1 (f1.1 e), f2.2 c2, by have := h2.2 c2; unfold cmpN; rw [if_neg (by omega), if_pos this]⟩)
      · exact Or.inr (Or.inr ⟨fun e => c1 (f1.1 e), fun e => c2 (f2.1 e), h1.1 (by omega)⟩))
  have HEND : Hid (A / 2 ^ 0 = B / 2 ^ 0 → cmpN A B = 0) := Lib.hid (by
    intro h
    rw [Nat.pow_zero, Nat.div_one, Nat.div_one] at h
    unfold cmpN; rw [if_neg (by omega), if_neg (by omega)])
  clear ha hb hA hB e0 e1
  have en : wrap64 ((nb : Int) - 1) = (nb : Int) - 1 := by unfold wrap64; omega
  have em : wrap64 ((na : Int) - 1) = (na : Int) - 1 := by unfold wrap64; omega
  go_enter Tryz.func123, Tryz.ntmps123
  go_wp2
  all_goals (
    go_loop [5] (fun I => ∃ j : Nat, j ≤ 17592186044416 ∧ I = .int .i64 ((j : Int) - 1) ∧ Hid (A / 2 ^ j = B / 2 ^ j)) (fun I => (intOf I + 1).toNat)
    case atStart => exact ⟨m, hml, congrArg (Value.int .i64) (by omega), HST⟩
    case round =>
      obtain ⟨j, hj, rfl, H⟩ := hrel
      by_cases h0 : j = 0
      · subst h0
        have HE := Lib.hid (HEND.out H.out)
        clear H
        go_wp2
        go_ret
        rw [HE.out]
        exact ⟨rfl, rfl⟩
      · obtain ⟨i, rfl⟩ : ∃ i, j = i + 1 := ⟨j - 1, by omega⟩
        have ei : ((i + 1 : Nat) : Int) - 1 = (i : Int) := by omega
        rw [ei]
        have hw1 : wrap64 ((i : Int) - 1) = (i : Int) - 1 := by unfold wrap64; omega
        have HI := HSTEP.out i H.out
        have HA := Lib.hid (HAT.out i)
        have HB := Lib.hid (HBT.out i)
        clear H
        generalize bt A i = p at *
        generalize bt B i = q at *
        rcases HI with ⟨c1, c2⟩ | ⟨c1, c2, c3⟩ | ⟨c1, c2, c3⟩
        · have HC := Lib.hid c2
          clear c2
          go_wp2_with fail
          refine HA.out.mono ?_
          rintro e w' ⟨rfl, rfl⟩
          go_wp2_with fail
          refine HB.out.mono ?_
          rintro e w' ⟨rfl, rfl⟩
          go_wp2
          go_ret
          rw [HC.out]
          exact ⟨rfl, rfl⟩
        · have HC := Lib.hid c3
          clear c3
          go_wp2_with fail
          refine HA.out.mono ?_
          rintro e w' ⟨rfl, rfl⟩
          go_wp2_with fail
          refine HB.out.mono ?_
          rintro e w' ⟨rfl, rfl⟩
          go_wp2_with fail
          refine HA.out.mono ?_
          rintro e w' ⟨rfl, rfl⟩
          go_wp2_with fail
          refine HB.out.mono ?_
          rintro e w' ⟨rfl, rfl⟩
          go_wp2
          go_ret
          rw [HC.out]
          exact ⟨rfl, rfl⟩
        · have HC := Lib.hid c3
          clear c3
          go_wp2_with fail
          refine HA.out.mono ?_
          rintro e w' ⟨rfl, rfl⟩
          go_wp2_with fail
          refine HB.out.mono ?_
          rintro e w' ⟨rfl, rfl⟩
          go_wp2_with fail
          refine HA.out.mono ?_
          rintro e w' ⟨rfl, rfl⟩
          go_wp2_with fail
          refine HB.out.mono ?_
          rintro e w' ⟨rfl, rfl⟩
          go_wp2
          exact ⟨⟨i, by omega, rfl, HC⟩, by simp [intOf]⟩)
end Go.Proofs.YtdjlbpgjbgepdaaGreat
end
section
/- The contract of the document's own Of2: for all numbers of two words. · Contracts of the document's own Mul and To4: for all lists of bits. · Contracts of the document's own Shr and Len: for all lists of bits. · The contract of the document's own Div: for all lists of bits. -/
set_option maxRecDepth 100000
namespace Go.Bv
open Go Go.RowKit
set_option linter.unusedVariables false
theorem bits_two (a1 a0 : BitVec 64) : bitsOf a0.toNat 64 ++ bitsOf a1.toNat 64 = bitsOf (two a1 a0) 128 := by
  apply ints_eq (n := 128)
  · rw [List.length_append, bitsOf_len, bitsOf_len]
  · rw [bitsOf_len]
  · intro j hj
    rw [bitsOf_at hj]
    by_cases h : j < 64
    · rw [List.getD_eq_getElem?_getD, List.getElem?_append_left (by rw [bitsOf_len]; exact h), ← List.getD_eq_getElem?_getD, bitsOf_at h]
      unfold bt two
      congr 1
      obtain ⟨d, hd⟩ : ∃ d, 64 = j + (d + 1) := ⟨63 - j, by omega⟩
      rw [show (18446744073709551616 : Nat) = 2 ^ j * 2 ^ (d + 1) by rw [← Nat.pow_add, ← hd], show a1.toNat * (2 ^ j * 2 ^ (d + 1)) = 2 ^ j * (a1.toNat * 2 ^ d * 2) by rw [Nat.pow_succ]; grind, Nat.mul_add_div (Nat.two_pow_pos j)]
      omega
    · rw [List.getD_eq_getElem?_getD, List.getElem?_append_right (by rw [bitsOf_len]; omega), ← List.getD_eq_getElem?_getD, bitsOf_len, bitsOf_at (by omega)]
      unfold bt two
      congr 1
      obtain ⟨d, rfl⟩ : ∃ d, j = 64 + d := ⟨j - 64, by omega⟩
      rw [show 64 + d - 64 = d by omega, Nat.pow_add, ← Nat.div_div_eq_div_mul]
      have := a0.isLt
      rw [show (a1.toNat * 18446744073709551616 + a0.toNat) / 2 ^ 64 = a1.toNat by omega]
end Go.Bv
namespace Go.Proofs.YtdjlbpgjbgepdaaGreat
open Go.RowKit Go.Bv
set_option linter.unusedVariables false
theorem own_low {w : World} {base base' : Nat} {e : TypeId} {size : Nat} {v : Value} {n : Nat} {xs : List Value} (h : w.ownsRow base e size v n xs) (hb : base' ≤ base) : w.ownsRow base' e size v n xs := by
  obtain ⟨hl, h⟩ := h
  refine ⟨hl, ?_⟩
  rcases h with h | ⟨g, cap, cur, hv, hb', hc, h2⟩
  · exact Or.inl h
  · exact Or.inr ⟨g, cap, cur, hv, by omega, hc, h2⟩
end Go.Proofs.YtdjlbpgjbgepdaaGreat
namespace Go.Bv
theorem mul_bit0 (A B k : Nat) (h : B / 2 ^ k % 2 = 0) : A * (B % 2 ^ (k + 1)) = A * (B % 2 ^ k) := by
  rw [mod_bit, h, Nat.mul_zero, Nat.add_zero]
theorem mul_bit1 (A B k : Nat) (h : B / 2 ^ k % 2 = 1) : A * (B % 2 ^ (k + 1)) = A * (B % 2 ^ k) + A * 2 ^ k := by
  rw [mod_bit, h, Nat.mul_one, Nat.mul_add]
theorem bits_mod_add (X Y m : Nat) : bitsOf (X % 2 ^ m + Y % 2 ^ m) m = bitsOf (X + Y) m := by
  rw [← bitsOf_mod (X % 2 ^ m + Y % 2 ^ m), ← Nat.add_mod, bitsOf_mod]
end Go.Bv
namespace Go.Proofs.YtdjlbpgjbgepdaaGreat
open Go.RowKit Go.Bv
set_option linter.unusedVariables false
set_option maxHeartbeats 1000000 in
theorem bmul_own (A B na nb ca cb : Nat) (a b : Option Addr) (n : Int) (m : Nat) (hnm : n = (m : Int)) (hm : m ≤ 4096) (hnb : nb ≤ 4096) (w : World) (ha : ZRow w a na ca (bitsOf A na)) (hA : A < 2 ^ na) (hb : ZRow w b nb cb (bitsOf B nb)) (hB : B < 2 ^ nb) :
    Calls Tryz.prog 120 #[.slice a na ca, .slice b nb cb, .int .i64 n] w fun e w' =>
      ∃ v, e = .returned v ∧ w'.ownsRow w.heap.size 3 1 v m ((bitsOf (A * B) m).map fun y => .int .i64 y) ∧ New w w' := by
  subst hnm
  have cOf := fun w => of_own 0#64 (m : Int) m hm rfl w
  rw [lo_zero, show (0#64).toNat = 0 from rfl] at cOf
  have HOf := Lib.hid cOf
  have HB0 := Lib.hid hb.addr
  have HEND := Lib.hid (Nat.mod_eq_of_lt hB)
  have HZ := Lib.hid (show A * (B % 2 ^ 0) = 0 by rw [Nat.pow_zero, Nat.mod_one, Nat.mul_zero])
  have HA := Lib.hid hA
  clear cOf hA hB
  go_enter Tryz.func120, Tryz.ntmps120
  go_wp2_with fail
  refine (HOf.out _).mono ?_
  rintro e w1 ⟨v1, rfl, hown1, hn1⟩
  go_wp2
  go_loopw [7, 8] (fun v i wr => ∃ k : Nat, k ≤ nb ∧ i = .int .i64 k ∧ wr.ownsRow w.heap.size 3 1 v m ((bitsOf (A * (B % 2 ^ k)) m).map fun y => .int .i64 y) ∧ New w wr) (fun _ i _ => nb - (intOf i).toNat)
  case atStart => exact ⟨0, by omega, rfl, by rw [HZ.out]; exact hown1, hn1⟩
  case round =>
    obtain ⟨k, hk, rfl, hown, hnew⟩ := hrel
    by_cases hlt : (k : Int) < nb
    · obtain ⟨bb, boff, rfl, hc⟩ := HB0.out (by omega)
      have c1 := (hb.stay hnew).cell bb boff rfl k (by omega)
      rw [bitsOf_at (by omega)] at c1
      clear hc
      by_cases hbit : B / 2 ^ k % 2 = 1
      · have e1 : bt B k = 1 := by unfold bt; rw [hbit]; rfl
        rw [e1] at c1
        have HS := Lib.hid (mul_bit1 A B k hbit)
        obtain ⟨av, cv, rfl, hz⟩ := bits_row hown (by omega)
        have ha' := ha.stay hnew
        clear hbit e1
        go_wp2_with fail
        refine (bshl_own A na ca k a (m : Int) m rfl hm (by omega) _ ha' HA.out).mono ?_
        rintro e w2 ⟨v2, rfl, hown2, hn2⟩
        obtain ⟨av2, cv2, rfl, hz2⟩ := bits_row hown2 (by omega)
        have hz' := hz.stay hn2
        rw [← bitsOf_mod] at hz' hz2
        go_wp2_with fail
        refine (badd_own _ _ m m cv cv2 av av2 (m : Int) m rfl hm _ hz' (Nat.mod_lt _ (Nat.two_pow_pos _)) hz2 (Nat.mod_lt _ (Nat.two_pow_pos _))).mono ?_
        rintro e w3 ⟨v3, rfl, hown3, hn3⟩
        rw [bits_mod_add, ← HS.out] at hown3
        have hn13 := hn2.trans hn3
        have how := own_low hown3 (show w.heap.size ≤ w2.heap.size from (hnew.trans hn2).le)
        have hnn := hnew.trans hn13
        clear hown3 hown2 hown hz hz2 hz' hn3 hn2 HS
        generalize cy _ _ m = q
        go_wp2
        exact ⟨⟨k + 1, by omega, by go_num, how, hnn⟩, by simp [intOf]; omega⟩
      · have e0 : B / 2 ^ k % 2 = 0 := by omega
        have e1 : bt B k = 0 := by unfold bt; rw [e0]; rfl
        rw [e1] at c1
        rw [← mul_bit0 A B k e0] at hown
        clear hbit e0 e1
        go_wp2
        exact ⟨⟨k + 1, by omega, by go_num, hown, hnew⟩, by simp [intOf]; omega⟩
    · obtain rfl : k = nb := by omega
      rw [HEND.out] at hown
      go_wp2
      go_ret
      exact ⟨_, rfl, hown, hnew⟩
end Go.Proofs.YtdjlbpgjbgepdaaGreat
namespace Go.Bv
open Go Go.RowKit
theorem shr_bit (A b i : Nat) : bt (A / 2 ^ b) i = btI A ((i : Int) + (b : Int)) := by
  rw [show (i : Int) + (b : Int) = ((i + b : Nat) : Int) by omega, btI_nat]
  unfold bt
  rw [Nat.div_div_eq_div_mul, ← Nat.pow_add, Nat.add_comm b i]
/-- one more than the greatest bit that is set, below k -/
def lenN (A : Nat) : Nat → Nat
  | 0 => 0
  | k + 1 => if A / 2 ^ k % 2 = 1 then k + 1 else lenN A k
theorem lenN_zero (A : Nat) : ∀ k, lenN A k = 0 → A % 2 ^ k = 0
  | 0, _ => by rw [Nat.pow_zero, Nat.mod_one]
  | k + 1, h => by
    unfold lenN at h
    by_cases h1 : A / 2 ^ k % 2 = 1
    · rw [if_pos h1] at h; omega
    · rw [if_neg h1] at h
      rw [mod_bit, lenN_zero A k h, show A / 2 ^ k % 2 = 0 by omega, Nat.mul_zero]
theorem lenN_le (A : Nat) : ∀ k, lenN A k ≤ k
  | 0 => Nat.le_refl _
  | k + 1 => by
    have := lenN_le A k
    unfold lenN; split <;> omega
theorem lenN_pos {A n : Nat} (h : A < 2 ^ n) (h0 : A ≠ 0) : lenN A n ≠ 0 := by
  intro e
  have := lenN_zero A n e
  rw [Nat.mod_eq_of_lt h] at this
  exact h0 this
end Go.Bv
namespace Go.Proofs.YtdjlbpgjbgepdaaGreat
open Go.RowKit Go.Bv
set_option linter.unusedVariables false
set_option maxHeartbeats 1000000 in
theorem blen_any (A n c : Nat) (a : Option Addr) (w : World) (hr : ZRow w a n c (bitsOf A n)) :
    Calls Tryz.prog 122 #[.slice a n c] w fun e w' => e = .returned (.int .i64 (lenN A n : Nat)) ∧ w' = w := by
  have hm := hr.most
  go_enter Tryz.func122, Tryz.ntmps122
  go_wp2
  go_loop [3, 4] (fun L I => ∃ k : Nat, k ≤ n ∧ I = .int .i64 k ∧ L = .int .i64 (lenN A k : Nat)) (fun _ I => n - (intOf I).toNat)
  case atStart => exact ⟨0, by omega, rfl, rfl⟩
  case round =>
    obtain ⟨k, hk, rfl, rfl⟩ := hrel
    by_cases hlt : (k : Int) < n
    · obtain ⟨b, off, rfl, hc⟩ := hr.addr (by omega)
      have c1 := hc k (by omega)
      rw [bitsOf_at (by omega)] at c1
      clear hc
      by_cases hb : A / 2 ^ k % 2 = 1
      · have e1 : bt A k = 1 := by unfold bt; rw [hb]; rfl
        have HS : Hid (lenN A (k + 1) = k + 1) := Lib.hid (by rw [lenN, if_pos hb])
        rw [e1] at c1
        clear hb e1
        generalize lenN A k = q at *
        go_wp2
        exact ⟨⟨k + 1, by omega, by go_num, by rw [HS.out]; go_num⟩, by simp [intOf]; omega⟩
      · have e1 : bt A k = 0 := by unfold bt; rw [show A / 2 ^ k % 2 = 0 by omega]; rfl
        have HS : Hid (lenN A (k + 1) = lenN A k) := Lib.hid (by rw [lenN, if_neg hb])
        rw [e1] at c1
        clear hb e1
        go_wp2
        exact ⟨⟨k + 1, by omega, by go_num, by rw [HS.out]⟩, by simp [intOf]; omega⟩
    · obtain rfl : k = n := by omega
      go_wp2
      go_ret
      exact ⟨rfl, rfl⟩
end Go.Proofs.YtdjlbpgjbgepdaaGreat
namespace Go.Bv
open Go Go.RowKit
theorem own_shape {w : World} {base n : Nat} {e : TypeId} {v : Value} {xs : List Value} (h : w.ownsRow base e 1 v n xs) (h0 : 0 < n) : ∃ g cap, v = .slice (some ⟨g, 0, none⟩) n cap ∧ base ≤ g ∧ g < w.heap.size := by
  obtain ⟨hl, h | ⟨g, cap, cur, hv, hb, hc, h2⟩⟩ := h
  · omega
  · exact ⟨g, cap, hv, hb, lt_of_block hc⟩
theorem own_set {w : World} {base g n cap : Nat} {e : TypeId} {xs : List Value} (h : w.ownsRow base e 1 (.slice (some ⟨g, 0, none⟩) n cap) n xs) (k : Nat) (u : Value) : (w.setCell ⟨g, k, none⟩ u).ownsRow base e 1 (.slice (some ⟨g, 0, none⟩) n cap) n (xs.set k u) := by
  obtain ⟨hl, h | ⟨g', cap', cur, hv, hb, hc, h1, h2, h3, h4⟩⟩ := h
  · cases h.1
  · injection hv with e1 e2 e3
    cases e1; subst e3
    refine ⟨by rw [List.length_set]; exact hl, Or.inr ⟨g, cap, cur.setIfInBounds k u, rfl, hb, heap_setCell_same _ _ _ _ _ _ hc, h1, h2, by rw [Array.size_setIfInBounds]; exact h3, ?_⟩⟩
    rw [Array.toList_setIfInBounds, List.take_set, h4]
theorem own_far {w : World} {base n : Nat} {e : TypeId} {v : Value} {xs : List Value} (h : w.ownsRow base e 1 v n xs) {a : Addr} (hv : v.ownBlock ≠ some a.block) (u : Value) : (w.setCell a u).ownsRow base e 1 v n xs := by
  obtain ⟨hl, h | ⟨g', cap', cur, rfl, hb, hc, h2⟩⟩ := h
  · exact ⟨hl, Or.inl h⟩
  · exact ⟨hl, Or.inr ⟨g', cap', cur, rfl, hb, (heap_setCell_other _ _ _ _ (fun e => hv (by rw [← e]; rfl))).trans hc, h2⟩⟩
theorem own_cell {w : World} {base g n cap : Nat} {e : TypeId} {xs : List Value} (h : w.ownsRow base e 1 (.slice (some ⟨g, 0, none⟩) n cap) n xs) {k : Nat} {u : Value} (hu : xs[k]? = some u) : w.cell? ⟨g, k, none⟩ = some u ∧ w.frozen? ⟨g, k, none⟩ = false := by
  obtain ⟨hl, h | ⟨g', cap', cur, hv, hb, hc, h1, h2, h3, h4⟩⟩ := h
  · cases h.1
  · injection hv with e1 e2 e3
    cases e1
    refine ⟨?_, frozen_of_row _ _ _ _ _ hc⟩
    rw [cell_of_row _ _ _ _ _ _ hc, ← Array.getElem?_toList, ← hu, ← h4, List.getElem?_take, if_pos]
    rw [List.getElem?_eq_some_iff] at hu
    obtain ⟨h5, _⟩ := hu
    omega
theorem own_cell' {w : World} {base g n cap : Nat} {e : TypeId} {xs : List Value} (h : w.ownsRow base e 1 (.slice (some ⟨g, 0, none⟩) n cap) n xs) {k : Nat} (hk : k < n) : (∃ u, w.cell? ⟨g, k, none⟩ = some u) ∧ w.frozen? ⟨g, k, none⟩ = false := by
  have h1 : k < xs.length := by rw [h.1]; omega
  have h2 := own_cell h (List.getElem?_eq_getElem h1)
  exact ⟨⟨_, h2.1⟩, h2.2⟩
theorem own_ne {w : World} {base g n : Nat} {e : TypeId} {v : Value} {xs : List Value} (h : w.ownsRow base e 1 v n xs) (hg : g < base) : v.ownBlock ≠ some g := by
  intro he
  have := own_base h g he
  omega
theorem bits_set0 (R b m : Nat) (hb : b ≤ 1) : (bitsOf (R * 2 ^ 1) m).set 0 (b : Int) = bitsOf (2 * R + b) m := by
  apply ints_eq (n := m)
  · rw [List.length_set, bitsOf_len]
  · rw [bitsOf_len]
  · intro j hj
    rw [bitsOf_at hj, List.getD_eq_getElem?_getD, List.getElem?_set, bitsOf_len]
    by_cases h : j = 0
    · subst h
      rw [if_pos rfl, if_pos hj]
      unfold bt
      rw [Nat.pow_zero, Nat.div_one]
      show (b : Int) = _
      congr 1
      omega
    · rw [if_neg (fun e => h e.symm), ← List.getD_eq_getElem?_getD, bitsOf_at hj]
      unfold bt
      obtain ⟨d, rfl⟩ : ∃ d, j = d + 1 := ⟨j - 1, by omega⟩
      rw [show (2 : Nat) ^ (d + 1) = 2 * 2 ^ d by rw [Nat.pow_succ, Nat.mul_comm], ← Nat.div_div_eq_div_mul, ← Nat.div_div_eq_div_mul, show R * 2 ^ 1 / 2 = R by omega, show (2 * R + b) / 2 = R by omega]
theorem bits_setk (Q k n : Nat) (hk : k < n) : (bitsOf (Q * 2 ^ (k + 1)) n).set k 1 = bitsOf ((2 * Q + 1) * 2 ^ k) n := by
  apply ints_eq (n := n)
  · rw [List.length_set, bitsOf_len]
  · rw [bitsOf_len]
  · intro j hj
    rw [bitsOf_at hj, List.getD_eq_getElem?_getD, List.getElem?_set, bitsOf_len]
    by_cases h : k = j
    · subst h
      rw [if_pos rfl, if_pos hj]
      unfold bt
      rw [Nat.mul_div_cancel _ (Nat.two_pow_pos k), show (2 * Q + 1) % 2 = 1 by omega]; rfl
    · rw [if_neg h, ← List.getD_eq_getElem?_getD, bitsOf_at hj]
      unfold bt
      congr 1
      rcases Nat.lt_or_ge j k with h2 | h2
      · obtain ⟨d, rfl⟩ : ∃ d, k = j + (d + 1) := ⟨k - j - 1, by omega⟩
        rw [show Q * 2 ^ (j + (d + 1) + 1) = 2 * (Q * 2 ^ (d + 1)) * 2 ^ j by rw [show j + (d + 1) + 1 = (d + 1) + 1 + j by omega, Nat.pow_add _ _ j, show (2 : Nat) ^ (d + 1 + 1) = 2 * 2 ^ (d + 1) by rw [Nat.pow_succ, Nat.mul_comm], ← Nat.mul_assoc, Nat.mul_left_comm],
          show (2 * Q + 1) * 2 ^ (j + (d + 1)) = 2 * ((2 * Q + 1) * 2 ^ d) * 2 ^ j by rw [show j + (d + 1) = (d + 1) + j by omega, Nat.pow_add _ _ j, show (2 : Nat) ^ (d + 1) = 2 * 2 ^ d by rw [Nat.pow_succ, Nat.mul_comm], ← Nat.mul_assoc, Nat.mul_left_comm],
          Nat.mul_div_cancel _ (Nat.two_pow_pos j), Nat.mul_div_cancel _ (Nat.two_pow_pos j), Nat.mul_mod_right, Nat.mul_mod_right]
      · obtain ⟨d, rfl⟩ : ∃ d, j = k + (d + 1) := ⟨j - k - 1, by omega⟩
        rw [Nat.pow_add 2 k (d + 1), ← Nat.div_div_eq_div_mul, ← Nat.div_div_eq_div_mul, show Q * 2 ^ (k + 1) = 2 * Q * 2 ^ k by rw [Nat.pow_succ, Nat.mul_comm (2 ^ k) 2, ← Nat.mul_assoc, Nat.mul_comm Q 2], Nat.mul_div_cancel _ (Nat.two_pow_pos k), Nat.mul_div_cancel _ (Nat.two_pow_pos k),
          show (2 : Nat) ^ (d + 1) = 2 * 2 ^ d by rw [Nat.pow_succ, Nat.mul_comm], ← Nat.div_div_eq_div_mul, ← Nat.div_div_eq_div_mul, show 2 * Q / 2 = Q by omega, show (2 * Q + 1) / 2 = Q by omega]
/-- one step of a long division -/
theorem div_bit (A B k : Nat) (hB : 0 < B) (h : B ≤ 2 * (A / 2 ^ (k + 1) % B) + A / 2 ^ k % 2) : A / 2 ^ k % B = 2 * (A / 2 ^ (k + 1) % B) + A / 2 ^ k % 2 - B ∧ A / 2 ^ k / B = 2 * (A / 2 ^ (k + 1) / B) + 1 := by
  have e := bt_step A k
  have hr := Nat.mod_lt (A / 2 ^ (k + 1)) hB
  have hd := Nat.div_add_mod (A / 2 ^ (k + 1)) B
  generalize A / 2 ^ (k + 1) % B = r at *
  generalize A / 2 ^ (k + 1) / B = q at *
  generalize A / 2 ^ (k + 1) = X at *
  have hb : A / 2 ^ k % 2 < 2 := Nat.mod_lt _ (by omega)
  generalize A / 2 ^ k % 2 = b at *
  have e2 : A / 2 ^ k = B * (2 * q + 1) + (2 * r + b - B) := by
    rw [e, ← hd, Nat.mul_add, Nat.mul_add, Nat.mul_one]
    have : B * (2 * q) = 2 * (B * q) := by rw [Nat.mul_left_comm]
    omega
  rw [e2, Nat.mul_add_mod, Nat.mul_add_div hB, Nat.mod_eq_of_lt (by omega), Nat.div_eq_of_lt (by omega)]
  exact ⟨rfl, rfl⟩
theorem div_bit0 (A B k : Nat) (hB : 0 < B) (h : ¬ B ≤ 2 * (A / 2 ^ (k + 1) % B) + A / 2 ^ k % 2) : A / 2 ^ k % B = 2 * (A / 2 ^ (k + 1) % B) + A / 2 ^ k % 2 ∧ A / 2 ^ k / B = 2 * (A / 2 ^ (k + 1) / B) := by
  have e := bt_step A k
  have hd := Nat.div_add_mod (A / 2 ^ (k + 1)) B
  generalize A / 2 ^ (k + 1) % B = r at *
  generalize A / 2 ^ (k + 1) / B = q at *
  generalize A / 2 ^ (k + 1) = X at *
  generalize A / 2 ^ k % 2 = b at *
  have e2 : A / 2 ^ k = B * (2 * q) + (2 * r + b) := by
    rw [e, ← hd, Nat.mul_add]
    have : B * (2 * q) = 2 * (B * q) := by rw [Nat.mul_left_comm]
    omega
  rw [e2, Nat.mul_add_mod, Nat.mul_add_div hB, Nat.mod_eq_of_lt (by omega), Nat.div_eq_of_lt (by omega)]
  exact ⟨rfl, rfl⟩
theorem bits_over (X m : Nat) : bitsOf (X + 2 ^ m) m = bitsOf X m := by
  rw [← bitsOf_mod (X + 2 ^ m), Nat.add_mod_right, bitsOf_mod]
end Go.Bv
namespace Go.Proofs.YtdjlbpgjbgepdaaGreat
open Go.RowKit Go.Bv
set_option linter.unusedVariables false
set_option maxHeartbeats 2000000 in
theorem bdiv_own (A B na nb ca cb : Nat) (a b : Option Addr) (M : Nat) (hm : M + 1 ≤ 4096) (hmx : max na nb = M) (h0 : 0 < na) (w : World) (ha : ZRow w a na ca (bitsOf A na)) (hA : A < 2 ^ na) (hb : ZRow w b nb cb (bitsOf B nb)) (hB : B < 2 ^ nb) (hB0 : 0 < B) :
    Calls Tryz.prog 71 #[.slice a na ca, .slice b nb cb] w fun e w' =>
      ∃ v v', e = .returned (.tuple #[v, v']) ∧ w'.ownsRow w.heap.size 3 1 v na ((bitsOf (A / B) na).map fun y => .int .i64 y) ∧ w'.ownsRow w.heap.size 3 1 v' (M + 1) ((bitsOf (A % B) (M + 1)).map fun y => .int .i64 y) ∧ New w w' := by
  have e1 : max (na : Int) (nb : Int) = (M : Int) := by omega
  have e2 : wrap64 ((M : Int) + 1) = (M : Int) + 1 := by unfold wrap64; omega
  have e3 : wrap64 ((na : Int) - 1) = (na : Int) - 1 := by unfold wrap64; omega
  have HOf1 := Lib.hid fun w => of_own 0#64 (na : Int) na (by omega) rfl w
  have HOf2 := Lib.hid fun w => of_own 0#64 ((M : Int) + 1) (M + 1) (by omega) rfl w
  rw [lo_zero, show (0#64).toNat = 0 from rfl] at HOf1 HOf2
  have HLEN := Lib.hid fun w h => blen_any B nb cb b w h
  have hl := lenN_pos hB (by omega)
  have hlm := lenN_le B nb
  have hl2 : (((lenN B nb : Nat) : Int) == 0) = false := by rw [beq_eq_false_iff_ne]; omega
  have hlb : nb ≤ 4096 := by omega
  generalize lenN B nb = L at *
  go_enter Tryz.func71, Tryz.ntmps71
  go_wp2_with fail
  refine (HOf1.out _).mono ?_
  rintro e w1 ⟨v1, rfl, hown1, hn1⟩
  obtain ⟨g, cq, rfl, hg1, hg2⟩ := own_shape hown1 h0
  go_wp2_with fail
  refine (HOf2.out _).mono ?_
  rintro e w2 ⟨v2, rfl, hown2, hn2⟩
  have hq2 := own_keep hown1 hn2
  have hn12 := hn1.trans hn2
  go_wp2_with fail
  refine (HLEN.out _ (hb.stay hn12)).mono ?_
  rintro e w3 ⟨rfl, rfl⟩
  go_wp2
  have hrest := hown2
  have hbase := hn1.le
  generalize hB1 : w1.heap.size = b1 at hrest
  have hgb : g < b1 := by omega
  have hn0 := hn12
  clear hown1 hown2 hn1 hn2 hn12 hl2 hl HLEN HOf1 HOf2 hg2
  go_loopw [8, 9] (fun v i wr => ∃ j : Nat, j ≤ na ∧ i = .int .i64 ((j : Int) - 1) ∧ wr.ownsRow b1 3 1 v (M + 1) ((bitsOf (A / 2 ^ j % B) (M + 1)).map fun y => .int .i64 y) ∧ wr.ownsRow w.heap.size 3 1 (.slice (some ⟨g, 0, none⟩) na cq) na ((bitsOf (A / 2 ^ j / B * 2 ^ j) na).map fun y => .int .i64 y) ∧ New w wr) (fun _ i _ => (intOf i + 1).toNat)
  case atStart => exact ⟨na, by omega, rfl, by rw [Nat.div_eq_of_lt hA, Nat.zero_mod]; exact hrest, by rw [Nat.div_eq_of_lt hA, Nat.zero_div, Nat.zero_mul]; exact hq2, hn0⟩
  case round =>
    clear hrest hq2 hn0 hB1
    obtain ⟨j, hj, rfl, hown, hq, hnew⟩ := hrel
    by_cases hj0 : j = 0
    · subst hj0
      rw [Nat.pow_zero, Nat.div_one, Nat.mul_one] at hq
      rw [Nat.pow_zero, Nat.div_one] at hown
      go_wp2
      go_ret2
      exact ⟨_, _, rfl, hq, own_low hown (by omega), hnew⟩
    · obtain ⟨k, rfl⟩ : ∃ k, j = k + 1 := ⟨j - 1, by omega⟩
      have ek : ((k + 1 : Nat) : Int) - 1 = (k : Int) := by omega
      have e4 : wrap64 ((k : Int) - 1) = (k : Int) - 1 := by unfold wrap64; omega
      rw [ek]
      have hRB : A / 2 ^ (k + 1) % B < B := Nat.mod_lt _ hB0
      have hBM : B < 2 ^ M := Nat.lt_of_lt_of_le hB (Nat.pow_le_pow_right (by omega) (by omega))
      have hpow : 2 ^ (M + 1) = 2 * 2 ^ M := by rw [Nat.pow_succ, Nat.mul_comm]
      have hbit : A / 2 ^ k % 2 < 2 := Nat.mod_lt _ (by omega)
      have hd1 := div_bit A B k hB0
      have hd0 := div_bit0 A B k hB0
      have hbt : bt A k = ((A / 2 ^ k % 2 : Nat) : Int) := rfl
      generalize A / 2 ^ (k + 1) % B = R at *
      generalize A / 2 ^ (k + 1) / B = Q at *
      generalize hbv : A / 2 ^ k % 2 = bv at *
      obtain ⟨av, cv, rfl, hz⟩ := bits_row hown (by omega)
      obtain ⟨g2, c2, eg2, hg2, hl2⟩ := own_shape hown (by omega)
      clear hj0 hown eg2
      have HD1 := Lib.hid hd1
      have HD0 := Lib.hid hd0
      have HR := Lib.hid hRB
      have HP := Lib.hid hpow
      have HM := Lib.hid hBM
      have HBT := Lib.hid hbt
      clear hd1 hd0 hRB hpow hBM hbt hbv
      go_wp2_with fail
      refine (bshl_own R (M + 1) cv 1 av ((M : Int) + 1) (M + 1) (by omega) hm (by omega) _ hz (by rw [HP.out]; have := HR.out; have := HM.out; omega)).mono ?_
      rintro e w4 ⟨v4, rfl, hown4, hn4⟩
      obtain ⟨g4, c4, rfl, hb4, hl4⟩ := own_shape hown4 (by omega)
      have hn04 := hnew.trans hn4
      obtain ⟨ba, boff, rfl, hca⟩ := (ha.stay hn04).addr (by omega)
      have c1 := hca k (by omega)
      rw [bitsOf_at (by omega), HBT.out] at c1
      obtain ⟨⟨u0, r0⟩, f0⟩ := own_cell' hown4 (k := 0) (by omega)
      have HO := Lib.hid (own_set hown4 0 (.int .i64 (bv : Int)))
      have HQ4 := Lib.hid (own_far (own_keep hq hn4) (a := ⟨g4, 0, none⟩) (by intro e; injection e with e; have e : g = g4 := e; omega) (.int .i64 (bv : Int)))
      have hN5 : New w (w4.setCell ⟨g4, 0, none⟩ (.int .i64 (bv : Int))) := hn04.setCell (by show w.heap.size ≤ g4; have := hnew.le; omega) _
      have HS5 : Hid (b1 ≤ (w4.setCell ⟨g4, 0, none⟩ (.int .i64 (bv : Int))).heap.size) := Lib.hid (by simp; omega)
      have HN5 := Lib.hid hN5
      clear hz hown4 hca hN5 hq hn4
      go_wp2_with fail
      generalize w4.setCell ⟨g4, 0, none⟩ (.int .i64 (bv : Int)) = w5 at *
      have how5 : w5.ownsRow wr.heap.size 3 1 (.slice (some ⟨g4, 0, none⟩) (M + 1) c4) (M + 1) ((bitsOf (2 * R + bv) (M + 1)).map fun y => .int .i64 y) := by
        rw [← bits_set0 _ _ _ (by omega), List.map_set]; exact HO.out
      obtain ⟨a5, c5, e5, hz5⟩ := bits_row how5 (by omega)
      injection e5 with e51 e52 e53
      subst e51 e53
      have hX : 2 * R + bv < 2 ^ (M + 1) := by rw [HP.out]; have := HR.out; have := HM.out; omega
      clear HO c1 r0 f0 hn04
      refine (bcmp_any (2 * R + bv) B (M + 1) nb c4 cb _ _ _ hz5 hX (hb.stay HN5.out) hB).mono ?_
      rintro e w6 ⟨rfl, rfl⟩
      by_cases hge : B ≤ 2 * R + bv
      · obtain ⟨hr1, hq1⟩ := HD1.out hge
        have hc : 0 ≤ cmpN (2 * R + bv) B := by unfold cmpN; rw [if_neg (by omega)]; split <;> omega
        generalize cmpN (2 * R + bv) B = q at *
        have HR1 := Lib.hid hr1
        have HQ1 := Lib.hid hq1
        clear hr1 hq1 HD1 HD0
        go_wp2_with fail
        refine (bsub_own (2 * R + bv) B (M + 1) nb c4 cb _ _ ((M : Int) + 1) (M + 1) (by omega) hm _ hz5 hX (hb.stay HN5.out) hB (2 * R + bv - B + 2 ^ (M + 1)) (by omega)).mono ?_
        rintro e w7 ⟨v7, rfl, hown7, hn7⟩
        generalize cy _ _ _ = l at *
        rw [bits_over, ← HR1.out] at hown7
        have hq7 := own_keep HQ4.out hn7
        obtain ⟨⟨u1, r1⟩, f1⟩ := own_cell' hq7 (k := k) (by omega)
        have HO7 := Lib.hid (own_far hown7 (a := ⟨g, k, none⟩) (own_ne hown7 (by have := HS5.out; show g < _; omega)) (.int .i64 1))
        have HQ7 := Lib.hid (own_set hq7 k (.int .i64 1))
        have HN7 := Lib.hid ((HN5.out.trans hn7).setCell (p := ⟨g, k, none⟩) (by show w.heap.size ≤ g; omega) (.int .i64 1))
        clear hown7 hq7 hn7 how5 hz5 hX
        go_wp2
        refine ⟨⟨k, by omega, rfl, own_low HO7.out HS5.out, ?_, HN7.out⟩, by simp [intOf]⟩
        rw [HQ1.out, ← bits_setk _ _ _ (by omega), List.map_set]; exact HQ7.out
      · obtain ⟨hr1, hq1⟩ := HD0.out hge
        have hc : cmpN (2 * R + bv) B < 0 := by unfold cmpN; rw [if_pos (by omega)]; omega
        generalize cmpN (2 * R + bv) B = q at *
        have HR1 := Lib.hid hr1
        have HQ1 := Lib.hid hq1
        have HO5 := Lib.hid how5
        clear hr1 hq1 HD1 HD0 hz5 how5 hX
        go_wp2
        refine ⟨⟨k, by omega, rfl, by rw [HR1.out]; exact own_low HO5.out (by omega), ?_, HN5.out⟩, by simp [intOf]⟩
        rw [HQ1.out, Nat.mul_comm 2 Q, Nat.mul_assoc, ← Nat.pow_succ']; exact HQ4.out
end Go.Proofs.YtdjlbpgjbgepdaaGreat
end
