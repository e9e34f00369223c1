import Derived.Test.YtebcfbcfipmahaaGreatProg
import Derived.Test.YtebcfbcfipmahaaGreatZ3PkC
import Derived.Deep.OwnRows
import Derived.OneCell
import Derived.Deep.QuietTactic
import Derived.BigQuiet
import Derived.Handy
section
/- Numbers as lists of bits; contracts of the document's own Of, at, Word: for all words. -/
namespace Go.Bv
open Go Go.RowKit
set_option linter.unusedVariables false
set_option maxRecDepth 100000
/-- a number's bit -/
def bt (N i : Nat) : Int := ((N / 2 ^ i % 2 : Nat) : Int)
theorem bt_lt (N i : Nat) : 0 ≤ bt N i ∧ bt N i ≤ 1 := by unfold bt; omega
theorem bt_high {N i : Nat} (h : N < 2 ^ i) : bt N i = 0 := by unfold bt; rw [Nat.div_eq_of_lt h]; rfl
/-- a number's bits, the lowest first -/
def bitsOf (N n : Nat) : List Int := (List.range n).map (bt N)
theorem bitsOf_len (N n : Nat) : (bitsOf N n).length = n := by simp [bitsOf]
theorem bitsOf_at {N n i : Nat} (h : i < n) : (bitsOf N n).getD i 0 = bt N i := by
  unfold bitsOf; rw [List.getD_eq_getElem?_getD, List.getElem?_map, List.getElem?_range h]; rfl
theorem bitsOf_succ (N n : Nat) : bitsOf N (n + 1) = bitsOf N n ++ [bt N n] := by
  unfold bitsOf; rw [List.range_succ, List.map_append]; rfl
theorem bitsOf_wf (N n : Nat) : ∀ z ∈ bitsOf N n, In64 z := by
  intro z hz
  obtain ⟨i, _, rfl⟩ := List.mem_map.1 hz
  have := bt_lt N i
  unfold In64; omega
/-- a bit at any place; 0 where there is none -/
def btI (N : Nat) (i : Int) : Int := if i < 0 then 0 else bt N i.toNat
theorem btI_nat (N i : Nat) : btI N (i : Int) = bt N i := by unfold btI; rw [if_neg (by omega)]; rfl
theorem bt_step (N i : Nat) : N / 2 ^ i = 2 * (N / 2 ^ (i + 1)) + N / 2 ^ i % 2 := by
  rw [Nat.pow_succ, ← Nat.div_div_eq_div_mul]; omega
end Go.Bv
namespace Go.Proofs.YtebcfbcfipmahaaGreat
open Go.RowKit Go.Bv
set_option linter.unusedVariables false
theorem info_int : (Tryz.prog.info? 3).map (fun i => (i.zero, i.size, i.bytes)) = some (some (.int .i64 0), 1, 8) := by kernel_rfl
theorem new_cells_z (w : World) (cs : Array Value) (t : TypeId) : ∀ j u, cs.toList[j]? = some u → (w.alloc (.cells cs t)).cell? ((⟨w.heap.size, 0, none⟩ : Addr).add j) = some u := by
  intro j u h
  rw [add_plain, Nat.zero_add, World.cell?_alloc_new]
  simpa using h
theorem own_keep {w w' : World} {base : Nat} {e : TypeId} {size : Nat} {v : Value} {n : Nat} {xs : List Value} (h : w.ownsRow base e size v n xs) (hn : New w w') : w'.ownsRow base e size v n xs := by
  obtain ⟨hl, h⟩ := h
  refine ⟨hl, ?_⟩
  rcases h with h | ⟨g, cap, cur, hv, hb, hc, h2⟩
  · exact Or.inl h
  · exact Or.inr ⟨g, cap, cur, hv, hb, by rw [hn.block _ (lt_of_block hc)]; exact hc, h2⟩
set_option maxHeartbeats 1000000 in
theorem at_any (N n c : Nat) (a : Option Addr) (i : Int) (w : World) (hr : ZRow w a n c (bitsOf N n)) (hN : N < 2 ^ n) :
    Calls Tryz.prog 108 #[.slice a n c, .int .i64 i] w fun e w' => e = .returned (.int .i64 (btI N i)) ∧ w' = w := by
  have hm := hr.most
  by_cases h0 : i < 0
  · have HE : Hid (btI N i = 0) := Lib.hid (by unfold btI; rw [if_pos h0])
    go_enter Tryz.func108, Tryz.ntmps108
    go_wp2
    go_ret
    rw [HE.out]; exact ⟨rfl, rfl⟩
  · obtain ⟨k, rfl⟩ : ∃ k : Nat, i = (k : Int) := ⟨i.toNat, by omega⟩
    by_cases h1 : (n : Int) ≤ (k : Int)
    · have HE : Hid (btI N (k : Int) = 0) := Lib.hid (by
        rw [btI_nat]; exact bt_high (Nat.lt_of_lt_of_le hN (Nat.pow_le_pow_right (by omega) (by omega))))
      go_enter Tryz.func108, Tryz.ntmps108
      go_wp2
      go_ret
      rw [HE.out]; exact ⟨rfl, rfl⟩
    · obtain ⟨b, off, rfl, hc⟩ := hr.addr (by omega)
      have c1 := hc k (by omega)
      rw [bitsOf_at (by omega)] at c1
      have HE : Hid (btI N (k : Int) = bt N k) := Lib.hid (btI_nat N k)
      clear hc
      go_enter Tryz.func108, Tryz.ntmps108
      go_wp2
      go_ret
      rw [HE.out]; exact ⟨rfl, rfl⟩
set_option maxHeartbeats 1000000 in
theorem of_own (x : BitVec 64) (n : Int) (m : Nat) (hm : m ≤ 4096) (hnm : n = (m : Int)) (w : World) :
    Calls Tryz.prog 111 #[.int .u64 (W64 x), .int .i64 n] w fun e w' =>
      ∃ v, e = .returned v ∧ w'.ownsRow w.heap.size 3 1 v m ((bitsOf x.toNat m).map fun y => .int .i64 y) ∧ New w w' := by
  subst hnm
  obtain ⟨i0, hi, hz0, hz1, hz2⟩ := info_parts info_int
  go_enter Tryz.func111, Tryz.ntmps111
  go_wp2
  go_loopw [5, 6] (fun v i wr => ∃ k : Nat, k ≤ m ∧ i = .int .i64 k ∧ wr.ownsRow w.heap.size 3 1 v k ((bitsOf x.toNat k).map fun y => .int .i64 y) ∧ New w wr) (fun _ i _ => m - (intOf i).toNat)
  case atStart => exact ⟨0, by omega, rfl, World.ownsRow_nil w _ _ 1, New.refl w⟩
  case round =>
    obtain ⟨k, hk, rfl, hown, hnew⟩ := hrel
    by_cases hlt : (k : Int) < m
    · by_cases h64 : (k : Int) < 64
      · have hs : N64 (BitVec.ofNat 64 k) = k := by show (BitVec.ofNat 64 k).toNat = k; rw [BitVec.toNat_ofNat]; exact Nat.mod_eq_of_lt (by omega)
        have hk0 : 0 ≤ (k : Int) := by omega
        have e6 : wrap64 (W64 (x >>> k % 2#64)) = bt x.toNat k := by
          have e : W64 (x >>> k % 2#64) = bt x.toNat k := by
            unfold W64 bt; rw [BitVec.toNat_umod, BitVec.toNat_ushiftRight, Nat.shiftRight_eq_div_pow]; rfl
          have := bt_lt x.toNat k
          rw [e]; unfold wrap64; omega
        go_wp2_with (at_builtin; refine wpList_append_own _ rfl _ _ 55 rfl w.heap.size 3 i0 (.int .i64 0) 1 8 Tryz.underlying55 hi hz0 hz1 hz2 rfl (by decide) _ k _ rfl (hown.alloc _) ⟨wr.heap.size, 0, none⟩ 1 1 [.int .i64 (bt x.toNat k)] rfl rfl ?c1 ?c2 ?c3 ?c4 ?c5 ?_)
        case c1 => exact new_cells_z wr _ _
        case c2 => intro u hu; simp at hu; subst hu; rfl
        case c3 => unfold maxLen; omega
        case c4 => omega
        case c5 => simp; have := hnew.le; omega
        intro v' w1 how hgr _
        have how2 : w1.ownsRow w.heap.size 3 1 v' (k + 1) ((bitsOf x.toNat (k + 1)).map fun y => .int .i64 y) := by
          rw [bitsOf_succ, List.map_append]; exact how
        have hn1 : New w w1 := (hnew.alloc _).grown' hgr (own_base hown)
        clear how hgr
        go_wp2
        exact ⟨⟨k + 1, by omega, by go_num, how2, hn1⟩, by simp [intOf]; omega⟩
      · have HZ : Hid (bt x.toNat k = 0) := Lib.hid (bt_high (Nat.lt_of_lt_of_le x.isLt (Nat.pow_le_pow_right (by omega) (by omega))))
        go_wp2_with (at_builtin; refine wpList_append_own _ rfl _ _ 55 rfl w.heap.size 3 i0 (.int .i64 0) 1 8 Tryz.underlying55 hi hz0 hz1 hz2 rfl (by decide) _ k _ rfl (hown.alloc _) ⟨wr.heap.size, 0, none⟩ 1 1 [.int .i64 0] rfl rfl ?c1 ?c2 ?c3 ?c4 ?c5 ?_)
        case c2 => rfl
        case c3 => unfold maxLen; omega
        case c4 => omega
        case c5 => have := hnew.le; omega
        intro v' w1 how hgr _
        have how2 : w1.ownsRow w.heap.size 3 1 v' (k + 1) ((bitsOf x.toNat (k + 1)).map fun y => .int .i64 y) := by
          rw [bitsOf_succ, List.map_append]
          show w1.ownsRow _ _ _ _ _ (_ ++ [.int .i64 (bt x.toNat k)])
          rw [HZ.out]; exact how
        have hn1 : New w w1 := (hnew.alloc _).grown' hgr (own_base hown)
        clear how hgr
        go_wp2
        exact ⟨⟨k + 1, by omega, by go_num, how2, hn1⟩, by simp [intOf]; omega⟩
    · obtain rfl : k = m := by omega
      go_wp2
      go_ret
      exact ⟨_, rfl, hown, hnew⟩
set_option maxHeartbeats 1000000 in
theorem word_any (N n c f : Nat) (a : Option Addr) (w : World) (hr : ZRow w a n c (bitsOf N n)) (hN : N < 2 ^ n) (hf : f ≤ 4096) :
    Calls Tryz.prog 58 #[.slice a n c, .int .i64 f] w fun e w' => e = .returned (.int .u64 (W64 (BitVec.ofNat 64 (N / 2 ^ f)))) ∧ w' = w := by
  have hm := hr.most
  have HST : Hid (BitVec.ofNat 64 (N / 2 ^ f / 2 ^ 64 * 2 ^ 64 / 2 ^ 64) = BitVec.ofNat 64 (N / 2 ^ f / 2 ^ 64)) := Lib.hid (by rw [Nat.mul_div_cancel _ (Nat.two_pow_pos 64)])
  have H0 : Hid (W64 0#64 = 0) := Lib.hid (W64_lit 0 (by omega))
  have HEND : Hid (∀ o : BitVec 64, o = BitVec.ofNat 64 (N / 2 ^ (f + 0)) - BitVec.ofNat 64 (N / 2 ^ (f + 64)) * BitVec.ofNat 64 (2 ^ 64) → o = BitVec.ofNat 64 (N / 2 ^ f)) := Lib.hid (by
    intro o h
    rw [h, show BitVec.ofNat 64 (2 ^ 64) = 0#64 from rfl, BitVec.mul_zero, BitVec.sub_zero, Nat.add_zero])
  go_enter Tryz.func58, Tryz.ntmps58
  go_wp2
  go_loop [5, 6] (fun O I => ∃ (o : BitVec 64) (j : Nat), j ≤ 64 ∧ I = .int .i64 ((j : Int) - 1) ∧ O = .int .u64 (W64 o) ∧ Hid (o = BitVec.ofNat 64 (N / 2 ^ (f + j)) - BitVec.ofNat 64 (N / 2 ^ (f + 64)) * BitVec.ofNat 64 (2 ^ (64 - j)))) (fun _ I => (intOf I + 1).toNat)
  case atStart => exact ⟨0#64, 64, by omega, rfl, congrArg (Value.int .u64) H0.out.symm, Lib.hid (by rw [show 64 - 64 = 0 by omega, Nat.pow_zero, show BitVec.ofNat 64 1 = 1#64 from rfl, BitVec.mul_one, BitVec.sub_self])⟩
  case round =>
    obtain ⟨o, j, hj, rfl, rfl, H⟩ := hrel
    by_cases h0 : j = 0
    · subst h0
      have HE : Hid (o = BitVec.ofNat 64 (N / 2 ^ f)) := Lib.hid (HEND.out o H.out)
      clear H
      go_wp2
      go_ret
      rw [HE.out]
      exact ⟨rfl, rfl⟩
    · obtain ⟨m, rfl⟩ : ∃ m, j = m + 1 := ⟨j - 1, by omega⟩
      have ei : ((m + 1 : Nat) : Int) - 1 = (m : Int) := by omega
      rw [ei]
      have hw1 : wrap64 ((m : Int) - 1) = (m : Int) - 1 := by unfold wrap64; omega
      have hw2 : wrap64 ((f : Int) + (m : Int)) = (f : Int) + (m : Int) := by unfold wrap64; omega
      have hstep : ∀ b : BitVec 64, b = BitVec.ofNat 64 (N / 2 ^ (f + m) % 2) → o * 2#64 + b = BitVec.ofNat 64 (N / 2 ^ (f + m)) - BitVec.ofNat 64 (N / 2 ^ (f + 64)) * BitVec.ofNat 64 (2 ^ (64 - m)) := by
        intro b hb
        rw [H.out, hb]
        have e1 : BitVec.ofNat 64 (N / 2 ^ (f + m)) = BitVec.ofNat 64 (N / 2 ^ (f + (m + 1))) * 2#64 + BitVec.ofNat 64 (N / 2 ^ (f + m) % 2) := by
          conv => lhs; rw [bt_step N (f + m)]
          rw [BitVec.ofNat_add, BitVec.ofNat_mul, BitVec.mul_comm]; rfl
        have e2 : BitVec.ofNat 64 (2 ^ (64 - m)) = BitVec.ofNat 64 (2 ^ (64 - (m + 1))) * 2#64 := by
          rw [show 64 - m = 64 - (m + 1) + 1 by omega, Nat.pow_succ, BitVec.ofNat_mul]
        rw [e1, e2]
        generalize BitVec.ofNat 64 (N / 2 ^ (f + (m + 1))) = p
        generalize BitVec.ofNat 64 (N / 2 ^ (f + m) % 2) = q
        generalize BitVec.ofNat 64 (N / 2 ^ (f + 64)) = r
        generalize BitVec.ofNat 64 (2 ^ (64 - (m + 1))) = s
        grind
      have HM : Hid (((m : Int) - 1 + 1).toNat < ((m : Int) + 1).toNat) := Lib.hid (by omega)
      by_cases hin : (f : Int) + (m : Int) < (n : Int)
      · obtain ⟨b, off, rfl, hc⟩ := hr.addr (by omega)
        have c1 := hc (f + m) (by omega)
        rw [bitsOf_at (by omega)] at c1
        have ht : ((f : Int) + (m : Int)).toNat = f + m := by omega
        have HG := Lib.hid (hstep (BitVec.ofInt 64 (bt N (f + m))) (by
          unfold bt; apply BitVec.eq_of_toNat_eq; rw [BitVec.toNat_ofInt, BitVec.toNat_ofNat]; omega))
        clear hc hstep H
        generalize bt N (f + m) = z at c1 HG
        go_wp2
        exact ⟨⟨_, m, by omega, rfl, rfl, HG⟩, by simp [intOf]⟩
      · have HG := Lib.hid (hstep 0#64 (by
          have : N / 2 ^ (f + m) = 0 := Nat.div_eq_of_lt (Nat.lt_of_lt_of_le hN (Nat.pow_le_pow_right (by omega) (by omega)))
          rw [this]))
        rw [BitVec.add_zero] at HG
        clear hstep H
        go_wp2
        exact ⟨⟨_, m, by omega, rfl, rfl, HG⟩, by simp [intOf]⟩
end Go.Proofs.YtebcfbcfipmahaaGreat
end
section
/- Contracts of the document's own Add, Sub, Shl, Cmp and To2 of numbers as lists of bits. -/
namespace Go.Bv
open Go Go.RowKit
set_option linter.unusedVariables false
set_option maxRecDepth 100000
/-- what is carried from the lowest bits of a sum -/
def cy (A B k : Nat) : Nat := (A % 2 ^ k + B % 2 ^ k) / 2 ^ k
theorem cy_zero (A B : Nat) : cy A B 0 = 0 := by unfold cy; simp [Nat.mod_one]
theorem cy_le (A B k : Nat) : cy A B k ≤ 1 := by
  unfold cy
  have h1 := Nat.mod_lt A (Nat.two_pow_pos k)
  have h2 := Nat.mod_lt B (Nat.two_pow_pos k)
  have : (A % 2 ^ k + B % 2 ^ k) / 2 ^ k < 2 := by rw [Nat.div_lt_iff_lt_mul (Nat.two_pow_pos k)]; omega
  omega
theorem mod_bit (A k : Nat) : A % 2 ^ (k + 1) = A % 2 ^ k + 2 ^ k * (A / 2 ^ k % 2) := by rw [Nat.pow_succ, Nat.mod_mul]
theorem cy_succ (A B k : Nat) : cy A B (k + 1) = (A / 2 ^ k % 2 + B / 2 ^ k % 2 + cy A B k) / 2 := by
  unfold cy
  rw [mod_bit A k, mod_bit B k, Nat.pow_succ, ← Nat.div_div_eq_div_mul]
  congr 1
  generalize A / 2 ^ k % 2 = p
  generalize B / 2 ^ k % 2 = q
  rw [show A % 2 ^ k + 2 ^ k * p + (B % 2 ^ k + 2 ^ k * q) = 2 ^ k * (p + q) + (A % 2 ^ k + B % 2 ^ k) by rw [Nat.mul_add]; omega]
  exact Nat.mul_add_div (Nat.two_pow_pos k) _ _
theorem add_bit (A B k : Nat) : (A + B) / 2 ^ k % 2 = (A / 2 ^ k % 2 + B / 2 ^ k % 2 + cy A B k) % 2 := by
  have h1 := Nat.div_add_mod A (2 ^ k)
  have h2 := Nat.div_add_mod B (2 ^ k)
  have e : A + B = 2 ^ k * (A / 2 ^ k + B / 2 ^ k) + (A % 2 ^ k + B % 2 ^ k) := by rw [Nat.mul_add]; omega
  have e2 : (A + B) / 2 ^ k = A / 2 ^ k + B / 2 ^ k + cy A B k := by
    conv => lhs; rw [e]
    exact Nat.mul_add_div (Nat.two_pow_pos k) _ _
  rw [e2]; omega
theorem shl_bit (A b i : Nat) : bt (A * 2 ^ b) i = btI A ((i : Int) - (b : Int)) := by
  by_cases h : i < b
  · unfold btI
    rw [if_pos (by omega)]
    unfold bt
    obtain ⟨d, rfl⟩ : ∃ d, b = i + (d + 1) := ⟨b - i - 1, by omega⟩
    rw [Nat.pow_add, show A * (2 ^ i * 2 ^ (d + 1)) = 2 ^ i * (A * 2 ^ (d + 1)) by grind, Nat.mul_div_cancel_left _ (Nat.two_pow_pos i), Nat.pow_succ, ← Nat.mul_assoc, Nat.mul_mod_left]; rfl
  · unfold btI
    rw [if_neg (by omega)]
    obtain ⟨d, rfl⟩ : ∃ d, i = b + d := ⟨i - b, by omega⟩
    rw [show (((b + d : Nat) : Int) - (b : Int)).toNat = d by omega]
    unfold bt
    rw [Nat.pow_add, ← Nat.div_div_eq_div_mul, Nat.mul_div_cancel _ (Nat.two_pow_pos b)]
def cmpN (A B : Nat) : Int := if A < B then -1 else if B < A then 1 else 0
theorem bitsOf_mod (N n : Nat) : bitsOf (N % 2 ^ n) n = bitsOf N n := by
  unfold bitsOf
  apply List.map_congr_left
  intro i hi
  have hi := List.mem_range.1 hi
  unfold bt
  congr 1
  rw [← Nat.mod_mul_right_div_self, ← Nat.mod_mul_right_div_self, ← Nat.pow_succ, Nat.mod_mod_of_dvd]
  exact Nat.pow_dvd_pow 2 (by omega)
end Go.Bv
namespace Go.Proofs.YtebcfbcfipmahaaGreat
open Go.RowKit Go.Bv
set_option linter.unusedVariables false
theorem bits_row {w : World} {base : Nat} {v : Value} {n N : Nat} (h : w.ownsRow base 3 1 v n ((bitsOf N n).map fun y => .int .i64 y)) (hn : n ≤ 4096) :
    ∃ a c, v = .slice a n c ∧ ZRow w a n c (bitsOf N n) := ZRow.of_owns h (by omega) (bitsOf_wf N n)
set_option maxHeartbeats 1000000 in
theorem badd_own (A B na nb ca cb : Nat) (a b : Option Addr) (n : Int) (m : Nat) (hnm : n = (m : Int)) (hm : m ≤ 4096) (w : World) (ha : ZRow w a na ca (bitsOf A na)) (hA : A < 2 ^ na) (hb : ZRow w b nb cb (bitsOf B nb)) (hB : B < 2 ^ nb) :
    Calls Tryz.prog 112 #[.slice a na ca, .slice b nb cb, .int .i64 n] w fun e w' =>
      ∃ v, e = .returned (.tuple #[v, .int .i64 (cy A B m : Nat)]) ∧ w'.ownsRow w.heap.size 3 1 v m ((bitsOf (A + B) m).map fun y => .int .i64 y) ∧ New w w' := by
  subst hnm
  obtain ⟨i0, hi, hz0, hz1, hz2⟩ := info_parts info_int
  have H0 : Hid (cy A B 0 = 0) := Lib.hid (cy_zero A B)
  go_enter Tryz.func112, Tryz.ntmps112
  go_wp2
  go_loopw [8, 9, 10] (fun v cc i wr => ∃ k : Nat, k ≤ m ∧ i = .int .i64 k ∧ cc = .int .i64 (cy A B k : Nat) ∧ wr.ownsRow w.heap.size 3 1 v k ((bitsOf (A + B) k).map fun y => .int .i64 y) ∧ New w wr) (fun _ _ i _ => m - (intOf i).toNat)
  case atStart => exact ⟨0, by omega, rfl, by rw [H0.out]; rfl, World.ownsRow_nil w _ _ 1, New.refl w⟩
  case round =>
    obtain ⟨k, hk, rfl, rfl, hown, hnew⟩ := hrel
    by_cases hlt : (k : Int) < m
    · have ha' := ha.stay hnew
      have hb' := hb.stay hnew
      have hcl := cy_le A B k
      have HS : Hid ((bt A k + bt B k + (cy A B k : Nat)) % 2 = bt (A + B) k ∧ (bt A k + bt B k + (cy A B k : Nat)) / 2 = (cy A B (k + 1) : Nat)) := Lib.hid (by
        have h1 := add_bit A B k
        have h2 := cy_succ A B k
        unfold bt
        rw [h1, h2]
        omega)
      have HA : Hid (∀ w, ZRow w a na ca (bitsOf A na) → Calls Tryz.prog 108 #[.slice a na ca, .int .i64 (k : Int)] w fun e w' => e = .returned (.int .i64 (bt A k)) ∧ w' = w) := Lib.hid fun w h => by
        have := at_any A na ca a (k : Int) w h hA
        rw [btI_nat] at this; exact this
      have HB : Hid (∀ w, ZRow w b nb cb (bitsOf B nb) → Calls Tryz.prog 108 #[.slice b nb cb, .int .i64 (k : Int)] w fun e w' => e = .returned (.int .i64 (bt B k)) ∧ w' = w) := Lib.hid fun w h => by
        have := at_any B nb cb b (k : Int) w h hB
        rw [btI_nat] at this; exact this
      have hp := bt_lt A k
      have hq := bt_lt B k
      have hr : bitsOf (A + B) (k + 1) = bitsOf (A + B) k ++ [bt (A + B) k] := bitsOf_succ _ _
      have HR := Lib.hid hr
      clear hr
      generalize bt A k = p at *
      generalize bt B k = q at *
      generalize bt (A + B) k = s at *
      obtain ⟨c2, hc2⟩ : ∃ c2 : Int, ((cy A B (k + 1) : Nat) : Int) = c2 := ⟨_, rfl⟩
      rw [hc2] at HS
      have HC2 := Lib.hid hc2
      clear hc2
      generalize (cy A B k : Nat) = c1 at *
      have e1 : wrap64 (p + q) = p + q := by unfold wrap64; omega
      have e2 : wrap64 (p + q + (c1 : Int)) = p + q + (c1 : Int) := by unfold wrap64; omega
      have e3 : (p + q + (c1 : Int)).tmod 2 = s := by rw [Int.tmod_eq_emod_of_nonneg (by omega)]; exact HS.out.1
      have e4 : (p + q + (c1 : Int)).tdiv 2 = c2 := by rw [Int.tdiv_eq_ediv_of_nonneg (by omega)]; exact HS.out.2
      have e5 : wrap64 c2 = c2 := by have := HS.out.2; unfold wrap64; omega
      go_wp2_with fail
      refine (HA.out _ ha').mono ?_
      rintro e w' ⟨rfl, rfl⟩
      go_wp2_with fail
      refine (HB.out _ hb').mono ?_
      rintro e w' ⟨rfl, rfl⟩
      go_wp2_with (at_builtin; refine wpList_append_own _ rfl _ _ 55 rfl w.heap.size 3 i0 (.int .i64 0) 1 8 Tryz.underlying55 hi hz0 hz1 hz2 rfl (by decide) _ k _ rfl (hown.alloc _) ⟨w'.heap.size, 0, none⟩ 1 1 [.int .i64 (s)] rfl rfl ?c1 ?c2 ?c3 ?c4 ?c5 ?_)
      case c1 => exact new_cells_z w' _ _
      case c2 => intro u hu; simp at hu; subst hu; rfl
      case c3 => unfold maxLen; omega
      case c4 => omega
      case c5 => simp; have := hnew.le; omega
      intro v' w1 how hgr _
      have how2 : w1.ownsRow w.heap.size 3 1 v' (k + 1) ((bitsOf (A + B) (k + 1)).map fun y => .int .i64 y) := by
        rw [HR.out, List.map_append]; exact how
      have hn1 : New w w1 := (hnew.alloc _).grown' hgr (own_base hown)
      clear how hgr
      go_wp2
      exact ⟨⟨k + 1, by omega, by go_num, by first | rw [e5, HC2.out] | rw [HC2.out], how2, hn1⟩, by simp [intOf]; omega⟩
    · obtain rfl : k = m := by omega
      go_wp2
      go_ret2
      exact ⟨_, rfl, hown, hnew⟩
set_option maxHeartbeats 1000000 in
theorem bshl_own (A na ca by_ : Nat) (a : Option Addr) (n : Int) (m : Nat) (hnm : n = (m : Int)) (hm : m ≤ 4096) (hby : by_ ≤ 4096) (w : World) (ha : ZRow w a na ca (bitsOf A na)) (hA : A < 2 ^ na) :
    Calls Tryz.prog 141 #[.slice a na ca, .int .i64 (by_ : Int), .int .i64 n] w fun e w' =>
      ∃ v, e = .returned v ∧ w'.ownsRow w.heap.size 3 1 v m ((bitsOf (A * 2 ^ by_) m).map fun y => .int .i64 y) ∧ New w w' := by
  subst hnm
  obtain ⟨i0, hi, hz0, hz1, hz2⟩ := info_parts info_int
  go_enter Tryz.func141, Tryz.ntmps141
  go_wp2
  go_loopw [7, 8] (fun v i wr => ∃ k : Nat, k ≤ m ∧ i = .int .i64 k ∧ wr.ownsRow w.heap.size 3 1 v k ((bitsOf (A * 2 ^ by_) k).map fun y => .int .i64 y) ∧ New w wr) (fun _ i _ => m - (intOf i).toNat)
  case atStart => exact ⟨0, by omega, rfl, World.ownsRow_nil w _ _ 1, New.refl w⟩
  case round =>
    obtain ⟨k, hk, rfl, hown, hnew⟩ := hrel
    by_cases hlt : (k : Int) < m
    · have ha' := ha.stay hnew
      have e1 : wrap64 ((k : Int) - (by_ : Int)) = (k : Int) - (by_ : Int) := by unfold wrap64; omega
      have HA : Hid (∀ w, ZRow w a na ca (bitsOf A na) → Calls Tryz.prog 108 #[.slice a na ca, .int .i64 ((k : Int) - (by_ : Int))] w fun e w' => e = .returned (.int .i64 (bt (A * 2 ^ by_) k)) ∧ w' = w) := Lib.hid fun w h => by
        rw [shl_bit]; exact at_any A na ca a _ w h hA
      have HR := Lib.hid (bitsOf_succ (A * 2 ^ by_) k)
      generalize bt (A * 2 ^ by_) k = s at *
      go_wp2_with fail
      refine (HA.out _ ha').mono ?_
      rintro e w' ⟨rfl, rfl⟩
      go_wp2_with (at_builtin; refine wpList_append_own _ rfl _ _ 55 rfl w.heap.size 3 i0 (.int .i64 0) 1 8 Tryz.underlying55 hi hz0 hz1 hz2 rfl (by decide) _ k _ rfl (hown.alloc _) ⟨w'.heap.size, 0, none⟩ 1 1 [.int .i64 (s)] rfl rfl ?c1 ?c2 ?c3 ?c4 ?c5 ?_)
      case c1 => exact new_cells_z w' _ _
      case c2 => intro u hu; simp at hu; subst hu; rfl
      case c3 => unfold maxLen; omega
      case c4 => omega
      case c5 => simp; have := hnew.le; omega
      intro v' w1 how hgr _
      have how2 : w1.ownsRow w.heap.size 3 1 v' (k + 1) ((bitsOf (A * 2 ^ by_) (k + 1)).map fun y => .int .i64 y) := by
        rw [HR.out, List.map_append]; exact how
      have hn1 : New w w1 := (hnew.alloc _).grown' hgr (own_base hown)
      clear how hgr
      go_wp2
      exact ⟨⟨k + 1, by omega, by go_num, how2, hn1⟩, by simp [intOf]; omega⟩
    · obtain rfl : k = m := by omega
      go_wp2
      go_ret
      exact ⟨_, rfl, hown, hnew⟩
end Go.Proofs.YtebcfbcfipmahaaGreat
end
