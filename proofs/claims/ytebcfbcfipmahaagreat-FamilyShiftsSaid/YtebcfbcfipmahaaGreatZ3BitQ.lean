import Derived.Test.YtebcfbcfipmahaaGreatZ3BitA
import Derived.Test.YtebcfbcfipmahaaGreatZ3Frame
import Derived.Deep.RegionLaw
import Derived.Deep.RegionWith
import Derived.Deep.AppendLies
import Derived.Test.YtebcfbcfipmahaaGreatZ3TabB
section
/- The contract of the document's own Of2: for all numbers of two words. · Contracts of the document's own Mul and To4: for all lists of bits. · Contracts of the document's own Shr and Len: for all lists of bits. · The contract of the document's own Div: for all lists of bits. -/
set_option maxRecDepth 100000
namespace Go.Bv
open Go Go.RowKit
set_option linter.unusedVariables false
theorem bits_two (a1 a0 : BitVec 64) : bitsOf a0.toNat 64 ++ bitsOf a1.toNat 64 = bitsOf (two a1 a0) 128 := by
  apply ints_eq (n := 128)
  · rw [List.length_append, bitsOf_len, bitsOf_len]
  · rw [bitsOf_len]
  · intro j hj
    rw [bitsOf_at hj]
    by_cases h : j < 64
    · rw [List.getD_eq_getElem?_getD, List.getElem?_append_left (by rw [bitsOf_len]; exact h), ← List.getD_eq_getElem?_getD, bitsOf_at h]
      unfold bt two
      congr 1
      obtain ⟨d, hd⟩ : ∃ d, 64 = j + (d + 1) := ⟨63 - j, by omega⟩
      rw [show (18446744073709551616 : Nat) = 2 ^ j * 2 ^ (d + 1) by rw [← Nat.pow_add, ← hd], show a1.toNat * (2 ^ j * 2 ^ (d + 1)) = 2 ^ j * (a1.toNat * 2 ^ d * 2) by rw [Nat.pow_succ]; grind, Nat.mul_add_div (Nat.two_pow_pos j)]
      omega
    · rw [List.getD_eq_getElem?_getD, List.getElem?_append_right (by rw [bitsOf_len]; omega), ← List.getD_eq_getElem?_getD, bitsOf_len, bitsOf_at (by omega)]
      unfold bt two
      congr 1
      obtain ⟨d, rfl⟩ : ∃ d, j = 64 + d := ⟨j - 64, by omega⟩
      rw [show 64 + d - 64 = d by omega, Nat.pow_add, ← Nat.div_div_eq_div_mul]
      have := a0.isLt
      rw [show (a1.toNat * 18446744073709551616 + a0.toNat) / 2 ^ 64 = a1.toNat by omega]
end Go.Bv
namespace Go.Proofs.YtebcfbcfipmahaaGreat
open Go.RowKit Go.Bv
set_option linter.unusedVariables false
theorem own_low {w : World} {base base' : Nat} {e : TypeId} {size : Nat} {v : Value} {n : Nat} {xs : List Value} (h : w.ownsRow base e size v n xs) (hb : base' ≤ base) : w.ownsRow base' e size v n xs := by
  obtain ⟨hl, h⟩ := h
  refine ⟨hl, ?_⟩
  rcases h with h | ⟨g, cap, cur, hv, hb', hc, h2⟩
  · exact Or.inl h
  · exact Or.inr ⟨g, cap, cur, hv, by omega, hc, h2⟩
set_option maxHeartbeats 2000000 in
theorem of2_own (a1 a0 : BitVec 64) (w : World) :
    Calls Tryz.prog 110 #[.agg #[.int .u64 (W64 a1), .int .u64 (W64 a0)]] w fun e w' =>
      ∃ v, e = .returned v ∧ w'.ownsRow w.heap.size 3 1 v 128 ((bitsOf (two a1 a0) 128).map fun y => .int .i64 y) ∧ New w w' := by
  obtain ⟨i0, hi, hz0, hz1, hz2⟩ := info_parts info_int
  have HB := Lib.hid (bits_two a1 a0)
  go_enter Tryz.func110, Tryz.ntmps110
  go_wp2_with fail
  have hcA : (w.alloc (.cells #[.int .u64 (W64 a1), .int .u64 (W64 a0)] 63)).cell? ⟨w.heap.size, 0, none⟩ = some (.int .u64 (W64 a1)) := by rw [World.cell?_alloc_new]; rfl
  have hcB : (w.alloc (.cells #[.int .u64 (W64 a1), .int .u64 (W64 a0)] 63)).cell? ⟨w.heap.size, 1, none⟩ = some (.int .u64 (W64 a0)) := by rw [World.cell?_alloc_new]; rfl
  have hN0 : New w (w.alloc (.cells #[.int .u64 (W64 a1), .int .u64 (W64 a0)] 63)) := (New.refl w).alloc _
  have hsz : (w.alloc (.cells #[.int .u64 (W64 a1), .int .u64 (W64 a0)] 63)).heap.size = w.heap.size + 1 := by simp
  generalize w.alloc (.cells #[.int .u64 (W64 a1), .int .u64 (W64 a0)] 63) = w0 at *
  have HA := Lib.hid (show w0.drew.cell? ⟨w.heap.size, 0, none⟩ = some (.int .u64 (W64 a1)) from hcA)
  have HN0 := Lib.hid hN0
  have hsz' : w0.drew.heap.size = w.heap.size + 1 := hsz
  have HSZ := Lib.hid hsz'
  clear hN0 hsz hsz'
  go_region_law (first
    | (refine step_append_lies _ rfl (.tmp 5) (.tmp 8) 55 rfl w.heap.size 3 i0 (.int .i64 0) 1 8 Tryz.underlying55 hi hz0 hz1 hz2 rfl (by decide) _ 64 _ rfl hown2 ⟨b2, o2, none⟩ 64 c2 ((bitsOf a1.toNat 64).map fun y => .int .i64 y) rfl (by simp [bitsOf_len]) (hz2'.olds _ rfl) (by intro u hu; obtain ⟨y, _, rfl⟩ := List.mem_map.1 hu; rfl) (by omega) (by unfold maxLen; omega) (by omega) hle2 _ rfl ?_
       intro g cap w5 how hgr _ _)
    | (go_simp
       go_at_call_of 111 (Value.int IntKind.u64 (W64 a0))
       refine (of_own a0 64 64 (by omega) rfl _).mono ?_
       rintro e w1 ⟨v1, rfl, hown1, hn1⟩
       have HB1 := Lib.hid (show w.heap.size ≤ w0.drew.heap.size by rw [HSZ.out]; omega)
       obtain ⟨av1, c1, rfl, _⟩ := bits_row hown1 (by omega)
       have HOWN1 := Lib.hid hown1
       have hcA1 : w1.cell? ⟨w.heap.size, 0, none⟩ = some (.int .u64 (W64 a1)) := by rw [hn1.cell (a := ⟨w.heap.size, 0, none⟩) (World.block_lt_of_cell? _ _ HA.out)]; exact HA.out
       have HN01 := Lib.hid (HN0.out.drew.trans hn1)
       clear hown1 hn1)
    | (go_simp
       go_at_call_of 111 (Value.int IntKind.u64 (W64 a1))
       refine (of_own a1 64 64 (by omega) rfl _).mono ?_
       rintro e w2 ⟨v2, rfl, hown2', hn2⟩
       obtain ⟨av2, c2, rfl, hz2'⟩ := bits_row hown2' (by omega)
       obtain ⟨b2, o2, rfl, _⟩ := hz2'.addr (by omega)
       have hown2 := own_low (own_keep HOWN1.out hn2) HB1.out
       have hn02 : New w w2 := HN01.out.trans hn2
       have hle2 : w.heap.size ≤ w2.heap.size := hn02.le))
  all_goals (
    have how2 : w5.ownsRow w.heap.size 3 1 (.slice (some ⟨g, 0, none⟩) (64 + 64) cap) 128 ((bitsOf (two a1 a0) 128).map fun y => .int .i64 y) := by
      rw [← HB.out, List.map_append]; exact how
    have hn5 : New w w5 := hn02.grown' hgr (own_base hown2)
    clear how hgr
    go_wp2
    go_ret
    exact ⟨_, rfl, how2, hn5⟩)
end Go.Proofs.YtebcfbcfipmahaaGreat
namespace Go.Bv
theorem mul_bit0 (A B k : Nat) (h : B / 2 ^ k % 2 = 0) : A * (B % 2 ^ (k + 1)) = A * (B % 2 ^ k) := by
  rw [mod_bit, h, Nat.mul_zero, Nat.add_zero]
theorem mul_bit1 (A B k : Nat) (h : B / 2 ^ k % 2 = 1) : A * (B % 2 ^ (k + 1)) = A * (B % 2 ^ k) + A * 2 ^ k := by
  rw [mod_bit, h, Nat.mul_one, Nat.mul_add]
theorem bits_mod_add (X Y m : Nat) : bitsOf (X % 2 ^ m + Y % 2 ^ m) m = bitsOf (X + Y) m := by
  rw [← bitsOf_mod (X % 2 ^ m + Y % 2 ^ m), ← Nat.add_mod, bitsOf_mod]
end Go.Bv
namespace Go.Proofs.YtebcfbcfipmahaaGreat
open Go.RowKit Go.Bv
set_option linter.unusedVariables false
set_option maxHeartbeats 1000000 in
theorem bmul_own (A B na nb ca cb : Nat) (a b : Option Addr) (n : Int) (m : Nat) (hnm : n = (m : Int)) (hm : m ≤ 4096) (hnb : nb ≤ 4096) (w : World) (ha : ZRow w a na ca (bitsOf A na)) (hA : A < 2 ^ na) (hb : ZRow w b nb cb (bitsOf B nb)) (hB : B < 2 ^ nb) :
    Calls Tryz.prog 109 #[.slice a na ca, .slice b nb cb, .int .i64 n] w fun e w' =>
      ∃ v, e = .returned v ∧ w'.ownsRow w.heap.size 3 1 v m ((bitsOf (A * B) m).map fun y => .int .i64 y) ∧ New w w' := by
  subst hnm
  have cOf := fun w => of_own 0#64 (m : Int) m hm rfl w
  rw [lo_zero, show (0#64).toNat = 0 from rfl] at cOf
  have HOf := Lib.hid cOf
  have HB0 := Lib.hid hb.addr
  have HEND := Lib.hid (Nat.mod_eq_of_lt hB)
  have HZ := Lib.hid (show A * (B % 2 ^ 0) = 0 by rw [Nat.pow_zero, Nat.mod_one, Nat.mul_zero])
  have HA := Lib.hid hA
  clear cOf hA hB
  go_enter Tryz.func109, Tryz.ntmps109
  go_wp2_with fail
  refine (HOf.out _).mono ?_
  rintro e w1 ⟨v1, rfl, hown1, hn1⟩
  go_wp2
  go_loopw [7, 8] (fun v i wr => ∃ k : Nat, k ≤ nb ∧ i = .int .i64 k ∧ wr.ownsRow w.heap.size 3 1 v m ((bitsOf (A * (B % 2 ^ k)) m).map fun y => .int .i64 y) ∧ New w wr) (fun _ i _ => nb - (intOf i).toNat)
  case atStart => exact ⟨0, by omega, rfl, by rw [HZ.out]; exact hown1, hn1⟩
  case round =>
    obtain ⟨k, hk, rfl, hown, hnew⟩ := hrel
    by_cases hlt : (k : Int) < nb
    · obtain ⟨bb, boff, rfl, hc⟩ := HB0.out (by omega)
      have c1 := (hb.stay hnew).cell bb boff rfl k (by omega)
      rw [bitsOf_at (by omega)] at c1
      clear hc
      by_cases hbit : B / 2 ^ k % 2 = 1
      · have e1 : bt B k = 1 := by unfold bt; rw [hbit]; rfl
        rw [e1] at c1
        have HS := Lib.hid (mul_bit1 A B k hbit)
        obtain ⟨av, cv, rfl, hz⟩ := bits_row hown (by omega)
        have ha' := ha.stay hnew
        clear hbit e1
        go_wp2_with fail
        refine (bshl_own A na ca k a (m : Int) m rfl hm (by omega) _ ha' HA.out).mono ?_
        rintro e w2 ⟨v2, rfl, hown2, hn2⟩
        obtain ⟨av2, cv2, rfl, hz2⟩ := bits_row hown2 (by omega)
        have hz' := hz.stay hn2
        rw [← bitsOf_mod] at hz' hz2
        go_wp2_with fail
        refine (badd_own _ _ m m cv cv2 av av2 (m : Int) m rfl hm _ hz' (Nat.mod_lt _ (Nat.two_pow_pos _)) hz2 (Nat.mod_lt _ (Nat.two_pow_pos _))).mono ?_
        rintro e w3 ⟨v3, rfl, hown3, hn3⟩
        rw [bits_mod_add, ← HS.out] at hown3
        have hn13 := hn2.trans hn3
        have how := own_low hown3 (show w.heap.size ≤ w2.heap.size from (hnew.trans hn2).le)
        have hnn := hnew.trans hn13
        clear hown3 hown2 hown hz hz2 hz' hn3 hn2 HS
        generalize cy _ _ m = q
        go_wp2
        exact ⟨⟨k + 1, by omega, by go_num, how, hnn⟩, by simp [intOf]; omega⟩
      · have e0 : B / 2 ^ k % 2 = 0 := by omega
        have e1 : bt B k = 0 := by unfold bt; rw [e0]; rfl
        rw [e1] at c1
        rw [← mul_bit0 A B k e0] at hown
        clear hbit e0 e1
        go_wp2
        exact ⟨⟨k + 1, by omega, by go_num, hown, hnew⟩, by simp [intOf]; omega⟩
    · obtain rfl : k = nb := by omega
      rw [HEND.out] at hown
      go_wp2
      go_ret
      exact ⟨_, rfl, hown, hnew⟩
end Go.Proofs.YtebcfbcfipmahaaGreat
namespace Go.Bv
open Go Go.RowKit
theorem shr_bit (A b i : Nat) : bt (A / 2 ^ b) i = btI A ((i : Int) + (b : Int)) := by
  rw [show (i : Int) + (b : Int) = ((i + b : Nat) : Int) by omega, btI_nat]
  unfold bt
  rw [Nat.div_div_eq_div_mul, ← Nat.pow_add, Nat.add_comm b i]
/-- one more than the greatest bit that is set, below k -/
def lenN (A : Nat) : Nat → Nat
  | 0 => 0
  | k + 1 => if A / 2 ^ k % 2 = 1 then k + 1 else lenN A k
end Go.Bv
namespace Go.Proofs.YtebcfbcfipmahaaGreat
open Go.RowKit Go.Bv
set_option linter.unusedVariables false
set_option maxHeartbeats 1000000 in
theorem bshr_own (A na ca by_ : Nat) (a : Option Addr) (n : Int) (m : Nat) (hnm : n = (m : Int)) (hm : m ≤ 4096) (hby : by_ ≤ 4096) (w : World) (ha : ZRow w a na ca (bitsOf A na)) (hA : A < 2 ^ na) :
    Calls Tryz.prog 59 #[.slice a na ca, .int .i64 (by_ : Int), .int .i64 n] w fun e w' =>
      ∃ v, e = .returned v ∧ w'.ownsRow w.heap.size 3 1 v m ((bitsOf (A / 2 ^ by_) m).map fun y => .int .i64 y) ∧ New w w' := by
  subst hnm
  obtain ⟨i0, hi, hz0, hz1, hz2⟩ := info_parts info_int
  go_enter Tryz.func59, Tryz.ntmps59
  go_wp2
  go_loopw [7, 8] (fun v i wr => ∃ k : Nat, k ≤ m ∧ i = .int .i64 k ∧ wr.ownsRow w.heap.size 3 1 v k ((bitsOf (A / 2 ^ by_) k).map fun y => .int .i64 y) ∧ New w wr) (fun _ i _ => m - (intOf i).toNat)
  case atStart => exact ⟨0, by omega, rfl, World.ownsRow_nil w _ _ 1, New.refl w⟩
  case round =>
    obtain ⟨k, hk, rfl, hown, hnew⟩ := hrel
    by_cases hlt : (k : Int) < m
    · have ha' := ha.stay hnew
      have e1 : wrap64 ((k : Int) + (by_ : Int)) = (k : Int) + (by_ : Int) := by unfold wrap64; omega
      have HA : Hid (∀ w, ZRow w a na ca (bitsOf A na) → Calls Tryz.prog 108 #[.slice a na ca, .int .i64 ((k : Int) + (by_ : Int))] w fun e w' => e = .returned (.int .i64 (bt (A / 2 ^ by_) k)) ∧ w' = w) := Lib.hid fun w h => by
        rw [shr_bit]; exact at_any A na ca a _ w h hA
      have HR := Lib.hid (bitsOf_succ (A / 2 ^ by_) k)
      generalize bt (A / 2 ^ by_) k = s at *
      go_wp2_with fail
      refine (HA.out _ ha').mono ?_
      rintro e w' ⟨rfl, rfl⟩
      go_wp2_with (at_builtin; refine wpList_append_own _ rfl _ _ 55 rfl w.heap.size 3 i0 (.int .i64 0) 1 8 Tryz.underlying55 hi hz0 hz1 hz2 rfl (by decide) _ k _ rfl (hown.alloc _) ⟨w'.heap.size, 0, none⟩ 1 1 [.int .i64 (s)] rfl rfl ?c1 ?c2 ?c3 ?c4 ?c5 ?_)
      case c1 => exact new_cells_z w' _ _
      case c2 => intro u hu; simp at hu; subst hu; rfl
      case c3 => unfold maxLen; omega
      case c4 => omega
      case c5 => simp; have := hnew.le; omega
      intro v' w1 how hgr _
      have how2 : w1.ownsRow w.heap.size 3 1 v' (k + 1) ((bitsOf (A / 2 ^ by_) (k + 1)).map fun y => .int .i64 y) := by
        rw [HR.out, List.map_append]; exact how
      have hn1 : New w w1 := (hnew.alloc _).grown' hgr (own_base hown)
      clear how hgr
      go_wp2
      exact ⟨⟨k + 1, by omega, by go_num, how2, hn1⟩, by simp [intOf]; omega⟩
    · obtain rfl : k = m := by omega
      go_wp2
      go_ret
      exact ⟨_, rfl, hown, hnew⟩
end Go.Proofs.YtebcfbcfipmahaaGreat
namespace Go.Bv
open Go Go.RowKit
end Go.Bv
namespace Go.Proofs.YtebcfbcfipmahaaGreat
open Go.RowKit Go.Bv
set_option linter.unusedVariables false
end Go.Proofs.YtebcfbcfipmahaaGreat
end
section
/- Contracts of tabs.Check, tabs.Eval and of the document's own Low, Check, Eval: for all words, all keys. -/
namespace Go.Bv
open Go Go.RowKit
/-- the lowest bits of a word -/
def lowN (x : BitVec 64) (b : Nat) : BitVec 64 := BitVec.ofNat 64 (x.toNat % 2 ^ b)
theorem lowN_nat (x : BitVec 64) (b : Nat) (hb : b ≤ 64) : (lowN x b).toNat = x.toNat % 2 ^ b := by
  unfold lowN
  rw [BitVec.toNat_ofNat]
  refine Nat.mod_eq_of_lt ?_
  have := Nat.mod_lt x.toNat (Nat.two_pow_pos b)
  have h2 : 2 ^ b ≤ 2 ^ 64 := Nat.pow_le_pow_right (by omega) hb
  omega
theorem lowN_shift (x : BitVec 64) (b : Nat) (hb : b ≤ 64) : x <<< (64 - b) >>> (64 - b) = lowN x b := by
  apply BitVec.eq_of_toNat_eq
  rw [lowN_nat _ _ hb, BitVec.toNat_ushiftRight, BitVec.toNat_shiftLeft, Nat.shiftRight_eq_div_pow, Nat.shiftLeft_eq]
  have e : 2 ^ 64 = 2 ^ b * 2 ^ (64 - b) := by rw [← Nat.pow_add]; congr 1; omega
  rw [e, Nat.mul_mod_mul_right, Nat.mul_div_cancel _ (Nat.two_pow_pos _)]
theorem lowN_succ (x : BitVec 64) (k : Nat) (hk : k < 64) : lowN x k + x >>> k % 2#64 * (1#64 <<< k) = lowN x (k + 1) := by
  apply BitVec.eq_of_toNat_eq
  have h1 : (1#64 <<< k).toNat = 2 ^ k := by
    rw [BitVec.toNat_shiftLeft, Nat.shiftLeft_eq, show (1#64).toNat = 1 from rfl, Nat.one_mul]
    exact Nat.mod_eq_of_lt (Nat.pow_lt_pow_right (by omega) hk)
  have h2 : (x >>> k % 2#64).toNat = x.toNat / 2 ^ k % 2 := by
    rw [BitVec.toNat_umod, BitVec.toNat_ushiftRight, Nat.shiftRight_eq_div_pow]; rfl
  rw [lowN_nat _ _ (by omega), BitVec.toNat_add, BitVec.toNat_mul, h1, h2, lowN_nat _ _ (by omega)]
  have h3 : x.toNat % 2 ^ (k + 1) = x.toNat % 2 ^ k + 2 ^ k * (x.toNat / 2 ^ k % 2) := by rw [Nat.pow_succ, Nat.mod_mul]
  have h4 : x.toNat % 2 ^ (k + 1) < 2 ^ 64 := Nat.lt_of_lt_of_le (Nat.mod_lt _ (Nat.two_pow_pos _)) (Nat.pow_le_pow_right (by omega) (by omega))
  rw [h3] at h4 ⊢
  rw [Nat.mul_comm (2 ^ k)] at h4 ⊢
  rw [Nat.mod_eq_of_lt (a := x.toNat / 2 ^ k % 2 * 2 ^ k) (by omega)]
  exact Nat.mod_eq_of_lt h4
theorem one_shl_succ (k : Nat) : 1#64 <<< k * 2#64 = 1#64 <<< (k + 1) := by
  apply BitVec.eq_of_toNat_eq
  rw [BitVec.toNat_mul, BitVec.toNat_shiftLeft, BitVec.toNat_shiftLeft, Nat.shiftLeft_eq, Nat.shiftLeft_eq, show (2#64).toNat = 2 from rfl, Nat.pow_succ, show (1#64).toNat = 1 from rfl]
  rw [Nat.mod_mul_mod, Nat.mul_assoc, show 2 ^ k * 2 = 2 ^ (k + 1) from (Nat.pow_succ ..).symm]
theorem half_shr (x : BitVec 64) (k : Nat) : x >>> k / 2#64 = x >>> (k + 1) := by
  apply BitVec.eq_of_toNat_eq
  rw [BitVec.toNat_udiv, BitVec.toNat_ushiftRight, BitVec.toNat_ushiftRight, Nat.shiftRight_eq_div_pow, Nat.shiftRight_eq_div_pow, show (2#64).toNat = 2 from rfl, Nat.div_div_eq_div_mul, ← Nat.pow_succ]
theorem lowN_zero (x : BitVec 64) : lowN x 0 = 0#64 := by
  apply BitVec.eq_of_toNat_eq; rw [lowN_nat _ _ (by omega)]; simp [Nat.mod_one]
end Go.Bv
namespace Go.Proofs.YtebcfbcfipmahaaGreat
open Go.RowKit Go.Bv
set_option linter.unusedVariables false
set_option maxRecDepth 100000
set_option maxHeartbeats 1000000 in
theorem low_ref (x : BitVec 64) (n : Int) (m : Nat) (hn : n = (m : Int)) (hm : m ≤ 64) (w : World) :
    Calls Tryz.prog 62 #[.int .u64 (W64 x), .int .i64 n] w fun e w' => e = .returned (.int .u64 (W64 (lowN x m))) ∧ w' = w := by
  subst hn
  have h0 : W64 (lowN x 0) = 0 := by rw [lowN_zero]; exact W64_lit 0 (by omega)
  have h1 : W64 (1#64 <<< 0) = 1 := by rw [show 1#64 <<< 0 = 1#64 from rfl]; exact W64_lit 1 (by omega)
  have h2 : x >>> 0 = x := by simp
  have H0 := Lib.hid h0
  have H1 := Lib.hid h1
  have H2 := Lib.hid h2
  clear h0 h1 h2
  go_enter Tryz.func62, Tryz.ntmps62
  go_wp2
  go_loop [0, 5, 6, 7] (fun xv o p i => ∃ k : Nat, k ≤ m ∧ i = .int .i64 k ∧ xv = .int .u64 (W64 (x >>> k)) ∧ o = .int .u64 (W64 (lowN x k)) ∧ p = .int .u64 (W64 (1#64 <<< k))) (fun _ _ _ i => m - (intOf i).toNat)
  case atStart => exact ⟨0, by omega, rfl, by rw [H2.out], by rw [H0.out], by rw [H1.out]⟩
  case round =>
    obtain ⟨k, hk, rfl, rfl, rfl, rfl⟩ := hrel
    by_cases hlt : (k : Int) < m
    · have e1 := lowN_succ x k (by omega)
      have e2 := one_shl_succ k
      have e3 := half_shr x k
      have E1 := Lib.hid e1
      clear e1
      go_wp2
      refine ⟨⟨k + 1, by omega, by go_num, rfl, ?_, rfl⟩, by simp [intOf]; omega⟩
      rw [← E1.out, mul_shl]
    · obtain rfl : k = m := by omega
      go_wp2
      go_ret
      exact ⟨rfl, rfl⟩
set_option maxHeartbeats 1000000 in
theorem lowest_any (x : BitVec 64) (n : Int) (m : Nat) (hn : n = (m : Int)) (hm : m ≤ 64) (w : World) :
    Calls Tryz.prog 94 #[.int .u64 (W64 x), .int .i64 n] w fun e w' => e = .returned (.int .u64 (W64 (lowN x m))) ∧ w' = w := by
  subst hn
  have e1 : wrap64 (64 - (m : Int)) = 64 - (m : Int) := by unfold wrap64; omega
  have e2 : 0 ≤ 64 - (m : Int) := by omega
  have e3 : (64 - (m : Int)).toNat = 64 - m := by omega
  have e4 := lowN_shift x m hm
  have E4 := Lib.hid e4
  clear e4
  go_enter Tryz.func94, Tryz.ntmps94
  go_wp2
  go_ret
  exact ⟨ret64 E4.out, rfl⟩
/-- what is wrong with a seed -/
def chk (bits : Int) (n : Nat) (N : Int) : Int := if bits < 1 ∨ 64 < bits then 1 else if (n : Int) ≠ N then 13 else 0
set_option maxHeartbeats 1000000 in
theorem check_ref (a : Option Addr) (n c : Nat) (bits N : Int) (w : World) (hn : n ≤ 17592186044416) :
    Calls Tryz.prog 61 #[.slice a n c, .int .i64 bits, .int .i64 N] w fun e w' => e = .returned (.int .i64 (chk bits n N)) ∧ w' = w := by
  by_cases h1 : bits < 1
  · have h : chk bits n N = 1 := by unfold chk; rw [if_pos (Or.inl h1)]
    have H := Lib.hid h
    clear h
    go_enter Tryz.func61, Tryz.ntmps61
    go_wp2
    go_ret
    rw [H.out]; exact ⟨rfl, rfl⟩
  · by_cases h2 : 64 < bits
    · have h : chk bits n N = 1 := by unfold chk; rw [if_pos (Or.inr h2)]
      have H := Lib.hid h
      clear h
      go_enter Tryz.func61, Tryz.ntmps61
      go_wp2
      go_ret
      rw [H.out]; exact ⟨rfl, rfl⟩
    · by_cases h3 : (n : Int) = N
      · have h : chk bits n N = 0 := by unfold chk; rw [if_neg (by omega), if_neg (by omega)]
        have H := Lib.hid h
        have hb : ((n : Int) != N) = false := by rw [bne_eq_false_iff_eq]; exact h3
        clear h h3
        go_enter Tryz.func61, Tryz.ntmps61
        go_wp2
        go_ret
        rw [H.out]; exact ⟨rfl, rfl⟩
      · have h : chk bits n N = 13 := by unfold chk; rw [if_neg (by omega), if_pos h3]
        have H := Lib.hid h
        have hb : ((n : Int) != N) = true := by rw [bne_iff_ne]; exact h3
        clear h h3
        go_enter Tryz.func61, Tryz.ntmps61
        go_wp2
        go_ret
        rw [H.out]; exact ⟨rfl, rfl⟩
set_option maxHeartbeats 1000000 in
theorem check_any (a : Option Addr) (n c : Nat) (bits : Int) (w : World) (hn : n ≤ 17592186044416) :
    Calls Tryz.prog 90 #[.slice a n c, .int .i64 bits] w fun e w' => e = .returned (.int .i64 (chk bits n 128)) ∧ w' = w := by
  by_cases h1 : bits < 1
  · have h : chk bits n 128 = 1 := by unfold chk; rw [if_pos (Or.inl h1)]
    have H := Lib.hid h
    clear h
    go_enter Tryz.func90, Tryz.ntmps90
    go_wp2
    go_ret
    rw [H.out]; exact ⟨rfl, rfl⟩
  · by_cases h2 : 64 < bits
    · have h : chk bits n 128 = 1 := by unfold chk; rw [if_pos (Or.inr h2)]
      have H := Lib.hid h
      clear h
      go_enter Tryz.func90, Tryz.ntmps90
      go_wp2
      go_ret
      rw [H.out]; exact ⟨rfl, rfl⟩
    · by_cases h3 : (n : Int) = 128
      · have h : chk bits n 128 = 0 := by unfold chk; rw [if_neg (by omega), if_neg (by omega)]
        have H := Lib.hid h
        have hb : ((n : Int) != 128) = false := by rw [bne_eq_false_iff_eq]; exact h3
        clear h h3
        go_enter Tryz.func90, Tryz.ntmps90
        go_wp2
        go_ret
        rw [H.out]; exact ⟨rfl, rfl⟩
      · have h : chk bits n 128 = 13 := by unfold chk; rw [if_neg (by omega), if_pos h3]
        have H := Lib.hid h
        have hb : ((n : Int) != 128) = true := by rw [bne_iff_ne]; exact h3
        clear h h3
        go_enter Tryz.func90, Tryz.ntmps90
        go_wp2
        go_ret
        rw [H.out]; exact ⟨rfl, rfl⟩
theorem shr32_big {x : BitVec 64} (h : ¬ x.toNat < 4294967296) : (x >>> 32 == 0#64) = false := by
  rw [beq_eq_false_iff_ne]; intro e
  have := congrArg BitVec.toNat e
  rw [BitVec.toNat_ushiftRight, Nat.shiftRight_eq_div_pow] at this
  simp at this
  omega
theorem shr32_small {x : BitVec 64} (h : x.toNat < 4294967296) : (x >>> 32 == 0#64) = true := by
  rw [beq_iff_eq]
  apply BitVec.eq_of_toNat_eq
  rw [BitVec.toNat_ushiftRight, Nat.shiftRight_eq_div_pow]
  simp
  omega
theorem lets_all (x : BitVec 64) (m : Nat) : (lets x m).all okc = true := by
  rw [List.all_eq_true]; intro c hc; exact okc_true (lets_mem x m c hc)
theorem fit_lets (x : BitVec 64) (n m : Nat) (h : n = 16 * m) : fitE n (lets x m) = 0 := by
  unfold fitE; rw [if_neg (by rw [lets_len, h]; simp), lets_all]; rfl
theorem sv_lets (l : List (BitVec 64)) (x : BitVec 64) (m : Nat) (h : l.length = 16 * m) : sv l (lets x m) = xs l (lets x m) m := by
  unfold sv; rw [if_pos (fit_lets x _ m h), lets_len]
theorem chk_good {bits : Int} {n : Nat} {N : Int} (h : chk bits n N = 0) : 1 ≤ bits ∧ bits ≤ 64 ∧ (n : Int) = N := by
  unfold chk at h
  by_cases h1 : bits < 1 ∨ 64 < bits
  · rw [if_pos h1] at h; cases h
  · rw [if_neg h1] at h
    by_cases h2 : (n : Int) = N
    · omega
    · rw [if_pos h2] at h; cases h
/-- what is wrong with a seed, or with a key -/
def evE (bits : Int) (n : Nat) (N : Int) (x : BitVec 64) : Int := if chk bits n N ≠ 0 then chk bits n N else if x.toNat < 4294967296 then 0 else 2
/-- what a seed brings a key to -/
def evV (l : List (BitVec 64)) (bits : Int) (N : Int) (x : BitVec 64) : BitVec 64 := if evE bits l.length N x = 0 then lowN (xs l (lets x 8) 8) bits.toNat else 0#64
set_option maxHeartbeats 1000000 in
theorem eval_any (a : Option Addr) (n c : Nat) (l : List (BitVec 64)) (bits : Int) (x : BitVec 64) (w : World) (ha : QRow w a n c l) :
    Calls Tryz.prog 48 #[.slice a n c, .int .i64 bits, .int .u64 (W64 x)] w fun e w' => e = .returned (.tuple #[.int .u64 (W64 (evV l bits 128 x)), .int .i64 (evE bits l.length 128 x)]) ∧ New w w' := by
  have hm := ha.most
  have hck : ∀ w, Calls Tryz.prog 90 #[.slice a n c, .int .i64 bits] w fun e w' => e = .returned (.int .i64 (chk bits l.length 128)) ∧ w' = w := by
    rw [ha.len_eq]; exact fun w => check_any a n c bits w hm
  have HCK := Lib.hid hck
  clear hck
  have HL := Lib.hid ha.len_eq
  by_cases h1 : chk bits l.length 128 = 0
  · obtain ⟨b1, b2, b3⟩ := chk_good h1
    by_cases h2 : x.toNat < 4294967296
    · have hE : evE bits l.length 128 x = 0 := by unfold evE; rw [if_neg (by rw [h1]; simp), if_pos h2]
      have hV : evV l bits 128 x = lowN (xs l (lets x 8) 8) bits.toNat := by unfold evV; rw [if_pos hE]
      have hlow := fun (y : BitVec 64) w => lowest_any y bits bits.toNat (by omega) (by omega) w
      have hfit : fitE l.length (lets x 8) = 0 := fit_lets x _ 8 (by omega)
      have hsv := sv_lets l x 8 (by omega)
      have HE := Lib.hid hE
      have HV := Lib.hid hV
      have HLOW := Lib.hid hlow
      have HFIT := Lib.hid hfit
      have HSV := Lib.hid hsv
      have hx := shr32_small h2
      rw [h1] at HCK
      clear hE hV hlow hfit hsv h1 h2 b3
      go_enter Tryz.func48, Tryz.ntmps48
      go_wp2_with (first
        | (go_at_call 90; refine (HCK.out _).mono ?_; rintro e w' ⟨rfl, rfl⟩)
        | (go_at_call 91; go_in))
      refine (chars_any x 8 8 (by omega) (by decide) _).mono ?_
      rintro e w1 ⟨a1, c1, rfl, hrow, hn1⟩
      go_wp2_with fail
      refine (sum_any _ _ _ _ _ _ _ _ _ (ha.stay hn1) hrow).mono ?_
      rintro e w2 ⟨rfl, hn2⟩
      rw [HFIT.out, HSV.out]
      go_wp2_with fail
      refine (HLOW.out _ _).mono ?_
      rintro e w3 ⟨rfl, rfl⟩
      go_wp2
      go_ret2
      rw [HE.out, HV.out]
      exact ⟨rfl, hn1.trans hn2⟩
    · have hE : evE bits l.length 128 x = 2 := by unfold evE; rw [if_neg (by rw [h1]; simp), if_neg h2]
      have hV : evV l bits 128 x = 0#64 := by unfold evV; rw [hE]; rfl
      have HE := Lib.hid hE
      have HV := Lib.hid hV
      have hx := shr32_big h2
      rw [h1] at HCK
      clear hE hV h1 h2 b3
      go_enter Tryz.func48, Tryz.ntmps48
      go_wp2_with (first
        | (go_at_call 90; refine (HCK.out _).mono ?_; rintro e w' ⟨rfl, rfl⟩)
        | (go_at_call 91; go_in))
      go_ret2
      rw [HE.out, HV.out]
      exact ⟨rfl, New.refl _⟩
  · have hE : evE bits l.length 128 x = chk bits l.length 128 := by unfold evE; rw [if_pos h1]
    have hV : evV l bits 128 x = 0#64 := by unfold evV; rw [hE, if_neg h1]
    have HE := Lib.hid hE
    have HV := Lib.hid hV
    have hne : (chk bits l.length 128 != 0) = true := by rw [bne_iff_ne]; exact h1
    clear hE hV h1
    generalize chk bits l.length 128 = q at HCK hne HE
    go_enter Tryz.func48, Tryz.ntmps48
    go_wp2_with (first
        | (go_at_call 90; refine (HCK.out _).mono ?_; rintro e w' ⟨rfl, rfl⟩)
        | (go_at_call 91; go_in))
    go_ret2
    rw [HE.out, HV.out]
    exact ⟨rfl, New.refl _⟩
set_option maxHeartbeats 1000000 in
theorem eval_ref (a : Option Addr) (n c : Nat) (l : List (BitVec 64)) (bits : Int) (x : BitVec 64) (w : World) (ha : QRow w a n c l) :
    Calls Tryz.prog 34 #[.slice a n c, .int .i64 bits, .int .u64 (W64 x)] w fun e w' => e = .returned (.tuple #[.int .u64 (W64 (evV l bits 128 x)), .int .i64 (evE bits l.length 128 x)]) ∧ New w w' := by
  have hm := ha.most
  have hck : ∀ w, Calls Tryz.prog 61 #[.slice a n c, .int .i64 bits, .int .i64 128] w fun e w' => e = .returned (.int .i64 (chk bits l.length 128)) ∧ w' = w := by
    rw [ha.len_eq]; exact fun w => check_ref a n c bits 128 w hm
  have HCK := Lib.hid hck
  clear hck
  have HL := Lib.hid ha.len_eq
  by_cases h1 : chk bits l.length 128 = 0
  · obtain ⟨b1, b2, b3⟩ := chk_good h1
    by_cases h2 : x.toNat < 4294967296
    · have hE : evE bits l.length 128 x = 0 := by unfold evE; rw [if_neg (by rw [h1]; simp), if_pos h2]
      have hV : evV l bits 128 x = lowN (xs l (lets x 8) 8) bits.toNat := by unfold evV; rw [if_pos hE]
      have hlow := fun (y : BitVec 64) w => low_ref y bits bits.toNat (by omega) (by omega) w
      have hfit : fitE l.length (lets x 8) = 0 := fit_lets x _ 8 (by omega)
      have HE := Lib.hid hE
      have HV := Lib.hid hV
      have HLOW := Lib.hid hlow
      have HFIT := Lib.hid hfit
      have hx : decide (4294967296 ≤ W64 x) = false := decide_eq_false (by unfold W64; omega)
      rw [h1] at HCK
      clear hE hV hlow hfit h1 h2 b3
      go_enter Tryz.func34, Tryz.ntmps34
      go_wp2_with fail
      refine (HCK.out _).mono ?_
      rintro e w' ⟨rfl, rfl⟩
      go_wp2_with fail
      refine (letters_ref x 8 8 (by omega) (by decide) _).mono ?_
      rintro e w1 ⟨a1, c1, rfl, hrow, hn1⟩
      go_wp2_with fail
      refine (sum_ref _ _ _ _ _ _ _ _ _ (ha.stay hn1) hrow HFIT.out).mono ?_
      rintro e w2 ⟨rfl, hn2⟩
      rw [lets_len]
      go_wp2_with fail
      refine (HLOW.out _ _).mono ?_
      rintro e w3 ⟨rfl, rfl⟩
      go_wp2
      go_ret2
      rw [HE.out, HV.out]
      exact ⟨rfl, hn1.trans hn2⟩
    · have hE : evE bits l.length 128 x = 2 := by unfold evE; rw [if_neg (by rw [h1]; simp), if_neg h2]
      have hV : evV l bits 128 x = 0#64 := by unfold evV; rw [hE]; rfl
      have HE := Lib.hid hE
      have HV := Lib.hid hV
      have hx : ¬ W64 x < 4294967296 := by unfold W64; omega
      rw [h1] at HCK
      clear hE hV h1 h2 b3
      go_enter Tryz.func34, Tryz.ntmps34
      go_wp2_with fail
      refine (HCK.out _).mono ?_
      rintro e w' ⟨rfl, rfl⟩
      go_wp2_with fail
      go_ret2
      rw [HE.out, HV.out]
      exact ⟨rfl, New.refl _⟩
  · have hE : evE bits l.length 128 x = chk bits l.length 128 := by unfold evE; rw [if_pos h1]
    have hV : evV l bits 128 x = 0#64 := by unfold evV; rw [hE, if_neg h1]
    have HE := Lib.hid hE
    have HV := Lib.hid hV
    have hne : (chk bits l.length 128 != 0) = true := by rw [bne_iff_ne]; exact h1
    clear hE hV h1
    generalize chk bits l.length 128 = q at HCK hne HE
    go_enter Tryz.func34, Tryz.ntmps34
    go_wp2_with fail
    refine (HCK.out _).mono ?_
    rintro e w' ⟨rfl, rfl⟩
    go_wp2_with fail
    go_ret2
    rw [HE.out, HV.out]
    exact ⟨rfl, New.refl _⟩
end Go.Proofs.YtebcfbcfipmahaaGreat
end
