/- Contracts of tabs.Check, tabs.Eval and of the document's own Low, Check, Eval: for all words, all keys. -/
import Derived.Test.YtadkbpdbbgjkgaaTabB
namespace Go.Bv
open Go Go.RowKit
/-- the lowest bits of a word -/
def lowN (x : BitVec 64) (b : Nat) : BitVec 64 := BitVec.ofNat 64 (x.toNat % 2 ^ b)
theorem lowN_nat (x : BitVec 64) (b : Nat) (hb : b ≤ 64) : (lowN x b).toNat = x.toNat % 2 ^ b := by
  unfold lowN
  rw [BitVec.toNat_ofNat]
  refine Nat.mod_eq_of_lt ?_
  have := Nat.mod_lt x.toNat (Nat.two_pow_pos b)
  have h2 : 2 ^ b ≤ 2 ^ 64 := Nat.pow_le_pow_right (by omega) hb
  omega
theorem lowN_shift (x : BitVec 64) (b : Nat) (hb : b ≤ 64) : x <<< (64 - b) >>> (64 - b) = lowN x b := by
  apply BitVec.eq_of_toNat_eq
  rw [lowN_nat _ _ hb, BitVec.toNat_ushiftRight, BitVec.toNat_shiftLeft, Nat.shiftRight_eq_div_pow, Nat.shiftLeft_eq]
  have e : 2 ^ 64 = 2 ^ b * 2 ^ (64 - b) := by rw [← Nat.pow_add]; congr 1; omega
  rw [e, Nat.mul_mod_mul_right, Nat.mul_div_cancel _ (Nat.two_pow_pos _)]
theorem lowN_succ (x : BitVec 64) (k : Nat) (hk : k < 64) : lowN x k + x >>> k % 2#64 * (1#64 <<< k) = lowN x (k + 1) := by
  apply BitVec.eq_of_toNat_eq
  have h1 : (1#64 <<< k).toNat = 2 ^ k := by
    rw [BitVec.toNat_shiftLeft, Nat.shiftLeft_eq, show (1#64).toNat = 1 from rfl, Nat.one_mul]
    exact Nat.mod_eq_of_lt (Nat.pow_lt_pow_right (by omega) hk)
  have h2 : (x >>> k % 2#64).toNat = x.toNat / 2 ^ k % 2 := by
    rw [BitVec.toNat_umod, BitVec.toNat_ushiftRight, Nat.shiftRight_eq_div_pow]; rfl
  rw [lowN_nat _ _ (by omega), BitVec.toNat_add, BitVec.toNat_mul, h1, h2, lowN_nat _ _ (by omega)]
  have h3 : x.toNat % 2 ^ (k + 1) = x.toNat % 2 ^ k + 2 ^ k * (x.toNat / 2 ^ k % 2) := by rw [Nat.pow_succ, Nat.mod_mul]
  have h4 : x.toNat % 2 ^ (k + 1) < 2 ^ 64 := Nat.lt_of_lt_of_le (Nat.mod_lt _ (Nat.two_pow_pos _)) (Nat.pow_le_pow_right (by omega) (by omega))
  rw [h3] at h4 ⊢
  rw [Nat.mul_comm (2 ^ k)] at h4 ⊢
  rw [Nat.mod_eq_of_lt (a := x.toNat / 2 ^ k % 2 * 2 ^ k) (by omega)]
  exact Nat.mod_eq_of_lt h4
theorem one_shl_succ (k : Nat) : 1#64 <<< k * 2#64 = 1#64 <<< (k + 1) := by
  apply BitVec.eq_of_toNat_eq
  rw [BitVec.toNat_mul, BitVec.toNat_shiftLeft, BitVec.toNat_shiftLeft, Nat.shiftLeft_eq, Nat.shiftLeft_eq, show (2#64).toNat = 2 from rfl, Nat.pow_succ, show (1#64).toNat = 1 from rfl]
  rw [Nat.mod_mul_mod, Nat.mul_assoc, show 2 ^ k * 2 = 2 ^ (k + 1) from (Nat.pow_succ ..).symm]
theorem half_shr (x : BitVec 64) (k : Nat) : x >>> k / 2#64 = x >>> (k + 1) := by
  apply BitVec.eq_of_toNat_eq
  rw [BitVec.toNat_udiv, BitVec.toNat_ushiftRight, BitVec.toNat_ushiftRight, Nat.shiftRight_eq_div_pow, Nat.shiftRight_eq_div_pow, show (2#64).toNat = 2 from rfl, Nat.div_div_eq_div_mul, ← Nat.pow_succ]
theorem lowN_zero (x : BitVec 64) : lowN x 0 = 0#64 := by
  apply BitVec.eq_of_toNat_eq; rw [lowN_nat _ _ (by omega)]; simp [Nat.mod_one]
end Go.Bv
namespace Go.Proofs.Ytadkbpdbbgjkgaa
open Go.RowKit Go.Bv
set_option linter.unusedVariables false
set_option maxHeartbeats 1000000 in
theorem low_ref (x : BitVec 64) (n : Int) (m : Nat) (hn : n = (m : Int)) (hm : m ≤ 64) (w : World) :
    Calls Try.prog 51 #[.int .u64 (W64 x), .int .i64 n] w fun e w' => e = .returned (.int .u64 (W64 (lowN x m))) ∧ w' = w := by
  subst hn
  have h0 : W64 (lowN x 0) = 0 := by rw [lowN_zero]; exact W64_lit 0 (by omega)
  have h1 : W64 (1#64 <<< 0) = 1 := by rw [show 1#64 <<< 0 = 1#64 from rfl]; exact W64_lit 1 (by omega)
  have h2 : x >>> 0 = x := by simp
  have H0 := Lib.hid h0
  have H1 := Lib.hid h1
  have H2 := Lib.hid h2
  clear h0 h1 h2
  go_enter Try.func51, Try.ntmps51
  go_wp2
  go_loop [0, 5, 6, 7] (fun xv o p i => ∃ k : Nat, k ≤ m ∧ i = .int .i64 k ∧ xv = .int .u64 (W64 (x >>> k)) ∧ o = .int .u64 (W64 (lowN x k)) ∧ p = .int .u64 (W64 (1#64 <<< k))) (fun _ _ _ i => m - (intOf i).toNat)
  case atStart => exact ⟨0, by omega, rfl, by rw [H2.out], by rw [H0.out], by rw [H1.out]⟩
  case round =>
    obtain ⟨k, hk, rfl, rfl, rfl, rfl⟩ := hrel
    by_cases hlt : (k : Int) < m
    · have e1 := lowN_succ x k (by omega)
      have e2 := one_shl_succ k
      have e3 := half_shr x k
      have E1 := Lib.hid e1
      clear e1
      go_wp2
      refine ⟨⟨k + 1, by omega, by go_num, rfl, ?_, rfl⟩, by simp [intOf]; omega⟩
      rw [← E1.out, mul_shl]
    · obtain rfl : k = m := by omega
      go_wp2
      go_ret
      exact ⟨rfl, rfl⟩
set_option maxHeartbeats 1000000 in
theorem lowest_any (x : BitVec 64) (n : Int) (m : Nat) (hn : n = (m : Int)) (hm : m ≤ 64) (w : World) :
    Calls Try.prog 50 #[.int .u64 (W64 x), .int .i64 n] w fun e w' => e = .returned (.int .u64 (W64 (lowN x m))) ∧ w' = w := by
  subst hn
  have e1 : wrap64 (64 - (m : Int)) = 64 - (m : Int) := by unfold wrap64; omega
  have e2 : 0 ≤ 64 - (m : Int) := by omega
  have e3 : (64 - (m : Int)).toNat = 64 - m := by omega
  have e4 := lowN_shift x m hm
  have E4 := Lib.hid e4
  clear e4
  go_enter Try.func50, Try.ntmps50
  go_wp2
  go_ret
  exact ⟨ret64 E4.out, rfl⟩
/-- what is wrong with a seed -/
def chk (bits : Int) (n : Nat) (N : Int) : Int := if bits < 1 ∨ 64 < bits then 1 else if (n : Int) ≠ N then 13 else 0
set_option maxHeartbeats 1000000 in
theorem check_ref (a : Option Addr) (n c : Nat) (bits N : Int) (w : World) (hn : n ≤ 17592186044416) :
    Calls Try.prog 27 #[.slice a n c, .int .i64 bits, .int .i64 N] w fun e w' => e = .returned (.int .i64 (chk bits n N)) ∧ w' = w := by
  by_cases h1 : bits < 1
  · have h : chk bits n N = 1 := by unfold chk; rw [if_pos (Or.inl h1)]
    have H := Lib.hid h
    clear h
    go_enter Try.func27, Try.ntmps27
    go_wp2
    go_ret
    rw [H.out]; exact ⟨rfl, rfl⟩
  · by_cases h2 : 64 < bits
    · have h : chk bits n N = 1 := by unfold chk; rw [if_pos (Or.inr h2)]
      have H := Lib.hid h
      clear h
      go_enter Try.func27, Try.ntmps27
      go_wp2
      go_ret
      rw [H.out]; exact ⟨rfl, rfl⟩
    · by_cases h3 : (n : Int) = N
      · have h : chk bits n N = 0 := by unfold chk; rw [if_neg (by omega), if_neg (by omega)]
        have H := Lib.hid h
        have hb : ((n : Int) != N) = false := by rw [bne_eq_false_iff_eq]; exact h3
        clear h h3
        go_enter Try.func27, Try.ntmps27
        go_wp2
        go_ret
        rw [H.out]; exact ⟨rfl, rfl⟩
      · have h : chk bits n N = 13 := by unfold chk; rw [if_neg (by omega), if_pos h3]
        have H := Lib.hid h
        have hb : ((n : Int) != N) = true := by rw [bne_iff_ne]; exact h3
        clear h h3
        go_enter Try.func27, Try.ntmps27
        go_wp2
        go_ret
        rw [H.out]; exact ⟨rfl, rfl⟩
set_option maxHeartbeats 1000000 in
theorem check_any (a : Option Addr) (n c : Nat) (bits : Int) (w : World) (hn : n ≤ 17592186044416) :
    Calls Try.prog 26 #[.slice a n c, .int .i64 bits] w fun e w' => e = .returned (.int .i64 (chk bits n 128)) ∧ w' = w := by
  by_cases h1 : bits < 1
  · have h : chk bits n 128 = 1 := by unfold chk; rw [if_pos (Or.inl h1)]
    have H := Lib.hid h
    clear h
    go_enter Try.func26, Try.ntmps26
    go_wp2
    go_ret
    rw [H.out]; exact ⟨rfl, rfl⟩
  · by_cases h2 : 64 < bits
    · have h : chk bits n 128 = 1 := by unfold chk; rw [if_pos (Or.inr h2)]
      have H := Lib.hid h
      clear h
      go_enter Try.func26, Try.ntmps26
      go_wp2
      go_ret
      rw [H.out]; exact ⟨rfl, rfl⟩
    · by_cases h3 : (n : Int) = 128
      · have h : chk bits n 128 = 0 := by unfold chk; rw [if_neg (by omega), if_neg (by omega)]
        have H := Lib.hid h
        have hb : ((n : Int) != 128) = false := by rw [bne_eq_false_iff_eq]; exact h3
        clear h h3
        go_enter Try.func26, Try.ntmps26
        go_wp2
        go_ret
        rw [H.out]; exact ⟨rfl, rfl⟩
      · have h : chk bits n 128 = 13 := by unfold chk; rw [if_neg (by omega), if_pos h3]
        have H := Lib.hid h
        have hb : ((n : Int) != 128) = true := by rw [bne_iff_ne]; exact h3
        clear h h3
        go_enter Try.func26, Try.ntmps26
        go_wp2
        go_ret
        rw [H.out]; exact ⟨rfl, rfl⟩
theorem shr32_big {x : BitVec 64} (h : ¬ x.toNat < 4294967296) : (x >>> 32 == 0#64) = false := by
  rw [beq_eq_false_iff_ne]; intro e
  have := congrArg BitVec.toNat e
  rw [BitVec.toNat_ushiftRight, Nat.shiftRight_eq_div_pow] at this
  simp at this
  omega
theorem shr32_small {x : BitVec 64} (h : x.toNat < 4294967296) : (x >>> 32 == 0#64) = true := by
  rw [beq_iff_eq]
  apply BitVec.eq_of_toNat_eq
  rw [BitVec.toNat_ushiftRight, Nat.shiftRight_eq_div_pow]
  simp
  omega
theorem lets_all (x : BitVec 64) (m : Nat) : (lets x m).all okc = true := by
  rw [List.all_eq_true]; intro c hc; exact okc_true (lets_mem x m c hc)
theorem fit_lets (x : BitVec 64) (n m : Nat) (h : n = 16 * m) : fitE n (lets x m) = 0 := by
  unfold fitE; rw [if_neg (by rw [lets_len, h]; simp), lets_all]; rfl
theorem sv_lets (l : List (BitVec 64)) (x : BitVec 64) (m : Nat) (h : l.length = 16 * m) : sv l (lets x m) = xs l (lets x m) m := by
  unfold sv; rw [if_pos (fit_lets x _ m h), lets_len]
theorem chk_good {bits : Int} {n : Nat} {N : Int} (h : chk bits n N = 0) : 1 ≤ bits ∧ bits ≤ 64 ∧ (n : Int) = N := by
  unfold chk at h
  by_cases h1 : bits < 1 ∨ 64 < bits
  · rw [if_pos h1] at h; cases h
  · rw [if_neg h1] at h
    by_cases h2 : (n : Int) = N
    · omega
    · rw [if_pos h2] at h; cases h
/-- what is wrong with a seed, or with a key -/
def evE (bits : Int) (n : Nat) (N : Int) (x : BitVec 64) : Int := if chk bits n N ≠ 0 then chk bits n N else if x.toNat < 4294967296 then 0 else 2
/-- what a seed brings a key to -/
def evV (l : List (BitVec 64)) (bits : Int) (N : Int) (x : BitVec 64) : BitVec 64 := if evE bits l.length N x = 0 then lowN (xs l (lets x 8) 8) bits.toNat else 0#64
set_option maxHeartbeats 1000000 in
theorem eval_any (a : Option Addr) (n c : Nat) (l : List (BitVec 64)) (bits : Int) (x : BitVec 64) (w : World) (ha : QRow w a n c l) :
    Calls Try.prog 24 #[.slice a n c, .int .i64 bits, .int .u64 (W64 x)] w fun e w' => e = .returned (.tuple #[.int .u64 (W64 (evV l bits 128 x)), .int .i64 (evE bits l.length 128 x)]) ∧ New w w' := by
  have hm := ha.most
  have hck : ∀ w, Calls Try.prog 26 #[.slice a n c, .int .i64 bits] w fun e w' => e = .returned (.int .i64 (chk bits l.length 128)) ∧ w' = w := by
    rw [ha.len_eq]; exact fun w => check_any a n c bits w hm
  have HCK := Lib.hid hck
  clear hck
  have HL := Lib.hid ha.len_eq
  by_cases h1 : chk bits l.length 128 = 0
  · obtain ⟨b1, b2, b3⟩ := chk_good h1
    by_cases h2 : x.toNat < 4294967296
    · have hE : evE bits l.length 128 x = 0 := by unfold evE; rw [if_neg (by rw [h1]; simp), if_pos h2]
      have hV : evV l bits 128 x = lowN (xs l (lets x 8) 8) bits.toNat := by unfold evV; rw [if_pos hE]
      have hlow := fun (y : BitVec 64) w => lowest_any y bits bits.toNat (by omega) (by omega) w
      have hfit : fitE l.length (lets x 8) = 0 := fit_lets x _ 8 (by omega)
      have hsv := sv_lets l x 8 (by omega)
      have HE := Lib.hid hE
      have HV := Lib.hid hV
      have HLOW := Lib.hid hlow
      have HFIT := Lib.hid hfit
      have HSV := Lib.hid hsv
      have hx := shr32_small h2
      rw [h1] at HCK
      clear hE hV hlow hfit hsv h1 h2 b3
      go_enter Try.func24, Try.ntmps24
      go_wp2_with (first
        | (go_at_call 26; refine (HCK.out _).mono ?_; rintro e w' ⟨rfl, rfl⟩)
        | (go_at_call 49; go_in))
      refine (chars_any x 8 8 (by omega) (by decide) _).mono ?_
      rintro e w1 ⟨a1, c1, rfl, hrow, hn1⟩
      go_wp2_with fail
      refine (sum_any _ _ _ _ _ _ _ _ _ (ha.stay hn1) hrow).mono ?_
      rintro e w2 ⟨rfl, hn2⟩
      rw [HFIT.out, HSV.out]
      go_wp2_with fail
      refine (HLOW.out _ _).mono ?_
      rintro e w3 ⟨rfl, rfl⟩
      go_wp2
      go_ret2
      rw [HE.out, HV.out]
      exact ⟨rfl, hn1.trans hn2⟩
    · have hE : evE bits l.length 128 x = 2 := by unfold evE; rw [if_neg (by rw [h1]; simp), if_neg h2]
      have hV : evV l bits 128 x = 0#64 := by unfold evV; rw [hE]; rfl
      have HE := Lib.hid hE
      have HV := Lib.hid hV
      have hx := shr32_big h2
      rw [h1] at HCK
      clear hE hV h1 h2 b3
      go_enter Try.func24, Try.ntmps24
      go_wp2_with (first
        | (go_at_call 26; refine (HCK.out _).mono ?_; rintro e w' ⟨rfl, rfl⟩)
        | (go_at_call 49; go_in))
      go_ret2
      rw [HE.out, HV.out]
      exact ⟨rfl, New.refl _⟩
  · have hE : evE bits l.length 128 x = chk bits l.length 128 := by unfold evE; rw [if_pos h1]
    have hV : evV l bits 128 x = 0#64 := by unfold evV; rw [hE, if_neg h1]
    have HE := Lib.hid hE
    have HV := Lib.hid hV
    have hne : (chk bits l.length 128 != 0) = true := by rw [bne_iff_ne]; exact h1
    clear hE hV h1
    generalize chk bits l.length 128 = q at HCK hne HE
    go_enter Try.func24, Try.ntmps24
    go_wp2_with (first
        | (go_at_call 26; refine (HCK.out _).mono ?_; rintro e w' ⟨rfl, rfl⟩)
        | (go_at_call 49; go_in))
    go_ret2
    rw [HE.out, HV.out]
    exact ⟨rfl, New.refl _⟩
set_option maxHeartbeats 1000000 in
theorem eval_ref (a : Option Addr) (n c : Nat) (l : List (BitVec 64)) (bits : Int) (x : BitVec 64) (w : World) (ha : QRow w a n c l) :
    Calls Try.prog 25 #[.slice a n c, .int .i64 bits, .int .u64 (W64 x)] w fun e w' => e = .returned (.tuple #[.int .u64 (W64 (evV l bits 128 x)), .int .i64 (evE bits l.length 128 x)]) ∧ New w w' := by
  have hm := ha.most
  have hck : ∀ w, Calls Try.prog 27 #[.slice a n c, .int .i64 bits, .int .i64 128] w fun e w' => e = .returned (.int .i64 (chk bits l.length 128)) ∧ w' = w := by
    rw [ha.len_eq]; exact fun w => check_ref a n c bits 128 w hm
  have HCK := Lib.hid hck
  clear hck
  have HL := Lib.hid ha.len_eq
  by_cases h1 : chk bits l.length 128 = 0
  · obtain ⟨b1, b2, b3⟩ := chk_good h1
    by_cases h2 : x.toNat < 4294967296
    · have hE : evE bits l.length 128 x = 0 := by unfold evE; rw [if_neg (by rw [h1]; simp), if_pos h2]
      have hV : evV l bits 128 x = lowN (xs l (lets x 8) 8) bits.toNat := by unfold evV; rw [if_pos hE]
      have hlow := fun (y : BitVec 64) w => low_ref y bits bits.toNat (by omega) (by omega) w
      have hfit : fitE l.length (lets x 8) = 0 := fit_lets x _ 8 (by omega)
      have HE := Lib.hid hE
      have HV := Lib.hid hV
      have HLOW := Lib.hid hlow
      have HFIT := Lib.hid hfit
      have hx : decide (4294967296 ≤ W64 x) = false := decide_eq_false (by unfold W64; omega)
      rw [h1] at HCK
      clear hE hV hlow hfit h1 h2 b3
      go_enter Try.func25, Try.ntmps25
      go_wp2_with fail
      refine (HCK.out _).mono ?_
      rintro e w' ⟨rfl, rfl⟩
      go_wp2_with fail
      refine (letters_ref x 8 8 (by omega) (by decide) _).mono ?_
      rintro e w1 ⟨a1, c1, rfl, hrow, hn1⟩
      go_wp2_with fail
      refine (sum_ref _ _ _ _ _ _ _ _ _ (ha.stay hn1) hrow HFIT.out).mono ?_
      rintro e w2 ⟨rfl, hn2⟩
      rw [lets_len]
      go_wp2_with fail
      refine (HLOW.out _ _).mono ?_
      rintro e w3 ⟨rfl, rfl⟩
      go_wp2
      go_ret2
      rw [HE.out, HV.out]
      exact ⟨rfl, hn1.trans hn2⟩
    · have hE : evE bits l.length 128 x = 2 := by unfold evE; rw [if_neg (by rw [h1]; simp), if_neg h2]
      have hV : evV l bits 128 x = 0#64 := by unfold evV; rw [hE]; rfl
      have HE := Lib.hid hE
      have HV := Lib.hid hV
      have hx : ¬ W64 x < 4294967296 := by unfold W64; omega
      rw [h1] at HCK
      clear hE hV h1 h2 b3
      go_enter Try.func25, Try.ntmps25
      go_wp2_with fail
      refine (HCK.out _).mono ?_
      rintro e w' ⟨rfl, rfl⟩
      go_wp2_with fail
      go_ret2
      rw [HE.out, HV.out]
      exact ⟨rfl, New.refl _⟩
  · have hE : evE bits l.length 128 x = chk bits l.length 128 := by unfold evE; rw [if_pos h1]
    have hV : evV l bits 128 x = 0#64 := by unfold evV; rw [hE, if_neg h1]
    have HE := Lib.hid hE
    have HV := Lib.hid hV
    have hne : (chk bits l.length 128 != 0) = true := by rw [bne_iff_ne]; exact h1
    clear hE hV h1
    generalize chk bits l.length 128 = q at HCK hne HE
    go_enter Try.func25, Try.ntmps25
    go_wp2_with fail
    refine (HCK.out _).mono ?_
    rintro e w' ⟨rfl, rfl⟩
    go_wp2_with fail
    go_ret2
    rw [HE.out, HV.out]
    exact ⟨rfl, New.refl _⟩
end Go.Proofs.Ytadkbpdbbgjkgaa
