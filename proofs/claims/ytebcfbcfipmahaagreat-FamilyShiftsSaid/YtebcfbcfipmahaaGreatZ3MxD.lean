import Derived.Test.YtebcfbcfipmahaaGreatZ3MxC
import Derived.Deep.RegionLaw
import Derived.Test.YtebcfbcfipmahaaGreatZ3FamF
import Derived.Deep.QuietTactic
import Derived.BigQuiet
import Derived.Test.YtebcfbcfipmahaaGreatZ3MxB
import Derived.Test.YtebcfbcfipmahaaGreatZ3MadC
section
/- Contracts of mixed.Eval and of the document's own Eval; the walk of the statement MixedEvals: for all words, all keys. -/
namespace Go.Proofs.YtebcfbcfipmahaaGreat
open Go.RowKit Go.Bv
set_option linter.unusedVariables false
set_option maxRecDepth 100000
def meV (l : List (BitVec 64)) (bits : Int) (x : BitVec 64) : BitVec 64 := if evE bits l.length 320 x = 0 then lowN (xs (l.take 192) (rowM l x) 12) bits.toNat else 0#64
theorem rowM_all (l : List (BitVec 64)) (x : BitVec 64) : (rowM l x).all okc = true := by
  rw [List.all_eq_true]; intro c hc; exact okc_true (rowM_mem l x c hc)
theorem fit_rowM (l r : List (BitVec 64)) (x : BitVec 64) (h : r.length = 192) : fitE r.length (rowM l x) = 0 := by
  unfold fitE; rw [if_neg (by rw [rowM_len, h]; simp), rowM_all]; rfl
theorem sv_rowM (l r : List (BitVec 64)) (x : BitVec 64) (h : r.length = 192) : sv r (rowM l x) = xs r (rowM l x) 12 := by
  unfold sv; rw [if_pos (fit_rowM l r x h), rowM_len]
theorem badE2 (bits : Int) (n : Nat) (N : Int) (x : BitVec 64) : (chk bits n N = 0 ∧ x.toNat < 4294967296 ∧ evE bits n N x = 0) ∨ (chk bits n N = 0 ∧ ¬ x.toNat < 4294967296 ∧ evE bits n N x = 2) ∨ (chk bits n N ≠ 0 ∧ (chk bits n N != 0) = true ∧ evE bits n N x = chk bits n N) := by
  by_cases h1 : chk bits n N = 0
  · by_cases h2 : x.toNat < 4294967296
    · exact Or.inl ⟨h1, h2, by unfold evE; rw [if_neg (by rw [h1]; simp), if_pos h2]⟩
    · exact Or.inr (Or.inl ⟨h1, h2, by unfold evE; rw [if_neg (by rw [h1]; simp), if_neg h2]⟩)
  · exact Or.inr (Or.inr ⟨h1, by rw [bne_iff_ne]; exact h1, by unfold evE; rw [if_pos h1]⟩)
set_option maxHeartbeats 1000000 in
theorem evalm_any (a : Option Addr) (n c : Nat) (l : List (BitVec 64)) (bits : Int) (x : BitVec 64) (w : World) (ha : QRow w a n c l) :
    Calls Tryz.prog 52 #[.slice a n c, .int .i64 bits, .int .u64 (W64 x)] w fun e w' => e = .returned (.tuple #[.int .u64 (W64 (meV l bits x)), .int .i64 (evE bits l.length 320 x)]) ∧ New w w' := by
  have hm := ha.most
  have hle := ha.le
  have hrm := ha.room
  have hck : ∀ w, Calls Tryz.prog 101 #[.slice a n c, .int .i64 bits] w fun e w' => e = .returned (.int .i64 (chk bits l.length 320)) ∧ w' = w := by
    rw [ha.len_eq]; exact fun w => checkm_any a n c bits w hm
  have HCK := Lib.hid hck
  clear hck
  have hL := ha.len_eq
  rcases badE2 bits l.length 320 x with ⟨h1, h2, h3⟩ | ⟨h1, h2, h3⟩ | ⟨h1, h2, h3⟩
  · obtain ⟨b1, b2, b3⟩ := chk_good h1
    have hV : meV l bits x = lowN (xs (l.take 192) (rowM l x) 12) bits.toNat := by unfold meV; rw [if_pos h3]
    have hT : evE 64 l.length 320 x = 0 := tuE h3
    have hrow := fun w => rowm_any a n c l x w
    rw [hT, show roM l x = rowM l x by unfold roM; rw [if_pos hT]] at hrow
    have h192 : (l.take 192).length = 192 := by rw [List.length_take]; omega
    have hsv := sv_rowM l (l.take 192) x h192
    have hfit := fit_rowM l (l.take 192) x h192
    have hshr := fun y : BitVec 64 => lowN_shift y bits.toNat (by omega)
    have e1 : wrap64 (64 - bits) = 64 - bits := by unfold wrap64; omega
    have e2 : 0 ≤ 64 - bits := by omega
    have e3 : (64 - bits).toNat = 64 - bits.toNat := by omega
    have HE := Lib.hid h3
    have HV := Lib.hid hV
    have HROW := Lib.hid hrow
    have HSV := Lib.hid hsv
    have HFIT := Lib.hid hfit
    have HSHR := Lib.hid hshr
    rw [h1] at HCK
    obtain rfl : n = 320 := by omega
    obtain ⟨b, off, rfl, _⟩ := ha.addr (by omega)
    clear hV hT hrow h192 hsv hfit h1 h2 h3 b3 b1 b2 hL hshr
    go_enter Tryz.func52, Tryz.ntmps52
    go_wp2_with fail
    refine (HCK.out _).mono ?_
    rintro e w' ⟨rfl, rfl⟩
    go_wp2_with fail
    refine (HROW.out _ ha).mono ?_
    rintro e w1 ⟨a1, n1, c1, rfl, hz1, hn1⟩
    go_wp2_with fail
    refine (partsm_any b off c hle hrm _).mono ?_
    rintro e w2 ⟨rfl, hn2⟩
    have hn12 := hn1.trans hn2
    have hq1 := (ha.stay hn12).slice 0 192 192 (by omega) (by omega) (by omega)
    rw [List.drop_zero] at hq1
    have hq2 : QRow w2 (some ⟨b, off, none⟩) 192 192 (l.take 192) := hq1
    clear hq1
    go_wp2_with fail
    refine (sum_any _ _ _ _ _ _ _ _ _ hq2 (hz1.stay hn2)).mono ?_
    rintro e w3 ⟨rfl, hn3⟩
    rw [HFIT.out, HSV.out]
    go_wp2
    go_ret2
    rw [HV.out, HE.out, ← HSHR.out]
    exact ⟨rfl, hn12.trans hn3⟩
  · have hV : W64 (meV l bits x) = 0 := by unfold meV; rw [if_neg (by rw [h3]; decide)]; exact W64_lit 0 (by omega)
    have hT : evE 64 l.length 320 x = 2 := tuE2 h1 h2
    have hrow := fun w => rowm_any a n c l x w
    rw [hT] at hrow
    have HE := Lib.hid h3
    have HV := Lib.hid hV
    have HROW := Lib.hid hrow
    rw [h1] at HCK
    clear hV hT hrow h1 h2 h3
    go_enter Tryz.func52, Tryz.ntmps52
    go_wp2_with fail
    refine (HCK.out _).mono ?_
    rintro e w' ⟨rfl, rfl⟩
    go_wp2_with fail
    refine (HROW.out _ ha).mono ?_
    rintro e w1 ⟨a1, n1, c1, rfl, hz1, hn1⟩
    go_wp2
    go_ret2
    rw [HV.out, HE.out]
    exact ⟨rfl, hn1⟩
  · have hV : W64 (meV l bits x) = 0 := by unfold meV; rw [h3, if_neg h1]; exact W64_lit 0 (by omega)
    have HE := Lib.hid h3
    have HV := Lib.hid hV
    clear hV h1 h3
    generalize chk bits l.length 320 = q at *
    go_enter Tryz.func52, Tryz.ntmps52
    go_wp2_with fail
    refine (HCK.out _).mono ?_
    rintro e w' ⟨rfl, rfl⟩
    go_wp2
    go_ret2
    rw [HV.out, HE.out]
    exact ⟨rfl, New.refl _⟩
set_option maxHeartbeats 2000000 in
theorem evalm_ref (a : Option Addr) (n c : Nat) (l : List (BitVec 64)) (bits : Int) (x : BitVec 64) (w : World) (ha : QRow w a n c l) :
    Calls Tryz.prog 36 #[.slice a n c, .int .i64 bits, .int .u64 (W64 x)] w fun e w' => e = .returned (.tuple #[.int .u64 (W64 (meV l bits x)), .int .i64 (evE bits l.length 320 x)]) ∧ New w w' := by
  have hm := ha.most
  have hle := ha.le
  have hrm := ha.room
  have hck : ∀ w, Calls Tryz.prog 61 #[.slice a n c, .int .i64 bits, .int .i64 320] w fun e w' => e = .returned (.int .i64 (chk bits l.length 320)) ∧ w' = w := by
    rw [ha.len_eq]; exact fun w => check_ref a n c bits 320 w hm
  have HCK := Lib.hid hck
  clear hck
  have hL := ha.len_eq
  rcases badE2 bits l.length 320 x with ⟨h1, h2, h3⟩ | ⟨h1, h2, h3⟩ | ⟨h1, h2, h3⟩
  · obtain ⟨b1, b2, b3⟩ := chk_good h1
    have hV : meV l bits x = lowN (xs (l.take 192) (rowM l x) 12) bits.toNat := by unfold meV; rw [if_pos h3]
    have hrow := fun w h => rowm_ref a n c l x w h (by omega)
    have h192 : (l.take 192).length = 192 := by rw [List.length_take]; omega
    have hfit := fit_rowM l (l.take 192) x h192
    have hlow := fun (y : BitVec 64) w => low_ref y bits bits.toNat (by omega) (by omega) w
    have hx : decide (4294967296 ≤ W64 x) = false := decide_eq_false (by unfold W64; omega)
    have HE := Lib.hid h3
    have HV := Lib.hid hV
    have HROW := Lib.hid hrow
    have HFIT := Lib.hid hfit
    have HLOW := Lib.hid hlow
    have HLEN := Lib.hid (rowM_len l x)
    rw [h1] at HCK
    obtain rfl : n = 320 := by omega
    obtain ⟨b, off, rfl, _⟩ := ha.addr (by omega)
    have hq0 : QRow w (some ⟨b, off, none⟩) 192 c (l.take 192) := by
      have h := ha.slice 0 192 c (by omega) (by omega) (by omega)
      rw [List.drop_zero] at h
      exact h
    have HA := Lib.hid ha
    have HQ := Lib.hid hq0
    have hc192 : (192 : Int) ≤ (c : Int) := by omega
    clear hV hrow h192 hfit h1 h2 h3 b3 b1 b2 hL hlow ha hq0
    go_enter Tryz.func36, Tryz.ntmps36
    go_wp2_with fail
    refine (HCK.out _).mono ?_
    rintro e w' ⟨rfl, rfl⟩
    go_wp2_with fail
    go_region_law (first
      | (go_simp
         go_at_call 66
         refine (HROW.out _ (HA.out.stay (New.refl _).drew)).mono ?_
         rintro e w1 ⟨a1, c1, rfl, hz1, hn1⟩
         have hd1 : New w' w1 := (New.refl w').drew.trans hn1)
      | (go_simp
         go_at_call 63
         refine (sum_ref _ _ _ _ _ _ _ _ _ (HQ.out.stay hd1) hz1 HFIT.out).mono ?_
         rintro e w2 ⟨rfl, hn2⟩
         rw [HLEN.out]
         have hd2 : New w' w2 := hd1.trans hn2)
      | (go_simp
         go_at_call 62
         refine (HLOW.out _ _).mono ?_
         rintro e w3 ⟨rfl, rfl⟩))
    all_goals (
      go_wp2
      go_ret2
      rw [HE.out, HV.out]
      exact ⟨rfl, hd2⟩)
  · have hV : W64 (meV l bits x) = 0 := by unfold meV; rw [if_neg (by rw [h3]; decide)]; exact W64_lit 0 (by omega)
    have hx : decide (4294967296 ≤ W64 x) = true := decide_eq_true (by unfold W64; omega)
    have HE := Lib.hid h3
    have HV := Lib.hid hV
    rw [h1] at HCK
    clear hV h1 h2 h3
    go_enter Tryz.func36, Tryz.ntmps36
    go_wp2_with fail
    refine (HCK.out _).mono ?_
    rintro e w' ⟨rfl, rfl⟩
    go_wp2
    go_ret2
    rw [HV.out, HE.out]
    exact ⟨rfl, New.refl _⟩
  · have hV : W64 (meV l bits x) = 0 := by unfold meV; rw [h3, if_neg h1]; exact W64_lit 0 (by omega)
    have HE := Lib.hid h3
    have HV := Lib.hid hV
    clear hV h1 h3
    generalize chk bits l.length 320 = q at *
    go_enter Tryz.func36, Tryz.ntmps36
    go_wp2_with fail
    refine (HCK.out _).mono ?_
    rintro e w' ⟨rfl, rfl⟩
    go_wp2
    go_ret2
    rw [HV.out, HE.out]
    exact ⟨rfl, New.refl _⟩
end Go.Proofs.YtebcfbcfipmahaaGreat
end
section
/- The document's own Check of points. -/
namespace Go.Proofs.YtebcfbcfipmahaaGreat
open Go.RowKit Go.Bv
set_option linter.unusedVariables false
end Go.Proofs.YtebcfbcfipmahaaGreat
end
section
/- The inverse of an odd number modulo 2^128: modn.Odd2. (As OddA, over madd's lemmas.) -/
namespace Go.Bv
open Go Go.RowKit
/-- the inverse of an odd number of two words -/
def inv2 (C : Nat) : Nat := (invR (loN C) 5).toNat * (2 + 2 ^ 128 - C * (invR (loN C) 5).toNat % 2 ^ 128) % 2 ^ 128
theorem inv2_one (C : Nat) (h : (loN C).toNat % 2 = 1) : C * inv2 C % 2 ^ 128 = 1 := by
  have h1 := inv_odd (loN C) h
  unfold inv2
  generalize invR (loN C) 5 = x at *
  have h2 : C * x.toNat % 2 ^ 64 = 1 := by
    have := congrArg BitVec.toNat h1
    rw [BitVec.toNat_mul] at this
    unfold loN at this
    rw [BitVec.toNat_ofNat, Nat.mod_mul_mod] at this
    exact this
  rw [Nat.mul_mod_mod, ← Nat.mul_assoc, Nat.mul_mod]
  generalize C * x.toNat = P at *
  have h3 : P % 2 ^ 128 % 2 ^ 64 = 1 := by rw [Nat.mod_mod_of_dvd _ (show 2 ^ 64 ∣ 2 ^ 128 from ⟨2 ^ 64, rfl⟩)]; exact h2
  have h4 : P % 2 ^ 128 < 2 ^ 128 := Nat.mod_lt _ (Nat.two_pow_pos _)
  generalize P % 2 ^ 128 = M at *
  obtain ⟨k, hk⟩ : ∃ k, M = 2 ^ 64 * k + 1 := ⟨M / 2 ^ 64, by omega⟩
  have hk2 : k < 2 ^ 64 := by omega
  rw [Nat.mul_mod_mod]
  have e : M * (2 + 2 ^ 128 - M) = 1 + 2 ^ 128 * (1 + 2 ^ 64 * k - k * k) := by
    have hkk : k * k ≤ 2 ^ 64 * k := Nat.mul_le_mul_right k (by omega)
    obtain ⟨s, hs⟩ : ∃ s, 2 + 2 ^ 128 - M = s := ⟨_, rfl⟩
    have hs2 : s + 2 ^ 64 * k = 1 + 2 ^ 128 := by omega
    obtain ⟨u, hu⟩ : ∃ u, 2 ^ 64 * k - k * k = u := ⟨_, rfl⟩
    have hu2 : u + k * k = 2 ^ 64 * k := by omega
    rw [hs, hk, show 1 + 2 ^ 64 * k - k * k = 1 + u by omega]
    have h128 : (2 : Nat) ^ 128 = 2 ^ 64 * 2 ^ 64 := by rw [← Nat.pow_add]
    rw [h128] at hs2 ⊢
    generalize (2 : Nat) ^ 64 = T at *
    grind
  rw [e, Nat.add_mul_mod_self_left]
end Go.Bv
namespace Go.Proofs.YtebcfbcfipmahaaGreat
open Go.RowKit Go.Bv
set_option linter.unusedVariables false
set_option maxHeartbeats 1000000 in
theorem odd_m (a : BitVec 64) (h : (a &&& 1#64 == 0#64) = false) (w : World) :
    Calls Tryz.prog 169 #[.int .u64 (W64 a)] w fun e w' => e = .returned (.tuple #[.int .u64 (W64 (invR a 5)), .bool true]) ∧ w' = w := by
  have HST : Hid (invR a 0 = a) := Lib.hid rfl
  go_enter Tryz.func169, Tryz.ntmps169
  go_wp2
  go_loop [4, 9] (fun X I => ∃ k : Nat, k ≤ 5 ∧ I = .int .i64 k ∧ X = .int .u64 (W64 (invR a k))) (fun _ I => 5 - (intOf I).toNat)
  case atStart => exact ⟨0, by omega, rfl, rfl⟩
  case round =>
    obtain ⟨k, hk, rfl, rfl⟩ := hrel
    by_cases hlt : (k : Int) < 5
    · have HX : Hid (invR a k * (2#64 - a * invR a k) = invR a (k + 1)) := Lib.hid rfl
      go_wp2
      exact ⟨⟨k + 1, by omega, by go_num, by rw [← HX.out]⟩, by simp [intOf]; omega⟩
    · obtain rfl : k = 5 := by omega
      go_wp2
      go_ret2
      exact ⟨rfl, rfl⟩
theorem and_zero (a : BitVec 64) : (a &&& 1#64 == 0#64) = decide (a.toNat % 2 = 0) := by
  have h : (a &&& 1#64).toNat = a.toNat % 2 := by rw [BitVec.toNat_and]; exact Nat.and_two_pow_sub_one_eq_mod _ 1
  rw [Bool.eq_iff_iff, beq_iff_eq, decide_eq_true_eq]
  constructor
  · intro e; rw [← h, e]; rfl
  · intro e; apply BitVec.eq_of_toNat_eq; rw [h, e]; rfl
set_option maxHeartbeats 1000000 in
theorem odd2_yes (C : Nat) (hC : C < 2 ^ 128) (h : (loN C).toNat % 2 = 1) (w : World) : Calls Tryz.prog 158 #[.agg #[.int .u64 (W64 (hiN (C))), .int .u64 (W64 (loN (C)))]] w fun e w' => e = .returned (.tuple #[.agg #[.int .u64 (W64 (hiN (inv2 C))), .int .u64 (W64 (loN (inv2 C)))], .bool true]) ∧ New w w' := by
  have HO := Lib.hid (odd_m (loN C) (by rw [and_zero]; exact decide_eq_false (by omega)))
  have hx := (invR (loN C) 5).isLt
  have h1 := times_n C (invR (loN C) 5).toNat hC (by omega)
  rw [hi_word, lo_word, ← hi_mod (C * (invR (loN C) 5).toNat), ← lo_mod (C * (invR (loN C) 5).toNat)] at h1
  have hM : C * (invR (loN C) 5).toNat % 2 ^ 128 < 2 ^ 128 := Nat.mod_lt _ (Nat.two_pow_pos _)
  have h2 := sub_n 2 (C * (invR (loN C) 5).toNat % 2 ^ 128) (by decide) hM
  rw [show W64 (hiN 2) = 0 from rfl, show W64 (loN 2) = 2 from rfl, ← hi_mod (2 + 2 ^ 128 - C * (invR (loN C) 5).toNat % 2 ^ 128), ← lo_mod (2 + 2 ^ 128 - C * (invR (loN C) 5).toNat % 2 ^ 128)] at h2
  have h3 := times_n (invR (loN C) 5).toNat ((2 + 2 ^ 128 - C * (invR (loN C) 5).toNat % 2 ^ 128) % 2 ^ 128) (by omega) (Nat.mod_lt _ (Nat.two_pow_pos _))
  rw [hi_word, lo_word, ← hi_mod ((invR (loN C) 5).toNat * _), ← lo_mod ((invR (loN C) 5).toNat * _), Nat.mul_mod_mod] at h3
  unfold inv2
  generalize (invR (loN C) 5).toNat * (2 + 2 ^ 128 - C * (invR (loN C) 5).toNat % 2 ^ 128) % 2 ^ 128 = Y at *
  generalize (2 + 2 ^ 128 - C * (invR (loN C) 5).toNat % 2 ^ 128) % 2 ^ 128 = F at *
  generalize C * (invR (loN C) 5).toNat % 2 ^ 128 = M at *
  generalize invR (loN C) 5 = x at *
  generalize decide (2 < M) = o at *
  have H1 := Lib.hid h1
  have H2 := Lib.hid h2
  have H3 := Lib.hid h3
  clear h1 h2 h3 hM hx hC h
  obtain ⟨hbl, HNN⟩ := boxes2 w (.cells #[.int .u64 (W64 (hiN (C))), .int .u64 (W64 (loN (C)))] 63) (.cells #[.int .u64 0, .int .u64 0] 63)
  obtain ⟨hb0, hb1⟩ := hbl
  have HN := Lib.hid HNN
  obtain ⟨w0, hw0⟩ : ∃ w0, (((w.alloc (.cells #[.int .u64 (W64 (hiN (C))), .int .u64 (W64 (loN (C)))] 63))).alloc (.cells #[.int .u64 0, .int .u64 0] 63)) = w0 := ⟨_, rfl⟩
  rw [hw0] at HN hb0 hb1
  have HW0 := Lib.hid hw0
  have HB0 := Lib.hid hb0
  have HB1 := Lib.hid hb1
  clear hw0 HNN hb0 hb1
  have x0 := cell_of_row _ _ 0 _ _ _ HB0.out
  have x1 := cell_of_row _ _ 1 _ _ _ HB0.out
  go_enter Tryz.func158, Tryz.ntmps158
  go_wp2_with (rw [HW0.out])
  refine (HO.out _).mono ?_
  rintro e w9 ⟨rfl, rfl⟩
  have hx := heap_alloc_new w9 (.cells #[.int .u64 0, .int .u64 (W64 x)] 63)
  have hn2 := (New.refl w9).alloc (.cells #[.int .u64 0, .int .u64 (W64 x)] 63)
  obtain ⟨wb1, hw2⟩ : ∃ w2, w9.alloc (.cells #[.int .u64 0, .int .u64 (W64 x)] 63) = w2 := ⟨_, rfl⟩
  rw [hw2] at hx hn2
  obtain ⟨q1, hq⟩ : ∃ q, w9.heap.size = q := ⟨_, rfl⟩
  rw [hq] at hx
  have HX1 := Lib.hid hx
  replace HN := Lib.hid (HN.out.trans hn2)
  have HM1 := Lib.hid hn2
  have HE1 := Lib.hid (show w9.alloc (.cells #[.int .u64 0, .int .u64 (W64 x)] 63) = wb1 ∧ w9.heap.size = q1 from ⟨hw2, hq⟩)
  clear hx hn2 hw2 hq
  replace HB0 := Lib.hid ((HM1.out.block _ (lt_of_block HB0.out)).trans HB0.out)
  replace HB1 := Lib.hid ((HM1.out.block _ (lt_of_block HB1.out)).trans HB1.out)
  clear x0 x1
  have x0 := cell_of_row _ _ 0 _ _ _ HB0.out
  have x1 := cell_of_row _ _ 1 _ _ _ HB0.out
  have y0 := cell_of_row _ _ 0 _ _ _ HX1.out
  have y1 := cell_of_row _ _ 1 _ _ _ HX1.out
  go_wp2_with (rw [HE1.out.1, HE1.out.2])
  refine (H1.out _).mono ?_
  rintro e w9 ⟨rfl, hn⟩
  replace HN := Lib.hid (HN.out.trans hn)
  replace HB1 := Lib.hid ((hn.block _ (lt_of_block HB1.out)).trans HB1.out)
  replace HX1 := Lib.hid ((hn.block _ (lt_of_block HX1.out)).trans HX1.out)
  clear hn x0 x1 y0 y1
  go_wp2_with fail
  refine (H2.out _).mono ?_
  rintro e w9 ⟨rfl, hn⟩
  replace HN := Lib.hid (HN.out.trans hn)
  replace HB1 := Lib.hid ((hn.block _ (lt_of_block HB1.out)).trans HB1.out)
  replace HX1 := Lib.hid ((hn.block _ (lt_of_block HX1.out)).trans HX1.out)
  clear hn
  have hx := heap_alloc_new w9 (.cells #[.int .u64 (W64 (hiN F)), .int .u64 (W64 (loN F))] 63)
  have hn2 := (New.refl w9).alloc (.cells #[.int .u64 (W64 (hiN F)), .int .u64 (W64 (loN F))] 63)
  obtain ⟨wb2, hw2⟩ : ∃ w2, w9.alloc (.cells #[.int .u64 (W64 (hiN F)), .int .u64 (W64 (loN F))] 63) = w2 := ⟨_, rfl⟩
  rw [hw2] at hx hn2
  obtain ⟨q2, hq⟩ : ∃ q, w9.heap.size = q := ⟨_, rfl⟩
  rw [hq] at hx
  have HX2 := Lib.hid hx
  replace HN := Lib.hid (HN.out.trans hn2)
  have HM2 := Lib.hid hn2
  have HE2 := Lib.hid (show w9.alloc (.cells #[.int .u64 (W64 (hiN F)), .int .u64 (W64 (loN F))] 63) = wb2 ∧ w9.heap.size = q2 from ⟨hw2, hq⟩)
  clear hx hn2 hw2 hq
  replace HB1 := Lib.hid ((HM2.out.block _ (lt_of_block HB1.out)).trans HB1.out)
  replace HX1 := Lib.hid ((HM2.out.block _ (lt_of_block HX1.out)).trans HX1.out)
  have y0 := cell_of_row _ _ 0 _ _ _ HX1.out
  have y1 := cell_of_row _ _ 1 _ _ _ HX1.out
  have z0 := cell_of_row _ _ 0 _ _ _ HX2.out
  have z1 := cell_of_row _ _ 1 _ _ _ HX2.out
  go_wp2_with (rw [HE2.out.1, HE2.out.2])
  refine (H3.out _).mono ?_
  rintro e w9 ⟨rfl, hn⟩
  replace HN := Lib.hid (HN.out.trans hn)
  replace HB1 := Lib.hid ((hn.block _ (lt_of_block HB1.out)).trans HB1.out)
  clear hn y0 y1 z0 z1
  have k0 := cell_of_row _ _ 0 _ _ _ HB1.out
  have k1 := cell_of_row _ _ 1 _ _ _ HB1.out
  have kf := fun i => frozen_of_row _ _ i _ _ HB1.out
  go_wp2
  refine bodyPost_ret (by simp [results, Tryz.results158, go_sem, k0, k1]; try rfl) rfl ?_
  exact ⟨rfl, (HN.out.setCell (Nat.le_succ _) _).setCell (Nat.le_succ _) _⟩
end Go.Proofs.YtebcfbcfipmahaaGreat
end
section
/- Contracts of layer 21: sub, headed. -/
namespace Go.Proofs.YtebcfbcfipmahaaGreat
open Go.RowKit Go.Bv
set_option linter.unusedVariables false
set_option maxHeartbeats 1000000 in
theorem sub_a (A B : Nat) (hA : A < 2 ^ 128) (hB : B < 2 ^ 128) (w : World) : Calls Tryz.prog 132 #[.agg #[.int .u64 (W64 (hiN (A))), .int .u64 (W64 (loN (A)))], .agg #[.int .u64 (W64 (hiN (B))), .int .u64 (W64 (loN (B)))]] w fun e w' => e = .returned (.agg #[.int .u64 (W64 (hiN (A + 2 ^ 128 - B))), .int .u64 (W64 (loN (A + 2 ^ 128 - B)))]) ∧ New w w' := by
  have H1 := Lib.hid (sub_n A B hA hB)
  generalize A + 2 ^ 128 - B = R at *
  generalize decide (A < B) = o at *
  clear hA hB
  obtain ⟨hbl, HNN⟩ := boxes3 w (.cells #[.int .u64 (W64 (hiN (A))), .int .u64 (W64 (loN (A)))] 63) (.cells #[.int .u64 (W64 (hiN (B))), .int .u64 (W64 (loN (B)))] 63) (.cells #[.int .u64 0, .int .u64 0] 63)
  obtain ⟨hb0, hb1, hb2⟩ := hbl
  have HN := Lib.hid HNN
  obtain ⟨w0, hw0⟩ : ∃ w0, (((((w.alloc (.cells #[.int .u64 (W64 (hiN (A))), .int .u64 (W64 (loN (A)))] 63))).alloc (.cells #[.int .u64 (W64 (hiN (B))), .int .u64 (W64 (loN (B)))] 63))).alloc (.cells #[.int .u64 0, .int .u64 0] 63)) = w0 := ⟨_, rfl⟩
  rw [hw0] at HN hb0 hb1 hb2
  have HW0 := Lib.hid hw0
  have HB0 := Lib.hid hb0
  have HB1 := Lib.hid hb1
  have HB2 := Lib.hid hb2
  clear hw0 HNN hb0 hb1 hb2
  have x0 := cell_of_row _ _ 0 _ _ _ HB0.out
  have x1 := cell_of_row _ _ 1 _ _ _ HB0.out
  have y0 := cell_of_row _ _ 0 _ _ _ HB1.out
  have y1 := cell_of_row _ _ 1 _ _ _ HB1.out
  go_enter Tryz.func132, Tryz.ntmps132
  go_wp2_with (rw [HW0.out])
  refine (H1.out _).mono ?_
  rintro e w9 ⟨rfl, hn⟩
  replace HN := Lib.hid (HN.out.trans hn)
  replace HB2 := Lib.hid ((hn.block _ (lt_of_block HB2.out)).trans HB2.out)
  clear hn x0 x1 y0 y1
  have hx := heap_alloc_new w9 (.cells #[.int .u64 (W64 (hiN R)), .int .u64 (W64 (loN R))] 63)
  have hn2 := (New.refl w9).alloc (.cells #[.int .u64 (W64 (hiN R)), .int .u64 (W64 (loN R))] 63)
  obtain ⟨wb5, hw2⟩ : ∃ w2, w9.alloc (.cells #[.int .u64 (W64 (hiN R)), .int .u64 (W64 (loN R))] 63) = w2 := ⟨_, rfl⟩
  rw [hw2] at hx hn2
  obtain ⟨q5, hq⟩ : ∃ q, w9.heap.size = q := ⟨_, rfl⟩
  rw [hq] at hx
  have HX5 := Lib.hid hx
  replace HN := Lib.hid (HN.out.trans hn2)
  have HM5 := Lib.hid hn2
  have HE5 := Lib.hid (show w9.alloc (.cells #[.int .u64 (W64 (hiN R)), .int .u64 (W64 (loN R))] 63) = wb5 ∧ w9.heap.size = q5 from ⟨hw2, hq⟩)
  clear hx hn2 hw2 hq
  replace HB2 := Lib.hid ((HM5.out.block _ (lt_of_block HB2.out)).trans HB2.out)
  have k0 := cell_of_row _ _ 0 _ _ _ HB2.out
  have k1 := cell_of_row _ _ 1 _ _ _ HB2.out
  have x0 := cell_of_row _ _ 0 _ _ _ HX5.out
  have x1 := cell_of_row _ _ 1 _ _ _ HX5.out
  have kf := fun i => frozen_of_row _ _ i _ _ HB2.out
  go_wp2_with (rw [HE5.out.1, HE5.out.2])
  refine bodyPost_ret (by simp [results, Tryz.results132, go_sem, k0, k1]; try rfl) rfl ?_
  exact ⟨rfl, (HN.out.setCell (by show w.heap.size ≤ w.heap.size + 1 + 1; omega) _).setCell (by show w.heap.size ≤ w.heap.size + 1 + 1; omega) _⟩
set_option maxRecDepth 100000 in
set_option maxHeartbeats 2000000 in
theorem headed_a (A wd kd j : Nat) (x : BitVec 64) (hA : A < 2 ^ 128) (hwd : wd ≤ 128) (hj : j ≤ wd) (w : World) : Calls Tryz.prog 130 #[.agg #[.int .i64 (wd : Int), .int .i64 (kd : Int), .int .i64 (kd : Int)], .agg #[.int .u64 (W64 (hiN (A))), .int .u64 (W64 (loN (A)))], .int .i64 (j : Int), .int .u64 (W64 x)] w fun e w' => e = .returned (.agg #[.int .u64 (W64 (hiN (A % 2 ^ (wd - j) + x.toNat * 2 ^ (wd - j) % 2 ^ 128))), .int .u64 (W64 (loN (A % 2 ^ (wd - j) + x.toNat * 2 ^ (wd - j) % 2 ^ 128)))]) ∧ New w w' := by
  have h1 := lowest_a A (wd - j) hA (by omega)
  have h2 := shl_n x.toNat (wd - j) (by have := x.isLt; omega) (by omega)
  rw [hi_word, lo_word, ← hi_mod (x.toNat * 2 ^ (wd - j)), ← lo_mod (x.toNat * 2 ^ (wd - j))] at h2
  have hL : A % 2 ^ (wd - j) < 2 ^ 128 := Nat.lt_of_le_of_lt (Nat.mod_le _ _) hA
  have h3 := add_a (A % 2 ^ (wd - j)) (x.toNat * 2 ^ (wd - j) % 2 ^ 128) hL (Nat.mod_lt _ (Nat.two_pow_pos _))
  rw [show ((wd - j : Nat) : Int) = (wd : Int) - (j : Int) by omega] at h1 h2
  have hw : wrap64 ((wd : Int) - (j : Int)) = (wd : Int) - (j : Int) := by unfold wrap64; omega
  have hw2 : IntKind.i64.wrap ((wd : Int) - (j : Int)) = (wd : Int) - (j : Int) := by first | (rw [IntKind.wrap_i64]; exact hw) | (simp [IntKind.wrap, IntKind.signed, IntKind.bits]; omega)
  generalize A % 2 ^ (wd - j) + x.toNat * 2 ^ (wd - j) % 2 ^ 128 = R at *
  generalize x.toNat * 2 ^ (wd - j) % 2 ^ 128 = M at *
  generalize A % 2 ^ (wd - j) = L at *
  have H1 := Lib.hid h1
  have H2 := Lib.hid h2
  have H3 := Lib.hid h3
  clear h1 h2 h3 hL hA hwd hj
  obtain ⟨hbl, HNN⟩ := boxes3 w (.cells #[.int .i64 (wd : Int), .int .i64 (kd : Int), .int .i64 (kd : Int)] 133) (.cells #[.int .u64 (W64 (hiN (A))), .int .u64 (W64 (loN (A)))] 63) (.cells #[.int .u64 0, .int .u64 0] 63)
  obtain ⟨hb0, hb1, hb2⟩ := hbl
  have HN := Lib.hid HNN
  obtain ⟨w0, hw0⟩ : ∃ w0, (((((w.alloc (.cells #[.int .i64 (wd : Int), .int .i64 (kd : Int), .int .i64 (kd : Int)] 133))).alloc (.cells #[.int .u64 (W64 (hiN (A))), .int .u64 (W64 (loN (A)))] 63))).alloc (.cells #[.int .u64 0, .int .u64 0] 63)) = w0 := ⟨_, rfl⟩
  rw [hw0] at HN hb0 hb1 hb2
  have HW0 := Lib.hid hw0
  have HB0 := Lib.hid hb0
  have HB1 := Lib.hid hb1
  have HB2 := Lib.hid hb2
  clear hw0 HNN hb0 hb1 hb2
  have s0 := cell_of_row _ _ 0 _ _ _ HB0.out
  have s1 := cell_of_row _ _ 1 _ _ _ HB0.out
  have s2 := cell_of_row _ _ 2 _ _ _ HB0.out
  have x0 := cell_of_row _ _ 0 _ _ _ HB1.out
  have x1 := cell_of_row _ _ 1 _ _ _ HB1.out
  go_enter Tryz.func130, Tryz.ntmps130
  go_wp2_with (rw [HW0.out])
  refine (H1.out _).mono ?_
  rintro e w9 ⟨rfl, hn⟩
  replace HN := Lib.hid (HN.out.trans hn)
  replace HB0 := Lib.hid ((hn.block _ (lt_of_block HB0.out)).trans HB0.out)
  replace HB2 := Lib.hid ((hn.block _ (lt_of_block HB2.out)).trans HB2.out)
  clear hn x0 x1 s0 s1 s2
  have HLT := Lib.hid (lt_of_block HB2.out)
  have hx := heap_alloc_new w9 (.cells #[.int .u64 (W64 (hiN L)), .int .u64 (W64 (loN L))] 63)
  have hn2 := (New.refl w9).alloc (.cells #[.int .u64 (W64 (hiN L)), .int .u64 (W64 (loN L))] 63)
  obtain ⟨wb5, hw2⟩ : ∃ w2, w9.alloc (.cells #[.int .u64 (W64 (hiN L)), .int .u64 (W64 (loN L))] 63) = w2 := ⟨_, rfl⟩
  rw [hw2] at hx hn2
  obtain ⟨q5, hq⟩ : ∃ q, w9.heap.size = q := ⟨_, rfl⟩
  rw [hq] at hx
  have HX5 := Lib.hid hx
  replace HN := Lib.hid (HN.out.trans hn2)
  have HM5 := Lib.hid hn2
  have HE5 := Lib.hid (show w9.alloc (.cells #[.int .u64 (W64 (hiN L)), .int .u64 (W64 (loN L))] 63) = wb5 ∧ w9.heap.size = q5 from ⟨hw2, hq⟩)
  clear hx hn2 hw2 hq
  replace HB0 := Lib.hid ((HM5.out.block _ (lt_of_block HB0.out)).trans HB0.out)
  replace HB2 := Lib.hid ((HM5.out.block _ (lt_of_block HB2.out)).trans HB2.out)
  go_wp2_with (rw [HE5.out.1, HE5.out.2])
  have HQ5 : Hid (¬ q5 = w.heap.size + 1 + 1) := Lib.hid (by have h1 := HLT.out; have h2 := HE5.out.2; omega)
  refine Grow.wp_region_growS (fun w' => (w'.heap[w.heap.size]? = some (.cells #[.int .i64 (wd : Int), .int .i64 (kd : Int), .int .i64 (kd : Int)] 133) ∧ w'.heap[q5]? = some (.cells #[.int .u64 (W64 (hiN (L))), .int .u64 (W64 (loN (L)))] 63) ∧ ∃ u v, w'.heap[w.heap.size + 1 + 1]? = some (.cells #[u, v] 63 (0, 0))) ∧ New w w') (fun k => [7, 8, 9].contains k) (by kernel_rfl) (by kernel_rfl) (by kernel_rfl) ⟨⟨HB0.out, HX5.out, ⟨_, _, HB2.out⟩⟩, HN.out.drew⟩ ?_
  intro I _ f hall hback
  have HALL := Lib.hid hall
  have HSTEP : Hid (∀ n w', New (f n) w' → ∃ m, w' = f m) := Lib.hid fun n w' hn => hback w' ⟨⟨(hn.block _ (lt_of_block (hall n).1.1)).trans (hall n).1.1, (hn.block _ (lt_of_block (hall n).1.2.1)).trans (hall n).1.2.1, (by obtain ⟨u, v, h⟩ := (hall n).1.2.2; exact ⟨u, v, (hn.block _ (lt_of_block h)).trans h⟩)⟩, (hall n).2.trans hn⟩
  have HBACK := Lib.hid hback
  have s0 := fun n => cell_of_row _ _ 0 _ _ _ (hall n).1.1
  have s3 := fun n => cell_of_row _ _ 0 _ _ _ (hall n).1.2.1
  have s4 := fun n => cell_of_row _ _ 1 _ _ _ (hall n).1.2.1
  clear hall hback
  refine Grow.wpGrow_take 7 (by kernel_rfl) ?_
  simp only [List.take, List.drop, List.length]
  repeat (go_big_quiet_step (fail))
  refine wpQuiet_nil ?_
  refine Grow.wpGrow_one (.agg #[.int .u64 (W64 (hiN (M))), .int .u64 (W64 (loN (M)))]) rfl rfl (fun w1 hB hG => ?_) (fun A4 hA => ?_)
  · obtain ⟨n, rfl⟩ := hB
    go_simp
    refine (H2.out _).mono ?_
    rintro e w2 ⟨rfl, hn⟩
    first | exact ⟨_, rfl, HSTEP.out _ _ hn, rfl⟩ | exact ⟨rfl, HSTEP.out _ _ hn⟩ | exact ⟨_, rfl, HSTEP.out _ _ hn, rfl, hG⟩
  simp [Act.put] at hA
  subst hA
  refine Grow.wpGrow_one (.agg #[.int .u64 (W64 (hiN (R))), .int .u64 (W64 (loN (R)))]) rfl rfl (fun w1 hB hG => ?_) (fun A4 hA => ?_)
  · obtain ⟨n, rfl⟩ := hB
    go_simp
    refine (H3.out _).mono ?_
    rintro e w2 ⟨rfl, hn⟩
    first | exact ⟨_, rfl, HSTEP.out _ _ hn, rfl⟩ | exact ⟨rfl, HSTEP.out _ _ hn⟩ | exact ⟨_, rfl, HSTEP.out _ _ hn, rfl, hG⟩
  simp [Act.put] at hA
  subst hA
  refine Grow.wpGrow_turn (fun v => v = undef) (fun _ w9 => w9.heap[w.heap.size + 1 + 1]? = some (.cells #[.int .u64 (W64 (hiN (R))), .int .u64 (W64 (loN (R)))] 63)) rfl rfl ⟨_, rfl⟩ (fun w1 hB hG => ?_) (fun v7 A7 hv7 hA => ?_)
  · obtain ⟨n, rfl⟩ := hB
    obtain ⟨⟨hx, hy, u, v, hr⟩, hnw⟩ := HALL.out n
    have hc0 := cell_of_row _ _ 0 _ _ _ hr
    have hc1 := cell_of_row _ _ 1 _ _ _ hr
    have hfr := fun i => frozen_of_row _ _ i _ _ hr
    have HP := Lib.hid (put_two (.int .u64 (W64 (hiN R))) (.int .u64 (W64 (loN R))) hr)
    have HX := Lib.hid hx
    have HY := Lib.hid hy
    have HNW := Lib.hid hnw
    clear hx hy hr hnw
    go_simp
    exact ⟨HBACK.out _ ⟨⟨(HP.out.2 _ (by omega)).trans HX.out, (HP.out.2 _ HQ5.out).trans HY.out, ⟨_, _, HP.out.1⟩⟩, (HNW.out.setCell (by show w.heap.size ≤ w.heap.size + 1 + 1; omega) _).setCell (by show w.heap.size ≤ w.heap.size + 1 + 1; omega) _⟩, HP.out.1⟩
  simp [Act.put] at hA
  subst hA
  refine Grow.wpGrow_nil ?_
  rintro w9 ⟨n9, rfl⟩ hG
  have HN9 := Lib.hid (HALL.out n9).2
  have k0 := cell_of_row _ _ 0 _ _ _ hG
  have k1 := cell_of_row _ _ 1 _ _ _ hG
  clear HALL HSTEP HBACK s0 s3 s4 hG
  generalize f n9 = w9 at *
  go_wp2
  refine bodyPost_ret (by simp [results, Tryz.results130, go_sem, k0, k1]; try rfl) rfl ?_
  exact ⟨rfl, HN9.out⟩
end Go.Proofs.YtebcfbcfipmahaaGreat
end
section
/- The mathematics of a shift: lines through two points modulo a power of 2, there and back. -/
namespace Go.Bv
open Go Go.RowKit
theorem mod_cancel {W r s t : Nat} (h : (r + s) % W = (r + t) % W) : s % W = t % W := by
  have h1 : ((r + s : Nat) : Int) % (W : Int) = ((r + t : Nat) : Int) % (W : Int) := by exact_mod_cast h
  rw [Int.emod_eq_emod_iff_emod_sub_eq_zero] at h1
  have h2 : ((s : Int) % (W : Int)) = ((t : Int) % (W : Int)) := by
    rw [Int.emod_eq_emod_iff_emod_sub_eq_zero]
    rw [← h1]; congr 1; omega
  exact_mod_cast h2
theorem odd_part : ∀ n : Nat, n ≠ 0 → ∃ k o, n = 2 ^ k * o ∧ o % 2 = 1 := by
  intro n
  induction n using Nat.strongRecOn with
  | ind n ih =>
    intro h
    by_cases h2 : n % 2 = 1
    · exact ⟨0, n, by rw [Nat.pow_zero, Nat.one_mul], h2⟩
    · obtain ⟨k, o, h3, h4⟩ := ih (n / 2) (by omega) (by omega)
      refine ⟨k + 1, o, ?_, h4⟩
      rw [Nat.pow_succ, Nat.mul_comm (2 ^ k) 2, Nat.mul_assoc, ← h3]; omega
/-- the difference modulo 2^128 -/
def dfN (x y : Nat) : Nat := (x + 2 ^ 128 - y) % 2 ^ 128
theorem df_add {x y : Nat} (hx : x < 2 ^ 128) (hy : y < 2 ^ 128) : (dfN x y + y) % 2 ^ 128 = x := by unfold dfN; omega
theorem df_lt (x y : Nat) : dfN x y < 2 ^ 128 := Nat.mod_lt _ (Nat.two_pow_pos _)
theorem df_cases {x y : Nat} (hx : x < 2 ^ 128) (hy : y < 2 ^ 128) : (y ≤ x ∧ dfN x y = x - y) ∨ (x < y ∧ dfN x y = 2 ^ 128 - (y - x)) := by unfold dfN; omega
theorem df_dvd {x y k : Nat} (hx : x < 2 ^ 128) (hy : y < 2 ^ 128) (hk : k ≤ 128) (h : x % 2 ^ k = y % 2 ^ k) : 2 ^ k ∣ dfN x y := by
  rcases df_cases hx hy with ⟨h1, h2⟩ | ⟨h1, h2⟩
  · rw [h2]; exact Nat.dvd_of_mod_eq_zero (Nat.sub_mod_eq_zero_of_mod_eq h)
  · rw [h2]; exact Nat.dvd_sub (Nat.pow_dvd_pow 2 hk) (Nat.dvd_of_mod_eq_zero (Nat.sub_mod_eq_zero_of_mod_eq h.symm))
/-- the difference of two keys: so many factors 2, and an odd number -/
theorem run_parts {x y kd : Nat} (hk : kd ≤ 64) (hx : x < 2 ^ kd) (hy : y < 2 ^ kd) (hne : x ≠ y) : ∃ k o, dfN x y = 2 ^ k * o ∧ o % 2 = 1 ∧ k < kd ∧ x % 2 ^ k = y % 2 ^ k := by
  have hp : 2 ^ kd ≤ 2 ^ 64 := Nat.pow_le_pow_right (by decide) hk
  have hx2 : x < 2 ^ 128 := by omega
  have hy2 : y < 2 ^ 128 := by omega
  have h0 : dfN x y ≠ 0 := by rcases df_cases hx2 hy2 with ⟨h1, h2⟩ | ⟨h1, h2⟩ <;> omega
  obtain ⟨k, o, h1, h2⟩ := odd_part _ h0
  have hlt := df_lt x y
  have ho : 0 < o := by omega
  have hk128 : k < 128 := by
    have h3 : 2 ^ k * 1 ≤ 2 ^ k * o := Nat.mul_le_mul_left _ ho
    have h4 : 2 ^ k < 2 ^ 128 := by omega
    exact (Nat.pow_lt_pow_iff_right (by decide)).1 h4
  have hd : 2 ^ k ∣ dfN x y := ⟨o, h1⟩
  have hd2 : 2 ^ k ∣ 2 ^ 128 := Nat.pow_dvd_pow 2 (by omega)
  have key : ∀ d, 0 < d → d < 2 ^ kd → 2 ^ k ∣ d → k < kd := fun d d0 d1 d2 => by
    have := Nat.le_of_dvd d0 d2
    exact (Nat.pow_lt_pow_iff_right (by decide)).1 (Nat.lt_of_le_of_lt this d1)
  rcases df_cases hx2 hy2 with ⟨h3, h4⟩ | ⟨h3, h4⟩
  · rw [h4] at hd
    refine ⟨k, o, h1, h2, key _ (by omega) (by omega) hd, ?_⟩
    obtain ⟨e, he⟩ := hd
    rw [show x = y + 2 ^ k * e by omega, Nat.add_mul_mod_self_left]
  · rw [h4] at hd
    have hd3 : 2 ^ k ∣ y - x := by
      have h5 := Nat.dvd_sub hd2 hd
      rw [show 2 ^ 128 - (2 ^ 128 - (y - x)) = y - x by omega] at h5
      exact h5
    refine ⟨k, o, h1, h2, key _ (by omega) (by omega) hd3, ?_⟩
    obtain ⟨e, he⟩ := hd3
    rw [show y = x + 2 ^ k * e by omega, Nat.add_mul_mod_self_left]
/-- a line's value -/
def lnN (wd a b x : Nat) : Nat := (a * x + b) % 2 ^ wd
/-- a number with another head -/
def hdN (wd j n u : Nat) : Nat := n % 2 ^ (wd - j) + u * 2 ^ (wd - j)
/-- the slope -/
def slN (wd a k inv rise : Nat) : Nat := rise / 2 ^ k * inv % 2 ^ (wd - k) + (a - a % 2 ^ (wd - k))
/-- what is added -/
def adN (wd at' a x : Nat) : Nat := dfN at' (a * x % 2 ^ 128) % 2 ^ wd
theorem ln_lt (wd a b x : Nat) : lnN wd a b x < 2 ^ wd := Nat.mod_lt _ (Nat.two_pow_pos _)
theorem hd_lt {wd j n u : Nat} (hj : j ≤ wd) (hu : u < 2 ^ j) : hdN wd j n u < 2 ^ wd := by
  unfold hdN
  have h1 : n % 2 ^ (wd - j) < 2 ^ (wd - j) := Nat.mod_lt _ (Nat.two_pow_pos _)
  have h2 : (u + 1) * 2 ^ (wd - j) ≤ 2 ^ j * 2 ^ (wd - j) := Nat.mul_le_mul_right _ hu
  rw [← Nat.pow_add, Nat.add_sub_cancel' hj, Nat.add_mul, Nat.one_mul] at h2
  omega
theorem hd_div {wd j n u : Nat} : hdN wd j n u / 2 ^ (wd - j) = u := by
  unfold hdN
  rw [Nat.add_mul_div_right _ _ (Nat.two_pow_pos _), Nat.div_eq_of_lt (Nat.mod_lt _ (Nat.two_pow_pos _)), Nat.zero_add]
theorem hd_mod {wd j n u : Nat} : hdN wd j n u % 2 ^ (wd - j) = n % 2 ^ (wd - j) := by
  unfold hdN
  rw [Nat.add_mul_mod_self_right, Nat.mod_mod]
theorem hd_back {wd j n : Nat} (m : Nat) (h : m % 2 ^ (wd - j) = n % 2 ^ (wd - j)) : hdN wd j m (n / 2 ^ (wd - j)) = n := by
  unfold hdN
  rw [h, Nat.mul_comm]
  exact Nat.mod_add_div n _
theorem mod_small {n a b : Nat} (h : a ≤ b) : n % 2 ^ b % 2 ^ a = n % 2 ^ a := Nat.mod_mod_of_dvd n (Nat.pow_dvd_pow 2 h)
section
variable {wd kd j A B x y : Nat}
theorem sl_lt (a k inv rise : Nat) (hk : k ≤ wd) (ha : a < 2 ^ wd) : slN wd a k inv rise < 2 ^ wd := by
  unfold slN
  have h1 : rise / 2 ^ k * inv % 2 ^ (wd - k) < 2 ^ (wd - k) := Nat.mod_lt _ (Nat.two_pow_pos _)
  have h2 := slope_high a (rise / 2 ^ k * inv % 2 ^ (wd - k)) (2 ^ (wd - k)) h1
  have h3 : a / 2 ^ (wd - k) < 2 ^ k := by
    apply Nat.div_lt_of_lt_mul
    rw [← Nat.pow_add, Nat.sub_add_cancel hk]; exact ha
  rw [← h2] at h3
  have h4 := (Nat.div_lt_iff_lt_mul (Nat.two_pow_pos _)).1 h3
  rw [← Nat.pow_add, Nat.add_sub_cancel' hk] at h4
  exact h4
/-- a line through a point -/
theorem ln_first (hw : wd ≤ 128) (a at' : Nat) (hat : at' < 2 ^ wd) (x : Nat) : lnN wd a (adN wd at' a x) x = at' := by
  have hP : 2 ^ wd ≤ 2 ^ 128 := Nat.pow_le_pow_right (by decide) hw
  unfold lnN adN
  have hz : a * x % 2 ^ 128 < 2 ^ 128 := Nat.mod_lt _ (Nat.two_pow_pos _)
  have h1 : a * x % 2 ^ wd = a * x % 2 ^ 128 % 2 ^ wd := (mod_small hw).symm
  have h2 := df_add (x := at') (y := a * x % 2 ^ 128) (by omega) hz
  rw [Nat.add_mod, h1, Nat.mod_mod, ← Nat.add_mod, Nat.add_comm, ← mod_small hw, h2, Nat.mod_eq_of_lt hat]
/-- and through another one, by the slope -/
theorem ln_second (hw : wd ≤ 128) (a aX aY : Nat) (hX : aX < 2 ^ wd) (hY : aY < 2 ^ wd) (hx : x < 2 ^ 128) (hy : y < 2 ^ 128) (hs : a * dfN x y % 2 ^ wd = dfN aX aY % 2 ^ wd) : lnN wd a (adN wd aX a x) y = aY := by
  have hP : 2 ^ wd ≤ 2 ^ 128 := Nat.pow_le_pow_right (by decide) hw
  have h1 := ln_first hw a aX hX x
  unfold lnN at h1 ⊢
  generalize adN wd aX a x = b at *
  have h2 := df_add hx hy
  have h3 := df_add (x := aX) (y := aY) (by omega) (by omega)
  have h4 : a * x % 2 ^ wd = a * (dfN x y + y) % 2 ^ wd := by
    rw [Nat.mul_mod, Nat.mul_mod a (dfN x y + y)]
    congr 2
    rw [← mod_small (n := dfN x y + y) hw, h2]
  have h5 : (dfN aX aY + (a * y + b)) % 2 ^ wd = (dfN aX aY + aY) % 2 ^ wd := by
    have h6 : (dfN aX aY + aY) % 2 ^ wd = aX := by rw [← mod_small hw, h3, Nat.mod_eq_of_lt hX]
    generalize dfN aX aY = G at *
    rw [h6, ← h1, Nat.add_mod (a * x) b, h4, ← Nat.add_mod, Nat.mul_add, Nat.add_mod G, ← hs, ← Nat.add_mod, Nat.add_assoc]
  have h7 := mod_cancel h5
  rw [h7, Nat.mod_eq_of_lt hY]
theorem rise_dvd (hw : wd ≤ 128) (hj : j ≤ wd) {k u v : Nat} (hk : k ≤ wd - j) (hu : u < 2 ^ j) (hv : v < 2 ^ j) (hxy : x % 2 ^ k = y % 2 ^ k) : 2 ^ k ∣ dfN (hdN wd j (lnN wd A B x) u) (hdN wd j (lnN wd A B y) v) := by
  have hP : 2 ^ wd ≤ 2 ^ 128 := Nat.pow_le_pow_right (by decide) hw
  have h1 := hd_lt (n := lnN wd A B x) hj hu
  have h2 := hd_lt (n := lnN wd A B y) hj hv
  refine df_dvd (by omega) (by omega) (by omega) ?_
  rw [← mod_small (n := hdN wd j (lnN wd A B x) u) hk, hd_mod, mod_small hk, ← mod_small (n := hdN wd j (lnN wd A B y) v) hk, hd_mod, mod_small hk]
  unfold lnN
  rw [mod_small (show k ≤ wd by omega), mod_small (show k ≤ wd by omega), Nat.add_mod, Nat.mul_mod, hxy, ← Nat.mul_mod, ← Nat.add_mod]
/-- what a shift makes of a and b -/
theorem shift_there (hw : wd ≤ 128) (hj : j ≤ wd) {k o inv u v : Nat} (hk : k ≤ wd - j) (hu : u < 2 ^ j) (hv : v < 2 ^ j) (hx : x < 2 ^ 128) (hy : y < 2 ^ 128) (hrun : dfN x y = 2 ^ k * o) (hxy : x % 2 ^ k = y % 2 ^ k) (hinv : o * inv % 2 ^ (wd - k) = 1 % 2 ^ (wd - k)) (a : Nat) :
    lnN wd (slN wd a k inv (dfN (hdN wd j (lnN wd A B x) u) (hdN wd j (lnN wd A B y) v))) (adN wd (hdN wd j (lnN wd A B x) u) (slN wd a k inv (dfN (hdN wd j (lnN wd A B x) u) (hdN wd j (lnN wd A B y) v))) x) x = hdN wd j (lnN wd A B x) u ∧
    lnN wd (slN wd a k inv (dfN (hdN wd j (lnN wd A B x) u) (hdN wd j (lnN wd A B y) v))) (adN wd (hdN wd j (lnN wd A B x) u) (slN wd a k inv (dfN (hdN wd j (lnN wd A B x) u) (hdN wd j (lnN wd A B y) v))) x) y = hdN wd j (lnN wd A B y) v := by
  obtain ⟨r, hr⟩ := rise_dvd (A := A) (B := B) hw hj hk hu hv hxy
  have h1 := hd_lt (n := lnN wd A B x) hj hu
  have h2 := hd_lt (n := lnN wd A B y) hj hv
  refine ⟨ln_first hw _ _ h1 x, ln_second hw _ _ _ h1 h2 hx hy ?_⟩
  have hs := slope_ok (dfN x y) (dfN (hdN wd j (lnN wd A B x) u) (hdN wd j (lnN wd A B y) v)) a inv k wd o r hrun hr (by omega) hinv
  unfold slN
  rw [hr, Nat.mul_div_cancel_left _ (Nat.two_pow_pos _)] at *
  exact hs
/-- aimed back -/
theorem shift_back (hw : wd ≤ 128) {k o inv : Nat} (hk : k ≤ wd) (hB : B < 2 ^ wd) (hx : x < 2 ^ 128) (hy : y < 2 ^ 128) (hrun : dfN x y = 2 ^ k * o) (hxy : x % 2 ^ k = y % 2 ^ k) (hinv : o * inv % 2 ^ (wd - k) = 1 % 2 ^ (wd - k)) (c : Nat) (hc : c / 2 ^ (wd - k) = A / 2 ^ (wd - k)) :
    slN wd c k inv (dfN (lnN wd A B x) (lnN wd A B y)) = A ∧ adN wd (lnN wd A B x) A x = B := by
  have hP : 2 ^ wd ≤ 2 ^ 128 := Nat.pow_le_pow_right (by decide) hw
  have hlx := ln_lt wd A B x
  have hly := ln_lt wd A B y
  constructor
  · have hd : 2 ^ k ∣ dfN (lnN wd A B x) (lnN wd A B y) := by
      refine df_dvd (by omega) (by omega) (by omega) ?_
      unfold lnN
      rw [mod_small hk, mod_small hk, Nat.add_mod, Nat.mul_mod, hxy, ← Nat.mul_mod, ← Nat.add_mod]
    obtain ⟨r, hr⟩ := hd
    have h2 := df_add hx hy
    have h3 := df_add (x := lnN wd A B x) (y := lnN wd A B y) (by omega) (by omega)
    have h4 : (dfN (lnN wd A B x) (lnN wd A B y) + lnN wd A B y) % 2 ^ wd = lnN wd A B x := by rw [← mod_small hw, h3, Nat.mod_eq_of_lt hlx]
    have h5 : (lnN wd A B y + A * dfN x y) % 2 ^ wd = lnN wd A B x := by
      unfold lnN
      rw [Nat.add_mod, Nat.mod_mod, ← Nat.add_mod, show A * y + B + A * dfN x y = A * (dfN x y + y) + B by rw [Nat.mul_add]; omega, Nat.add_mod, Nat.mul_mod, ← mod_small (n := dfN x y + y) hw, h2, ← Nat.mul_mod, ← Nat.add_mod]
    have h6 : A * dfN x y % 2 ^ wd = dfN (lnN wd A B x) (lnN wd A B y) % 2 ^ wd := mod_cancel (r := lnN wd A B y) (by rw [h5, Nat.add_comm (lnN wd A B y)]; exact h4.symm)
    have h7 : A * o % 2 ^ (wd - k) = r % 2 ^ (wd - k) := by
      rw [hrun, hr, Nat.mul_left_comm, show 2 ^ wd = 2 ^ k * 2 ^ (wd - k) by rw [← Nat.pow_add, Nat.add_sub_cancel' hk], Nat.mul_mod_mul_left, Nat.mul_mod_mul_left] at h6
      exact Nat.eq_of_mul_eq_mul_left (Nat.two_pow_pos k) h6
    have h8 := slope_back A c inv (2 ^ (wd - k)) o hinv hc
    unfold slN
    rw [hr, Nat.mul_div_cancel_left _ (Nat.two_pow_pos _), Nat.mul_mod, ← h7, ← Nat.mul_mod]
    exact h8
  · have hz : A * x % 2 ^ 128 < 2 ^ 128 := Nat.mod_lt _ (Nat.two_pow_pos _)
    have h2 := df_add (x := lnN wd A B x) (y := A * x % 2 ^ 128) (by omega) hz
    have h3 : (A * x % 2 ^ 128 + dfN (lnN wd A B x) (A * x % 2 ^ 128)) % 2 ^ wd = (A * x % 2 ^ 128 + B) % 2 ^ wd := by
      rw [Nat.add_comm, ← mod_small hw, h2, Nat.mod_eq_of_lt hlx]
      unfold lnN
      rw [Nat.add_mod (A * x % 2 ^ 128), mod_small hw, ← Nat.add_mod]
    have h4 := mod_cancel h3
    unfold adN
    rw [h4, Nat.mod_eq_of_lt hB]
end
end Go.Bv
end
