/- Counts of words: the document's own Mask and Even; the example of tally (awake). -/
import Derived.Test.YtdiikoiadhdeoaaTlyC
import Derived.Test.YtdiikoiadhdeoaaWords
namespace Go.Proofs.Ytdiikoiadhdeoaa
open Go.RowKit Go.Bv Go.Tly
set_option linter.unusedVariables false
set_option maxHeartbeats 2000000 in
theorem rmsk_51 (t : Nat) (ht : 1 ≤ t ∧ t ≤ 12) (n : BitVec 64) (h0 : ¬ n.toNat = 0) (hn : ¬ 2 ^ t < n.toNat) (m : Nat) (hP : IsP n.toNat m) (w : World) :
    Calls Try.prog 14 #[.int .i64 (t : Int), .int .u64 (W64 n)] w fun e w' => ∃ g c, e = .returned (.tuple #[.slice (some ⟨g, 0, none⟩) n.toNat c, .int .u64 (W64 (lo51 (mskF (2 ^ m) n.toNat) (2 ^ t)))]) ∧ n.toNat ≤ c ∧ c ≤ maxLen ∧ CR w' g n.toNat (cl (mskF (2 ^ m) n.toNat) (2 ^ t)) ∧ New w w' := by
  have hA : 2 ^ t ≤ 4096 := Nat.le_trans (Nat.pow_le_pow_right (by omega) ht.2) (by decide)
  have hm12 : m ≤ 12 := Nat.le_trans (isP_le hP (by omega)) ht.2
  have hS : 2 ^ m ≤ 4096 := Nat.le_trans (Nat.pow_le_pow_right (by omega) hm12) (by decide)
  have hS0 := Nat.two_pow_pos m
  have HZS := Lib.hid (fun w => zeros_51 n h0 (by omega) w)
  have HP := Lib.hid (fun w => power_51 t (by omega) w)
  obtain ⟨A, hAe⟩ : ∃ A, 2 ^ t = A := ⟨_, rfl⟩
  rw [hAe] at hA hn HP
  rw [hAe]
  obtain ⟨N, hN⟩ : ∃ N, n.toNat = N := ⟨_, rfl⟩
  have hnN : n = ofN N := by rw [← hN, ofN_of]
  rw [hN] at h0 hn hP HZS ⊢
  subst hnN
  obtain ⟨pa, hpa⟩ : ∃ z, ofN A = z := ⟨_, rfl⟩
  obtain ⟨pn, hpn⟩ : ∃ z, ofN N = z := ⟨_, rfl⟩
  rw [hpa] at HP
  rw [hpn] at HZS
  rw [hpn]
  have HPA := Lib.hid hpa
  have HPN := Lib.hid hpn
  have HZ : Hid (W64 0#64 = 0) := Lib.hid (W64_lit 0 (by omega))
  have HB : Hid (A ≤ 4096 ∧ N ≤ A ∧ 0 < N ∧ 2 ^ m ≤ 4096 ∧ 0 < 2 ^ m ∧ m ≤ 12) := Lib.hid ⟨hA, by omega, by omega, hS, hS0, hm12⟩
  have HIP := Lib.hid hP
  clear hN hAe hpa hpn hA hn h0 hS hS0 hP hm12
  go_enter Try.func14, Try.ntmps14
  go_wp2_with fail
  refine (HZS.out _).mono ?_
  rintro e w1 ⟨g, c, rfl, hc1, hc2, hcr, hgb, hn1⟩
  have HC1 := Lib.hid hc1
  have HC2 := Lib.hid hc2
  have HGB := Lib.hid hgb
  have HCR := Lib.hid hcr
  have HN1 := Lib.hid hn1
  clear hc1 hc2 hcr hgb hn1
  go_wp2_with fail
  go_loop [8] (fun sv => ∃ k : Nat, k ≤ m ∧ sv = .int .u64 (W64 (ofN (2 ^ k))) ∧ Hid (k = 0 ∨ 2 ^ (k - 1) < N)) (fun sv => 2 ^ m - (intOf sv).toNat)
  case atStart => exact ⟨0, Nat.zero_le _, by rw [ofN_one], Lib.hid (Or.inl rfl)⟩
  case round =>
    obtain ⟨k, hk, rfl, HK⟩ := hrel
    obtain ⟨hA, hNA, hN0, hS, hS0, hm12⟩ := HB.out
    have h2k : 2 ^ k ≤ 2 ^ m := Nat.pow_le_pow_right (by omega) hk
    by_cases hlt : 2 ^ k < N
    · have hkm : k < m := by
        rcases Nat.lt_or_ge k m with h | h
        · exact h
        · have : k = m := by omega
          subst this
          have := HIP.out.1
          omega
      have h2k1 : 2 ^ (k + 1) ≤ 2 ^ m := Nat.pow_le_pow_right (by omega) hkm
      have hps := Nat.pow_succ 2 k
      have hd : decide (W64 (ofN (2 ^ k)) < W64 pn) = true := decide_eq_true (by rw [← HPN.out, W64_ofN (by omega), W64_ofN (by omega)]; omega)
      have HM : Hid (2 ^ m - (W64 (ofN (2 ^ (k + 1)))).toNat < 2 ^ m - (W64 (ofN (2 ^ k))).toNat) := Lib.hid (by rw [W64_ofN (by omega), W64_ofN (by omega)]; have := Nat.two_pow_pos k; omega)
      have h2 := ofN_two k
      obtain ⟨p, hp⟩ : ∃ p, ofN (2 ^ k) = p := ⟨_, rfl⟩
      obtain ⟨p', hp'⟩ : ∃ p, ofN (2 ^ (k + 1)) = p := ⟨_, rfl⟩
      rw [hp, hp'] at h2 HM
      rw [hp] at hd ⊢
      have HPX := Lib.hid hp'
      have HK1 : Hid (k + 1 = 0 ∨ 2 ^ (k + 1 - 1) < N) := Lib.hid (Or.inr (by simpa using hlt))
      clear hp hp' hps h2k1 h2k hA hNA hN0 hS hS0 hm12 hlt
      go_wp2
      exact ⟨⟨k + 1, hkm, by rw [HPX.out], HK1⟩, by simpa [intOf] using HM.out⟩
    · obtain rfl : k = m := isP_one ⟨by omega, HK.out⟩ HIP.out
      have hd : decide (W64 (ofN (2 ^ k)) < W64 pn) = false := decide_eq_false (by rw [← HPN.out, W64_ofN (by omega), W64_ofN (by omega)]; omega)
      have hz1 : ¬ W64 (ofN (2 ^ k)) = 0 := nzero (by omega) (by omega)
      obtain ⟨p, hp⟩ : ∃ p, ofN (2 ^ k) = p := ⟨_, rfl⟩
      rw [hp] at hd hz1 ⊢
      have HPP := Lib.hid hp
      clear hp h2k hA hNA hN0 hS hS0 hm12 hlt HK
      go_wp2_with fail
      go_loopw [7, 9] (fun lv xv wr => ∃ x : Nat, x ≤ A ∧ lv = .int .u64 (W64 (lo51 (mskF (2 ^ k) N) x)) ∧ xv = .int .u64 (W64 (ofN x)) ∧ Hid (CR wr g N (cl (mskF (2 ^ k) N) x)) ∧ Hid (New w wr)) (fun _ xv _ => A - (intOf xv).toNat)
      case atStart => exact ⟨0, Nat.zero_le _, by rw [show lo51 (mskF (2 ^ k) N) 0 = 0#64 from rfl, HZ.out], by rw [show ofN 0 = 0#64 from rfl, HZ.out], HCR, HN1⟩
      case round =>
        clear HCR HN1
        obtain ⟨x, hx, rfl, rfl, HC, HN⟩ := hrel
        obtain ⟨hA, hNA, hN0, hS, hS0, hm12⟩ := HB.out
        by_cases hlt : x < A
        · have hd : decide (W64 (ofN x) < W64 pa) = true := decide_eq_true (by rw [← HPA.out, W64_ofN (by omega), W64_ofN (by omega)]; omega)
          have hs := ofN_succ x
          have HM : Hid (A - (W64 (ofN (x + 1))).toNat < A - (W64 (ofN x)).toNat) := Lib.hid (by rw [W64_ofN (by omega), W64_ofN (by omega)]; omega)
          have hml := Nat.mod_lt x hS0
          have hrm : ofN x % p = ofN (x % 2 ^ k) := by rw [← HPP.out]; exact ofN_mod (by omega) (by omega)
          have hq : W64 (ofN (x % 2 ^ k)) = ((x % 2 ^ k : Nat) : Int) := W64_ofN (by omega)
          have hcmp : decide (W64 (ofN (x % 2 ^ k)) < W64 pn) = (mskF (2 ^ k) N x).isSome := by
            rw [hq, ← HPN.out, W64_ofN (by omega)]
            unfold mskF
            split
            · rw [decide_eq_true (by omega)]; rfl
            · rw [decide_eq_false (by omega)]; rfl
          obtain ⟨xk, hxk⟩ : ∃ z, ofN x = z := ⟨_, rfl⟩
          obtain ⟨xl, hxl⟩ : ∃ z, ofN (x + 1) = z := ⟨_, rfl⟩
          obtain ⟨xr, hxr⟩ : ∃ z, ofN (x % 2 ^ k) = z := ⟨_, rfl⟩
          rw [hxk, hxl] at hs HM
          rw [hxk, hxr] at hrm
          rw [hxr] at hcmp hq
          rw [hxk] at hd ⊢
          have HXL := Lib.hid hxl
          clear hxk hxl hxr
          rcases hfk : mskF (2 ^ k) N x with _ | v
          · rw [hfk] at hcmp
            have hl := lo_none hfk
            obtain ⟨lk, hlk⟩ : ∃ z, lo51 (mskF (2 ^ k) N) x = z := ⟨_, rfl⟩
            obtain ⟨lk2, hlk2⟩ : ∃ z, lo51 (mskF (2 ^ k) N) (x + 1) = z := ⟨_, rfl⟩
            rw [hlk, hlk2] at hl
            rw [hlk]
            have HL := Lib.hid (hlk2.trans hl)
            have HC9 := Lib.hid (HC.out.congr fun j _ => cl_none hfk j)
            have HN9 := Lib.hid HN.out
            have hcm2 : decide (W64 xr < W64 pn) = false := hcmp
            clear hlk hlk2 hl hq hcmp hfk hA hNA hN0 hS hS0 hm12 hml
            go_wp2_with fail
            refine (HP.out _).mono ?_
            rintro e w' ⟨rfl, hw⟩
            replace hw := hw.symm
            subst hw
            go_wp2
            exact ⟨⟨x + 1, by omega, by rw [HL.out], by rw [HXL.out], HC9, HN9⟩, by simpa [intOf] using HM.out⟩
          · rw [hfk] at hcmp
            have hv := msk_lt hfk
            have hve : x % 2 ^ k = v := by unfold mskF at hfk; split at hfk; · exact Option.some.inj hfk
                                           cases hfk
            rw [hve] at hq
            have hqn : N64 xr = v := by
              have e : (W64 xr).toNat = v := by rw [hq]; rfl
              exact e
            have hi0 : (0 : Int) ≤ W64 xr := by rw [hq]; omega
            have hi1 : W64 xr < (N : Int) := by rw [hq]; omega
            have HQN := Lib.hid hqn
            clear hqn hq
            have hl := lo_some hfk
            obtain ⟨lk, hlk⟩ : ∃ z, lo51 (mskF (2 ^ k) N) x = z := ⟨_, rfl⟩
            rw [hlk] at hl
            rw [hlk]
            have HL := Lib.hid hl
            have hcc := cl_some hfk
            obtain ⟨ck, hck⟩ : ∃ z, cl (mskF (2 ^ k) N) x v = z := ⟨_, rfl⟩
            rw [hck] at hcc
            have hcm2 : decide (W64 xr < W64 pn) = true := hcmp
            have c0 := (HC.out.get hv).1
            have cf := (HC.out.get hv).2
            rw [hck, ← HQN.out] at c0
            rw [← HQN.out] at cf
            have HC9 := Lib.hid (HC.out.put (l' := cl (mskF (2 ^ k) N) (x + 1)) hv (ck + 1#64) hcc fun j _ hj => cl_other hfk hj)
            have HN9 := Lib.hid (HN.out.setCell (p := ⟨g, v, none⟩) HGB.out (.int .u64 (W64 (ck + 1#64))))
            rw [← HQN.out] at HC9 HN9
            clear hlk hl hcc hck hcmp hfk hA hNA hN0 hve hv hS hS0 hm12 hml
            go_wp2_with fail
            refine (HP.out _).mono ?_
            rintro e w' ⟨rfl, hw⟩
            replace hw := hw.symm
            subst hw
            go_wp2
            exact ⟨⟨x + 1, by omega, by rw [HL.out], by rw [HXL.out], HC9, HN9⟩, by simpa [intOf] using HM.out⟩
        · obtain rfl : x = A := by omega
          have hd : decide (W64 (ofN x) < W64 pa) = false := decide_eq_false (by rw [HPA.out]; omega)
          clear hA hNA hN0 hS hS0 hm12
          go_wp2_with fail
          refine (HP.out _).mono ?_
          rintro e w' ⟨rfl, hw⟩
          replace hw := hw.symm
          subst hw
          go_wp2
          go_ret2
          exact ⟨g, c, rfl, HC1.out, HC2.out, HC.out, HN.out⟩
set_option maxHeartbeats 1000000 in
theorem even_51 (a : Option Addr) (n c : Nat) (l : List (BitVec 64)) (x : BitVec 64) (w : World) (h : QRow w a n c l) (hx : ∀ i, i < n → l.getD i 0 = x) :
    Calls Try.prog 17 #[.slice a n c, .int .u64 (W64 x), .int .u64 (W64 (ofN n))] w fun e w' => e = .returned (.bool true) ∧ w' = w := by
  have hm := h.most
  have HX := Lib.hid hx
  have HH := Lib.hid h
  have he : ofN n = BitVec.ofNat 64 n := rfl
  rw [he]
  clear h hx he
  go_enter Try.func17, Try.ntmps17
  go_wp2_with fail
  go_loop [11] (fun iv => ∃ i : Nat, i ≤ n ∧ iv = .int .i64 (i : Int)) (fun iv => n - (intOf iv).toNat)
  case atStart => exact ⟨0, Nat.zero_le _, rfl⟩
  case round =>
    obtain ⟨i, hi, rfl⟩ := hrel
    by_cases hlt : (i : Int) < (n : Int)
    · obtain ⟨b, off, rfl, hc⟩ := HH.out.addr (by omega)
      have c0 := hc i (by omega)
      rw [HX.out i (by omega)] at c0
      clear hc
      go_wp2
      exact ⟨⟨i + 1, by omega, by go_num⟩, by simp [intOf]; omega⟩
    · obtain rfl : i = n := by omega
      go_wp2
      go_ret
      exact ⟨rfl, rfl⟩
theorem aw_lo : W64 (lo51 (lemF (2 ^ 3) (3#64).toNat) (2 ^ 3)) = 2 := by decide +kernel
theorem aw_0 : W64 (cl (lemF (2 ^ 3) (3#64).toNat) (2 ^ 3) 0) = 2 := by decide +kernel
theorem aw_2 : W64 (cl (lemF (2 ^ 3) (3#64).toNat) (2 ^ 3) 2) = 2 := by decide +kernel
set_option maxHeartbeats 1000000 in
theorem awake51 (w : World) : Calls Try.prog 9 #[] w fun e w' => e = .returned (.bool true) ∧ New w w' := by
  have h := fun w => lem_51 3 (by omega) 3#64 (by decide) (by decide) w
  rw [aw_lo, show W64 3#64 = 3 from W64_lit 3 (by omega)] at h
  have HL := Lib.hid h
  clear h
  go_enter Try.func9, Try.ntmps9
  go_wp2_with fail
  refine (HL.out _).mono ?_
  rintro e w1 ⟨g, rfl, hc, hn⟩
  have c0 := (hc.get (v := 0) (by decide)).1
  have c2 := (hc.get (v := 2) (by decide)).1
  rw [aw_0] at c0
  rw [aw_2] at c2
  have HN := Lib.hid hn
  clear hc hn HL
  go_wp2
  go_ret
  exact ⟨rfl, HN.out⟩
end Go.Proofs.Ytdiikoiadhdeoaa
