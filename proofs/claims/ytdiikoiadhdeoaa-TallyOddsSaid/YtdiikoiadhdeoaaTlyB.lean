/- Counts of words: Lemire and Mask of tally; the example of tally (awake). -/
import Derived.Test.YtdiikoiadhdeoaaTlyA
import Derived.Test.YtdiikoiadhdeoaaShelf
import Derived.Test.YtdiikoiadhdeoaaDivM
import Derived.BigQuiet
namespace Go.Proofs.Ytdiikoiadhdeoaa
open Go.RowKit Go.Bv Go.Tly
set_option linter.unusedVariables false
theorem two_blocks51 (w : World) (A B : Obj) : ((w.alloc A).alloc B).heap[w.heap.size]? = some A ∧ ((w.alloc A).alloc B).heap[w.heap.size + 1]? = some B ∧ New w ((w.alloc A).alloc B) := by
  have e : (w.alloc A).heap.size = w.heap.size + 1 := by simp
  refine ⟨?_, ?_, ((New.refl w).alloc _).alloc _⟩
  · exact (((New.refl (w.alloc A)).alloc B).block _ (lt_of_block (heap_alloc_new w A))).trans (heap_alloc_new w A)
  · rw [← e]; exact heap_alloc_new _ _
theorem lem_small {x n A : Nat} (hx : x < A) (hn : n ≤ A) (hA : A ≤ 4096) : x * n < 16777217 := by
  have h1 : x * n ≤ 4096 * 4096 := Nat.mul_le_mul (by omega) (by omega)
  omega
set_option maxHeartbeats 2000000 in
theorem lem1_51 (x n A b1 b2 : Nat) (w : World) (hx : x < A) (hn : n ≤ A) (hn0 : 0 < n) (hA : A ≤ 4096) (e1 : w.heap[b1]? = some (.cells #[.int .u64 (W64 (ofN n))] 22 (0, 0))) (e2 : w.heap[b2]? = some (.cells #[.int .u64 (W64 (ofN A))] 22 (0, 0))) :
    Calls Try.prog 35 #[.int .u64 (W64 (ofN x)), .pointer (some ⟨b1, 0, none⟩), .pointer (some ⟨b2, 0, none⟩)] w fun e w' => e = .returned (.tuple #[.int .u64 ((x * n / A : Nat) : Int), .bool (lemF A n x).isSome]) ∧ New w w' := by
  have c1 := cell_of_row _ _ 0 _ _ _ e1
  have c2 := cell_of_row _ _ 0 _ _ _ e2
  have hs := lem_small hx hn hA
  have hm : ofN x * ofN n = ofN (x * n) := ofN_mul x n
  have hq : W64 (ofN (x * n) / ofN A) = ((x * n / A : Nat) : Int) := by
    rw [ofN_div (by omega) (by omega), W64_ofN (Nat.lt_of_le_of_lt (Nat.div_le_self _ _) (by omega))]
  have hz1 : ¬ W64 (ofN A) = 0 := by rw [W64_ofN (by omega)]; omega
  have hz2 : ¬ W64 (ofN n) = 0 := by rw [W64_ofN (by omega)]; omega
  have hd : decide (W64 (ofN A % ofN n) ≤ W64 (ofN (x * n) % ofN A)) = (lemF A n x).isSome := by
    rw [ofN_mod (by omega) (by omega), ofN_mod (by omega) (by omega), W64_ofN (Nat.lt_of_le_of_lt (Nat.mod_le _ _) (by omega)), W64_ofN (Nat.lt_of_le_of_lt (Nat.mod_le _ _) (by omega))]
    unfold lemF
    split
    · rename_i h; rw [decide_eq_false (by omega)]; rfl
    · rename_i h; rw [decide_eq_true (by omega)]; rfl
  obtain ⟨pa, hpa⟩ : ∃ z, ofN A = z := ⟨_, rfl⟩
  obtain ⟨pn, hpn⟩ : ∃ z, ofN n = z := ⟨_, rfl⟩
  obtain ⟨px, hpx⟩ : ∃ z, ofN x = z := ⟨_, rfl⟩
  obtain ⟨pm, hpm⟩ : ∃ z, ofN (x * n) = z := ⟨_, rfl⟩
  rw [hpa] at c2 hd hz1 hq
  rw [hpn] at c1 hd hz2 hm
  rw [hpx] at hm ⊢
  rw [hpm] at hm hq hd
  have HQ := Lib.hid hq
  have HD := Lib.hid hd
  clear e1 e2 hx hn hn0 hA hs hq hd hpa hpn hpx hpm
  go_enter Try.func35, Try.ntmps35
  go_wp2_with fail
  go_quiet (fail)
  go_wp2
  go_ret2
  rw [HQ.out, HD.out]
  exact ⟨rfl, (New.refl w).drewN _⟩
set_option maxHeartbeats 2000000 in
theorem lem_51 (t : Nat) (ht : 1 ≤ t ∧ t ≤ 12) (n : BitVec 64) (h0 : ¬ n.toNat = 0) (hn : ¬ 2 ^ t < n.toNat) (w : World) :
    Calls Try.prog 10 #[.int .i64 (t : Int), .int .u64 (W64 n)] w fun e w' => ∃ g, e = .returned (.tuple #[.slice (some ⟨g, 0, none⟩) n.toNat n.toNat, .int .u64 (W64 (lo51 (lemF (2 ^ t) n.toNat) (2 ^ t))), .int .i64 0]) ∧ CR w' g n.toNat (cl (lemF (2 ^ t) n.toNat) (2 ^ t)) ∧ New w w' := by
  have hA : 2 ^ t ≤ 4096 := Nat.le_trans (Nat.pow_le_pow_right (by omega) ht.2) (by decide)
  have hck := check_51 (t : Int) n
  rw [bad51_0 (by omega) h0 (by simpa using hn)] at hck
  have HCK := Lib.hid hck
  have hsh : 1#64 <<< t = ofN (2 ^ t) := shl_ofN (by omega)
  have hb := two_blocks51 w (.cells #[.int .u64 (W64 n)] 22) (.cells #[.int .u64 (W64 (ofN (2 ^ t)))] 22)
  obtain ⟨W2, hW2⟩ : ∃ z, (w.alloc (.cells #[.int .u64 (W64 n)] 22)).alloc (.cells #[.int .u64 (W64 (ofN (2 ^ t)))] 22) = z := ⟨_, rfl⟩
  rw [hW2] at hb
  have HW2 := Lib.hid hW2
  have hwo := words_51 t ht.2 n.toNat (by omega) (lemF (2 ^ t) n.toNat) (fun x hx v hv => lem_lt (by omega) hx hv) 35 #[.pointer (some ⟨w.heap.size, 0, none⟩), .pointer (some ⟨w.heap.size + 1, 0, none⟩)] W2 (fun x w => by kernel_rfl)
    (fun x w' hx hn' hf => by
      have h := lem1_51 x n.toNat (2 ^ t) w.heap.size (w.heap.size + 1) w' hx (by omega) (by omega) hA (by rw [ofN_of]; exact (hn'.block _ (lt_of_block hb.1)).trans hb.1) ((hn'.block _ (lt_of_block hb.2.1)).trans hb.2.1)
      rw [hf] at h
      exact ⟨_, h⟩)
    (fun x w' v hx hn' hf => by
      have h := lem1_51 x n.toNat (2 ^ t) w.heap.size (w.heap.size + 1) w' hx (by omega) (by omega) hA (by rw [ofN_of]; exact (hn'.block _ (lt_of_block hb.1)).trans hb.1) ((hn'.block _ (lt_of_block hb.2.1)).trans hb.2.1)
      have hv : x * n.toNat / 2 ^ t = v := by unfold lemF at hf; split at hf; · cases hf
                                              exact Option.some.inj hf
      rw [hf, hv] at h
      exact h)
  rw [show ((n.toNat : Nat) : Int) = W64 n from rfl] at hwo
  have HWO := Lib.hid hwo
  have HN2 := Lib.hid hb.2.2
  obtain ⟨A, hAe⟩ : ∃ A, 2 ^ t = A := ⟨_, rfl⟩
  rw [hAe] at HW2 hsh HWO ⊢
  have ht0 : (0 : Int) ≤ (t : Int) := by omega
  clear hwo hb hW2 hck hA hAe
  go_enter Try.func10, Try.ntmps10
  go_wp2_with fail
  refine (HCK.out _).mono ?_
  rintro e w' ⟨rfl, hw⟩
  replace hw := hw.symm
  subst hw
  go_wp2_with fail
  rw [HW2.out]
  refine (HWO.out).mono ?_
  rintro e w' ⟨g, rfl, hc, hn9⟩
  have HC := Lib.hid hc
  have HN := Lib.hid (HN2.out.trans hn9)
  clear hc hn9
  go_wp2
  refine bodyPost_ret (by simp [results, Try.results10, go_sem]; try rfl) rfl ?_
  exact ⟨g, rfl, HC.out, HN.out⟩
set_option maxHeartbeats 1000000 in
theorem lem_bad51 (t : Int) (n : BitVec 64) (h : ¬ bad51 t n.toNat = 0) (w : World) :
    Calls Try.prog 10 #[.int .i64 t, .int .u64 (W64 n)] w fun e w' => e = .returned (.tuple #[.slice none 0 0, .int .u64 0, .int .i64 (bad51 t n.toNat)]) ∧ New w w' := by
  have HCK := Lib.hid (check_51 t n)
  obtain ⟨b, hb⟩ : ∃ b, bad51 t n.toNat = b := ⟨_, rfl⟩
  rw [hb] at HCK h ⊢
  clear hb
  go_enter Try.func10, Try.ntmps10
  go_wp2_with fail
  refine (HCK.out _).mono ?_
  rintro e w' ⟨rfl, hw⟩
  replace hw := hw.symm
  subst hw
  go_wp2
  refine bodyPost_ret (by simp [results, Try.results10, go_sem]; try rfl) rfl ?_
  exact ⟨rfl, (New.refl w).alloc _⟩
/-- the least power of two that is no less than n is 2 to the m -/
def IsP (n m : Nat) : Prop := n ≤ 2 ^ m ∧ (m = 0 ∨ 2 ^ (m - 1) < n)
theorem isP_one {n a b : Nat} (ha : IsP n a) (hb : IsP n b) : a = b := by
  rcases Nat.lt_trichotomy a b with h | h | h
  · exfalso
    have h1 : 2 ^ a ≤ 2 ^ (b - 1) := Nat.pow_le_pow_right (by omega) (by omega)
    rcases hb.2 with h2 | h2
    · omega
    · have := ha.1; omega
  · exact h
  · exfalso
    have h1 : 2 ^ b ≤ 2 ^ (a - 1) := Nat.pow_le_pow_right (by omega) (by omega)
    rcases ha.2 with h2 | h2
    · omega
    · have := hb.1; omega
theorem isP_le {n m t : Nat} (h : IsP n m) (hn : n ≤ 2 ^ t) : m ≤ t := by
  rcases Nat.lt_or_ge t m with h1 | h1
  · exfalso
    have h2 : 2 ^ t ≤ 2 ^ (m - 1) := Nat.pow_le_pow_right (by omega) (by omega)
    rcases h.2 with h3 | h3 <;> omega
  · exact h1
theorem isP_len {n : Nat} (h0 : 0 < n) (h : n ≤ 4096) : IsP n (Lib.bitLen (n - 1)) := by
  by_cases h1 : n - 1 = 0
  · have : n = 1 := by omega
    subst this
    exact ⟨by decide, Or.inl (by decide)⟩
  · obtain ⟨h3, h4, h5⟩ := Lib.bitLenAux_bounds 64 (n - 1) (by omega) h1
    have e : Lib.bitLen (n - 1) = Lib.bitLenAux 64 (n - 1) := rfl
    rw [e]
    refine ⟨by omega, Or.inr (by omega)⟩
set_option maxHeartbeats 2000000 in
theorem msk1_51 (x n m b1 b2 : Nat) (w : World) (hm : m ≤ 12) (hx : x < 4096) (hn : n ≤ 4096) (e1 : w.heap[b1]? = some (.cells #[.int .u64 (W64 (ofN (2 ^ m - 1)))] 22 (0, 0))) (e2 : w.heap[b2]? = some (.cells #[.int .u64 (W64 (ofN n))] 22 (0, 0))) :
    Calls Try.prog 37 #[.int .u64 (W64 (ofN x)), .pointer (some ⟨b1, 0, none⟩), .pointer (some ⟨b2, 0, none⟩)] w fun e w' => e = .returned (.tuple #[.int .u64 ((x % 2 ^ m : Nat) : Int), .bool (mskF (2 ^ m) n x).isSome]) ∧ New w w' := by
  have c1 := cell_of_row _ _ 0 _ _ _ e1
  have c2 := cell_of_row _ _ 0 _ _ _ e2
  have h2 : 2 ^ m ≤ 4096 := Nat.le_trans (Nat.pow_le_pow_right (by omega) hm) (by decide)
  have h3 := Nat.two_pow_pos m
  have ha : ofN x &&& ofN (2 ^ m - 1) = ofN (x % 2 ^ m) := by
    apply BitVec.eq_of_toNat_eq
    rw [BitVec.toNat_and, ofN_toNat (by omega), ofN_toNat (by omega), ofN_toNat (Nat.lt_of_le_of_lt (Nat.mod_le _ _) (by omega)), Nat.and_two_pow_sub_one_eq_mod]
  have hl := Nat.mod_lt x h3
  have hq : W64 (ofN (x % 2 ^ m)) = ((x % 2 ^ m : Nat) : Int) := W64_ofN (by omega)
  have hd : decide (W64 (ofN (x % 2 ^ m)) < W64 (ofN n)) = (mskF (2 ^ m) n x).isSome := by
    rw [hq, W64_ofN (by omega)]
    unfold mskF
    split
    · rw [decide_eq_true (by omega)]; rfl
    · rw [decide_eq_false (by omega)]; rfl
  obtain ⟨pa, hpa⟩ : ∃ z, ofN (2 ^ m - 1) = z := ⟨_, rfl⟩
  obtain ⟨pn, hpn⟩ : ∃ z, ofN n = z := ⟨_, rfl⟩
  obtain ⟨px, hpx⟩ : ∃ z, ofN x = z := ⟨_, rfl⟩
  obtain ⟨pm, hpm⟩ : ∃ z, ofN (x % 2 ^ m) = z := ⟨_, rfl⟩
  rw [hpa] at c1
  rw [hpn] at c2 hd
  rw [hpx, hpa, hpm] at ha
  rw [hpm] at hq hd
  rw [hpx]
  have HQ := Lib.hid hq
  have HD := Lib.hid hd
  clear e1 e2 hx hn hm hl hq hd hpa hpn hpx hpm h2 h3
  go_enter Try.func37, Try.ntmps37
  go_wp2_with fail
  go_quiet (fail)
  go_wp2
  go_ret2
  rw [HD.out, HQ.out]
  exact ⟨rfl, (New.refl w).drewN _⟩
set_option maxHeartbeats 2000000 in
theorem msk_51 (t : Nat) (ht : 1 ≤ t ∧ t ≤ 12) (n : BitVec 64) (h0 : ¬ n.toNat = 0) (hn : ¬ 2 ^ t < n.toNat) (m : Nat) (hP : IsP n.toNat m) (w : World) :
    Calls Try.prog 11 #[.int .i64 (t : Int), .int .u64 (W64 n)] w fun e w' => ∃ g, e = .returned (.tuple #[.slice (some ⟨g, 0, none⟩) n.toNat n.toNat, .int .u64 (W64 (lo51 (mskF (2 ^ m) n.toNat) (2 ^ t))), .int .i64 0]) ∧ CR w' g n.toNat (cl (mskF (2 ^ m) n.toNat) (2 ^ t)) ∧ New w w' := by
  have hA : 2 ^ t ≤ 4096 := Nat.le_trans (Nat.pow_le_pow_right (by omega) ht.2) (by decide)
  have hm : m ≤ 12 := Nat.le_trans (isP_le hP (by omega)) ht.2
  have hck := check_51 (t : Int) n
  rw [bad51_0 (by omega) h0 (by simpa using hn)] at hck
  have HCK := Lib.hid hck
  have hn1 : (n - 1#64).toNat = n.toNat - 1 := by
    have := n.isLt
    rw [BitVec.toNat_sub_of_le (by show 1 ≤ n.toNat; omega)]; rfl
  have hln := fun w => Try.bits_Len64 (W64 (n - 1#64)) w (by unfold W64; omega) (by have := (n - 1#64).isLt; unfold W64; omega)
  rw [show (W64 (n - 1#64)).toNat = (n - 1#64).toNat from toNat_W64 _, hn1, isP_one (isP_len (by omega) (by omega)) hP] at hln
  have HLN := Lib.hid hln
  have hsh : 1#64 <<< m = ofN (2 ^ m) := shl_ofN (by omega)
  have hsb : ofN (2 ^ m) - 1#64 = ofN (2 ^ m - 1) := by
    have := Nat.two_pow_pos m
    have := two_le (t := m) (by omega)
    apply BitVec.eq_of_toNat_eq
    rw [BitVec.toNat_sub_of_le (by show 1 ≤ (ofN (2 ^ m)).toNat; rw [ofN_toNat (by omega)]; omega), ofN_toNat (by omega), ofN_toNat (by omega)]; rfl
  have hb := two_blocks51 w (.cells #[.int .u64 (W64 n)] 22) (.cells #[.int .u64 (W64 (ofN (2 ^ m - 1)))] 22)
  obtain ⟨W2, hW2⟩ : ∃ z, (w.alloc (.cells #[.int .u64 (W64 n)] 22)).alloc (.cells #[.int .u64 (W64 (ofN (2 ^ m - 1)))] 22) = z := ⟨_, rfl⟩
  rw [hW2] at hb
  have HW2 := Lib.hid hW2
  have hwo := words_51 t ht.2 n.toNat (by omega) (mskF (2 ^ m) n.toNat) (fun x hx v hv => msk_lt hv) 37 #[.pointer (some ⟨w.heap.size + 1, 0, none⟩), .pointer (some ⟨w.heap.size, 0, none⟩)] W2 (fun x w => by kernel_rfl)
    (fun x w' hx hn' hf => by
      have h := msk1_51 x n.toNat m (w.heap.size + 1) w.heap.size w' hm (by omega) (by omega) ((hn'.block _ (lt_of_block hb.2.1)).trans hb.2.1) (by rw [ofN_of]; exact (hn'.block _ (lt_of_block hb.1)).trans hb.1)
      rw [hf] at h
      exact ⟨_, h⟩)
    (fun x w' v hx hn' hf => by
      have h := msk1_51 x n.toNat m (w.heap.size + 1) w.heap.size w' hm (by omega) (by omega) ((hn'.block _ (lt_of_block hb.2.1)).trans hb.2.1) (by rw [ofN_of]; exact (hn'.block _ (lt_of_block hb.1)).trans hb.1)
      have hv : x % 2 ^ m = v := by unfold mskF at hf; split at hf; · exact Option.some.inj hf
                                    cases hf
      rw [hf, hv] at h
      exact h)
  rw [show ((n.toNat : Nat) : Int) = W64 n from rfl] at hwo
  have HWO := Lib.hid hwo
  have HN2 := Lib.hid hb.2.2
  have ht0 : (0 : Int) ≤ (m : Int) := by omega
  obtain ⟨pm, hpm⟩ : ∃ z, ofN (2 ^ m) = z := ⟨_, rfl⟩
  obtain ⟨pl, hpl⟩ : ∃ z, ofN (2 ^ m - 1) = z := ⟨_, rfl⟩
  rw [hpm] at hsh hsb
  rw [hpl] at hsb HW2
  clear hwo hb hW2 hck hA hpm hpl hln hn1
  go_enter Try.func11, Try.ntmps11
  go_wp2_with fail
  refine (HCK.out _).mono ?_
  rintro e w' ⟨rfl, hw⟩
  replace hw := hw.symm
  subst hw
  go_wp2_with fail
  refine (HLN.out _).mono ?_
  rintro e w' ⟨rfl, hw⟩
  replace hw := hw.symm
  subst hw
  go_wp2_with fail
  rw [HW2.out]
  refine (HWO.out).mono ?_
  rintro e w' ⟨g, rfl, hc, hn9⟩
  have HC := Lib.hid hc
  have HN := Lib.hid (HN2.out.trans hn9)
  clear hc hn9
  go_wp2
  refine bodyPost_ret (by simp [results, Try.results11, go_sem]; try rfl) rfl ?_
  exact ⟨g, rfl, HC.out, HN.out⟩
set_option maxHeartbeats 1000000 in
theorem msk_bad51 (t : Int) (n : BitVec 64) (h : ¬ bad51 t n.toNat = 0) (w : World) :
    Calls Try.prog 11 #[.int .i64 t, .int .u64 (W64 n)] w fun e w' => e = .returned (.tuple #[.slice none 0 0, .int .u64 0, .int .i64 (bad51 t n.toNat)]) ∧ New w w' := by
  have HCK := Lib.hid (check_51 t n)
  obtain ⟨b, hb⟩ : ∃ b, bad51 t n.toNat = b := ⟨_, rfl⟩
  rw [hb] at HCK h ⊢
  clear hb
  go_enter Try.func11, Try.ntmps11
  go_wp2_with fail
  refine (HCK.out _).mono ?_
  rintro e w' ⟨rfl, hw⟩
  replace hw := hw.symm
  subst hw
  go_wp2
  refine bodyPost_ret (by simp [results, Try.results11, go_sem]; try rfl) rfl ?_
  exact ⟨rfl, (New.refl w).alloc _⟩
end Go.Proofs.Ytdiikoiadhdeoaa
