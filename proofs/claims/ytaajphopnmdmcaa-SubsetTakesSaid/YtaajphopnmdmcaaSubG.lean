/- The law SubsetTakes. -/
import Derived.Test.YtaajphopnmdmcaaSubF
namespace Go.Proofs.Ytaajphopnmdmcaa
open Go Go.RowKit Go.Bv
set_option linter.unusedVariables false
theorem take41_arg (b : Nat) (n k : Int) (h : n < 0 ∨ k < 0 ∨ n < k) (w : World) : Calls Try.prog 19 #[.pointer (some ⟨b, 0, none⟩), .int .i64 n, .int .i64 k] w fun e w' => e = .returned (.tuple #[.slice none 0 0, .slice none 0 0, .int .i64 1]) ∧ w' = w := by
  by_cases h1 : n < 0
  · clear h
    go_enter Try.func19, Try.ntmps19
    go_wp2
    go_ret3
    exact ⟨rfl, rfl⟩
  by_cases h2 : k < 0
  · clear h
    go_enter Try.func19, Try.ntmps19
    go_wp2
    go_ret3
    exact ⟨rfl, rfl⟩
  have h3 : n < k := by omega
  clear h
  go_enter Try.func19, Try.ntmps19
  go_wp2
  go_ret3
  exact ⟨rfl, rfl⟩
theorem take41_big (b : Nat) (n k : Int) (hk : 0 ≤ k) (hkn : k ≤ n) (hn : 256 < n) (w : World) : Calls Try.prog 19 #[.pointer (some ⟨b, 0, none⟩), .int .i64 n, .int .i64 k] w fun e w' => e = .returned (.tuple #[.slice none 0 0, .slice none 0 0, .int .i64 9]) ∧ w' = w := by
  have h0 : ¬ n < 0 := by omega
  have h1 : ¬ k < 0 := by omega
  have h2 : ¬ n < k := by omega
  go_enter Try.func19, Try.ntmps19
  go_wp2
  go_ret3
  exact ⟨rfl, rfl⟩
set_option maxRecDepth 100000 in
set_option maxHeartbeats 4000000 in
theorem SubsetTakes_walk (W : World) (a0 : Option Addr) (n0 m0 : Nat) (z0 : List Int) (w0 : IRow .u64 W a0 n0 m0 z0) (r0 : m0 * 8 ≤ 140737488351232) (a1 : Int) (w1 : (Lit.int .i64 a1).wf = true) (a2 : Int) (w2 : (Lit.int .i64 a2).wf = true) :
    Calls Try.prog 5 #[.slice a0 n0 m0, .int .i64 a1, .int .i64 a2] W fun e w' => e = .returned (.bool true) ∧ Below W.heap.size W w' := by
  obtain ⟨l, hl⟩ := w0.words r0
  have H0 := Lib.hid hl
  have HL0 := Lib.hid hl.len_eq
  have hn1 := wfi64 w1
  have hn2 := wfi64 w2
  clear w0 w1 w2 r0 hl
  have HA := Lib.hid awake41
  go_enter Try.func5, Try.ntmps5
  go_wp2_with fail
  refine (HA.out _).mono ?_
  rintro e wA ⟨rfl, hn⟩
  replace H0 := Lib.hid (H0.out.stay hn)
  have HN := Lib.hid hn
  clear hn HA
  by_cases hs0 : (100 : Int) < (n0 : Int)
  · go_wp2
    go_ret
    exact ⟨rfl, HN.out⟩
  by_cases hs1 : 60 < a1 ∧ a1 ≤ 256
  · obtain ⟨hs2, hs3⟩ := hs1
    go_wp2
    go_ret
    exact ⟨rfl, HN.out⟩
  by_cases h1 : a1 < 0
  · have h1' : ¬ 60 < a1 := by omega
    go_wp2_with fail
    refine (new_t _ _ _ _ _ H0.out).mono ?_
    rintro e wB ⟨b, rfl, hb, ht, hn⟩
    have HT := Lib.hid ht
    have HNB := Lib.hid hn
    have HBB := Lib.hid hb
    clear ht hn hb
    go_wp2_with fail
    refine (take41_arg b a1 a2 (.inl h1) _).mono ?_
    rintro e w' ⟨rfl, hw⟩
    replace hw := hw.symm
    subst hw
    go_wp2
    go_ret
    exact ⟨rfl, HN.out.trans HNB.out⟩
  by_cases h2 : a2 < 0
  · by_cases hs4 : 60 < a1
    · have hs5 : ¬ a1 ≤ 256 := by omega
      go_wp2_with fail
      refine (new_t _ _ _ _ _ H0.out).mono ?_
      rintro e wB ⟨b, rfl, hb, ht, hn⟩
      have HT := Lib.hid ht
      have HNB := Lib.hid hn
      have HBB := Lib.hid hb
      clear ht hn hb
      go_wp2_with fail
      refine (take41_arg b a1 a2 (.inr (.inl h2)) _).mono ?_
      rintro e w' ⟨rfl, hw⟩
      replace hw := hw.symm
      subst hw
      go_wp2
      go_ret
      exact ⟨rfl, HN.out.trans HNB.out⟩
    · have hs5 : True := trivial
      go_wp2_with fail
      refine (new_t _ _ _ _ _ H0.out).mono ?_
      rintro e wB ⟨b, rfl, hb, ht, hn⟩
      have HT := Lib.hid ht
      have HNB := Lib.hid hn
      have HBB := Lib.hid hb
      clear ht hn hb
      go_wp2_with fail
      refine (take41_arg b a1 a2 (.inr (.inl h2)) _).mono ?_
      rintro e w' ⟨rfl, hw⟩
      replace hw := hw.symm
      subst hw
      go_wp2
      go_ret
      exact ⟨rfl, HN.out.trans HNB.out⟩
  by_cases h3 : a1 < a2
  · by_cases hs4 : 60 < a1
    · have hs5 : ¬ a1 ≤ 256 := by omega
      go_wp2_with fail
      refine (new_t _ _ _ _ _ H0.out).mono ?_
      rintro e wB ⟨b, rfl, hb, ht, hn⟩
      have HT := Lib.hid ht
      have HNB := Lib.hid hn
      have HBB := Lib.hid hb
      clear ht hn hb
      go_wp2_with fail
      refine (take41_arg b a1 a2 (.inr (.inr h3)) _).mono ?_
      rintro e w' ⟨rfl, hw⟩
      replace hw := hw.symm
      subst hw
      go_wp2
      go_ret
      exact ⟨rfl, HN.out.trans HNB.out⟩
    · have hs5 : True := trivial
      go_wp2_with fail
      refine (new_t _ _ _ _ _ H0.out).mono ?_
      rintro e wB ⟨b, rfl, hb, ht, hn⟩
      have HT := Lib.hid ht
      have HNB := Lib.hid hn
      have HBB := Lib.hid hb
      clear ht hn hb
      go_wp2_with fail
      refine (take41_arg b a1 a2 (.inr (.inr h3)) _).mono ?_
      rintro e w' ⟨rfl, hw⟩
      replace hw := hw.symm
      subst hw
      go_wp2
      go_ret
      exact ⟨rfl, HN.out.trans HNB.out⟩
  by_cases h4 : 256 < a1
  · have h4' : ¬ a1 ≤ 256 := by omega
    have h4'' : 60 < a1 := by omega
    go_wp2_with fail
    refine (new_t _ _ _ _ _ H0.out).mono ?_
    rintro e wB ⟨b, rfl, hb, ht, hn⟩
    have HT := Lib.hid ht
    have HNB := Lib.hid hn
    have HBB := Lib.hid hb
    clear ht hn hb
    go_wp2_with fail
    refine (take41_big b a1 a2 (by omega) (by omega) h4 _).mono ?_
    rintro e w' ⟨rfl, hw⟩
    replace hw := hw.symm
    subst hw
    go_wp2
    go_ret
    exact ⟨rfl, HN.out.trans HNB.out⟩
  obtain ⟨n, rfl⟩ : ∃ n : Nat, a1 = (n : Int) := ⟨a1.toNat, by omega⟩
  obtain ⟨K, rfl⟩ : ∃ n : Nat, a2 = (n : Int) := ⟨a2.toNat, by omega⟩
  have hn256 : n ≤ 256 := by omega
  have hKn : K ≤ n := by omega
  have hs2 : ¬ (60 : Int) < (n : Int) := by omega
  go_wp2_with fail
  refine (new_t _ _ _ _ _ H0.out).mono ?_
  rintro e wB ⟨b, rfl, hb, ht, hn⟩
  have HT := Lib.hid ht
  have HNB := Lib.hid hn
  have HBB := Lib.hid hb
  clear ht hn hb
  go_wp2_with fail
  refine (take41_q b b n K l _ HT.out hn256 hKn).mono ?_
  rintro e wC (⟨ds, k, p1, p2, p3, p4, hd, rfl, hz, hk, g, ht, hb2, _⟩ | ⟨hd, rfl, g, ht, hb2, _⟩)
  · have HD := Lib.hid hd
    have HZ := Lib.hid hz
    have HK := Lib.hid hk
    replace HT := Lib.hid ht
    have hnc : New wA wC := hb2.new wA HNB.out HBB.out HBB.out
    replace H0 := Lib.hid (H0.out.stay hnc)
    replace HN := Lib.hid (HN.out.trans hnc)
    clear hd hz hk ht hb2 hnc
    have HTR := Lib.hid (fun w (h : QRow w a0 n0 m0 l) => take41r_q a0 n0 m0 n K l w h (by omega) hKn)
    go_wp2_with fail
    refine (HTR.out _ H0.out).mono ?_
    rintro e wD ⟨⟨ds2, k2, q1, q2, q3, q4, hd2, rfl, hz2, hk2⟩ | ⟨hd2, rfl⟩, hn⟩
    · rw [HD.out] at hd2
      cases hd2
      have HZ2 := Lib.hid hz2
      have HK2 := Lib.hid hk2
      replace HZ := Lib.hid (HZ.out.stay hn)
      replace HK := Lib.hid (HK.out.stay hn)
      replace HT := Lib.hid (HT.out.stay hn)
      replace HN := Lib.hid (HN.out.trans hn)
      clear hz2 hk2 hn HTR
      go_wp2_with fail
      refine (used_t _ _ _ _ _ HT.out).mono ?_
      rintro e w' ⟨rfl, hw⟩
      replace hw := hw.symm
      subst hw
      have hkk : ((k : Int) != (k : Int)) = false := by simp
      go_wp2_with fail
      refine (ints_ref _ _ _ _ _ _ _ _ _ HZ.out HZ2.out).mono ?_
      rintro e wE ⟨rfl, hn⟩
      rw [beq_self_eq_true]
      replace HK := Lib.hid (HK.out.stay hn)
      replace HK2 := Lib.hid (HK2.out.stay hn)
      replace HN := Lib.hid (HN.out.trans hn)
      clear hn
      go_wp2_with fail
      refine (same38_q _ _ _ _ _ _ _ HK.out HK2.out).mono ?_
      rintro e wF ⟨rfl, hn⟩
      replace HN := Lib.hid (HN.out.trans hn)
      clear hn
      go_wp2
      go_ret
      exact ⟨rfl, HN.out⟩
    · rw [HD.out] at hd2; cases hd2
  · have HD := Lib.hid hd
    replace HT := Lib.hid ht
    have hnc : New wA wC := hb2.new wA HNB.out HBB.out HBB.out
    replace H0 := Lib.hid (H0.out.stay hnc)
    replace HN := Lib.hid (HN.out.trans hnc)
    clear hd ht hb2 hnc
    have HTR := Lib.hid (fun w (h : QRow w a0 n0 m0 l) => take41r_q a0 n0 m0 n K l w h (by omega) hKn)
    go_wp2_with fail
    refine (HTR.out _ H0.out).mono ?_
    rintro e wD ⟨⟨ds2, k2, q1, q2, q3, q4, hd2, rfl, hz2, hk2⟩ | ⟨hd2, rfl⟩, hn⟩
    · rw [HD.out] at hd2; cases hd2
    · replace HT := Lib.hid (HT.out.stay hn)
      replace HN := Lib.hid (HN.out.trans hn)
      clear hn HTR
      rw [HL0.out] at HT
      go_wp2_with fail
      refine (used_t _ _ _ _ _ HT.out).mono ?_
      rintro e w' ⟨rfl, hw⟩
      replace hw := hw.symm
      subst hw
      have hkk : ((n0 : Int) != (n0 : Int)) = false := by simp
      go_wp2
      go_ret
      exact ⟨rfl, HN.out⟩
end Go.Proofs.Ytaajphopnmdmcaa
