/- The law StrpolyFew. -/
import Derived.Test.YtiboncnfepnjcaaStrP
import Derived.Test.YtiboncnfepnjcaaPolW
namespace Go.Proofs.Ytiboncnfepnjcaa
open Go Go.RowKit Go.Bv
set_option linter.unusedVariables false
theorem meetV_of (x : BitVec 64) (b c : List (BitVec 8)) : (decide (meetE x b c = 0) && meetV x b c) = meetV x b c := by
  unfold meetV; cases decide (meetE x b c = 0) <;> simp
theorem sdL_in {b c : List (BitVec 8)} {l : List (BitVec 64)} {k : Nat} (h : (meetV (l.getD k 0) b c && !(seenL l (l.getD k 0) k)) = true) : (sdL b c l (k + 1)).length = (sdL b c l k).length + 1 := by
  show (if _ then _ else _ : List (BitVec 64)).length = _
  rw [if_pos h]; simp
theorem sdL_out {b c : List (BitVec 8)} {l : List (BitVec 64)} {k : Nat} (h : ¬ (meetV (l.getD k 0) b c && !(seenL l (l.getD k 0) k)) = true) : (sdL b c l (k + 1)).length = (sdL b c l k).length := by
  show (if _ then _ else _ : List (BitVec 64)).length = _
  rw [if_neg h]
theorem few_case {mv tw : Bool} {me : Int} {s0 s1 : Nat} (hm : (decide (me = 0) && mv) = mv) (hin : (mv && !tw) = true → s1 = s0 + 1) (hout : ¬ (mv && !tw) = true → s1 = s0) :
    (me = 0 ∧ mv = true ∧ (!tw) = true → s1 = s0 + 1) ∧ (¬ (me = 0 ∧ mv = true ∧ (!tw) = true) → s1 = s0) := by
  refine ⟨fun ⟨_, h2, h3⟩ => hin (by rw [h2, h3]; rfl), fun h => hout (fun h4 => h ?_)⟩
  rw [Bool.and_eq_true] at h4
  refine ⟨?_, h4.1, h4.2⟩
  rw [h4.1, Bool.and_true] at hm
  exact of_decide_eq_true hm
set_option maxRecDepth 100000 in
set_option maxHeartbeats 8000000 in
theorem StrpolyFew_walk (W : World) (a0 : Option Addr) (n0 m0 : Nat) (z0 : List Int) (w0 : IRow .u64 W a0 n0 m0 z0) (r0 : m0 * 8 ≤ 140737488351232) (a1 : Option Addr) (n1 m1 : Nat) (z1 : List Int) (w1 : IRow .u8 W a1 n1 m1 z1) (r1 : m1 * 1 ≤ 140737488351232) (a2 : Option Addr) (n2 m2 : Nat) (z2 : List Int) (w2 : IRow .u8 W a2 n2 m2 z2) (r2 : m2 * 1 ≤ 140737488351232) :
    Calls Try.prog 14 #[.slice a0 n0 m0, .slice a1 n1 m1, .slice a2 n2 m2] W fun e w' => e = .returned (.bool true) ∧ Below W.heap.size W w' := by
  obtain ⟨l, hl⟩ := w0.words r0
  obtain ⟨b, hb⟩ := w1.bytes r1
  obtain ⟨c, hc⟩ := w2.bytes r2
  have H0 := Lib.hid hl
  have H1 := Lib.hid hb
  have H2 := Lib.hid hc
  clear w0 w1 w2 r0 r1 r2 hb hc hl
  have HA := Lib.hid awake25
  go_enter Try.func14, Try.ntmps14
  go_wp2_with fail
  refine (HA.out _).mono ?_
  rintro e w9 ⟨rfl, hn⟩
  replace H0 := Lib.hid (H0.out.stay hn)
  replace H1 := Lib.hid (H1.out.stay hn)
  replace H2 := Lib.hid (H2.out.stay hn)
  have HN := Lib.hid hn
  clear hn HA
  by_cases hs1 : (100 : Int) < (n1 : Int)
  · go_wp2
    go_ret
    exact ⟨rfl, HN.out⟩
  by_cases hs2 : (100 : Int) < (n2 : Int)
  · go_wp2
    go_ret
    exact ⟨rfl, HN.out⟩
  by_cases hs0 : (40 : Int) < (n0 : Int)
  · go_wp2
    go_ret
    exact ⟨rfl, HN.out⟩
  have HMO := Lib.hid (fun w => most_q a1 a2 n1 m1 n2 m2 w (by omega) (by omega))
  have HME := Lib.hid (fun x w (h : BRow w a1 n1 m1 b) (h' : BRow w a2 n2 m2 c) => meets_q x a1 a2 n1 m1 n2 m2 b c w h h' (by omega) (by omega))
  have HFW : Hid ((sdL b c l n0).length ≤ mostN n1 n2) := Lib.hid (by
    have := sdL_few b c l n0
    rw [H1.out.len_eq, H2.out.len_eq] at this
    exact this)
  obtain ⟨mo, hmo2⟩ : ∃ z, mostN n1 n2 = z := ⟨_, rfl⟩
  rw [hmo2] at HMO HFW
  clear hmo2
  have HSL := Lib.hid (fun k => sdL_len b c l k)
  go_wp2_with fail
  go_loopw [7, 31] (fun nv iv wr => ∃ k : Nat, k ≤ n0 ∧ iv = .int .i64 (k : Int) ∧ nv = .int .i64 (((sdL b c l k).length : Nat) : Int) ∧ New w9 wr) (fun _ iv _ => n0 - (intOf iv).toNat)
  case atStart => exact ⟨0, Nat.zero_le _, rfl, rfl, New.refl _⟩
  case round =>
    obtain ⟨k, hk, rfl, rfl, hnew⟩ := hrel
    have HN1 := Lib.hid hnew
    obtain ⟨wq, hwq⟩ : ∃ z, z = wr := ⟨_, rfl⟩
    rw [← hwq] at HN1 ⊢
    clear hnew hwq
    have H0q := Lib.hid (H0.out.stay HN1.out)
    by_cases hlt : (k : Int) < (n0 : Int)
    · have hk0 : (0 : Int) ≤ (k : Int) := by omega
      obtain ⟨b0, off0, hab, hc1⟩ := H0q.out.addr (by omega)
      have c1 := hc1 k (by omega)
      have HC1 := Lib.hid hc1
      clear hc1
      have HSN : Hid (∀ j, j < k → seenL l (l.getD k 0) (j + 1) = (seenL l (l.getD k 0) j || (l.getD j 0 == l.getD k 0))) := Lib.hid (fun j _ => rfl)
      have HS0 : Hid (seenL l (l.getD k 0) 0 = false) := Lib.hid rfl
      have HM := Lib.hid (fun w => HME.out (l.getD k 0) w)
      have HIN := Lib.hid (fun h => sdL_in (b := b) (c := c) (l := l) (k := k) h)
      have HOUT := Lib.hid (fun h => sdL_out (b := b) (c := c) (l := l) (k := k) h)
      have HMV := Lib.hid (meetV_of (l.getD k 0) b c)
      have hsl := HSL.out k
      obtain ⟨s0, hs0'⟩ : ∃ z, (sdL b c l k).length = z := ⟨_, rfl⟩
      obtain ⟨s1, hs1'⟩ : ∃ z, (sdL b c l (k + 1)).length = z := ⟨_, rfl⟩
      rw [hs0', hs1'] at HIN HOUT
      rw [hs0'] at hsl ⊢
      have HS1 := Lib.hid hs1'
      clear hs0' hs1'
      subst hab
      obtain ⟨x, hxe⟩ : ∃ z, l.getD k 0 = z := ⟨_, rfl⟩
      rw [hxe] at c1 HSN HS0 HM HIN HOUT HMV
      clear hxe
      go_wp2_with fail
      go_loopw [10, 11] (fun tv jv wr => ∃ j : Nat, j ≤ k ∧ jv = .int .i64 (j : Int) ∧ tv = .bool (seenL l x j) ∧ wr = wq) (fun _ jv _ => k - (intOf jv).toNat)
      case atStart => exact ⟨0, Nat.zero_le _, rfl, by rw [HS0.out], rfl⟩
      case round =>
        obtain ⟨j, hj, rfl, rfl, hwr⟩ := hrel
        replace hwr := hwr.symm
        subst hwr
        by_cases hjk : (j : Int) < (k : Int)
        · have hj0 : (0 : Int) ≤ (j : Int) := by omega
          have hjn : (j : Int) < (n0 : Int) := by omega
          have c2 := HC1.out j (by omega)
          have HSJ := Lib.hid (HSN.out j (by omega))
          obtain ⟨y, hye⟩ : ∃ z, l.getD j 0 = z := ⟨_, rfl⟩
          rw [hye] at c2 HSJ
          clear hye
          obtain ⟨sj, hsj⟩ : ∃ z, seenL l x j = z := ⟨_, rfl⟩
          rw [hsj] at HSJ
          rw [hsj]
          clear hsj
          go_wp2
          all_goals (refine ⟨⟨j + 1, by omega, by go_num, ?_, by first | rfl | trivial⟩, by simp [intOf]; omega⟩)
          all_goals (rw [HSJ.out]; simp_all)
        · obtain rfl : k = j := by omega
          obtain ⟨tw, htw⟩ : ∃ z, seenL l x k = z := ⟨_, rfl⟩
          rw [htw] at HIN HOUT
          rw [htw]
          clear htw
          obtain ⟨mv, hmv⟩ : ∃ z, meetV x b c = z := ⟨_, rfl⟩
          rw [hmv] at HIN HOUT HMV
          have HM2 := Lib.hid (HM.out wq (H1.out.stay HN1.out) (H2.out.stay HN1.out))
          rw [hmv] at HM2
          clear hmv
          obtain ⟨me, hme⟩ : ∃ z, meetE x b c = z := ⟨_, rfl⟩
          rw [hme] at HM2 HMV
          clear hme
          go_wp2_with fail
          refine (HM2.out).mono ?_
          rintro e w8 ⟨rfl, hn⟩
          have HN2 := Lib.hid (HN1.out.trans hn)
          clear hn
          have FC := few_case HMV.out HIN.out HOUT.out
          clear HMV HIN HOUT HM2
          go_wp2_with fail
          all_goals (refine ⟨⟨k + 1, by omega, by go_num, ?_, HN2.out⟩, by simp [intOf]; omega⟩)
          all_goals (rw [HS1.out])
          all_goals first
            | (have hh := FC.1 ⟨by assumption, by assumption, by assumption⟩; rw [hh]; go_num; done)
            | (have hh := FC.2 (by rintro ⟨h1, h2, h3⟩; first | exact absurd h1 (by assumption) | exact absurd h2 (by assumption) | exact absurd h3 (by assumption) | exact absurd h3 (Bool.not_eq_true _ ▸ (by assumption)) | exact Bool.noConfusion (h3.symm.trans (by assumption : (!tw) = false))); rw [hh]; done)
    · obtain rfl : k = n0 := by omega
      have hfw := HFW.out
      obtain ⟨s0, hs0'⟩ : ∃ z, (sdL b c l k).length = z := ⟨_, rfl⟩
      rw [hs0'] at hfw ⊢
      clear hs0'
      have hle : (s0 : Int) ≤ (mo : Int) := by omega
      go_wp2_with fail
      refine (HMO.out _).mono ?_
      rintro e w' ⟨rfl, hw⟩
      replace hw := hw.symm
      subst hw
      go_wp2
      go_ret
      exact ⟨rfl, HN.out.trans HN1.out⟩
end Go.Proofs.Ytiboncnfepnjcaa
