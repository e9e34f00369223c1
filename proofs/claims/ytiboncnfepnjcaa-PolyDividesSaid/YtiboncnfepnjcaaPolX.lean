/- The law PolyDivides. -/
import Derived.Test.YtiboncnfepnjcaaPolW
namespace Go.Proofs.Ytiboncnfepnjcaa
open Go.RowKit Go.Bv
set_option linter.unusedVariables false
set_option maxRecDepth 100000 in
set_option maxHeartbeats 4000000 in
theorem PolyDivides_walk (W : World) (a0 : Option Addr) (n0 m0 : Nat) (z0 : List Int) (w0 : IRow .u64 W a0 n0 m0 z0) (r0 : m0 * 8 ≤ 140737488351232) (a1 : Int) (w1 : (Lit.int .u64 a1).wf = true) :
    Calls Try.prog 5 #[.slice a0 n0 m0, .int .u64 a1] W fun e w' => e = .returned (.bool true) ∧ Below W.heap.size W w' := by
  obtain ⟨x, rfl⟩ := ex64 a1 (by simp [Lit.wf, IntKind.min, IntKind.max, IntKind.signed, IntKind.bits] at w1; omega)
  obtain ⟨l, hl⟩ := w0.words r0
  have H0 := Lib.hid hl
  have HLL := Lib.hid hl.len_eq
  clear w0 w1 r0 hl
  have HA := Lib.hid awake18
  go_enter Try.func5, Try.ntmps5
  go_wp2_with fail
  refine (HA.out _).mono ?_
  rintro e w9 ⟨rfl, hn⟩
  replace H0 := Lib.hid (H0.out.stay hn)
  have HN := Lib.hid hn
  clear hn HA
  by_cases hs1 : (20 : Int) < (n0 : Int)
  · go_wp2
    go_ret
    exact ⟨rfl, HN.out⟩
  have HLE : Hid (n0 ≤ 20) := Lib.hid (by omega)
  have HDB := Lib.hid (divide_back l x (mn x) rfl)
  have HD := Lib.hid (fun w (h : QRow w a0 n0 m0 l) => divide_q _ _ _ _ x w h)
  have HV := Lib.hid (fun w (h : QRow w a0 n0 m0 l) => value_q _ _ _ _ x w h)
  have HQS := Lib.hid (trimL_self (dq l x))
  have HQL : Hid ((trimL (dq l x)).length ≤ n0) := Lib.hid (by
    have h1 := topF_le (cm (dq l x)) (dq l x).length
    rw [dq_len, HLL.out] at h1
    unfold trimL
    rw [trimF_len, dq_len, HLL.out]; exact h1)
  obtain ⟨r, hr⟩ : ∃ z, mp (nv l x) = z := ⟨_, rfl⟩
  rw [hr] at HDB HD HV
  clear hr
  obtain ⟨qs, hqs⟩ : ∃ z, trimL (dq l x) = z := ⟨_, rfl⟩
  rw [hqs] at HDB HD HQS HQL
  clear hqs
  go_wp2_with fail
  clear hs1
  refine (HD.out _ H0.out).mono ?_
  rintro e w9 ⟨aq, cq, rfl, hq, hn⟩
  have HQ := Lib.hid hq
  replace H0 := Lib.hid (H0.out.stay hn)
  replace HN := Lib.hid (HN.out.trans hn)
  clear hq hn HD
  have HMI := Lib.hid (fun w => minus_q x w)
  obtain ⟨mi, hmi⟩ : ∃ z, mn x = z := ⟨_, rfl⟩
  rw [hmi] at HMI HDB
  clear hmi
  go_wp2_with fail
  refine (HMI.out _).mono ?_
  rintro e w8 ⟨rfl, hw8⟩
  replace hw8 := hw8.symm
  subst hw8
  have HR2 := Lib.hid (qrow2 w9 mi 1#64)
  have hnb := (New.refl w9).alloc (.cells #[.int .u64 (W64 mi), .int .u64 (W64 1#64)] 23)
  rw [show W64 1#64 = 1 by decide] at HR2 hnb
  replace HQ := Lib.hid (HQ.out.stay hnb)
  replace H0 := Lib.hid (H0.out.stay hnb)
  replace HN := Lib.hid (HN.out.trans hnb)
  clear hnb HMI
  go_wp2_with fail
  generalize w9.alloc (.cells #[.int .u64 (W64 mi), .int .u64 1] 23) = w7 at *
  refine (rmul_q _ _ _ _ _ _ _ _ _ HQ.out HR2.out (by have := HQL.out; have := HLE.out; omega)).mono ?_
  rintro e w9 ⟨am, cm2, rfl, hq, hn⟩
  have HM := Lib.hid hq
  replace HQ := Lib.hid (HQ.out.stay hn)
  replace H0 := Lib.hid (H0.out.stay hn)
  replace HN := Lib.hid (HN.out.trans hn)
  clear hq hn HR2
  have HR1 := Lib.hid (qrow1 w9 r)
  have hnb := (New.refl w9).alloc (.cells #[.int .u64 (W64 r)] 23)
  replace HQ := Lib.hid (HQ.out.stay hnb)
  replace HM := Lib.hid (HM.out.stay hnb)
  replace H0 := Lib.hid (H0.out.stay hnb)
  replace HN := Lib.hid (HN.out.trans hnb)
  clear hnb
  go_wp2_with fail
  generalize w9.alloc (.cells #[.int .u64 (W64 r)] 23) = w7 at *
  refine (radd_q _ _ _ _ _ _ _ _ _ HM.out HR1.out).mono ?_
  rintro e w9 ⟨ab, cb, rfl, hq, hn⟩
  rw [HDB.out] at hq ⊢
  have HB := Lib.hid hq
  replace HQ := Lib.hid (HQ.out.stay hn)
  replace H0 := Lib.hid (H0.out.stay hn)
  replace HN := Lib.hid (HN.out.trans hn)
  clear hq hn HM HR1 HDB
  go_wp2_with fail
  refine (HV.out _ H0.out).mono ?_
  rintro e w8 ⟨rfl, hw8⟩
  replace hw8 := hw8.symm
  subst hw8
  go_wp2_with fail
  refine (rtrim_q _ _ _ _ _ H0.out).mono ?_
  rintro e w9 ⟨aHX, cHX, rfl, hq, hn⟩
  replace HB := Lib.hid (HB.out.stay hn)
  replace HQ := Lib.hid (HQ.out.stay hn)
  have HX := Lib.hid hq
  replace HN := Lib.hid (HN.out.trans hn)
  clear hq hn
  go_wp2_with fail
  refine (words_ref _ _ _ _ _ _ _ _ _ _ HB.out HX.out HN.out).mono ?_
  rintro e w9 ⟨rfl, hn, hW⟩
  rw [beq_self_eq_true]
  replace HQ := Lib.hid (HQ.out.stay hn)
  replace HN := Lib.hid hW
  clear hn hW
  clear HX HB H0
  go_wp2_with fail
  refine (rtrim_q _ _ _ _ _ HQ.out).mono ?_
  rintro e w9 ⟨aHX, cHX, rfl, hq, hn⟩
  replace HQ := Lib.hid (HQ.out.stay hn)
  have HX := Lib.hid hq
  replace HN := Lib.hid (HN.out.trans hn)
  clear hq hn
  rw [HQS.out] at HX ⊢
  go_wp2_with fail
  refine (words_ref _ _ _ _ _ _ _ _ _ _ HQ.out HX.out HN.out).mono ?_
  rintro e w9 ⟨rfl, hn, hW⟩
  rw [beq_self_eq_true]
  replace HN := Lib.hid hW
  clear hn hW
  go_wp2
  go_ret
  exact ⟨rfl, HN.out⟩
end Go.Proofs.Ytiboncnfepnjcaa
