/- The law PolyRoots. -/
import Derived.Test.YtiboncnfepnjcaaPolH
import Derived.Test.YtiboncnfepnjcaaPolW
namespace Go.Proofs.Ytiboncnfepnjcaa
open Go.RowKit Go.Bv
set_option linter.unusedVariables false
set_option maxRecDepth 100000 in
set_option maxHeartbeats 4000000 in
theorem PolyRoots_walk (W : World) (a0 : Option Addr) (n0 m0 : Nat) (z0 : List Int) (w0 : IRow .u64 W a0 n0 m0 z0) (r0 : m0 * 8 ≤ 140737488351232) (a1 : Option Addr) (n1 m1 : Nat) (z1 : List Int) (w1 : IRow .u64 W a1 n1 m1 z1) (r1 : m1 * 8 ≤ 140737488351232) :
    Calls Try.prog 6 #[.slice a0 n0 m0, .slice a1 n1 m1] W fun e w' => e = .returned (.bool true) ∧ Below W.heap.size W w' := by
  obtain ⟨c, hl⟩ := w0.words r0
  obtain ⟨l, hm⟩ := w1.words r1
  have H0 := Lib.hid hl
  have H1 := Lib.hid hm
  have HL0 := Lib.hid hl.len_eq
  clear w0 w1 r0 r1 hl hm
  have HA := Lib.hid awake18
  go_enter Try.func6, Try.ntmps6
  go_wp2_with fail
  refine (HA.out _).mono ?_
  rintro e w9 ⟨rfl, hn⟩
  replace H0 := Lib.hid (H0.out.stay hn)
  replace H1 := Lib.hid (H1.out.stay hn)
  have HN := Lib.hid hn
  clear hn HA
  by_cases hs1 : (10 : Int) < (n0 : Int)
  · go_wp2
    go_ret
    exact ⟨rfl, HN.out⟩
  by_cases hs2 : (20 : Int) < (n1 : Int)
  · go_wp2
    go_ret
    exact ⟨rfl, HN.out⟩
  have HFW := Lib.hid (fun h => rts_few c l n1 h)
  have HPR := Lib.hid (fun w (h : QRow w a0 n0 m0 c) (h' : QRow w a1 n1 m1 l) => proots_q _ _ _ _ _ _ _ _ w h h')
  have HRR := Lib.hid (fun w (h : QRow w a0 n0 m0 c) (h' : QRow w a1 n1 m1 l) => rroots_q _ _ _ _ _ _ _ _ w h h')
  have HTR := Lib.hid (fun w (h : QRow w a0 n0 m0 c) => rtrim_q _ _ _ _ w h)
  have HTB : Hid ((trimL c).length ≤ n0) := Lib.hid (by
    have h1 := topF_le (cm c) c.length
    unfold trimL
    rw [trimF_len, HL0.out]; rw [HL0.out] at h1; exact h1)
  obtain ⟨r, hr⟩ : ∃ z, rts c l n1 = z := ⟨_, rfl⟩
  rw [hr] at HFW HPR HRR
  clear hr
  obtain ⟨tl, htl⟩ : ∃ z, trimL c = z := ⟨_, rfl⟩
  rw [htl] at HFW HTR HTB
  clear htl
  obtain ⟨rl, hrl⟩ : ∃ z, r.length = z := ⟨_, rfl⟩
  rw [hrl] at HFW HPR HRR
  clear hrl
  obtain ⟨tn, htn⟩ : ∃ z, tl.length = z := ⟨_, rfl⟩
  rw [htn] at HFW HTR HTB
  clear htn
  go_wp2_with fail
  refine (HPR.out _ H0.out H1.out).mono ?_
  rintro e w9 ⟨ar, cr, rfl, hq, hn⟩
  have HQ := Lib.hid hq
  replace H0 := Lib.hid (H0.out.stay hn)
  replace H1 := Lib.hid (H1.out.stay hn)
  replace HN := Lib.hid (HN.out.trans hn)
  clear hq hn HPR
  go_wp2_with fail
  refine (HTR.out _ H0.out).mono ?_
  rintro e w9 ⟨at', ct', rfl, hq, hn⟩
  replace HQ := Lib.hid (HQ.out.stay hn)
  replace H0 := Lib.hid (H0.out.stay hn)
  replace H1 := Lib.hid (H1.out.stay hn)
  replace HN := Lib.hid (HN.out.trans hn)
  clear hq hn HTR
  go_wp2_with fail
  refine (HRR.out _ H0.out H1.out).mono ?_
  rintro e w9 ⟨ar2, cr2, rfl, hq, hn⟩
  have HQ2 := Lib.hid hq
  replace HQ := Lib.hid (HQ.out.stay hn)
  replace HN := Lib.hid (HN.out.trans hn)
  clear hq hn HRR
  go_wp2_with fail
  refine (words_ref _ _ _ _ _ _ _ _ _ _ HQ.out HQ2.out HN.out).mono ?_
  rintro e w9 ⟨rfl, hn, hW⟩
  rw [beq_self_eq_true]
  replace HN := Lib.hid hW
  clear hn hW
  clear HQ HQ2 H0 H1
  by_cases ht0 : tn = 0
  · subst ht0
    go_wp2
    go_ret
    exact ⟨rfl, HN.out⟩
  · have hf := HFW.out (by omega)
    have htb := HTB.out
    have hne : ((tn : Int) == 0) = false := by rw [beq_eq_false_iff_ne]; omega
    have hw1 : wrap64 ((tn : Int) - 1) = (tn : Int) - 1 := by unfold wrap64; omega
    have hle : (rl : Int) ≤ (tn : Int) - 1 := by omega
    go_wp2
    go_ret
    exact ⟨rfl, HN.out⟩
end Go.Proofs.Ytiboncnfepnjcaa
