/- The block's contracts of layer 29: apply, pass. -/
import Derived.Test.YtegibnffingciaaM29A
import Derived.Defers
import Derived.Recover
import Derived.Laws.Pointers
import Derived.Handy
import Derived.Laws.EntriesVeiled
namespace Go.Proofs.Ytegibnffingciaa
open Go.RowKit Go.Bv
set_option linter.unusedVariables false
theorem recover_29 (w : World) : CallsD Try.prog 188 #[] .returning w fun e u' w' => e = .returned (.tuple #[]) ∧ u' = .returning ∧ w' = w := by
  refine callsD_of_wpS Try.func188 rfl fun c₀ cs hu => ?_
  apply wpS_region
  simp [wpOpsS, go_sem, recoverD, hu, Try.ntmps188, bodyPostS, results, Try.results188]
  cases c₀; simp_all
set_option maxRecDepth 100000 in
set_option maxHeartbeats 1000000 in
theorem apply_29 (s : BitVec 32) (a : Option Addr) (cap : Nat) (l : List (BitVec 8)) (w : World) (h : BRow w a 4 cap l) :
    Calls Try.prog 167 #[(.func (Fn.func 89) #[.agg #[.int .u32 3432918353, .int .u32 461845907, .int .u32 3864292196]] #[]), .int .u32 (W32 (s)), .slice a 4 cap] w fun e w' => e = .returned (.int .u32 (W32 ((stp29 s l)))) ∧ New w w' := by
  have hmf : ∀ (fn : Fn) (first cap : Array Value) (w : World), (Instr.makeFunc fn first cap).run Try.prog w = .ok (.func fn first cap) w := fun _ _ _ _ => rfl
  have hnf : ∀ w, (binOp .eql 53 (.func (Fn.func 89) #[.agg #[.int .u32 3432918353, .int .u32 461845907, .int .u32 3864292196]] #[]) .nilFunc).run Try.prog w = .ok (.bool false) w := fun _ => rfl
  have HS := Lib.hid (fun w' (hn : New w w') => step_29 s a cap l w' (h.stay hn))
  clear h
  obtain ⟨nx, hnx⟩ : ∃ z, stp29 s l = z := ⟨_, rfl⟩
  rw [hnx] at HS ⊢
  clear hnx
  go_enter_defers Try.func167, Try.ntmps167
  go_wp2_with fail
  refine (HS.out _ (New.refl _)).mono ?_
  rintro e w3 ⟨rfl, hn⟩
  have HN := Lib.hid hn
  clear hn
  go_wp2
  refine leaves_cons (f := 188) (args := #[]) (by simp) (by simp [go_sem]) ?_
  refine (recover_29 _).mono ?_
  rintro e u' w'' ⟨rfl, rfl, rfl⟩
  simp [Leaves, settle, results, Try.results167, go_sem]
  exact HN.out
set_option maxRecDepth 100000 in
set_option maxHeartbeats 4000000 in
theorem pass_29 (st : BitVec 32) (r : Option Addr) (len cap : Nat) (l : List (BitVec 8)) (w : World) (h : BRow w r len cap l) :
    Calls Try.prog 141 #[.int .i64 4, .int .u32 (W32 (st)), (.func (Fn.func 89) #[.agg #[.int .u32 3432918353, .int .u32 461845907, .int .u32 3864292196]] #[]), .slice r len cap] w fun e w' => ∃ a c, e = .returned (.tuple #[.int .u32 (W32 ((bState 4 stp29 st l))), .slice a (len % 4 : Nat) c]) ∧ BRow w' a (len % 4) c (bTail 4 l) ∧ (∀ x, a = some x → w.heap.size ≤ x.block) ∧ New w w' := by
  have hm := h.most
  have hle := h.le
  have hroom := h.room
  have hlen := h.len_eq
  have H := Lib.hid h
  have HLEN := Lib.hid hlen
  clear h hlen
  go_enter Try.func141, Try.ntmps141
  go_wp2
  go_loopw [1, 10] (fun sv i wr => ∃ k : Nat, k ≤ len / 4 ∧ sv = .int .u32 (W32 ((bFold 4 stp29 k st l))) ∧ i = .int .i64 ((k * 4 : Nat) : Int) ∧ New w wr) (fun _ i _ => len + 1 - (intOf i).toNat)
  case atStart => exact ⟨0, Nat.zero_le _, rfl, by simp, New.refl _⟩
  case round =>
    obtain ⟨k, hk, rfl, rfl, hnw⟩ := hrel
    have hkn : k * 4 ≤ len := Nat.le_trans (Nat.mul_le_mul_right _ hk) (Nat.div_mul_le_self _ _)
    have hsucc := bFold_succ 4 stp29 k st l
    have hks : (k + 1) * 4 = k * 4 + 4 := Nat.succ_mul k 4
    obtain ⟨m, hmk⟩ : ∃ m, k * 4 = m := ⟨_, rfl⟩
    rw [hmk] at hkn hsucc hks ⊢
    have hmost : len ≤ 140737488355328 := hm
    obtain ⟨hw1, hw1'⟩ := wrap_less len m (Nat.le_trans hmost (by decide)) hkn
    obtain ⟨hw2, hw2'⟩ := wrap_add m (4 : Int) (m + 4) (by rw [Int.natCast_add]; try rfl) (Nat.le_trans (Nat.add_le_add hkn (show 4 ≤ 64 by omega)) (by omega))
    have HN := Lib.hid hnw
    have HMK := Lib.hid hmk
    have HSUCC := Lib.hid hsucc
    have HKS := Lib.hid hks
    clear hnw hmk hsucc hks
    obtain ⟨cur, hcur⟩ : ∃ cur, bFold 4 stp29 k st l = cur := ⟨_, rfl⟩
    rw [hcur] at HSUCC ⊢
    have HCUR := Lib.hid hcur
    clear hcur
    by_cases hlt : m + 4 ≤ len
    · have hge : (4 : Int) ≤ (len : Int) - (m : Int) := by omega
      obtain ⟨b, off, rfl, _⟩ := H.out.addr (by omega)
      have hi0 : (0 : Int) ≤ (m : Int) := by omega
      have hi1 : (m : Int) ≤ ((m + 4 : Nat) : Int) := by omega
      have hi2 : ((m + 4 : Nat) : Int) ≤ (cap : Int) := by omega
      have hlc : (len : Int) ≤ (cap : Int) := by omega
      have hnz : ¬ ((m + 4 : Nat) = m) := by omega
      have hsub : m + 4 - m = 4 := by omega
      have HAP := Lib.hid (fun w' (hn : New wr w') => apply_29 cur (some ⟨b, off + m, none⟩) 4 ((l.drop m).take 4) w' (BRow_sub ((H.out.stay HN.out).stay hn) hlt))
      obtain ⟨nx, hnx⟩ : ∃ nx, stp29 cur ((l.drop m).take 4) = nx := ⟨_, rfl⟩
      rw [hnx] at HAP HSUCC
      clear hnx
      go_wp2_with fail
      refine (HAP.out _ (New.refl _)).mono ?_
      rintro e w9 ⟨rfl, hn⟩
      have HN2 := Lib.hid (HN.out.trans hn)
      clear hn HAP
      go_wp2
      refine ⟨⟨k + 1, (Nat.le_div_iff_mul_le (by omega)).2 (by rw [HKS.out]; omega), by rw [HSUCC.out], by rw [HKS.out]; go_num, HN2.out⟩, by simp [intOf]; omega⟩
    · have hge : ¬ (4 : Int) ≤ (len : Int) - (m : Int) := by omega
      have hkd : k = len / 4 := by
        have h1 := (Nat.div_lt_iff_lt_mul (show 0 < 4 by omega)).2 (show len < (k + 1) * 4 by rw [HKS.out]; omega)
        omega
      have hmod : len - m = len % 4 := by
        have h1 := Nat.div_add_mod len 4
        have h2 := HMK.out
        rw [hkd, Nat.mul_comm] at h2
        omega
      have hst : bState 4 stp29 st l = cur := by unfold bState; rw [HLEN.out, ← hkd]; exact HCUR.out
      have htl : bTail 4 l = l.drop m := by unfold bTail; rw [HLEN.out, ← hkd, HMK.out]
      have hi0 : (0 : Int) ≤ (m : Int) := by omega
      have hi1 : (m : Int) ≤ (len : Int) := by omega
      have hlc : (len : Int) ≤ (cap : Int) := by omega
      have hcs : (len : Int) - (m : Int) = ((len - m : Nat) : Int) := by omega
      have HE := Lib.hid (show bState 4 stp29 st l = cur ∧ bTail 4 l = l.drop m ∧ len - m = len % 4 from ⟨hst, htl, hmod⟩)
      clear hst htl hmod hkd
      have HLT := Lib.hid hlt
      clear hlt
      have HROW := Lib.hid (fun w' (hn : New wr w') => (H.out.stay HN.out).stay hn)
      cases r with
      | none =>
        obtain ⟨rfl, rfl, rfl⟩ := brow_nil H.out
        obtain rfl : m = 0 := by omega
        go_wp2_with fail
        refine (clone_b _ _ _ _ _ (HROW.out _ (New.refl _))).mono ?_
        rintro e w2 ⟨a2, c2, rfl, hrow, hfr, hn⟩
        have HFR := Lib.hid (fun x e => Nat.le_trans HN.out.le (hfr x e))
        have HRW := Lib.hid hrow
        replace HN := Lib.hid (HN.out.trans hn)
        clear hrow hfr hn
        go_wp2
        go_ret2
        refine ⟨a2, c2, ?_, ?_, fun x e => HFR.out x e, HN.out⟩
        · rw [HE.out.1, show 0 % 4 = 0 from (by first | exact HE.out.2.2.symm.trans (by omega) | rfl | exact Nat.zero_mod _)]
          try rfl
        · rw [HE.out.2.1, show 0 % 4 = 0 from (by first | exact HE.out.2.2.symm.trans (by omega) | rfl | exact Nat.zero_mod _)]; exact HRW.out
      | some y =>
        obtain ⟨bk, off, sp⟩ := y
        by_cases hcm : cap = m
        · obtain rfl : m = len := by omega
          obtain rfl : cap = m := hcm
          have hsp : BRow wr (some ⟨bk, off, sp⟩) 0 0 (l.drop cap) := row_end (HROW.out _ (New.refl _))
          have HSP := Lib.hid hsp
          clear hsp hcs hi1 hlc
          have hcs : ((cap - cap : Nat) : Int) = 0 := by omega
          go_wp2_with fail
          refine (clone_b _ _ _ _ _ (HSP.out)).mono ?_
          rintro e w2 ⟨a2, c2, rfl, hrow, hfr, hn⟩
          have HFR := Lib.hid (fun x e => Nat.le_trans HN.out.le (hfr x e))
          have HRW := Lib.hid hrow
          replace HN := Lib.hid (HN.out.trans hn)
          clear hrow hfr hn
          go_wp2
          go_ret2
          refine ⟨a2, c2, ?_, ?_, fun x e => HFR.out x e, HN.out⟩
          · rw [HE.out.1, show cap % 4 = 0 from (by first | exact HE.out.2.2.symm.trans (by omega) | rfl | exact Nat.zero_mod _)]
            try rfl
          · rw [HE.out.2.1, show cap % 4 = 0 from (by first | exact HE.out.2.2.symm.trans (by omega) | rfl | exact Nat.zero_mod _)]; exact HRW.out
        · have hcm2 : ¬ (cap : Int) = (m : Int) := by omega
          have hsp : ∃ sp2, (⟨bk, off, sp⟩ : Addr).add m = ⟨bk, off + m, sp2⟩ ∧ BRow wr (some ⟨bk, off + m, sp2⟩) (len - m) (cap - m) (l.drop m) := row_rest (HROW.out _ (New.refl _)) (by omega)
          obtain ⟨sp2, hadd, hsp⟩ := hsp
          have HSP := Lib.hid hsp
          clear hsp
          go_wp2_with fail
          refine (clone_b _ _ _ _ _ (HSP.out)).mono ?_
          rintro e w2 ⟨a2, c2, rfl, hrow, hfr, hn⟩
          have HFR := Lib.hid (fun x e => Nat.le_trans HN.out.le (hfr x e))
          have HRW := Lib.hid hrow
          replace HN := Lib.hid (HN.out.trans hn)
          clear hrow hfr hn
          go_wp2
          go_ret2
          refine ⟨a2, c2, ?_, ?_, fun x e => HFR.out x e, HN.out⟩
          · rw [HE.out.1, show len % 4 = len - m from (by first | exact HE.out.2.2.symm.trans (by omega) | rfl | exact Nat.zero_mod _)]
            try rfl
          · rw [HE.out.2.1, show len % 4 = len - m from (by first | exact HE.out.2.2.symm.trans (by omega) | rfl | exact Nat.zero_mod _)]; exact HRW.out
end Go.Proofs.Ytegibnffingciaa
