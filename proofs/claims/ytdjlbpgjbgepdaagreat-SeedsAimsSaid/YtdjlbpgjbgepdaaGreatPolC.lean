/- Contracts of poly.Trim, Divide, Eval: for all lists. -/
import Derived.Test.YtdjlbpgjbgepdaaGreatPolB
namespace Go.Proofs.YtdjlbpgjbgepdaaGreat
open Go.RowKit Go.Bv
set_option linter.unusedVariables false
set_option maxHeartbeats 2000000 in
theorem trim_q (a : Option Addr) (n c : Nat) (l : List (BitVec 64)) (w : World) (h : QRow w a n c l) :
    Calls Tryz.prog 159 #[.slice a n c] w fun e w' => ∃ a' c', e = .returned (.slice a' ((trimL l).length : Nat) c') ∧ QRow w' a' (trimL l).length c' (trimL l) ∧ New w w' := by
  have hm := h.most
  have hmf : ∀ (fn : Fn) (first cap : Array Value) (w : World), (Instr.makeFunc fn first cap).run Tryz.prog w = .ok (.func fn first cap) w := fun _ _ _ _ => rfl
  have HB := Lib.hid (heap_alloc_new w (.cells #[.slice a n c] 28))
  have HN := Lib.hid ((New.refl w).alloc (.cells #[.slice a n c] 28))
  have HC := Lib.hid (collect_T n (cm l) w.heap.size (w.alloc (.cells #[.slice a n c] 28)) hm (fun w' i hn hi => (tk_T w.heap.size a n c l i w' ((hn.block _ (lt_of_block HB.out)).trans HB.out) (h.stay (HN.out.trans hn))).mono (by rintro e w'' ⟨h1, rfl⟩; exact ⟨h1, New.refl _⟩)))
  have HE : Hid (trimL l = trimF (cm l) n) := Lib.hid (by unfold trimL; rw [h.len_eq])
  have k0 := cell_of_row _ _ 0 _ _ _ HB.out
  have HLN := Lib.hid (trimF_len (cm l) n)
  rw [HE.out, HLN.out]
  clear h HLN
  go_enter Tryz.func159, Tryz.ntmps159
  go_wp2_with fail
  refine (HC.out).mono ?_
  rintro e w9 ⟨a2, c2, rfl, hq, hn⟩
  have HQ := Lib.hid hq
  have HN2 := Lib.hid (HN.out.trans hn)
  clear hq hn HC
  go_wp2
  go_ret
  exact ⟨a2, c2, rfl, HQ.out, HN2.out⟩
set_option maxRecDepth 100000 in
set_option maxHeartbeats 4000000 in
theorem divide_q (a : Option Addr) (n c : Nat) (l : List (BitVec 64)) (x : BitVec 64) (w : World) (h : QRow w a n c l) :
    Calls Tryz.prog 128 #[.slice a n c, .int .u64 (W64 x)] w fun e w' => ∃ a' c', e = .returned (.tuple #[.slice a' ((trimL (dq l x)).length : Nat) c', .int .u64 (W64 (mp (nv l x)))]) ∧ QRow w' a' (trimL (dq l x)).length c' (trimL (dq l x)) ∧ New w w' := by
  have hm := h.most
  have hmf : ∀ (fn : Fn) (first cap : Array Value) (w : World), (Instr.makeFunc fn first cap).run Tryz.prog w = .ok (.func fn first cap) w := fun _ _ _ _ => rfl
  obtain ⟨i0, hi, hz0, hz1, hz2⟩ := info_parts info_u64q
  have HB0 := Lib.hid (heap_alloc_new w (.cells #[.slice a n c] 28))
  have HN0 := Lib.hid ((New.refl w).alloc (.cells #[.slice a n c] 28))
  have hmk := run_make_row (P := Tryz.prog) 28 23 i0 (.int .u64 0) Tryz.underlying28 hi hz0 hz1 rfl .i64 .i64 n (by rw [hz2]; omega) (by omega) (w.alloc (.cells #[.slice a n c] 28))
  have HM := Lib.hid (made_q n (fun _ => 0#64))
  have HMK : Hid (∀ t : Int, t = (n : Int) → (Instr.makeSlice 28 (.int .i64 t) (.int .i64 t)).run Tryz.prog (w.alloc (.cells #[.slice a n c] 28)) = .ok (.slice (some ⟨(w.alloc (.cells #[.slice a n c] 28)).heap.size, 0, none⟩) n n) ((w.alloc (.cells #[.slice a n c] 28)).alloc (.cells (madeCells #[.int .u64 0] n) 23))) := Lib.hid (by rintro t rfl; exact hmk)
  have HH := Lib.hid h
  have HL := Lib.hid h.len_eq
  clear hmk h
  have k0 := cell_of_row _ _ 0 _ _ _ HB0.out
  go_enter Tryz.func128, Tryz.ntmps128
  go_wp2_with fail
  go_step3
  go_wp2_with fail
  rw [HMK.out _ rfl]
  clear HMK
  have hsz : (w.alloc (.cells #[.slice a n c] 28)).heap.size = w.heap.size + 1 := by simp
  have HQ0 := heap_alloc_new (w.alloc (.cells #[.slice a n c] 28)) (.cells (madeCells #[.int .u64 0] n) 23)
  have HN1 := (New.refl (w.alloc (.cells #[.slice a n c] 28))).alloc (.cells (madeCells #[.int .u64 0] n) 23)
  have hb1 := (HN1.block _ (lt_of_block HB0.out)).trans HB0.out
  have HN2 := HN0.out.trans HN1
  rw [hsz] at HQ0 ⊢
  clear k0 hsz HN1 HB0 HN0
  generalize (w.alloc (.cells #[.slice a n c] 28)).alloc (.cells (madeCells #[.int .u64 0] n) 23) = w1 at *
  have HB1 := Lib.hid hb1
  have HQ1 := Lib.hid HQ0
  have HNN := Lib.hid HN2
  have k0 := cell_of_row _ _ 0 _ _ _ HB1.out
  clear hb1 HQ0 HN2
  have HST : Hid ((0 : Int) = W64 (mp (hz l x n))) := Lib.hid (by rw [hz_end l x n (by rw [HL.out]; exact Nat.le_refl _), mp_zero, lo_zero])
  go_wp2_with fail
  clear k0
  go_step3
  go_wp2_with fail
  go_loopw [8, 9] (fun v iv wr => ∃ (k : Nat) (cs : Array Value), k ≤ n ∧ iv = .int .i64 (k : Int) ∧ v = .int .u64 (W64 (mp (hz l x k))) ∧ wr.heap[w.heap.size]? = some (.cells #[.slice a n c] 28 (0, 0)) ∧ wr.heap[w.heap.size + 1]? = some (.cells cs 23 (0, 0)) ∧ Hid (cs.size = n ∧ ∀ j, j < n → cs[j]? = some (.int .u64 (W64 (if k ≤ j then mp (hz l x (j + 1)) else 0#64)))) ∧ New w wr) (fun _ iv _ => (intOf iv).toNat)
  case atStart => exact ⟨n, _, Nat.le_refl _, rfl, by rw [HST.out], HB1.out, HQ1.out, Lib.hid ⟨HM.out.1, fun j hj => by rw [HM.out.2 j hj, if_neg (by omega), if_neg (by omega)]⟩, HNN.out⟩
  case round =>
    clear HB1 HQ1 HNN HST HM
    obtain ⟨k, cs, hk, rfl, rfl, hb, hq, HCS, hn⟩ := hrel
    have HB := Lib.hid hb
    have HQ := Lib.hid hq
    have HN := Lib.hid hn
    clear hb hq hn
    by_cases hpos : k = 0
    · subst hpos
      have HQR : Hid (QRow wr (some ⟨w.heap.size + 1, 0, none⟩) n n (dq l x)) := Lib.hid (by
        refine ⟨by rw [dq_len]; exact HL.out, Nat.le_refl _, by omega, by omega, (fun e => by cases e), ?_, ?_, ?_⟩
        · intro b off e i hi
          cases e
          rw [Nat.zero_add, cell_of_row _ _ _ _ _ _ HQ.out, HCS.out.2 i hi, if_pos (Nat.zero_le _), dq_get]
        · intro x e h; cases e; rfl
        · intro x e h; cases e; exact lt_of_block HQ.out)
      have HT := Lib.hid (trim_q _ _ _ _ _ HQR.out)
      rw [hz_zero]
      obtain ⟨v, hv⟩ : ∃ z, mp (nv l x) = z := ⟨_, rfl⟩
      have HV := Lib.hid hv
      rw [hv]
      clear hv HB HQ HCS
      go_wp2_with fail
      refine (HT.out).mono ?_
      rintro e w9 ⟨a2, c2, rfl, hq2, hn2⟩
      have HQ2 := Lib.hid hq2
      replace HN := Lib.hid (HN.out.trans hn2)
      clear hq2 hn2 HT
      go_wp2
      try rw [Exit.noGoto_ret]
      refine bodyPost_ret (by simp [results, Tryz.results128, go_sem]; try rfl) rfl ?_
      rw [HV.out]
      exact ⟨a2, c2, rfl, HQ2.out, HN.out⟩
    · have hm1 : ((k - 1 : Nat) : Int) = (k : Int) - 1 := by omega
      have hmw : wrap64 ((k : Int) - 1) = (k : Int) - 1 := by unfold wrap64; omega
      have hz1' : ((k : Int) == 0) = false := by rw [beq_eq_false_iff_ne]; omega
      have hstep : mp ((mp ((mp (hz l x k)).toNat * x.toNat)).toNat + (cm l (k - 1)).toNat) = mp (hz l x (k - 1)) := by
        unfold cm
        rw [mp_mul1, mp_add, hz_step l x (k - 1), show k - 1 + 1 = k by omega, Nat.add_comm, Nat.mul_comm]
      have HSTEP := Lib.hid hstep
      have HKV := Lib.hid (show hz l x k = hz l x (k - 1 + 1) by rw [show k - 1 + 1 = k by omega])
      clear hstep
      obtain ⟨v, hv⟩ : ∃ z, mp (hz l x k) = z := ⟨_, rfl⟩
      have HV := Lib.hid hv
      rw [hv] at HSTEP
      rw [hv]
      clear hv
      have HTK := Lib.hid (fun (w' : World) (hb : w'.heap[w.heap.size]? = some (.cells #[.slice a n c] 28 (0, 0))) (hn : New w w') => tk_D w.heap.size a n c l (k - 1) w' hb (HH.out.stay hn))
      rw [hm1] at HTK
      obtain ⟨y, hy⟩ : ∃ z, cm l (k - 1) = z := ⟨_, rfl⟩
      rw [hy] at HTK HSTEP
      clear hy
      have hcell : wr.cell? ⟨w.heap.size + 1, k - 1, none⟩ = some (.int .u64 (W64 (if k ≤ k - 1 then mp (hz l x (k - 1 + 1)) else 0#64))) := by
        rw [cell_of_row _ _ _ _ _ _ HQ.out]; exact HCS.out.2 (k - 1) (by omega)
      have hfree := frozen_of_row wr (w.heap.size + 1) (k - 1) cs _ HQ.out
      have HD := Lib.hid (heap_setCell_same wr (w.heap.size + 1) (k - 1) cs _ (.int .u64 (W64 v)) HQ.out)
      have HBO := Lib.hid ((heap_setCell_other wr ⟨w.heap.size + 1, k - 1, none⟩ (w.heap.size) (.int .u64 (W64 v)) (by show w.heap.size ≠ w.heap.size + 1; omega)).trans HB.out)
      have HNO := Lib.hid (HN.out.setCell (p := ⟨w.heap.size + 1, k - 1, none⟩) (by show w.heap.size ≤ w.heap.size + 1; omega) (.int .u64 (W64 v)))
      have hk1 : ((k : Int) - 1).toNat = k - 1 := by omega
      have hk2 : (0 : Int) ≤ (k : Int) - 1 := by omega
      have hk3 : (k : Int) - 1 < (n : Int) := by omega
      go_wp2_with fail
      generalize World.setCell wr ⟨w.heap.size + 1, k - 1, none⟩ (.int .u64 (W64 v)) = w8 at *
      clear hcell hfree
      obtain ⟨m1, hmm⟩ : ∃ z, mp (v.toNat * x.toNat) = z := ⟨_, rfl⟩
      rw [hmm] at HSTEP
      have HM1 := Lib.hid (fun w => mmul_p v x w)
      rw [hmm] at HM1
      clear hmm
      refine (HM1.out _).mono ?_
      rintro e w9 ⟨rfl, HNI⟩
      replace HD := Lib.hid ((HNI.block _ (lt_of_block HD.out)).trans HD.out)
      replace HBO := Lib.hid ((HNI.block _ (lt_of_block HBO.out)).trans HBO.out)
      replace HNO := Lib.hid (HNO.out.trans HNI)
      clear HNI
      clear HM1
      go_wp2_with fail
      refine (HTK.out _ HBO.out HNO.out).mono ?_
      rintro e w7 ⟨rfl, hw7⟩
      subst hw7
      go_wp2_with fail
      refine (madd_p m1 y _).mono ?_
      rintro e w6 ⟨rfl, HNI⟩
      replace HD := Lib.hid ((HNI.block _ (lt_of_block HD.out)).trans HD.out)
      replace HBO := Lib.hid ((HNI.block _ (lt_of_block HBO.out)).trans HBO.out)
      replace HNO := Lib.hid (HNO.out.trans HNI)
      clear HNI
      go_wp2
      refine ⟨⟨k - 1, _, by omega, by rw [hm1], by rw [HSTEP.out], HBO.out, HD.out, Lib.hid ⟨by rw [Array.size_setIfInBounds]; exact HCS.out.1, ?_⟩, HNO.out⟩, by simp [intOf]; omega⟩
      intro j hj
      have hs := HCS.out.1
      rw [Array.getElem?_setIfInBounds]
      by_cases e : k - 1 = j
      · subst e
        rw [if_pos rfl, if_pos (by omega), if_pos (Nat.le_refl _), ← HKV.out, HV.out]
      · rw [if_neg e, HCS.out.2 j hj]
        refine congrArg (fun d => some (Value.int .u64 (W64 d))) ?_
        by_cases e2 : k ≤ j
        · rw [if_pos e2, if_pos (by omega)]
        · rw [if_neg e2, if_neg (by omega)]
/-- what is wrong with coefficients or with a number -/
def evC (l : List (BitVec 64)) (x : BitVec 64) : Int := if chkC l ≠ 0 then chkC l else if PP ≤ x.toNat then 2 else 0
def evP (l : List (BitVec 64)) (x : BitVec 64) : BitVec 64 := if evC l x = 0 then mp (nv l x) else 0#64
set_option maxHeartbeats 2000000 in
theorem peval_q (a : Option Addr) (n c : Nat) (l : List (BitVec 64)) (x : BitVec 64) (w : World) (h : QRow w a n c l) :
    Calls Tryz.prog 85 #[.slice a n c, .int .u64 (W64 x)] w fun e w' => e = .returned (.tuple #[.int .u64 (W64 (evP l x)), .int .i64 (evC l x)]) ∧ New w w' := by
  have HCK := Lib.hid (fun w' (hn : New w w') => check_q a n c l w' (h.stay hn))
  have HD := Lib.hid (fun w' (hn : New w w') => divide_q a n c l x w' (h.stay hn))
  clear h
  by_cases h1 : chkC l = 0
  · by_cases h2 : PP ≤ x.toNat
    · have HE : Hid (evC l x = 2) := Lib.hid (by unfold evC; rw [if_neg (by rw [h1]; simp), if_pos h2])
      have HV : Hid (evP l x = 0#64) := Lib.hid (by unfold evP; rw [HE.out]; rfl)
      have hg : decide (2305843009213693951 ≤ W64 x) = true := decide_eq_true (by unfold PP at h2; unfold W64; omega)
      rw [h1] at HCK
      rw [HE.out, HV.out, lo_zero]
      clear h1 h2
      go_enter Tryz.func85, Tryz.ntmps85
      go_wp2_with fail
      refine (HCK.out _ (New.refl _)).mono ?_
      rintro e w' ⟨rfl, rfl⟩
      go_wp2
      go_ret2
      exact ⟨rfl, New.refl _⟩
    · have HE : Hid (evC l x = 0) := Lib.hid (by unfold evC; rw [if_neg (by rw [h1]; simp), if_neg h2])
      have HV : Hid (evP l x = mp (nv l x)) := Lib.hid (by unfold evP; rw [if_pos HE.out])
      have hg : decide (2305843009213693951 ≤ W64 x) = false := decide_eq_false (by unfold PP at h2; unfold W64; omega)
      rw [h1] at HCK
      rw [HE.out, HV.out]
      clear h1 h2
      obtain ⟨v, hv⟩ : ∃ z, mp (nv l x) = z := ⟨_, rfl⟩
      rw [hv] at HD
      rw [hv]
      clear hv HE HV
      go_enter Tryz.func85, Tryz.ntmps85
      go_wp2_with fail
      refine (HCK.out _ (New.refl _)).mono ?_
      rintro e w' ⟨rfl, rfl⟩
      go_wp2_with fail
      refine (HD.out _ (New.refl _)).mono ?_
      rintro e w9 ⟨a2, c2, rfl, hq2, hn2⟩
      go_wp2
      go_ret2
      exact ⟨rfl, hn2⟩
  · have HE : Hid (evC l x = chkC l) := Lib.hid (by unfold evC; rw [if_pos h1])
    have HV : Hid (evP l x = 0#64) := Lib.hid (by unfold evP; rw [HE.out, if_neg h1])
    have hne : (chkC l != 0) = true := by rw [bne_iff_ne]; exact h1
    rw [HE.out, HV.out, lo_zero]
    clear h1 HE HV
    obtain ⟨q, hq⟩ : ∃ z, chkC l = z := ⟨_, rfl⟩
    rw [hq] at HCK hne
    rw [hq]
    clear hq
    go_enter Tryz.func85, Tryz.ntmps85
    go_wp2_with fail
    refine (HCK.out _ (New.refl _)).mono ?_
    rintro e w' ⟨rfl, rfl⟩
    go_wp2
    go_ret2
    exact ⟨rfl, New.refl _⟩
end Go.Proofs.YtdjlbpgjbgepdaaGreat
