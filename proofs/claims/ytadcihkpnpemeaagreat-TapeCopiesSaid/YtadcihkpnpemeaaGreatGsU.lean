/- All generators: what a step leaves may be; Step of any state; Next of one that may not be. -/
import Derived.Test.YtadcihkpnpemeaaGreatGsT
import Derived.Test.YtadcihkpnpemeaaGreatGsP
namespace Go.Proofs.YtadcihkpnpemeaaGreat
open Go.RowKit Go.Bv
set_option linter.unusedVariables false
set_option maxRecDepth 100000
theorem rotl_0 (n : Nat) : (0#64).rotateLeft n = 0#64 := by simp [BitVec.rotateLeft, BitVec.rotateLeftAux]
theorem rotl_no {x : BitVec 64} {k : Nat} (hk : k ≤ 64) (h : x.rotateLeft k = 0#64) : x = 0#64 := by
  have := rot_back x k hk
  rw [h, rotl_0] at this
  exact this.symm
theorem shl_no {x : BitVec 64} (h : x ^^^ x <<< 17 = 0#64) : x = 0#64 := by
  have h1 : x <<< 17 = x := by
    have := congrArg (fun z => x ^^^ z) h
    simp only [← BitVec.xor_assoc, BitVec.xor_self, BitVec.zero_xor, BitVec.xor_zero] at this
    exact this
  have h2 : (((x <<< 17) <<< 17) <<< 17) <<< 17 = x := by rw [h1, h1, h1, h1]
  rw [← h2, ← BitVec.shiftLeft_add, ← BitVec.shiftLeft_add, ← BitVec.shiftLeft_add]
  exact BitVec.shiftLeft_eq_zero (by omega)
theorem xor_no {x y : BitVec 64} (h : x ^^^ y = 0#64) : x = y := by
  have := congrArg (fun z => z ^^^ y) h
  simpa [BitVec.xor_assoc] using this
theorem no_iff (q : W4) : q.no = true ↔ q = ⟨0#64, 0#64, 0#64, 0#64⟩ := by
  obtain ⟨a, b, c, d⟩ := q
  simp [W4.no]
theorem m9_no {q : W4} (h : q.no = false) : (m9 q).no = false := by
  rw [← Bool.not_eq_true, no_iff] at h ⊢
  intro e
  apply h
  obtain ⟨a, b, c, d⟩ := q
  simp only [m9, W4.mk.injEq] at e ⊢
  obtain ⟨e1, e2, e3, e4⟩ := e
  have h4 := rotl_no (by omega) e4
  rw [h4, BitVec.xor_zero] at e1
  subst e1
  rw [BitVec.xor_zero] at e2 e3
  have h2 := xor_no e2
  subst h2
  have h3 := shl_no e3
  subst h3
  rw [BitVec.xor_zero] at h4
  exact ⟨rfl, rfl, rfl, h4⟩
theorem no_w10 (p : Q2) : (w10 p).no = zr2 p := by
  unfold W4.no zr2 w10
  simp
theorem stp_no {A B C : Nat} (hA : A ≤ 64) (hC : C ≤ 64) {p : Q2} (h : zr2 p = false) : zr2 (stp A B C p) = false := by
  rw [← Bool.not_eq_true, zr2_iff] at h ⊢
  intro e
  apply h
  obtain ⟨a, b⟩ := p
  simp only [stp, z2, Q2.mk.injEq] at e ⊢
  obtain ⟨e1, e2⟩ := e
  have h4 := rotl_no hC e2
  rw [h4] at e1
  simp at e1
  have h1 := rotl_no hA e1
  subst h1
  rw [BitVec.zero_xor] at h4
  exact ⟨rfl, h4⟩
theorem mo_no (k : Int) {p : Q2} (h : zr2 p = false) : zr2 (mo k p) = false := by
  unfold mo; split
  · exact stp_no (by omega) (by omega) h
  · exact stp_no (by omega) (by omega) h
theorem chk_x {k : Int} (hk : k = 2 ∨ k = 3 ∨ k = 4) {q : W4} (h : q.no = false) : chkK k q = 0 := by
  rcases hk with rfl | rfl | rfl <;> simp [chkK, okK, formK, szK, badK, h]
theorem chk_o {k : Int} (hk : k = 5 ∨ k = 6) {p : Q2} (h : zr2 p = false) : chkK k (w10 p) = 0 := by
  have h2 := no_w10 p
  rw [h] at h2
  have hc : (w10 p).c = 0#64 := rfl
  have hd : (w10 p).d = 0#64 := rfl
  rcases hk with rfl | rfl <;> simp [chkK, okK, formK, szK, badK, h2, hc, hd]
theorem chk_st {k : Int} {q : W4} (h : chkK k q = 0) : chkK k (stK k q) = 0 := by
  obtain ⟨ho, f1, f2, hb⟩ := fits h
  rcases kind8 ho with hk | hk | hk | hk | hk
  · subst hk
    exact chk1 _
  · have e : stK k q = m9 q := by unfold stK; rw [if_neg (by omega), if_pos (by omega)]
    rw [e]
    refine chk_x hk (m9_no ?_)
    unfold badK at hb
    rw [if_neg (by omega), if_neg (by omega), if_neg (by omega)] at hb
    exact hb
  · have e : stK k q = w10 (mo k ⟨q.a, q.b⟩) := by unfold stK; rw [if_neg (by omega), if_neg (by omega), if_pos (by omega)]
    rw [e]
    refine chk_o hk (mo_no k ?_)
    unfold badK at hb
    rw [if_neg (by omega), if_neg (by omega), if_neg (by omega)] at hb
    rw [f2 (by omega), no_w10] at hb
    exact hb
  · subst hk
    have e : stK 7 q = w10 (p7 ⟨q.a, q.b⟩) := rfl
    rw [e]
    have h7 : (q.b &&& 1#64 == 0#64) = false := hb
    have hb2 : (w10 (p7 ⟨q.a, q.b⟩)).b = q.b := p7_b _
    have hc : (w10 (p7 ⟨q.a, q.b⟩)).c = 0#64 := rfl
    have hd : (w10 (p7 ⟨q.a, q.b⟩)).d = 0#64 := rfl
    generalize w10 (p7 ⟨q.a, q.b⟩) = z at *
    simp [chkK, okK, formK, szK, badK, hb2, hc, hd]
    simpa using h7
  · subst hk
    have e : stK 8 q = w14 q := rfl
    rw [e]
    have h7 : (q.c &&& 1#64 == 0#64) = false := hb
    have hb2 := w14_c q
    generalize w14 q = z at *
    simp [chkK, okK, formK, szK, badK, hb2]
    simpa using h7
theorem chk_nx {k : Int} {q : W4} (h : chkK k q = 0) : chkK k (nxK k q) = 0 := by
  unfold nxK; split
  · exact chk_st (chk_st h)
  · exact chk_st h
set_option maxHeartbeats 1000000 in
theorem next_no (k : Int) (q : W4) (hk : ¬ chkK k q = 0) (w : World) : Calls Tryz.prog 20 #[.agg (stc k q)] w fun e w' => e = .returned (.tuple #[.int .u64 0, .agg zst, .int .i64 (chkK k q)]) ∧ New w w' := by
  have hz := two_blocksG w (.cells (stc k q) 25) (.cells zst 25)
  have HZ := Lib.hid hz
  have HGI := Lib.hid (fun w => gin_any k q w)
  obtain ⟨c, hc⟩ : ∃ c, chkK k q = c := ⟨_, rfl⟩
  rw [hc] at HGI hk ⊢
  have hcz : (c != 0) = true := by simpa using hk
  clear hz hc
  go_enter Tryz.func20, Tryz.ntmps20
  go_wp2_with fail
  refine (HGI.out _).mono ?_
  rintro e w' ⟨⟨cs, rfl, hv⟩, hn⟩
  obtain rfl : cs = gzc := by
    rcases hv with h | h
    · exact absurd h.1 hk
    · exact h.2
  have n2 := hn.alloc (.cells gzc 63)
  have hy := (n2.block _ (lt_of_block HZ.out.2.1)).trans HZ.out.2.1
  have d0 := cell_of_row _ _ 0 _ _ _ hy
  have d1 := cell_of_row _ _ 1 _ _ _ hy
  have d2 := cell_of_row _ _ 2 _ _ _ hy
  have d3 := cell_of_row _ _ 3 _ _ _ hy
  have d4 := cell_of_row _ _ 4 _ _ _ hy
  have df := fun i => frozen_of_row _ _ i _ _ hy
  have HN := Lib.hid (HZ.out.2.2.trans n2)
  have HY := Lib.hid hy
  clear hy n2 hn hv HZ
  go_wp2_with fail
  have hp := put5_facts (.int .i64 0) (.int .u64 0) (.int .u64 0) (.int .u64 0) (.int .u64 0) HY.out
  refine bodyPost_ret (by simp [results, Tryz.results20, go_sem, d0, d1, d2, d3, d4]; try rfl) rfl ?_
  exact ⟨rfl, hp.2.2.1 _ HN.out (by omega)⟩
end Go.Proofs.YtadcihkpnpemeaaGreat
