/- For all bytes and every two numbers: the numbers' bytes behind the bytes, as the document says; they are read there; nothing that was handed in changes: the walk of the statement LoadPuts. -/
import Derived.Test.YtepphoncljlkoaaLoadL
import Derived.Test.YtepphoncljlkoaaBoth
namespace Go.Proofs.Ytepphoncljlkoaa
open Go.RowKit Go.Bv
set_option linter.unusedVariables false
theorem bytes_at (x : BitVec 64) (n i : Nat) (h : i < n) : (bytes x n).getD i 0 = byt x i := by
  unfold bytes; rw [List.getD_eq_getElem?_getD, List.getElem?_map, List.getElem?_range h]; rfl
theorem behind_at (l : List (BitVec 8)) (x : BitVec 64) (n i : Nat) (h : i < n) : (l ++ bytes x n).getD (l.length + i) 0 = byt x i := by
  rw [List.getD_eq_getElem?_getD, List.getElem?_append_right (by omega), show l.length + i - l.length = i by omega, ← List.getD_eq_getElem?_getD, bytes_at x n i h]
theorem rd_behind (l : List (BitVec 8)) (x : BitVec 64) (n k : Nat) (hk : l.length = k) : rd (l ++ bytes x n) k n = num (byt x) n := by
  subst hk; unfold rd
  exact num_congr n (fun i hi => behind_at l x n i hi)
theorem num4 (w : BitVec 32) : (num (byt (w.setWidth 64)) 4).setWidth 32 = w := by
  have h : num (byt (w.setWidth 64)) 4 = num (byt (w.setWidth 64)) 8 := (num_short _ 4 8 (by omega) (fun i h1 h2 => by
    unfold byt
    apply BitVec.eq_of_getLsbD_eq; intro b hb
    simp [hb]; intro _; rw [BitVec.getLsbD_of_ge w _ (by omega)])).symm
  rw [h, num_byt]
  apply BitVec.eq_of_getLsbD_eq; intro i hi; simp [hi]
theorem tail_bytes (x : BitVec 64) : num (fun i => (bytes x 8).getD i 0) (min 8 8) = x := by
  rw [show min 8 8 = 8 from rfl, num_congr (g := byt x) 8 (fun i hi => bytes_at x 8 i hi), num_byt]
theorem brow_none (w : World) : BRow w none 0 0 [] := ⟨rfl, Nat.le_refl _, by omega, by omega, fun _ => ⟨rfl, rfl⟩, (fun _ _ e => by cases e), (fun _ e => by cases e), (fun _ e => by cases e)⟩
set_option maxHeartbeats 2000000 in
theorem LoadPuts_walk (W : World) (a0 : Option Addr) (n0 m0 : Nat) (z0 : List Int) (w0 : IRow .u8 W a0 n0 m0 z0) (r0 : m0 * 1 ≤ 140737488351232) (a1 : Int) (w1 : (Lit.int .u64 a1).wf = true) (a2 : Int) (w2 : (Lit.int .u32 a2).wf = true) :
    Calls Try.prog 8 #[.slice a0 n0 m0, .int .u64 a1, .int .u32 a2] W fun e w' => e = .returned (.bool true) ∧ Below W.heap.size W w' := by
  obtain ⟨l, hb⟩ := w0.bytes r0
  obtain ⟨x, rfl⟩ := wf64 w1
  obtain ⟨y, rfl⟩ := wf32 w2
  have hl := hb.le
  have hn : n0 + 8 ≤ 140737488355328 := by omega
  have h1 : (l ++ bytes x 8 == l ++ bytes x 8) = true := by rw [beq_iff_eq]
  have hy8 : rd (l ++ bytes x 8) n0 8 = x := by rw [rd_behind l x 8 n0 hb.len_eq, num_byt]
  have hy4 : (rd (l ++ bytes (y.setWidth 64) 4) n0 4).setWidth 32 = y := by rw [rd_behind l _ 4 n0 hb.len_eq, num4]
  have ht := tail_bytes x
  have HY8 := Lib.hid hy8
  have HY4 := Lib.hid hy4
  have HT := Lib.hid ht
  clear hy8 hy4 ht w0 r0 h1
  have hg := New.refl W
  go_enter Try.func8, Try.ntmps8
  go_wp2_with fail
  refine (awake02 _ _ hg).mono ?_; clear hg; rintro e wa ⟨rfl, hg⟩
  have hba := hb.stay hg
  have hca := conv_row hba
  go_wp2_with fail
  refine (put64_any _ _ _ _ _ (b64 _) W _ hba hn hg).mono ?_; rintro e wp ⟨p, pc, rfl, hp, hnp, hgp⟩
  rw [ofInt_W64] at hp
  have hbp := hba.stay hnp
  go_wp2_with fail
  refine (put32_any _ _ _ _ _ (b32 _) W _ hbp (by omega) hgp).mono ?_; rintro e wq ⟨q, qc, rfl, hq, hnq, hgq⟩
  rw [ofInt_W32] at hq
  have hpq := hp.stay hnq
  have hbq := hbp.stay hnq
  obtain ⟨pb, po, rfl, hx1⟩ := hpq.addr (by omega)
  clear hx1
  obtain ⟨qb, qo, rfl, hx2⟩ := hq.addr (by omega)
  clear hx2
  go_wp2_with fail
  refine (le64_yes _ _ _ _ n0 _ _ hpq (by omega)).mono ?_; rintro e w' ⟨rfl, rfl⟩
  rw [HY8.out]
  go_wp2_with fail
  refine (le32_yes _ _ _ _ n0 _ _ hq (by omega)).mono ?_; rintro e w' ⟨rfl, rfl⟩
  rw [HY4.out]
  go_wp2_with fail
  refine (bytes_ref _ (b64 _) 8 (by omega) W _ hgq).mono ?_; rintro e wr ⟨r, rc, rfl, hr, hnr, hgr⟩
  rw [ofInt_W64] at hr
  go_wp2_with fail
  refine (both_ref _ _ _ _ _ _ _ _ W _ (hbq.stay hnr) hr (by omega) hgr).mono ?_; rintro e ws ⟨s, sc, rfl, hs, hns, hgs⟩
  go_wp2_with fail
  refine (same_any _ _ _ _ _ _ _ _ _ ((hpq.stay hnr).stay hns) hs).mono ?_; rintro e w' ⟨rfl, rfl⟩
  rw [show (l ++ bytes x 8 == l ++ bytes x 8) = true by simp]
  go_wp2_with fail
  have hqs := (hq.stay hnr).stay hns
  have hbs := (hbq.stay hnr).stay hns
  refine (bytes_ref _ (b64 _) 4 (by omega) W _ hgs).mono ?_; rintro e wt ⟨t, tc, rfl, ht, hnt, hgt⟩
  rw [ofInt_W64] at ht
  go_wp2_with fail
  refine (both_ref _ _ _ _ _ _ _ _ W _ (hbs.stay hnt) ht (by omega) hgt).mono ?_; rintro e wu ⟨u, uc, rfl, hu, hnu, hgu⟩
  go_wp2_with fail
  refine (same_any _ _ _ _ _ _ _ _ _ ((hqs.stay hnt).stay hnu) hu).mono ?_; rintro e w' ⟨rfl, rfl⟩
  rw [show (l ++ bytes (y.setWidth 64) 4 == l ++ bytes (y.setWidth 64) 4) = true by simp]
  have hcz := conv_row ((hbs.stay hnt).stay hnu)
  go_wp2_with fail
  refine (put64_any _ _ _ _ _ (b64 _) W _ (brow_none _) (by omega) hgu).mono ?_; rintro e wv ⟨v, vc, rfl, hv, hnv, hgv⟩
  rw [ofInt_W64] at hv
  go_wp2_with fail
  refine (tail_any _ _ _ _ _ hv).mono ?_; rintro e w' ⟨rfl, rfl⟩
  rw [List.nil_append, show min (0 + 8) 8 = min 8 8 from rfl, HT.out]
  go_wp2_with fail
  go_ret
  exact ⟨rfl, hgv⟩
end Go.Proofs.Ytepphoncljlkoaa
