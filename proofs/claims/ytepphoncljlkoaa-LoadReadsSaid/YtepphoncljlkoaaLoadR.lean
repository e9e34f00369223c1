/- For all bytes and every place: the number at the place, if it is there, and that of the first eight: the walk of the statement LoadReads. -/
import Derived.Test.YtepphoncljlkoaaLoadL
namespace Go.Proofs.Ytepphoncljlkoaa
open Go.RowKit Go.Bv
set_option linter.unusedVariables false
theorem tail_num (l : List (BitVec 8)) (n : Nat) (h : l.length = n) : num (fun i => l.getD i 0) (min n 8) = rd l 0 8 := by
  unfold rd
  rw [num_congr (f := fun i => l.getD (0 + i) 0) (g := fun i => l.getD i 0) 8 (fun i _ => by rw [Nat.zero_add])]
  exact (num_short _ (min n 8) 8 (by omega) (fun i h1 h2 => by
    rw [List.getD_eq_getElem?_getD, List.getElem?_eq_none (by omega)]; rfl)).symm
theorem rd4_word (l : List (BitVec 8)) (k : Nat) : ((rd l k 4).setWidth 32).setWidth 64 = rd l k 4 := by
  have h := num_lt (fun i => l.getD (k + i) 0) 4 (by omega)
  apply BitVec.eq_of_toNat_eq
  rw [BitVec.toNat_setWidth, BitVec.toNat_setWidth]
  unfold rd
  omega
set_option maxHeartbeats 2000000 in
theorem LoadReads_walk (W : World) (a0 : Option Addr) (n0 m0 : Nat) (z0 : List Int) (w0 : IRow .u8 W a0 n0 m0 z0) (r0 : m0 * 1 ≤ 140737488351232) (a1 : Int) (w1 : (Lit.int .i64 a1).wf = true) :
    Calls Try.prog 7 #[.slice a0 n0 m0, .int .i64 a1] W fun e w' => e = .returned (.bool true) ∧ Below W.heap.size W w' := by
  obtain ⟨l, hb⟩ := w0.bytes r0
  have hn := wfi64 w1
  have hm := hb.most
  have hl := hb.le
  have ht := tail_num l n0 hb.len_eq
  have HT := Lib.hid ht
  clear ht w0 r0
  have hg := New.refl W
  by_cases c1 : a1 < 0 ∨ (n0 : Int) < a1 + 4
  · have c2 : a1 < 0 ∨ (n0 : Int) < a1 + 8 := by omega
    have c1' : a1 < 0 ∨ (n0 : Int) < a1 + (4 : Nat) := c1
    have c2' : a1 < 0 ∨ (n0 : Int) < a1 + (8 : Nat) := c2
    go_enter Try.func7, Try.ntmps7
    go_wp2_with fail
    refine (awake02 _ _ hg).mono ?_; clear hg; rintro e w ⟨rfl, hg⟩
    have hb' := hb.stay hg
    go_wp2_with fail
    refine (le32_no _ _ _ _ _ (by omega) c1' hn).mono ?_; rintro e w' ⟨rfl, rfl⟩
    go_wp2_with fail
    refine (le64_no _ _ _ _ _ (by omega) c2' hn).mono ?_; rintro e w' ⟨rfl, rfl⟩
    go_wp2_with fail
    refine (there_no _ _ _ 4 _ _ (by omega) c1' (by omega)).mono ?_; rintro e w' ⟨rfl, rfl⟩
    go_wp2_with fail
    refine (there_no _ _ _ 8 _ _ (by omega) c2' (by omega)).mono ?_; rintro e w' ⟨rfl, rfl⟩
    go_wp2_with fail
    refine (tail_any _ _ _ _ _ hb').mono ?_; rintro e w' ⟨rfl, rfl⟩
    rw [HT.out]
    go_wp2_with fail
    refine (num_ref _ _ _ _ 0 8 _ hb' (by omega) (by omega)).mono ?_; rintro e w' ⟨rfl, rfl⟩
    go_wp2_with fail
    go_ret
    exact ⟨rfl, hg⟩
  · obtain ⟨k, rfl⟩ : ∃ k : Nat, a1 = k := ⟨a1.toNat, by omega⟩
    have hk4 : k + 4 ≤ n0 := by omega
    obtain ⟨b, off, rfl, hc⟩ := hb.addr (by omega)
    clear hc
    have hr4 : (((rd l k 4).setWidth 32).setWidth 64 == rd l k 4) = true := by rw [beq_iff_eq]; exact rd4_word l k
    by_cases c2 : k + 8 ≤ n0
    · go_enter Try.func7, Try.ntmps7
      go_wp2_with fail
      refine (awake02 _ _ hg).mono ?_; clear hg; rintro e w ⟨rfl, hg⟩
      have hb' := hb.stay hg
      go_wp2_with fail
      refine (le32_yes _ _ _ _ _ _ _ hb' hk4).mono ?_; rintro e w' ⟨rfl, rfl⟩
      go_wp2_with fail
      refine (le64_yes _ _ _ _ _ _ _ hb' c2).mono ?_; rintro e w' ⟨rfl, rfl⟩
      go_wp2_with fail
      refine (there_yes _ _ _ _ 4 _ (by omega) hk4).mono ?_; rintro e w' ⟨rfl, rfl⟩
      go_wp2_with fail
      refine (there_yes _ _ _ _ 8 _ (by omega) c2).mono ?_; rintro e w' ⟨rfl, rfl⟩
      go_wp2_with fail
      refine (tail_any _ _ _ _ _ hb').mono ?_; rintro e w' ⟨rfl, rfl⟩
      rw [HT.out]
      go_wp2_with fail
      refine (num_ref _ _ _ _ 0 8 _ hb' (by omega) (by omega)).mono ?_; rintro e w' ⟨rfl, rfl⟩
      go_wp2_with fail
      refine (num_ref _ _ _ _ k 4 _ hb' (by omega) (by omega)).mono ?_; rintro e w' ⟨rfl, rfl⟩
      go_wp2_with fail
      refine (num_ref _ _ _ _ k 8 _ hb' (by omega) (by omega)).mono ?_; rintro e w' ⟨rfl, rfl⟩
      go_wp2_with fail
      go_ret
      exact ⟨rfl, hg⟩
    · have c2' : (k : Int) < 0 ∨ (n0 : Int) < k + (8 : Nat) := by omega
      go_enter Try.func7, Try.ntmps7
      go_wp2_with fail
      refine (awake02 _ _ hg).mono ?_; clear hg; rintro e w ⟨rfl, hg⟩
      have hb' := hb.stay hg
      go_wp2_with fail
      refine (le32_yes _ _ _ _ _ _ _ hb' hk4).mono ?_; rintro e w' ⟨rfl, rfl⟩
      go_wp2_with fail
      refine (le64_no _ _ _ _ _ (by omega) c2' hn).mono ?_; rintro e w' ⟨rfl, rfl⟩
      go_wp2_with fail
      refine (there_yes _ _ _ _ 4 _ (by omega) hk4).mono ?_; rintro e w' ⟨rfl, rfl⟩
      go_wp2_with fail
      refine (there_no _ _ _ 8 _ _ (by omega) c2' (by omega)).mono ?_; rintro e w' ⟨rfl, rfl⟩
      go_wp2_with fail
      refine (tail_any _ _ _ _ _ hb').mono ?_; rintro e w' ⟨rfl, rfl⟩
      rw [HT.out]
      go_wp2_with fail
      refine (num_ref _ _ _ _ 0 8 _ hb' (by omega) (by omega)).mono ?_; rintro e w' ⟨rfl, rfl⟩
      go_wp2_with fail
      refine (num_ref _ _ _ _ k 4 _ hb' (by omega) (by omega)).mono ?_; rintro e w' ⟨rfl, rfl⟩
      go_wp2_with fail
      go_ret
      exact ⟨rfl, hg⟩
end Go.Proofs.Ytepphoncljlkoaa
