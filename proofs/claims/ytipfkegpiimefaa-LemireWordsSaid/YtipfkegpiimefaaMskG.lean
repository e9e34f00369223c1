/- Contracts of layer 39: Each, of the program and of the document. -/
import Derived.Test.YtipfkegpiimefaaMskC
import Derived.Test.YtipfkegpiimefaaWidH
namespace Go.Bv
open Go Go.RowKit
/-- how many words are taken for each number, and its two halves -/
def eachM (n : BitVec 64) : Nat := if n = 0#64 then 0 else 1 * 2 ^ (64 - bitsM n)
def eachHi (n : BitVec 64) : BitVec 64 := BitVec.ofNat 64 (eachM n / 2 ^ 64)
def eachLo (n : BitVec 64) : BitVec 64 := BitVec.ofNat 64 (eachM n)
theorem eachM_lt (n : BitVec 64) : eachM n < 2 ^ 128 := by
  unfold eachM
  split
  · exact Nat.two_pow_pos 128
  · rw [Nat.one_mul]; exact (Nat.pow_lt_pow_iff_right (by omega)).2 (by omega)
theorem two_each (n : BitVec 64) : two (eachHi n) (eachLo n) = eachM n := by
  have h := eachM_lt n
  unfold two eachHi eachLo
  rw [BitVec.toNat_ofNat, BitVec.toNat_ofNat]
  omega
theorem each_zero : eachHi 0#64 = 0#64 ∧ eachLo 0#64 = 0#64 := by
  unfold eachHi eachLo eachM; rw [if_pos rfl]; exact ⟨rfl, rfl⟩
theorem two_unit : two 0#64 1#64 = 1 := by unfold two; rfl
end Go.Bv
namespace Go.Proofs.Ytipfkegpiimefaa
open Go.RowKit Go.Bv
set_option linter.unusedVariables false
theorem one_bit (w : World) : ZRow (w.alloc (.cells #[.int .i64 1] 3)) (some ⟨w.heap.size, 0, none⟩) 1 1 (bitsOf 1 1) where
  len_eq := rfl
  le := Nat.le_refl _
  most := by omega
  room := by omega
  none := fun e => by cases e
  cell := fun b off e i hi => by
    cases e
    obtain rfl : i = 0 := by omega
    exact cell_of_row _ _ 0 _ _ _ (heap_alloc_new w _)
  spot := fun x e h0 => by cases e; rfl
  old := fun x e h0 => by cases e; simp
  wf := bitsOf_wf _ _
set_option maxHeartbeats 1000000 in
theorem power_w (P k : Nat) (hP : 1 * 2 ^ k = P) (hk : k ≤ 64) (hlt : P < 2 ^ 128) (y1 y0 : BitVec 64) (e1 : BitVec.ofNat 64 (P / 2 ^ 64) = y1) (e0 : BitVec.ofNat 64 P = y0) (w : World) : Calls Try.prog 67 #[.int .i64 (k : Int)] w fun e w' => e = .returned (.agg #[.int .u64 (W64 y1), .int .u64 (W64 y0)]) ∧ New w w' := by
  have hz := heap_alloc_new w (.cells #[.int .u64 0, .int .u64 0] 31)
  have hsz : (w.alloc (.cells #[.int .u64 0, .int .u64 0] 31)).heap.size = w.heap.size + 1 := by simp
  have HN0 := Lib.hid ((New.refl w).alloc (.cells #[.int .u64 0, .int .u64 0] 31))
  generalize hw0 : w.alloc (.cells #[.int .u64 0, .int .u64 0] 31) = w0 at *
  have hsh := bshl_own 1 1 1 k (some ⟨w0.heap.size, 0, none⟩) 128 128 rfl (by omega) (by omega) (w0.alloc (.cells #[.int .i64 1] 3)) (one_bit w0) (by decide)
  rw [hP] at hsh
  rw [hsz] at hsh
  have HSH := Lib.hid hsh
  have HN1 := Lib.hid ((New.refl w0).alloc (.cells #[.int .i64 1] 3))
  have HZ := Lib.hid hz
  have HW0 := Lib.hid hw0
  clear hsh hz hw0 hsz
  have HTO := Lib.hid (fun (w : World) (c : Nat) (a : Option Addr) (hz : ZRow w a 128 c (bitsOf P 128)) => to2_any P 128 c a w hz hlt)
  rw [e1, e0] at HTO
  clear hP hk hlt e1 e0
  go_enter Try.func67, Try.ntmps67
  go_wp2_with fail
  rw [HW0.out]
  refine HSH.out.mono ?_
  rintro e w1 ⟨v, rfl, how, hn⟩
  obtain ⟨a, c, rfl, hzr⟩ := ZRow.of_owns how (by omega) (bitsOf_wf _ _)
  have HN2 := Lib.hid (HN1.out.trans hn)
  have HP := Lib.hid (HTO.out _ _ _ hzr)
  have HN1 := HN2
  clear how hzr hn
  go_wp2_with fail
  refine HP.out.mono ?_
  rintro e w2 ⟨rfl, hn2⟩
  have HN2 := Lib.hid (HN1.out.trans hn2)
  clear hn2
  have hb := (HN2.out.block _ (lt_of_block HZ.out)).trans HZ.out
  have k0 := cell_of_row _ _ 0 _ _ _ hb
  have k1 := cell_of_row _ _ 1 _ _ _ hb
  have kf : ∀ i, w2.frozen? ⟨w.heap.size, i, none⟩ = false := fun i => frozen_of_row _ _ _ _ _ hb
  clear hb
  go_wp2
  refine bodyPost_ret (by simp [results, Try.results67, go_sem, k0, k1]; try rfl) rfl ?_
  exact ⟨rfl, ((HN0.out.trans HN2.out).setCell (Nat.le_refl _) _).setCell (Nat.le_refl _) _⟩
set_option maxHeartbeats 1000000 in
theorem reach_m (n : BitVec 64) (w : World) : Calls Try.prog 37 #[.int .u64 (W64 n)] w fun e w' => e = .returned (.agg #[.int .u64 (W64 (eachHi n)), .int .u64 (W64 (eachLo n))]) ∧ New w w' := by
  have hz := heap_alloc_new w (.cells #[.int .u64 0, .int .u64 0] 31)
  have k0 := cell_of_row _ _ 0 _ _ _ hz
  have k1 := cell_of_row _ _ 1 _ _ _ hz
  have kf : ∀ i, (w.alloc (.cells #[.int .u64 0, .int .u64 0] 31)).frozen? ⟨w.heap.size, i, none⟩ = false := fun i => frozen_of_row _ _ _ _ _ hz
  have HN0 := Lib.hid ((New.refl w).alloc (.cells #[.int .u64 0, .int .u64 0] 31))
  have HZ := Lib.hid hz
  clear hz
  by_cases h : n = 0#64
  · subst h
    rw [each_zero.1, each_zero.2, show W64 0#64 = 0 by decide]
    go_enter Try.func37, Try.ntmps37
    go_wp2
    refine bodyPost_ret (by simp [results, Try.results37, go_sem, k0, k1]; try rfl) rfl ?_
    exact ⟨rfl, HN0.out⟩
  · have hz2 : (W64 n == 0) = false := by
      have := pos_of_ne h
      rw [beq_eq_false_iff_ne]; unfold W64; omega
    have hz3 : (n == 0#64) = false := beq_false_of_ne h
    have hb := bitsM_le n
    have hp := fun w => power_w (eachM n) (64 - bitsM n) (by unfold eachM; rw [if_neg h]) (by omega) (eachM_lt n) (eachHi n) (eachLo n) rfl rfl w
    have hi : ((64 - bitsM n : Nat) : Int) = 64 - ((bitsM n : Nat) : Int) := by omega
    rw [hi] at hp
    have hw : wrap64 (64 - ((bitsM n : Nat) : Int)) = 64 - ((bitsM n : Nat) : Int) := by unfold wrap64; omega
    have HP := Lib.hid hp
    have HB := Lib.hid (rbits_m n)
    generalize eachHi n = y1 at *
    generalize eachLo n = y0 at *
    generalize bitsM n = s at *
    clear hp hi hb h k0 k1 kf
    obtain ⟨w0, hw0⟩ : ∃ w0, w.alloc (.cells #[.int .u64 0, .int .u64 0] 31) = w0 := ⟨_, rfl⟩
    rw [hw0] at HN0 HZ
    have HW0 := Lib.hid hw0
    clear hw0
    go_enter Try.func37, Try.ntmps37
    go_wp2_with fail
    rw [HW0.out]
    refine (HB.out w0).mono ?_
    rintro e w1 ⟨rfl, hn⟩
    have HN1 := Lib.hid hn
    clear hn
    go_wp2_with fail
    refine (HP.out w1).mono ?_
    rintro e w2 ⟨rfl, hn2⟩
    have HN2 := Lib.hid (HN1.out.trans hn2)
    clear hn2
    have hb := (HN2.out.block _ (lt_of_block HZ.out)).trans HZ.out
    have k0 := cell_of_row _ _ 0 _ _ _ hb
    have k1 := cell_of_row _ _ 1 _ _ _ hb
    have kf : ∀ i, w2.frozen? ⟨w.heap.size, i, none⟩ = false := fun i => frozen_of_row _ _ _ _ _ hb
    clear hb
    go_wp2
    refine bodyPost_ret (by simp [results, Try.results37, go_sem, k0, k1]; try rfl) rfl ?_
    exact ⟨rfl, ((HN0.out.trans HN2.out).setCell (Nat.le_refl _) _).setCell (Nat.le_refl _) _⟩
set_option maxHeartbeats 1000000 in
theorem each_m (n : BitVec 64) (w : World) : Calls Try.prog 36 #[.int .u64 (W64 n)] w fun e w' => e = .returned (.agg #[.int .u64 (W64 (eachHi n)), .int .u64 (W64 (eachLo n))]) ∧ New w w' := by
  have hz := heap_alloc_new w (.cells #[.int .u64 0, .int .u64 0] 31)
  have k0 := cell_of_row _ _ 0 _ _ _ hz
  have k1 := cell_of_row _ _ 1 _ _ _ hz
  have kf : ∀ i, (w.alloc (.cells #[.int .u64 0, .int .u64 0] 31)).frozen? ⟨w.heap.size, i, none⟩ = false := fun i => frozen_of_row _ _ _ _ _ hz
  have HN0 := Lib.hid ((New.refl w).alloc (.cells #[.int .u64 0, .int .u64 0] 31))
  have HZ := Lib.hid hz
  clear hz
  by_cases h : n = 0#64
  · subst h
    rw [each_zero.1, each_zero.2, show W64 0#64 = 0 by decide]
    go_enter Try.func36, Try.ntmps36
    go_wp2
    refine bodyPost_ret (by simp [results, Try.results36, go_sem, k0, k1]; try rfl) rfl ?_
    exact ⟨rfl, HN0.out⟩
  · have hz2 : (W64 n == 0) = false := by
      have := pos_of_ne h
      rw [beq_eq_false_iff_ne]; unfold W64; omega
    have hz3 : (n == 0#64) = false := beq_false_of_ne h
    have hb := bitsM_le n
    have hw : wrap64 (64 - ((bitsM n : Nat) : Int)) = 64 - ((bitsM n : Nat) : Int) := by unfold wrap64; omega
    have hp := fun w => wshl_two 0#64 1#64 (64 - ((bitsM n : Nat) : Int)) (64 - bitsM n) (64 - bitsM n) (by omega) (by omega) (by omega) w
    have he : two 0#64 1#64 * 2 ^ (64 - bitsM n) = eachM n := by rw [two_unit]; unfold eachM; rw [if_neg h]
    rw [he, show W64 0#64 = 0 by decide, show W64 1#64 = 1 by decide] at hp
    change ∀ w, Calls Try.prog 66 #[.agg #[.int .u64 0, .int .u64 1], .int .i64 (64 - ((bitsM n : Nat) : Int))] w fun e w' => e = .returned (.agg #[.int .u64 (W64 (eachHi n)), .int .u64 (W64 (eachLo n))]) ∧ New w w' at hp
    clear he
    have HP := Lib.hid hp
    have HB := Lib.hid (bits_m n)
    generalize eachHi n = y1 at *
    generalize eachLo n = y0 at *
    generalize bitsM n = s at *
    clear hp hb h k0 k1 kf
    obtain ⟨w0, hw0⟩ : ∃ w0, w.alloc (.cells #[.int .u64 0, .int .u64 0] 31) = w0 := ⟨_, rfl⟩
    rw [hw0] at HN0 HZ
    have HW0 := Lib.hid hw0
    clear hw0
    go_enter Try.func36, Try.ntmps36
    go_wp2_with fail
    rw [HW0.out]
    refine (HB.out w0).mono ?_
    rintro e w1 ⟨rfl, rfl⟩
    go_wp2_with fail
    refine (HP.out _).mono ?_
    rintro e w2 ⟨rfl, hn2⟩
    have HN2 := Lib.hid hn2
    clear hn2
    have hb := (HN2.out.block _ (lt_of_block HZ.out)).trans HZ.out
    have k0 := cell_of_row _ _ 0 _ _ _ hb
    have k1 := cell_of_row _ _ 1 _ _ _ hb
    have kf : ∀ i, w2.frozen? ⟨w.heap.size, i, none⟩ = false := fun i => frozen_of_row _ _ _ _ _ hb
    clear hb
    go_wp2
    refine bodyPost_ret (by simp [results, Try.results36, go_sem, k0, k1]; try rfl) rfl ?_
    exact ⟨rfl, ((HN0.out.trans HN2.out).setCell (Nat.le_refl _) _).setCell (Nat.le_refl _) _⟩
end Go.Proofs.Ytipfkegpiimefaa
