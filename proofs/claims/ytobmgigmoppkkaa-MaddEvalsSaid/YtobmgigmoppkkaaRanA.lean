/- Contracts of layer 26: firsts. -/
import Derived.Test.YtobmgigmoppkkaaWidN
import Derived.Test.YtobmgigmoppkkaaClass
namespace Go.Bv
open Go Go.RowKit
theorem ceil_cases (n : Nat) (hn : 0 < n) (N : Nat) : (N + (n - 1)) / n = N / n + if N / n * n = N then 0 else 1 := by
  have h1 := Nat.div_add_mod N n
  have h2 := Nat.mod_lt N hn
  have h3 := Nat.mul_comm n (N / n)
  have e : N + (n - 1) = n * (N / n) + (N % n + (n - 1)) := by omega
  rw [e, Nat.mul_add_div hn]
  congr 1
  split
  · rw [Nat.div_eq_of_lt (by omega)]
  · exact Nat.div_eq_of_lt_le (by omega) (by omega)
/-- the first number that is brought to v or more -/
def frst (v m : BitVec 64) (k : Nat) : Nat := (v.toNat * 2 ^ k + (m.toNat - 1)) / m.toNat
theorem pow_le {k : Nat} (h : k ≤ 64) : 2 ^ k ≤ 18446744073709551616 := Nat.pow_le_pow_right (by omega) h
theorem scaled_lt (v : BitVec 64) (k : Nat) (h : k ≤ 64) : v.toNat * 2 ^ k < 2 ^ 128 := by
  have h1 := v.isLt
  have h2 := pow_le h
  calc v.toNat * 2 ^ k ≤ v.toNat * 18446744073709551616 := Nat.mul_le_mul_left _ h2
    _ < 2 ^ 128 := by omega
end Go.Bv
namespace Go.Proofs.Ytobmgigmoppkkaa
open Go.RowKit Go.Bv
set_option linter.unusedVariables false
theorem firsts_r (k : Int) (m : BitVec 64) (w : World) : Calls Try.prog 54 #[.int .i64 k, .int .u64 (W64 m)] w fun e w' =>
    ∃ p q, e = .returned (.func (Fn.func 68) #[] #[.pointer (some ⟨p, 0, none⟩), .pointer (some ⟨q, 0, none⟩)]) ∧
      w'.heap[p]? = some (.cells #[.int .i64 k] 3 (0, 0)) ∧ w'.heap[q]? = some (.cells #[.int .u64 (W64 m)] 22 (0, 0)) ∧ New w w' := by
  have hmf : ∀ (fn : Fn) (first cap : Array Value) (w : World), (Instr.makeFunc fn first cap).run Try.prog w = .ok (.func fn first cap) w := fun _ _ _ _ => rfl
  go_enter Try.func54, Try.ntmps54
  go_wp2
  obtain ⟨h1, h2, h3⟩ : ((w.alloc (.cells #[.int .i64 k] 3)).alloc (.cells #[.int .u64 (W64 m)] 22)).heap[w.heap.size]? = some (.cells #[.int .i64 k] 3) ∧ ((w.alloc (.cells #[.int .i64 k] 3)).alloc (.cells #[.int .u64 (W64 m)] 22)).heap[w.heap.size + 1]? = some (.cells #[.int .u64 (W64 m)] 22) ∧ New w ((w.alloc (.cells #[.int .i64 k] 3)).alloc (.cells #[.int .u64 (W64 m)] 22)) := by
    have e1 : (w.alloc (.cells #[.int .i64 k] 3)).heap.size = w.heap.size + 1 := by simp
    refine ⟨?_, ?_, ((New.refl w).alloc _).alloc _⟩
    · rw [((New.refl (w.alloc (.cells #[.int .i64 k] 3))).alloc _).block _ (by rw [e1]; omega)]; exact heap_alloc_new _ _
    · rw [← e1]; exact heap_alloc_new _ _
  go_ret
  exact ⟨_, _, rfl, h1, h2, h3⟩
set_option maxHeartbeats 2000000 in
theorem first_r (v m : BitVec 64) (k : Nat) (hk : k ≤ 64) (hm : ¬ m = 0#64) (p q : Nat) (w : World) (hp : w.heap[p]? = some (.cells #[.int .i64 (k : Int)] 3 (0, 0))) (hq : w.heap[q]? = some (.cells #[.int .u64 (W64 m)] 22 (0, 0))) :
    Calls Try.prog 68 #[.int .u64 (W64 v), .pointer (some ⟨p, 0, none⟩), .pointer (some ⟨q, 0, none⟩)] w fun e w' => e = .returned (.agg #[.int .u64 (W64 (hiN (frst v m k))), .int .u64 (W64 (loN (frst v m k)))]) ∧ New w w' := by
  have heq := equ128
  have hmp := pos_of_ne hm
  have hml := m.isLt
  have h1 := fun w => shl_n v.toNat k (by have := v.isLt; omega) (by omega) w
  rw [hi_word, lo_word] at h1
  have hN := scaled_lt v k hk
  have hc := ceil_cases m.toNat hmp (v.toNat * 2 ^ k)
  unfold frst
  rw [hc]
  clear hc
  obtain ⟨N, hN1⟩ : ∃ N, v.toNat * 2 ^ k = N := ⟨_, rfl⟩
  rw [hN1] at h1 hN ⊢
  have h2 := fun w => div_n N hN m hm w
  have hQ : N / m.toNat ≤ N := Nat.div_le_self _ _
  have hQm : N / m.toNat * m.toNat ≤ N := Nat.div_mul_le_self _ _
  obtain ⟨Q, hQ1⟩ : ∃ Q, N / m.toNat = Q := ⟨_, rfl⟩
  rw [hQ1] at h2 hQ hQm ⊢
  have h3 := fun w => times_n Q m.toNat (by omega) (by omega) w
  rw [hi_word, lo_word] at h3
  have h4 := fun w => add_n Q 1 (by omega) (by omega) w
  rw [hi_one, lo_one] at h4
  have hi := n_inj (show Q * m.toNat < 2 ^ 128 by omega) hN
  have H1 := Lib.hid h1
  have H2 := Lib.hid h2
  have H3 := Lib.hid h3
  have H4 := Lib.hid h4
  have HQ := Lib.hid hq
  generalize Q * m.toNat = M at *
  clear h1 h2 h3 h4 hN1 hQ1 hQ hQm hml hmp hm hN
  have hz := heap_alloc_new w (.cells #[.int .u64 0, .int .u64 0] 24)
  have HN0 := Lib.hid ((New.refl w).alloc (.cells #[.int .u64 0, .int .u64 0] 24))
  have hsz : (w.alloc (.cells #[.int .u64 0, .int .u64 0] 24)).heap.size = w.heap.size + 1 := by simp
  obtain ⟨w0, hw0⟩ : ∃ w0, w.alloc (.cells #[.int .u64 0, .int .u64 0] 24) = w0 := ⟨_, rfl⟩
  rw [hw0] at HN0 hz hsz
  have HW0 := Lib.hid hw0
  have HZ := Lib.hid hz
  have HSZ := Lib.hid hsz
  have HN := Lib.hid (New.refl w0)
  clear hw0 hz hsz
  have hp0 := (HN0.out.block _ (lt_of_block hp)).trans hp
  have p0 := cell_of_row _ _ 0 _ _ _ hp0
  clear hp0 hp hq
  by_cases hMN : M = N
  · rw [if_pos hMN, Nat.add_zero]
    rw [decide_eq_true hMN] at hi
    clear hMN
    go_enter Try.func68, Try.ntmps68
    go_wp2_with (rw [HW0.out])
    refine (H1.out _).mono ?_
    rintro e w9 ⟨rfl, hn⟩
    replace HN := Lib.hid (HN.out.trans hn)
    clear hn p0
    have hx := heap_alloc_new w9 (.cells #[.int .u64 (W64 (hiN N)), .int .u64 (W64 (loN N))] 24)
    have hn2 := (New.refl w9).alloc (.cells #[.int .u64 (W64 (hiN N)), .int .u64 (W64 (loN N))] 24)
    obtain ⟨wb1, hw2⟩ : ∃ w2, w9.alloc (.cells #[.int .u64 (W64 (hiN N)), .int .u64 (W64 (loN N))] 24) = w2 := ⟨_, rfl⟩
    rw [hw2] at hx hn2
    obtain ⟨q1, hq⟩ : ∃ q, w9.heap.size = q := ⟨_, rfl⟩
    rw [hq] at hx
    have HX1 := Lib.hid hx
    replace HN := Lib.hid (HN.out.trans hn2)
    have HM1 := Lib.hid hn2
    have HE1 := Lib.hid (show w9.alloc (.cells #[.int .u64 (W64 (hiN N)), .int .u64 (W64 (loN N))] 24) = wb1 ∧ w9.heap.size = q1 from ⟨hw2, hq⟩)
    clear hx hn2 hw2 hq
    have hq0 := ((HN0.out.trans HN.out).block _ (lt_of_block HQ.out)).trans HQ.out
    have q0 := cell_of_row _ _ 0 _ _ _ hq0
    have x0 := cell_of_row _ _ 0 _ _ _ HX1.out
    have x1 := cell_of_row _ _ 1 _ _ _ HX1.out
    clear hq0
    go_wp2_with (rw [HE1.out.1, HE1.out.2])
    refine (H2.out _).mono ?_
    rintro e w9 ⟨rfl, hn⟩
    replace HN := Lib.hid (HN.out.trans hn)
    have HM1 := Lib.hid hn
    have hle := HN.out.le
    clear hn q0 x0 x1
    have hx := heap_alloc_new w9 (.cells #[.int .u64 (W64 (hiN Q)), .int .u64 (W64 (loN Q))] 24)
    have hn2 := (New.refl w9).alloc (.cells #[.int .u64 (W64 (hiN Q)), .int .u64 (W64 (loN Q))] 24)
    obtain ⟨wb2, hw2⟩ : ∃ w2, w9.alloc (.cells #[.int .u64 (W64 (hiN Q)), .int .u64 (W64 (loN Q))] 24) = w2 := ⟨_, rfl⟩
    rw [hw2] at hx hn2
    obtain ⟨q2, hq⟩ : ∃ q, w9.heap.size = q := ⟨_, rfl⟩
    rw [hq] at hx
    have HX2 := Lib.hid hx
    replace HN := Lib.hid (HN.out.trans hn2)
    have HM2 := Lib.hid hn2
    have HE2 := Lib.hid (show w9.alloc (.cells #[.int .u64 (W64 (hiN Q)), .int .u64 (W64 (loN Q))] 24) = wb2 ∧ w9.heap.size = q2 from ⟨hw2, hq⟩)
    clear hx hn2 hw2 hq
    have HQB := Lib.hid (show ¬ q2 = w.heap.size ∧ ¬ w.heap.size = q2 ∧ w.heap.size ≤ q2 from by have := HSZ.out; have := HE2.out.2; omega)
    clear hle
    have hq0 := ((HN0.out.trans HN.out).block _ (lt_of_block HQ.out)).trans HQ.out
    have hx1 := ((HM1.out.trans HM2.out).block _ (lt_of_block HX1.out)).trans HX1.out
    have hx2 := HX2.out
    go_wp2_with (rw [HE2.out.1, HE2.out.2])
    refine wp_region_class (fun w' => (w'.heap[q]? = some (.cells #[.int .u64 (W64 m)] 22 (0, 0)) ∧ w'.heap[q1]? = some (.cells #[.int .u64 (W64 (hiN N)), .int .u64 (W64 (loN N))] 24) ∧ w'.heap[q2]? = some (.cells #[.int .u64 (W64 (hiN Q)), .int .u64 (W64 (loN Q))] 24)) ∧ New wb2 w') (by kernel_rfl) (by kernel_rfl) ⟨⟨hq0, hx1, hx2⟩, (New.refl _).drew⟩ ?_
    intro I _ f hall hback
    have HSTEP : Hid (∀ n w', New (f n) w' → ∃ m, w' = f m) := Lib.hid fun n w' hn => hback w' ⟨⟨(hn.block _ (lt_of_block (hall n).1.1)).trans (hall n).1.1, (hn.block _ (lt_of_block (hall n).1.2.1)).trans (hall n).1.2.1, (hn.block _ (lt_of_block (hall n).1.2.2)).trans (hall n).1.2.2⟩, (hall n).2.trans hn⟩
    have HALL := Lib.hid fun n => (hall n).2
    have s0 := fun n => cell_of_row _ _ 0 _ _ _ (hall n).1.1
    have s1 := fun n => cell_of_row _ _ 0 _ _ _ (hall n).1.2.1
    have s2 := fun n => cell_of_row _ _ 1 _ _ _ (hall n).1.2.1
    have s3 := fun n => cell_of_row _ _ 0 _ _ _ (hall n).1.2.2
    have s4 := fun n => cell_of_row _ _ 1 _ _ _ (hall n).1.2.2
    clear hall hback hq0 hx1 hx2
    repeat (go_big_quiet_step (first
      | (go_at_call 47; refine class_new HSTEP.out (H3.out _))))
    refine wpQuiet_nil ?_
    rintro w9 ⟨n1, hw1⟩
    have hS := HALL.out n1
    rw [← hw1] at hS
    have hx2 := (hS.block _ (lt_of_block HX2.out)).trans HX2.out
    have x0 := cell_of_row _ _ 0 _ _ _ hx2
    have x1 := cell_of_row _ _ 1 _ _ _ hx2
    have xf : ∀ i, w9.frozen? ⟨q2, i, none⟩ = false := fun i => frozen_of_row _ _ _ _ _ hx2
    have HX2 := Lib.hid hx2
    replace HN := Lib.hid (HN.out.trans hS)
    clear HALL HSTEP hw1 hS s0 s1 s2 s3 s4 hx2
    have hb := (HN.out.block _ (lt_of_block HZ.out)).trans HZ.out
    have k0 := cell_of_row _ _ 0 _ _ _ hb
    have k1 := cell_of_row _ _ 1 _ _ _ hb
    have kf : ∀ i, w9.frozen? ⟨w.heap.size, i, none⟩ = false := fun i => frozen_of_row _ _ _ _ _ hb
    clear hb
    go_wp2
    refine bodyPost_ret (by simp [results, Try.results68, go_sem, k0, k1]; try rfl) rfl ?_
    exact ⟨rfl, ((HN0.out.trans HN.out).setCell (Nat.le_refl _) _).setCell (Nat.le_refl _) _⟩
  · rw [if_neg hMN]
    rw [decide_eq_false hMN] at hi
    clear hMN
    go_enter Try.func68, Try.ntmps68
    go_wp2_with (rw [HW0.out])
    refine (H1.out _).mono ?_
    rintro e w9 ⟨rfl, hn⟩
    replace HN := Lib.hid (HN.out.trans hn)
    clear hn p0
    have hx := heap_alloc_new w9 (.cells #[.int .u64 (W64 (hiN N)), .int .u64 (W64 (loN N))] 24)
    have hn2 := (New.refl w9).alloc (.cells #[.int .u64 (W64 (hiN N)), .int .u64 (W64 (loN N))] 24)
    obtain ⟨wb1, hw2⟩ : ∃ w2, w9.alloc (.cells #[.int .u64 (W64 (hiN N)), .int .u64 (W64 (loN N))] 24) = w2 := ⟨_, rfl⟩
    rw [hw2] at hx hn2
    obtain ⟨q1, hq⟩ : ∃ q, w9.heap.size = q := ⟨_, rfl⟩
    rw [hq] at hx
    have HX1 := Lib.hid hx
    replace HN := Lib.hid (HN.out.trans hn2)
    have HM1 := Lib.hid hn2
    have HE1 := Lib.hid (show w9.alloc (.cells #[.int .u64 (W64 (hiN N)), .int .u64 (W64 (loN N))] 24) = wb1 ∧ w9.heap.size = q1 from ⟨hw2, hq⟩)
    clear hx hn2 hw2 hq
    have hq0 := ((HN0.out.trans HN.out).block _ (lt_of_block HQ.out)).trans HQ.out
    have q0 := cell_of_row _ _ 0 _ _ _ hq0
    have x0 := cell_of_row _ _ 0 _ _ _ HX1.out
    have x1 := cell_of_row _ _ 1 _ _ _ HX1.out
    clear hq0
    go_wp2_with (rw [HE1.out.1, HE1.out.2])
    refine (H2.out _).mono ?_
    rintro e w9 ⟨rfl, hn⟩
    replace HN := Lib.hid (HN.out.trans hn)
    have HM1 := Lib.hid hn
    have hle := HN.out.le
    clear hn q0 x0 x1
    have hx := heap_alloc_new w9 (.cells #[.int .u64 (W64 (hiN Q)), .int .u64 (W64 (loN Q))] 24)
    have hn2 := (New.refl w9).alloc (.cells #[.int .u64 (W64 (hiN Q)), .int .u64 (W64 (loN Q))] 24)
    obtain ⟨wb2, hw2⟩ : ∃ w2, w9.alloc (.cells #[.int .u64 (W64 (hiN Q)), .int .u64 (W64 (loN Q))] 24) = w2 := ⟨_, rfl⟩
    rw [hw2] at hx hn2
    obtain ⟨q2, hq⟩ : ∃ q, w9.heap.size = q := ⟨_, rfl⟩
    rw [hq] at hx
    have HX2 := Lib.hid hx
    replace HN := Lib.hid (HN.out.trans hn2)
    have HM2 := Lib.hid hn2
    have HE2 := Lib.hid (show w9.alloc (.cells #[.int .u64 (W64 (hiN Q)), .int .u64 (W64 (loN Q))] 24) = wb2 ∧ w9.heap.size = q2 from ⟨hw2, hq⟩)
    clear hx hn2 hw2 hq
    have HQB := Lib.hid (show ¬ q2 = w.heap.size ∧ ¬ w.heap.size = q2 ∧ w.heap.size ≤ q2 from by have := HSZ.out; have := HE2.out.2; omega)
    clear hle
    have hq0 := ((HN0.out.trans HN.out).block _ (lt_of_block HQ.out)).trans HQ.out
    have hx1 := ((HM1.out.trans HM2.out).block _ (lt_of_block HX1.out)).trans HX1.out
    have hx2 := HX2.out
    go_wp2_with (rw [HE2.out.1, HE2.out.2])
    refine wp_region_class (fun w' => (w'.heap[q]? = some (.cells #[.int .u64 (W64 m)] 22 (0, 0)) ∧ w'.heap[q1]? = some (.cells #[.int .u64 (W64 (hiN N)), .int .u64 (W64 (loN N))] 24) ∧ w'.heap[q2]? = some (.cells #[.int .u64 (W64 (hiN Q)), .int .u64 (W64 (loN Q))] 24)) ∧ New wb2 w') (by kernel_rfl) (by kernel_rfl) ⟨⟨hq0, hx1, hx2⟩, (New.refl _).drew⟩ ?_
    intro I _ f hall hback
    have HSTEP : Hid (∀ n w', New (f n) w' → ∃ m, w' = f m) := Lib.hid fun n w' hn => hback w' ⟨⟨(hn.block _ (lt_of_block (hall n).1.1)).trans (hall n).1.1, (hn.block _ (lt_of_block (hall n).1.2.1)).trans (hall n).1.2.1, (hn.block _ (lt_of_block (hall n).1.2.2)).trans (hall n).1.2.2⟩, (hall n).2.trans hn⟩
    have HALL := Lib.hid fun n => (hall n).2
    have s0 := fun n => cell_of_row _ _ 0 _ _ _ (hall n).1.1
    have s1 := fun n => cell_of_row _ _ 0 _ _ _ (hall n).1.2.1
    have s2 := fun n => cell_of_row _ _ 1 _ _ _ (hall n).1.2.1
    have s3 := fun n => cell_of_row _ _ 0 _ _ _ (hall n).1.2.2
    have s4 := fun n => cell_of_row _ _ 1 _ _ _ (hall n).1.2.2
    clear hall hback hq0 hx1 hx2
    repeat (go_big_quiet_step (first
      | (go_at_call 47; refine class_new HSTEP.out (H3.out _))))
    refine wpQuiet_nil ?_
    rintro w9 ⟨n1, hw1⟩
    have hS := HALL.out n1
    rw [← hw1] at hS
    have hx2 := (hS.block _ (lt_of_block HX2.out)).trans HX2.out
    have x0 := cell_of_row _ _ 0 _ _ _ hx2
    have x1 := cell_of_row _ _ 1 _ _ _ hx2
    have xf : ∀ i, w9.frozen? ⟨q2, i, none⟩ = false := fun i => frozen_of_row _ _ _ _ _ hx2
    have HX2 := Lib.hid hx2
    replace HN := Lib.hid (HN.out.trans hS)
    clear HALL HSTEP hw1 hS s0 s1 s2 s3 s4 hx2
    go_wp2_with fail
    refine (H4.out _).mono ?_
    rintro e w9 ⟨rfl, hn⟩
    replace HN := Lib.hid (HN.out.trans hn)
    have hx2 := (hn.block _ (lt_of_block HX2.out)).trans HX2.out
    clear xf x0 x1
    have x0 := cell_of_row _ _ 0 _ _ _ hx2
    have x1 := cell_of_row _ _ 1 _ _ _ hx2
    have xf : ∀ i, w9.frozen? ⟨q2, i, none⟩ = false := fun i => frozen_of_row _ _ _ _ _ hx2
    clear hn hx2
    have hb := (HN.out.block _ (lt_of_block HZ.out)).trans HZ.out
    have k0 := cell_of_row _ _ 0 _ _ _ hb
    have k1 := cell_of_row _ _ 1 _ _ _ hb
    have kf : ∀ i, w9.frozen? ⟨w.heap.size, i, none⟩ = false := fun i => frozen_of_row _ _ _ _ _ hb
    clear hb
    have hqb := HQB.out.1
    have hqc := HQB.out.2.1
    go_wp2
    refine bodyPost_ret (by simp [results, Try.results68, go_sem, k0, k1]; try rfl) rfl ?_
    have hqe := HQB.out.2.2
    exact ⟨rfl, ((((HN0.out.trans HN.out).setCell hqe _).setCell hqe _).setCell (Nat.le_refl _) _).setCell (Nat.le_refl _) _⟩
end Go.Proofs.Ytobmgigmoppkkaa
