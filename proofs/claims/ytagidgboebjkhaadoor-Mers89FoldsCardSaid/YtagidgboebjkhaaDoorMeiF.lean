/- Contracts of mers89's Pow and Inv: for all numbers. -/
import Derived.Test.YtagidgboebjkhaaDoorMeiE
namespace Go.Bv
open Go Go.RowKit
theorem m89_one : m89 1 = 1#128 := by decide +kernel
theorem ohi : W64 (hi128 1#128) = 0 := by unfold W64; decide +kernel
theorem olo : W64 (lo128 1#128) = 1 := by unfold W64; decide +kernel
theorem thi : W64 (hi128 2#128) = 0 := by unfold W64; decide +kernel
theorem tlo : W64 (lo128 2#128) = 2 := by unfold W64; decide +kernel
theorem low_bit9 (y : BitVec 128) : (lo128 y &&& 1#64 == 1#64) = decide (y.toNat % 2 = 1) := by
  rw [Bool.eq_iff_iff, beq_iff_eq, decide_eq_true_eq]
  have h : (lo128 y &&& 1#64).toNat = y.toNat % 2 := by
    rw [BitVec.toNat_and, show (1#64).toNat = 2 ^ 1 - 1 from rfl, Nat.and_two_pow_sub_one_eq_mod]
    unfold lo128
    rw [BitVec.toNat_setWidth]; omega
  constructor
  · intro e; rw [← h, e]; rfl
  · intro e; apply BitVec.eq_of_toNat_eq; rw [h, e]; rfl
theorem bit_step9 (n : BitVec 128) (k : Nat) (y : BitVec 128) (hy : n >>> k = y) : n.toNat % 2 ^ (k + 1) = n.toNat % 2 ^ k + 2 ^ k * (y.toNat % 2) := by
  rw [← hy, BitVec.toNat_ushiftRight, Nat.shiftRight_eq_div_pow, Nat.pow_succ, Nat.mod_mul]
/-- what holds at the head of a round of Pow -/
structure Pow9 (W w : World) (b b5 : Nat) (t : TypeId) (a e : BitVec 128) (k : Nat) (ak : BitVec 128) : Prop where
  ba : B2 w b t ak
  be : B2 w (b + 1) t (e >>> k)
  bz : Z2 w (b + 1 + 1) t
  bp : B2 w b5 t (m89 (a.toNat ^ (e.toNat % 2 ^ k)))
  new : New W w
  cong : ak.toNat % 618970019642690137449562111 = a.toNat ^ (2 ^ k) % 618970019642690137449562111
theorem sq_cong {a k x : Nat} (h : x % 618970019642690137449562111 = a ^ (2 ^ k) % 618970019642690137449562111) : (m89 (x * x)).toNat % 618970019642690137449562111 = a ^ (2 ^ (k + 1)) % 618970019642690137449562111 := by
  rw [m89_nat, Nat.mod_mod, Nat.mul_mod, h, ← Nat.mul_mod, ← Nat.pow_add, Nat.pow_succ]
  congr 2; omega
theorem pow_on {a e k x : Nat} (h : x % 618970019642690137449562111 = a ^ (2 ^ k) % 618970019642690137449562111) (N : Nat) (hN : N = e + 2 ^ k * 1) : m89 ((m89 (a ^ e)).toNat * x) = m89 (a ^ N) := by
  apply m89_congr
  rw [m89_nat, Nat.mul_mod, Nat.mod_mod, h, ← Nat.mul_mod, ← Nat.pow_add, hN, Nat.mul_one]
end Go.Bv
namespace Go.Proofs.YtagidgboebjkhaaDoor
open Go.RowKit Go.Bv
set_option linter.unusedVariables false
set_option maxHeartbeats 4000000 in
theorem pow_89 (a n : BitVec 128) (w : World) : Calls Tryd.prog 29 #[.agg #[.int .u64 (W64 (hi128 a)), .int .u64 (W64 (lo128 a))], .agg #[.int .u64 (W64 (hi128 n)), .int .u64 (W64 (lo128 n))]] w fun e w' => e = .returned (.agg #[.int .u64 (W64 (hi128 (m89 (a.toNat ^ n.toNat)))), .int .u64 (W64 (lo128 (m89 (a.toNat ^ n.toNat))))]) ∧ New w w' := by
  obtain ⟨h1, h2, h3, h4⟩ := three_blocks w (.cells #[.int .u64 (W64 (hi128 a)), .int .u64 (W64 (lo128 a))] 26) (.cells #[.int .u64 (W64 (hi128 n)), .int .u64 (W64 (lo128 n))] 26) (.cells #[.int .u64 0, .int .u64 0] 26)
  have h5 := heap_alloc_new (((w.alloc (.cells #[.int .u64 (W64 (hi128 a)), .int .u64 (W64 (lo128 a))] 26)).alloc (.cells #[.int .u64 (W64 (hi128 n)), .int .u64 (W64 (lo128 n))] 26)).alloc (.cells #[.int .u64 0, .int .u64 0] 26)) (.cells #[.int .u64 0, .int .u64 1] 26)
  have hn5 := (New.refl (((w.alloc (.cells #[.int .u64 (W64 (hi128 a)), .int .u64 (W64 (lo128 a))] 26)).alloc (.cells #[.int .u64 (W64 (hi128 n)), .int .u64 (W64 (lo128 n))] 26)).alloc (.cells #[.int .u64 0, .int .u64 0] 26))).alloc (.cells #[.int .u64 0, .int .u64 1] 26)
  have hst : Pow9 w ((((w.alloc (.cells #[.int .u64 (W64 (hi128 a)), .int .u64 (W64 (lo128 a))] 26)).alloc (.cells #[.int .u64 (W64 (hi128 n)), .int .u64 (W64 (lo128 n))] 26)).alloc (.cells #[.int .u64 0, .int .u64 0] 26)).alloc (.cells #[.int .u64 0, .int .u64 1] 26)) w.heap.size (w.heap.size + 1 + 1 + 1) 26 a n 0 a := by
    refine ⟨(show B2 _ _ _ a from h1).stay hn5, ?_, (show Z2 _ _ _ from h3).stay hn5, ?_, h4.trans hn5, by rw [Nat.pow_zero, Nat.pow_one]⟩
    · rw [BitVec.ushiftRight_zero]; exact (show B2 _ _ _ n from h2).stay hn5
    · rw [Nat.pow_zero, Nat.mod_one, Nat.pow_zero, m89_one]
      unfold B2; rw [ohi, olo]
      simpa using h5
  have HST := Lib.hid hst
  clear h1 h2 h3 h4 h5 hn5 hst
  go_enter Tryd.func29, Tryd.ntmps29
  go_wp2_with fail
  generalize (((w.alloc (.cells #[.int .u64 (W64 (hi128 a)), .int .u64 (W64 (lo128 a))] 26)).alloc (.cells #[.int .u64 (W64 (hi128 n)), .int .u64 (W64 (lo128 n))] 26)).alloc (.cells #[.int .u64 0, .int .u64 0] 26)).alloc (.cells #[.int .u64 0, .int .u64 1] 26) = w2 at *
  go_loopw [7] (fun _ wr => ∃ (k : Nat) (ak : BitVec 128), Pow9 w wr w.heap.size (w.heap.size + 1 + 1 + 1) 26 a n k ak) (fun _ wr => num2 wr (w.heap.size + 1))
  case atStart => exact ⟨0, a, HST.out⟩
  case round =>
    clear HST
    obtain ⟨k, ak, ha, he, hz0, hp, hnew, hcong⟩ := hrel
    obtain ⟨y, hy⟩ : ∃ y, n >>> k = y := ⟨_, rfl⟩
    rw [hy] at he
    obtain ⟨p, hpp⟩ : ∃ p, m89 (a.toNat ^ (n.toNat % 2 ^ k)) = p := ⟨_, rfl⟩
    rw [hpp] at hp
    have n0 := he.c0
    have n1 := he.c1
    have heq := fun w => equ_x w y 0#128
    rw [zhi, zlo] at heq
    have HA := Lib.hid ha
    have HEB := Lib.hid he
    have HZ := Lib.hid hz0
    have HP := Lib.hid hp
    have HNEW := Lib.hid hnew
    have HCONG := Lib.hid hcong
    have HY := Lib.hid hy
    have HPP := Lib.hid hpp
    have hnum := HEB.out.num
    clear ha he hz0 hp hnew hcong hy hpp
    by_cases h0 : y = 0#128
    · subst h0
      rw [BEq.rfl] at heq
      have HE : Hid (p = m89 (a.toNat ^ n.toNat)) := Lib.hid (by
        rw [← HPP.out]
        have := congrArg BitVec.toNat HY.out
        rw [BitVec.toNat_ushiftRight, Nat.shiftRight_eq_div_pow] at this
        rw [Nat.mod_eq_of_lt ((Nat.div_eq_zero_iff_lt (Nat.two_pow_pos k)).1 this)])
      have p0 := HP.out.c0
      have p1 := HP.out.c1
      have k0 := HZ.out.c0
      have k1 := HZ.out.c1
      have kf := HZ.out.free
      go_wp2
      refine bodyPost_ret (by simp [results, Tryd.results29, go_sem, k0, k1]; try rfl) rfl ?_
      rw [← HE.out]
      exact ⟨rfl, put2_new _ HNEW.out (by omega)⟩
    · have h0b : (y == 0#128) = false := beq_false_of_ne h0
      rw [h0b] at heq
      have HH0 := Lib.hid h0
      clear h0 h0b
      have HSQ := Lib.hid (fun w => mul_89 ak ak w)
      have HSH := Lib.hid (fun w => wshr_x y 1 (by omega) 1 rfl w)
      have HCG := Lib.hid (sq_cong HCONG.out)
      obtain ⟨a2, ha2⟩ : ∃ z, m89 (ak.toNat * ak.toNat) = z := ⟨_, rfl⟩
      rw [ha2] at HSQ HCG
      clear ha2
      have a0 := HA.out.c0
      have a1 := HA.out.c1
      rcases hb : (lo128 y &&& 1#64 == 1#64)
      · have hbit : n.toNat % 2 ^ (k + 1) = n.toNat % 2 ^ k := by
          have h := hb
          rw [low_bit9, decide_eq_false_iff_not] at h
          rw [bit_step9 n k y HY.out, show y.toNat % 2 = 0 by omega]; omega
        have HB3 : Hid (p = m89 (a.toNat ^ (n.toNat % 2 ^ (k + 1)))) := Lib.hid (by rw [hbit, HPP.out])
        clear hbit
        have HP3 := HP
        have HZ3 := HZ
        have HN3 := HNEW
        have HE3 := HEB
        have HA3 := HA
        go_wp2_with fail
        refine (HSQ.out _).mono ?_
        rintro e w3 ⟨rfl, hn3⟩
        have ha4 := HA3.out.stay hn3
        have a0 := ha4.c0
        have a1 := ha4.c1
        have af := ha4.free
        have hO := fun j hj => put2_other (w := w3) (b := w.heap.size) (k := j) a2 hj
        have HA5 := Lib.hid (B2.put a2 ha4)
        have HE5 := Lib.hid (show B2 _ _ _ y from (hO (w.heap.size + 1) (by omega)).trans (HE3.out.stay hn3))
        have HZ5 := Lib.hid (show Z2 _ _ _ from (hO (w.heap.size + 1 + 1) (by omega)).trans (HZ3.out.stay hn3))
        have HP5 := Lib.hid (show B2 _ _ _ _ from (hO (w.heap.size + 1 + 1 + 1) (by omega)).trans (HP3.out.stay hn3))
        have HN5 := Lib.hid (put2_new (b := w.heap.size) a2 (HN3.out.trans hn3) (Nat.le_refl _))
        have n0 := (HE3.out.stay hn3).c0
        have n1 := (HE3.out.stay hn3).c1
        clear hO ha4 hn3
        go_wp2_with fail
        clear a0 a1 af n0 n1
        generalize (w3.setCell ⟨w.heap.size, 0, none⟩ (.int .u64 (W64 (hi128 a2)))).setCell ⟨w.heap.size, 1, none⟩ (.int .u64 (W64 (lo128 a2))) = w5 at *
        refine (HSH.out _).mono ?_
        rintro e w6 ⟨rfl, hn6⟩
        have he6 := HE5.out.stay hn6
        have n0 := he6.c0
        have n1 := he6.c1
        have nf := he6.free
        have HE6 := Lib.hid he6
        have HN6 := Lib.hid hn6
        clear he6 hn6
        go_wp2
        refine ⟨⟨k + 1, a2, ?_⟩, ?_⟩
        · have hsh : y >>> 1 = n >>> (k + 1) := by rw [← HY.out, BitVec.shiftRight_add]
          have hbox := B2.put (y >>> 1) HE6.out
          have hother := fun j hj => put2_other (w := w6) (b := w.heap.size + 1) (k := j) (y >>> 1) hj
          rw [hsh] at hbox hother ⊢
          exact ⟨(hother _ (by omega)).trans (HA5.out.stay HN6.out), hbox, (hother _ (by omega)).trans (HZ5.out.stay HN6.out), by rw [← HB3.out]; exact (hother _ (by omega)).trans (HP5.out.stay HN6.out), put2_new _ (HN5.out.trans HN6.out) (by omega), HCG.out⟩
        · rw [(B2.put (y >>> 1) HE6.out).num, hnum]
          have h1 : y.toNat ≠ 0 := fun h => HH0.out (BitVec.eq_of_toNat_eq (by rw [h]; rfl))
          rw [BitVec.toNat_ushiftRight, Nat.shiftRight_eq_div_pow]
          omega
      · have hbit : n.toNat % 2 ^ (k + 1) = n.toNat % 2 ^ k + 2 ^ k * 1 := by
          have h := hb
          rw [low_bit9, decide_eq_true_eq] at h
          rw [bit_step9 n k y HY.out, h]
        have hpm := pow_on HCONG.out _ hbit
        rw [HPP.out] at hpm
        have HMU := Lib.hid (fun w => mul_89 p ak w)
        rw [hpm] at HMU
        obtain ⟨q, hq⟩ : ∃ q, m89 (a.toNat ^ (n.toNat % 2 ^ (k + 1))) = q := ⟨_, rfl⟩
        rw [hq] at HMU
        have HB3 : Hid (q = m89 (a.toNat ^ (n.toNat % 2 ^ (k + 1)))) := Lib.hid hq.symm
        clear hbit hpm hq
        have p0 := HP.out.c0
        have p1 := HP.out.c1
        go_wp2_with fail
        refine (HMU.out _).mono ?_
        rintro e w9 ⟨rfl, hn9⟩
        have hp9 := HP.out.stay hn9
        have p0 := hp9.c0
        have p1 := hp9.c1
        have pf := hp9.free
        have a0 := (HA.out.stay hn9).c0
        have a1 := (HA.out.stay hn9).c1
        have hO := fun j hj => put2_other (w := w9) (b := w.heap.size + 1 + 1 + 1) (k := j) q hj
        have HP3 := Lib.hid (B2.put q hp9)
        have HZ3 := Lib.hid (show Z2 _ _ _ from (hO (w.heap.size + 1 + 1) (by omega)).trans (HZ.out.stay hn9))
        have HE3 := Lib.hid (show B2 _ _ _ y from (hO (w.heap.size + 1) (by omega)).trans (HEB.out.stay hn9))
        have HA3 := Lib.hid (show B2 _ _ _ ak from (hO w.heap.size (by omega)).trans (HA.out.stay hn9))
        have HN3 := Lib.hid (put2_new (b := w.heap.size + 1 + 1 + 1) q (HNEW.out.trans hn9) (by omega))
        clear hO hp9 hn9
        go_wp2_with fail
        clear p0 p1 pf a0 a1
        generalize (w9.setCell ⟨w.heap.size + 1 + 1 + 1, 0, none⟩ (.int .u64 (W64 (hi128 q)))).setCell ⟨w.heap.size + 1 + 1 + 1, 1, none⟩ (.int .u64 (W64 (lo128 q))) = wq at *
        refine (HSQ.out _).mono ?_
        rintro e w3 ⟨rfl, hn3⟩
        have ha4 := HA3.out.stay hn3
        have a0 := ha4.c0
        have a1 := ha4.c1
        have af := ha4.free
        have hO := fun j hj => put2_other (w := w3) (b := w.heap.size) (k := j) a2 hj
        have HA5 := Lib.hid (B2.put a2 ha4)
        have HE5 := Lib.hid (show B2 _ _ _ y from (hO (w.heap.size + 1) (by omega)).trans (HE3.out.stay hn3))
        have HZ5 := Lib.hid (show Z2 _ _ _ from (hO (w.heap.size + 1 + 1) (by omega)).trans (HZ3.out.stay hn3))
        have HP5 := Lib.hid (show B2 _ _ _ _ from (hO (w.heap.size + 1 + 1 + 1) (by omega)).trans (HP3.out.stay hn3))
        have HN5 := Lib.hid (put2_new (b := w.heap.size) a2 (HN3.out.trans hn3) (Nat.le_refl _))
        have n0 := (HE3.out.stay hn3).c0
        have n1 := (HE3.out.stay hn3).c1
        clear hO ha4 hn3
        go_wp2_with fail
        clear a0 a1 af n0 n1
        generalize (w3.setCell ⟨w.heap.size, 0, none⟩ (.int .u64 (W64 (hi128 a2)))).setCell ⟨w.heap.size, 1, none⟩ (.int .u64 (W64 (lo128 a2))) = w5 at *
        refine (HSH.out _).mono ?_
        rintro e w6 ⟨rfl, hn6⟩
        have he6 := HE5.out.stay hn6
        have n0 := he6.c0
        have n1 := he6.c1
        have nf := he6.free
        have HE6 := Lib.hid he6
        have HN6 := Lib.hid hn6
        clear he6 hn6
        go_wp2
        refine ⟨⟨k + 1, a2, ?_⟩, ?_⟩
        · have hsh : y >>> 1 = n >>> (k + 1) := by rw [← HY.out, BitVec.shiftRight_add]
          have hbox := B2.put (y >>> 1) HE6.out
          have hother := fun j hj => put2_other (w := w6) (b := w.heap.size + 1) (k := j) (y >>> 1) hj
          rw [hsh] at hbox hother ⊢
          exact ⟨(hother _ (by omega)).trans (HA5.out.stay HN6.out), hbox, (hother _ (by omega)).trans (HZ5.out.stay HN6.out), by rw [← HB3.out]; exact (hother _ (by omega)).trans (HP5.out.stay HN6.out), put2_new _ (HN5.out.trans HN6.out) (by omega), HCG.out⟩
        · rw [(B2.put (y >>> 1) HE6.out).num, hnum]
          have h1 : y.toNat ≠ 0 := fun h => HH0.out (BitVec.eq_of_toNat_eq (by rw [h]; rfl))
          rw [BitVec.toNat_ushiftRight, Nat.shiftRight_eq_div_pow]
          omega
end Go.Proofs.YtagidgboebjkhaaDoor
