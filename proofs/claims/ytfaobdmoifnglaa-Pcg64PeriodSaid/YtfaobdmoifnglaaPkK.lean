/- Contract of pcg64.Advance: so many steps, for every state, every increment, every number. -/
import Derived.Test.YtfaobdmoifnglaaPkJ
import Derived.Test.YtfaobdmoifnglaaPkH
import Derived.Test.YtfaobdmoifnglaaAff
namespace Go.Bv
open Go Go.RowKit
/-- the number that two cells of a box hold -/
def num2 (w : World) (b : Nat) : Nat := (intOf ((w.cell? ⟨b, 0, none⟩).getD (.bool false))).toNat * 18446744073709551616 + (intOf ((w.cell? ⟨b, 1, none⟩).getD (.bool false))).toNat
theorem B2.num {w : World} {b : Nat} {t : TypeId} {x : BitVec 128} (h : B2 w b t x) : num2 w b = x.toNat := by
  unfold num2; rw [h.c0, h.c1, ← two_x]; unfold two; simp [intOf, W64]
theorem low_bit (y : BitVec 128) : (lo128 y &&& 1#64 == 1#64) = decide (y.toNat % 2 = 1) := by
  rw [Bool.eq_iff_iff, beq_iff_eq, decide_eq_true_eq]
  have h : (lo128 y &&& 1#64).toNat = y.toNat % 2 := by
    rw [BitVec.toNat_and, show (1#64).toNat = 2 ^ 1 - 1 from rfl, Nat.and_two_pow_sub_one_eq_mod]
    unfold lo128
    rw [BitVec.toNat_setWidth]; omega
  constructor
  · intro e; rw [← h, e]; rfl
  · intro e; apply BitVec.eq_of_toNat_eq; rw [h, e]; rfl
theorem bit_step (n : BitVec 128) (k : Nat) (y : BitVec 128) (hy : n >>> k = y) : n.toNat % 2 ^ (k + 1) = n.toNat % 2 ^ k + 2 ^ k * (y.toNat % 2) := by
  rw [← hy, BitVec.toNat_ushiftRight, Nat.shiftRight_eq_div_pow, Nat.pow_succ, Nat.mod_mul]
theorem bit_off (n : BitVec 128) (k : Nat) (y : BitVec 128) (hy : n >>> k = y) (hb : (lo128 y &&& 1#64 == 1#64) = false) : n.toNat % 2 ^ (k + 1) = n.toNat % 2 ^ k := by
  rw [low_bit, decide_eq_false_iff_not] at hb
  rw [bit_step n k y hy, show y.toNat % 2 = 0 by omega]; omega
theorem bit_on (n : BitVec 128) (k : Nat) (y : BitVec 128) (hy : n >>> k = y) (hb : (lo128 y &&& 1#64 == 1#64) = true) : n.toNat % 2 ^ (k + 1) = n.toNat % 2 ^ k + 2 ^ k * 1 := by
  rw [low_bit, decide_eq_true_eq] at hb
  rw [bit_step n k y hy, hb]
theorem aff_one {w : Nat} (m c : BitVec w) (k : Nat) (u : BitVec w) : aff m c (2 ^ k * 1) u = u * (sq m c k).1 + (sq m c k).2 := by rw [aff_sq]; rfl
theorem sq_next (m p : BitVec 128) : p * m + p = (m + 1) * p := by grind
end Go.Bv
namespace Go.Proofs.Ytfaobdmoifnglaa
open Go.RowKit Go.Bv
set_option linter.unusedVariables false
/-- the memory of Advance behind k bits of the number -/
structure AdvS (W w : World) (b b7 : Nat) (t te : TypeId) (s n c : BitVec 128) (k : Nat) : Prop where
  bs : B2 w b t s
  bn : B2 w (b + 1 + 1) t (n >>> k)
  bz : Z2 w (b + 1 + 1 + 1) t
  tot : ∃ tm tp, E4 w b7 te tm tp ∧ ∀ u, u * tm + tp = aff T14 c (n.toNat % 2 ^ k) u
  pow : E4 w (b7 + 1) te (sq T14 c k).1 (sq T14 c k).2
  new : New W w
set_option maxHeartbeats 2000000 in
theorem advance14 (s x n : BitVec 128) (w : World) : Calls Try.prog 15 #[.agg #[.int .u64 (W64 (hi128 s)), .int .u64 (W64 (lo128 s))], .agg #[.int .u64 (W64 (hi128 x)), .int .u64 (W64 (lo128 x))], .agg #[.int .u64 (W64 (hi128 n)), .int .u64 (W64 (lo128 n))]] w fun e w' =>
    e = .returned (.agg #[.int .u64 (W64 (hi128 (aff T14 (x ||| 1#128) n.toNat s))), .int .u64 (W64 (lo128 (aff T14 (x ||| 1#128) n.toNat s)))]) ∧ New w w' := by
  have hmf : ∀ (fn : Fn) (first cap : Array Value) (w : World), (Instr.makeFunc fn first cap).run Try.prog w = .ok (.func fn first cap) w := fun _ _ _ _ => rfl
  obtain ⟨h1, h2, h3, h4, h5⟩ := four_blocks w (.cells #[.int .u64 (W64 (hi128 s)), .int .u64 (W64 (lo128 s))] 24) (.cells #[.int .u64 (W64 (hi128 x)), .int .u64 (W64 (lo128 x))] 24) (.cells #[.int .u64 (W64 (hi128 n)), .int .u64 (W64 (lo128 n))] 24) (.cells #[.int .u64 0, .int .u64 0] 24)
  have H1 := Lib.hid (show B2 _ _ _ s from h1)
  have H2 := Lib.hid (show B2 _ _ _ x from h2)
  have H3 := Lib.hid (show B2 _ _ _ n from h3)
  have H4 := Lib.hid (show Z2 _ _ _ from h4)
  have H5 := Lib.hid h5
  clear h1 h2 h3 h4 h5
  go_enter Try.func15, Try.ntmps15
  go_wp2_with fail
  generalize (((w.alloc (.cells #[.int .u64 (W64 (hi128 s)), .int .u64 (W64 (lo128 s))] 24)).alloc (.cells #[.int .u64 (W64 (hi128 x)), .int .u64 (W64 (lo128 x))] 24)).alloc (.cells #[.int .u64 (W64 (hi128 n)), .int .u64 (W64 (lo128 n))] 24)).alloc (.cells #[.int .u64 0, .int .u64 0] 24) = w0 at H1 H2 H3 H4 H5 ⊢
  have c0 := H2.out.c0
  have c1 := H2.out.c1
  go_wp2_with fail
  refine (one14 x _).mono ?_
  rintro e w1 ⟨rfl, hn1⟩
  obtain ⟨g7, g8, hn2⟩ := two_blocks w1 (.cells #[.int .u64 0, .int .u64 1, .int .u64 0, .int .u64 0] 44) (.cells #[.int .u64 (W64 (hi128 T14)), .int .u64 (W64 (lo128 T14)), .int .u64 (W64 (hi128 (x ||| 1#128))), .int .u64 (W64 (lo128 (x ||| 1#128)))] 44)
  have hn12 := hn1.trans hn2
  have hle := hn12.le
  have hle0 := H5.out.le
  go_wp2_with fail
  have hst : AdvS w ((w1.alloc (.cells #[.int .u64 0, .int .u64 1, .int .u64 0, .int .u64 0] 44)).alloc (.cells #[.int .u64 (W64 (hi128 T14)), .int .u64 (W64 (lo128 T14)), .int .u64 (W64 (hi128 (x ||| 1#128))), .int .u64 (W64 (lo128 (x ||| 1#128)))] 44)) w.heap.size w1.heap.size 24 44 s n (x ||| 1#128) 0 := by
    refine ⟨H1.out.stay hn12, ?_, H4.out.stay hn12, ⟨1#128, 0#128, ?_, fun u => ?_⟩, g8, H5.out.trans hn12⟩
    · rw [BitVec.ushiftRight_zero]; exact H3.out.stay hn12
    · unfold E4
      rw [one_hi, one_lo, zero_hi, zero_lo]; exact g7
    · rw [Nat.pow_zero, Nat.mod_one]; simp [aff]
  have hb7 : w.heap.size + 1 + 1 + 1 < w1.heap.size := by have := lt_of_block H4.out; have := hn1.le; omega
  have HST := Lib.hid hst
  clear hst g7 g8 hn1 hn2 hn12 hle hle0 c0 c1 H1 H2 H3 H4 H5
  generalize (w1.alloc (.cells #[.int .u64 0, .int .u64 1, .int .u64 0, .int .u64 0] 44)).alloc (.cells #[.int .u64 (W64 (hi128 T14)), .int .u64 (W64 (lo128 T14)), .int .u64 (W64 (hi128 (x ||| 1#128))), .int .u64 (W64 (lo128 (x ||| 1#128)))] 44) = w2 at *
  generalize w1.heap.size = b7 at *
  go_loopw [17] (fun _ wr => ∃ k : Nat, AdvS w wr w.heap.size b7 24 44 s n (x ||| 1#128) k) (fun _ wr => num2 wr (w.heap.size + 1 + 1))
  case atStart => exact ⟨0, HST.out⟩
  case round =>
    clear HST
    obtain ⟨k, hs⟩ := hrel
    have HS := Lib.hid hs
    obtain ⟨hs0, hn0, hz0, ⟨tm, tp, htot, hfact⟩, hpow, hnew⟩ := hs
    obtain ⟨y, hy⟩ : ∃ y, n >>> k = y := ⟨_, rfl⟩
    rw [hy] at hn0
    have n0 := hn0.c0
    have n1 := hn0.c1
    have heq := fun w => equ_x w y 0#128
    rw [zero_hi, zero_lo] at heq
    have HFACT := Lib.hid hfact
    have HTOT := Lib.hid htot
    have HPOW := Lib.hid hpow
    have HY := Lib.hid hy
    have HN0 := Lib.hid hn0
    have HNEW := Lib.hid hnew
    have HS0 := Lib.hid hs0
    have HZ0 := Lib.hid hz0
    have s0 := hs0.c0
    have s1 := hs0.c1
    have hnum := HN0.out.num
    obtain ⟨pm, hpm⟩ : ∃ z, (sq T14 (x ||| 1#128) k).1 = z := ⟨_, rfl⟩
    obtain ⟨pp, hpp⟩ : ∃ z, (sq T14 (x ||| 1#128) k).2 = z := ⟨_, rfl⟩
    rw [hpm, hpp] at HPOW
    have HPM := Lib.hid hpm
    have HPP := Lib.hid hpp
    have p0 := HPOW.out.c0
    have p1 := HPOW.out.c1
    have p2 := HPOW.out.c2
    have p3 := HPOW.out.c3
    clear hfact htot hpow hy hn0 hnew hs0 hz0 hpm hpp HS
    by_cases h0 : y = 0#128
    · subst h0
      rw [BEq.rfl] at heq
      have he : aff T14 (x ||| 1#128) n.toNat s = s * tm + tp := by
        rw [HFACT.out]
        congr 1
        have := congrArg BitVec.toNat HY.out
        rw [BitVec.toNat_ushiftRight, Nat.shiftRight_eq_div_pow] at this
        exact (Nat.mod_eq_of_lt ((Nat.div_eq_zero_iff_lt (Nat.two_pow_pos k)).1 this)).symm
      have HE := Lib.hid he
      clear he
      go_wp2_with fail
      refine (on14 tm tp s _ _ HTOT.out).mono ?_
      rintro e w3 ⟨rfl, hn3⟩
      have hz := HZ0.out.stay hn3
      have k0 := hz.c0
      have k1 := hz.c1
      have kf := hz.free
      have HN3 := Lib.hid (HNEW.out.trans hn3)
      clear hz hn3
      go_wp2
      refine bodyPost_ret (by simp [results, Try.results15, go_sem, k0, k1]; try rfl) rfl ?_
      rw [HE.out]
      exact ⟨rfl, put2_new _ HN3.out (by omega)⟩
    · have h0b : (y == 0#128) = false := beq_false_of_ne h0
      rw [h0b] at heq
      have HH0 := Lib.hid h0
      clear h0 h0b
      rcases hb : (lo128 y &&& 1#64 == 1#64)
      · have hbit : n.toNat % 2 ^ (k + 1) = n.toNat % 2 ^ k := bit_off n k y HY.out hb
        have hf2 : ∀ u, u * tm + tp = aff T14 (x ||| 1#128) (n.toNat % 2 ^ (k + 1)) u := fun u => by rw [hbit]; exact HFACT.out u
        have HF2 := Lib.hid hf2
        clear hbit hf2
        go_wp2_with fail
        refine (double14 pm pp (b7 + 1) _ HPOW.out).mono ?_
        rintro e w3 ⟨rfl, he4, hbut⟩
        have hn3 := HN0.out.but hbut (by omega)
        have hs3 := HS0.out.but hbut (by omega)
        have hz3 := hbut.keep (by omega) HZ0.out
        have ht3 := HTOT.out.but hbut (by omega)
        have HNW3 := Lib.hid (hbut.new w HNEW.out (by omega))
        have n0 := hn3.c0
        have n1 := hn3.c1
        have HN3 := Lib.hid hn3
        have HS3 := Lib.hid hs3
        have HZ3 := Lib.hid hz3
        have HT3 := Lib.hid ht3
        have HP3 := Lib.hid he4
        clear hn3 hs3 hz3 ht3 he4 hbut s0 s1 p0 p1 p2 p3
        go_wp2_with fail
        refine (wshr_x y 1 (by omega) 1 rfl _).mono ?_
        rintro e w4 ⟨rfl, hn4⟩
        have hb4 := HN3.out.stay hn4
        have n0 := hb4.c0
        have n1 := hb4.c1
        have nf := hb4.free
        have HB4 := Lib.hid hb4
        have HN4 := Lib.hid hn4
        clear hb4 hn4
        go_wp2
        refine ⟨⟨k + 1, ?_⟩, ?_⟩
        · have hsh : y >>> 1 = n >>> (k + 1) := by rw [← HY.out, BitVec.shiftRight_add]
          have hbox := B2.put (y >>> 1) HB4.out
          have hother := fun j hj => put2_other (w := w4) (b := w.heap.size + 1 + 1) (k := j) (y >>> 1) hj
          rw [hsh] at hbox hother ⊢
          refine ⟨(hother _ (by omega)).trans (HS3.out.stay HN4.out), hbox, (hother _ (by omega)).trans ((HN4.out.block _ (lt_of_block HZ3.out)).trans HZ3.out), ⟨_, _, (hother _ (by omega)).trans (HT3.out.stay HN4.out), HF2.out⟩, ?_, put2_new _ (HNW3.out.trans HN4.out) (by omega)⟩
          show E4 _ _ _ ((sq T14 (x ||| 1#128) k).1 * (sq T14 (x ||| 1#128) k).1) (((sq T14 (x ||| 1#128) k).1 + 1) * (sq T14 (x ||| 1#128) k).2)
          rw [HPM.out, HPP.out, ← sq_next]
          exact (hother _ (by omega)).trans (HP3.out.stay HN4.out)
        · rw [(B2.put (y >>> 1) HB4.out).num, hnum]
          have h1 : y.toNat ≠ 0 := fun h => HH0.out (BitVec.eq_of_toNat_eq (by rw [h]; rfl))
          rw [BitVec.toNat_ushiftRight, Nat.shiftRight_eq_div_pow]
          omega
      · have hf2 : ∀ u, u * (tm * pm) + (tp * pm + pp) = aff T14 (x ||| 1#128) (n.toNat % 2 ^ (k + 1)) u := fun u => by
          rw [bit_on n k y HY.out hb, aff_add, ← HFACT.out u, ← HPM.out, ← HPP.out, aff_one]; grind
        have HF2 := Lib.hid hf2
        clear hf2
        go_wp2_with fail
        refine (join14 tm tp pm pp b7 _ HTOT.out).mono ?_
        rintro e w9 ⟨rfl, he9, hbut9⟩
        have hp9 := HPOW.out.but hbut9 (by omega)
        have HB9 := Lib.hid hbut9
        have HE9 := Lib.hid he9
        clear he9 hbut9
        go_wp2_with fail
        refine (double14 pm pp (b7 + 1) _ hp9).mono ?_
        rintro e w3 ⟨rfl, he4, hbut⟩
        have hn3 := (HN0.out.but HB9.out (by omega)).but hbut (by omega)
        have hs3 := (HS0.out.but HB9.out (by omega)).but hbut (by omega)
        have hz3 := hbut.keep (by omega) (HB9.out.keep (by omega) HZ0.out)
        have ht3 := HE9.out.but hbut (by omega)
        have HNW3 := Lib.hid (hbut.new w (HB9.out.new w HNEW.out (by omega)) (by omega))
        clear hp9
        have n0 := hn3.c0
        have n1 := hn3.c1
        have HN3 := Lib.hid hn3
        have HS3 := Lib.hid hs3
        have HZ3 := Lib.hid hz3
        have HT3 := Lib.hid ht3
        have HP3 := Lib.hid he4
        clear hn3 hs3 hz3 ht3 he4 hbut s0 s1 p0 p1 p2 p3
        go_wp2_with fail
        refine (wshr_x y 1 (by omega) 1 rfl _).mono ?_
        rintro e w4 ⟨rfl, hn4⟩
        have hb4 := HN3.out.stay hn4
        have n0 := hb4.c0
        have n1 := hb4.c1
        have nf := hb4.free
        have HB4 := Lib.hid hb4
        have HN4 := Lib.hid hn4
        clear hb4 hn4
        go_wp2
        refine ⟨⟨k + 1, ?_⟩, ?_⟩
        · have hsh : y >>> 1 = n >>> (k + 1) := by rw [← HY.out, BitVec.shiftRight_add]
          have hbox := B2.put (y >>> 1) HB4.out
          have hother := fun j hj => put2_other (w := w4) (b := w.heap.size + 1 + 1) (k := j) (y >>> 1) hj
          rw [hsh] at hbox hother ⊢
          refine ⟨(hother _ (by omega)).trans (HS3.out.stay HN4.out), hbox, (hother _ (by omega)).trans ((HN4.out.block _ (lt_of_block HZ3.out)).trans HZ3.out), ⟨_, _, (hother _ (by omega)).trans (HT3.out.stay HN4.out), HF2.out⟩, ?_, put2_new _ (HNW3.out.trans HN4.out) (by omega)⟩
          show E4 _ _ _ ((sq T14 (x ||| 1#128) k).1 * (sq T14 (x ||| 1#128) k).1) (((sq T14 (x ||| 1#128) k).1 + 1) * (sq T14 (x ||| 1#128) k).2)
          rw [HPM.out, HPP.out, ← sq_next]
          exact (hother _ (by omega)).trans (HP3.out.stay HN4.out)
        · rw [(B2.put (y >>> 1) HB4.out).num, hnum]
          have h1 : y.toNat ≠ 0 := fun h => HH0.out (BitVec.eq_of_toNat_eq (by rw [h]; rfl))
          rw [BitVec.toNat_ushiftRight, Nat.shiftRight_eq_div_pow]
          omega
end Go.Proofs.Ytfaobdmoifnglaa
