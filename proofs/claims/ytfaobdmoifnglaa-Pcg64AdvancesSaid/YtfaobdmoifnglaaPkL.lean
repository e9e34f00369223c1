/- Contracts of pcg64.Steps, and of the document's own Steps: how many steps lead from any state to any other one. -/
import Derived.Test.YtfaobdmoifnglaaPkK
import Derived.Test.YtfaobdmoifnglaaPkD
namespace Go.Bv
open Go Go.RowKit
/-- the block of a pointer -/
def blockOf : Value → Nat | .pointer (some a) => a.block | _ => 0
/-- what a round lowers: the bit that is still to come -/
def meas128 (x : Nat) : Nat := if x = 0 then 0 else 2 ^ 128 - x
theorem and_parts (x t p : BitVec 128) : ((hi128 x ^^^ hi128 t) &&& hi128 p ||| (lo128 x ^^^ lo128 t) &&& lo128 p == 0#64) = ((x ^^^ t) &&& p == 0#128) := by
  have h1 : (hi128 x ^^^ hi128 t) &&& hi128 p = hi128 ((x ^^^ t) &&& p) := by
    unfold hi128; apply BitVec.eq_of_getLsbD_eq; intro i hi; simp [hi]
  have h2 : (lo128 x ^^^ lo128 t) &&& lo128 p = lo128 ((x ^^^ t) &&& p) := by
    unfold lo128; apply BitVec.eq_of_getLsbD_eq; intro i hi; simp [hi]
  rw [h1, h2, Bool.eq_iff_iff, beq_iff_eq, beq_iff_eq]
  generalize (x ^^^ t) &&& p = z
  constructor
  · intro h
    have hz := BitVec.or_eq_zero_iff.1 h
    exact ext128 (by rw [hz.1]; rfl) (by rw [hz.2]; rfl)
  · intro h; rw [h]; rfl
theorem P_shl128 (i : Nat) : P 128 i <<< 1 = P 128 (i + 1) := by
  rw [P_succ]; apply BitVec.eq_of_toNat_eq; rw [BitVec.toNat_shiftLeft, BitVec.toNat_mul, Nat.shiftLeft_eq]; rfl
theorem put_other2 {w : World} {b k : Nat} {x y : Value} (hk : k ≠ b) : ((w.setCell ⟨b, 0, none⟩ x).setCell ⟨b, 1, none⟩ y).heap[k]? = w.heap[k]? := by
  rw [heap_setCell_other _ _ _ _ hk, heap_setCell_other _ _ _ _ hk]
end Go.Bv
namespace Go.Proofs.Ytfaobdmoifnglaa
open Go.RowKit Go.Bv
set_option linter.unusedVariables false
theorem T14_form : ∃ a, T14 = 1#128 + 4#128 * a := mod4_form T14 (0x2360ed051fc65da44385df649fccf645 / 4) (by decide +kernel)
theorem c14_form (x : BitVec 128) : ∃ b, x ||| 1#128 = 1#128 + 2#128 * b := or1_form (by omega) x
/-- what holds at the head of a round of pcg64.Steps -/
def Inv14 (c t N : BitVec 128) (i q : Nat) (x a : BitVec 128) : Prop :=
  i ≤ 128 ∧ aff (sq T14 c i).1 (sq T14 c i).2 q x = t ∧ N.toNat = a.toNat + 2 ^ i * q ∧ a.toNat < 2 ^ i
section
variable {c t N : BitVec 128}
theorem inv_q14 {i q : Nat} {x a : BitVec 128} (h : Inv14 c t N i q x a) : q < 2 ^ (128 - i) := by
  obtain ⟨h1, _, h3, _⟩ := h
  have h4 := N.isLt
  have h5 : 2 ^ 128 = 2 ^ i * 2 ^ (128 - i) := by rw [← Nat.pow_add]; congr 1; omega
  have h6 : 2 ^ i * q < 2 ^ i * 2 ^ (128 - i) := by omega
  exact Nat.lt_of_mul_lt_mul_left h6
theorem inv_lt14 {i q : Nat} {x a : BitVec 128} (h : Inv14 c t N i q x a) (hx : x ≠ t) : i < 128 := by
  rcases Nat.lt_or_ge i 128 with h2 | h2
  · exact h2
  · exfalso
    have hq := inv_q14 h
    obtain ⟨h1, h3, _⟩ := h
    have : i = 128 := by omega
    subst this
    have : q = 0 := by simpa using hq
    subst this
    exact hx h3
variable (hc : ∃ b, c = 1#128 + 2#128 * b)
include hc
theorem inv_end14 {i q : Nat} {x a : BitVec 128} (h : Inv14 c t N i q x a) (hi : x = t) : a = N := by
  have hq := inv_q14 h
  obtain ⟨h1, h2, h3, h4⟩ := h
  subst hi
  have hz := aff_fix_at _ _ T14_form hc (128 - i) i (by omega) q hq x h2
  apply BitVec.eq_of_toNat_eq
  rw [h3, hz]; simp
theorem inv_odd14 {i q : Nat} {x a : BitVec 128} (h : Inv14 c t N i q x a) (hx : x ≠ t) (hb : (x ^^^ t) &&& P 128 i ≠ 0#128) :
    Inv14 c t N (i + 1) (q / 2) (x * (sq T14 c i).1 + (sq T14 c i).2) (a + P 128 i) := by
  have hi := inv_lt14 h hx
  obtain ⟨h1, h2, h3, h4⟩ := h
  have hodd : q % 2 = 1 := by
    have := aff_bit _ _ T14_form hc i hi q x t h2
    rcases Nat.mod_two_eq_zero_or_one q with e | e
    · exact absurd (this.2 e) hb
    · exact e
  have hq : q = 2 * (q / 2) + 1 := by omega
  have hl : 2 ^ i * 2 ≤ 2 ^ 128 := by rw [← Nat.pow_succ]; exact Nat.pow_le_pow_right (by omega) (by omega)
  have ha : (a + P 128 i).toNat = a.toNat + 2 ^ i := by rw [BitVec.toNat_add, toNat_P hi, Nat.mod_eq_of_lt (by omega)]
  refine ⟨by omega, ?_, ?_, ?_⟩
  · rw [hq] at h2
    simp only [aff] at h2
    rw [aff_two] at h2
    exact h2
  · rw [ha, h3, Nat.pow_succ]
    conv => lhs; rw [hq]
    rw [Nat.mul_add, Nat.mul_assoc]; omega
  · rw [ha, Nat.pow_succ]; omega
theorem inv_even14 {i q : Nat} {x a : BitVec 128} (h : Inv14 c t N i q x a) (hx : x ≠ t) (hb : (x ^^^ t) &&& P 128 i = 0#128) :
    Inv14 c t N (i + 1) (q / 2) x a := by
  have hi := inv_lt14 h hx
  obtain ⟨h1, h2, h3, h4⟩ := h
  have hev : q % 2 = 0 := (aff_bit _ _ T14_form hc i hi q x t h2).1 hb
  have hq : q = 2 * (q / 2) := by omega
  refine ⟨by omega, ?_, ?_, ?_⟩
  · rw [hq, aff_two] at h2
    exact h2
  · rw [h3, Nat.pow_succ]
    conv => lhs; rw [hq]
    rw [Nat.mul_assoc]
  · rw [Nat.pow_succ]; omega
end
theorem meas_down {i : Nat} (hi : i < 128) : meas128 (P 128 (i + 1)).toNat < meas128 (P 128 i).toNat := by
  have hp := Nat.two_pow_pos i
  have hl : 2 ^ i < 2 ^ 128 := Nat.pow_lt_pow_right (by omega) hi
  rw [toNat_P hi]
  by_cases h : i + 1 < 128
  · rw [toNat_P h]
    have := Nat.pow_lt_pow_right (show 1 < 2 by omega) h
    rw [Nat.pow_succ] at this ⊢
    unfold meas128; split <;> split <;> omega
  · rw [show i + 1 = 128 by omega, P_end]
    show meas128 0 < _
    unfold meas128; split <;> split <;> omega
set_option maxHeartbeats 2000000 in
theorem stepsr14s (s x : BitVec 128) (m : Nat) (hm : m ≤ 4096) (n : Int) (hn : n = (m : Int)) (w : World) : Calls Try.prog 17 #[.agg #[.int .u64 (W64 (hi128 s)), .int .u64 (W64 (lo128 s))], .agg #[.int .u64 (W64 (hi128 x)), .int .u64 (W64 (lo128 x))], .int .i64 n] w fun e w' =>
    e = .returned (.agg #[.int .u64 (W64 (hi128 (aff T14 (x ||| 1#128) m s))), .int .u64 (W64 (lo128 (aff T14 (x ||| 1#128) m s)))]) ∧ New w w' := by
  subst hn
  obtain ⟨h1, h2, h3, h4⟩ := three_blocks w (.cells #[.int .u64 (W64 (hi128 s)), .int .u64 (W64 (lo128 s))] 24) (.cells #[.int .u64 (W64 (hi128 x)), .int .u64 (W64 (lo128 x))] 24) (.cells #[.int .u64 0, .int .u64 0] 24)
  have H1 := Lib.hid (show B2 _ _ _ s from h1)
  have H2 := Lib.hid (show B2 _ _ _ x from h2)
  have H3 := Lib.hid (show Z2 _ _ _ from h3)
  have H4 := Lib.hid h4
  clear h1 h2 h3 h4
  go_enter Try.func17, Try.ntmps17
  go_wp2_with fail
  generalize ((w.alloc (.cells #[.int .u64 (W64 (hi128 s)), .int .u64 (W64 (lo128 s))] 24)).alloc (.cells #[.int .u64 (W64 (hi128 x)), .int .u64 (W64 (lo128 x))] 24)).alloc (.cells #[.int .u64 0, .int .u64 0] 24) = w0 at H1 H2 H3 H4 ⊢
  go_loopw [7] (fun i wr => ∃ k : Nat, k ≤ m ∧ i = .int .i64 k ∧ B2 wr w.heap.size 24 (aff T14 (x ||| 1#128) k s) ∧ B2 wr (w.heap.size + 1) 24 x ∧ Z2 wr (w.heap.size + 1 + 1) 24 ∧ New w wr) (fun i _ => m - (intOf i).toNat)
  case atStart => exact ⟨0, by omega, rfl, H1.out, H2.out, H3.out, H4.out⟩
  case round =>
    obtain ⟨k, hk, rfl, hs, hx, hz, hnew⟩ := hrel
    obtain ⟨y, hy⟩ : ∃ y, aff T14 (x ||| 1#128) k s = y := ⟨_, rfl⟩
    rw [hy] at hs
    have s0 := hs.c0
    have s1 := hs.c1
    have HS := Lib.hid hs
    have HX := Lib.hid hx
    have HZ := Lib.hid hz
    have HN := Lib.hid hnew
    have HY := Lib.hid hy
    clear hx hz hnew hy H1 H2 H3 H4
    by_cases hlt : (k : Int) < m
    · have x0 := HX.out.c0
      have x1 := HX.out.c1
      have hcr := fun w => step_r y x w
      have hst : stp y x = aff T14 (x ||| 1#128) (k + 1) s := by rw [aff_add, HY.out]; rfl
      obtain ⟨z, hz⟩ : ∃ z, stp y x = z := ⟨_, rfl⟩
      rw [hz] at hcr hst
      have HCR := Lib.hid hcr
      have HST := Lib.hid hst
      clear hz hcr hst
      go_wp2_with fail
      refine (HCR.out _).mono ?_
      rintro e w1 ⟨rfl, hn1⟩
      have hs1 := HS.out.stay hn1
      have s0 := hs1.c0
      have s1 := hs1.c1
      have sf := hs1.free
      have HS1 := Lib.hid hs1
      have HN1 := Lib.hid hn1
      clear hs hs1 hn1
      go_wp2
      refine ⟨⟨k + 1, by omega, by go_num, ?_, ?_, ?_, put2_new _ (HN.out.trans HN1.out) (Nat.le_refl _)⟩, by simp [intOf]; omega⟩
      · rw [← HST.out]; exact B2.put _ HS1.out
      · exact (put_other2 (by omega)).trans (HX.out.stay HN1.out)
      · exact (put_other2 (by omega)).trans (HZ.out.stay HN1.out)
    · obtain rfl : k = m := by omega
      have k0 := HZ.out.c0
      have k1 := HZ.out.c1
      have kf := HZ.out.free
      go_wp2
      refine bodyPost_ret (by simp [results, Try.results17, go_sem, k0, k1]; try rfl) rfl ?_
      rw [HY.out]
      exact ⟨rfl, put2_new _ HN.out (by omega)⟩
/-- the memory of Steps at the head of a round -/
structure StS (W w : World) (b b7 g : Nat) (t te : TypeId) (s u c a p : BitVec 128) (i : Nat) : Prop where
  bs : B2 w b t s
  bt : B2 w (b + 1) t u
  bz : Z2 w (b + 1 + 1 + 1) t
  pow : E4 w b7 te (sq T14 c i).1 (sq T14 c i).2
  ba : B2 w (b7 + 1) t a
  bp : B2 w g t p
  far : b7 + 1 < g
  new : New W w
set_option maxHeartbeats 4000000 in
theorem steps14 (s t x : BitVec 128) (w : World) : Calls Try.prog 18 #[.agg #[.int .u64 (W64 (hi128 s)), .int .u64 (W64 (lo128 s))], .agg #[.int .u64 (W64 (hi128 t)), .int .u64 (W64 (lo128 t))], .agg #[.int .u64 (W64 (hi128 x)), .int .u64 (W64 (lo128 x))]] w fun e w' =>
    ∃ N : BitVec 128, e = .returned (.agg #[.int .u64 (W64 (hi128 N)), .int .u64 (W64 (lo128 N))]) ∧ aff T14 (x ||| 1#128) N.toNat s = t ∧ New w w' := by
  have hmf : ∀ (fn : Fn) (first cap : Array Value) (w : World), (Instr.makeFunc fn first cap).run Try.prog w = .ok (.func fn first cap) w := fun _ _ _ _ => rfl
  obtain ⟨q0, hq0, hN0⟩ := aff_surj T14 (x ||| 1#128) T14_form (c14_form x) s t
  obtain ⟨N, hNe⟩ : ∃ N : BitVec 128, N.toNat = q0 := ⟨BitVec.ofNat 128 q0, by rw [BitVec.toNat_ofNat]; exact Nat.mod_eq_of_lt hq0⟩
  rw [← hNe] at hN0
  have HNN := Lib.hid hN0
  have HC := Lib.hid (c14_form x)
  clear hN0 hq0 hNe
  obtain ⟨h1, h2, h3, h4, h5⟩ := four_blocks w (.cells #[.int .u64 (W64 (hi128 s)), .int .u64 (W64 (lo128 s))] 24) (.cells #[.int .u64 (W64 (hi128 t)), .int .u64 (W64 (lo128 t))] 24) (.cells #[.int .u64 (W64 (hi128 x)), .int .u64 (W64 (lo128 x))] 24) (.cells #[.int .u64 0, .int .u64 0] 24)
  have H1 := Lib.hid (show B2 _ _ _ s from h1)
  have H2 := Lib.hid (show B2 _ _ _ t from h2)
  have H3 := Lib.hid (show B2 _ _ _ x from h3)
  have H4 := Lib.hid (show Z2 _ _ _ from h4)
  have H5 := Lib.hid h5
  clear h1 h2 h3 h4 h5
  go_enter Try.func18, Try.ntmps18
  go_wp2_with fail
  generalize (((w.alloc (.cells #[.int .u64 (W64 (hi128 s)), .int .u64 (W64 (lo128 s))] 24)).alloc (.cells #[.int .u64 (W64 (hi128 t)), .int .u64 (W64 (lo128 t))] 24)).alloc (.cells #[.int .u64 (W64 (hi128 x)), .int .u64 (W64 (lo128 x))] 24)).alloc (.cells #[.int .u64 0, .int .u64 0] 24) = w0 at H1 H2 H3 H4 H5 ⊢
  have c0 := H3.out.c0
  have c1 := H3.out.c1
  go_wp2_with fail
  refine (one14 x _).mono ?_
  rintro e w1 ⟨rfl, hn1⟩
  go_wp2_with fail
  obtain ⟨g7, g8, g9, hn2⟩ := three_blocks w1 (.cells #[.int .u64 (W64 (hi128 T14)), .int .u64 (W64 (lo128 T14)), .int .u64 (W64 (hi128 (x ||| 1#128))), .int .u64 (W64 (lo128 (x ||| 1#128)))] 44) (.cells #[.int .u64 0, .int .u64 0] 24) (.cells #[.int .u64 0, .int .u64 1] 24)
  have hn12 := hn1.trans hn2
  have hst : StS w (((w1.alloc (.cells #[.int .u64 (W64 (hi128 T14)), .int .u64 (W64 (lo128 T14)), .int .u64 (W64 (hi128 (x ||| 1#128))), .int .u64 (W64 (lo128 (x ||| 1#128)))] 44)).alloc (.cells #[.int .u64 0, .int .u64 0] 24)).alloc (.cells #[.int .u64 0, .int .u64 1] 24)) w.heap.size w1.heap.size (w1.heap.size + 1 + 1) 24 44 s t (x ||| 1#128) 0#128 (P 128 0) 0 := by
    refine ⟨H1.out.stay hn12, H2.out.stay hn12, H4.out.stay hn12, g7, ?_, ?_, by omega, H5.out.trans hn12⟩
    · unfold B2; rw [zero_hi, zero_lo]; exact g8
    · rw [P_zero]; unfold B2; rw [one_hi, one_lo]; exact g9
  have hb7 : w.heap.size + 1 + 1 + 1 < w1.heap.size := by have := lt_of_block H4.out; have := hn1.le; omega
  have HST := Lib.hid hst
  clear hst g7 g8 g9 hn1 hn2 hn12 c0 c1 H1 H2 H3 H4 H5
  generalize ((w1.alloc (.cells #[.int .u64 (W64 (hi128 T14)), .int .u64 (W64 (lo128 T14)), .int .u64 (W64 (hi128 (x ||| 1#128))), .int .u64 (W64 (lo128 (x ||| 1#128)))] 44)).alloc (.cells #[.int .u64 0, .int .u64 0] 24)).alloc (.cells #[.int .u64 0, .int .u64 1] 24) = w2 at *
  generalize w1.heap.size = b7 at *
  go_loopw [10] (fun g wr => ∃ (gb i q : Nat) (y a : BitVec 128), g = .pointer (some ⟨gb, 0, none⟩) ∧ StS w wr w.heap.size b7 gb 24 44 y t (x ||| 1#128) a (P 128 i) i ∧ Hid (Inv14 (x ||| 1#128) t N i q y a)) (fun g wr => meas128 (num2 wr (blockOf g)))
  case atStart => exact ⟨_, 0, N.toNat, s, 0#128, rfl, HST.out, Lib.hid ⟨by omega, HNN.out, by simp, by simp⟩⟩
  case round =>
    clear HST
    obtain ⟨gb, i, q, y, a, rfl, ⟨hs0, ht0, hz0, hpow, ha0, hp0, hfar, hnew⟩, HINV⟩ := hrel
    obtain ⟨p, hp⟩ : ∃ p, P 128 i = p := ⟨_, rfl⟩
    rw [hp] at hp0
    have HP := Lib.hid hp
    have hmea : meas128 (num2 wr (blockOf (.pointer (some ⟨gb, 0, none⟩)))) = meas128 (P 128 i).toNat := by rw [HP.out]; exact congrArg meas128 hp0.num
    have HMEA := Lib.hid hmea
    have HPOW := Lib.hid hpow
    have HA0 := Lib.hid ha0
    have HP0 := Lib.hid hp0
    have HNEW := Lib.hid hnew
    have HS0 := Lib.hid hs0
    have HT0 := Lib.hid ht0
    have HZ0 := Lib.hid hz0
    have s0 := hs0.c0
    have s1 := hs0.c1
    have t0 := ht0.c0
    have t1 := ht0.c1
    have heq := fun w => equ_x w y t
    clear hpow ha0 hp0 hnew hs0 ht0 hz0 hp hmea
    by_cases h0 : y = t
    · have HE := Lib.hid (inv_end14 HC.out HINV.out h0)
      subst h0
      rw [BEq.rfl] at heq
      have a0 := HA0.out.c0
      have a1 := HA0.out.c1
      have k0 := HZ0.out.c0
      have k1 := HZ0.out.c1
      have kf := HZ0.out.free
      go_wp2
      refine bodyPost_ret (by simp [results, Try.results18, go_sem, k0, k1]; try rfl) rfl ?_
      exact ⟨a, rfl, by rw [HE.out]; exact HNN.out, put2_new _ HNEW.out (by omega)⟩
    · have h0b : (y == t) = false := beq_false_of_ne h0
      rw [h0b] at heq
      have HH0 := Lib.hid h0
      have HI := Lib.hid (inv_lt14 HINV.out h0)
      have p0 := HP0.out.c0
      have p1 := HP0.out.c1
      obtain ⟨pm, hpm⟩ : ∃ z, (sq T14 (x ||| 1#128) i).1 = z := ⟨_, rfl⟩
      obtain ⟨pp, hpp⟩ : ∃ z, (sq T14 (x ||| 1#128) i).2 = z := ⟨_, rfl⟩
      rw [hpm, hpp] at HPOW
      have HPM := Lib.hid hpm
      have HPP := Lib.hid hpp
      have hand := and_parts y t p
      clear h0 h0b hpm hpp
      rcases hb : ((y ^^^ t) &&& p == 0#128)
      · rw [hb] at hand
        have hand2 : ((hi128 y ^^^ hi128 t) &&& hi128 p ||| (lo128 y ^^^ lo128 t) &&& lo128 p != 0#64) = true := by rw [bne, hand]; rfl
        clear hand
        have hinv := inv_odd14 HC.out HINV.out HH0.out (by rw [HP.out]; exact ne_of_beq_false hb)
        rw [HPM.out, HPP.out, HP.out] at hinv
        have HINV2 := Lib.hid hinv
        clear hb hinv
        go_wp2_with fail
        refine (on14 pm pp y b7 _ HPOW.out).mono ?_
        rintro e w3 ⟨rfl, hn3⟩
        have hs3 := HS0.out.stay hn3
        have s0 := hs3.c0
        have s1 := hs3.c1
        have sf := hs3.free
        have HS3 := Lib.hid hs3
        have HN3 := Lib.hid hn3
        have a0 := (HA0.out.stay HN3.out).c0
        have a1 := (HA0.out.stay HN3.out).c1
        have p0 := (HP0.out.stay HN3.out).c0
        have p1 := (HP0.out.stay HN3.out).c1
        have hS := B2.put (y * pm + pp) HS3.out
        have hO := fun j hj => put2_other (w := w3) (b := w.heap.size) (k := j) (y * pm + pp) hj
        have hA := (hO (b7 + 1) (by omega)).trans (HA0.out.stay HN3.out)
        have hN9 := put2_new (y * pm + pp) (HNEW.out.trans HN3.out) (Nat.le_refl _)
        have HS9 := Lib.hid hS
        have HO9 := Lib.hid hO
        have HA9 := Lib.hid hA
        have HN9 := Lib.hid hN9
        clear hS hO hA hN9 t0 t1
        go_wp2_with fail
        have ht9 := (HO9.out (w.heap.size + 1) (by omega)).trans (HT0.out.stay HN3.out)
        have hz9 := (HO9.out (w.heap.size + 1 + 1 + 1) (by omega)).trans (HZ0.out.stay HN3.out)
        have hp9 := (HO9.out gb (by omega)).trans (HP0.out.stay HN3.out)
        have he9 := (HO9.out b7 (by omega)).trans (HPOW.out.stay HN3.out)
        have HT9 := Lib.hid ht9
        have HZ9 := Lib.hid hz9
        have HP9 := Lib.hid hp9
        have HE9 := Lib.hid he9
        clear ht9 hz9 hp9 he9 s0 s1 sf a0 a1 p0 p1 HO9
        generalize (w3.setCell ⟨w.heap.size, 0, none⟩ (.int .u64 (W64 (hi128 (y * pm + pp))))).setCell ⟨w.heap.size, 1, none⟩ (.int .u64 (W64 (lo128 (y * pm + pp)))) = w9 at *
        refine (add14 a p _).mono ?_
        rintro e w10 ⟨rfl, hn10⟩
        have hA := (show B2 _ _ _ a from HA9.out).stay hn10
        have a0 := hA.c0
        have a1 := hA.c1
        have af := hA.free
        have HA10 := Lib.hid hA
        have HN10 := Lib.hid hn10
        clear hA hn10
        have hO := fun j hj => put2_other (w := w10) (b := b7 + 1) (k := j) (a + p) hj
        have hA11 := B2.put (a + p) HA10.out
        have hS11 := (hO w.heap.size (by omega)).trans (HS9.out.stay HN10.out)
        have hT11 := (hO (w.heap.size + 1) (by omega)).trans ((show B2 _ _ _ t from HT9.out).stay HN10.out)
        have hZ11 := (hO (w.heap.size + 1 + 1 + 1) (by omega)).trans ((show Z2 _ _ _ from HZ9.out).stay HN10.out)
        have hP11 := (hO gb (by omega)).trans ((show B2 _ _ _ p from HP9.out).stay HN10.out)
        have hE11 := (hO b7 (by omega)).trans ((show E4 _ _ _ pm pp from HE9.out).stay HN10.out)
        have hN11 := put2_new (b := b7 + 1) (a + p) (HN9.out.trans HN10.out) (by omega)
        have HA11 := Lib.hid hA11
        have HS11 := Lib.hid hS11
        have HT11 := Lib.hid hT11
        have HZ11 := Lib.hid hZ11
        have HP11 := Lib.hid hP11
        have HE11 := Lib.hid hE11
        have HN11 := Lib.hid hN11
        clear hO hA11 hS11 hT11 hZ11 hP11 hE11 hN11
        go_wp2_with fail
        clear a0 a1 af
        generalize (w10.setCell ⟨b7 + 1, 0, none⟩ (.int .u64 (W64 (hi128 (a + p))))).setCell ⟨b7 + 1, 1, none⟩ (.int .u64 (W64 (lo128 (a + p)))) = w11 at *
        refine (double14 pm pp b7 _ HE11.out).mono ?_
        rintro e w4 ⟨rfl, he4, hbut⟩
        have hs4 := (show B2 _ _ _ _ from HS11.out).but hbut (by omega)
        have ht4 := (show B2 _ _ _ t from HT11.out).but hbut (by omega)
        have hz4 := hbut.keep (by omega) HZ11.out
        have ha4 := (show B2 _ _ _ (a + p) from HA11.out).but hbut (by omega)
        have hp4 := (show B2 _ _ _ p from HP11.out).but hbut (by omega)
        have hn4 := hbut.new w HN11.out (by omega)
        clear hbut
        have s0 := hs4.c0
        have p0 := hp4.c0
        have p1 := hp4.c1
        have HS4 := Lib.hid hs4
        have HT4 := Lib.hid ht4
        have HZ4 := Lib.hid hz4
        have HA4 := Lib.hid ha4
        have HE4 := Lib.hid he4
        have HP4 := Lib.hid hp4
        have HN4 := Lib.hid hn4
        clear hs4 ht4 hz4 ha4 he4 hp4 hn4 s0
        have hB := heap_alloc_new w4 (.cells #[.int .u64 (W64 (hi128 p)), .int .u64 (W64 (lo128 p))] 24)
        have hn5 := (New.refl w4).alloc (.cells #[.int .u64 (W64 (hi128 p)), .int .u64 (W64 (lo128 p))] 24)
        have hg5 : b7 + 1 < w4.heap.size := by have := lt_of_block HP4.out; omega
        go_wp2_with fail
        generalize w4.heap.size = g5 at *
        generalize w4.alloc (.cells #[.int .u64 (W64 (hi128 p)), .int .u64 (W64 (lo128 p))] 24) = w5 at *
        refine (wshl_x p 1 (by omega) 1 rfl _).mono ?_
        rintro e w6 ⟨rfl, hn6⟩
        have hb6 := (show B2 _ _ _ p from hB).stay hn6
        have b0 := hb6.c0
        have b1 := hb6.c1
        have bf := hb6.free
        have HB6 := Lib.hid hb6
        have HN6 := Lib.hid (hn5.trans hn6)
        clear hb6 hB hn5 hn6 p0 p1
        go_wp2
        have hsh : p <<< 1 = P 128 (i + 1) := by rw [← HP.out, P_shl128]
        have hbox := B2.put (p <<< 1) HB6.out
        have hother := fun j hj => put2_other (w := w6) (b := g5) (k := j) (p <<< 1) hj
        rw [hsh] at hbox hother ⊢
        refine ⟨⟨g5, i + 1, q / 2, _, _, rfl, ⟨(hother _ (by omega)).trans (HS4.out.stay HN6.out), (hother _ (by omega)).trans (HT4.out.stay HN6.out), (hother _ (by omega)).trans ((show Z2 _ _ _ from HZ4.out).stay HN6.out), ?_, (hother _ (by omega)).trans (HA4.out.stay HN6.out), hbox, by omega, put2_new _ (HN4.out.trans HN6.out) (by omega)⟩, HINV2⟩, ?_⟩
        · show E4 _ _ _ ((sq T14 (x ||| 1#128) i).1 * (sq T14 (x ||| 1#128) i).1) (((sq T14 (x ||| 1#128) i).1 + 1) * (sq T14 (x ||| 1#128) i).2)
          rw [HPM.out, HPP.out, ← sq_next]
          exact (hother _ (by omega)).trans (HE4.out.stay HN6.out)
        · rw [HMEA.out]
          have e : meas128 (num2 _ (blockOf (.pointer (some ⟨g5, 0, none⟩)))) = meas128 (P 128 (i + 1)).toNat := congrArg meas128 hbox.num
          rw [e]
          exact meas_down HI.out
      · rw [hb] at hand
        have hand2 : ((hi128 y ^^^ hi128 t) &&& hi128 p ||| (lo128 y ^^^ lo128 t) &&& lo128 p != 0#64) = false := by rw [bne, hand]; rfl
        clear hand
        have hinv := inv_even14 HC.out HINV.out HH0.out (by rw [HP.out]; exact eq_of_beq hb)
        have HINV2 := Lib.hid hinv
        clear hb hinv
        go_wp2_with fail
        refine (double14 pm pp b7 _ HPOW.out).mono ?_
        rintro e w4 ⟨rfl, he4, hbut⟩
        have hs4 := HS0.out.but hbut (by omega)
        have ht4 := HT0.out.but hbut (by omega)
        have hz4 := hbut.keep (by omega) HZ0.out
        have ha4 := HA0.out.but hbut (by omega)
        have hp4 := HP0.out.but hbut (by omega)
        have hn4 := hbut.new w HNEW.out (by omega)
        clear hbut s1 t0 t1 p0 p1
        have s0 := hs4.c0
        have p0 := hp4.c0
        have p1 := hp4.c1
        have HS4 := Lib.hid hs4
        have HT4 := Lib.hid ht4
        have HZ4 := Lib.hid hz4
        have HA4 := Lib.hid ha4
        have HE4 := Lib.hid he4
        have HP4 := Lib.hid hp4
        have HN4 := Lib.hid hn4
        clear hs4 ht4 hz4 ha4 he4 hp4 hn4 s0
        have hB := heap_alloc_new w4 (.cells #[.int .u64 (W64 (hi128 p)), .int .u64 (W64 (lo128 p))] 24)
        have hn5 := (New.refl w4).alloc (.cells #[.int .u64 (W64 (hi128 p)), .int .u64 (W64 (lo128 p))] 24)
        have hg5 : b7 + 1 < w4.heap.size := by have := lt_of_block HP4.out; omega
        go_wp2_with fail
        generalize w4.heap.size = g5 at *
        generalize w4.alloc (.cells #[.int .u64 (W64 (hi128 p)), .int .u64 (W64 (lo128 p))] 24) = w5 at *
        refine (wshl_x p 1 (by omega) 1 rfl _).mono ?_
        rintro e w6 ⟨rfl, hn6⟩
        have hb6 := (show B2 _ _ _ p from hB).stay hn6
        have b0 := hb6.c0
        have b1 := hb6.c1
        have bf := hb6.free
        have HB6 := Lib.hid hb6
        have HN6 := Lib.hid (hn5.trans hn6)
        clear hb6 hB hn5 hn6 p0 p1
        go_wp2
        have hsh : p <<< 1 = P 128 (i + 1) := by rw [← HP.out, P_shl128]
        have hbox := B2.put (p <<< 1) HB6.out
        have hother := fun j hj => put2_other (w := w6) (b := g5) (k := j) (p <<< 1) hj
        rw [hsh] at hbox hother ⊢
        refine ⟨⟨g5, i + 1, q / 2, _, _, rfl, ⟨(hother _ (by omega)).trans (HS4.out.stay HN6.out), (hother _ (by omega)).trans (HT4.out.stay HN6.out), (hother _ (by omega)).trans ((show Z2 _ _ _ from HZ4.out).stay HN6.out), ?_, (hother _ (by omega)).trans (HA4.out.stay HN6.out), hbox, by omega, put2_new _ (HN4.out.trans HN6.out) (by omega)⟩, HINV2⟩, ?_⟩
        · show E4 _ _ _ ((sq T14 (x ||| 1#128) i).1 * (sq T14 (x ||| 1#128) i).1) (((sq T14 (x ||| 1#128) i).1 + 1) * (sq T14 (x ||| 1#128) i).2)
          rw [HPM.out, HPP.out, ← sq_next]
          exact (hother _ (by omega)).trans (HE4.out.stay HN6.out)
        · rw [HMEA.out]
          have e : meas128 (num2 _ (blockOf (.pointer (some ⟨g5, 0, none⟩)))) = meas128 (P 128 (i + 1)).toNat := congrArg meas128 hbox.num
          rw [e]
          exact meas_down HI.out
end Go.Proofs.Ytfaobdmoifnglaa
