/- The contract of the document's own Gcd; the walk of the statement ModnInverts: for all words. -/
import Derived.Test.YtadaaihbeapibaaModF
namespace Go.Bv
open Go Go.RowKit
set_option linter.unusedVariables false
theorem gcd_half_left {x y : Nat} (hx : x % 2 = 0) (hy : y % 2 = 1) : Nat.gcd (x / 2) y = Nat.gcd x y := by
  have e : x = 2 * (x / 2) := by omega
  have hc : Nat.Coprime 2 y := by
    unfold Nat.Coprime
    rw [Nat.gcd_rec, hy]; rfl
  conv => rhs; rw [e]
  exact (Nat.Coprime.gcd_mul_left_cancel (x / 2) hc).symm
theorem gcd_half_right {x y : Nat} (hx : x % 2 = 1) (hy : y % 2 = 0) : Nat.gcd x (y / 2) = Nat.gcd x y := by
  rw [Nat.gcd_comm x, gcd_half_left hy hx, Nat.gcd_comm]
theorem gcd_both {x y : Nat} (hx : x % 2 = 0) (hy : y % 2 = 0) : 2 * Nat.gcd (x / 2) (y / 2) = Nat.gcd x y := by
  rw [← Nat.gcd_mul_left, show 2 * (x / 2) = x by omega, show 2 * (y / 2) = y by omega]
theorem gcd_less_left {x y : Nat} (h : y ≤ x) : Nat.gcd (x - y) y = Nat.gcd x y := Nat.gcd_sub_self_left h
theorem gcd_less_right {x y : Nat} (h : x ≤ y) : Nat.gcd x (y - x) = Nat.gcd x y := by
  rw [Nat.gcd_comm x (y - x), Nat.gcd_sub_self_left h, Nat.gcd_comm]
end Go.Bv
namespace Go.Proofs.Ytadaaihbeapibaa
open Go.RowKit Go.Bv
set_option linter.unusedVariables false
theorem beq_zero_nat (x : BitVec 64) : (x == 0#64) = decide (x.toNat = 0) := by
  rw [Bool.eq_iff_iff, beq_iff_eq, decide_eq_true_eq]
  exact ⟨fun e => by rw [e]; rfl, fun e => BitVec.eq_of_toNat_eq e⟩
theorem sum_meas {x y x' y' : BitVec 64} (h : x'.toNat + y'.toNat < x.toNat + y.toNat) : (intOf (.int .u64 (W64 x'))).toNat + (intOf (.int .u64 (W64 y'))).toNat < (intOf (.int .u64 (W64 x))).toNat + (intOf (.int .u64 (W64 y))).toNat := by
  have e : ∀ z : BitVec 64, (intOf (.int .u64 (W64 z))).toNat = z.toNat := fun z => by simp [intOf, W64]
  rw [e, e, e, e]; exact h
set_option maxHeartbeats 2000000 in
theorem rgcd_any (a b : BitVec 64) (w : World) :
    Calls Try.prog 22 #[.int .u64 (W64 a), .int .u64 (W64 b)] w fun e w' => e = .returned (.int .u64 (W64 (BitVec.ofNat 64 (Nat.gcd a.toNat b.toNat)))) ∧ w' = w := by
  by_cases ha : a = 0#64
  · have hb : (a == 0#64) = true := by rw [beq_iff_eq]; exact ha
    have HE : Hid (a + b = BitVec.ofNat 64 (Nat.gcd a.toNat b.toNat)) := Lib.hid (by
      rw [ha, show (0#64).toNat = 0 from rfl, Nat.gcd_zero_left, ofNat_self, BitVec.zero_add])
    clear ha
    go_enter Try.func22, Try.ntmps22
    go_wp2
    go_ret
    rw [HE.out]
    exact ⟨rfl, rfl⟩
  · by_cases hb : b = 0#64
    · have h1 : (a == 0#64) = false := by rw [beq_eq_false_iff_ne]; exact ha
      have h2 : (b == 0#64) = true := by rw [beq_iff_eq]; exact hb
      have HE : Hid (a + b = BitVec.ofNat 64 (Nat.gcd a.toNat b.toNat)) := Lib.hid (by
        rw [hb, show (0#64).toNat = 0 from rfl, Nat.gcd_zero_right, ofNat_self, BitVec.add_zero])
      clear ha hb
      go_enter Try.func22, Try.ntmps22
      go_wp2
      go_ret
      rw [HE.out]
      exact ⟨rfl, rfl⟩
    · have h1 : (a == 0#64) = false := by rw [beq_eq_false_iff_ne]; exact ha
      have h2 : (b == 0#64) = false := by rw [beq_eq_false_iff_ne]; exact hb
      have hap := pos_of_ne ha
      have hbp := pos_of_ne hb
      obtain ⟨N, hN⟩ : ∃ N, Nat.gcd a.toNat b.toNat = N := ⟨_, rfl⟩
      rw [hN]
      have HST : Hid ((1#64).toNat * Nat.gcd a.toNat b.toNat = N ∧ 0 < a.toNat ∧ 0 < b.toNat ∧ (1#64).toNat * a.toNat < 18446744073709551616) := Lib.hid ⟨by rw [show (1#64).toNat = 1 from rfl, Nat.one_mul]; exact hN, hap, hbp, by rw [show (1#64).toNat = 1 from rfl, Nat.one_mul]; exact a.isLt⟩
      have HL1 : Hid (W64 1#64 = 1) := Lib.hid (W64_lit 1 (by omega))
      clear ha hb hap hbp hN
      go_enter Try.func22, Try.ntmps22
      go_wp2
      go_loop [0, 1, 5] (fun A B T => ∃ x y t : BitVec 64, A = .int .u64 (W64 x) ∧ B = .int .u64 (W64 y) ∧ T = .int .u64 (W64 t) ∧ Hid (t.toNat * Nat.gcd x.toNat y.toNat = N ∧ 0 < x.toNat ∧ 0 < y.toNat ∧ t.toNat * x.toNat < 18446744073709551616)) (fun A B _ => (intOf A).toNat + (intOf B).toNat)
      case atStart => exact ⟨_, _, 1#64, rfl, rfl, congrArg (Value.int .u64) HL1.out.symm, HST⟩
      case round =>
        obtain ⟨x, y, t, rfl, rfl, rfl, H⟩ := hrel
        have ex := even_test x
        have ey := even_test y
        by_cases hx : x.toNat % 2 = 0 ∧ y.toNat % 2 = 0
        · rw [decide_eq_true hx.1] at ex
          rw [decide_eq_true hx.2] at ey
          have e2 := (half_parts x).1
          have e3 := (half_parts y).1
          have HG : Hid ((t * 2#64).toNat * Nat.gcd (x / 2#64).toNat (y / 2#64).toNat = N ∧ 0 < (x / 2#64).toNat ∧ 0 < (y / 2#64).toNat ∧ (t * 2#64).toNat * (x / 2#64).toNat < 18446744073709551616) := Lib.hid (by
            obtain ⟨g1, g2, g3, g4⟩ := H.out
            have ht : (t * 2#64).toNat = t.toNat * 2 := mul_nat (by
              rw [show (2#64).toNat = 2 from rfl]
              exact Nat.lt_of_le_of_lt (Nat.mul_le_mul_left _ (by omega)) g4)
            refine ⟨?_, by omega, by omega, ?_⟩
            · rw [ht, e2, e3, Nat.mul_assoc, gcd_both hx.1 hx.2]; exact g1
            · rw [ht, e2, Nat.mul_assoc, show 2 * (x.toNat / 2) = x.toNat by omega]; exact g4)
          have HM := Lib.hid (sum_meas (x := x) (y := y) (x' := x / 2#64) (y' := y / 2#64) (by have := H.out.2.1; omega))
          clear H hx e2 e3
          go_wp2
          exact ⟨⟨_, _, _, rfl, rfl, rfl, HG⟩, HM.out⟩
        · have hcase : (x % 2#64 == 0#64) = false ∨ ((x % 2#64 == 0#64) = true ∧ (y % 2#64 == 0#64) = false) := by
            by_cases h : x.toNat % 2 = 0
            · exact Or.inr ⟨by rw [ex]; exact decide_eq_true h, by rw [ey]; exact decide_eq_false (fun e => hx ⟨h, e⟩)⟩
            · exact Or.inl (by rw [ex]; exact decide_eq_false h)
          have HG0 : Hid (Nat.gcd x.toNat y.toNat * t.toNat = N ∧ 0 < x.toNat ∧ 0 < y.toNat ∧ ¬ (x.toNat % 2 = 0 ∧ y.toNat % 2 = 0)) := Lib.hid ⟨by rw [Nat.mul_comm]; exact H.out.1, H.out.2.1, H.out.2.2.1, hx⟩
          clear ex ey hx H
          rcases hcase with h3 | ⟨h3, h4⟩
          all_goals (
            go_wp2_with fail
            clear h3
            go_loop [0, 1] (fun A B => ∃ p q : BitVec 64, A = .int .u64 (W64 p) ∧ B = .int .u64 (W64 q) ∧ Hid (Nat.gcd p.toNat q.toNat * t.toNat = N ∧ 0 < p.toNat ∧ 0 < q.toNat ∧ ¬ (p.toNat % 2 = 0 ∧ q.toNat % 2 = 0))) (fun A B => (intOf A).toNat + (intOf B).toNat)
            case atStart => exact ⟨_, _, rfl, rfl, HG0⟩
            case round =>
              obtain ⟨p, q, rfl, rfl, G⟩ := hrel
              have ep := even_test p
              have eq := even_test q
              have e2 := (half_parts p).1
              have e3 := (half_parts q).1
              by_cases hpq : p = q
              · have h5 : (p != q) = false := by rw [bne_eq_false_iff_eq]; exact hpq
                have HE : Hid (p * t = BitVec.ofNat 64 N) := Lib.hid (by
                  have h6 := G.out.1
                  rw [← hpq, Nat.gcd_self] at h6
                  rw [← h6, BitVec.ofNat_mul, ofNat_self, ofNat_self])
                clear G hpq ep eq e2 e3
                go_wp2
                go_ret
                rw [HE.out]
                exact ⟨rfl, rfl⟩
              · have h5 : (p != q) = true := by rw [bne_iff_ne]; exact hpq
                have hne : p.toNat ≠ q.toNat := fun e => hpq (BitVec.eq_of_toNat_eq e)
                obtain ⟨g1, g2, g3, g4⟩ := G.out
                clear hpq
                by_cases hp : p.toNat % 2 = 0
                · rw [decide_eq_true hp] at ep
                  have HG : Hid (Nat.gcd (p / 2#64).toNat q.toNat * t.toNat = N ∧ 0 < (p / 2#64).toNat ∧ 0 < q.toNat ∧ ¬ ((p / 2#64).toNat % 2 = 0 ∧ q.toNat % 2 = 0)) := Lib.hid ⟨by rw [e2, gcd_half_left hp (by omega)]; exact g1, by omega, g3, by omega⟩
                  have HM := Lib.hid (sum_meas (x := p) (y := q) (x' := p / 2#64) (y' := q) (by omega))
                  clear G g1 g2 g3 g4 hp hne eq e2 e3
                  go_wp2
                  exact ⟨⟨_, _, rfl, rfl, HG⟩, HM.out⟩
                · rw [decide_eq_false hp] at ep
                  by_cases hq : q.toNat % 2 = 0
                  · rw [decide_eq_true hq] at eq
                    have HG : Hid (Nat.gcd p.toNat (q / 2#64).toNat * t.toNat = N ∧ 0 < p.toNat ∧ 0 < (q / 2#64).toNat ∧ ¬ (p.toNat % 2 = 0 ∧ (q / 2#64).toNat % 2 = 0)) := Lib.hid ⟨by rw [e3, gcd_half_right (by omega) hq]; exact g1, g2, by omega, by omega⟩
                    have HM := Lib.hid (sum_meas (x := p) (y := q) (x' := p) (y' := q / 2#64) (by omega))
                    clear G g1 g2 g3 g4 hp hq hne e2 e3
                    go_wp2
                    exact ⟨⟨_, _, rfl, rfl, HG⟩, HM.out⟩
                  · rw [decide_eq_false hq] at eq
                    by_cases hlt : q.toNat < p.toNat
                    · have h7 := nat_lt hlt
                      have e4 := sub_nat (x := p) (y := q) (by omega)
                      have HG : Hid (Nat.gcd (p - q).toNat q.toNat * t.toNat = N ∧ 0 < (p - q).toNat ∧ 0 < q.toNat ∧ ¬ ((p - q).toNat % 2 = 0 ∧ q.toNat % 2 = 0)) := Lib.hid ⟨by rw [e4, gcd_less_left (by omega)]; exact g1, by omega, g3, by omega⟩
                      have HM := Lib.hid (sum_meas (x := p) (y := q) (x' := p - q) (y' := q) (by omega))
                      clear G g1 g2 g3 g4 hp hq hne e2 e3 hlt e4
                      go_wp2
                      exact ⟨⟨_, _, rfl, rfl, HG⟩, HM.out⟩
                    · have h7 := nat_nlt hlt
                      have e4 := sub_nat (x := q) (y := p) (by omega)
                      have HG : Hid (Nat.gcd p.toNat (q - p).toNat * t.toNat = N ∧ 0 < p.toNat ∧ 0 < (q - p).toNat ∧ ¬ (p.toNat % 2 = 0 ∧ (q - p).toNat % 2 = 0)) := Lib.hid ⟨by rw [e4, gcd_less_right (by omega)]; exact g1, g2, by omega, by omega⟩
                      have HM := Lib.hid (sum_meas (x := p) (y := q) (x' := p) (y' := q - p) (by omega))
                      clear G g1 g2 g3 g4 hp hq hne e2 e3 hlt e4
                      go_wp2
                      exact ⟨⟨_, _, rfl, rfl, HG⟩, HM.out⟩)
theorem rgcd_le (a n : BitVec 64) : (BitVec.ofNat 64 (Nat.gcd a.toNat n.toNat) != 1#64) = decide (Nat.gcd a.toNat n.toNat ≠ 1) := by
  have hl : Nat.gcd a.toNat n.toNat < 18446744073709551616 := by
    rcases Nat.eq_zero_or_pos a.toNat with h | h
    · rw [h, Nat.gcd_zero_left]; exact n.isLt
    · exact Nat.lt_of_le_of_lt (Nat.gcd_le_left _ h) a.isLt
  rw [Bool.eq_iff_iff, bne_iff_ne, decide_eq_true_eq]
  constructor
  · intro h e; exact h (by rw [e])
  · intro h e
    have := congrArg BitVec.toNat e
    rw [lit_nat _ hl] at this
    exact h this
theorem inv_zero (a : BitVec 64) (w : World) :
    Calls Try.prog 23 #[.int .u64 (W64 a), .int .u64 (W64 0#64)] w fun e w' => e = .returned (.tuple #[.int .u64 0, .bool false]) ∧ New w w' := by
  go_enter Try.func23, Try.ntmps23
  go_wp2
  go_step3
  go_wp2
  rw [Exit.noGoto_ret]
  go_ret2
  exact ⟨rfl, New.refl _⟩
set_option maxHeartbeats 2000000 in
theorem ModnInverts_walk (W : World) (a0 : Int) (w0 : (Lit.int .u64 a0).wf = true) (a1 : Int) (w1 : (Lit.int .u64 a1).wf = true) :
    Calls Try.prog 4 #[.int .u64 a0, .int .u64 a1] W fun e w' => e = .returned (.bool true) ∧ Below W.heap.size W w' := by
  obtain ⟨a, rfl⟩ := wf64 w0
  obtain ⟨n, rfl⟩ := wf64 w1
  clear w0 w1
  have hg1 := rgcd_le a n
  have HGCD := Lib.hid (gcd_any a n)
  have HRG := Lib.hid (rgcd_any a n)
  by_cases h : n = 0#64
  · subst h
    clear hg1
    generalize BitVec.ofNat 64 (Nat.gcd a.toNat (0#64).toNat) = g at *
    go_enter Try.func4, Try.ntmps4
    go_wp2_with fail
    refine (awake03 _).mono ?_
    rintro e w ⟨rfl, hg⟩
    go_wp2_with fail
    refine (HGCD.out _).mono ?_
    rintro e w1 ⟨rfl, hn1⟩
    go_wp2_with fail
    refine (HRG.out _).mono ?_
    rintro e w' ⟨rfl, rfl⟩
    go_wp2_with fail
    refine (inv_zero _ _).mono ?_
    rintro e w2 ⟨rfl, hn2⟩
    go_wp2
    go_ret
    exact ⟨rfl, (hg.trans hn1).trans hn2⟩
  · have hb : (n == 0#64) = false := by rw [beq_eq_false_iff_ne]; exact h
    have hnz : ¬ W64 n = 0 := by have := pos_of_ne h; unfold W64; omega
    have h1 : (1 : Int).tmod (W64 n) = W64 (1#64 % n) := by
      have := rem_any 1#64 n
      rw [show W64 1#64 = 1 from W64_lit 1 (by omega)] at this
      exact this
    have HINV := Lib.hid (inv_any a n h)
    have HZ := Lib.hid h
    clear h
    generalize hge : BitVec.ofNat 64 (Nat.gcd a.toNat n.toNat) = g at *
    clear hge
    have HG1 := Lib.hid hg1
    clear hg1
    go_enter Try.func4, Try.ntmps4
    go_wp2_with fail
    refine (awake03 _).mono ?_
    rintro e w ⟨rfl, hg⟩
    go_wp2_with fail
    refine (HGCD.out _).mono ?_
    rintro e w1 ⟨rfl, hn1⟩
    go_wp2_with fail
    refine (HRG.out _).mono ?_
    rintro e w' ⟨rfl, rfl⟩
    go_wp2_with fail
    refine (HINV.out _).mono ?_
    rintro e w2 ⟨v, ok, rfl, hn2, hcase⟩
    have hN := (hg.trans hn1).trans hn2
    clear hg hn1 hn2
    rcases hcase with ⟨rfl, c1, c2, c3⟩ | ⟨rfl, rfl, c1⟩
    · have hg2 : (g != 1#64) = false := by rw [HG1.out]; exact decide_eq_false (fun e => e c1)
      have hlt := nat_lt c2
      have HM : Hid (∀ w, Calls Try.prog 17 #[.int .u64 (W64 a), .int .u64 (W64 v), .int .u64 (W64 n)] w fun e w' => e = .returned (.int .u64 (W64 (1#64 % n))) ∧ w' = w) := Lib.hid (by
        have e : md (a.toNat * v.toNat) n = 1#64 % n := (md_eq HZ.out (by rw [BitVec.toNat_umod, c3]; rfl)).symm
        rw [← e]; exact rmul_any a v n)
      clear c1 c2 c3 HINV HGCD HRG HG1
      generalize 1#64 % n = o at *
      go_wp2
      go_quiet (first | (go_at_call 17; refine Calls.quiet_of_same (HM.out _)))
      go_wp2
      go_ret
      exact ⟨rfl, hN.drewN nq⟩
    · have hg2 : (g != 1#64) = true := by rw [HG1.out]; exact decide_eq_true c1
      rw [lo_zero]
      clear c1 HINV HGCD HRG HG1
      go_wp2
      go_ret
      exact ⟨rfl, hN⟩
end Go.Proofs.Ytadaaihbeapibaa
