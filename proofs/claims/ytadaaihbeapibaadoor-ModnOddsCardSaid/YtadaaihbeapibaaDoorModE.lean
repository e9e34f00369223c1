/- The contract of modn.Inv: for all words. -/
import Derived.Test.YtadaaihbeapibaaDoorModD
namespace Go.Bv
open Go Go.RowKit
set_option linter.unusedVariables false
/-- alike modulo n -/
def Cong (n A B : Nat) : Prop := ∃ k : Int, (A : Int) - (B : Int) = (n : Int) * k
theorem cong_mod {n A B : Nat} (h : Cong n A B) : A % n = B % n := by
  obtain ⟨k, hk⟩ := h
  have e : (A : Int) = (B : Int) + (n : Int) * k := by omega
  have : ((A % n : Nat) : Int) = ((B % n : Nat) : Int) := by
    rw [Int.natCast_emod, Int.natCast_emod, e, Int.add_mul_emod_self_left]
  omega
theorem mod_cong {n A B : Nat} (h : A % n = B % n) : Cong n A B := by
  refine ⟨(A / n : Nat) - (B / n : Nat), ?_⟩
  have h1 := Nat.div_add_mod A n
  have h2 := Nat.div_add_mod B n
  rw [Int.mul_sub, ← Int.natCast_mul, ← Int.natCast_mul]
  omega
theorem cong_core (a r x b nb m b2 q n : Int) (k1 k2 k3 k4 : Int) (h1 : a * b - r = n * k1) (h2 : a * nb - x = n * k2) (h3 : q * nb = n * k3 + m) (h4 : b + (n - m) = n * k4 + b2) :
    a * b2 - (r - q * x) = n * (k1 + a - q * k2 + a * k3 - a * k4) := by
  have e2 : b2 = b + n - m - n * k4 := by omega
  have e3 : m = q * nb - n * k3 := by omega
  subst e2
  subst e3
  have ex : x = a * nb - n * k2 := by omega
  have er : r = a * b - n * k1 := by omega
  subst ex
  subst er
  grind
theorem inv_next {a n r x b nb : BitVec 64} {N : Nat} (hn0 : ¬ n = 0#64) (hN : Nat.gcd a.toNat n.toNat = N) (hx : ¬ x = 0#64)
    (h : Cong n.toNat (a.toNat * b.toNat) r.toNat ∧ Cong n.toNat (a.toNat * nb.toNat) x.toNat ∧ b.toNat < n.toNat ∧ Nat.gcd r.toNat x.toNat = N) (hnb : nb.toNat < n.toNat := by assumption) :
    Cong n.toNat (a.toNat * nb.toNat) x.toNat ∧ Cong n.toNat (a.toNat * (md (b.toNat + (n.toNat - (md ((r / x).toNat * nb.toNat) n).toNat % n.toNat)) n).toNat) (r % x).toNat ∧ nb.toNat < n.toNat ∧ Nat.gcd x.toNat (r % x).toNat = N := by
  obtain ⟨h1, h2, h3, h4⟩ := h
  refine ⟨h2, ?_, hnb, by rw [BitVec.toNat_umod, ← h4, Nat.gcd_comm r.toNat, Nat.gcd_rec x.toNat r.toNat, Nat.gcd_comm]⟩
  obtain ⟨k1, e1⟩ := h1
  obtain ⟨k2, e2⟩ := h2
  rw [md_nat hn0, md_nat hn0, Nat.mod_mod, BitVec.toNat_udiv, BitVec.toNat_umod]
  have hp := pos_of_ne hn0
  have hm := Nat.mod_lt (r.toNat / x.toNat * nb.toNat) hp
  have d1 := Nat.div_add_mod (r.toNat / x.toNat * nb.toNat) n.toNat
  have d2 := Nat.div_add_mod (b.toNat + (n.toNat - r.toNat / x.toNat * nb.toNat % n.toNat)) n.toNat
  have d3 := Nat.div_add_mod r.toNat x.toNat
  generalize r.toNat / x.toNat * nb.toNat % n.toNat = m at *
  generalize (b.toNat + (n.toNat - m)) % n.toNat = b2 at *
  generalize (b.toNat + (n.toNat - m)) / n.toNat = k4 at *
  generalize r.toNat / x.toNat * nb.toNat / n.toNat = k3 at *
  generalize r.toNat / x.toNat = q at *
  generalize r.toNat % x.toNat = rx at *
  have i1 : ((q : Int)) * (nb.toNat : Int) = (n.toNat : Int) * (k3 : Int) + (m : Int) := by rw [← Int.natCast_mul, ← Int.natCast_mul]; omega
  have i2 : (b.toNat : Int) + ((n.toNat : Int) - (m : Int)) = (n.toNat : Int) * (k4 : Int) + (b2 : Int) := by rw [← Int.natCast_mul]; omega
  have i3 : (rx : Int) = (r.toNat : Int) - (q : Int) * (x.toNat : Int) := by rw [← Int.natCast_mul, Nat.mul_comm]; omega
  rw [Int.natCast_mul] at e1 e2
  have hc := cong_core (a.toNat : Int) (r.toNat : Int) (x.toNat : Int) (b.toNat : Int) (nb.toNat : Int) (m : Int) (b2 : Int) (q : Int) (n.toNat : Int) k1 k2 k3 k4 e1 e2 i1 i2
  refine ⟨_, Eq.trans ?_ hc⟩
  rw [Int.natCast_mul, i3]
end Go.Bv
namespace Go.Proofs.YtadaaihbeapibaaDoor
open Go.RowKit Go.Bv
set_option linter.unusedVariables false
set_option maxHeartbeats 4000000 in
theorem inv_any (a n : BitVec 64) (hn0 : ¬ n = 0#64) (w : World) :
    Calls Tryd.prog 25 #[.int .u64 (W64 a), .int .u64 (W64 n)] w fun e w' => ∃ (v : BitVec 64) (ok : Bool), e = .returned (.tuple #[.int .u64 (W64 v), .bool ok]) ∧ New w w' ∧
      ((ok = true ∧ Nat.gcd a.toNat n.toNat = 1 ∧ v.toNat < n.toNat ∧ a.toNat * v.toNat % n.toNat = 1 % n.toNat) ∨ (ok = false ∧ v = 0#64 ∧ Nat.gcd a.toNat n.toNat ≠ 1)) := by
  have hb : (n == 0#64) = false := by rw [beq_eq_false_iff_ne]; exact hn0
  have hp := pos_of_ne hn0
  have hnz : ¬ W64 n = 0 := by unfold W64; omega
  have h1 : (1 : Int).tmod (W64 n) = W64 (1#64 % n) := by
    have := rem_any 1#64 n
    rw [show W64 1#64 = 1 from W64_lit 1 (by omega)] at this
    exact this
  obtain ⟨N, hN⟩ : ∃ N, Nat.gcd a.toNat n.toNat = N := ⟨_, rfl⟩
  rw [hN]
  have HGN := Lib.hid hN
  have hstart : Cong n.toNat (a.toNat * (0#64).toNat) n.toNat ∧ Cong n.toNat (a.toNat * (1#64 % n).toNat) (a % n).toNat ∧ (0#64).toNat < n.toNat ∧ Nat.gcd n.toNat (a % n).toNat = N := by
    refine ⟨mod_cong (by rw [show (0#64).toNat = 0 from rfl, Nat.mul_zero, Nat.zero_mod, Nat.mod_self]), mod_cong (by rw [BitVec.toNat_umod, BitVec.toNat_umod, Nat.mul_mod_mod, show (1#64).toNat = 1 from rfl, Nat.mul_one, Nat.mod_mod]), hp, ?_⟩
    rw [BitVec.toNat_umod, ← hN, Nat.gcd_comm a.toNat, Nat.gcd_rec n.toNat a.toNat, Nat.gcd_comm]
  have hnb0 : (1#64 % n).toNat < n.toNat := by rw [BitVec.toNat_umod]; exact Nat.mod_lt _ hp
  have H := Lib.hid hstart
  have HNB := Lib.hid hnb0
  clear hstart hN hp hnb0
  obtain ⟨x0, ex0⟩ : ∃ z, a % n = z := ⟨_, rfl⟩
  obtain ⟨nb0, enb0⟩ : ∃ z, 1#64 % n = z := ⟨_, rfl⟩
  rw [ex0, enb0] at H
  rw [enb0] at HNB h1
  go_enter Tryd.func25, Tryd.ntmps25
  go_wp2
  refine wp_scope_jumps 0 (fun a' w' => New w w' ∧ ∃ (r x b nb : BitVec 64) (u10 u11 u12 u13 u14 u15 u16 u17 u18 u19 u20 u21 u22 u23 u24 u25 u26 u27 u28 u29 u30 u31 u32 u33 u34 u35 u36 u37 u38 : Value), a' = { tmps := #[.int .u64 (W64 a), .int .u64 (W64 n), undef, undef, .int .u64 0, .bool false, .int .u64 (W64 r), .int .u64 (W64 x), .int .u64 (W64 b), .int .u64 (W64 nb), u10, u11, u12, u13, u14, u15, u16, u17, u18, u19, u20, u21, u22, u23, u24, u25, u26, u27, u28, u29, u30, u31, u32, u33, u34, u35, u36, u37, u38], defers := [] } ∧ Hid (Cong n.toNat (a.toNat * b.toNat) r.toNat ∧ Cong n.toNat (a.toNat * nb.toNat) x.toNat ∧ b.toNat < n.toNat ∧ Nat.gcd r.toNat x.toNat = N) ∧ Hid (nb.toNat < n.toNat)) (fun a' _ => (intOf (a'.tmps.getD 7 undef)).toNat) rfl ?_ ?_
  · go_wp2
    go_quiet (fail)
    have hn1 : New w (w.drewN nq) := (New.refl w).drewN nq
    generalize w.drewN nq = w1 at hn1 ⊢
    go_wp2
    go_quiet (fail)
    have hn := hn1.drewN nq
    generalize w1.drewN nq = w2 at hn ⊢
    clear hn1
    go_wp2
    go_step3
    by_cases hx : x0 = 0#64
    · have hb1 : (x0 != 0#64) = false := by rw [bne_eq_false_iff_eq]; exact hx
      have hgr : n.toNat = N := by rw [← H.out.2.2.2, hx, show (0#64).toNat = 0 from rfl, Nat.gcd_zero_right]
      have hk := H.out.1
      have hbn := H.out.2.2.1
      by_cases h1 : n = 1#64
      · have hb2 : (n != 1#64) = false := by rw [bne_eq_false_iff_eq]; exact h1
        have HF : Hid (N = 1 ∧ (0#64).toNat < n.toNat ∧ a.toNat * (0#64).toNat % n.toNat = 1 % n.toNat) := Lib.hid (by
          refine ⟨by rw [← hgr, h1]; rfl, hbn, ?_⟩
          have h5 : (n).toNat = 1 := by rw [h1]; rfl
          exact (cong_mod hk).trans (congrArg (fun z => z % n.toNat) h5))
        clear hk hbn hgr h1 H hx
        go_wp2
        simp only [Exit.jump]
        go_ret2
        exact ⟨_, true, by rw [lo_zero]; rfl, hn, Or.inl ⟨rfl, HF.out⟩⟩
      · have hb2 : (n != 1#64) = true := by rw [bne_iff_ne]; exact h1
        have HF : Hid (N ≠ 1) := Lib.hid (fun e => h1 (BitVec.eq_of_toNat_eq (by rw [hgr, e]; rfl)))
        clear hk hbn hgr h1 H hx
        go_wp2
        simp only [Exit.jump]
        go_ret2
        exact ⟨0#64, false, by rw [lo_zero]; rfl, hn, Or.inr ⟨rfl, rfl, HF.out⟩⟩
    · have hb1 : (x0 != 0#64) = true := by rw [bne_iff_ne]; exact hx
      have hxz : ¬ W64 (x0) = 0 := by have := pos_of_ne hx; unfold W64; omega
      obtain ⟨b2, eb2⟩ : ∃ z, md ((0#64).toNat + (n.toNat - (md ((n / (x0)).toNat * (nb0).toNat) n).toNat % n.toNat)) n = z := ⟨_, rfl⟩
      have HG : Hid (Cong n.toNat (a.toNat * (nb0).toNat) (x0).toNat ∧ Cong n.toNat (a.toNat * b2.toNat) (n % (x0)).toNat ∧ (nb0).toNat < n.toNat ∧ Nat.gcd (x0).toNat (n % (x0)).toNat = N) := Lib.hid (by rw [← eb2]; exact inv_next hn0 HGN.out hx H.out HNB.out)
      have HNB2 : Hid (b2.toNat < n.toNat) := Lib.hid (by rw [← eb2]; exact md_lt hn0)
      have HM : Hid ((W64 (n % (x0))).toNat < (W64 (x0)).toNat) := Lib.hid (by
        rw [toNat_W64, toNat_W64]; show (n % (x0)).toNat < (x0).toNat; rw [BitVec.toNat_umod]; exact Nat.mod_lt _ (pos_of_ne hx))
      have HS : Hid (∀ w, Calls Tryd.prog 42 #[.int .u64 0, .int .u64 (W64 (md ((n / (x0)).toNat * (nb0).toNat) n)), .int .u64 (W64 n)] w fun e w' => e = .returned (.int .u64 (W64 b2)) ∧ New w w') := Lib.hid (by
        rw [← eb2]
        intro w
        have h := msub_any (0#64) (md ((n / (x0)).toNat * (nb0).toNat) n) n w
        rw [lo_zero] at h
        exact h)
      clear eb2
      clear hx H
      go_wp2
      go_quiet (fail)
      go_wp2_with fail
      refine (mmul_any _ _ _ _).mono ?_
      rintro e w2 ⟨rfl, hn2⟩
      go_wp2_with fail
      refine (HS.out _).mono ?_
      rintro e w3 ⟨rfl, hn3⟩
      go_wp2
      go_step3
      exact ⟨rfl, ((hn.drewN nq).trans hn2).trans hn3, _, _, _, _, _, _, _, _, _, _, _, _, _, _, _, _, _, _, _, _, _, _, _, _, _, _, _, _, _, _, _, _, _, rfl, HG, HNB2⟩
  · rintro a' w' ⟨hn, r, x, b, nb, u10, u11, u12, u13, u14, u15, u16, u17, u18, u19, u20, u21, u22, u23, u24, u25, u26, u27, u28, u29, u30, u31, u32, u33, u34, u35, u36, u37, u38, rfl, H, HNB⟩
    by_cases hx : x = 0#64
    · have hb1 : (x != 0#64) = false := by rw [bne_eq_false_iff_eq]; exact hx
      have hgr : r.toNat = N := by rw [← H.out.2.2.2, hx, show (0#64).toNat = 0 from rfl, Nat.gcd_zero_right]
      have hk := H.out.1
      have hbn := H.out.2.2.1
      by_cases h1 : r = 1#64
      · have hb2 : (r != 1#64) = false := by rw [bne_eq_false_iff_eq]; exact h1
        have HF : Hid (N = 1 ∧ (b).toNat < n.toNat ∧ a.toNat * (b).toNat % n.toNat = 1 % n.toNat) := Lib.hid (by
          refine ⟨by rw [← hgr, h1]; rfl, hbn, ?_⟩
          have h5 : (r).toNat = 1 := by rw [h1]; rfl
          exact (cong_mod hk).trans (congrArg (fun z => z % n.toNat) h5))
        clear hk hbn hgr h1 H hx
        go_wp2
        simp only [Exit.jump]
        go_ret2
        exact ⟨_, true, rfl, hn, Or.inl ⟨rfl, HF.out⟩⟩
      · have hb2 : (r != 1#64) = true := by rw [bne_iff_ne]; exact h1
        have HF : Hid (N ≠ 1) := Lib.hid (fun e => h1 (BitVec.eq_of_toNat_eq (by rw [hgr, e]; rfl)))
        clear hk hbn hgr h1 H hx
        go_wp2
        simp only [Exit.jump]
        go_ret2
        exact ⟨0#64, false, by rw [lo_zero]; rfl, hn, Or.inr ⟨rfl, rfl, HF.out⟩⟩
    · have hb1 : (x != 0#64) = true := by rw [bne_iff_ne]; exact hx
      have hxz : ¬ W64 (x) = 0 := by have := pos_of_ne hx; unfold W64; omega
      obtain ⟨b2, eb2⟩ : ∃ z, md ((b).toNat + (n.toNat - (md ((r / (x)).toNat * (nb).toNat) n).toNat % n.toNat)) n = z := ⟨_, rfl⟩
      have HG : Hid (Cong n.toNat (a.toNat * (nb).toNat) (x).toNat ∧ Cong n.toNat (a.toNat * b2.toNat) (r % (x)).toNat ∧ (nb).toNat < n.toNat ∧ Nat.gcd (x).toNat (r % (x)).toNat = N) := Lib.hid (by rw [← eb2]; exact inv_next hn0 HGN.out hx H.out HNB.out)
      have HNB2 : Hid (b2.toNat < n.toNat) := Lib.hid (by rw [← eb2]; exact md_lt hn0)
      have HM : Hid ((W64 (r % (x))).toNat < (W64 (x)).toNat) := Lib.hid (by
        rw [toNat_W64, toNat_W64]; show (r % (x)).toNat < (x).toNat; rw [BitVec.toNat_umod]; exact Nat.mod_lt _ (pos_of_ne hx))
      have HS : Hid (∀ w, Calls Tryd.prog 42 #[.int .u64 (W64 b), .int .u64 (W64 (md ((r / (x)).toNat * (nb).toNat) n)), .int .u64 (W64 n)] w fun e w' => e = .returned (.int .u64 (W64 b2)) ∧ New w w') := Lib.hid (by
        rw [← eb2]
        intro w
        have h := msub_any (b) (md ((r / (x)).toNat * (nb).toNat) n) n w
        exact h)
      clear eb2
      clear hx H
      go_wp2
      go_quiet (fail)
      go_wp2_with fail
      refine (mmul_any _ _ _ _).mono ?_
      rintro e w2 ⟨rfl, hn2⟩
      go_wp2_with fail
      refine (HS.out _).mono ?_
      rintro e w3 ⟨rfl, hn3⟩
      go_wp2
      go_step3
      exact ⟨rfl, ⟨((hn.drewN nq).trans hn2).trans hn3, _, _, _, _, _, _, _, _, _, _, _, _, _, _, _, _, _, _, _, _, _, _, _, _, _, _, _, _, _, _, _, _, _, rfl, HG, HNB2⟩, HM.out⟩
end Go.Proofs.YtadaaihbeapibaaDoor
