/- Layer 1: the document's decimal digits of a number's bits. -/
import Derived.Test.YtagidgboebjkhaaDoorTxtM
import Derived.Test.YtagidgboebjkhaaDoorBitQ
import Derived.Test.YtagidgboebjkhaaDoorFrame
namespace Go.Bv
open Go Go.RowKit
theorem ten_small1 {i N A B : Nat} (hN : N = A * 10 ^ i + B) (hA : 0 < A) (hN2 : N < 2 ^ 256) : i ≤ 77 := by
  rcases Nat.lt_or_ge 77 i with h | h
  · exfalso
    have h1 : (10 : Nat) ^ 78 ≤ 10 ^ i := Nat.pow_le_pow_right (by omega) (by omega)
    have h2 : 10 ^ i ≤ A * 10 ^ i := Nat.le_mul_of_pos_left _ hA
    have h3 : (2 : Nat) ^ 256 < 10 ^ 78 := by decide
    omega
  · exact h
theorem one_step {i N A B : Nat} (hN : N = A * 10 ^ i + B) (hB : B < 10 ^ i) : N = (A / 10) * 10 ^ (i + 1) + (A % 10 * 10 ^ i + B) ∧ A % 10 * 10 ^ i + B < 10 ^ (i + 1) := by
  have e : 10 ^ (i + 1) = 10 * 10 ^ i := by rw [Nat.pow_succ, Nat.mul_comm]
  refine ⟨?_, ?_⟩
  · rw [hN, e, ← Nat.mul_assoc, ← Nat.add_assoc, ← Nat.add_mul, Nat.mul_comm (A / _), Nat.div_add_mod]
  · rw [e]
    have h1 : A % 10 + 1 ≤ 10 := Nat.mod_lt _ (by omega)
    have h2 := Nat.mul_le_mul_right (10 ^ i) h1
    rw [Nat.add_mul, Nat.one_mul] at h2
    omega
theorem one_last {i N A B : Nat} (hN : N = A * 10 ^ i + B) (hB : B < 10 ^ i) (hi : i = 0 ∨ 0 < A) (hz : A / 10 = 0) : pS 1 (A % 10) ++ pS i B = dS N := by
  have hA : A % 10 = A := Nat.mod_eq_of_lt (by omega)
  have e : pS 1 (A % 10) = dS A := by
    unfold pS dS
    rw [dec_small (by omega), padD, padD, Nat.mod_mod, hA]; rfl
  rw [e, hN]
  exact dS_split _ _ _ hB (by rcases hi with h | h <;> omega)
theorem one_mid (i r B : Nat) (hB : B < 10 ^ i) : pS 1 r ++ pS i B = pS (i + 1) (r * 10 ^ i + B) := by
  rw [pS_split _ _ _ _ hB, Nat.add_comm 1 i]
theorem one_dig (r : Nat) (h : r < 10) : strOfNums [W8 ((48#64 + BitVec.ofNat 64 r).setWidth 8)] = pS 1 r := by
  have e : W8 ((48#64 + BitVec.ofNat 64 r).setWidth 8) = ((48 + r : Nat) : Int) := by
    unfold W8
    rw [BitVec.toNat_setWidth, BitVec.toNat_add, BitVec.toNat_ofNat, BitVec.toNat_ofNat]
    omega
  rw [e]
  unfold pS
  rw [padD, padD, Nat.mod_eq_of_lt h]
  rfl
theorem lenN_zeroT : ∀ n, lenN 0 n = 0 := by
  intro n
  induction n with
  | zero => rfl
  | succ n ih => unfold lenN; simp [ih]
/-- how long a text is -/
def szT : Value → Nat
  | .string s => s.size
  | _ => 0
end Go.Bv
namespace Go.Proofs.YtagidgboebjkhaaDoor
open Go.RowKit Go.Bv
set_option linter.unusedVariables false
set_option maxRecDepth 100000
theorem conv_digT (w : World) (c : BitVec 8) :
    (convert 53 9 (.slice (some ⟨w.heap.size, 0, none⟩) 1 1)).run Tryd.prog (w.alloc (.cells #[.int .u8 (W8 c)] 5)) = .ok (.string (strOfNums [W8 c])) (w.alloc (.cells #[.int .u8 (W8 c)] 5)) :=
  run_convert_bytes_arg (P := Tryd.prog) _ 53 5 Tryd.underlying53 Tryd.underlying5 w.heap.size 0 1 1 [W8 c] rfl
    (by intro i hi; obtain rfl : i = 0 := by omega
        rw [World.cell?_alloc_new]; rfl) 9 Tryd.underlying9
theorem own_bits {w : World} {base : Nat} {v : Value} {n N : Nat} (h : w.ownsRow base 3 1 v n ((bitsOf N n).map fun y => .int .i64 y)) (hn : n ≤ 4096) : ∃ a c, v = .slice a n c ∧ ZRow w a n c (bitsOf N n) :=
  ZRow.of_owns h (by omega) (bitsOf_wf N n)
set_option maxHeartbeats 8000000 in
theorem rtext (N n M : Nat) (hM : max n 8 = M) (h0 : 0 < n) (hn : n ≤ 256) (hN : N < 2 ^ n) (a : Option Addr) (c : Nat) (w : World) (h : ZRow w a n c (bitsOf N n)) : Calls Tryd.prog 15 #[.slice a n c] w fun e w' => e = .returned (.string (dS N)) ∧ New w w' := by
  have HOF := Lib.hid (fun w => of_own 10#64 8 8 (by omega) rfl w)
  rw [show W64 10#64 = 10 from by decide, show (10#64 : BitVec 64).toNat = 10 from rfl] at HOF
  have HDV := Lib.hid (fun (A na : Nat) (ra rb : Option Addr) (ca cb : Nat) (w : World) (ha : ZRow w ra n ca (bitsOf A n)) (hA : A < 2 ^ n) (hb : ZRow w rb 8 cb (bitsOf 10 8)) => bdiv_own A 10 n 8 ca cb ra rb M (by omega) hM h0 w ha hA hb (by decide) (by omega))
  have HN2 : Hid (N < 2 ^ 256) := Lib.hid (Nat.lt_of_lt_of_le hN (Nat.pow_le_pow_right (by omega) hn))
  have HNN := Lib.hid hN
  have HM : Hid (8 ≤ M ∧ M ≤ 256) := Lib.hid (by omega)
  have HNL : Hid (n ≤ 4096) := Lib.hid (by omega)
  have HH := Lib.hid h
  have hcv := conv_digT
  clear hM h0 hn hN h
  go_enter Tryd.func15, Tryd.ntmps15
  go_wp2_with fail
  refine (HOF.out _).mono ?_
  rintro e w1 ⟨v, rfl, hv, hn1⟩
  obtain ⟨rb, cb, rfl, hb⟩ := own_bits hv (by omega)
  have HTEN := Lib.hid hb
  have HH1 := Lib.hid (HH.out.stay hn1)
  have HN1 := Lib.hid hn1
  clear hv hb hn1 HOF
  go_wp2_with fail
  go_loopw [0, 4] (fun r s wr => ∃ (i B A : Nat) (ra : Option Addr) (ca : Nat), s = .string (pS i B) ∧ r = .slice ra n ca ∧ Hid (N = A * 10 ^ i + B ∧ B < 10 ^ i ∧ (i = 0 ∨ 0 < A) ∧ A < 2 ^ n) ∧ Hid (ZRow wr ra n ca (bitsOf A n)) ∧ Hid (New w1 wr)) (fun _ s _ => 200 - szT s)
  case atStart => exact ⟨0, 0, N, _, _, rfl, rfl, Lib.hid ⟨by omega, by decide, .inl rfl, HNN.out⟩, HH1, Lib.hid (New.refl _)⟩
  case round =>
    obtain ⟨i, B, A, ra, ca, rfl, rfl, HI, HR, HN⟩ := hrel
    have HD := Lib.hid (HDV.out A n ra rb ca cb wr HR.out HI.out.2.2.2 (HTEN.out.stay HN.out))
    go_wp2_with fail
    refine HD.out.mono ?_
    rintro e w2 ⟨v, v', rfl, hv, hv', hn2⟩
    obtain ⟨qa, qc, rfl, hq⟩ := own_bits hv HNL.out
    obtain ⟨pa, pc, rfl, hp⟩ := own_bits hv' (by have := HM.out; omega)
    have HQ := Lib.hid hq
    have hrest : A % 10 < 2 ^ (M + 1) := by
      have h1 : A % 10 < 10 := Nat.mod_lt _ (by omega)
      have h2 : 2 ^ 4 ≤ 2 ^ (M + 1) := Nat.pow_le_pow_right (by omega) (by have := HM.out; omega)
      have h3 : (2 : Nat) ^ 4 = 16 := by decide
      omega
    have HW := Lib.hid (word_any (A % 10) (M + 1) pc 0 pa w2 hp hrest (by omega))
    rw [Nat.pow_zero, Nat.div_one] at HW
    clear hrest
    replace HN := Lib.hid (HN.out.trans hn2)
    clear hv hv' hq hp hn2 HD
    go_wp2_with fail
    refine HW.out.mono ?_
    rintro e w3 ⟨rfl, rfl⟩
    have HLN := Lib.hid (blen_any (A / 10) n qc qa (w3.alloc (.cells #[.int .u8 (W8 ((48#64 + BitVec.ofNat 64 (A % 10)).setWidth 8))] 5)) (HQ.out.stay ((New.refl _).alloc _)))
    have h10 : A % 10 < 10 := Nat.mod_lt _ (by omega)
    have HDG := Lib.hid (one_dig (A % 10) h10)
    have hs1 := pS_size i B
    have hs2 : (strOfNums [W8 ((48#64 + BitVec.ofNat 64 (A % 10)).setWidth 8)]).size = 1 := by rw [HDG.out, pS_size]
    have HNA : Hid (New w1 (w3.alloc (.cells #[.int .u8 (W8 ((48#64 + BitVec.ofNat 64 (A % 10)).setWidth 8))] 5))) := Lib.hid (HN.out.alloc _)
    have HQA : Hid (ZRow (w3.alloc (.cells #[.int .u8 (W8 ((48#64 + BitVec.ofNat 64 (A % 10)).setWidth 8))] 5)) qa n qc (bitsOf (A / 10) n)) := Lib.hid (HQ.out.stay ((New.refl _).alloc _))
    have hi78 : i ≤ 78 := by
      rcases HI.out.2.2.1 with h | h
      · omega
      · have := ten_small1 HI.out.1 h HN2.out; omega
    have hsz : ¬ 9223372036854775807 < (strOfNums [W8 ((48#64 + BitVec.ofNat 64 (A % 10)).setWidth 8)]).size + (pS i B).size := by omega
    by_cases hz : A / 10 = 0
    · have HV := Lib.hid (one_last HI.out.1 HI.out.2.1 HI.out.2.2.1 hz)
      have hl0 : lenN (A / 10) n = 0 := by rw [hz]; exact lenN_zeroT n
      rw [hl0] at HLN
      clear hz hs1 hs2 hi78 h10 hl0
      go_wp2_with fail
      refine HLN.out.mono ?_
      rintro e w4 ⟨rfl, rfl⟩
      go_wp2
      go_ret
      exact ⟨by rw [← HV.out, ← HDG.out]; rfl, HN1.out.trans HNA.out⟩
    · have hA2 : A / 10 < 2 ^ n := Nat.lt_of_le_of_lt (Nat.div_le_self _ _) HI.out.2.2.2
      have hl0 : ((lenN (A / 10) n : Int) == 0) = false := by rw [beq_eq_false_iff_ne]; have := lenN_pos hA2 hz; omega
      obtain ⟨g1, g2⟩ := one_step HI.out.1 HI.out.2.1
      have HM2 := Lib.hid (one_mid i (A % 10) B HI.out.2.1)
      have HI2 : Hid (N = (A / 10) * 10 ^ (i + 1) + (A % 10 * 10 ^ i + B) ∧ A % 10 * 10 ^ i + B < 10 ^ (i + 1) ∧ (i + 1 = 0 ∨ 0 < A / 10) ∧ A / 10 < 2 ^ n) := Lib.hid ⟨g1, g2, .inr (by omega), hA2⟩
      have HI8 := Lib.hid hi78
      clear hz hs1 hs2 hi78 h10 hA2 g1 g2
      go_wp2_with fail
      refine HLN.out.mono ?_
      rintro e w4 ⟨rfl, rfl⟩
      go_wp2
      refine ⟨⟨i + 1, _, A / 10, qa, qc, by rw [HDG.out, HM2.out], rfl, HI2, HQA, HNA⟩, ?_⟩
      rw [HDG.out, HM2.out]
      show 200 - (pS _ _).size < 200 - (pS _ _).size
      rw [pS_size, pS_size]
      have := HI8.out
      omega
end Go.Proofs.YtagidgboebjkhaaDoor
