/- Layer 22: checkRows, where nothing is wrong. -/
import Derived.Test.YtadkbpdbbgjkgaaTabS
import Derived.Test.YtadkbpdbbgjkgaaTabR
namespace Go.Proofs.Ytadkbpdbbgjkgaa
open Go Go.RowKit Go.Bv Go.Tab
set_option linter.unusedVariables false
set_option maxRecDepth 100000
theorem xs_sm (l : List (BitVec 64)) (R : Nat → List Int) (i : Nat) : ∀ m : Nat, xs l (R i) m = sm (fun j => l.getD j 0) (rn R i) m
  | 0 => rfl
  | m + 1 => by
    show xs l (R i) m ^^^ _ = sm _ (rn R i) m ^^^ _
    rw [xs_sm l R i m]; rfl
theorem Rws.get2 {w : World} {g gf n m : Nat} {R : Nat → List Int} (h : Rws w g gf n m R) {i : Nat} (hi : i < n) : ∃ a c, (∀ w', New w w' → w'.cell? ⟨g, gf + i, none⟩ = some (.slice a m c)) ∧ ZRow w a m c (R i) := by
  obtain ⟨a, c, e, hz⟩ := h i hi
  exact ⟨a, c, fun w' hn => zcell e hn, hz⟩
set_option maxHeartbeats 8000000 in
theorem check_rows_ok (a : Option Addr) (nw ca : Nat) (l : List (BitVec 64)) (g gf n cg m : Nat) (hcg : n ≤ cg) (hn : n ≤ 3) (hn0 : 0 < n) (hm0 : 0 < m) (hm : m ≤ 17592186044416) (R : Nat → List Int) (hf : ∀ i, i < n → fitE l.length (R i) = 0) (hd : ∀ i j, i < n → j < n → i ≠ j → R i ≠ R j) (b : Option Addr) (cb : Nat) (w : World) (ha : QRow w a nw ca l) (h : Rws w g gf n m R) :
    Calls Try.prog 46 #[.slice a nw ca, .slice (some ⟨g, gf, none⟩) n cg, .slice b n cb] w fun e w' => e = .returned (.int .i64 0) ∧ New w w' := by
  have h1 : ((n : Int) == 0) = false := by rw [beq_eq_false_iff_ne]; omega
  have h2 : ¬ (3 : Int) < (n : Int) := by omega
  have h3 : (0 : Int) < (n : Int) := by omega
  have h4 : ((m : Int) == 0) = false := by rw [beq_eq_false_iff_ne]; omega
  have HA := Lib.hid ha
  have HR := Lib.hid h
  have HF := Lib.hid hf
  have HD := Lib.hid hd
  obtain ⟨a0, c0, f0, y0⟩ := h.get0 hn0
  clear ha h hf hd y0
  go_enter Try.func46, Try.ntmps46
  go_wp2
  go_loopw [41] (fun iv wr => ∃ k : Nat, k ≤ n ∧ iv = .int .i64 (k : Int) ∧ New w wr) (fun iv _ => n - (intOf iv).toNat)
  case atStart => exact ⟨0, Nat.zero_le _, rfl, New.refl _⟩
  case round =>
    obtain ⟨k, hk, rfl, hnew⟩ := hrel
    by_cases hlt : (k : Int) < (n : Int)
    · have hk0 : (0 : Int) ≤ (k : Int) := by omega
      obtain ⟨a1, c1, f1, y1⟩ := (HR.out.stay hnew).get (show k < n by omega)
      obtain ⟨a2, c2, f2, y2⟩ := (HR.out.stay hnew).get0 hn0
      clear y1 y2 f0
      have HN := Lib.hid hnew
      clear hnew
      go_wp2
      exact ⟨⟨k + 1, by omega, by go_num, HN.out⟩, by simp [intOf]; omega⟩
    · obtain rfl : k = n := by omega
      have HN := Lib.hid hnew
      clear hnew f0
      go_wp2
      go_loopw [55] (fun iv wr => ∃ i : Nat, i ≤ k ∧ iv = .int .i64 (i : Int) ∧ New w wr) (fun iv _ => k - (intOf iv).toNat)
      case atStart => exact ⟨0, Nat.zero_le _, rfl, HN.out⟩
      case round =>
        obtain ⟨i, hi2, rfl, hnew⟩ := hrel
        by_cases hlt2 : (i : Int) < (k : Int)
        · have hi0 : (0 : Int) ≤ (i : Int) := by omega
          obtain ⟨a1, c1, f1, y1⟩ := (HR.out.stay hnew).get (show i < k by omega)
          have HS := Lib.hid (fun w' (hn' : New w w') (hz : ZRow w' a1 m c1 (R i)) => sum_any a a1 nw ca m c1 l (R i) w' (HA.out.stay hn') hz)
          rw [HF.out i (by omega)] at HS
          have HY := Lib.hid y1
          have HN2 := Lib.hid hnew
          clear y1 hnew
          go_wp2_with fail
          refine (HS.out _ HN2.out HY.out).mono ?_
          rintro e w5 ⟨rfl, n5⟩
          have HN5 := Lib.hid (HN2.out.trans n5)
          clear n5 HS f1
          go_wp2
          exact ⟨⟨i + 1, by omega, by go_num, HN5.out⟩, by simp [intOf]; omega⟩
        · have HN2 := Lib.hid hnew
          clear hnew
          go_wp2
          go_loopw [71] (fun iv wr => ∃ i : Nat, i ≤ k ∧ iv = .int .i64 (i : Int) ∧ New w wr) (fun iv _ => k - (intOf iv).toNat)
          case atStart => exact ⟨0, Nat.zero_le _, rfl, HN2.out⟩
          case round =>
            obtain ⟨i3, hi3, rfl, hnew⟩ := hrel
            by_cases hlt3 : (i3 : Int) < (k : Int)
            · have hi0 : (0 : Int) ≤ (i3 : Int) := by omega
              have hi0k : (i3 : Int) ≤ (cg : Int) := by omega
              obtain ⟨a1, c1, f1, y1⟩ := HR.out.get2 (show i3 < k by omega)
              replace f1 := f1 _ hnew
              have HY1 := Lib.hid y1
              have HN3 := Lib.hid hnew
              clear hnew y1
              go_wp2
              go_loopw [80] (fun iv wr => ∃ j : Nat, j ≤ i3 ∧ iv = .int .i64 (j : Int) ∧ New w wr) (fun iv _ => i3 - (intOf iv).toNat)
              case atStart => exact ⟨0, Nat.zero_le _, rfl, HN3.out⟩
              case round =>
                obtain ⟨j, hj, rfl, hnew⟩ := hrel
                by_cases hlt4 : (j : Int) < (i3 : Int)
                · have hj0 : (0 : Int) ≤ (j : Int) := by omega
                  obtain ⟨a5, c5, f5, y5⟩ := HR.out.get2 (show j < k by omega)
                  replace f5 := f5 _ hnew
                  have HE := Lib.hid (equal_any a1 a5 m c1 c5 (R i3) (R j) _ (HY1.out.stay hnew) (y5.stay hnew))
                  rw [beq_eq_false_iff_ne.2 (HD.out i3 j (by omega) (by omega) (by omega))] at HE
                  have HN4 := Lib.hid hnew
                  clear hnew y5 f1
                  go_wp2_with fail
                  refine HE.out.mono ?_
                  rintro e w5 ⟨rfl, n5⟩
                  have HN5 := Lib.hid (HN4.out.trans n5)
                  clear n5 HE f5
                  go_wp2
                  exact ⟨⟨j + 1, by omega, by go_num, HN5.out⟩, by simp [intOf]; omega⟩
                · have HN4 := Lib.hid hnew
                  clear hnew f1
                  go_wp2
                  exact ⟨⟨i3 + 1, by omega, by go_num, HN4.out⟩, by simp [intOf]; omega⟩
            · have HN3 := Lib.hid hnew
              clear hnew
              go_wp2
              go_ret
              exact ⟨rfl, HN3.out⟩
end Go.Proofs.Ytadkbpdbbgjkgaa
