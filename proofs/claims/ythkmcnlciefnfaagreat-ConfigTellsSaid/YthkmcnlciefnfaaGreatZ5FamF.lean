import Derived.Test.YthkmcnlciefnfaaGreatZ5FamD
import Derived.Test.YthkmcnlciefnfaaGreatZ5FamE
/- Layer 27: what is wrong with a seed; how many keys it maps evenly. -/
namespace Go.Proofs.YthkmcnlciefnfaaGreat
open Go.RowKit Go.Bv
set_option linter.unusedVariables false
theorem fos_err (k b : Int) (a : Option Addr) (n c : Nat) (l : List (BitVec 64)) (w : World) (h : QRow w a n c l) (hz : ¬ chF k b l = 0) : Calls Tryz.prog 52 #[.agg (sdc k b a n c)] w fun e w' => e = .returned (.tuple #[.agg fzc, .int .i64 (chF k b l)]) ∧ New w w' := by
  have hl := h.len_eq
  unfold chF at *
  rw [hl] at hz ⊢
  cases hok : okF k
  · rw [hok] at hz
    exact fos_no k b a n c w hok
  rw [hok] at hz
  simp only [Bool.true_eq_false, if_false] at hz ⊢
  by_cases h1 : (n : Int) < lsF k
  · rw [if_pos (.inl h1)] at hz ⊢; exact fos_len1 k b a n c w hok h1
  by_cases h2 : msF k < (n : Int)
  · rw [if_pos (.inr h2)] at hz ⊢; exact fos_len2 k b a n c w hok h1 h2
  rw [if_neg (by omega)] at hz ⊢
  by_cases h3 : b < lbF k
  · rw [if_pos (.inl h3)] at hz ⊢; exact fos_bit1 k b a n c w hok h1 h2 h3
  by_cases h4 : mbF k < b
  · rw [if_pos (.inr h4)] at hz ⊢; exact fos_bit2 k b a n c w hok h1 h2 h3 h4
  rw [if_neg (by omega)] at hz ⊢
  exact fos_bad k b a n c l w h hok h1 h2 h3 h4 hz
theorem chF_ok {k b : Int} {l : List (BitVec 64)} {n : Nat} (hl : l.length = n) (hz : chF k b l = 0) : okF k = true ∧ ¬ (n : Int) < lsF k ∧ ¬ msF k < (n : Int) ∧ ¬ b < lbF k ∧ ¬ mbF k < b ∧ chS k b l = 0 := by
  unfold chF at hz
  rw [hl] at hz
  cases hok : okF k
  · rw [hok] at hz; simp at hz
  rw [hok] at hz
  simp only [Bool.true_eq_false, if_false] at hz
  by_cases h1 : (n : Int) < lsF k ∨ msF k < (n : Int)
  · rw [if_pos h1] at hz; omega
  rw [if_neg h1] at hz
  by_cases h2 : b < lbF k ∨ mbF k < b
  · rw [if_pos h2] at hz; omega
  rw [if_neg h2] at hz
  exact ⟨rfl, by omega, by omega, by omega, by omega, hz⟩
theorem fos_fine (k b : Int) (a : Option Addr) (n c : Nat) (l : List (BitVec 64)) (w : World) (h : QRow w a n c l) (hz : chF k b l = 0) : Calls Tryz.prog 52 #[.agg (sdc k b a n c)] w fun e w' => (∃ f : Fm, e = .returned (.tuple #[.agg f.cells, .int .i64 0]) ∧ OwnF w.heap.size w' k f) ∧ New w w' := by
  obtain ⟨hok, h1, h2, h3, h4, h5⟩ := chF_ok h.len_eq hz
  exact fos_ok k b a n c l w h hok h1 h2 h3 h4 h5
set_option maxHeartbeats 1000000 in
theorem check_27 (k b : Int) (a : Option Addr) (n c : Nat) (l : List (BitVec 64)) (w : World) (h : QRow w a n c l) : Calls Tryz.prog 45 #[.agg (sdc k b a n c)] w fun e w' => e = .returned (.int .i64 (chF k b l)) ∧ New w w' := by
  generalize hW : w.alloc (.cells (sdc k b a n c) 58) = w0
  have HB : Hid (w0.heap[w.heap.size]? = some (.cells (sdc k b a n c) 58 (0, 0))) := Lib.hid (by rw [← hW]; exact heap_alloc_new w _)
  have HN : Hid (New w w0) := Lib.hid (by rw [← hW]; exact (New.refl w).alloc _)
  have HROW := Lib.hid (h.stay HN.out)
  by_cases hz : chF k b l = 0
  · have HF := Lib.hid (fos_fine k b a n c l w0 HROW.out hz)
    rw [hz]
    clear hz
    have c0 := cell_of_row _ _ 0 _ _ _ HB.out
    have c1 := cell_of_row _ _ 1 _ _ _ HB.out
    have c2 := cell_of_row _ _ 2 _ _ _ HB.out
    go_enter Tryz.func45, Tryz.ntmps45
    go_wp2_with fail
    refine HF.out.mono ?_
    rintro e w1 ⟨⟨f, rfl, hg⟩, hn⟩
    have HN1 := Lib.hid (HN.out.trans hn)
    clear HF hn c0 c1 c2
    have hfm := hg.now.form
    clear hg
    obtain ⟨nm, ls, ms, lb, mb, ky, ck, tg, ev, sh⟩ := f
    dsimp only at hfm
    rcases hfm with ⟨u0, u1, u2, u3, p, q, r, s, rfl, rfl, rfl, rfl⟩ | ⟨u0, u1, u2, p, q, r, rfl, rfl, rfl, rfl⟩
    all_goals
      go_wp2
      go_ret
      exact ⟨rfl, HN1.out.alloc _⟩
  ·
    have HF := Lib.hid (fos_err k b a n c l w0 HROW.out hz)
    have hzb : (chF k b l != 0) = true := by rw [bne_iff_ne]; exact hz
    clear hz
    have c0 := cell_of_row _ _ 0 _ _ _ HB.out
    have c1 := cell_of_row _ _ 1 _ _ _ HB.out
    have c2 := cell_of_row _ _ 2 _ _ _ HB.out
    go_enter Tryz.func45, Tryz.ntmps45
    go_wp2_with fail
    refine HF.out.mono ?_
    rintro e w1 ⟨rfl, hn⟩
    have HN1 := Lib.hid (HN.out.trans hn)
    clear HF hn c0 c1 c2
    go_wp2
    go_ret
    exact ⟨rfl, HN1.out.alloc _⟩
/-- how many keys a right seed maps evenly -/
def tgK (k : Int) (n : Nat) : Int := if k = 1 then n else if k = 3 ∨ k = 4 then 2 else if k = 5 ∨ k = 6 ∨ k = 7 then 3 else 0
end Go.Proofs.YthkmcnlciefnfaaGreat
