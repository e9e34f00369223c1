import Derived.Test.YtebcfbcfipmahaaGreatYFamD
import Derived.Test.YtebcfbcfipmahaaGreatYFamE
/- Layer 27: what is wrong with a seed; how many keys it maps evenly. -/
namespace Go.Proofs.YtebcfbcfipmahaaGreat
open Go.RowKit Go.Bv
set_option linter.unusedVariables false
theorem fos_err (k b : Int) (a : Option Addr) (n c : Nat) (l : List (BitVec 64)) (w : World) (h : QRow w a n c l) (hz : ¬ chF k b l = 0) : Calls Tryz.prog 28 #[.agg (sdc k b a n c)] w fun e w' => e = .returned (.tuple #[.agg fzc, .int .i64 (chF k b l)]) ∧ New w w' := by
  have hl := h.len_eq
  unfold chF at *
  rw [hl] at hz ⊢
  cases hok : okF k
  · rw [hok] at hz
    exact fos_no k b a n c w hok
  rw [hok] at hz
  simp only [Bool.true_eq_false, if_false] at hz ⊢
  by_cases h1 : (n : Int) < lsF k
  · rw [if_pos (.inl h1)] at hz ⊢; exact fos_len1 k b a n c w hok h1
  by_cases h2 : msF k < (n : Int)
  · rw [if_pos (.inr h2)] at hz ⊢; exact fos_len2 k b a n c w hok h1 h2
  rw [if_neg (by omega)] at hz ⊢
  by_cases h3 : b < lbF k
  · rw [if_pos (.inl h3)] at hz ⊢; exact fos_bit1 k b a n c w hok h1 h2 h3
  by_cases h4 : mbF k < b
  · rw [if_pos (.inr h4)] at hz ⊢; exact fos_bit2 k b a n c w hok h1 h2 h3 h4
  rw [if_neg (by omega)] at hz ⊢
  exact fos_bad k b a n c l w h hok h1 h2 h3 h4 hz
theorem chF_ok {k b : Int} {l : List (BitVec 64)} {n : Nat} (hl : l.length = n) (hz : chF k b l = 0) : okF k = true ∧ ¬ (n : Int) < lsF k ∧ ¬ msF k < (n : Int) ∧ ¬ b < lbF k ∧ ¬ mbF k < b ∧ chS k b l = 0 := by
  unfold chF at hz
  rw [hl] at hz
  cases hok : okF k
  · rw [hok] at hz; simp at hz
  rw [hok] at hz
  simp only [Bool.true_eq_false, if_false] at hz
  by_cases h1 : (n : Int) < lsF k ∨ msF k < (n : Int)
  · rw [if_pos h1] at hz; omega
  rw [if_neg h1] at hz
  by_cases h2 : b < lbF k ∨ mbF k < b
  · rw [if_pos h2] at hz; omega
  rw [if_neg h2] at hz
  exact ⟨rfl, by omega, by omega, by omega, by omega, hz⟩
theorem fos_fine (k b : Int) (a : Option Addr) (n c : Nat) (l : List (BitVec 64)) (w : World) (h : QRow w a n c l) (hz : chF k b l = 0) : Calls Tryz.prog 28 #[.agg (sdc k b a n c)] w fun e w' => (∃ f : Fm, e = .returned (.tuple #[.agg f.cells, .int .i64 0]) ∧ OwnF w.heap.size w' k f) ∧ New w w' := by
  obtain ⟨hok, h1, h2, h3, h4, h5⟩ := chF_ok h.len_eq hz
  exact fos_ok k b a n c l w h hok h1 h2 h3 h4 h5
set_option maxHeartbeats 1000000 in
theorem check_27 (k b : Int) (a : Option Addr) (n c : Nat) (l : List (BitVec 64)) (w : World) (h : QRow w a n c l) : Calls Tryz.prog 17 #[.agg (sdc k b a n c)] w fun e w' => e = .returned (.int .i64 (chF k b l)) ∧ New w w' := by
  generalize hW : w.alloc (.cells (sdc k b a n c) 30) = w0
  have HB : Hid (w0.heap[w.heap.size]? = some (.cells (sdc k b a n c) 30 (0, 0))) := Lib.hid (by rw [← hW]; exact heap_alloc_new w _)
  have HN : Hid (New w w0) := Lib.hid (by rw [← hW]; exact (New.refl w).alloc _)
  have HROW := Lib.hid (h.stay HN.out)
  by_cases hz : chF k b l = 0
  · have HF := Lib.hid (fos_fine k b a n c l w0 HROW.out hz)
    rw [hz]
    clear hz
    have c0 := cell_of_row _ _ 0 _ _ _ HB.out
    have c1 := cell_of_row _ _ 1 _ _ _ HB.out
    have c2 := cell_of_row _ _ 2 _ _ _ HB.out
    go_enter Tryz.func17, Tryz.ntmps17
    go_wp2_with fail
    refine HF.out.mono ?_
    rintro e w1 ⟨⟨f, rfl, hg⟩, hn⟩
    have HN1 := Lib.hid (HN.out.trans hn)
    clear HF hn c0 c1 c2
    have hfm := hg.now.form
    clear hg
    obtain ⟨nm, ls, ms, lb, mb, ky, ck, tg, ev, sh⟩ := f
    dsimp only at hfm
    rcases hfm with ⟨u0, u1, u2, u3, p, q, r, s, rfl, rfl, rfl, rfl⟩ | ⟨u0, u1, u2, p, q, r, rfl, rfl, rfl, rfl⟩
    all_goals
      go_wp2
      go_ret
      exact ⟨rfl, HN1.out.alloc _⟩
  ·
    have HF := Lib.hid (fos_err k b a n c l w0 HROW.out hz)
    have hzb : (chF k b l != 0) = true := by rw [bne_iff_ne]; exact hz
    clear hz
    have c0 := cell_of_row _ _ 0 _ _ _ HB.out
    have c1 := cell_of_row _ _ 1 _ _ _ HB.out
    have c2 := cell_of_row _ _ 2 _ _ _ HB.out
    go_enter Tryz.func17, Tryz.ntmps17
    go_wp2_with fail
    refine HF.out.mono ?_
    rintro e w1 ⟨rfl, hn⟩
    have HN1 := Lib.hid (HN.out.trans hn)
    clear HF hn c0 c1 c2
    go_wp2
    go_ret
    exact ⟨rfl, HN1.out.alloc _⟩
/-- how many keys a right seed maps evenly -/
def tgK (k : Int) (n : Nat) : Int := if k = 1 then n else if k = 3 ∨ k = 4 then 2 else if k = 5 ∨ k = 6 ∨ k = 7 then 3 else 0
theorem tg_poly (k b : Int) (a : Option Addr) (n c : Nat) (w : World) : Calls Tryz.prog 72 #[.agg (sdc k b a n c)] w fun e w' => e = .returned (.int .i64 n) ∧ New w w' := by
  go_enter Tryz.func72, Tryz.ntmps72
  go_wp2
  go_ret
  exact ⟨rfl, (New.refl w).alloc _⟩
theorem tg_const (k b : Int) (a : Option Addr) (n c : Nat) (m : Int) (g : Nat) (w : World) (hg : w.heap[g]? = some (.cells #[.int .i64 m] 3 (0, 0))) : Calls Tryz.prog 124 #[.agg (sdc k b a n c), .pointer (some ⟨g, 0, none⟩)] w fun e w' => e = .returned (.int .i64 m) ∧ New w w' := by
  have h0 := cell_of_row _ _ 0 _ _ _ (((New.refl w).alloc (.cells (sdc k b a n c) 30)).block _ (lt_of_block hg) |>.trans hg)
  clear hg
  go_enter Tryz.func124, Tryz.ntmps124
  go_wp2
  go_ret
  exact ⟨rfl, (New.refl w).alloc _⟩
set_option maxHeartbeats 2000000 in
theorem together_27 (k b : Int) (a : Option Addr) (n c : Nat) (l : List (BitVec 64)) (w : World) (h : QRow w a n c l) : Calls Tryz.prog 19 #[.agg (sdc k b a n c)] w fun e w' => e = .returned (.int .i64 (if chF k b l = 0 then tgK k n else 0)) ∧ New w w' := by
  generalize hW : w.alloc (.cells (sdc k b a n c) 30) = w0
  have HB : Hid (w0.heap[w.heap.size]? = some (.cells (sdc k b a n c) 30 (0, 0))) := Lib.hid (by rw [← hW]; exact heap_alloc_new w _)
  have HN : Hid (New w w0) := Lib.hid (by rw [← hW]; exact (New.refl w).alloc _)
  have HROW := Lib.hid (h.stay HN.out)
  by_cases hz : chF k b l = 0
  · have HF := Lib.hid (fos_fine k b a n c l w0 HROW.out hz)
    rw [if_pos hz]
    clear hz
    have c0 := cell_of_row _ _ 0 _ _ _ HB.out
    have c1 := cell_of_row _ _ 1 _ _ _ HB.out
    have c2 := cell_of_row _ _ 2 _ _ _ HB.out
    go_enter Tryz.func19, Tryz.ntmps19
    go_wp2_with fail
    refine HF.out.mono ?_
    rintro e w1 ⟨⟨f, rfl, hg⟩, hn⟩
    have HN1 := Lib.hid (HN.out.trans hn)
    have hI := hg.now
    clear HF c0 c1 c2
    cases hI with
    | poly =>
      have hs := ((hn.alloc (.cells #[.string (nmF 1), .int .i64 (lsF 1), .int .i64 (msF 1), .int .i64 (lbF 1), .int .i64 (mbF 1), .int .i64 (kyF 1), (.func (Fn.func 70) #[] #[]), (.func (Fn.func 72) #[] #[]), (.func (Fn.func 73) #[] #[]), (.func (Fn.func 75) #[] #[])] 52)).block _ (lt_of_block HB.out)).trans HB.out
      have s0 := cell_of_row _ _ 0 _ _ _ hs
      have s1 := cell_of_row _ _ 1 _ _ _ hs
      have s2 := cell_of_row _ _ 2 _ _ _ hs
      have HCK := Lib.hid (tg_poly 1 b a n c (w1.alloc (.cells #[.string (nmF 1), .int .i64 (lsF 1), .int .i64 (msF 1), .int .i64 (lbF 1), .int .i64 (mbF 1), .int .i64 (kyF 1), (.func (Fn.func 70) #[] #[]), (.func (Fn.func 72) #[] #[]), (.func (Fn.func 73) #[] #[]), (.func (Fn.func 75) #[] #[])] 52)))
      clear hg hn hs
      go_wp2_with fail
      refine HCK.out.mono ?_
      rintro e w2 ⟨rfl, hn2⟩
      have HN2 := Lib.hid ((HN1.out.alloc _).trans hn2)
      clear hn2
      go_wp2
      go_ret
      refine ⟨?_, HN2.out⟩
      rfl
    | odd bq hq =>
      have hs := ((hn.alloc (.cells #[.string (nmF 2), .int .i64 (lsF 2), .int .i64 (msF 2), .int .i64 (lbF 2), .int .i64 (mbF 2), .int .i64 (kyF 2), (.func (Fn.func 77) #[] #[]), (.func (Fn.func 124) #[] #[.pointer (some ⟨bq, 0, none⟩)]), (.func (Fn.func 80) #[] #[]), .nilFunc] 52)).block _ (lt_of_block HB.out)).trans HB.out
      have s0 := cell_of_row _ _ 0 _ _ _ hs
      have s1 := cell_of_row _ _ 1 _ _ _ hs
      have s2 := cell_of_row _ _ 2 _ _ _ hs
      have HCK := Lib.hid (tg_const 2 b a n c 0 bq (w1.alloc (.cells #[.string (nmF 2), .int .i64 (lsF 2), .int .i64 (msF 2), .int .i64 (lbF 2), .int .i64 (mbF 2), .int .i64 (kyF 2), (.func (Fn.func 77) #[] #[]), (.func (Fn.func 124) #[] #[.pointer (some ⟨bq, 0, none⟩)]), (.func (Fn.func 80) #[] #[]), .nilFunc] 52)) (((New.refl w1).alloc (.cells #[.string (nmF 2), .int .i64 (lsF 2), .int .i64 (msF 2), .int .i64 (lbF 2), .int .i64 (mbF 2), .int .i64 (kyF 2), (.func (Fn.func 77) #[] #[]), (.func (Fn.func 124) #[] #[.pointer (some ⟨bq, 0, none⟩)]), (.func (Fn.func 80) #[] #[]), .nilFunc] 52)).block _ (lt_of_block hq) |>.trans hq))
      clear hg hn hs
      go_wp2_with fail
      refine HCK.out.mono ?_
      rintro e w2 ⟨rfl, hn2⟩
      have HN2 := Lib.hid ((HN1.out.alloc _).trans hn2)
      clear hn2
      go_wp2
      go_ret
      refine ⟨?_, HN2.out⟩
      rfl
    | str bq hq =>
      have hs := ((hn.alloc (.cells #[.string (nmF 8), .int .i64 (lsF 8), .int .i64 (msF 8), .int .i64 (lbF 8), .int .i64 (mbF 8), .int .i64 (kyF 8), (.func (Fn.func 105) #[] #[]), (.func (Fn.func 124) #[] #[.pointer (some ⟨bq, 0, none⟩)]), (.func (Fn.func 106) #[] #[]), .nilFunc] 52)).block _ (lt_of_block HB.out)).trans HB.out
      have s0 := cell_of_row _ _ 0 _ _ _ hs
      have s1 := cell_of_row _ _ 1 _ _ _ hs
      have s2 := cell_of_row _ _ 2 _ _ _ hs
      have HCK := Lib.hid (tg_const 8 b a n c 0 bq (w1.alloc (.cells #[.string (nmF 8), .int .i64 (lsF 8), .int .i64 (msF 8), .int .i64 (lbF 8), .int .i64 (mbF 8), .int .i64 (kyF 8), (.func (Fn.func 105) #[] #[]), (.func (Fn.func 124) #[] #[.pointer (some ⟨bq, 0, none⟩)]), (.func (Fn.func 106) #[] #[]), .nilFunc] 52)) (((New.refl w1).alloc (.cells #[.string (nmF 8), .int .i64 (lsF 8), .int .i64 (msF 8), .int .i64 (lbF 8), .int .i64 (mbF 8), .int .i64 (kyF 8), (.func (Fn.func 105) #[] #[]), (.func (Fn.func 124) #[] #[.pointer (some ⟨bq, 0, none⟩)]), (.func (Fn.func 106) #[] #[]), .nilFunc] 52)).block _ (lt_of_block hq) |>.trans hq))
      clear hg hn hs
      go_wp2_with fail
      refine HCK.out.mono ?_
      rintro e w2 ⟨rfl, hn2⟩
      have HN2 := Lib.hid ((HN1.out.alloc _).trans hn2)
      clear hn2
      go_wp2
      go_ret
      refine ⟨?_, HN2.out⟩
      rfl
    | sum k hk bq b9 hq h9 =>
      have hs := ((hn.alloc (.cells #[.string (nmF k), .int .i64 (lsF k), .int .i64 (msF k), .int .i64 (lbF k), .int .i64 (mbF k), .int .i64 (kyF k), (.func (Fn.func 82) #[] #[]), (.func (Fn.func 124) #[] #[.pointer (some ⟨bq, 0, none⟩)]), (.func (Fn.func 83) #[] #[]), (.func (Fn.func 86) #[] #[.pointer (some ⟨b9, 0, none⟩)])] 52)).block _ (lt_of_block HB.out)).trans HB.out
      have s0 := cell_of_row _ _ 0 _ _ _ hs
      have s1 := cell_of_row _ _ 1 _ _ _ hs
      have s2 := cell_of_row _ _ 2 _ _ _ hs
      have HCK := Lib.hid (tg_const k b a n c 2 bq (w1.alloc (.cells #[.string (nmF k), .int .i64 (lsF k), .int .i64 (msF k), .int .i64 (lbF k), .int .i64 (mbF k), .int .i64 (kyF k), (.func (Fn.func 82) #[] #[]), (.func (Fn.func 124) #[] #[.pointer (some ⟨bq, 0, none⟩)]), (.func (Fn.func 83) #[] #[]), (.func (Fn.func 86) #[] #[.pointer (some ⟨b9, 0, none⟩)])] 52)) (((New.refl w1).alloc (.cells #[.string (nmF k), .int .i64 (lsF k), .int .i64 (msF k), .int .i64 (lbF k), .int .i64 (mbF k), .int .i64 (kyF k), (.func (Fn.func 82) #[] #[]), (.func (Fn.func 124) #[] #[.pointer (some ⟨bq, 0, none⟩)]), (.func (Fn.func 83) #[] #[]), (.func (Fn.func 86) #[] #[.pointer (some ⟨b9, 0, none⟩)])] 52)).block _ (lt_of_block hq) |>.trans hq))
      clear hg hn hs
      go_wp2_with fail
      refine HCK.out.mono ?_
      rintro e w2 ⟨rfl, hn2⟩
      have HN2 := Lib.hid ((HN1.out.alloc _).trans hn2)
      clear hn2
      go_wp2
      go_ret
      refine ⟨?_, HN2.out⟩
      have ek : tgK k n = 2 := by unfold tgK; rw [if_neg (by omega), if_pos hk]
      rw [ek]; rfl
    | table k hk bq be bs hq he hs2 =>
      have hs := ((hn.alloc (.cells #[.string (nmF k), .int .i64 (lsF k), .int .i64 (msF k), .int .i64 (lbF k), .int .i64 (mbF k), .int .i64 (kyF k), (.func (Fn.func 82) #[] #[]), (.func (Fn.func 124) #[] #[.pointer (some ⟨bq, 0, none⟩)]), (.func (Fn.func 88) #[] #[.pointer (some ⟨be, 0, none⟩)]), (.func (Fn.func 89) #[] #[.pointer (some ⟨bs, 0, none⟩)])] 52)).block _ (lt_of_block HB.out)).trans HB.out
      have s0 := cell_of_row _ _ 0 _ _ _ hs
      have s1 := cell_of_row _ _ 1 _ _ _ hs
      have s2 := cell_of_row _ _ 2 _ _ _ hs
      have HCK := Lib.hid (tg_const k b a n c 3 bq (w1.alloc (.cells #[.string (nmF k), .int .i64 (lsF k), .int .i64 (msF k), .int .i64 (lbF k), .int .i64 (mbF k), .int .i64 (kyF k), (.func (Fn.func 82) #[] #[]), (.func (Fn.func 124) #[] #[.pointer (some ⟨bq, 0, none⟩)]), (.func (Fn.func 88) #[] #[.pointer (some ⟨be, 0, none⟩)]), (.func (Fn.func 89) #[] #[.pointer (some ⟨bs, 0, none⟩)])] 52)) (((New.refl w1).alloc (.cells #[.string (nmF k), .int .i64 (lsF k), .int .i64 (msF k), .int .i64 (lbF k), .int .i64 (mbF k), .int .i64 (kyF k), (.func (Fn.func 82) #[] #[]), (.func (Fn.func 124) #[] #[.pointer (some ⟨bq, 0, none⟩)]), (.func (Fn.func 88) #[] #[.pointer (some ⟨be, 0, none⟩)]), (.func (Fn.func 89) #[] #[.pointer (some ⟨bs, 0, none⟩)])] 52)).block _ (lt_of_block hq) |>.trans hq))
      clear hg hn hs
      go_wp2_with fail
      refine HCK.out.mono ?_
      rintro e w2 ⟨rfl, hn2⟩
      have HN2 := Lib.hid ((HN1.out.alloc _).trans hn2)
      clear hn2
      go_wp2
      go_ret
      refine ⟨?_, HN2.out⟩
      have ek : tgK k n = 3 := by unfold tgK; rw [if_neg (by omega), if_neg (by omega), if_pos hk]
      rw [ek]; rfl
  · rw [if_neg hz]
    have HF := Lib.hid (fos_err k b a n c l w0 HROW.out hz)
    have hzb : (chF k b l != 0) = true := by rw [bne_iff_ne]; exact hz
    clear hz
    have c0 := cell_of_row _ _ 0 _ _ _ HB.out
    have c1 := cell_of_row _ _ 1 _ _ _ HB.out
    have c2 := cell_of_row _ _ 2 _ _ _ HB.out
    go_enter Tryz.func19, Tryz.ntmps19
    go_wp2_with fail
    refine HF.out.mono ?_
    rintro e w1 ⟨rfl, hn⟩
    have HN1 := Lib.hid (HN.out.trans hn)
    clear HF hn c0 c1 c2
    go_wp2
    go_ret
    exact ⟨rfl, HN1.out.alloc _⟩
end Go.Proofs.YtebcfbcfipmahaaGreat
