import Derived.Test.YtebcfbcfipmahaaGreatZ3FamD
import Derived.Test.YtebcfbcfipmahaaGreatZ3FamE
import Derived.Test.YtebcfbcfipmahaaGreatZ3MadD
import Derived.Test.YtebcfbcfipmahaaGreatZ3PolE
import Derived.Test.YtebcfbcfipmahaaGreatZ3MxB
import Derived.Test.YtebcfbcfipmahaaGreatZ3FamC
section
/- Layer 27: what is wrong with a seed; how many keys it maps evenly. -/
namespace Go.Proofs.YtebcfbcfipmahaaGreat
open Go.RowKit Go.Bv
set_option linter.unusedVariables false
theorem fos_err (k b : Int) (a : Option Addr) (n c : Nat) (l : List (BitVec 64)) (w : World) (h : QRow w a n c l) (hz : ¬ chF k b l = 0) : Calls Tryz.prog 28 #[.agg (sdc k b a n c)] w fun e w' => e = .returned (.tuple #[.agg fzc, .int .i64 (chF k b l)]) ∧ New w w' := by
  have hl := h.len_eq
  unfold chF at *
  rw [hl] at hz ⊢
  cases hok : okF k
  · rw [hok] at hz
    exact fos_no k b a n c w hok
  rw [hok] at hz
  simp only [Bool.true_eq_false, if_false] at hz ⊢
  by_cases h1 : (n : Int) < lsF k
  · rw [if_pos (.inl h1)] at hz ⊢; exact fos_len1 k b a n c w hok h1
  by_cases h2 : msF k < (n : Int)
  · rw [if_pos (.inr h2)] at hz ⊢; exact fos_len2 k b a n c w hok h1 h2
  rw [if_neg (by omega)] at hz ⊢
  by_cases h3 : b < lbF k
  · rw [if_pos (.inl h3)] at hz ⊢; exact fos_bit1 k b a n c w hok h1 h2 h3
  by_cases h4 : mbF k < b
  · rw [if_pos (.inr h4)] at hz ⊢; exact fos_bit2 k b a n c w hok h1 h2 h3 h4
  rw [if_neg (by omega)] at hz ⊢
  exact fos_bad k b a n c l w h hok h1 h2 h3 h4 hz
theorem chF_ok {k b : Int} {l : List (BitVec 64)} {n : Nat} (hl : l.length = n) (hz : chF k b l = 0) : okF k = true ∧ ¬ (n : Int) < lsF k ∧ ¬ msF k < (n : Int) ∧ ¬ b < lbF k ∧ ¬ mbF k < b ∧ chS k b l = 0 := by
  unfold chF at hz
  rw [hl] at hz
  cases hok : okF k
  · rw [hok] at hz; simp at hz
  rw [hok] at hz
  simp only [Bool.true_eq_false, if_false] at hz
  by_cases h1 : (n : Int) < lsF k ∨ msF k < (n : Int)
  · rw [if_pos h1] at hz; omega
  rw [if_neg h1] at hz
  by_cases h2 : b < lbF k ∨ mbF k < b
  · rw [if_pos h2] at hz; omega
  rw [if_neg h2] at hz
  exact ⟨rfl, by omega, by omega, by omega, by omega, hz⟩
theorem fos_fine (k b : Int) (a : Option Addr) (n c : Nat) (l : List (BitVec 64)) (w : World) (h : QRow w a n c l) (hz : chF k b l = 0) : Calls Tryz.prog 28 #[.agg (sdc k b a n c)] w fun e w' => (∃ f : Fm, e = .returned (.tuple #[.agg f.cells, .int .i64 0]) ∧ OwnF w.heap.size w' k f) ∧ New w w' := by
  obtain ⟨hok, h1, h2, h3, h4, h5⟩ := chF_ok h.len_eq hz
  exact fos_ok k b a n c l w h hok h1 h2 h3 h4 h5
/-- how many keys a right seed maps evenly -/
def tgK (k : Int) (n : Nat) : Int := if k = 1 then n else if k = 3 ∨ k = 4 then 2 else if k = 5 ∨ k = 6 ∨ k = 7 then 3 else 0
theorem tg_poly (k b : Int) (a : Option Addr) (n c : Nat) (w : World) : Calls Tryz.prog 72 #[.agg (sdc k b a n c)] w fun e w' => e = .returned (.int .i64 n) ∧ New w w' := by
  go_enter Tryz.func72, Tryz.ntmps72
  go_wp2
  go_ret
  exact ⟨rfl, (New.refl w).alloc _⟩
theorem tg_const (k b : Int) (a : Option Addr) (n c : Nat) (m : Int) (g : Nat) (w : World) (hg : w.heap[g]? = some (.cells #[.int .i64 m] 3 (0, 0))) : Calls Tryz.prog 124 #[.agg (sdc k b a n c), .pointer (some ⟨g, 0, none⟩)] w fun e w' => e = .returned (.int .i64 m) ∧ New w w' := by
  have h0 := cell_of_row _ _ 0 _ _ _ (((New.refl w).alloc (.cells (sdc k b a n c) 30)).block _ (lt_of_block hg) |>.trans hg)
  clear hg
  go_enter Tryz.func124, Tryz.ntmps124
  go_wp2
  go_ret
  exact ⟨rfl, (New.refl w).alloc _⟩
set_option maxHeartbeats 2000000 in
theorem together_27 (k b : Int) (a : Option Addr) (n c : Nat) (l : List (BitVec 64)) (w : World) (h : QRow w a n c l) : Calls Tryz.prog 19 #[.agg (sdc k b a n c)] w fun e w' => e = .returned (.int .i64 (if chF k b l = 0 then tgK k n else 0)) ∧ New w w' := by
  generalize hW : w.alloc (.cells (sdc k b a n c) 30) = w0
  have HB : Hid (w0.heap[w.heap.size]? = some (.cells (sdc k b a n c) 30 (0, 0))) := Lib.hid (by rw [← hW]; exact heap_alloc_new w _)
  have HN : Hid (New w w0) := Lib.hid (by rw [← hW]; exact (New.refl w).alloc _)
  have HROW := Lib.hid (h.stay HN.out)
  by_cases hz : chF k b l = 0
  · have HF := Lib.hid (fos_fine k b a n c l w0 HROW.out hz)
    rw [if_pos hz]
    clear hz
    have c0 := cell_of_row _ _ 0 _ _ _ HB.out
    have c1 := cell_of_row _ _ 1 _ _ _ HB.out
    have c2 := cell_of_row _ _ 2 _ _ _ HB.out
    go_enter Tryz.func19, Tryz.ntmps19
    go_wp2_with fail
    refine HF.out.mono ?_
    rintro e w1 ⟨⟨f, rfl, hg⟩, hn⟩
    have HN1 := Lib.hid (HN.out.trans hn)
    have hI := hg.now
    clear HF c0 c1 c2
    cases hI with
    | poly =>
      have hs := ((hn.alloc (.cells #[.string (nmF 1), .int .i64 (lsF 1), .int .i64 (msF 1), .int .i64 (lbF 1), .int .i64 (mbF 1), .int .i64 (kyF 1), (.func (Fn.func 70) #[] #[]), (.func (Fn.func 72) #[] #[]), (.func (Fn.func 73) #[] #[]), (.func (Fn.func 75) #[] #[])] 52)).block _ (lt_of_block HB.out)).trans HB.out
      have s0 := cell_of_row _ _ 0 _ _ _ hs
      have s1 := cell_of_row _ _ 1 _ _ _ hs
      have s2 := cell_of_row _ _ 2 _ _ _ hs
      have HCK := Lib.hid (tg_poly 1 b a n c (w1.alloc (.cells #[.string (nmF 1), .int .i64 (lsF 1), .int .i64 (msF 1), .int .i64 (lbF 1), .int .i64 (mbF 1), .int .i64 (kyF 1), (.func (Fn.func 70) #[] #[]), (.func (Fn.func 72) #[] #[]), (.func (Fn.func 73) #[] #[]), (.func (Fn.func 75) #[] #[])] 52)))
      clear hg hn hs
      go_wp2_with fail
      refine HCK.out.mono ?_
      rintro e w2 ⟨rfl, hn2⟩
      have HN2 := Lib.hid ((HN1.out.alloc _).trans hn2)
      clear hn2
      go_wp2
      go_ret
      refine ⟨?_, HN2.out⟩
      rfl
    | odd bq hq =>
      have hs := ((hn.alloc (.cells #[.string (nmF 2), .int .i64 (lsF 2), .int .i64 (msF 2), .int .i64 (lbF 2), .int .i64 (mbF 2), .int .i64 (kyF 2), (.func (Fn.func 77) #[] #[]), (.func (Fn.func 124) #[] #[.pointer (some ⟨bq, 0, none⟩)]), (.func (Fn.func 80) #[] #[]), .nilFunc] 52)).block _ (lt_of_block HB.out)).trans HB.out
      have s0 := cell_of_row _ _ 0 _ _ _ hs
      have s1 := cell_of_row _ _ 1 _ _ _ hs
      have s2 := cell_of_row _ _ 2 _ _ _ hs
      have HCK := Lib.hid (tg_const 2 b a n c 0 bq (w1.alloc (.cells #[.string (nmF 2), .int .i64 (lsF 2), .int .i64 (msF 2), .int .i64 (lbF 2), .int .i64 (mbF 2), .int .i64 (kyF 2), (.func (Fn.func 77) #[] #[]), (.func (Fn.func 124) #[] #[.pointer (some ⟨bq, 0, none⟩)]), (.func (Fn.func 80) #[] #[]), .nilFunc] 52)) (((New.refl w1).alloc (.cells #[.string (nmF 2), .int .i64 (lsF 2), .int .i64 (msF 2), .int .i64 (lbF 2), .int .i64 (mbF 2), .int .i64 (kyF 2), (.func (Fn.func 77) #[] #[]), (.func (Fn.func 124) #[] #[.pointer (some ⟨bq, 0, none⟩)]), (.func (Fn.func 80) #[] #[]), .nilFunc] 52)).block _ (lt_of_block hq) |>.trans hq))
      clear hg hn hs
      go_wp2_with fail
      refine HCK.out.mono ?_
      rintro e w2 ⟨rfl, hn2⟩
      have HN2 := Lib.hid ((HN1.out.alloc _).trans hn2)
      clear hn2
      go_wp2
      go_ret
      refine ⟨?_, HN2.out⟩
      rfl
    | str bq hq =>
      have hs := ((hn.alloc (.cells #[.string (nmF 8), .int .i64 (lsF 8), .int .i64 (msF 8), .int .i64 (lbF 8), .int .i64 (mbF 8), .int .i64 (kyF 8), (.func (Fn.func 105) #[] #[]), (.func (Fn.func 124) #[] #[.pointer (some ⟨bq, 0, none⟩)]), (.func (Fn.func 106) #[] #[]), .nilFunc] 52)).block _ (lt_of_block HB.out)).trans HB.out
      have s0 := cell_of_row _ _ 0 _ _ _ hs
      have s1 := cell_of_row _ _ 1 _ _ _ hs
      have s2 := cell_of_row _ _ 2 _ _ _ hs
      have HCK := Lib.hid (tg_const 8 b a n c 0 bq (w1.alloc (.cells #[.string (nmF 8), .int .i64 (lsF 8), .int .i64 (msF 8), .int .i64 (lbF 8), .int .i64 (mbF 8), .int .i64 (kyF 8), (.func (Fn.func 105) #[] #[]), (.func (Fn.func 124) #[] #[.pointer (some ⟨bq, 0, none⟩)]), (.func (Fn.func 106) #[] #[]), .nilFunc] 52)) (((New.refl w1).alloc (.cells #[.string (nmF 8), .int .i64 (lsF 8), .int .i64 (msF 8), .int .i64 (lbF 8), .int .i64 (mbF 8), .int .i64 (kyF 8), (.func (Fn.func 105) #[] #[]), (.func (Fn.func 124) #[] #[.pointer (some ⟨bq, 0, none⟩)]), (.func (Fn.func 106) #[] #[]), .nilFunc] 52)).block _ (lt_of_block hq) |>.trans hq))
      clear hg hn hs
      go_wp2_with fail
      refine HCK.out.mono ?_
      rintro e w2 ⟨rfl, hn2⟩
      have HN2 := Lib.hid ((HN1.out.alloc _).trans hn2)
      clear hn2
      go_wp2
      go_ret
      refine ⟨?_, HN2.out⟩
      rfl
    | sum k hk bq b9 hq h9 =>
      have hs := ((hn.alloc (.cells #[.string (nmF k), .int .i64 (lsF k), .int .i64 (msF k), .int .i64 (lbF k), .int .i64 (mbF k), .int .i64 (kyF k), (.func (Fn.func 82) #[] #[]), (.func (Fn.func 124) #[] #[.pointer (some ⟨bq, 0, none⟩)]), (.func (Fn.func 83) #[] #[]), (.func (Fn.func 86) #[] #[.pointer (some ⟨b9, 0, none⟩)])] 52)).block _ (lt_of_block HB.out)).trans HB.out
      have s0 := cell_of_row _ _ 0 _ _ _ hs
      have s1 := cell_of_row _ _ 1 _ _ _ hs
      have s2 := cell_of_row _ _ 2 _ _ _ hs
      have HCK := Lib.hid (tg_const k b a n c 2 bq (w1.alloc (.cells #[.string (nmF k), .int .i64 (lsF k), .int .i64 (msF k), .int .i64 (lbF k), .int .i64 (mbF k), .int .i64 (kyF k), (.func (Fn.func 82) #[] #[]), (.func (Fn.func 124) #[] #[.pointer (some ⟨bq, 0, none⟩)]), (.func (Fn.func 83) #[] #[]), (.func (Fn.func 86) #[] #[.pointer (some ⟨b9, 0, none⟩)])] 52)) (((New.refl w1).alloc (.cells #[.string (nmF k), .int .i64 (lsF k), .int .i64 (msF k), .int .i64 (lbF k), .int .i64 (mbF k), .int .i64 (kyF k), (.func (Fn.func 82) #[] #[]), (.func (Fn.func 124) #[] #[.pointer (some ⟨bq, 0, none⟩)]), (.func (Fn.func 83) #[] #[]), (.func (Fn.func 86) #[] #[.pointer (some ⟨b9, 0, none⟩)])] 52)).block _ (lt_of_block hq) |>.trans hq))
      clear hg hn hs
      go_wp2_with fail
      refine HCK.out.mono ?_
      rintro e w2 ⟨rfl, hn2⟩
      have HN2 := Lib.hid ((HN1.out.alloc _).trans hn2)
      clear hn2
      go_wp2
      go_ret
      refine ⟨?_, HN2.out⟩
      have ek : tgK k n = 2 := by unfold tgK; rw [if_neg (by omega), if_pos hk]
      rw [ek]; rfl
    | table k hk bq be bs hq he hs2 =>
      have hs := ((hn.alloc (.cells #[.string (nmF k), .int .i64 (lsF k), .int .i64 (msF k), .int .i64 (lbF k), .int .i64 (mbF k), .int .i64 (kyF k), (.func (Fn.func 82) #[] #[]), (.func (Fn.func 124) #[] #[.pointer (some ⟨bq, 0, none⟩)]), (.func (Fn.func 88) #[] #[.pointer (some ⟨be, 0, none⟩)]), (.func (Fn.func 89) #[] #[.pointer (some ⟨bs, 0, none⟩)])] 52)).block _ (lt_of_block HB.out)).trans HB.out
      have s0 := cell_of_row _ _ 0 _ _ _ hs
      have s1 := cell_of_row _ _ 1 _ _ _ hs
      have s2 := cell_of_row _ _ 2 _ _ _ hs
      have HCK := Lib.hid (tg_const k b a n c 3 bq (w1.alloc (.cells #[.string (nmF k), .int .i64 (lsF k), .int .i64 (msF k), .int .i64 (lbF k), .int .i64 (mbF k), .int .i64 (kyF k), (.func (Fn.func 82) #[] #[]), (.func (Fn.func 124) #[] #[.pointer (some ⟨bq, 0, none⟩)]), (.func (Fn.func 88) #[] #[.pointer (some ⟨be, 0, none⟩)]), (.func (Fn.func 89) #[] #[.pointer (some ⟨bs, 0, none⟩)])] 52)) (((New.refl w1).alloc (.cells #[.string (nmF k), .int .i64 (lsF k), .int .i64 (msF k), .int .i64 (lbF k), .int .i64 (mbF k), .int .i64 (kyF k), (.func (Fn.func 82) #[] #[]), (.func (Fn.func 124) #[] #[.pointer (some ⟨bq, 0, none⟩)]), (.func (Fn.func 88) #[] #[.pointer (some ⟨be, 0, none⟩)]), (.func (Fn.func 89) #[] #[.pointer (some ⟨bs, 0, none⟩)])] 52)).block _ (lt_of_block hq) |>.trans hq))
      clear hg hn hs
      go_wp2_with fail
      refine HCK.out.mono ?_
      rintro e w2 ⟨rfl, hn2⟩
      have HN2 := Lib.hid ((HN1.out.alloc _).trans hn2)
      clear hn2
      go_wp2
      go_ret
      refine ⟨?_, HN2.out⟩
      have ek : tgK k n = 3 := by unfold tgK; rw [if_neg (by omega), if_neg (by omega), if_pos hk]
      rw [ek]; rfl
  · rw [if_neg hz]
    have HF := Lib.hid (fos_err k b a n c l w0 HROW.out hz)
    have hzb : (chF k b l != 0) = true := by rw [bne_iff_ne]; exact hz
    clear hz
    have c0 := cell_of_row _ _ 0 _ _ _ HB.out
    have c1 := cell_of_row _ _ 1 _ _ _ HB.out
    have c2 := cell_of_row _ _ 2 _ _ _ HB.out
    go_enter Tryz.func19, Tryz.ntmps19
    go_wp2_with fail
    refine HF.out.mono ?_
    rintro e w1 ⟨rfl, hn⟩
    have HN1 := Lib.hid (HN.out.trans hn)
    clear HF hn c0 c1 c2
    go_wp2
    go_ret
    exact ⟨rfl, HN1.out.alloc _⟩
end Go.Proofs.YtebcfbcfipmahaaGreat
end
section
/- The document's own layer 21: Width, Few, Check, Key, Line, Eval. -/
namespace Go.Proofs.YtebcfbcfipmahaaGreat
open Go.RowKit Go.Bv
set_option linter.unusedVariables false
theorem rwidth_add (w : World) : Calls Tryz.prog 57 #[.int .i64 3] w fun e w' => e = .returned (.int .i64 64) ∧ New w w' := by
  go_enter Tryz.func57, Tryz.ntmps57
  go_wp2
  go_ret
  exact ⟨rfl, New.refl _⟩
theorem rwidth_wide (w : World) : Calls Tryz.prog 57 #[.int .i64 4] w fun e w' => e = .returned (.int .i64 128) ∧ New w w' := by
  go_enter Tryz.func57, Tryz.ntmps57
  go_wp2
  go_ret
  exact ⟨rfl, New.refl _⟩
set_option maxHeartbeats 1000000 in
theorem line_a (A B wd : Nat) (x : BitVec 64) (hA : A < 2 ^ 128) (hB : B < 2 ^ 128) (hwd : wd ≤ 128) (w : World) : Calls Tryz.prog 60 #[.int .i64 (wd : Int), .agg #[.int .u64 (W64 (hiN (A))), .int .u64 (W64 (loN (A)))], .agg #[.int .u64 (W64 (hiN (B))), .int .u64 (W64 (loN (B)))], .int .u64 (W64 x)] w fun e w' => ∃ v, e = .returned v ∧ w'.ownsRow w.heap.size 3 1 v wd ((bitsOf ((A * x.toNat + B) % 2 ^ wd) wd).map fun y => .int .i64 y) ∧ New w w' := by
  have ho1 := of2_own (hiN A) (loN A)
  rw [two_n hA] at ho1
  have ho2 := of2_own (hiN B) (loN B)
  rw [two_n hB] at ho2
  have HO1 := Lib.hid ho1
  have HO2 := Lib.hid ho2
  have HO3 := Lib.hid (fun w => of_own x 64 64 (by omega) rfl w)
  have hm := fun a1 c1 a2 c2 w h1 h2 => bmul_own A x.toNat 128 64 c1 c2 a1 a2 (wd : Int) wd rfl (by omega) (by omega) w h1 hA h2 x.isLt
  have hmod : bitsOf (A * x.toNat) wd = bitsOf (A * x.toNat % 2 ^ wd) wd := (bitsOf_mod _ _).symm
  rw [hmod] at hm
  have HM := Lib.hid hm
  have hlt : A * x.toNat % 2 ^ wd < 2 ^ wd := Nat.mod_lt _ (Nat.two_pow_pos _)
  have ha := fun a1 c1 a2 c2 w h1 h2 => badd_own (A * x.toNat % 2 ^ wd) B wd 128 c1 c2 a1 a2 (wd : Int) wd rfl (by omega) w h1 hlt h2 hB
  have hmod2 : bitsOf (A * x.toNat % 2 ^ wd + B) wd = bitsOf ((A * x.toNat + B) % 2 ^ wd) wd := by rw [← bitsOf_mod, Nat.mod_add_mod]
  rw [hmod2] at ha
  have HAD := Lib.hid ha
  have HWD : Hid (wd ≤ 128) := Lib.hid hwd
  generalize (A * x.toNat + B) % 2 ^ wd = R at *
  generalize A * x.toNat % 2 ^ wd = M at *
  generalize x.toNat = xn at *
  clear ho1 ho2 hm hmod hmod2 hlt ha hA hB hwd
  obtain ⟨hbl, HNN⟩ := boxes2 w (.cells #[.int .u64 (W64 (hiN (A))), .int .u64 (W64 (loN (A)))] 63) (.cells #[.int .u64 (W64 (hiN (B))), .int .u64 (W64 (loN (B)))] 63)
  obtain ⟨hb0, hb1⟩ := hbl
  have HN := Lib.hid HNN
  obtain ⟨w0, hw0⟩ : ∃ w0, (((w.alloc (.cells #[.int .u64 (W64 (hiN (A))), .int .u64 (W64 (loN (A)))] 63))).alloc (.cells #[.int .u64 (W64 (hiN (B))), .int .u64 (W64 (loN (B)))] 63)) = w0 := ⟨_, rfl⟩
  rw [hw0] at HN hb0 hb1
  have HW0 := Lib.hid hw0
  have HB0 := Lib.hid hb0
  have HB1 := Lib.hid hb1
  clear hw0 HNN hb0 hb1
  have x0 := cell_of_row _ _ 0 _ _ _ HB0.out
  have x1 := cell_of_row _ _ 1 _ _ _ HB0.out
  go_enter Tryz.func60, Tryz.ntmps60
  go_wp2_with (rw [HW0.out])
  refine (HO1.out _).mono ?_
  rintro e w1 ⟨v1, rfl, hown, hn⟩
  obtain ⟨a1, c1, rfl, hz⟩ := bits_row hown (by omega)
  replace HN := Lib.hid (HN.out.trans hn)
  have HZ1 := Lib.hid hz
  replace HB1 := Lib.hid ((hn.block _ (lt_of_block HB1.out)).trans HB1.out)
  clear hown hz hn x0 x1
  go_wp2_with fail
  refine (HO3.out _).mono ?_
  rintro e w2 ⟨v2, rfl, hown, hn⟩
  obtain ⟨a2, c2, rfl, hz⟩ := bits_row hown (by omega)
  replace HN := Lib.hid (HN.out.trans hn)
  have HZ2 := Lib.hid hz
  replace HZ1 := Lib.hid (HZ1.out.stay hn)
  replace HB1 := Lib.hid ((hn.block _ (lt_of_block HB1.out)).trans HB1.out)
  clear hown hz hn
  go_wp2_with fail
  refine (HM.out _ _ _ _ _ HZ1.out HZ2.out).mono ?_
  rintro e w3 ⟨v3, rfl, hown, hn⟩
  obtain ⟨a3, c3, rfl, hz⟩ := bits_row hown (by have := HWD.out; omega)
  replace HN := Lib.hid (HN.out.trans hn)
  have HZ3 := Lib.hid hz
  replace HB1 := Lib.hid ((hn.block _ (lt_of_block HB1.out)).trans HB1.out)
  clear hown hz hn
  have y0 := cell_of_row _ _ 0 _ _ _ HB1.out
  have y1 := cell_of_row _ _ 1 _ _ _ HB1.out
  go_wp2_with fail
  refine (HO2.out _).mono ?_
  rintro e w4 ⟨v4, rfl, hown, hn⟩
  obtain ⟨a4, c4, rfl, hz⟩ := bits_row hown (by omega)
  replace HN := Lib.hid (HN.out.trans hn)
  have HZ4 := Lib.hid hz
  replace HZ3 := Lib.hid (HZ3.out.stay hn)
  clear hown hz hn y0 y1
  go_wp2_with fail
  refine (HAD.out _ _ _ _ _ HZ3.out HZ4.out).mono ?_
  rintro e w5 ⟨v5, rfl, hown, hn⟩
  have hown2 := own_low hown HN.out.le
  replace HN := Lib.hid (HN.out.trans hn)
  have HOW := Lib.hid hown2
  clear hown hown2 hn
  go_wp2
  go_ret
  exact ⟨_, rfl, HOW.out, HN.out⟩
set_option maxHeartbeats 1000000 in
theorem reval_a (A B wd j : Nat) (x : BitVec 64) (kind : Int) (hA : A < 2 ^ 128) (hB : B < 2 ^ 128) (hwd : wd ≤ 128) (hj : j ≤ wd) (HRW : Hid (∀ w : World, Calls Tryz.prog 57 #[.int .i64 kind] w fun e w' => e = .returned (.int .i64 (wd : Int)) ∧ New w w')) (w : World) : Calls Tryz.prog 33 #[.int .i64 kind, .int .i64 (j : Int), .agg #[.int .u64 (W64 (hiN (A))), .int .u64 (W64 (loN (A)))], .agg #[.int .u64 (W64 (hiN (B))), .int .u64 (W64 (loN (B)))], .int .u64 (W64 x)] w fun e w' => e = .returned (.int .u64 (W64 (loN ((A * x.toNat + B) % 2 ^ wd / 2 ^ (wd - j))))) ∧ New w w' := by
  have HLI := Lib.hid (line_a A B wd x hA hB hwd)
  have hlt : (A * x.toNat + B) % 2 ^ wd < 2 ^ wd := Nat.mod_lt _ (Nat.two_pow_pos _)
  have hs := fun a c w hz => bshr_own ((A * x.toNat + B) % 2 ^ wd) wd c (wd - j) a (wd : Int) wd rfl (by omega) (by omega) w hz hlt
  rw [show ((wd - j : Nat) : Int) = (wd : Int) - (j : Int) by omega] at hs
  have HS := Lib.hid hs
  have hw := fun a c w hz => word_any ((A * x.toNat + B) % 2 ^ wd / 2 ^ (wd - j)) wd c 0 a w hz (Nat.lt_of_le_of_lt (Nat.div_le_self _ _) hlt) (by omega)
  rw [Nat.pow_zero, Nat.div_one] at hw
  have HWO := Lib.hid hw
  have HR := Lib.hid (show BitVec.ofNat 64 ((A * x.toNat + B) % 2 ^ wd / 2 ^ (wd - j)) = loN ((A * x.toNat + B) % 2 ^ wd / 2 ^ (wd - j)) from rfl)
  have hwr : wrap64 ((wd : Int) - (j : Int)) = (wd : Int) - (j : Int) := by unfold wrap64; omega
  have HWD : Hid (wd ≤ 128) := Lib.hid hwd
  generalize loN ((A * x.toNat + B) % 2 ^ wd / 2 ^ (wd - j)) = y at *
  generalize (A * x.toNat + B) % 2 ^ wd / 2 ^ (wd - j) = Q at *
  generalize (A * x.toNat + B) % 2 ^ wd = R at *
  clear hs hw hlt hA hB hwd hj
  obtain ⟨hbl, HNN⟩ := boxes2 w (.cells #[.int .u64 (W64 (hiN (A))), .int .u64 (W64 (loN (A)))] 63) (.cells #[.int .u64 (W64 (hiN (B))), .int .u64 (W64 (loN (B)))] 63)
  obtain ⟨hb0, hb1⟩ := hbl
  have HN := Lib.hid HNN
  obtain ⟨w0, hw0⟩ : ∃ w0, (((w.alloc (.cells #[.int .u64 (W64 (hiN (A))), .int .u64 (W64 (loN (A)))] 63))).alloc (.cells #[.int .u64 (W64 (hiN (B))), .int .u64 (W64 (loN (B)))] 63)) = w0 := ⟨_, rfl⟩
  rw [hw0] at HN hb0 hb1
  have HW0 := Lib.hid hw0
  have HB0 := Lib.hid hb0
  have HB1 := Lib.hid hb1
  clear hw0 HNN hb0 hb1
  go_enter Tryz.func33, Tryz.ntmps33
  go_wp2_with (rw [HW0.out])
  refine (HRW.out _).mono ?_
  rintro e w9 ⟨rfl, hn⟩
  replace HN := Lib.hid (HN.out.trans hn)
  replace HB0 := Lib.hid ((hn.block _ (lt_of_block HB0.out)).trans HB0.out)
  replace HB1 := Lib.hid ((hn.block _ (lt_of_block HB1.out)).trans HB1.out)
  clear hn
  have x0 := cell_of_row _ _ 0 _ _ _ HB0.out
  have x1 := cell_of_row _ _ 1 _ _ _ HB0.out
  have y0 := cell_of_row _ _ 0 _ _ _ HB1.out
  have y1 := cell_of_row _ _ 1 _ _ _ HB1.out
  go_wp2_with fail
  refine (HLI.out _).mono ?_
  rintro e w1 ⟨v1, rfl, hown, hn⟩
  obtain ⟨a1, c1, rfl, hz⟩ := bits_row hown (by have := HWD.out; omega)
  replace HN := Lib.hid (HN.out.trans hn)
  have HZ1 := Lib.hid hz
  clear hown hz hn x0 x1 y0 y1
  go_wp2_with fail
  refine (HS.out _ _ _ HZ1.out).mono ?_
  rintro e w2 ⟨v2, rfl, hown, hn⟩
  obtain ⟨a2, c2, rfl, hz⟩ := bits_row hown (by have := HWD.out; omega)
  replace HN := Lib.hid (HN.out.trans hn)
  have HZ2 := Lib.hid hz
  clear hown hz hn
  go_wp2_with fail
  refine (HWO.out _ _ _ HZ2.out).mono ?_
  rintro e w3 ⟨rfl, rfl⟩
  go_wp2
  go_ret
  rw [HR.out]
  exact ⟨rfl, HN.out⟩
end Go.Proofs.YtebcfbcfipmahaaGreat
end
section
/- The example of poly's chapter. -/
namespace Go.Proofs.YtebcfbcfipmahaaGreat
open Go.RowKit Go.Bv
set_option linter.unusedVariables false
theorem qrow2 (w : World) (x y : BitVec 64) : QRow (w.alloc (.cells #[.int .u64 (W64 x), .int .u64 (W64 y)] 31)) (some ⟨w.heap.size, 0, none⟩) 2 2 [x, y] := by
  have hb := heap_alloc_new w (.cells #[.int .u64 (W64 x), .int .u64 (W64 y)] 31)
  refine ⟨rfl, Nat.le_refl _, by omega, by omega, (fun e => by cases e), ?_, ?_, ?_⟩
  · intro b off e i hi
    cases e
    rcases (show i = 0 ∨ i = 1 by omega) with rfl | rfl
    · rw [cell_of_row _ _ _ _ _ _ hb]; rfl
    · rw [cell_of_row _ _ _ _ _ _ hb]; rfl
  · intro x e h; cases e; rfl
  · intro x e h; cases e; exact lt_of_block hb
end Go.Proofs.YtebcfbcfipmahaaGreat
end
section
/- through: which words are below the prime, what is wrong with points, factors; the document's own values. -/
namespace Go.Proofs.YtebcfbcfipmahaaGreat
open Go.RowKit Go.Bv
set_option linter.unusedVariables false
/-- whether all words are below the prime -/
def blw (l : List (BitVec 64)) : Bool := decide (∀ j, j < l.length → (l.getD j 0).toNat < PP)
theorem blw_yes {l : List (BitVec 64)} (h : ∀ j, j < l.length → (l.getD j 0).toNat < PP) : blw l = true := decide_eq_true h
theorem blw_no {l : List (BitVec 64)} {k : Nat} (hk : k < l.length) (h : ¬ (l.getD k 0).toNat < PP) : blw l = false := decide_eq_false (fun hh => h (hh k hk))
theorem blw_out {l : List (BitVec 64)} (h : blw l = true) : ∀ j, j < l.length → (l.getD j 0).toNat < PP := of_decide_eq_true h
/-- no two are alike -/
def unl (l : List (BitVec 64)) : Prop := ∀ i, i < l.length → ∀ k, k < i → l.getD k 0 ≠ l.getD i 0
instance (l : List (BitVec 64)) : Decidable (unl l) := by unfold unl; infer_instance
/-- what is wrong with points -/
def chkT (xs ys : List (BitVec 64)) : Int := if xs.length < 1 ∨ 64 < xs.length ∨ xs.length ≠ ys.length then 1 else if (blw xs && blw ys) = true then (if unl xs then 0 else 15) else 2
/-- the values of coefficients -/
def vals (c xs : List (BitVec 64)) : List (BitVec 64) := xs.map fun x => mp (nv c x)
theorem vals_len (c xs : List (BitVec 64)) : (vals c xs).length = xs.length := by unfold vals; simp
theorem vals_get (c xs : List (BitVec 64)) (i : Nat) (h : i < xs.length) : (vals c xs).getD i 0 = mp (nv c (xs.getD i 0)) := by
  unfold vals
  rw [List.getD_eq_getElem?_getD, List.getElem?_map, List.getElem?_eq_getElem h, List.getD_eq_getElem?_getD, List.getElem?_eq_getElem h]; rfl
set_option maxHeartbeats 1000000 in
theorem inf_q (a : Option Addr) (n c : Nat) (l : List (BitVec 64)) (w : World) (h : QRow w a n c l) :
    Calls Tryz.prog 148 #[.slice a n c] w fun e w' => e = .returned (.bool (blw l)) ∧ w' = w := by
  have hm := h.most
  have HL := Lib.hid h.len_eq
  have HH := Lib.hid h
  clear h
  go_enter Tryz.func148, Tryz.ntmps148
  go_wp2
  go_loop [7] (fun i => ∃ k : Nat, k ≤ n ∧ i = .int .i64 (k : Int) ∧ Hid (∀ j, j < k → (l.getD j 0).toNat < PP)) (fun i => n - (intOf i).toNat)
  case atStart => exact ⟨0, Nat.zero_le _, rfl, Lib.hid (fun j hj => by omega)⟩
  case round =>
    obtain ⟨k, hk, rfl, H⟩ := hrel
    by_cases hlt : (k : Int) < (n : Int)
    · obtain ⟨b, off, rfl, hc⟩ := HH.out.addr (by omega)
      have c1 := hc k (by omega)
      clear hc
      have hk0 : (0 : Int) ≤ (k : Int) := by omega
      by_cases hp : (l.getD k 0).toNat < PP
      · have HP : Hid ((l.getD k 0).toNat < PP) := Lib.hid hp
        have hg : decide (2305843009213693951 ≤ W64 (l.getD k 0)) = false := decide_eq_false (by unfold PP at hp; unfold W64; omega)
        clear hp
        obtain ⟨y, hy⟩ : ∃ z, l.getD k 0 = z := ⟨_, rfl⟩
        rw [hy] at c1 hg
        clear hy
        go_wp2
        refine ⟨⟨k + 1, by omega, by go_num, Lib.hid (fun j hj => ?_)⟩, by simp [intOf]; omega⟩
        by_cases e : j = k
        · subst e; exact HP.out
        · exact H.out j (by omega)
      · have HE : Hid (blw l = false) := Lib.hid (blw_no (by rw [HL.out]; omega) hp)
        have hg : decide (2305843009213693951 ≤ W64 (l.getD k 0)) = true := decide_eq_true (by unfold PP at hp; unfold W64; omega)
        clear hp
        obtain ⟨y, hy⟩ : ∃ z, l.getD k 0 = z := ⟨_, rfl⟩
        rw [hy] at c1 hg
        clear hy
        go_wp2
        go_ret
        rw [HE.out]; exact ⟨rfl, rfl⟩
    · obtain rfl : k = n := by omega
      have HE : Hid (blw l = true) := Lib.hid (blw_yes (by rw [HL.out]; exact H.out))
      clear H
      go_wp2
      go_ret
      rw [HE.out]; exact ⟨rfl, rfl⟩
theorem msub_p (a b : BitVec 64) (w : World) : Calls Tryz.prog 121 #[.int .i64 61, .int .u64 (W64 a), .int .u64 (W64 b)] w fun e w' => e = .returned (.int .u64 (W64 (sb a b))) ∧ New w w' := by
  have h := mersub_any 61 a b w
  rw [pM61, md_mp, md_mp] at h
  exact h
theorem factor_q (x : BitVec 64) (w : World) : Calls Tryz.prog 153 #[.int .u64 (W64 x)] w fun e w' => ∃ a, e = .returned (.slice a 2 2) ∧ QRow w' a 2 2 [sb 0#64 x, 1#64] ∧ New w w' := by
  have HS := Lib.hid (fun w => msub_p 0#64 x w)
  obtain ⟨s, hs⟩ : ∃ z, sb 0#64 x = z := ⟨_, rfl⟩
  rw [hs, lo_zero] at HS
  rw [hs]
  clear hs
  go_enter Tryz.func153, Tryz.ntmps153
  go_wp2_with fail
  refine (HS.out _).mono ?_
  rintro e w9 ⟨rfl, hn⟩
  have HQ := Lib.hid (qrow2 w9 s 1#64)
  have HN := Lib.hid (hn.alloc (.cells #[.int .u64 (W64 s), .int .u64 (W64 1#64)] 31))
  rw [show W64 1#64 = 1 by decide] at HQ HN
  clear hn HS
  go_wp2
  go_ret
  exact ⟨_, rfl, HQ.out, HN.out⟩
end Go.Proofs.YtebcfbcfipmahaaGreat
end
