/- Contracts of mixed.Eval and of the document's own Eval; the walk of the statement MixedEvals: for all words, all keys. -/
import Derived.Test.YtadkbpdbbgjkgaaMxC
import Derived.Deep.RegionLaw
namespace Go.Proofs.Ytadkbpdbbgjkgaa
open Go.RowKit Go.Bv
set_option linter.unusedVariables false
def meV (l : List (BitVec 64)) (bits : Int) (x : BitVec 64) : BitVec 64 := if evE bits l.length 320 x = 0 then lowN (xs (l.take 192) (rowM l x) 12) bits.toNat else 0#64
theorem rowM_all (l : List (BitVec 64)) (x : BitVec 64) : (rowM l x).all okc = true := by
  rw [List.all_eq_true]; intro c hc; exact okc_true (rowM_mem l x c hc)
theorem fit_rowM (l r : List (BitVec 64)) (x : BitVec 64) (h : r.length = 192) : fitE r.length (rowM l x) = 0 := by
  unfold fitE; rw [if_neg (by rw [rowM_len, h]; simp), rowM_all]; rfl
theorem sv_rowM (l r : List (BitVec 64)) (x : BitVec 64) (h : r.length = 192) : sv r (rowM l x) = xs r (rowM l x) 12 := by
  unfold sv; rw [if_pos (fit_rowM l r x h), rowM_len]
theorem badE2 (bits : Int) (n : Nat) (N : Int) (x : BitVec 64) : (chk bits n N = 0 ∧ x.toNat < 4294967296 ∧ evE bits n N x = 0) ∨ (chk bits n N = 0 ∧ ¬ x.toNat < 4294967296 ∧ evE bits n N x = 2) ∨ (chk bits n N ≠ 0 ∧ (chk bits n N != 0) = true ∧ evE bits n N x = chk bits n N) := by
  by_cases h1 : chk bits n N = 0
  · by_cases h2 : x.toNat < 4294967296
    · exact Or.inl ⟨h1, h2, by unfold evE; rw [if_neg (by rw [h1]; simp), if_pos h2]⟩
    · exact Or.inr (Or.inl ⟨h1, h2, by unfold evE; rw [if_neg (by rw [h1]; simp), if_neg h2]⟩)
  · exact Or.inr (Or.inr ⟨h1, by rw [bne_iff_ne]; exact h1, by unfold evE; rw [if_pos h1]⟩)
set_option maxHeartbeats 1000000 in
theorem evalm_any (a : Option Addr) (n c : Nat) (l : List (BitVec 64)) (bits : Int) (x : BitVec 64) (w : World) (ha : QRow w a n c l) :
    Calls Try.prog 41 #[.slice a n c, .int .i64 bits, .int .u64 (W64 x)] w fun e w' => e = .returned (.tuple #[.int .u64 (W64 (meV l bits x)), .int .i64 (evE bits l.length 320 x)]) ∧ New w w' := by
  have hm := ha.most
  have hle := ha.le
  have hrm := ha.room
  have hck : ∀ w, Calls Try.prog 43 #[.slice a n c, .int .i64 bits] w fun e w' => e = .returned (.int .i64 (chk bits l.length 320)) ∧ w' = w := by
    rw [ha.len_eq]; exact fun w => checkm_any a n c bits w hm
  have HCK := Lib.hid hck
  clear hck
  have hL := ha.len_eq
  rcases badE2 bits l.length 320 x with ⟨h1, h2, h3⟩ | ⟨h1, h2, h3⟩ | ⟨h1, h2, h3⟩
  · obtain ⟨b1, b2, b3⟩ := chk_good h1
    have hV : meV l bits x = lowN (xs (l.take 192) (rowM l x) 12) bits.toNat := by unfold meV; rw [if_pos h3]
    have hT : evE 64 l.length 320 x = 0 := tuE h3
    have hrow := fun w => rowm_any a n c l x w
    rw [hT, show roM l x = rowM l x by unfold roM; rw [if_pos hT]] at hrow
    have h192 : (l.take 192).length = 192 := by rw [List.length_take]; omega
    have hsv := sv_rowM l (l.take 192) x h192
    have hfit := fit_rowM l (l.take 192) x h192
    have hshr := fun y : BitVec 64 => lowN_shift y bits.toNat (by omega)
    have e1 : wrap64 (64 - bits) = 64 - bits := by unfold wrap64; omega
    have e2 : 0 ≤ 64 - bits := by omega
    have e3 : (64 - bits).toNat = 64 - bits.toNat := by omega
    have HE := Lib.hid h3
    have HV := Lib.hid hV
    have HROW := Lib.hid hrow
    have HSV := Lib.hid hsv
    have HFIT := Lib.hid hfit
    have HSHR := Lib.hid hshr
    rw [h1] at HCK
    obtain rfl : n = 320 := by omega
    obtain ⟨b, off, rfl, _⟩ := ha.addr (by omega)
    clear hV hT hrow h192 hsv hfit h1 h2 h3 b3 b1 b2 hL hshr
    go_enter Try.func41, Try.ntmps41
    go_wp2_with fail
    refine (HCK.out _).mono ?_
    rintro e w' ⟨rfl, rfl⟩
    go_wp2_with fail
    refine (HROW.out _ ha).mono ?_
    rintro e w1 ⟨a1, n1, c1, rfl, hz1, hn1⟩
    go_wp2_with fail
    refine (partsm_any b off c hle hrm _).mono ?_
    rintro e w2 ⟨rfl, hn2⟩
    have hn12 := hn1.trans hn2
    have hq1 := (ha.stay hn12).slice 0 192 192 (by omega) (by omega) (by omega)
    rw [List.drop_zero] at hq1
    have hq2 : QRow w2 (some ⟨b, off, none⟩) 192 192 (l.take 192) := hq1
    clear hq1
    go_wp2_with fail
    refine (sum_any _ _ _ _ _ _ _ _ _ hq2 (hz1.stay hn2)).mono ?_
    rintro e w3 ⟨rfl, hn3⟩
    rw [HFIT.out, HSV.out]
    go_wp2
    go_ret2
    rw [HV.out, HE.out, ← HSHR.out]
    exact ⟨rfl, hn12.trans hn3⟩
  · have hV : W64 (meV l bits x) = 0 := by unfold meV; rw [if_neg (by rw [h3]; decide)]; exact W64_lit 0 (by omega)
    have hT : evE 64 l.length 320 x = 2 := tuE2 h1 h2
    have hrow := fun w => rowm_any a n c l x w
    rw [hT] at hrow
    have HE := Lib.hid h3
    have HV := Lib.hid hV
    have HROW := Lib.hid hrow
    rw [h1] at HCK
    clear hV hT hrow h1 h2 h3
    go_enter Try.func41, Try.ntmps41
    go_wp2_with fail
    refine (HCK.out _).mono ?_
    rintro e w' ⟨rfl, rfl⟩
    go_wp2_with fail
    refine (HROW.out _ ha).mono ?_
    rintro e w1 ⟨a1, n1, c1, rfl, hz1, hn1⟩
    go_wp2
    go_ret2
    rw [HV.out, HE.out]
    exact ⟨rfl, hn1⟩
  · have hV : W64 (meV l bits x) = 0 := by unfold meV; rw [h3, if_neg h1]; exact W64_lit 0 (by omega)
    have HE := Lib.hid h3
    have HV := Lib.hid hV
    clear hV h1 h3
    generalize chk bits l.length 320 = q at *
    go_enter Try.func41, Try.ntmps41
    go_wp2_with fail
    refine (HCK.out _).mono ?_
    rintro e w' ⟨rfl, rfl⟩
    go_wp2
    go_ret2
    rw [HV.out, HE.out]
    exact ⟨rfl, New.refl _⟩
set_option maxHeartbeats 2000000 in
theorem evalm_ref (a : Option Addr) (n c : Nat) (l : List (BitVec 64)) (bits : Int) (x : BitVec 64) (w : World) (ha : QRow w a n c l) :
    Calls Try.prog 42 #[.slice a n c, .int .i64 bits, .int .u64 (W64 x)] w fun e w' => e = .returned (.tuple #[.int .u64 (W64 (meV l bits x)), .int .i64 (evE bits l.length 320 x)]) ∧ New w w' := by
  have hm := ha.most
  have hle := ha.le
  have hrm := ha.room
  have hck : ∀ w, Calls Try.prog 27 #[.slice a n c, .int .i64 bits, .int .i64 320] w fun e w' => e = .returned (.int .i64 (chk bits l.length 320)) ∧ w' = w := by
    rw [ha.len_eq]; exact fun w => check_ref a n c bits 320 w hm
  have HCK := Lib.hid hck
  clear hck
  have hL := ha.len_eq
  rcases badE2 bits l.length 320 x with ⟨h1, h2, h3⟩ | ⟨h1, h2, h3⟩ | ⟨h1, h2, h3⟩
  · obtain ⟨b1, b2, b3⟩ := chk_good h1
    have hV : meV l bits x = lowN (xs (l.take 192) (rowM l x) 12) bits.toNat := by unfold meV; rw [if_pos h3]
    have hrow := fun w h => rowm_ref a n c l x w h (by omega)
    have h192 : (l.take 192).length = 192 := by rw [List.length_take]; omega
    have hfit := fit_rowM l (l.take 192) x h192
    have hlow := fun (y : BitVec 64) w => low_ref y bits bits.toNat (by omega) (by omega) w
    have hx : decide (4294967296 ≤ W64 x) = false := decide_eq_false (by unfold W64; omega)
    have HE := Lib.hid h3
    have HV := Lib.hid hV
    have HROW := Lib.hid hrow
    have HFIT := Lib.hid hfit
    have HLOW := Lib.hid hlow
    have HLEN := Lib.hid (rowM_len l x)
    rw [h1] at HCK
    obtain rfl : n = 320 := by omega
    obtain ⟨b, off, rfl, _⟩ := ha.addr (by omega)
    have hq0 : QRow w (some ⟨b, off, none⟩) 192 c (l.take 192) := by
      have h := ha.slice 0 192 c (by omega) (by omega) (by omega)
      rw [List.drop_zero] at h
      exact h
    have HA := Lib.hid ha
    have HQ := Lib.hid hq0
    have hc192 : (192 : Int) ≤ (c : Int) := by omega
    clear hV hrow h192 hfit h1 h2 h3 b3 b1 b2 hL hlow ha hq0
    go_enter Try.func42, Try.ntmps42
    go_wp2_with fail
    refine (HCK.out _).mono ?_
    rintro e w' ⟨rfl, rfl⟩
    go_wp2_with fail
    go_region_law (first
      | (go_simp
         go_at_call 40
         refine (HROW.out _ (HA.out.stay (New.refl _).drew)).mono ?_
         rintro e w1 ⟨a1, c1, rfl, hz1, hn1⟩
         have hd1 : New w' w1 := (New.refl w').drew.trans hn1)
      | (go_simp
         go_at_call 20
         refine (sum_ref _ _ _ _ _ _ _ _ _ (HQ.out.stay hd1) hz1 HFIT.out).mono ?_
         rintro e w2 ⟨rfl, hn2⟩
         rw [HLEN.out]
         have hd2 : New w' w2 := hd1.trans hn2)
      | (go_simp
         go_at_call 51
         refine (HLOW.out _ _).mono ?_
         rintro e w3 ⟨rfl, rfl⟩))
    all_goals (
      go_wp2
      go_ret2
      rw [HE.out, HV.out]
      exact ⟨rfl, hd2⟩)
  · have hV : W64 (meV l bits x) = 0 := by unfold meV; rw [if_neg (by rw [h3]; decide)]; exact W64_lit 0 (by omega)
    have hx : decide (4294967296 ≤ W64 x) = true := decide_eq_true (by unfold W64; omega)
    have HE := Lib.hid h3
    have HV := Lib.hid hV
    rw [h1] at HCK
    clear hV h1 h2 h3
    go_enter Try.func42, Try.ntmps42
    go_wp2_with fail
    refine (HCK.out _).mono ?_
    rintro e w' ⟨rfl, rfl⟩
    go_wp2
    go_ret2
    rw [HV.out, HE.out]
    exact ⟨rfl, New.refl _⟩
  · have hV : W64 (meV l bits x) = 0 := by unfold meV; rw [h3, if_neg h1]; exact W64_lit 0 (by omega)
    have HE := Lib.hid h3
    have HV := Lib.hid hV
    clear hV h1 h3
    generalize chk bits l.length 320 = q at *
    go_enter Try.func42, Try.ntmps42
    go_wp2_with fail
    refine (HCK.out _).mono ?_
    rintro e w' ⟨rfl, rfl⟩
    go_wp2
    go_ret2
    rw [HV.out, HE.out]
    exact ⟨rfl, New.refl _⟩
set_option maxHeartbeats 1000000 in
theorem MixedEvals_walk (W : World) (a0 : Option Addr) (n0 m0 : Nat) (z0 : List Int) (w0 : IRow .u64 W a0 n0 m0 z0) (r0 : m0 * 8 ≤ 140737488351232) (a1 : Int) (w1 : (Lit.int .i64 a1).wf = true) (a2 : Int) (w2 : (Lit.int .u64 a2).wf = true) :
    Calls Try.prog 12 #[.slice a0 n0 m0, .int .i64 a1, .int .u64 a2] W fun e w' => e = .returned (.bool true) ∧ Below W.heap.size W w' := by
  obtain ⟨l, hq⟩ := w0.words r0
  obtain ⟨x, rfl⟩ := wf64 w2
  have hm := hq.most
  clear w0 w1 w2 r0
  go_enter Try.func12, Try.ntmps12
  go_wp2_with fail
  refine (awake24 _).mono ?_
  rintro e w ⟨rfl, hg⟩
  go_wp2_with fail
  refine (evalm_any _ _ _ _ _ _ _ (hq.stay hg)).mono ?_
  rintro e w3 ⟨rfl, hg3⟩
  have hg3 := hg.trans hg3
  go_wp2_with fail
  refine (evalm_ref _ _ _ _ _ _ _ (hq.stay hg3)).mono ?_
  rintro e w4 ⟨rfl, hg4⟩
  have hg4 := hg3.trans hg4
  go_wp2_with fail
  refine (checkm_any _ _ _ _ _ hm).mono ?_
  rintro e w5 ⟨rfl, rfl⟩
  go_wp2_with fail
  refine (check_ref _ _ _ _ _ _ hm).mono ?_
  rintro e w6 ⟨rfl, rfl⟩
  go_wp2
  go_ret
  exact ⟨rfl, hg4⟩
end Go.Proofs.Ytadkbpdbbgjkgaa
