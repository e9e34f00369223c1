import Derived.Test.YtebcfbcfipmahaaGreatZ3MadC
import Derived.Test.YtebcfbcfipmahaaGreatZ3FamC
import Derived.Test.YtebcfbcfipmahaaGreatZ3PolM
section
/- Contracts of layer 21: Eval; the document's own Width, Few, Check, Key, Line, Eval. -/
namespace Go.Proofs.YtebcfbcfipmahaaGreat
open Go.RowKit Go.Bv
set_option linter.unusedVariables false
set_option maxHeartbeats 1000000 in
theorem eval_no (A B wd kd j : Nat) (x : BitVec 64) (hA : A < 2 ^ 128) (hB : B < 2 ^ 128) (hwd : wd ≤ 128) (hj : j ≤ wd) (kind : Int) (hfit : (x >>> kd == 0#64) = false) (HS : Hid (∀ w : World, Calls Tryz.prog 126 #[.int .i64 kind] w fun e w' => e = .returned (.tuple #[.agg #[.int .i64 (wd : Int), .int .i64 (kd : Int), .int .i64 (kd : Int)], .bool true]) ∧ New w w')) (HC : Hid (∀ w : World, Calls Tryz.prog 125 #[.int .i64 kind, .int .i64 (j : Int), .agg #[.int .u64 (W64 (hiN (A))), .int .u64 (W64 (loN (A)))], .agg #[.int .u64 (W64 (hiN (B))), .int .u64 (W64 (loN (B)))]] w fun e w' => e = .returned (.int .i64 0) ∧ New w w')) (w : World) : Calls Tryz.prog 85 #[.int .i64 kind, .int .i64 (j : Int), .agg #[.int .u64 (W64 (hiN (A))), .int .u64 (W64 (loN (A)))], .agg #[.int .u64 (W64 (hiN (B))), .int .u64 (W64 (loN (B)))], .int .u64 (W64 x)] w fun e w' => e = .returned (.tuple #[.int .u64 0, .int .i64 2]) ∧ New w w' := by
  have HF := Lib.hid (fits_a x kd)
  rw [hfit] at HF
  clear hA hB hwd hj hfit
  obtain ⟨hbl, HNN⟩ := boxes2 w (.cells #[.int .u64 (W64 (hiN (A))), .int .u64 (W64 (loN (A)))] 63) (.cells #[.int .u64 (W64 (hiN (B))), .int .u64 (W64 (loN (B)))] 63)
  obtain ⟨hb0, hb1⟩ := hbl
  have HN := Lib.hid HNN
  obtain ⟨w0, hw0⟩ : ∃ w0, (((w.alloc (.cells #[.int .u64 (W64 (hiN (A))), .int .u64 (W64 (loN (A)))] 63))).alloc (.cells #[.int .u64 (W64 (hiN (B))), .int .u64 (W64 (loN (B)))] 63)) = w0 := ⟨_, rfl⟩
  rw [hw0] at HN hb0 hb1
  have HW0 := Lib.hid hw0
  have HB0 := Lib.hid hb0
  have HB1 := Lib.hid hb1
  clear hw0 HNN hb0 hb1
  have x0 := cell_of_row _ _ 0 _ _ _ HB0.out
  have x1 := cell_of_row _ _ 1 _ _ _ HB0.out
  have y0 := cell_of_row _ _ 0 _ _ _ HB1.out
  have y1 := cell_of_row _ _ 1 _ _ _ HB1.out
  go_enter Tryz.func85, Tryz.ntmps85
  go_wp2_with (rw [HW0.out])
  refine (HC.out _).mono ?_
  rintro e w9 ⟨rfl, hn⟩
  replace HN := Lib.hid (HN.out.trans hn)
  replace HB0 := Lib.hid ((hn.block _ (lt_of_block HB0.out)).trans HB0.out)
  replace HB1 := Lib.hid ((hn.block _ (lt_of_block HB1.out)).trans HB1.out)
  clear hn x0 x1 y0 y1
  go_wp2_with fail
  refine (HS.out _).mono ?_
  rintro e w9 ⟨rfl, hn⟩
  replace HN := Lib.hid (HN.out.trans hn)
  replace HB0 := Lib.hid ((hn.block _ (lt_of_block HB0.out)).trans HB0.out)
  replace HB1 := Lib.hid ((hn.block _ (lt_of_block HB1.out)).trans HB1.out)
  clear hn
  have hx := heap_alloc_new w9 (.cells #[.int .i64 (wd : Int), .int .i64 (kd : Int), .int .i64 (kd : Int)] 133)
  have hn2 := (New.refl w9).alloc (.cells #[.int .i64 (wd : Int), .int .i64 (kd : Int), .int .i64 (kd : Int)] 133)
  obtain ⟨wb1, hw2⟩ : ∃ w2, w9.alloc (.cells #[.int .i64 (wd : Int), .int .i64 (kd : Int), .int .i64 (kd : Int)] 133) = w2 := ⟨_, rfl⟩
  rw [hw2] at hx hn2
  obtain ⟨q1, hq⟩ : ∃ q, w9.heap.size = q := ⟨_, rfl⟩
  rw [hq] at hx
  have HX1 := Lib.hid hx
  replace HN := Lib.hid (HN.out.trans hn2)
  have HM1 := Lib.hid hn2
  have HE1 := Lib.hid (show w9.alloc (.cells #[.int .i64 (wd : Int), .int .i64 (kd : Int), .int .i64 (kd : Int)] 133) = wb1 ∧ w9.heap.size = q1 from ⟨hw2, hq⟩)
  clear hx hn2 hw2 hq
  replace HB0 := Lib.hid ((HM1.out.block _ (lt_of_block HB0.out)).trans HB0.out)
  replace HB1 := Lib.hid ((HM1.out.block _ (lt_of_block HB1.out)).trans HB1.out)
  have x0 := cell_of_row _ _ 0 _ _ _ HX1.out
  have x1 := cell_of_row _ _ 1 _ _ _ HX1.out
  have x2 := cell_of_row _ _ 2 _ _ _ HX1.out
  go_wp2_with (rw [HE1.out.1, HE1.out.2])
  refine (HF.out _).mono ?_
  rintro e w9 ⟨rfl, hn⟩
  replace HN := Lib.hid (HN.out.trans hn)
  replace HB0 := Lib.hid ((hn.block _ (lt_of_block HB0.out)).trans HB0.out)
  replace HB1 := Lib.hid ((hn.block _ (lt_of_block HB1.out)).trans HB1.out)
  replace HX1 := Lib.hid ((hn.block _ (lt_of_block HX1.out)).trans HX1.out)
  clear hn x0 x1 x2
  go_wp2
  go_returns
  exact ⟨rfl, HN.out⟩
set_option maxHeartbeats 1000000 in
theorem eval_okA (A B wd kd j : Nat) (x : BitVec 64) (hA : A < 2 ^ 128) (hB : B < 2 ^ 128) (hwd : wd ≤ 128) (hj : j ≤ wd) (kind : Int) (hfit : (x >>> kd == 0#64) = true) (HS : Hid (∀ w : World, Calls Tryz.prog 126 #[.int .i64 kind] w fun e w' => e = .returned (.tuple #[.agg #[.int .i64 (wd : Int), .int .i64 (kd : Int), .int .i64 (kd : Int)], .bool true]) ∧ New w w')) (HC : Hid (∀ w : World, Calls Tryz.prog 125 #[.int .i64 kind, .int .i64 (j : Int), .agg #[.int .u64 (W64 (hiN (A))), .int .u64 (W64 (loN (A)))], .agg #[.int .u64 (W64 (hiN (B))), .int .u64 (W64 (loN (B)))]] w fun e w' => e = .returned (.int .i64 0) ∧ New w w')) (w : World) : Calls Tryz.prog 85 #[.int .i64 kind, .int .i64 (j : Int), .agg #[.int .u64 (W64 (hiN (A))), .int .u64 (W64 (loN (A)))], .agg #[.int .u64 (W64 (hiN (B))), .int .u64 (W64 (loN (B)))], .int .u64 (W64 x)] w fun e w' => e = .returned (.tuple #[.int .u64 (W64 (loN ((A * x.toNat + B) % 2 ^ wd / 2 ^ (wd - j)))), .int .i64 0]) ∧ New w w' := by
  have HF := Lib.hid (fits_a x kd)
  rw [hfit] at HF
  have HSM := Lib.hid (sum_a A B wd kd x hA hB hwd)
  have hR : (A * x.toNat + B) % 2 ^ wd < 2 ^ 128 := Nat.lt_of_lt_of_le (Nat.mod_lt _ (Nat.two_pow_pos _)) (Nat.pow_le_pow_right (by decide) hwd)
  have hsh := shr_n ((A * x.toNat + B) % 2 ^ wd) (wd - j) hR (by omega)
  rw [show ((wd - j : Nat) : Int) = (wd : Int) - (j : Int) by omega] at hsh
  have HSH := Lib.hid hsh
  have hw : wrap64 ((wd : Int) - (j : Int)) = (wd : Int) - (j : Int) := by unfold wrap64; omega
  have hw2 : IntKind.i64.wrap ((wd : Int) - (j : Int)) = (wd : Int) - (j : Int) := by first | (rw [IntKind.wrap_i64]; exact hw) | (simp [IntKind.wrap, IntKind.signed, IntKind.bits]; omega)
  generalize hiN ((A * x.toNat + B) % 2 ^ wd / 2 ^ (wd - j)) = e1 at *
  generalize loN ((A * x.toNat + B) % 2 ^ wd / 2 ^ (wd - j)) = e0 at *
  have hfd : ∀ w, (Instr.field 63 (.agg #[.int .u64 (W64 e1), .int .u64 (W64 e0)]) 1).run Tryz.prog w = .ok (.int .u64 (W64 e0)) w := fun w => by kernel_rfl
  generalize (A * x.toNat + B) % 2 ^ wd = R at *
  clear hR hsh
  clear hA hB hwd hj hfit
  obtain ⟨hbl, HNN⟩ := boxes2 w (.cells #[.int .u64 (W64 (hiN (A))), .int .u64 (W64 (loN (A)))] 63) (.cells #[.int .u64 (W64 (hiN (B))), .int .u64 (W64 (loN (B)))] 63)
  obtain ⟨hb0, hb1⟩ := hbl
  have HN := Lib.hid HNN
  obtain ⟨w0, hw0⟩ : ∃ w0, (((w.alloc (.cells #[.int .u64 (W64 (hiN (A))), .int .u64 (W64 (loN (A)))] 63))).alloc (.cells #[.int .u64 (W64 (hiN (B))), .int .u64 (W64 (loN (B)))] 63)) = w0 := ⟨_, rfl⟩
  rw [hw0] at HN hb0 hb1
  have HW0 := Lib.hid hw0
  have HB0 := Lib.hid hb0
  have HB1 := Lib.hid hb1
  clear hw0 HNN hb0 hb1
  have x0 := cell_of_row _ _ 0 _ _ _ HB0.out
  have x1 := cell_of_row _ _ 1 _ _ _ HB0.out
  have y0 := cell_of_row _ _ 0 _ _ _ HB1.out
  have y1 := cell_of_row _ _ 1 _ _ _ HB1.out
  go_enter Tryz.func85, Tryz.ntmps85
  go_wp2_with (rw [HW0.out])
  refine (HC.out _).mono ?_
  rintro e w9 ⟨rfl, hn⟩
  replace HN := Lib.hid (HN.out.trans hn)
  replace HB0 := Lib.hid ((hn.block _ (lt_of_block HB0.out)).trans HB0.out)
  replace HB1 := Lib.hid ((hn.block _ (lt_of_block HB1.out)).trans HB1.out)
  clear hn x0 x1 y0 y1
  go_wp2_with fail
  refine (HS.out _).mono ?_
  rintro e w9 ⟨rfl, hn⟩
  replace HN := Lib.hid (HN.out.trans hn)
  replace HB0 := Lib.hid ((hn.block _ (lt_of_block HB0.out)).trans HB0.out)
  replace HB1 := Lib.hid ((hn.block _ (lt_of_block HB1.out)).trans HB1.out)
  clear hn
  have hx := heap_alloc_new w9 (.cells #[.int .i64 (wd : Int), .int .i64 (kd : Int), .int .i64 (kd : Int)] 133)
  have hn2 := (New.refl w9).alloc (.cells #[.int .i64 (wd : Int), .int .i64 (kd : Int), .int .i64 (kd : Int)] 133)
  obtain ⟨wb1, hw2⟩ : ∃ w2, w9.alloc (.cells #[.int .i64 (wd : Int), .int .i64 (kd : Int), .int .i64 (kd : Int)] 133) = w2 := ⟨_, rfl⟩
  rw [hw2] at hx hn2
  obtain ⟨q1, hq⟩ : ∃ q, w9.heap.size = q := ⟨_, rfl⟩
  rw [hq] at hx
  have HX1 := Lib.hid hx
  replace HN := Lib.hid (HN.out.trans hn2)
  have HM1 := Lib.hid hn2
  have HE1 := Lib.hid (show w9.alloc (.cells #[.int .i64 (wd : Int), .int .i64 (kd : Int), .int .i64 (kd : Int)] 133) = wb1 ∧ w9.heap.size = q1 from ⟨hw2, hq⟩)
  clear hx hn2 hw2 hq
  replace HB0 := Lib.hid ((HM1.out.block _ (lt_of_block HB0.out)).trans HB0.out)
  replace HB1 := Lib.hid ((HM1.out.block _ (lt_of_block HB1.out)).trans HB1.out)
  have x0 := cell_of_row _ _ 0 _ _ _ HX1.out
  have x1 := cell_of_row _ _ 1 _ _ _ HX1.out
  have x2 := cell_of_row _ _ 2 _ _ _ HX1.out
  go_wp2_with (rw [HE1.out.1, HE1.out.2])
  refine (HF.out _).mono ?_
  rintro e w9 ⟨rfl, hn⟩
  replace HN := Lib.hid (HN.out.trans hn)
  replace HB0 := Lib.hid ((hn.block _ (lt_of_block HB0.out)).trans HB0.out)
  replace HB1 := Lib.hid ((hn.block _ (lt_of_block HB1.out)).trans HB1.out)
  replace HX1 := Lib.hid ((hn.block _ (lt_of_block HX1.out)).trans HX1.out)
  clear hn x0 x1 x2
  go_wp2_with fail
  refine wp_region_class (fun w' => (w'.heap[w.heap.size]? = some (.cells #[.int .u64 (W64 (hiN (A))), .int .u64 (W64 (loN (A)))] 63) ∧ w'.heap[(w.heap.size + 1)]? = some (.cells #[.int .u64 (W64 (hiN (B))), .int .u64 (W64 (loN (B)))] 63) ∧ w'.heap[q1]? = some (.cells #[.int .i64 (wd : Int), .int .i64 (kd : Int), .int .i64 (kd : Int)] 133)) ∧ New w9 w') (by kernel_rfl) (by kernel_rfl) ⟨⟨((New.refl w9).drew.block _ (lt_of_block HB0.out)).trans HB0.out, ((New.refl w9).drew.block _ (lt_of_block HB1.out)).trans HB1.out, ((New.refl w9).drew.block _ (lt_of_block HX1.out)).trans HX1.out⟩, (New.refl _).drew⟩ ?_
  intro I _ f hall hback
  have HSTEP : Hid (∀ n w', New (f n) w' → ∃ m, w' = f m) := Lib.hid fun n w' hn => hback w' ⟨⟨(hn.block _ (lt_of_block ((hall n).1.1))).trans ((hall n).1.1), (hn.block _ (lt_of_block ((hall n).1.2.1))).trans ((hall n).1.2.1), (hn.block _ (lt_of_block ((hall n).1.2.2))).trans ((hall n).1.2.2)⟩, (hall n).2.trans hn⟩
  have HALL := Lib.hid fun n => (hall n).2
  have s0 := fun n => cell_of_row _ _ 0 _ _ _ ((hall n).1.1)
  have s1 := fun n => cell_of_row _ _ 1 _ _ _ ((hall n).1.1)
  have s2 := fun n => cell_of_row _ _ 0 _ _ _ ((hall n).1.2.1)
  have s3 := fun n => cell_of_row _ _ 1 _ _ _ ((hall n).1.2.1)
  have s4 := fun n => cell_of_row _ _ 0 _ _ _ ((hall n).1.2.2)
  have s5 := fun n => cell_of_row _ _ 1 _ _ _ ((hall n).1.2.2)
  have s6 := fun n => cell_of_row _ _ 2 _ _ _ ((hall n).1.2.2)
  clear hall hback
  repeat (go_big_quiet_step (first
    | (go_at_call 129; refine class_new HSTEP.out (HSM.out _))
    | (go_at_call 128; refine class_new HSTEP.out (HSH.out _))))
  refine wpQuiet_nil ?_
  rintro w9 ⟨n1, hw1⟩
  have hS := HALL.out n1
  rw [← hw1] at hS
  replace HB0 := Lib.hid ((hS.block _ (lt_of_block HB0.out)).trans HB0.out)
  replace HB1 := Lib.hid ((hS.block _ (lt_of_block HB1.out)).trans HB1.out)
  replace HX1 := Lib.hid ((hS.block _ (lt_of_block HX1.out)).trans HX1.out)
  replace HN := Lib.hid (HN.out.trans hS)
  clear HALL HSTEP hw1 hS s0 s1 s2 s3 s4 s5 s6
  go_wp2
  go_returns
  exact ⟨rfl, HN.out⟩
end Go.Proofs.YtebcfbcfipmahaaGreat
end
section
/- Plain lemmas: the field of 2^61 - 1 elements; divided differences; polynomials by their values. -/
namespace Go.Bv
open Go Go.RowKit
set_option linter.unusedVariables false
abbrev FF := Fin 2305843009213693951
/-- a number as an element of the field -/
def ff (N : Nat) : FF := ⟨N % 2305843009213693951, Nat.mod_lt _ (by decide)⟩
def fw (x : BitVec 64) : FF := ff x.toNat
theorem ff_iff {a b : Nat} : ff a = ff b ↔ a % PP = b % PP := ⟨fun h => congrArg Fin.val h, fun h => Fin.ext h⟩
theorem ff_add (a b : Nat) : ff (a + b) = ff a + ff b := by
  apply Fin.ext; rw [Fin.val_add]; show (a + b) % PP = (a % PP + b % PP) % PP; rw [← Nat.add_mod]
theorem ff_mul (a b : Nat) : ff (a * b) = ff a * ff b := by
  apply Fin.ext; rw [Fin.val_mul]; show (a * b) % PP = (a % PP * (b % PP)) % PP; rw [← Nat.mul_mod]
theorem fw_mp (N : Nat) : fw (mp N) = ff N := by unfold fw; rw [ff_iff, mp_toNat, Nat.mod_mod]
theorem fw_zero : fw 0#64 = 0 := rfl
theorem fw_inj {x y : BitVec 64} (hx : x.toNat < PP) (hy : y.toNat < PP) (h : fw x = fw y) : x = y := by
  have := ff_iff.1 h
  rw [Nat.mod_eq_of_lt hx, Nat.mod_eq_of_lt hy] at this
  exact BitVec.eq_of_toNat_eq this
theorem mp_ff {a b : Nat} (h : ff a = ff b) : mp a = mp b := mp_congr (ff_iff.1 h)
theorem mp_lt (N : Nat) : (mp N).toNat < PP := by rw [mp_toNat]; exact Nat.mod_lt _ PP_pos
theorem nozero (a b : FF) (h : a * b = 0) : a = 0 ∨ b = 0 := by
  by_cases ha : a = 0
  · exact Or.inl ha
  · by_cases hb : b = 0
    · exact Or.inr hb
    · exfalso
      have h1 : a.val % Fer.P61 ≠ 0 := fun e => ha (Fin.ext ((Nat.mod_eq_of_lt a.isLt).symm.trans e))
      have h2 : b.val % Fer.P61 ≠ 0 := fun e => hb (Fin.ext ((Nat.mod_eq_of_lt b.isLt).symm.trans e))
      have h3 := congrArg Fin.val h
      rw [Fin.val_mul] at h3
      exact Fer.gen61.mul_ne a.val b.val h1 h2 h3
theorem cancel {a b u : FF} (hu : u ≠ 0) (h : a * u = b * u) : a = b := by
  have h1 : (a - b) * u = 0 := by grind
  rcases nozero _ _ h1 with h2 | h2
  · grind
  · exact absurd h2 hu
def eI : Nat := 2305843009213693949
/-- the inverse, as a power -/
def inv (a : FF) : FF := ff (a.val ^ eI)
theorem inv_mul {a : FF} (h : a ≠ 0) : a * inv a = 1 := by
  have h1 : a.val % Fer.P61 ≠ 0 := fun e => h (Fin.ext ((Nat.mod_eq_of_lt a.isLt).symm.trans e))
  have h2 := Fer.gen61.inv (by decide) a.val h1
  apply Fin.ext
  rw [Fin.val_mul]
  exact h2
/-- a difference of words, as the program takes it -/
def sb (a b : BitVec 64) : BitVec 64 := mp (a.toNat + (2305843009213693951#64 - mp b.toNat).toNat)
theorem fw_sb (a b : BitVec 64) : fw (sb a b) = fw a - fw b := by
  unfold sb
  rw [fw_mp, ff_add]
  have h1 : (2305843009213693951#64 - mp b.toNat).toNat = PP - b.toNat % PP := by
    have hmt := mp_toNat b.toNat
    have hml := Nat.mod_lt b.toNat PP_pos
    rw [BitVec.toNat_sub_of_le (by rw [BitVec.le_def, hmt]; show _ ≤ PP; omega), hmt]; rfl
  have h2 : ff (PP - b.toNat % PP) + fw b = 0 := by
    show ff (PP - b.toNat % PP) + ff b.toNat = 0
    rw [← ff_add]
    apply Fin.ext
    show (PP - b.toNat % PP + b.toNat) % PP = 0
    have h3 := Nat.div_add_mod b.toNat PP
    have h4 := Nat.mod_lt b.toNat PP_pos
    have h5 : PP - b.toNat % PP + b.toNat = PP * (b.toNat / PP) + PP := by omega
    rw [h5, Nat.mul_add_mod, Nat.mod_self]
  rw [h1]
  show fw a + ff (PP - b.toNat % PP) = fw a - fw b
  grind
/-- the inverse of a word, as the program takes it -/
def iv (a : BitVec 64) : BitVec 64 := if mp a.toNat = 0#64 then 0#64 else mp (a.toNat ^ eI)
theorem fw_iv {a : BitVec 64} (h : fw a ≠ 0) : fw (iv a) = inv (fw a) := by
  unfold iv
  rw [if_neg (fun e => h (by rw [← mp_zero] at e; exact ff_iff.2 (mp_iff.1 e)))]
  rw [fw_mp]
  unfold inv
  rw [ff_iff]
  show a.toNat ^ eI % PP = (a.toNat % PP) ^ eI % PP
  rw [← Nat.pow_mod]
/-- divided differences with the first a points from s on, and m -/
def gg (X Y : Nat → FF) (s : Nat) : Nat → Nat → FF
  | 0, m => Y m
  | a + 1, m => (gg X Y s a m - gg X Y s a (s + a)) * inv (X m - X (s + a))
theorem gg_mul {X Y : Nat → FF} {s a m : Nat} (h : X m - X (s + a) ≠ 0) : gg X Y s (a + 1) m * (X m - X (s + a)) = gg X Y s a m - gg X Y s a (s + a) := by
  show (gg X Y s a m - gg X Y s a (s + a)) * inv (X m - X (s + a)) * (X m - X (s + a)) = _
  have := inv_mul h
  generalize inv (X m - X (s + a)) = q at *
  generalize X m - X (s + a) = u at *
  grind
theorem shift_alg {A B C D E G H u v w : FF} (h0 : v = u + w) (h1 : A * v = C - E) (h2 : B * w = D - E) (h3 : G * u = A - B) (h4 : H * u = C - D) : (G * v) * u = (H - B) * u := by grind
theorem gg_shift {X Y : Nat → FF} {n : Nat} (hX : ∀ i j, i < n → j < n → i ≠ j → X i - X j ≠ 0) : ∀ a s m, s + a < m → m < n →
    gg X Y s (a + 1) m * (X m - X s) = gg X Y (s + 1) a m - gg X Y s a (s + a)
  | 0, s, m, h1, h2 => gg_mul (hX m (s + 0) h2 (by omega) (by omega))
  | a + 1, s, m, h1, h2 => by
    have hu : X m - X (s + (a + 1)) ≠ 0 := hX _ _ h2 (by omega) (by omega)
    have e1 := gg_shift (Y := Y) hX a s m (by omega) h2
    have e2 := gg_shift (Y := Y) hX a s (s + (a + 1)) (by omega) (by omega)
    have e3 := gg_mul (Y := Y) (s := s) (a := a + 1) (m := m) hu
    have e4 := gg_mul (Y := Y) (s := s + 1) (a := a) (m := m) (by rw [show s + 1 + a = s + (a + 1) by omega]; exact hu)
    rw [show s + 1 + a = s + (a + 1) by omega] at e4
    apply cancel hu
    generalize gg X Y s (a + 1 + 1) m = G at *
    generalize gg X Y (s + 1) (a + 1) m = H at *
    generalize gg X Y s (a + 1) m = A at *
    generalize gg X Y s (a + 1) (s + (a + 1)) = B at *
    generalize gg X Y (s + 1) a m = C at *
    generalize gg X Y (s + 1) a (s + (a + 1)) = D at *
    generalize gg X Y s a (s + a) = E at *
    have hv : X m - X s = (X m - X (s + (a + 1))) + (X (s + (a + 1)) - X s) := by
      generalize X m = p
      generalize X s = q
      generalize X (s + (a + 1)) = r
      grind
    generalize X m - X s = v at *
    generalize X m - X (s + (a + 1)) = u at *
    generalize X (s + (a + 1)) - X s = z at *
    clear hX h1 h2 hu
    exact shift_alg hv e1 e2 e3 e4
/-- the same as the program makes them: behind a steps, at t -/
def dd (X Y : Nat → FF) : Nat → Nat → FF
  | 0, t => Y t
  | a + 1, t => if t < a + 1 then dd X Y a t else (dd X Y a t - dd X Y a (t - 1)) * inv (X t - X (t - (a + 1)))
theorem dd_gg {X Y : Nat → FF} {n : Nat} (hX : ∀ i j, i < n → j < n → i ≠ j → X i - X j ≠ 0) : ∀ a s, s + a < n → dd X Y a (s + a) = gg X Y s a (s + a)
  | 0, s, _ => rfl
  | a + 1, s, h => by
    show (if s + (a + 1) < a + 1 then _ else _) = _
    rw [if_neg (by omega), show s + (a + 1) - 1 = s + a by omega, show s + (a + 1) - (a + 1) = s by omega]
    have e1 := dd_gg (Y := Y) hX a s (by omega)
    have e2 := dd_gg (Y := Y) hX a (s + 1) (by omega)
    rw [show s + 1 + a = s + (a + 1) by omega] at e2
    have e3 := gg_shift (Y := Y) hX a s (s + (a + 1)) (by omega) h
    have hu : X (s + (a + 1)) - X s ≠ 0 := hX _ _ h (by omega) (by omega)
    have e4 := inv_mul hu
    rw [e1, e2]
    generalize gg X Y s (a + 1) (s + (a + 1)) = G at *
    generalize gg X Y (s + 1) a (s + (a + 1)) = C at *
    generalize gg X Y s a (s + a) = E at *
    generalize inv (X (s + (a + 1)) - X s) = q at *
    generalize X (s + (a + 1)) - X s = u at *
    grind
theorem dd_stay (X Y : Nat → FF) (t : Nat) : ∀ d, dd X Y (t + d) t = dd X Y t t
  | 0 => rfl
  | d + 1 => by
    show (if t < t + d + 1 then dd X Y (t + d) t else _) = _
    rw [if_pos (by omega), dd_stay X Y t d]
/-- Newton's sum from i on, d of them, at z -/
def nw (X D : Nat → FF) (z : FF) : Nat → Nat → FF
  | 0, _ => 0
  | d + 1, i => nw X D z d (i + 1) * (z - X i) + D i
theorem nw_at {X Y : Nat → FF} {n : Nat} (hX : ∀ i j, i < n → j < n → i ≠ j → X i - X j ≠ 0) (m : Nat) (hm : m < n) : ∀ d i, i + d = m + 1 → i ≤ m →
    ∀ e, nw X (fun i => gg X Y 0 i i) (X m) (d + e) i = gg X Y 0 i m
  | 0, i, h1, h2, e => by omega
  | d + 1, i, h1, h2, e => by
    rw [show d + 1 + e = (d + e) + 1 by omega]
    show nw X _ (X m) (d + e) (i + 1) * (X m - X i) + gg X Y 0 i i = _
    by_cases h3 : i = m
    · subst h3
      have : X i - X i = 0 := by grind
      rw [this]
      grind
    · rw [nw_at hX m hm d (i + 1) (by omega) (by omega) e]
      have hu : X m - X (0 + i) ≠ 0 := by rw [Nat.zero_add]; exact hX _ _ hm (by omega) (fun e => h3 e.symm)
      have e1 := gg_mul (Y := Y) (s := 0) (a := i) (m := m) hu
      rw [Nat.zero_add] at e1
      generalize gg X Y 0 (i + 1) m = G at *
      generalize gg X Y 0 i m = A at *
      generalize gg X Y 0 i i = B at *
      grind
theorem nw_all {X Y : Nat → FF} {n : Nat} (hX : ∀ i j, i < n → j < n → i ≠ j → X i - X j ≠ 0) (m : Nat) (hm : m < n) :
    nw X (fun i => gg X Y 0 i i) (X m) n 0 = Y m := by
  have h := nw_at (Y := Y) hX m hm (m + 1) 0 (by omega) (by omega) (n - (m + 1))
  rw [show m + 1 + (n - (m + 1)) = n by omega] at h
  exact h
/-- powers and sums of powers in the field -/
def pwF (z : FF) : Nat → FF
  | 0 => 1
  | n + 1 => pwF z n * z
def pvF (f : Nat → FF) (z : FF) : Nat → FF
  | 0 => 0
  | n + 1 => pvF f z n + f n * pwF z n
theorem pwF_pow (x : Nat) : ∀ n, ff (x ^ n) = pwF (ff x) n
  | 0 => by rw [Nat.pow_zero]; rfl
  | n + 1 => by rw [Nat.pow_succ, ff_mul, pwF_pow x n]; rfl
theorem pvF_pv (f : Nat → Nat) (x : Nat) : ∀ n, ff (pv f x n) = pvF (fun i => ff (f i)) (ff x) n
  | 0 => rfl
  | n + 1 => by
    show ff (pv f x n + f n * x ^ n) = _
    rw [ff_add, ff_mul, pvF_pv f x n, pwF_pow]; rfl
theorem pvF_split {f H : Nat → FF} {a : FF} (z : FF) (h : ∀ k, f k = H k - a * H (k + 1)) : ∀ N, pvF f z N = H 0 + (z - a) * pvF (fun k => H (k + 1)) z N - H N * pwF z N
  | 0 => by show (0 : FF) = H 0 + (z - a) * 0 - H 0 * 1; grind
  | N + 1 => by
    show pvF f z N + f N * pwF z N = H 0 + (z - a) * (pvF (fun k => H (k + 1)) z N + H (N + 1) * pwF z N) - H (N + 1) * (pwF z N * z)
    rw [pvF_split z h N, h N]
    generalize pvF (fun k => H (k + 1)) z N = Q
    generalize pwF z N = p
    grind
/-- Horner's numbers from k on, of the first n -/
def hF (f : Nat → FF) (a : FF) (n : Nat) : Nat → Nat → FF
  | 0, _ => 0
  | d + 1, k => f k + a * hF f a n d (k + 1)
theorem roots_none : ∀ (n : Nat) (f X : Nat → FF), (∀ i j, i < n → j < n → i ≠ j → X i - X j ≠ 0) → (∀ i, i < n → pvF f (X i) n = 0) → ∀ k, k < n → f k = 0
  | 0, _, _, _, _, k, hk => by omega
  | n + 1, f, X, hX, h0, k, hk => by
    let g : Nat → FF := fun i => if i < n + 1 then f i else 0
    let H : Nat → FF := fun k => hF g (X 0) 0 (n + 1 - k) k
    have hH : ∀ k, g k = H k - X 0 * H (k + 1) := fun k => by
      show g k = hF g (X 0) 0 (n + 1 - k) k - X 0 * hF g (X 0) 0 (n + 1 - (k + 1)) (k + 1)
      by_cases e : k < n + 1
      · rw [show n + 1 - k = (n + 1 - (k + 1)) + 1 by omega]
        show g k = g k + X 0 * hF g (X 0) 0 (n + 1 - (k + 1)) (k + 1) - X 0 * hF g (X 0) 0 (n + 1 - (k + 1)) (k + 1)
        generalize X 0 * hF g (X 0) 0 (n + 1 - (k + 1)) (k + 1) = q
        generalize g k = r
        grind
      · rw [show n + 1 - k = 0 by omega, show n + 1 - (k + 1) = 0 by omega]
        have : g k = 0 := if_neg e
        rw [this]
        show (0 : FF) = 0 - X 0 * 0
        grind
    have hfg : ∀ N z, N ≤ n + 1 → pvF f z N = pvF g z N := by
      intro N z
      induction N with
      | zero => intro _; rfl
      | succ N ih =>
        intro hN
        show pvF f z N + f N * pwF z N = pvF g z N + g N * pwF z N
        rw [ih (by omega), show g N = f N from if_pos (by omega)]
    have hHn : H (n + 1) = 0 := by
      show hF g (X 0) 0 (n + 1 - (n + 1)) (n + 1) = 0
      rw [Nat.sub_self]; rfl
    have hsp : ∀ z, pvF f z (n + 1) = H 0 + (z - X 0) * pvF (fun k => H (k + 1)) z (n + 1) := fun z => by
      rw [hfg _ z (Nat.le_refl _), pvF_split z hH (n + 1), hHn]; grind
    have hH0 : H 0 = 0 := by
      have h1 := h0 0 (by omega)
      rw [hsp] at h1
      grind
    have hq : ∀ k, k < n → H (k + 1) = 0 := by
      refine roots_none n (fun k => H (k + 1)) (fun i => X (i + 1)) (fun i j hi hj hij => hX _ _ (by omega) (by omega) (by omega)) (fun i hi => ?_)
      have h1 := h0 (i + 1) (by omega)
      rw [hsp, hH0] at h1
      have h2 : (X (i + 1) - X 0) * pvF (fun k => H (k + 1)) (X (i + 1)) (n + 1) = 0 := by grind
      rcases nozero _ _ h2 with h3 | h3
      · exact absurd h3 (hX _ _ (by omega) (by omega) (by omega))
      · have h4 : pvF (fun k => H (k + 1)) (X (i + 1)) n + H (n + 1) * pwF (X (i + 1)) n = 0 := h3
        rw [hHn] at h4
        show pvF (fun k => H (k + 1)) (X (i + 1)) n = 0
        grind
    have hk1 : H k = 0 := by
      cases k with
      | zero => exact hH0
      | succ j => exact hq j (by omega)
    have hk2 : H (k + 1) = 0 := by
      by_cases e : k < n
      · exact hq k e
      · rw [show k = n by omega]; exact hHn
    have := hH k
    rw [show g k = f k from if_pos hk, hk1, hk2] at this
    rw [this]; grind
end Go.Bv
end
