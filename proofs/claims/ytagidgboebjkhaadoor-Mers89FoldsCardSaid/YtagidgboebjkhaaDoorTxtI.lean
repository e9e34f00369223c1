/- Layer 5: mers89.Text; the law Mers89Folds. -/
import Derived.Test.YtagidgboebjkhaaDoorMeiI
import Derived.Test.YtagidgboebjkhaaDoorTxtC
import Derived.Test.YtagidgboebjkhaaDoorTxtD
import Derived.Test.YtagidgboebjkhaaDoorFouC
namespace Go.Bv
open Go Go.RowKit
theorem ex_word (X : BitVec 256) (s : Nat) : X.extractLsb' s 64 = BitVec.ofNat 64 (X.toNat / 2 ^ s) := by
  apply BitVec.eq_of_toNat_eq
  rw [BitVec.extractLsb'_toNat, Nat.shiftRight_eq_div_pow, BitVec.toNat_ofNat]
theorem join_four (x0 x1 x2 x3 : BitVec 64) : ∃ X : BitVec 256, X.extractLsb' 0 64 = x0 ∧ X.extractLsb' 64 64 = x1 ∧ X.extractLsb' 128 64 = x2 ∧ X.extractLsb' 192 64 = x3 ∧ four x0 x1 x2 x3 = X.toNat := by
  have h : (BitVec.ofNat 256 (four x0 x1 x2 x3)).toNat = four x0 x1 x2 x3 := by rw [BitVec.toNat_ofNat, Nat.mod_eq_of_lt (four_lt x0 x1 x2 x3)]
  obtain ⟨h0, h1, h2, h3⟩ := four_words x0 x1 x2 x3
  refine ⟨BitVec.ofNat 256 (four x0 x1 x2 x3), ?_, ?_, ?_, ?_, h.symm⟩
  · rw [ex_word, h, Nat.pow_zero, Nat.div_one, h0]
  · rw [ex_word, h, h1]
  · rw [ex_word, h, h2]
  · rw [ex_word, h, h3]
theorem four_two (x : BitVec 128) : four (lo128 x) (hi128 x) 0#64 0#64 = x.toNat := by
  have h := x.isLt
  unfold four hi128 lo128
  rw [BitVec.toNat_setWidth, BitVec.extractLsb'_toNat, Nat.shiftRight_eq_div_pow]
  rw [show (0#64 : BitVec 64).toNat = 0 from rfl]
  omega
end Go.Bv
namespace Go.Proofs.YtagidgboebjkhaaDoor
open Go.RowKit Go.Bv
set_option linter.unusedVariables false
set_option maxRecDepth 100000
set_option maxHeartbeats 8000000
theorem text_89 (x : BitVec 128) (w : World) (ht : Lib.TabIs Tryd.prog w "internal/strconv.uint64pow10" .u64 Lib.pow10Tab) : Calls Tryd.prog 14 #[.agg #[.int .u64 (W64 (hi128 x)), .int .u64 (W64 (lo128 x))]] w fun e w' => e = .returned (.string (dS (m89 x.toNat).toNat)) ∧ New w w' := by
  have HR := Lib.hid (fun w => reduce_89 x w)
  have HT := Lib.hid (fun (w' : World) (hn : New w w') => text_4 (lo128 (m89 x.toNat)) (hi128 (m89 x.toNat)) 0#64 0#64 w' (tabIs_stay ht hn))
  rw [four_two, lo_zero] at HT
  have HB0 := Lib.hid (heap_alloc_new w (.cells #[.int .u64 (W64 (hi128 x)), .int .u64 (W64 (lo128 x))] 26))
  have HN0 := Lib.hid ((New.refl w).alloc (.cells #[.int .u64 (W64 (hi128 x)), .int .u64 (W64 (lo128 x))] 26))
  generalize m89 x.toNat = m at *
  clear ht
  have x0 := cell_of_row _ _ 0 _ _ _ HB0.out
  have x1 := cell_of_row _ _ 1 _ _ _ HB0.out
  go_enter Tryd.func14, Tryd.ntmps14
  go_wp2_with fail
  refine (HR.out _).mono ?_
  rintro e w1 ⟨rfl, hn1⟩
  have HN1 := Lib.hid (HN0.out.trans hn1)
  have HB1 := Lib.hid (heap_alloc_new w1 (.cells #[.int .u64 (W64 (hi128 m)), .int .u64 (W64 (lo128 m))] 26))
  have HN2 := Lib.hid ((New.refl w1).alloc (.cells #[.int .u64 (W64 (hi128 m)), .int .u64 (W64 (lo128 m))] 26))
  clear x0 x1 hn1
  have x0 := cell_of_row _ _ 0 _ _ _ HB1.out
  have x1 := cell_of_row _ _ 1 _ _ _ HB1.out
  go_wp2_with fail
  refine (HT.out _ (HN1.out.trans HN2.out)).mono ?_
  rintro e w2 ⟨rfl, hn2⟩
  have HN3 := Lib.hid ((HN1.out.trans HN2.out).trans hn2)
  clear hn2 x0 x1
  go_wp2
  go_ret
  exact ⟨rfl, HN3.out⟩
theorem folds89_try (W : World) (X : BitVec 256) (a p f r : BitVec 128) (isb : Bool) (k : Int) (t : ByteArray) (hk : decide (k < 0) = isb)
    (C0 : Hid (∀ w : World, Calls Tryd.prog 6 #[] w fun e w' => e = .returned (.agg #[.int .u64 (W64 (hi128 p)), .int .u64 (W64 (lo128 p))]) ∧ New w w'))
    (C1 : Hid (∀ w : World, Calls Tryd.prog 7 #[] w fun e w' => e = .returned (.agg #[.int .u64 (W64 (hi128 p)), .int .u64 (W64 (lo128 p))]) ∧ New w w'))
    (C2 : Hid (∀ w : World, Calls Tryd.prog 8 #[.agg #[.int .u64 (W64 (X.extractLsb' 0 64)), .int .u64 (W64 (X.extractLsb' 64 64)), .int .u64 (W64 (X.extractLsb' 128 64)), .int .u64 (W64 (X.extractLsb' 192 64))]] w fun e w' => e = .returned (.agg #[.int .u64 (W64 (hi128 f)), .int .u64 (W64 (lo128 f))]) ∧ New w w'))
    (C3 : Hid (∀ w : World, Calls Tryd.prog 10 #[.agg #[.int .u64 (W64 (X.extractLsb' 0 64)), .int .u64 (W64 (X.extractLsb' 64 64)), .int .u64 (W64 (X.extractLsb' 128 64)), .int .u64 (W64 (X.extractLsb' 192 64))]] w fun e w' => ∃ v, e = .returned v ∧ (BV 256 v ∧ BR X.toNat 256 v w') ∧ New w w'))
    (C4 : Hid (∀ (w : World) (q : Option Addr) (c : Nat), ZRow w q 256 c (bitsOf X.toNat 256) → Calls Tryd.prog 9 #[.slice q 256 c] w fun e w' => e = .returned (.agg #[.int .u64 (W64 (hi128 f)), .int .u64 (W64 (lo128 f))]) ∧ New w w'))
    (C5 : Hid (∀ w : World, Calls Tryd.prog 11 #[.agg #[.int .u64 (W64 (hi128 a)), .int .u64 (W64 (lo128 a))]] w fun e w' => e = .returned (.bool isb) ∧ New w w'))
    (C6 : Hid (∀ w : World, Calls Tryd.prog 13 #[] w fun e w' => ∃ v, e = .returned v ∧ (BV 128 v ∧ BR 618970019642690137449562111 128 v w') ∧ New w w'))
    (C7 : Hid (∀ (w : World) (q q2 : Option Addr) (c c2 : Nat), ZRow w q 128 c (bitsOf a.toNat 128) → ZRow w q2 128 c2 (bitsOf 618970019642690137449562111 128) → Calls Tryd.prog 12 #[.slice q 128 c, .slice q2 128 c2] w fun e w' => e = .returned (.int .i64 k) ∧ New w w'))
    (C8 : Hid (∀ w : World, New W w → Calls Tryd.prog 14 #[.agg #[.int .u64 (W64 (hi128 a)), .int .u64 (W64 (lo128 a))]] w fun e w' => e = .returned (.string t) ∧ New w w'))
    (C9 : Hid (∀ (w : World) (q : Option Addr) (c : Nat), ZRow w q 128 c (bitsOf a.toNat 128) → Calls Tryd.prog 9 #[.slice q 128 c] w fun e w' => e = .returned (.agg #[.int .u64 (W64 (hi128 r)), .int .u64 (W64 (lo128 r))]) ∧ New w w'))
    (C10 : Hid (∀ w : World, Calls Tryd.prog 5 #[.agg #[.int .u64 (W64 (hi128 r)), .int .u64 (W64 (lo128 r))]] w fun e w' => ∃ v, e = .returned v ∧ (BV 128 v ∧ BR r.toNat 128 v w') ∧ New w w'))
    (C11 : Hid (∀ (w : World) (q : Option Addr) (c : Nat), ZRow w q 128 c (bitsOf r.toNat 128) → Calls Tryd.prog 15 #[.slice q 128 c] w fun e w' => e = .returned (.string t) ∧ New w w'))
    (C12 : Hid (∀ w : World, Calls Tryd.prog 5 #[.agg #[.int .u64 (W64 (hi128 a)), .int .u64 (W64 (lo128 a))]] w fun e w' => ∃ v, e = .returned v ∧ (BV 128 v ∧ BR a.toNat 128 v w') ∧ New w w')) :
    Calls Tryd.prog 3 #[.agg #[.int .u64 (W64 (X.extractLsb' 0 64)), .int .u64 (W64 (X.extractLsb' 64 64)), .int .u64 (W64 (X.extractLsb' 128 64)), .int .u64 (W64 (X.extractLsb' 192 64))], .agg #[.int .u64 (W64 (hi128 a)), .int .u64 (W64 (lo128 a))]] W fun e w' => e = .returned (.bool true) ∧ New W w' := by
  have heqp := fun w => equ_x w p p
  have heqf := fun w => equ_x w f f
  simp only [BEq.rfl] at heqp heqf
  obtain ⟨h1, h2, h3⟩ := two_blocks W (.cells #[.int .u64 (W64 (X.extractLsb' 0 64)), .int .u64 (W64 (X.extractLsb' 64 64)), .int .u64 (W64 (X.extractLsb' 128 64)), .int .u64 (W64 (X.extractLsb' 192 64))] 24) (.cells #[.int .u64 (W64 (hi128 a)), .int .u64 (W64 (lo128 a))] 26)
  have H1 := Lib.hid h1
  have H2 := Lib.hid (show B2 _ _ _ a from h2)
  have H3 := Lib.hid h3
  clear h1 h2 h3
  go_enter Tryd.func3, Tryd.ntmps3
  go_wp2_with fail
  generalize (W.alloc (.cells #[.int .u64 (W64 (X.extractLsb' 0 64)), .int .u64 (W64 (X.extractLsb' 64 64)), .int .u64 (W64 (X.extractLsb' 128 64)), .int .u64 (W64 (X.extractLsb' 192 64))] 24)).alloc (.cells #[.int .u64 (W64 (hi128 a)), .int .u64 (W64 (lo128 a))] 26) = w0 at H1 H2 H3 ⊢
  refine (awake05 _).mono ?_
  rintro e' w1 ⟨rfl, hn1⟩
  have HN1 := Lib.hid (H3.out.trans hn1)
  have HC1 := Lib.hid ((hn1.block _ (lt_of_block H1.out)).trans H1.out)
  have HA1 := Lib.hid (H2.out.stay hn1)
  have s0 := HA1.out.c0
  have s1 := HA1.out.c1
  clear hn1 H1 H2 H3
  go_wp2_with fail
  refine (C12.out _).mono ?_
  rintro e' w2 ⟨v, rfl, ⟨hva, hvb⟩, hn2⟩
  obtain ⟨rt, ct, rfl⟩ := hva
  have HR2 := Lib.hid hvb.row
  have HN2 := Lib.hid (HN1.out.trans hn2)
  have HC2 := Lib.hid ((hn2.block _ (lt_of_block HC1.out)).trans HC1.out)
  have HA2 := Lib.hid (HA1.out.stay hn2)
  clear hn2 hvb s0 s1 HC1 HA1 HN1
  go_wp2_with fail
  refine Grow.wp_region_growS (fun w' => ((w'.heap[W.heap.size]? = some (.cells #[.int .u64 (W64 (X.extractLsb' 0 64)), .int .u64 (W64 (X.extractLsb' 64 64)), .int .u64 (W64 (X.extractLsb' 128 64)), .int .u64 (W64 (X.extractLsb' 192 64))] 24 (0, 0))) ∧ B2 w' (W.heap.size + 1) 26 a ∧ ZRow w' rt 128 ct (bitsOf a.toNat 128)) ∧ New W w') (fun k => [0, 1, 5, 7, 8, 13, 15, 16, 22, 24, 25, 26].contains k) (by kernel_rfl) (by kernel_rfl) (by kernel_rfl) ⟨⟨HC2.out, HA2.out.stay (New.refl _).drew, HR2.out.stay (New.refl _).drew⟩, HN2.out.drew⟩ ?_
  intro I _ g hall hback
  have HALL := Lib.hid hall
  have HSTEP : Hid (∀ n w', New (g n) w' → ∃ m, w' = g m) := Lib.hid fun n w' hn => hback w' ⟨⟨(hn.block _ (lt_of_block (hall n).1.1)).trans (hall n).1.1, (hall n).1.2.1.stay hn, (hall n).1.2.2.stay hn⟩, (hall n).2.trans hn⟩
  have s0 := fun n => (hall n).1.2.1.c0
  have s1 := fun n => (hall n).1.2.1.c1
  have t0 := fun n => cell_of_row _ _ 0 _ _ _ (hall n).1.1
  have t1 := fun n => cell_of_row _ _ 1 _ _ _ (hall n).1.1
  have t2 := fun n => cell_of_row _ _ 2 _ _ _ (hall n).1.1
  have t3 := fun n => cell_of_row _ _ 3 _ _ _ (hall n).1.1
  clear hall hback
  refine Grow.wpGrow_turn (fun u => u = .agg #[.int .u64 (W64 (hi128 p)), .int .u64 (W64 (lo128 p))]) (fun _ _ => True) rfl rfl ⟨_, rfl⟩ (fun w1 hB hG => ?_) (fun v1 A1 hv1 hA => ?_)
  · obtain ⟨n, rfl⟩ := hB
    go_simp
    refine (C0.out _).mono ?_
    rintro e w2 ⟨rfl, hn⟩
    first | exact ⟨_, rfl, HSTEP.out _ _ hn, rfl, trivial⟩ | exact ⟨_, rfl, HSTEP.out _ _ hn, rfl⟩ | exact ⟨rfl, HSTEP.out _ _ hn, trivial⟩ | exact ⟨rfl, HSTEP.out _ _ hn⟩
  simp [Act.put] at hA
  subst hA
  obtain rfl := hv1
  refine Grow.wpGrow_turn (fun u => u = .agg #[.int .u64 (W64 (hi128 p)), .int .u64 (W64 (lo128 p))]) (fun _ _ => True) rfl rfl ⟨_, rfl⟩ (fun w1 hB hG => ?_) (fun v2 A2 hv2 hA => ?_)
  · obtain ⟨n, rfl⟩ := hB
    go_simp
    refine (C1.out _).mono ?_
    rintro e w2 ⟨rfl, hn⟩
    first | exact ⟨_, rfl, HSTEP.out _ _ hn, rfl, trivial⟩ | exact ⟨_, rfl, HSTEP.out _ _ hn, rfl⟩ | exact ⟨rfl, HSTEP.out _ _ hn, trivial⟩ | exact ⟨rfl, HSTEP.out _ _ hn⟩
  simp [Act.put] at hA
  subst hA
  obtain rfl := hv2
  refine Grow.wpGrow_take 3 (by kernel_rfl) ?_
  simp only [List.take, List.drop, List.length]
  repeat (go_big_quiet_step (fail))
  refine wpQuiet_nil ?_
  refine Grow.wpGrow_turn (fun u => u = .agg #[.int .u64 (W64 (hi128 f)), .int .u64 (W64 (lo128 f))]) (fun _ _ => True) rfl rfl ⟨_, rfl⟩ (fun w1 hB hG => ?_) (fun v3 A3 hv3 hA => ?_)
  · obtain ⟨n, rfl⟩ := hB
    go_simp
    refine (C2.out _).mono ?_
    rintro e w2 ⟨rfl, hn⟩
    first | exact ⟨_, rfl, HSTEP.out _ _ hn, rfl, trivial⟩ | exact ⟨_, rfl, HSTEP.out _ _ hn, rfl⟩ | exact ⟨rfl, HSTEP.out _ _ hn, trivial⟩ | exact ⟨rfl, HSTEP.out _ _ hn⟩
  simp [Act.put] at hA
  subst hA
  obtain rfl := hv3
  refine Grow.wpGrow_take 1 (by kernel_rfl) ?_
  simp only [List.take, List.drop, List.length]
  repeat (go_big_quiet_step (fail))
  refine wpQuiet_nil ?_
  refine Grow.wpGrow_turn (BV 256) (BR X.toNat 256) rfl rfl (BV.some _) (fun w1 hB hG => ?_) (fun v4 A4 hv4 hA => ?_)
  · obtain ⟨n, rfl⟩ := hB
    go_simp
    refine (C3.out _).mono ?_
    rintro e w2 ⟨v, rfl, hv, hn⟩
    obtain ⟨hva, hvb⟩ := hv
    exact ⟨_, rfl, HSTEP.out _ _ hn, hva, hvb⟩
  simp [Act.put] at hA
  subst hA
  obtain ⟨ra4, ca4, rfl⟩ := hv4
  refine Grow.wpGrow_turn (fun u => u = .agg #[.int .u64 (W64 (hi128 f)), .int .u64 (W64 (lo128 f))]) (fun _ _ => True) rfl rfl ⟨_, rfl⟩ (fun w1 hB hG => ?_) (fun v5 A5 hv5 hA => ?_)
  · obtain ⟨n, rfl⟩ := hB
    go_simp
    refine (C4.out _ _ _ hG.row).mono ?_
    rintro e w2 ⟨rfl, hn⟩
    first | exact ⟨_, rfl, HSTEP.out _ _ hn, rfl, trivial⟩ | exact ⟨_, rfl, HSTEP.out _ _ hn, rfl⟩ | exact ⟨rfl, HSTEP.out _ _ hn, trivial⟩ | exact ⟨rfl, HSTEP.out _ _ hn⟩
  simp [Act.put] at hA
  subst hA
  obtain rfl := hv5
  refine Grow.wpGrow_take 4 (by kernel_rfl) ?_
  simp only [List.take, List.drop, List.length]
  repeat (go_big_quiet_step (fail))
  refine wpQuiet_nil ?_
  refine Grow.wpGrow_turn (fun u => u = .bool isb) (fun _ _ => True) rfl rfl ⟨_, rfl⟩ (fun w1 hB hG => ?_) (fun v6 A6 hv6 hA => ?_)
  · obtain ⟨n, rfl⟩ := hB
    go_simp
    refine (C5.out _).mono ?_
    rintro e w2 ⟨rfl, hn⟩
    first | exact ⟨_, rfl, HSTEP.out _ _ hn, rfl, trivial⟩ | exact ⟨_, rfl, HSTEP.out _ _ hn, rfl⟩ | exact ⟨rfl, HSTEP.out _ _ hn, trivial⟩ | exact ⟨rfl, HSTEP.out _ _ hn⟩
  simp [Act.put] at hA
  subst hA
  obtain rfl := hv6
  refine Grow.wpGrow_take 1 (by kernel_rfl) ?_
  simp only [List.take, List.drop, List.length]
  repeat (go_big_quiet_step (fail))
  refine wpQuiet_nil ?_
  refine Grow.wpGrow_turn (BV 128) (BR 618970019642690137449562111 128) rfl rfl (BV.some _) (fun w1 hB hG => ?_) (fun v7 A7 hv7 hA => ?_)
  · obtain ⟨n, rfl⟩ := hB
    go_simp
    refine (C6.out _).mono ?_
    rintro e w2 ⟨v, rfl, hv, hn⟩
    obtain ⟨hva, hvb⟩ := hv
    exact ⟨_, rfl, HSTEP.out _ _ hn, hva, hvb⟩
  simp [Act.put] at hA
  subst hA
  obtain ⟨ra7, ca7, rfl⟩ := hv7
  refine Grow.wpGrow_turn (fun u => u = .int .i64 k) (fun _ _ => True) rfl rfl ⟨_, rfl⟩ (fun w1 hB hG => ?_) (fun v8 A8 hv8 hA => ?_)
  · obtain ⟨n, rfl⟩ := hB
    go_simp
    refine (C7.out _ _ _ _ _ (HALL.out n).1.2.2 hG.row).mono ?_
    rintro e w2 ⟨rfl, hn⟩
    first | exact ⟨_, rfl, HSTEP.out _ _ hn, rfl, trivial⟩ | exact ⟨_, rfl, HSTEP.out _ _ hn, rfl⟩ | exact ⟨rfl, HSTEP.out _ _ hn, trivial⟩ | exact ⟨rfl, HSTEP.out _ _ hn⟩
  simp [Act.put] at hA
  subst hA
  obtain rfl := hv8
  refine Grow.wpGrow_take 5 (by kernel_rfl) ?_
  simp only [List.take, List.drop, List.length]
  repeat (go_big_quiet_step (fail))
  refine wpQuiet_nil ?_
  refine Grow.wpGrow_turn (fun u => u = .string t) (fun _ _ => True) rfl rfl ⟨_, rfl⟩ (fun w1 hB hG => ?_) (fun v9 A9 hv9 hA => ?_)
  · obtain ⟨n, rfl⟩ := hB
    go_simp
    refine (C8.out _ (HALL.out n).2).mono ?_
    rintro e w2 ⟨rfl, hn⟩
    first | exact ⟨_, rfl, HSTEP.out _ _ hn, rfl, trivial⟩ | exact ⟨_, rfl, HSTEP.out _ _ hn, rfl⟩ | exact ⟨rfl, HSTEP.out _ _ hn, trivial⟩ | exact ⟨rfl, HSTEP.out _ _ hn⟩
  simp [Act.put] at hA
  subst hA
  obtain rfl := hv9
  refine Grow.wpGrow_take 1 (by kernel_rfl) ?_
  simp only [List.take, List.drop, List.length]
  repeat (go_big_quiet_step (fail))
  refine wpQuiet_nil ?_
  refine Grow.wpGrow_turn (fun u => u = .agg #[.int .u64 (W64 (hi128 r)), .int .u64 (W64 (lo128 r))]) (fun _ _ => True) rfl rfl ⟨_, rfl⟩ (fun w1 hB hG => ?_) (fun v10 A10 hv10 hA => ?_)
  · obtain ⟨n, rfl⟩ := hB
    go_simp
    refine (C9.out _ _ _ (HALL.out n).1.2.2).mono ?_
    rintro e w2 ⟨rfl, hn⟩
    first | exact ⟨_, rfl, HSTEP.out _ _ hn, rfl, trivial⟩ | exact ⟨_, rfl, HSTEP.out _ _ hn, rfl⟩ | exact ⟨rfl, HSTEP.out _ _ hn, trivial⟩ | exact ⟨rfl, HSTEP.out _ _ hn⟩
  simp [Act.put] at hA
  subst hA
  obtain rfl := hv10
  refine Grow.wpGrow_turn (BV 128) (BR r.toNat 128) rfl rfl (BV.some _) (fun w1 hB hG => ?_) (fun v11 A11 hv11 hA => ?_)
  · obtain ⟨n, rfl⟩ := hB
    go_simp
    refine (C10.out _).mono ?_
    rintro e w2 ⟨v, rfl, hv, hn⟩
    obtain ⟨hva, hvb⟩ := hv
    exact ⟨_, rfl, HSTEP.out _ _ hn, hva, hvb⟩
  simp [Act.put] at hA
  subst hA
  obtain ⟨ra11, ca11, rfl⟩ := hv11
  refine Grow.wpGrow_turn (fun u => u = .string t) (fun _ _ => True) rfl rfl ⟨_, rfl⟩ (fun w1 hB hG => ?_) (fun v12 A12 hv12 hA => ?_)
  · obtain ⟨n, rfl⟩ := hB
    go_simp
    refine (C11.out _ _ _ hG.row).mono ?_
    rintro e w2 ⟨rfl, hn⟩
    first | exact ⟨_, rfl, HSTEP.out _ _ hn, rfl, trivial⟩ | exact ⟨_, rfl, HSTEP.out _ _ hn, rfl⟩ | exact ⟨rfl, HSTEP.out _ _ hn, trivial⟩ | exact ⟨rfl, HSTEP.out _ _ hn⟩
  simp [Act.put] at hA
  subst hA
  obtain rfl := hv12
  refine Grow.wpGrow_take 3 (by kernel_rfl) ?_
  simp only [List.take, List.drop, List.length]
  repeat (go_big_quiet_step (fail))
  refine wpQuiet_nil ?_
  refine Grow.wpGrow_nil ?_
  rintro w9 ⟨n9, rfl⟩ hG
  have HS9 := Lib.hid (HALL.out n9).2
  clear HALL HSTEP s0 s1 t0 t1 t2 t3 hG
  go_wp2
  go_ret
  exact ⟨rfl, HS9.out⟩
theorem of4_g (X : BitVec 256) (w : World) : Calls Tryd.prog 10 #[.agg #[.int .u64 (W64 (X.extractLsb' 0 64)), .int .u64 (W64 (X.extractLsb' 64 64)), .int .u64 (W64 (X.extractLsb' 128 64)), .int .u64 (W64 (X.extractLsb' 192 64))]] w fun e w' => ∃ v, e = .returned v ∧ (BV 256 v ∧ BR X.toNat 256 v w') ∧ New w w' := by
  have h := of4_own (X.extractLsb' 0 64) (X.extractLsb' 64 64) (X.extractLsb' 128 64) (X.extractLsb' 192 64) w
  have e : four (X.extractLsb' 0 64) (X.extractLsb' 64 64) (X.extractLsb' 128 64) (X.extractLsb' 192 64) = X.toNat := by
    obtain ⟨Y, h0, h1, h2, h3, h4⟩ := join_four (X.extractLsb' 0 64) (X.extractLsb' 64 64) (X.extractLsb' 128 64) (X.extractLsb' 192 64)
    have : Y = X := by
      apply BitVec.eq_of_getElem_eq
      intro i hi
      have g : ∀ s, Y.extractLsb' s 64 = X.extractLsb' s 64 → ∀ j, j < 64 → Y.getLsbD (s + j) = X.getLsbD (s + j) := fun s hs j hj => by
        have := congrArg (fun z => z.getLsbD j) hs
        simpa [BitVec.getLsbD_extractLsb', hj] using this
      rw [← BitVec.getLsbD_eq_getElem, ← BitVec.getLsbD_eq_getElem]
      rcases Nat.lt_or_ge i 64 with h | h
      · have := g 0 h0 i h; rwa [Nat.zero_add] at this
      rcases Nat.lt_or_ge i 128 with h' | h'
      · have := g 64 h1 (i - 64) (by omega); rwa [show 64 + (i - 64) = i by omega] at this
      rcases Nat.lt_or_ge i 192 with h'' | h''
      · have := g 128 h2 (i - 128) (by omega); rwa [show 128 + (i - 128) = i by omega] at this
      · have := g 192 h3 (i - 192) (by omega); rwa [show 192 + (i - 192) = i by omega] at this
    rw [h4, this]
  rw [e] at h
  refine h.mono ?_
  rintro e w' ⟨v, rfl, hown, hn⟩
  obtain ⟨a, c, rfl, hz⟩ := bits_row hown (by omega)
  exact ⟨_, rfl, BR.mk hz, hn⟩
theorem rp_gT (w : World) : Calls Tryd.prog 13 #[] w fun e w' => ∃ v, e = .returned v ∧ (BV 128 v ∧ BR 618970019642690137449562111 128 v w') ∧ New w w' := by
  refine (rp_89 w).mono ?_
  rintro e w' ⟨v, rfl, hown, hn⟩
  obtain ⟨a, c, rfl, hz⟩ := bits_row hown (by omega)
  exact ⟨_, rfl, BR.mk hz, hn⟩
theorem Mers89Folds_walk (W : World) (x0_0 : BitVec 64) (x0_1 : BitVec 64) (x0_2 : BitVec 64) (x0_3 : BitVec 64) (x1_0 : BitVec 64) (x1_1 : BitVec 64) (ht : Lib.TabIs Tryd.prog W "internal/strconv.uint64pow10" .u64 Lib.pow10Tab) :
    Calls Tryd.prog 3 #[.agg #[.int .u64 (W64 x0_0), .int .u64 (W64 x0_1), .int .u64 (W64 x0_2), .int .u64 (W64 x0_3)], .agg #[.int .u64 (W64 x1_0), .int .u64 (W64 x1_1)]] W fun e w' => e = .returned (.bool true) ∧ Below W.heap.size W w' := by
  obtain ⟨a, ha⟩ : ∃ s, join128 x1_0 x1_1 = s := ⟨_, rfl⟩
  obtain ⟨X, h0, h1, h2, h3, _⟩ := join_four x0_0 x0_1 x0_2 x0_3
  have hp : (618970019642690137449562111 : Nat) < 2 ^ 128 := by decide
  have h := folds89_try W X a p89 (m89 X.toNat) (m89 a.toNat) (decide (a.toNat < 618970019642690137449562111)) (cmpN a.toNat 618970019642690137449562111) (dS (m89 a.toNat).toNat)
    (by unfold cmpN; by_cases e : a.toNat < 618970019642690137449562111
        · rw [if_pos e, decide_eq_true e]; rfl
        · rw [if_neg e, decide_eq_false e]
          by_cases e2 : 618970019642690137449562111 < a.toNat
          · rw [if_pos e2]; rfl
          · rw [if_neg e2]; rfl)
    (Lib.hid fun w => p_89 w) (Lib.hid fun w => number_89 w) (Lib.hid fun w => fold_89 X w) (Lib.hid fun w => of4_g X w)
    (Lib.hid fun w q c h => rmod_89 X.toNat 256 c 256 q (by omega) (by omega) (by omega) w h X.isLt)
    (Lib.hid fun w => is_89 a w) (Lib.hid fun w => rp_gT w)
    (Lib.hid fun w q q2 c c2 h k => (bcmp_any a.toNat 618970019642690137449562111 128 128 c c2 q q2 w h a.isLt k hp).mono fun e w' he => ⟨he.1, by rw [he.2]; exact New.refl _⟩)
    (Lib.hid fun w hn => text_89 a w (tabIs_stay ht hn))
    (Lib.hid fun w q c h => rmod_89 a.toNat 128 c 128 q (by omega) (by omega) (by omega) w h a.isLt)
    (Lib.hid fun w => of2_g (m89 a.toNat) w)
    (Lib.hid fun w q c h => rtext (m89 a.toNat).toNat 128 128 rfl (by omega) (by omega) (m89 a.toNat).isLt q c w h)
    (Lib.hid fun w => of2_g a w)
  rw [h0, h1, h2, h3] at h
  rw [← ha] at h
  simp only [hi_join, lo_join] at h
  exact h
end Go.Proofs.YtagidgboebjkhaaDoor
