/- Contracts of the document's own Add, Mul and Pow modulo the prime of 89 bits. -/
import Derived.Test.YtadaaihbeapibaaMeiG
import Derived.Test.YtadaaihbeapibaaGrow
namespace Go.Proofs.Ytadaaihbeapibaa
open Go.RowKit Go.Bv
set_option linter.unusedVariables false
/-- a fresh row of bits -/
def BV (n : Nat) (v : Value) : Prop := ∃ a c, v = .slice a n c
def BR (N n : Nat) (v : Value) (w : World) : Prop := ∀ a c, v = .slice a n c → ZRow w a n c (bitsOf N n)
theorem BV.some (n : Nat) : ∃ v, BV n v := ⟨.slice none n 0, none, 0, rfl⟩
theorem BR.mk {a : Option Addr} {n c N : Nat} {w : World} (h : ZRow w a n c (bitsOf N n)) : BV n (.slice a n c) ∧ BR N n (.slice a n c) w :=
  ⟨⟨a, c, rfl⟩, fun a' c' e => by cases e; exact h⟩
theorem BR.stay {N n : Nat} {v : Value} {w w' : World} (h : BR N n v w) (hn : New w w') : BR N n v w' := fun a c e => (h a c e).stay hn
theorem BR.row {N n : Nat} {a : Option Addr} {c : Nat} {w : World} (h : BR N n (.slice a n c) w) : ZRow w a n c (bitsOf N n) := h a c rfl
/-- a fresh row of bits, and a carry -/
def CV (n : Nat) (v : Value) : Prop := ∃ a c k, v = .tuple #[.slice a n c, .int .i64 k]
def CR (N n : Nat) (v : Value) (w : World) : Prop := ∀ a c k, v = .tuple #[.slice a n c, .int .i64 k] → ZRow w a n c (bitsOf N n)
theorem CV.some (n : Nat) : ∃ v, CV n v := ⟨_, none, 0, 0, rfl⟩
theorem CR.mk {a : Option Addr} {n c N : Nat} {k : Int} {w : World} (h : ZRow w a n c (bitsOf N n)) : CV n (.tuple #[.slice a n c, .int .i64 k]) ∧ CR N n (.tuple #[.slice a n c, .int .i64 k]) w :=
  ⟨⟨a, c, k, rfl⟩, fun a' c' k' e => by cases e; exact h⟩
theorem CR.stay {N n : Nat} {v : Value} {w w' : World} (h : CR N n v w) (hn : New w w') : CR N n v w' := fun a c k e => (h a c k e).stay hn
theorem CR.row {N n : Nat} {a : Option Addr} {c : Nat} {k : Int} {w : World} (h : CR N n (.tuple #[.slice a n c, .int .i64 k]) w) : ZRow w a n c (bitsOf N n) := h a c k rfl
theorem of2_g (x : BitVec 128) (w : World) : Calls Try.prog 43 #[.agg #[.int .u64 (W64 (hi128 x)), .int .u64 (W64 (lo128 x))]] w fun e w' => ∃ v, e = .returned v ∧ (BV 128 v ∧ BR x.toNat 128 v w') ∧ New w w' := by
  refine (of2_n x w).mono ?_
  rintro e w' ⟨v, rfl, hown, hn⟩
  obtain ⟨a, c, rfl, hz⟩ := bits_row hown (by omega)
  exact ⟨_, rfl, BR.mk hz, hn⟩
theorem badd_g (A B na nb ca cb : Nat) (a b : Option Addr) (n : Int) (m : Nat) (hnm : n = (m : Int)) (hm : m ≤ 4096) (w : World) (ha : ZRow w a na ca (bitsOf A na)) (hA : A < 2 ^ na) (hb : ZRow w b nb cb (bitsOf B nb)) (hB : B < 2 ^ nb) :
    Calls Try.prog 47 #[.slice a na ca, .slice b nb cb, .int .i64 n] w fun e w' => ∃ v, e = .returned v ∧ (CV m v ∧ CR (A + B) m v w') ∧ New w w' := by
  refine (badd_own A B na nb ca cb a b n m hnm hm w ha hA hb hB).mono ?_
  rintro e w' ⟨v, rfl, hown, hn⟩
  obtain ⟨a, c, rfl, hz⟩ := bits_row hown (by omega)
  exact ⟨_, rfl, CR.mk hz, hn⟩
theorem bmul_g (A B na nb ca cb : Nat) (a b : Option Addr) (n : Int) (m : Nat) (hnm : n = (m : Int)) (hm : m ≤ 4096) (hnb : nb ≤ 4096) (w : World) (ha : ZRow w a na ca (bitsOf A na)) (hA : A < 2 ^ na) (hb : ZRow w b nb cb (bitsOf B nb)) (hB : B < 2 ^ nb) :
    Calls Try.prog 67 #[.slice a na ca, .slice b nb cb, .int .i64 n] w fun e w' => ∃ v, e = .returned v ∧ (BV m v ∧ BR (A * B) m v w') ∧ New w w' := by
  refine (bmul_own A B na nb ca cb a b n m hnm hm hnb w ha hA hb hB).mono ?_
  rintro e w' ⟨v, rfl, hown, hn⟩
  obtain ⟨a, c, rfl, hz⟩ := bits_row hown (by omega)
  exact ⟨_, rfl, BR.mk hz, hn⟩
/-- a box that holds two of whatever -/
def Any2 (w : World) (b : Nat) (t : TypeId) : Prop := ∃ u v, w.heap[b]? = some (.cells #[u, v] t (0, 0))
theorem Any2.stay {w w' : World} {b : Nat} {t : TypeId} (h : Any2 w b t) (hn : New w w') : Any2 w' b t := by
  obtain ⟨u, v, e⟩ := h
  exact ⟨u, v, (hn.block _ (lt_of_block e)).trans e⟩
theorem Any2.cells {w : World} {b : Nat} {t : TypeId} (h : Any2 w b t) : ∃ u v, w.cell? ⟨b, 0, none⟩ = some u ∧ w.cell? ⟨b, 1, none⟩ = some v := by
  obtain ⟨u, v, e⟩ := h
  exact ⟨u, v, by rw [cell_of_row _ _ _ _ _ _ e]; rfl, by rw [cell_of_row _ _ _ _ _ _ e]; rfl⟩
theorem Any2.free {w : World} {b : Nat} {t : TypeId} (h : Any2 w b t) (i : Nat) : w.frozen? ⟨b, i, none⟩ = false := by
  obtain ⟨u, v, e⟩ := h
  exact frozen_of_row _ _ _ _ _ e
set_option maxHeartbeats 2000000 in
theorem radd_89 (x y : BitVec 128) (w : World) : Calls Try.prog 38 #[.agg #[.int .u64 (W64 (hi128 x)), .int .u64 (W64 (lo128 x))], .agg #[.int .u64 (W64 (hi128 y)), .int .u64 (W64 (lo128 y))]] w fun e w' => e = .returned (.agg #[.int .u64 (W64 (hi128 (m89 (x.toNat + y.toNat)))), .int .u64 (W64 (lo128 (m89 (x.toNat + y.toNat))))]) ∧ New w w' := by
  obtain ⟨h1, h2, h3, h4⟩ := three_blocks w (.cells #[.int .u64 (W64 (hi128 x)), .int .u64 (W64 (lo128 x))] 35) (.cells #[.int .u64 (W64 (hi128 y)), .int .u64 (W64 (lo128 y))] 35) (.cells #[.int .u64 0, .int .u64 0] 35)
  have H1 := Lib.hid (show B2 _ _ _ x from h1)
  have H2 := Lib.hid (show B2 _ _ _ y from h2)
  have H3 := Lib.hid (show Z2 _ _ _ from h3)
  have H4 := Lib.hid h4
  have CX := Lib.hid (fun w => of2_g x w)
  have CY := Lib.hid (fun w => of2_g y w)
  have CA := Lib.hid (fun w a b ca cb (ha : ZRow w a 128 ca (bitsOf x.toNat 128)) (hb : ZRow w b 128 cb (bitsOf y.toNat 128)) => badd_g x.toNat y.toNat 128 128 ca cb a b 130 130 rfl (by omega) w ha x.isLt hb y.isLt)
  have CM := Lib.hid (fun w a c (ha : ZRow w a 130 c (bitsOf (x.toNat + y.toNat) 130)) => rmod_89 (x.toNat + y.toNat) 130 c 130 a (by omega) (by omega) (by omega) w ha (by have := x.isLt; have := y.isLt; omega))
  clear h1 h2 h3 h4
  go_enter Try.func38, Try.ntmps38
  go_wp2_with fail
  generalize ((w.alloc (.cells #[.int .u64 (W64 (hi128 x)), .int .u64 (W64 (lo128 x))] 35)).alloc (.cells #[.int .u64 (W64 (hi128 y)), .int .u64 (W64 (lo128 y))] 35)).alloc (.cells #[.int .u64 0, .int .u64 0] 35) = w0 at H1 H2 H3 H4 ⊢
  refine Grow.wp_region_growS (fun w' => (B2 w' w.heap.size 35 x ∧ B2 w' (w.heap.size + 1) 35 y) ∧ New w0 w') (fun k => [1, 3, 4].contains k) (by kernel_rfl) (by kernel_rfl) (by kernel_rfl) ⟨⟨H1.out.stay (New.refl _).drew, H2.out.stay (New.refl _).drew⟩, (New.refl _).drew⟩ ?_
  intro I _ f hall hback
  have HALL := Lib.hid hall
  have HSTEP : Hid (∀ n w', New (f n) w' → ∃ m, w' = f m) := Lib.hid fun n w' hn => hback w' ⟨⟨(hall n).1.1.stay hn, (hall n).1.2.stay hn⟩, (hall n).2.trans hn⟩
  have s0 := fun n => (hall n).1.1.c0
  have s1 := fun n => (hall n).1.1.c1
  have t0 := fun n => (hall n).1.2.c0
  have t1 := fun n => (hall n).1.2.c1
  clear hall hback
  refine Grow.wpGrow_take 1 (by kernel_rfl) ?_
  simp only [List.take, List.drop, List.length]
  repeat (go_big_quiet_step (fail))
  refine wpQuiet_nil ?_
  refine Grow.wpGrow_call (BV 128) (BR x.toNat 128) rfl rfl (BV.some _) (fun w1 hB hG => ?_) (fun v1 A1 hv1 hA => ?_)
  · obtain ⟨n, rfl⟩ := hB
    go_simp
    refine (CX.out _).mono ?_
    rintro e w2 ⟨v, rfl, hv, hn⟩
    obtain ⟨hva, hvb⟩ := hv
    exact ⟨_, rfl, HSTEP.out _ _ hn, hva, hvb⟩
  simp [Act.put] at hA
  subst hA
  obtain ⟨a1, c1, rfl⟩ := hv1
  refine Grow.wpGrow_take 1 (by kernel_rfl) ?_
  simp only [List.take, List.drop, List.length]
  repeat (go_big_quiet_step (fail))
  refine wpQuiet_nil ?_
  refine Grow.wpGrow_call (BV 128) (BR y.toNat 128) rfl rfl (BV.some _) (fun w1 hB hG => ?_) (fun v2 A2 hv2 hA => ?_)
  · obtain ⟨n, rfl⟩ := hB
    go_simp
    refine (CY.out _).mono ?_
    rintro e w2 ⟨v, rfl, hv, hn⟩
    obtain ⟨hva, hvb⟩ := hv
    exact ⟨_, rfl, HSTEP.out _ _ hn, hva, ⟨hG.2.stay hn, hvb⟩⟩
  simp [Act.put] at hA
  subst hA
  obtain ⟨a2, c2, rfl⟩ := hv2
  refine Grow.wpGrow_call (CV 130) (CR (x.toNat + y.toNat) 130) rfl rfl (CV.some _) (fun w1 hB hG => ?_) (fun v3 A3 hv3 hA => ?_)
  · obtain ⟨n, rfl⟩ := hB
    go_simp
    refine (CA.out _ _ _ _ _ hG.1.2.row hG.2.row).mono ?_
    rintro e w2 ⟨v, rfl, hv, hn⟩
    obtain ⟨hva, hvb⟩ := hv
    exact ⟨_, rfl, HSTEP.out _ _ hn, hva, ⟨⟨hG.1.2.stay hn, hG.2.stay hn⟩, hvb⟩⟩
  simp [Act.put] at hA
  subst hA
  obtain ⟨a3, c3, k3, rfl⟩ := hv3
  refine Grow.wpGrow_take 5 (by kernel_rfl) ?_
  simp only [List.take, List.drop, List.length]
  repeat (go_big_quiet_step (fail))
  refine wpQuiet_nil ?_
  refine Grow.wpGrow_nil ?_
  rintro w9 ⟨n9, rfl⟩ hG
  have HG := Lib.hid hG.2.row
  have HN9 := Lib.hid (HALL.out n9).2
  clear HALL HSTEP s0 s1 t0 t1 hG
  generalize f n9 = w9 at *
  go_wp2_with fail
  refine (CM.out _ _ _ HG.out).mono ?_
  rintro e w5 ⟨rfl, hn5⟩
  have HN5 := Lib.hid (HN9.out.trans hn5)
  have hz := H3.out.stay HN5.out
  have k0 := hz.c0
  have k1 := hz.c1
  have kf := hz.free
  have HN := Lib.hid (H4.out.trans HN5.out)
  clear hz hn5
  go_wp2
  refine bodyPost_ret (by simp [results, Try.results38, go_sem, k0, k1]; try rfl) rfl ?_
  exact ⟨rfl, put2_new _ HN.out (by omega)⟩
set_option maxHeartbeats 2000000 in
theorem rmul_89 (x y : BitVec 128) (w : World) : Calls Try.prog 40 #[.agg #[.int .u64 (W64 (hi128 x)), .int .u64 (W64 (lo128 x))], .agg #[.int .u64 (W64 (hi128 y)), .int .u64 (W64 (lo128 y))]] w fun e w' => e = .returned (.agg #[.int .u64 (W64 (hi128 (m89 (x.toNat * y.toNat)))), .int .u64 (W64 (lo128 (m89 (x.toNat * y.toNat))))]) ∧ New w w' := by
  obtain ⟨h1, h2, h3, h4⟩ := three_blocks w (.cells #[.int .u64 (W64 (hi128 x)), .int .u64 (W64 (lo128 x))] 35) (.cells #[.int .u64 (W64 (hi128 y)), .int .u64 (W64 (lo128 y))] 35) (.cells #[.int .u64 0, .int .u64 0] 35)
  have H1 := Lib.hid (show B2 _ _ _ x from h1)
  have H2 := Lib.hid (show B2 _ _ _ y from h2)
  have H3 := Lib.hid (show Any2 _ _ _ from ⟨_, _, h3⟩)
  have H4 := Lib.hid h4
  have CX := Lib.hid (fun w => of2_g x w)
  have CY := Lib.hid (fun w => of2_g y w)
  have CA := Lib.hid (fun w a b ca cb (ha : ZRow w a 128 ca (bitsOf x.toNat 128)) (hb : ZRow w b 128 cb (bitsOf y.toNat 128)) => bmul_g x.toNat y.toNat 128 128 ca cb a b 256 256 rfl (by omega) (by omega) w ha x.isLt hb y.isLt)
  have CM := Lib.hid (fun w a c (ha : ZRow w a 256 c (bitsOf (x.toNat * y.toNat) 256)) => rmod_89 (x.toNat * y.toNat) 256 c 256 a (by omega) (by omega) (by omega) w ha (by rw [show (2 : Nat) ^ 256 = 2 ^ 128 * 2 ^ 128 from by rw [← Nat.pow_add]]; exact Nat.mul_lt_mul_of_lt_of_lt x.isLt y.isLt))
  generalize m89 (x.toNat * y.toNat) = r at *
  clear h1 h2 h3 h4
  go_enter Try.func40, Try.ntmps40
  go_wp2_with fail
  generalize ((w.alloc (.cells #[.int .u64 (W64 (hi128 x)), .int .u64 (W64 (lo128 x))] 35)).alloc (.cells #[.int .u64 (W64 (hi128 y)), .int .u64 (W64 (lo128 y))] 35)).alloc (.cells #[.int .u64 0, .int .u64 0] 35) = w0 at H1 H2 H3 H4 ⊢
  refine Grow.wp_region_growS (fun w' => (B2 w' w.heap.size 35 x ∧ B2 w' (w.heap.size + 1) 35 y ∧ Any2 w' (w.heap.size + 1 + 1) 35) ∧ New w w') (fun k => [1, 3, 4, 5, 6].contains k) (by kernel_rfl) (by kernel_rfl) (by kernel_rfl) ⟨⟨H1.out.stay (New.refl _).drew, H2.out.stay (New.refl _).drew, H3.out.stay (New.refl _).drew⟩, H4.out.drew⟩ ?_
  intro I _ f hall hback
  have HALL := Lib.hid hall
  have HSTEP : Hid (∀ n w', New (f n) w' → ∃ m, w' = f m) := Lib.hid fun n w' hn => hback w' ⟨⟨(hall n).1.1.stay hn, (hall n).1.2.1.stay hn, (hall n).1.2.2.stay hn⟩, (hall n).2.trans hn⟩
  have HBACK := Lib.hid hback
  have s0 := fun n => (hall n).1.1.c0
  have s1 := fun n => (hall n).1.1.c1
  have t0 := fun n => (hall n).1.2.1.c0
  have t1 := fun n => (hall n).1.2.1.c1
  clear hall hback
  refine Grow.wpGrow_take 1 (by kernel_rfl) ?_
  simp only [List.take, List.drop, List.length]
  repeat (go_big_quiet_step (fail))
  refine wpQuiet_nil ?_
  refine Grow.wpGrow_call (BV 128) (BR x.toNat 128) rfl rfl (BV.some _) (fun w1 hB hG => ?_) (fun v1 A1 hv1 hA => ?_)
  · obtain ⟨n, rfl⟩ := hB
    go_simp
    refine (CX.out _).mono ?_
    rintro e w2 ⟨v, rfl, hv, hn⟩
    obtain ⟨hva, hvb⟩ := hv
    exact ⟨_, rfl, HSTEP.out _ _ hn, hva, hvb⟩
  simp [Act.put] at hA
  subst hA
  obtain ⟨a1, c1, rfl⟩ := hv1
  refine Grow.wpGrow_take 1 (by kernel_rfl) ?_
  simp only [List.take, List.drop, List.length]
  repeat (go_big_quiet_step (fail))
  refine wpQuiet_nil ?_
  refine Grow.wpGrow_call (BV 128) (BR y.toNat 128) rfl rfl (BV.some _) (fun w1 hB hG => ?_) (fun v2 A2 hv2 hA => ?_)
  · obtain ⟨n, rfl⟩ := hB
    go_simp
    refine (CY.out _).mono ?_
    rintro e w2 ⟨v, rfl, hv, hn⟩
    obtain ⟨hva, hvb⟩ := hv
    exact ⟨_, rfl, HSTEP.out _ _ hn, hva, ⟨hG.2.stay hn, hvb⟩⟩
  simp [Act.put] at hA
  subst hA
  obtain ⟨a2, c2, rfl⟩ := hv2
  refine Grow.wpGrow_call (BV 256) (BR (x.toNat * y.toNat) 256) rfl rfl (BV.some _) (fun w1 hB hG => ?_) (fun v3 A3 hv3 hA => ?_)
  · obtain ⟨n, rfl⟩ := hB
    go_simp
    refine (CA.out _ _ _ _ _ hG.1.2.row hG.2.row).mono ?_
    rintro e w2 ⟨v, rfl, hv, hn⟩
    obtain ⟨hva, hvb⟩ := hv
    exact ⟨_, rfl, HSTEP.out _ _ hn, hva, ⟨⟨hG.1.2.stay hn, hG.2.stay hn⟩, hvb⟩⟩
  simp [Act.put] at hA
  subst hA
  obtain ⟨a3, c3, rfl⟩ := hv3
  refine Grow.wpGrow_one (.agg #[.int .u64 (W64 (hi128 r)), .int .u64 (W64 (lo128 r))]) rfl rfl (fun w1 hB hG => ?_) (fun A4 hA => ?_)
  · obtain ⟨n, rfl⟩ := hB
    go_simp
    refine (CM.out _ _ _ hG.2.row).mono ?_
    rintro e w2 ⟨rfl, hn⟩
    first | exact ⟨_, rfl, HSTEP.out _ _ hn, rfl, ⟨⟨hG.1.1.2.stay hn, hG.1.2.stay hn⟩, hG.2.stay hn⟩⟩ | exact ⟨rfl, HSTEP.out _ _ hn, ⟨⟨hG.1.1.2.stay hn, hG.1.2.stay hn⟩, hG.2.stay hn⟩⟩
  simp [Act.put] at hA
  subst hA
  refine Grow.wpGrow_turn (fun v => v = undef) (fun _ w9 => B2 w9 (w.heap.size + 1 + 1) 35 r) rfl rfl ⟨_, rfl⟩ (fun w1 hB hG => ?_) (fun v7 A7 hv7 hA => ?_)
  · obtain ⟨n, rfl⟩ := hB
    obtain ⟨⟨hx, hy, hz⟩, hnw⟩ := HALL.out n
    obtain ⟨u0, u1, hc0, hc1⟩ := hz.cells
    have hfr := hz.free
    obtain ⟨v0, v1, hze⟩ := hz
    have HB2 := Lib.hid (B2.put r hze)
    have HOT := Lib.hid (fun j hj => put2_other (w := f n) (b := w.heap.size + 1 + 1) (k := j) r hj)
    have HX := Lib.hid hx
    have HY := Lib.hid hy
    have HNW := Lib.hid hnw
    clear hx hy hze hnw
    go_simp
    exact ⟨HBACK.out _ ⟨⟨(HOT.out _ (by omega)).trans HX.out, (HOT.out _ (by omega)).trans HY.out, ⟨_, _, HB2.out⟩⟩, put2_new _ HNW.out (by omega)⟩, HB2.out⟩
  simp [Act.put] at hA
  subst hA
  refine Grow.wpGrow_nil ?_
  rintro w9 ⟨n9, rfl⟩ hG
  have HN := Lib.hid (HALL.out n9).2
  have k0 := (show B2 _ _ _ r from hG).c0
  have k1 := (show B2 _ _ _ r from hG).c1
  clear HALL HSTEP HBACK s0 s1 t0 t1 hG
  generalize f n9 = w9 at *
  go_wp2
  refine bodyPost_ret (by simp [results, Try.results40, go_sem, k0, k1]; try rfl) rfl ?_
  exact ⟨rfl, HN.out⟩
end Go.Proofs.Ytadaaihbeapibaa
