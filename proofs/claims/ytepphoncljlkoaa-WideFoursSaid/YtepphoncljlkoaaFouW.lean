/- The law WideFours: the walk. -/
import Derived.Test.YtepphoncljlkoaaFouE
import Derived.Test.YtepphoncljlkoaaFouG
namespace Go.Proofs.Ytepphoncljlkoaa
open Go.RowKit Go.Bv
set_option linter.unusedVariables false
set_option linter.unusedSimpArgs false
def C4 (w : World) (b : Nat) (x0 x1 x2 x3 : BitVec 64) : Prop := w.cell? ⟨b, 0, none⟩ = some (.int .u64 (W64 x0)) ∧ w.cell? ⟨b, 1, none⟩ = some (.int .u64 (W64 x1)) ∧ w.cell? ⟨b, 2, none⟩ = some (.int .u64 (W64 x2)) ∧ w.cell? ⟨b, 3, none⟩ = some (.int .u64 (W64 x3))
theorem C4.stay {w w' : World} {b : Nat} {x0 x1 x2 x3 : BitVec 64} (h : C4 w b x0 x1 x2 x3) (hn : New w w') : C4 w' b x0 x1 x2 x3 :=
  ⟨(hn.cell (World.block_lt_of_cell? _ _ h.1)).trans h.1, (hn.cell (World.block_lt_of_cell? _ _ h.2.1)).trans h.2.1, (hn.cell (World.block_lt_of_cell? _ _ h.2.2.1)).trans h.2.2.1, (hn.cell (World.block_lt_of_cell? _ _ h.2.2.2)).trans h.2.2.2⟩
theorem c4_new (w : World) (t : TypeId) (x0 x1 x2 x3 : BitVec 64) : C4 (w.alloc (.cells #[.int .u64 (W64 x0), .int .u64 (W64 x1), .int .u64 (W64 x2), .int .u64 (W64 x3)] t)) w.heap.size x0 x1 x2 x3 := by
  refine ⟨?_, ?_, ?_, ?_⟩ <;> (rw [World.cell?_alloc_new]; rfl)
theorem word_mod (N s : Nat) (h : s + 64 ≤ 256) : BitVec.ofNat 64 (N % 2 ^ 256 / 2 ^ s) = BitVec.ofNat 64 (N / 2 ^ s) := by
  apply BitVec.eq_of_getLsbD_eq
  intro i hi
  rw [BitVec.getLsbD_ofNat, BitVec.getLsbD_ofNat, ← Nat.shiftRight_eq_div_pow, ← Nat.shiftRight_eq_div_pow, Nat.testBit_shiftRight, Nat.testBit_shiftRight, Nat.testBit_mod_two_pow, decide_eq_true (show s + i < 256 by omega), Bool.true_and]
theorem to4_mod (N c : Nat) (a : Option Addr) (w : World) (h : ZRow w a 256 c (bitsOf N 256)) :
    Calls Try.prog 23 #[.slice a 256 c] w fun e w' => e = .returned (.agg #[.int .u64 (W64 (BitVec.ofNat 64 N)), .int .u64 (W64 (BitVec.ofNat 64 (N / 2 ^ 64))), .int .u64 (W64 (BitVec.ofNat 64 (N / 2 ^ 128))), .int .u64 (W64 (BitVec.ofNat 64 (N / 2 ^ 192)))]) ∧ New w w' := by
  have h2 : ZRow w a 256 c (bitsOf (N % 2 ^ 256) 256) := by rw [bitsOf_mod]; exact h
  have h3 := to4_any (N % 2 ^ 256) 256 c a w h2 (Nat.mod_lt _ (Nat.two_pow_pos 256))
  have e0 := word_mod N 0 (by omega)
  rw [Nat.pow_zero, Nat.div_one, Nat.div_one] at e0
  rw [e0, word_mod N 64 (by omega), word_mod N 128 (by omega), word_mod N 192 (by omega)] at h3
  exact h3
theorem carry_add4 (A B : Nat) (hA : A < 2 ^ 256) (hB : B < 2 ^ 256) : (((cy A B 256 : Nat) : Int) == 1) = decide (2 ^ 256 ≤ A + B) := by
  unfold cy
  rw [Nat.mod_eq_of_lt hA, Nat.mod_eq_of_lt hB]
  by_cases h : 2 ^ 256 ≤ A + B
  · rw [decide_eq_true h, show (A + B) / 2 ^ 256 = 1 by omega]; rfl
  · rw [decide_eq_false h, show (A + B) / 2 ^ 256 = 0 by omega]; rfl
theorem lack_sub4 (A B : Nat) (hA : A < 2 ^ 256) (hB : B < 2 ^ 256) : (((cy (A + 2 ^ 256 - B) B 256 : Nat) : Int) == 1) = decide (A < B) := by
  unfold cy
  rw [Nat.mod_eq_of_lt hB]
  by_cases h : A < B
  · rw [decide_eq_true h, Nat.mod_eq_of_lt (by omega), show (A + 2 ^ 256 - B + B) / 2 ^ 256 = 1 by omega]; rfl
  · rw [decide_eq_false h, show ((A + 2 ^ 256 - B) % 2 ^ 256 + B) / 2 ^ 256 = 0 by omega]; rfl
set_option maxRecDepth 100000 in
set_option maxHeartbeats 16000000 in
theorem fours_try (W : World) (c0 c1 c2 c3 d0 d1 d2 d3 s0 s1 s2 s3 e0 e1 e2 e3 y0 y1 y2 y3 : BitVec 64) (n : Int) (A B Sm Em L K mm cv lv ln : Nat) (ov un tb : Bool) (r : Int)
    (COf0 : Hid (∀ w : World, Calls Try.prog 33 #[.agg #[.int .u64 (W64 c0), .int .u64 (W64 c1), .int .u64 (W64 c2), .int .u64 (W64 c3)]] w fun e w' => ∃ v, e = .returned v ∧ w'.ownsRow w.heap.size 3 1 v 256 ((bitsOf A 256).map fun y => .int .i64 y) ∧ New w w'))
    (COf1 : Hid (∀ w : World, Calls Try.prog 33 #[.agg #[.int .u64 (W64 d0), .int .u64 (W64 d1), .int .u64 (W64 d2), .int .u64 (W64 d3)]] w fun e w' => ∃ v, e = .returned v ∧ w'.ownsRow w.heap.size 3 1 v 256 ((bitsOf B 256).map fun y => .int .i64 y) ∧ New w w'))
    (CAdd : Hid (∀ w : World, Calls Try.prog 34 #[.agg #[.int .u64 (W64 c0), .int .u64 (W64 c1), .int .u64 (W64 c2), .int .u64 (W64 c3)], .agg #[.int .u64 (W64 d0), .int .u64 (W64 d1), .int .u64 (W64 d2), .int .u64 (W64 d3)]] w fun e w' => e = .returned (.tuple #[.agg #[.int .u64 (W64 s0), .int .u64 (W64 s1), .int .u64 (W64 s2), .int .u64 (W64 s3)], .bool ov]) ∧ New w w'))
    (CSub : Hid (∀ w : World, Calls Try.prog 35 #[.agg #[.int .u64 (W64 c0), .int .u64 (W64 c1), .int .u64 (W64 c2), .int .u64 (W64 c3)], .agg #[.int .u64 (W64 d0), .int .u64 (W64 d1), .int .u64 (W64 d2), .int .u64 (W64 d3)]] w fun e w' => e = .returned (.tuple #[.agg #[.int .u64 (W64 e0), .int .u64 (W64 e1), .int .u64 (W64 e2), .int .u64 (W64 e3)], .bool un]) ∧ New w w'))
    (CCmp : Hid (∀ w : World, Calls Try.prog 36 #[.agg #[.int .u64 (W64 c0), .int .u64 (W64 c1), .int .u64 (W64 c2), .int .u64 (W64 c3)], .agg #[.int .u64 (W64 d0), .int .u64 (W64 d1), .int .u64 (W64 d2), .int .u64 (W64 d3)]] w fun e w' => e = .returned (.int .i64 r) ∧ New w w'))
    (Cadd : Hid (∀ (ca cb : Nat) (a b : Option Addr) (w : World), ZRow w a 256 ca (bitsOf A 256) → ZRow w b 256 cb (bitsOf B 256) → Calls Try.prog 14 #[.slice a 256 ca, .slice b 256 cb, .int .i64 256] w fun e w' => ∃ v, e = .returned (.tuple #[v, .int .i64 (cv : Nat)]) ∧ w'.ownsRow w.heap.size 3 1 v 256 ((bitsOf Sm 256).map fun y => .int .i64 y) ∧ New w w'))
    (Csub : Hid (∀ (ca cb : Nat) (a b : Option Addr) (w : World), ZRow w a 256 ca (bitsOf A 256) → ZRow w b 256 cb (bitsOf B 256) → Calls Try.prog 16 #[.slice a 256 ca, .slice b 256 cb, .int .i64 256] w fun e w' => ∃ v, e = .returned (.tuple #[v, .int .i64 (lv : Nat)]) ∧ w'.ownsRow w.heap.size 3 1 v 256 ((bitsOf Em 256).map fun y => .int .i64 y) ∧ New w w'))
    (Ccmp : Hid (∀ (ca cb : Nat) (a b : Option Addr) (w : World), ZRow w a 256 ca (bitsOf A 256) → ZRow w b 256 cb (bitsOf B 256) → Calls Try.prog 19 #[.slice a 256 ca, .slice b 256 cb] w fun e w' => e = .returned (.int .i64 r) ∧ w' = w))
    (CtoS : Hid (∀ (c : Nat) (a : Option Addr) (w : World), ZRow w a 256 c (bitsOf Sm 256) → Calls Try.prog 23 #[.slice a 256 c] w fun e w' => e = .returned (.agg #[.int .u64 (W64 s0), .int .u64 (W64 s1), .int .u64 (W64 s2), .int .u64 (W64 s3)]) ∧ New w w'))
    (CtoE : Hid (∀ (c : Nat) (a : Option Addr) (w : World), ZRow w a 256 c (bitsOf Em 256) → Calls Try.prog 23 #[.slice a 256 c] w fun e w' => e = .returned (.agg #[.int .u64 (W64 e0), .int .u64 (W64 e1), .int .u64 (W64 e2), .int .u64 (W64 e3)]) ∧ New w w'))
    (CtoY : Hid (∀ (c : Nat) (a : Option Addr) (w : World), ZRow w a 256 c (bitsOf L 256) → Calls Try.prog 23 #[.slice a 256 c] w fun e w' => e = .returned (.agg #[.int .u64 (W64 y0), .int .u64 (W64 y1), .int .u64 (W64 y2), .int .u64 (W64 y3)]) ∧ New w w'))
    (CBit : Hid (∀ w : World, Calls Try.prog 37 #[.agg #[.int .u64 (W64 c0), .int .u64 (W64 c1), .int .u64 (W64 c2), .int .u64 (W64 c3)], .int .i64 n] w fun e w' => e = .returned (.bool tb) ∧ New w w'))
    (CLen : Hid (∀ w : World, Calls Try.prog 38 #[.agg #[.int .u64 (W64 c0), .int .u64 (W64 c1), .int .u64 (W64 c2), .int .u64 (W64 c3)]] w fun e w' => e = .returned (.int .i64 (ln : Nat)) ∧ New w w'))
    (Clen : Hid (∀ (ca : Nat) (a : Option Addr) (w : World), ZRow w a 256 ca (bitsOf A 256) → Calls Try.prog 39 #[.slice a 256 ca] w fun e w' => e = .returned (.int .i64 (ln : Nat)) ∧ w' = w))
    (CShl : Hid (∀ w : World, Calls Try.prog 40 #[.agg #[.int .u64 (W64 c0), .int .u64 (W64 c1), .int .u64 (W64 c2), .int .u64 (W64 c3)], .int .i64 n] w fun e w' => e = .returned (.agg #[.int .u64 (W64 y0), .int .u64 (W64 y1), .int .u64 (W64 y2), .int .u64 (W64 y3)]) ∧ New w w'))
    (Cshl : Hid (∀ (ca : Nat) (p : Option Addr) (w : World), ZRow w p 256 ca (bitsOf A 256) → Calls Try.prog 27 #[.slice p 256 ca, .int .i64 (mm : Int), .int .i64 256] w fun e w' => ∃ v, e = .returned v ∧ w'.ownsRow w.heap.size 3 1 v 256 ((bitsOf L 256).map fun y => .int .i64 y) ∧ New w w'))
    (COne : Hid (∀ w : World, Calls Try.prog 41 #[.int .u64 (W64 c0)] w fun e w' => e = .returned (.agg #[.int .u64 (W64 c0), .int .u64 0, .int .u64 0, .int .u64 0]) ∧ New w w'))
    (hcv : (((cv : Nat) : Int) == 1) = ov) (hlv : (((lv : Nat) : Int) == 1) = un)
    (hmx : max n 0 = (K : Int)) (hmn : min (K : Int) 256 = (mm : Int)) (htb : tb = (decide (0 ≤ n ∧ n < 256) && (bt A K == 1))) :
    Calls Try.prog 6 #[.agg #[.int .u64 (W64 c0), .int .u64 (W64 c1), .int .u64 (W64 c2), .int .u64 (W64 c3)], .agg #[.int .u64 (W64 d0), .int .u64 (W64 d1), .int .u64 (W64 d2), .int .u64 (W64 d3)], .int .i64 n] W fun e w' => e = .returned (.bool true) ∧ Below W.heap.size W w' := by
  have HMX := Lib.hid hmx
  have HMN := Lib.hid hmn
  have HTB := Lib.hid htb
  clear hmx hmn htb
  go_enter Try.func6, Try.ntmps6
  go_wp2_with fail
  refine (awake01 _).mono ?_
  rintro e w ⟨rfl, hn1⟩
  have hs := ((c4_new W 39 c0 c1 c2 c3).stay ((New.refl _).alloc _)).stay hn1
  have ht := (c4_new (W.alloc (.cells #[.int .u64 (W64 c0), .int .u64 (W64 c1), .int .u64 (W64 c2), .int .u64 (W64 c3)] 39)) 39 d0 d1 d2 d3).stay hn1
  rw [show (W.alloc (.cells #[.int .u64 (W64 c0), .int .u64 (W64 c1), .int .u64 (W64 c2), .int .u64 (W64 c3)] 39)).heap.size = W.heap.size + 1 by simp] at ht
  have hN : New W w := (((New.refl W).alloc _).alloc _).trans hn1
  clear hn1
  have HN := Lib.hid hN
  have HS := Lib.hid (hs.stay (New.refl _).drew)
  have HT := Lib.hid (ht.stay (New.refl _).drew)
  obtain ⟨s_0, s_1, s_2, s_3⟩ := HS.out
  obtain ⟨t_0, t_1, t_2, t_3⟩ := HT.out
  clear hN hs ht
  go_wp2_with fail
  go_region_law (first
    | (go_simp
       go_at_call_of 33 (Value.int IntKind.u64 (W64 c0))
       refine (COf0.out _).mono ?_
       rintro e w1 ⟨v1, rfl, hown1, hn1⟩
       obtain ⟨av1, cc1, rfl, hz1⟩ := bits_row hown1 (by omega)
       obtain ⟨s_0, s_1, s_2, s_3⟩ := HS.out.stay hn1
       obtain ⟨t_0, t_1, t_2, t_3⟩ := HT.out.stay hn1
       have HN1 := Lib.hid (HN.out.drew.trans hn1)
       have HD1 := Lib.hid hn1
       have HZ1 := Lib.hid hz1
       clear hown1 hn1 hz1)
    | (go_simp
       go_at_call_of 33 (Value.int IntKind.u64 (W64 d0))
       refine (COf1.out _).mono ?_
       rintro e w2 ⟨v2, rfl, hown2, hn2⟩
       obtain ⟨av2, cc2, rfl, hz2⟩ := bits_row hown2 (by omega)
       have HX2 := Lib.hid ((HS.out.stay HD1.out).stay hn2)
       have HY2 := Lib.hid ((HT.out.stay HD1.out).stay hn2)
       have HN2 := Lib.hid (HN1.out.trans hn2)
       have HR2 := Lib.hid (HZ1.out.stay hn2)
       have HZ2 := Lib.hid hz2
       clear hown2 hn2 hz2 s_0 s_1 s_2 s_3 t_0 t_1 t_2 t_3))
  all_goals (
    obtain ⟨s_0, s_1, s_2, s_3⟩ := HX2.out
    obtain ⟨t_0, t_1, t_2, t_3⟩ := HY2.out
    clear HN1 HN HS HT HD1 HZ1 COf0 COf1
    go_wp2_with fail
    refine (CAdd.out _).mono ?_
    rintro e w3 ⟨rfl, hn3⟩
    clear s_0 s_1 s_2 s_3 t_0 t_1 t_2 t_3
    go_wp2_with fail
    have hA := c4_new w3 39 s0 s1 s2 s3
    have hn4 := hn3.alloc (.cells #[.int .u64 (W64 s0), .int .u64 (W64 s1), .int .u64 (W64 s2), .int .u64 (W64 s3)] 39)
    generalize w3.heap.size = b7 at *
    generalize w3.alloc (.cells #[.int .u64 (W64 s0), .int .u64 (W64 s1), .int .u64 (W64 s2), .int .u64 (W64 s3)] 39) = w4 at *
    refine (Cadd.out _ _ _ _ _ (HR2.out.stay hn4) (HZ2.out.stay hn4)).mono ?_
    rintro e w5 ⟨v5, rfl, hown5, hn5⟩
    obtain ⟨av3, cc3, rfl, hz3⟩ := bits_row hown5 (by omega)
    have hn25 := hn4.trans hn5
    obtain ⟨s_0, s_1, s_2, s_3⟩ := HX2.out.stay hn25
    obtain ⟨t_0, t_1, t_2, t_3⟩ := HY2.out.stay hn25
    have HA := Lib.hid (hA.stay hn5)
    have HZ3 := Lib.hid hz3
    have HN25 := Lib.hid hn25
    clear hown5 hz3 hA hn5 hn4 hn3 hn25
    go_wp2_with fail
    refine (CSub.out _).mono ?_
    rintro e w6 ⟨rfl, hn6⟩
    clear s_0 s_1 s_2 s_3 t_0 t_1 t_2 t_3
    go_wp2_with fail
    have hB := c4_new w6 39 e0 e1 e2 e3
    have hn7 := hn6.alloc (.cells #[.int .u64 (W64 e0), .int .u64 (W64 e1), .int .u64 (W64 e2), .int .u64 (W64 e3)] 39)
    generalize w6.heap.size = b11 at *
    generalize w6.alloc (.cells #[.int .u64 (W64 e0), .int .u64 (W64 e1), .int .u64 (W64 e2), .int .u64 (W64 e3)] 39) = w7 at *
    have hn27 := HN25.out.trans hn7
    refine (Csub.out _ _ _ _ _ (HR2.out.stay hn27) (HZ2.out.stay hn27)).mono ?_
    rintro e w8 ⟨v8, rfl, hown8, hn8⟩
    obtain ⟨av4, cc4, rfl, hz4⟩ := bits_row hown8 (by omega)
    have hn28 := hn27.trans hn8
    have hn58 := hn7.trans hn8
    have hx := HX2.out.stay hn28
    have hy := HY2.out.stay hn28
    have hb := hB.stay hn8
    have ha := HA.out.stay hn58
    replace HZ1 := Lib.hid (HR2.out.stay hn28)
    replace HZ2 := Lib.hid (HZ2.out.stay hn28)
    replace HZ3 := Lib.hid (HZ3.out.stay hn58)
    have HZ4 := Lib.hid hz4
    have HNN := Lib.hid (HN2.out.trans hn28)
    clear HX2 HY2 HN2 HR2 HA HN25 hn6 hn7 hn8 hn27 hn28 hn58 hB hown8 hz4
    have heq1 := fun w => eq256 w s0 s1 s2 s3 s0 s1 s2 s3
    have heq2 := fun w => eq256 w e0 e1 e2 e3 e0 e1 e2 e3
    simp only [BEq.rfl, Bool.and_self] at heq1 heq2
    go_wp2_with fail
    refine Gro3.wp_region_gro3S (fun w' => C4 w' W.heap.size c0 c1 c2 c3 ∧ C4 w' (W.heap.size + 1) d0 d1 d2 d3 ∧ C4 w' b7 s0 s1 s2 s3 ∧ C4 w' b11 e0 e1 e2 e3 ∧ New w8 w') (fun w' => C4 w' W.heap.size c0 c1 c2 c3 ∧ C4 w' (W.heap.size + 1) d0 d1 d2 d3 ∧ C4 w' b7 s0 s1 s2 s3 ∧ C4 w' b11 e0 e1 e2 e3 ∧ New w8 w') [0, 0, 2, 0, 0, 0, 0, 0, 0, 0, 0, 0, 0, 2, 0, 0, 0, 0, 0, 0, 0, 0, 0, 0, 0, 2, 0, 0, 2, 0, 0] New (fun _ _ _ => True) (by kernel_rfl) (by kernel_rfl) (by kernel_rfl) (fun _ _ _ _ _ _ => trivial) (fun w' hw' => hw') (⟨hx.stay (New.refl _).drew, hy.stay (New.refl _).drew, ha.stay (New.refl _).drew, hb.stay (New.refl _).drew, (New.refl _).drew⟩) ?_
    intro I J _ _ f g hfa hba hgb hbb
    have HFA := Lib.hid hfa
    have HBA := Lib.hid hba
    have HGB := Lib.hid hgb
    have HBB := Lib.hid hbb
    have fx0 := fun n => (hfa n).1.1
    have fx1 := fun n => (hfa n).1.2.1
    have fx2 := fun n => (hfa n).1.2.2.1
    have fx3 := fun n => (hfa n).1.2.2.2
    have fy0 := fun n => (hfa n).2.1.1
    have fy1 := fun n => (hfa n).2.1.2.1
    have fy2 := fun n => (hfa n).2.1.2.2.1
    have fy3 := fun n => (hfa n).2.1.2.2.2
    have fa0 := fun n => (hfa n).2.2.1.1
    have fa1 := fun n => (hfa n).2.2.1.2.1
    have fa2 := fun n => (hfa n).2.2.1.2.2.1
    have fa3 := fun n => (hfa n).2.2.1.2.2.2
    have fb0 := fun n => (hfa n).2.2.2.1.1
    have fb1 := fun n => (hfa n).2.2.2.1.2.1
    have fb2 := fun n => (hfa n).2.2.2.1.2.2.1
    have fb3 := fun n => (hfa n).2.2.2.1.2.2.2
    clear hfa hba hgb hbb hx hy ha hb
    refine Gro3.take0 2 (by kernel_rfl) ?_
    simp only [List.take, List.drop, List.length]
    repeat (go_big_quiet_step (fail))
    refine wpQuiet_nil ?_
    refine Gro3.callt (fun v => v = .agg #[.int .u64 (W64 s0), .int .u64 (W64 s1), .int .u64 (W64 s2), .int .u64 (W64 s3)]) (fun _ _ => True) rfl rfl (⟨_, rfl⟩) (fun _ _ _ _ _ => trivial) (fun w1 hB hG => ?_) (fun v1 A1 hv1 hA => ?_)
    · obtain ⟨nq, rfl⟩ := hB
      clear fx0 fx1 fx2 fx3 fy0 fy1 fy2 fy3 fa0 fa1 fa2 fa3 fb0 fb1 fb2 fb3
      go_simp
      refine (CtoS.out _ _ _ (HZ3.out.stay (HGB.out nq).2.2.2.2)).mono ?_
      rintro e w2 ⟨rfl, hn⟩
      have HX := HBB.out _ ⟨(HGB.out nq).1.stay hn, (HGB.out nq).2.1.stay hn, (HGB.out nq).2.2.1.stay hn, (HGB.out nq).2.2.2.1.stay hn, (HGB.out nq).2.2.2.2.trans hn⟩
      first | exact ⟨_, rfl, HX, hn, rfl⟩ | exact ⟨_, rfl, HX, hn, rfl, trivial⟩ | exact ⟨rfl, HX, hn⟩ | exact ⟨HX, hn, rfl⟩ | exact ⟨HX, hn⟩
    simp [Act.put] at hA
    subst hA
    obtain rfl := hv1
    refine Gro3.take0 10 (by kernel_rfl) ?_
    simp only [List.take, List.drop, List.length]
    repeat (go_big_quiet_step (fail))
    refine wpQuiet_nil ?_
    refine Gro3.callt (fun v => v = .agg #[.int .u64 (W64 e0), .int .u64 (W64 e1), .int .u64 (W64 e2), .int .u64 (W64 e3)]) (fun _ _ => True) rfl rfl (⟨_, rfl⟩) (fun _ _ _ _ _ => trivial) (fun w1 hB hG => ?_) (fun v2 A2 hv2 hA => ?_)
    · obtain ⟨nq, rfl⟩ := hB
      clear fx0 fx1 fx2 fx3 fy0 fy1 fy2 fy3 fa0 fa1 fa2 fa3 fb0 fb1 fb2 fb3
      go_simp
      refine (CtoE.out _ _ _ (HZ4.out.stay (HGB.out nq).2.2.2.2)).mono ?_
      rintro e w2 ⟨rfl, hn⟩
      have HX := HBB.out _ ⟨(HGB.out nq).1.stay hn, (HGB.out nq).2.1.stay hn, (HGB.out nq).2.2.1.stay hn, (HGB.out nq).2.2.2.1.stay hn, (HGB.out nq).2.2.2.2.trans hn⟩
      first | exact ⟨_, rfl, HX, hn, rfl⟩ | exact ⟨_, rfl, HX, hn, rfl, trivial⟩ | exact ⟨rfl, HX, hn⟩ | exact ⟨HX, hn, rfl⟩ | exact ⟨HX, hn⟩
    simp [Act.put] at hA
    subst hA
    obtain rfl := hv2
    refine Gro3.take0 11 (by kernel_rfl) ?_
    simp only [List.take, List.drop, List.length]
    repeat (go_big_quiet_step (fail))
    refine wpQuiet_nil ?_
    refine Gro3.callt (fun v => v = .int .i64 r) (fun _ _ => True) rfl rfl (⟨_, rfl⟩) (fun _ _ _ _ _ => trivial) (fun w1 hB hG => ?_) (fun v3 A3 hv3 hA => ?_)
    · obtain ⟨nq, rfl⟩ := hB
      clear fx0 fx1 fx2 fx3 fy0 fy1 fy2 fy3 fa0 fa1 fa2 fa3 fb0 fb1 fb2 fb3
      go_simp
      refine (CCmp.out _).mono ?_
      rintro e w2 ⟨rfl, hn⟩
      have HX := HBB.out _ ⟨(HGB.out nq).1.stay hn, (HGB.out nq).2.1.stay hn, (HGB.out nq).2.2.1.stay hn, (HGB.out nq).2.2.2.1.stay hn, (HGB.out nq).2.2.2.2.trans hn⟩
      first | exact ⟨_, rfl, HX, hn, rfl⟩ | exact ⟨_, rfl, HX, hn, rfl, trivial⟩ | exact ⟨rfl, HX, hn⟩ | exact ⟨HX, hn, rfl⟩ | exact ⟨HX, hn⟩
    simp [Act.put] at hA
    subst hA
    obtain rfl := hv3
    refine Gro3.take0 2 (by kernel_rfl) ?_
    simp only [List.take, List.drop, List.length]
    repeat (go_big_quiet_step (fail))
    refine wpQuiet_nil ?_
    refine Gro3.callt (fun v => v = .int .i64 r) (fun _ _ => True) rfl rfl (⟨_, rfl⟩) (fun _ _ _ _ _ => trivial) (fun w1 hB hG => ?_) (fun v4 A4 hv4 hA => ?_)
    · obtain ⟨nq, rfl⟩ := hB
      clear fx0 fx1 fx2 fx3 fy0 fy1 fy2 fy3 fa0 fa1 fa2 fa3 fb0 fb1 fb2 fb3
      go_simp
      refine (Ccmp.out _ _ _ _ _ (HZ1.out.stay (HGB.out nq).2.2.2.2) (HZ2.out.stay (HGB.out nq).2.2.2.2)).mono ?_
      rintro e w2 ⟨rfl, rfl⟩
      have hn := New.refl (g nq)
      have HX := HBB.out _ ⟨(HGB.out nq).1.stay hn, (HGB.out nq).2.1.stay hn, (HGB.out nq).2.2.1.stay hn, (HGB.out nq).2.2.2.1.stay hn, (HGB.out nq).2.2.2.2.trans hn⟩
      first | exact ⟨_, rfl, HX, hn, rfl⟩ | exact ⟨_, rfl, HX, hn, rfl, trivial⟩ | exact ⟨rfl, HX, hn⟩ | exact ⟨HX, hn, rfl⟩ | exact ⟨HX, hn⟩
    simp [Act.put] at hA
    subst hA
    obtain rfl := hv4
    refine Gro3.take0 2 (by kernel_rfl) ?_
    simp only [List.take, List.drop, List.length]
    repeat (go_big_quiet_step (fail))
    refine wpQuiet_nil ?_
    refine Gro3.nil ?_
    rintro w11 ⟨n9, rfl⟩ hG
    have HALL := Lib.hid (HGB.out n9)
    clear HFA HBA HGB HBB hG fx0 fx1 fx2 fx3 fy0 fy1 fy2 fy3 fa0 fa1 fa2 fa3 fb0 fb1 fb2 fb3 heq1 heq2 CtoS CtoE CCmp Ccmp HZ2 HZ3 HZ4
    generalize g n9 = w9 at *
    have HX := Lib.hid HALL.out.1
    have HN := Lib.hid (HNN.out.trans HALL.out.2.2.2.2)
    replace HZ1 := Lib.hid (HZ1.out.stay HALL.out.2.2.2.2)
    clear HALL HNN
    have heqy := fun w => eq256 w y0 y1 y2 y3 y0 y1 y2 y3
    have heqc := fun w => eq256 w c0 0#64 0#64 0#64 c0 0#64 0#64 0#64
    simp only [BEq.rfl, Bool.and_self, lo_zero] at heqy heqc
    have hmx := HMX.out
    have hmn := HMN.out
    by_cases hin : 0 ≤ n ∧ n < 256
    · obtain ⟨hin0, hin1⟩ := hin
      have hm255 : min (K : Int) 255 = (K : Int) := by omega
      have hK0 : (0 : Int) ≤ (K : Int) := by omega
      have hK1 : (K : Int) < 256 := by omega
      obtain ⟨bz, oz, rfl, hcz⟩ := HZ1.out.addr (by omega)
      have cz := hcz K (by omega)
      rw [bitsOf_at (by omega)] at cz
      have hbt : (bt A K == 1) = tb := by rw [HTB.out, decide_eq_true ⟨hin0, hin1⟩, Bool.true_and]
      obtain ⟨bv, hbv⟩ : ∃ z, bt A K = z := ⟨_, rfl⟩
      rw [hbv] at cz hbt
      clear hbv hcz
      go_wp2_with fail
      refine Gro3.wp_region_gro3S (fun w' => C4 w' W.heap.size c0 c1 c2 c3 ∧ New w9 w') (fun w' => C4 w' W.heap.size c0 c1 c2 c3 ∧ New w9 w') [0, 0, 2, 0, 0, 0, 0, 2, 0, 2, 0, 0, 0, 0, 0, 2, 0, 0, 0, 0, 2, 2, 0, 0, 0, 0, 0, 2, 0, 0, 0, 0, 0, 0] New (fun _ _ _ => True) (by kernel_rfl) (by kernel_rfl) (by kernel_rfl) (fun _ _ _ _ _ _ => trivial) (fun w' hw' => hw') (⟨HX.out.stay (New.refl _).drew, (New.refl _).drew⟩) ?_
      intro I J _ _ f g hfa hba hgb hbb
      have HFA := Lib.hid hfa
      have HBA := Lib.hid hba
      have HGB := Lib.hid hgb
      have HBB := Lib.hid hbb
      have fx0 := fun n => (hfa n).1.1
      have fx1 := fun n => (hfa n).1.2.1
      have fx2 := fun n => (hfa n).1.2.2.1
      have fx3 := fun n => (hfa n).1.2.2.2
      clear hfa hba hgb hbb
      refine Gro3.take0 2 (by kernel_rfl) ?_
      simp only [List.take, List.drop, List.length]
      repeat (go_big_quiet_step (fail))
      refine wpQuiet_nil ?_
      refine Gro3.callt (fun v => v = .bool tb) (fun _ _ => True) rfl rfl (⟨_, rfl⟩) (fun _ _ _ _ _ => trivial) (fun w1 hB hG => ?_) (fun v1 A1 hv1 hA => ?_)
      · obtain ⟨nq, rfl⟩ := hB
        clear fx0 fx1 fx2 fx3
        go_simp
        refine (CBit.out _).mono ?_
        rintro e w2 ⟨rfl, hn⟩
        have HX2 := HBB.out _ ⟨(HGB.out nq).1.stay hn, (HGB.out nq).2.trans hn⟩
        first | exact ⟨_, rfl, HX2, hn, rfl⟩ | exact ⟨_, rfl, HX2, hn, rfl, trivial⟩ | exact ⟨rfl, HX2, hn⟩ | exact ⟨HX2, hn, rfl⟩ | exact ⟨HX2, hn⟩
      simp [Act.put] at hA
      subst hA
      obtain rfl := hv1
      refine Gro3.take0 4 (by kernel_rfl) ?_
      simp only [List.take, List.drop, List.length]
      repeat (go_big_quiet_step (fail))
      refine wpQuiet_nil ?_
      refine Gro3.callt (fun v => v = .int .i64 (ln : Nat)) (fun _ _ => True) rfl rfl (⟨_, rfl⟩) (fun _ _ _ _ _ => trivial) (fun w1 hB hG => ?_) (fun v2 A2 hv2 hA => ?_)
      · obtain ⟨nq, rfl⟩ := hB
        clear fx0 fx1 fx2 fx3
        go_simp
        refine (CLen.out _).mono ?_
        rintro e w2 ⟨rfl, hn⟩
        have HX2 := HBB.out _ ⟨(HGB.out nq).1.stay hn, (HGB.out nq).2.trans hn⟩
        first | exact ⟨_, rfl, HX2, hn, rfl⟩ | exact ⟨_, rfl, HX2, hn, rfl, trivial⟩ | exact ⟨rfl, HX2, hn⟩ | exact ⟨HX2, hn, rfl⟩ | exact ⟨HX2, hn⟩
      simp [Act.put] at hA
      subst hA
      obtain rfl := hv2
      refine Gro3.take0 1 (by kernel_rfl) ?_
      simp only [List.take, List.drop, List.length]
      repeat (go_big_quiet_step (fail))
      refine wpQuiet_nil ?_
      refine Gro3.callt (fun v => v = .int .i64 (ln : Nat)) (fun _ _ => True) rfl rfl (⟨_, rfl⟩) (fun _ _ _ _ _ => trivial) (fun w1 hB hG => ?_) (fun v3 A3 hv3 hA => ?_)
      · obtain ⟨nq, rfl⟩ := hB
        clear fx0 fx1 fx2 fx3
        go_simp
        refine (Clen.out _ _ _ (HZ1.out.stay (HGB.out nq).2)).mono ?_
        rintro e w2 ⟨rfl, rfl⟩
        have hn := New.refl (g nq)
        have HX2 := HBB.out _ ⟨(HGB.out nq).1.stay hn, (HGB.out nq).2.trans hn⟩
        first | exact ⟨_, rfl, HX2, hn, rfl⟩ | exact ⟨_, rfl, HX2, hn, rfl, trivial⟩ | exact ⟨rfl, HX2, hn⟩ | exact ⟨HX2, hn, rfl⟩ | exact ⟨HX2, hn⟩
      simp [Act.put] at hA
      subst hA
      obtain rfl := hv3
      refine Gro3.take0 5 (by kernel_rfl) ?_
      simp only [List.take, List.drop, List.length]
      repeat (go_big_quiet_step (fail))
      refine wpQuiet_nil ?_
      refine Gro3.callt (fun v => v = .agg #[.int .u64 (W64 y0), .int .u64 (W64 y1), .int .u64 (W64 y2), .int .u64 (W64 y3)]) (fun _ _ => True) rfl rfl (⟨_, rfl⟩) (fun _ _ _ _ _ => trivial) (fun w1 hB hG => ?_) (fun v4 A4 hv4 hA => ?_)
      · obtain ⟨nq, rfl⟩ := hB
        clear fx0 fx1 fx2 fx3
        go_simp
        refine (CShl.out _).mono ?_
        rintro e w2 ⟨rfl, hn⟩
        have HX2 := HBB.out _ ⟨(HGB.out nq).1.stay hn, (HGB.out nq).2.trans hn⟩
        first | exact ⟨_, rfl, HX2, hn, rfl⟩ | exact ⟨_, rfl, HX2, hn, rfl, trivial⟩ | exact ⟨rfl, HX2, hn⟩ | exact ⟨HX2, hn, rfl⟩ | exact ⟨HX2, hn⟩
      simp [Act.put] at hA
      subst hA
      obtain rfl := hv4
      refine Gro3.take0 2 (by kernel_rfl) ?_
      simp only [List.take, List.drop, List.length]
      repeat (go_big_quiet_step (fail))
      refine wpQuiet_nil ?_
      refine Gro3.opv (.int .i64 (K : Int)) rfl rfl (fun w => ?_) (fun A5 hA => ?_)
      · first | (simp [go_sem, hmx, hmn]; done) | (go_simp; done)
      simp [Act.put] at hA
      subst hA
      refine Gro3.opv (.int .i64 (mm : Int)) rfl rfl (fun w => ?_) (fun A6 hA => ?_)
      · first | (simp [go_sem, hmx, hmn]; done) | (go_simp; done)
      simp [Act.put] at hA
      subst hA
      refine Gro3.callt (fun v => ∃ r c, v = .slice r 256 c) (fun v w' => ∃ r c, v = .slice r 256 c ∧ ZRow w' r 256 c (bitsOf L 256)) rfl rfl (⟨_, none, 0, rfl⟩) (fun v w w' hn h => by obtain ⟨r, c, e, hr⟩ := h; exact ⟨r, c, e, hr.stay hn⟩) (fun w1 hB hG => ?_) (fun v7 A7 hv7 hA => ?_)
      · obtain ⟨nq, rfl⟩ := hB
        clear fx0 fx1 fx2 fx3
        go_simp
        refine (Cshl.out _ _ _ (HZ1.out.stay (HGB.out nq).2)).mono ?_
        rintro e w2 ⟨v2, rfl, hown, hn⟩
        obtain ⟨r5, c5, rfl, hrow⟩ := bits_row hown (by omega)
        have HX2 := HBB.out _ ⟨(HGB.out nq).1.stay hn, (HGB.out nq).2.trans hn⟩
        exact ⟨_, rfl, HX2, hn, ⟨_, _, rfl⟩, ⟨_, _, rfl, hrow⟩⟩
      simp [Act.put] at hA
      subst hA
      obtain ⟨r6, c6, rfl⟩ := hv7
      refine Gro3.callt (fun v => v = .agg #[.int .u64 (W64 y0), .int .u64 (W64 y1), .int .u64 (W64 y2), .int .u64 (W64 y3)]) (fun _ _ => True) rfl rfl (⟨_, rfl⟩) (fun _ _ _ _ _ => trivial) (fun w1 hB hG => ?_) (fun v8 A8 hv8 hA => ?_)
      · obtain ⟨nq, rfl⟩ := hB
        clear fx0 fx1 fx2 fx3
        go_simp
        obtain ⟨r5, c5, e5, hz⟩ := hG
        cases e5
        refine (CtoY.out _ _ _ hz).mono ?_
        rintro e w2 ⟨rfl, hn⟩
        have HX2 := HBB.out _ ⟨(HGB.out nq).1.stay hn, (HGB.out nq).2.trans hn⟩
        first | exact ⟨_, rfl, HX2, hn, rfl⟩ | exact ⟨_, rfl, HX2, hn, rfl, trivial⟩ | exact ⟨rfl, HX2, hn⟩ | exact ⟨HX2, hn, rfl⟩ | exact ⟨HX2, hn⟩
      simp [Act.put] at hA
      subst hA
      obtain rfl := hv8
      refine Gro3.take0 5 (by kernel_rfl) ?_
      simp only [List.take, List.drop, List.length]
      repeat (go_big_quiet_step (fail))
      refine wpQuiet_nil ?_
      refine Gro3.callt (fun v => v = .agg #[.int .u64 (W64 c0), .int .u64 0, .int .u64 0, .int .u64 0]) (fun _ _ => True) rfl rfl (⟨_, rfl⟩) (fun _ _ _ _ _ => trivial) (fun w1 hB hG => ?_) (fun v9 A9 hv9 hA => ?_)
      · obtain ⟨nq, rfl⟩ := hB
        clear fx0 fx1 fx2 fx3
        go_simp
        refine (COne.out _).mono ?_
        rintro e w2 ⟨rfl, hn⟩
        have HX2 := HBB.out _ ⟨(HGB.out nq).1.stay hn, (HGB.out nq).2.trans hn⟩
        first | exact ⟨_, rfl, HX2, hn, rfl⟩ | exact ⟨_, rfl, HX2, hn, rfl, trivial⟩ | exact ⟨rfl, HX2, hn⟩ | exact ⟨HX2, hn, rfl⟩ | exact ⟨HX2, hn⟩
      simp [Act.put] at hA
      subst hA
      obtain rfl := hv9
      refine Gro3.take0 6 (by kernel_rfl) ?_
      simp only [List.take, List.drop, List.length]
      repeat (go_big_quiet_step (fail))
      refine wpQuiet_nil ?_
      refine Gro3.nil ?_
      rintro w11 ⟨n9, rfl⟩ hG
      have HNZ := Lib.hid (HGB.out n9).2
      clear HFA HBA HGB HBB hG fx0 fx1 fx2 fx3
      generalize g n9 = w12 at *
      go_wp2
      go_ret
      exact ⟨rfl, HN.out.trans HNZ.out⟩
    · have hbt : tb = false := by rw [HTB.out, decide_eq_false hin, Bool.false_and]
      subst hbt
      by_cases hin0 : 0 ≤ n
      · have hin1 : ¬ n < 256 := fun h => hin ⟨hin0, h⟩
        clear hin
        go_wp2_with fail
        refine Gro3.wp_region_gro3S (fun w' => C4 w' W.heap.size c0 c1 c2 c3 ∧ New w9 w') (fun w' => C4 w' W.heap.size c0 c1 c2 c3 ∧ New w9 w') [0, 0, 2, 0, 0, 0, 0, 2, 0, 2, 0, 0, 0, 0, 0, 2, 0, 0, 0, 0, 2, 2, 0, 0, 0, 0, 0, 2, 0, 0, 0, 0, 0, 0] New (fun _ _ _ => True) (by kernel_rfl) (by kernel_rfl) (by kernel_rfl) (fun _ _ _ _ _ _ => trivial) (fun w' hw' => hw') (⟨HX.out.stay (New.refl _).drew, (New.refl _).drew⟩) ?_
        intro I J _ _ f g hfa hba hgb hbb
        have HFA := Lib.hid hfa
        have HBA := Lib.hid hba
        have HGB := Lib.hid hgb
        have HBB := Lib.hid hbb
        have fx0 := fun n => (hfa n).1.1
        have fx1 := fun n => (hfa n).1.2.1
        have fx2 := fun n => (hfa n).1.2.2.1
        have fx3 := fun n => (hfa n).1.2.2.2
        clear hfa hba hgb hbb
        refine Gro3.take0 2 (by kernel_rfl) ?_
        simp only [List.take, List.drop, List.length]
        repeat (go_big_quiet_step (fail))
        refine wpQuiet_nil ?_
        refine Gro3.callt (fun v => v = .bool false) (fun _ _ => True) rfl rfl (⟨_, rfl⟩) (fun _ _ _ _ _ => trivial) (fun w1 hB hG => ?_) (fun v1 A1 hv1 hA => ?_)
        · obtain ⟨nq, rfl⟩ := hB
          clear fx0 fx1 fx2 fx3
          go_simp
          refine (CBit.out _).mono ?_
          rintro e w2 ⟨rfl, hn⟩
          have HX2 := HBB.out _ ⟨(HGB.out nq).1.stay hn, (HGB.out nq).2.trans hn⟩
          first | exact ⟨_, rfl, HX2, hn, rfl⟩ | exact ⟨_, rfl, HX2, hn, rfl, trivial⟩ | exact ⟨rfl, HX2, hn⟩ | exact ⟨HX2, hn, rfl⟩ | exact ⟨HX2, hn⟩
        simp [Act.put] at hA
        subst hA
        obtain rfl := hv1
        refine Gro3.take0 4 (by kernel_rfl) ?_
        simp only [List.take, List.drop, List.length]
        repeat (go_big_quiet_step (fail))
        refine wpQuiet_nil ?_
        refine Gro3.callt (fun v => v = .int .i64 (ln : Nat)) (fun _ _ => True) rfl rfl (⟨_, rfl⟩) (fun _ _ _ _ _ => trivial) (fun w1 hB hG => ?_) (fun v2 A2 hv2 hA => ?_)
        · obtain ⟨nq, rfl⟩ := hB
          clear fx0 fx1 fx2 fx3
          go_simp
          refine (CLen.out _).mono ?_
          rintro e w2 ⟨rfl, hn⟩
          have HX2 := HBB.out _ ⟨(HGB.out nq).1.stay hn, (HGB.out nq).2.trans hn⟩
          first | exact ⟨_, rfl, HX2, hn, rfl⟩ | exact ⟨_, rfl, HX2, hn, rfl, trivial⟩ | exact ⟨rfl, HX2, hn⟩ | exact ⟨HX2, hn, rfl⟩ | exact ⟨HX2, hn⟩
        simp [Act.put] at hA
        subst hA
        obtain rfl := hv2
        refine Gro3.take0 1 (by kernel_rfl) ?_
        simp only [List.take, List.drop, List.length]
        repeat (go_big_quiet_step (fail))
        refine wpQuiet_nil ?_
        refine Gro3.callt (fun v => v = .int .i64 (ln : Nat)) (fun _ _ => True) rfl rfl (⟨_, rfl⟩) (fun _ _ _ _ _ => trivial) (fun w1 hB hG => ?_) (fun v3 A3 hv3 hA => ?_)
        · obtain ⟨nq, rfl⟩ := hB
          clear fx0 fx1 fx2 fx3
          go_simp
          refine (Clen.out _ _ _ (HZ1.out.stay (HGB.out nq).2)).mono ?_
          rintro e w2 ⟨rfl, rfl⟩
          have hn := New.refl (g nq)
          have HX2 := HBB.out _ ⟨(HGB.out nq).1.stay hn, (HGB.out nq).2.trans hn⟩
          first | exact ⟨_, rfl, HX2, hn, rfl⟩ | exact ⟨_, rfl, HX2, hn, rfl, trivial⟩ | exact ⟨rfl, HX2, hn⟩ | exact ⟨HX2, hn, rfl⟩ | exact ⟨HX2, hn⟩
        simp [Act.put] at hA
        subst hA
        obtain rfl := hv3
        refine Gro3.take0 5 (by kernel_rfl) ?_
        simp only [List.take, List.drop, List.length]
        repeat (go_big_quiet_step (fail))
        refine wpQuiet_nil ?_
        refine Gro3.callt (fun v => v = .agg #[.int .u64 (W64 y0), .int .u64 (W64 y1), .int .u64 (W64 y2), .int .u64 (W64 y3)]) (fun _ _ => True) rfl rfl (⟨_, rfl⟩) (fun _ _ _ _ _ => trivial) (fun w1 hB hG => ?_) (fun v4 A4 hv4 hA => ?_)
        · obtain ⟨nq, rfl⟩ := hB
          clear fx0 fx1 fx2 fx3
          go_simp
          refine (CShl.out _).mono ?_
          rintro e w2 ⟨rfl, hn⟩
          have HX2 := HBB.out _ ⟨(HGB.out nq).1.stay hn, (HGB.out nq).2.trans hn⟩
          first | exact ⟨_, rfl, HX2, hn, rfl⟩ | exact ⟨_, rfl, HX2, hn, rfl, trivial⟩ | exact ⟨rfl, HX2, hn⟩ | exact ⟨HX2, hn, rfl⟩ | exact ⟨HX2, hn⟩
        simp [Act.put] at hA
        subst hA
        obtain rfl := hv4
        refine Gro3.take0 2 (by kernel_rfl) ?_
        simp only [List.take, List.drop, List.length]
        repeat (go_big_quiet_step (fail))
        refine wpQuiet_nil ?_
        refine Gro3.opv (.int .i64 (K : Int)) rfl rfl (fun w => ?_) (fun A5 hA => ?_)
        · first | (simp [go_sem, hmx, hmn]; done) | (go_simp; done)
        simp [Act.put] at hA
        subst hA
        refine Gro3.opv (.int .i64 (mm : Int)) rfl rfl (fun w => ?_) (fun A6 hA => ?_)
        · first | (simp [go_sem, hmx, hmn]; done) | (go_simp; done)
        simp [Act.put] at hA
        subst hA
        refine Gro3.callt (fun v => ∃ r c, v = .slice r 256 c) (fun v w' => ∃ r c, v = .slice r 256 c ∧ ZRow w' r 256 c (bitsOf L 256)) rfl rfl (⟨_, none, 0, rfl⟩) (fun v w w' hn h => by obtain ⟨r, c, e, hr⟩ := h; exact ⟨r, c, e, hr.stay hn⟩) (fun w1 hB hG => ?_) (fun v7 A7 hv7 hA => ?_)
        · obtain ⟨nq, rfl⟩ := hB
          clear fx0 fx1 fx2 fx3
          go_simp
          refine (Cshl.out _ _ _ (HZ1.out.stay (HGB.out nq).2)).mono ?_
          rintro e w2 ⟨v2, rfl, hown, hn⟩
          obtain ⟨r5, c5, rfl, hrow⟩ := bits_row hown (by omega)
          have HX2 := HBB.out _ ⟨(HGB.out nq).1.stay hn, (HGB.out nq).2.trans hn⟩
          exact ⟨_, rfl, HX2, hn, ⟨_, _, rfl⟩, ⟨_, _, rfl, hrow⟩⟩
        simp [Act.put] at hA
        subst hA
        obtain ⟨r6, c6, rfl⟩ := hv7
        refine Gro3.callt (fun v => v = .agg #[.int .u64 (W64 y0), .int .u64 (W64 y1), .int .u64 (W64 y2), .int .u64 (W64 y3)]) (fun _ _ => True) rfl rfl (⟨_, rfl⟩) (fun _ _ _ _ _ => trivial) (fun w1 hB hG => ?_) (fun v8 A8 hv8 hA => ?_)
        · obtain ⟨nq, rfl⟩ := hB
          clear fx0 fx1 fx2 fx3
          go_simp
          obtain ⟨r5, c5, e5, hz⟩ := hG
          cases e5
          refine (CtoY.out _ _ _ hz).mono ?_
          rintro e w2 ⟨rfl, hn⟩
          have HX2 := HBB.out _ ⟨(HGB.out nq).1.stay hn, (HGB.out nq).2.trans hn⟩
          first | exact ⟨_, rfl, HX2, hn, rfl⟩ | exact ⟨_, rfl, HX2, hn, rfl, trivial⟩ | exact ⟨rfl, HX2, hn⟩ | exact ⟨HX2, hn, rfl⟩ | exact ⟨HX2, hn⟩
        simp [Act.put] at hA
        subst hA
        obtain rfl := hv8
        refine Gro3.take0 5 (by kernel_rfl) ?_
        simp only [List.take, List.drop, List.length]
        repeat (go_big_quiet_step (fail))
        refine wpQuiet_nil ?_
        refine Gro3.callt (fun v => v = .agg #[.int .u64 (W64 c0), .int .u64 0, .int .u64 0, .int .u64 0]) (fun _ _ => True) rfl rfl (⟨_, rfl⟩) (fun _ _ _ _ _ => trivial) (fun w1 hB hG => ?_) (fun v9 A9 hv9 hA => ?_)
        · obtain ⟨nq, rfl⟩ := hB
          clear fx0 fx1 fx2 fx3
          go_simp
          refine (COne.out _).mono ?_
          rintro e w2 ⟨rfl, hn⟩
          have HX2 := HBB.out _ ⟨(HGB.out nq).1.stay hn, (HGB.out nq).2.trans hn⟩
          first | exact ⟨_, rfl, HX2, hn, rfl⟩ | exact ⟨_, rfl, HX2, hn, rfl, trivial⟩ | exact ⟨rfl, HX2, hn⟩ | exact ⟨HX2, hn, rfl⟩ | exact ⟨HX2, hn⟩
        simp [Act.put] at hA
        subst hA
        obtain rfl := hv9
        refine Gro3.take0 6 (by kernel_rfl) ?_
        simp only [List.take, List.drop, List.length]
        repeat (go_big_quiet_step (fail))
        refine wpQuiet_nil ?_
        refine Gro3.nil ?_
        rintro w11 ⟨n9, rfl⟩ hG
        have HNZ := Lib.hid (HGB.out n9).2
        clear HFA HBA HGB HBB hG fx0 fx1 fx2 fx3
        generalize g n9 = w12 at *
        go_wp2
        go_ret
        exact ⟨rfl, HN.out.trans HNZ.out⟩
      · clear hin
        go_wp2_with fail
        refine Gro3.wp_region_gro3S (fun w' => C4 w' W.heap.size c0 c1 c2 c3 ∧ New w9 w') (fun w' => C4 w' W.heap.size c0 c1 c2 c3 ∧ New w9 w') [0, 0, 2, 0, 0, 0, 0, 2, 0, 2, 0, 0, 0, 0, 0, 2, 0, 0, 0, 0, 2, 2, 0, 0, 0, 0, 0, 2, 0, 0, 0, 0, 0, 0] New (fun _ _ _ => True) (by kernel_rfl) (by kernel_rfl) (by kernel_rfl) (fun _ _ _ _ _ _ => trivial) (fun w' hw' => hw') (⟨HX.out.stay (New.refl _).drew, (New.refl _).drew⟩) ?_
        intro I J _ _ f g hfa hba hgb hbb
        have HFA := Lib.hid hfa
        have HBA := Lib.hid hba
        have HGB := Lib.hid hgb
        have HBB := Lib.hid hbb
        have fx0 := fun n => (hfa n).1.1
        have fx1 := fun n => (hfa n).1.2.1
        have fx2 := fun n => (hfa n).1.2.2.1
        have fx3 := fun n => (hfa n).1.2.2.2
        clear hfa hba hgb hbb
        refine Gro3.take0 2 (by kernel_rfl) ?_
        simp only [List.take, List.drop, List.length]
        repeat (go_big_quiet_step (fail))
        refine wpQuiet_nil ?_
        refine Gro3.callt (fun v => v = .bool false) (fun _ _ => True) rfl rfl (⟨_, rfl⟩) (fun _ _ _ _ _ => trivial) (fun w1 hB hG => ?_) (fun v1 A1 hv1 hA => ?_)
        · obtain ⟨nq, rfl⟩ := hB
          clear fx0 fx1 fx2 fx3
          go_simp
          refine (CBit.out _).mono ?_
          rintro e w2 ⟨rfl, hn⟩
          have HX2 := HBB.out _ ⟨(HGB.out nq).1.stay hn, (HGB.out nq).2.trans hn⟩
          first | exact ⟨_, rfl, HX2, hn, rfl⟩ | exact ⟨_, rfl, HX2, hn, rfl, trivial⟩ | exact ⟨rfl, HX2, hn⟩ | exact ⟨HX2, hn, rfl⟩ | exact ⟨HX2, hn⟩
        simp [Act.put] at hA
        subst hA
        obtain rfl := hv1
        refine Gro3.take0 4 (by kernel_rfl) ?_
        simp only [List.take, List.drop, List.length]
        repeat (go_big_quiet_step (fail))
        refine wpQuiet_nil ?_
        refine Gro3.callt (fun v => v = .int .i64 (ln : Nat)) (fun _ _ => True) rfl rfl (⟨_, rfl⟩) (fun _ _ _ _ _ => trivial) (fun w1 hB hG => ?_) (fun v2 A2 hv2 hA => ?_)
        · obtain ⟨nq, rfl⟩ := hB
          clear fx0 fx1 fx2 fx3
          go_simp
          refine (CLen.out _).mono ?_
          rintro e w2 ⟨rfl, hn⟩
          have HX2 := HBB.out _ ⟨(HGB.out nq).1.stay hn, (HGB.out nq).2.trans hn⟩
          first | exact ⟨_, rfl, HX2, hn, rfl⟩ | exact ⟨_, rfl, HX2, hn, rfl, trivial⟩ | exact ⟨rfl, HX2, hn⟩ | exact ⟨HX2, hn, rfl⟩ | exact ⟨HX2, hn⟩
        simp [Act.put] at hA
        subst hA
        obtain rfl := hv2
        refine Gro3.take0 1 (by kernel_rfl) ?_
        simp only [List.take, List.drop, List.length]
        repeat (go_big_quiet_step (fail))
        refine wpQuiet_nil ?_
        refine Gro3.callt (fun v => v = .int .i64 (ln : Nat)) (fun _ _ => True) rfl rfl (⟨_, rfl⟩) (fun _ _ _ _ _ => trivial) (fun w1 hB hG => ?_) (fun v3 A3 hv3 hA => ?_)
        · obtain ⟨nq, rfl⟩ := hB
          clear fx0 fx1 fx2 fx3
          go_simp
          refine (Clen.out _ _ _ (HZ1.out.stay (HGB.out nq).2)).mono ?_
          rintro e w2 ⟨rfl, rfl⟩
          have hn := New.refl (g nq)
          have HX2 := HBB.out _ ⟨(HGB.out nq).1.stay hn, (HGB.out nq).2.trans hn⟩
          first | exact ⟨_, rfl, HX2, hn, rfl⟩ | exact ⟨_, rfl, HX2, hn, rfl, trivial⟩ | exact ⟨rfl, HX2, hn⟩ | exact ⟨HX2, hn, rfl⟩ | exact ⟨HX2, hn⟩
        simp [Act.put] at hA
        subst hA
        obtain rfl := hv3
        refine Gro3.take0 5 (by kernel_rfl) ?_
        simp only [List.take, List.drop, List.length]
        repeat (go_big_quiet_step (fail))
        refine wpQuiet_nil ?_
        refine Gro3.callt (fun v => v = .agg #[.int .u64 (W64 y0), .int .u64 (W64 y1), .int .u64 (W64 y2), .int .u64 (W64 y3)]) (fun _ _ => True) rfl rfl (⟨_, rfl⟩) (fun _ _ _ _ _ => trivial) (fun w1 hB hG => ?_) (fun v4 A4 hv4 hA => ?_)
        · obtain ⟨nq, rfl⟩ := hB
          clear fx0 fx1 fx2 fx3
          go_simp
          refine (CShl.out _).mono ?_
          rintro e w2 ⟨rfl, hn⟩
          have HX2 := HBB.out _ ⟨(HGB.out nq).1.stay hn, (HGB.out nq).2.trans hn⟩
          first | exact ⟨_, rfl, HX2, hn, rfl⟩ | exact ⟨_, rfl, HX2, hn, rfl, trivial⟩ | exact ⟨rfl, HX2, hn⟩ | exact ⟨HX2, hn, rfl⟩ | exact ⟨HX2, hn⟩
        simp [Act.put] at hA
        subst hA
        obtain rfl := hv4
        refine Gro3.take0 2 (by kernel_rfl) ?_
        simp only [List.take, List.drop, List.length]
        repeat (go_big_quiet_step (fail))
        refine wpQuiet_nil ?_
        refine Gro3.opv (.int .i64 (K : Int)) rfl rfl (fun w => ?_) (fun A5 hA => ?_)
        · first | (simp [go_sem, hmx, hmn]; done) | (go_simp; done)
        simp [Act.put] at hA
        subst hA
        refine Gro3.opv (.int .i64 (mm : Int)) rfl rfl (fun w => ?_) (fun A6 hA => ?_)
        · first | (simp [go_sem, hmx, hmn]; done) | (go_simp; done)
        simp [Act.put] at hA
        subst hA
        refine Gro3.callt (fun v => ∃ r c, v = .slice r 256 c) (fun v w' => ∃ r c, v = .slice r 256 c ∧ ZRow w' r 256 c (bitsOf L 256)) rfl rfl (⟨_, none, 0, rfl⟩) (fun v w w' hn h => by obtain ⟨r, c, e, hr⟩ := h; exact ⟨r, c, e, hr.stay hn⟩) (fun w1 hB hG => ?_) (fun v7 A7 hv7 hA => ?_)
        · obtain ⟨nq, rfl⟩ := hB
          clear fx0 fx1 fx2 fx3
          go_simp
          refine (Cshl.out _ _ _ (HZ1.out.stay (HGB.out nq).2)).mono ?_
          rintro e w2 ⟨v2, rfl, hown, hn⟩
          obtain ⟨r5, c5, rfl, hrow⟩ := bits_row hown (by omega)
          have HX2 := HBB.out _ ⟨(HGB.out nq).1.stay hn, (HGB.out nq).2.trans hn⟩
          exact ⟨_, rfl, HX2, hn, ⟨_, _, rfl⟩, ⟨_, _, rfl, hrow⟩⟩
        simp [Act.put] at hA
        subst hA
        obtain ⟨r6, c6, rfl⟩ := hv7
        refine Gro3.callt (fun v => v = .agg #[.int .u64 (W64 y0), .int .u64 (W64 y1), .int .u64 (W64 y2), .int .u64 (W64 y3)]) (fun _ _ => True) rfl rfl (⟨_, rfl⟩) (fun _ _ _ _ _ => trivial) (fun w1 hB hG => ?_) (fun v8 A8 hv8 hA => ?_)
        · obtain ⟨nq, rfl⟩ := hB
          clear fx0 fx1 fx2 fx3
          go_simp
          obtain ⟨r5, c5, e5, hz⟩ := hG
          cases e5
          refine (CtoY.out _ _ _ hz).mono ?_
          rintro e w2 ⟨rfl, hn⟩
          have HX2 := HBB.out _ ⟨(HGB.out nq).1.stay hn, (HGB.out nq).2.trans hn⟩
          first | exact ⟨_, rfl, HX2, hn, rfl⟩ | exact ⟨_, rfl, HX2, hn, rfl, trivial⟩ | exact ⟨rfl, HX2, hn⟩ | exact ⟨HX2, hn, rfl⟩ | exact ⟨HX2, hn⟩
        simp [Act.put] at hA
        subst hA
        obtain rfl := hv8
        refine Gro3.take0 5 (by kernel_rfl) ?_
        simp only [List.take, List.drop, List.length]
        repeat (go_big_quiet_step (fail))
        refine wpQuiet_nil ?_
        refine Gro3.callt (fun v => v = .agg #[.int .u64 (W64 c0), .int .u64 0, .int .u64 0, .int .u64 0]) (fun _ _ => True) rfl rfl (⟨_, rfl⟩) (fun _ _ _ _ _ => trivial) (fun w1 hB hG => ?_) (fun v9 A9 hv9 hA => ?_)
        · obtain ⟨nq, rfl⟩ := hB
          clear fx0 fx1 fx2 fx3
          go_simp
          refine (COne.out _).mono ?_
          rintro e w2 ⟨rfl, hn⟩
          have HX2 := HBB.out _ ⟨(HGB.out nq).1.stay hn, (HGB.out nq).2.trans hn⟩
          first | exact ⟨_, rfl, HX2, hn, rfl⟩ | exact ⟨_, rfl, HX2, hn, rfl, trivial⟩ | exact ⟨rfl, HX2, hn⟩ | exact ⟨HX2, hn, rfl⟩ | exact ⟨HX2, hn⟩
        simp [Act.put] at hA
        subst hA
        obtain rfl := hv9
        refine Gro3.take0 6 (by kernel_rfl) ?_
        simp only [List.take, List.drop, List.length]
        repeat (go_big_quiet_step (fail))
        refine wpQuiet_nil ?_
        refine Gro3.nil ?_
        rintro w11 ⟨n9, rfl⟩ hG
        have HNZ := Lib.hid (HGB.out n9).2
        clear HFA HBA HGB HBB hG fx0 fx1 fx2 fx3
        generalize g n9 = w12 at *
        go_wp2
        go_ret
        exact ⟨rfl, HN.out.trans HNZ.out⟩
    )
end Go.Proofs.Ytepphoncljlkoaa
