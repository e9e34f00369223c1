/- What is twisted twice is as it was; contracts of twist.Eval and of the document's own; the example of twist (awake); the walks of the statements TwistTurns and TwistEvals: for all words, all keys. -/
import Derived.Test.YtadkbpdbbgjkgaaTwiA
import Derived.Test.YtadkbpdbbgjkgaaClass
import Derived.Deep.RegionWith
namespace Go.Bv
open Go Go.RowKit
theorem getLsb_mod16 (x : BitVec 64) (i j : Nat) (hj : j < 4) (hi : 4 * i + j < 64) : (x >>> (4 * i) % 16#64).getLsbD j = x.getLsbD (4 * i + j) := by
  rw [mod16, BitVec.getLsbD_and, BitVec.getLsbD_ushiftRight]
  have : (15#64).getLsbD j = true := by
    have hc : j = 0 ∨ j = 1 ∨ j = 2 ∨ j = 3 := by omega
    rcases hc with rfl | rfl | rfl | rfl <;> rfl
  rw [this, Bool.and_true]
theorem getLsb_mod16_hi (x : BitVec 64) (i j : Nat) (hj : 4 ≤ j) : (x >>> (4 * i) % 16#64).getLsbD j = false := by
  rw [← BitVec.testBit_toNat]
  apply Nat.testBit_lt_two_pow
  have : (x >>> (4 * i) % 16#64).toNat < 16 := by
    rw [BitVec.toNat_umod]; exact Nat.mod_lt _ (by decide)
  exact Nat.lt_of_lt_of_le this (Nat.le_trans (show 16 ≤ 2 ^ 4 by decide) (Nat.pow_le_pow_right (by omega) hj))
theorem low28 (x t : BitVec 64) (i : Nat) (hi : i < 7) : (x ^^^ t <<< 28) >>> (4 * i) % 16#64 = x >>> (4 * i) % 16#64 := by
  apply BitVec.eq_of_getLsbD_eq
  intro j hj
  by_cases h : j < 4
  · rw [getLsb_mod16 _ _ _ h (by omega), getLsb_mod16 _ _ _ h (by omega), BitVec.getLsbD_xor, BitVec.getLsbD_shiftLeft]
    have : decide (4 * i + j < 28) = true := decide_eq_true (by omega)
    rw [this]; simp
  · rw [getLsb_mod16_hi _ _ _ (by omega), getLsb_mod16_hi _ _ _ (by omega)]
end Go.Bv
namespace Go.Proofs.Ytadkbpdbbgjkgaa
open Go.RowKit Go.Bv
set_option linter.unusedVariables false
theorem twx_same (l : List (BitVec 64)) (x t : BitVec 64) : ∀ k, k ≤ 7 → twx l (x ^^^ t <<< 28) k = twx l x k
  | 0, _ => rfl
  | k + 1, h => by
    have e : lat (x ^^^ t <<< 28) k = lat x k := by unfold lat; rw [low28 _ _ _ (by omega)]
    show twx l (x ^^^ t <<< 28) k ^^^ _ = twx l x k ^^^ _
    rw [twx_same l x t k (by omega), e]
theorem turn_turn (l : List (BitVec 64)) (x : BitVec 64) : turnV l (turnV l x) = x := by
  unfold turnV
  rw [twx_same l x _ 7 (by omega)]
  generalize (twx l x 7 % 16#64) <<< 28 = u
  grind
theorem turn_inj (l : List (BitVec 64)) (x y : BitVec 64) : (turnV l y == turnV l x) = (x == y) := by
  rw [Bool.eq_iff_iff, beq_iff_eq, beq_iff_eq]
  constructor
  · intro h
    have := congrArg (turnV l) h
    rw [turn_turn, turn_turn] at this
    exact this.symm
  · intro h; rw [h]
theorem turn_small (l : List (BitVec 64)) (x : BitVec 64) (h : x.toNat < 4294967296) : (turnV l x).toNat < 4294967296 := by
  unfold turnV
  rw [BitVec.toNat_xor]
  have ht : (twx l x 7 % 16#64).toNat < 16 := by rw [BitVec.toNat_umod]; exact Nat.mod_lt _ (by decide)
  have h2 : ((twx l x 7 % 16#64) <<< 28).toNat < 4294967296 := by
    rw [BitVec.toNat_shiftLeft, Nat.shiftLeft_eq, Nat.mod_eq_of_lt (by omega)]
    omega
  exact Nat.xor_lt_two_pow (n := 32) h h2
theorem evE_good {bits : Int} {n : Nat} {N : Int} {x : BitVec 64} (h : evE bits n N x = 0) : chk bits n N = 0 ∧ x.toNat < 4294967296 := by
  unfold evE at h
  by_cases h1 : chk bits n N = 0
  · rw [if_neg (by rw [h1]; simp)] at h
    by_cases h2 : x.toNat < 4294967296
    · exact ⟨h1, h2⟩
    · rw [if_neg h2] at h; cases h
  · rw [if_pos h1] at h; exact absurd h h1
/-- what a seed brings a key to -/
def teV (l : List (BitVec 64)) (bits : Int) (x : BitVec 64) : BitVec 64 := if evE bits l.length 240 x = 0 then evV (l.take 128) bits 128 (turnV l x) else 0#64
theorem evE_sub {l : List (BitVec 64)} {bits : Int} {x : BitVec 64} (h : evE bits l.length 240 x = 0) : evE bits (l.take 128).length 128 (turnV l x) = 0 := by
  obtain ⟨h1, h2⟩ := evE_good h
  obtain ⟨b1, b2, b3⟩ := chk_good h1
  have hl : (l.take 128).length = 128 := by rw [List.length_take]; omega
  have hc : chk bits (l.take 128).length 128 = 0 := by unfold chk; rw [if_neg (by omega), hl, if_neg (by simp)]
  unfold evE
  rw [if_neg (by rw [hc]; simp), if_pos (turn_small l x h2)]
theorem tuE {bits : Int} {n : Nat} {N : Int} {x : BitVec 64} (h : evE bits n N x = 0) : evE 64 n N x = 0 := by
  obtain ⟨h1, h2⟩ := evE_good h
  obtain ⟨b1, b2, b3⟩ := chk_good h1
  have hc : chk 64 n N = 0 := by unfold chk; rw [if_neg (by omega), if_neg (by omega)]
  unfold evE
  rw [if_neg (by rw [hc]; simp), if_pos h2]
theorem tuE2 {bits : Int} {n : Nat} {N : Int} {x : BitVec 64} (h : chk bits n N = 0) (h2 : ¬ x.toNat < 4294967296) : evE 64 n N x = 2 := by
  obtain ⟨b1, b2, b3⟩ := chk_good h
  have hc : chk 64 n N = 0 := by unfold chk; rw [if_neg (by omega), if_neg (by omega)]
  unfold evE
  rw [if_neg (by rw [hc]; simp), if_neg h2]
set_option maxHeartbeats 1000000 in
theorem evalt_any (a : Option Addr) (n c : Nat) (l : List (BitVec 64)) (bits : Int) (x : BitVec 64) (w : World) (ha : QRow w a n c l) :
    Calls Try.prog 34 #[.slice a n c, .int .i64 bits, .int .u64 (W64 x)] w fun e w' => e = .returned (.tuple #[.int .u64 (W64 (teV l bits x)), .int .i64 (evE bits l.length 240 x)]) ∧ New w w' := by
  have hm := ha.most
  have hle := ha.le
  have hrm := ha.room
  have hck : ∀ w, Calls Try.prog 36 #[.slice a n c, .int .i64 bits] w fun e w' => e = .returned (.int .i64 (chk bits l.length 240)) ∧ w' = w := by
    rw [ha.len_eq]; exact fun w => checkt_any a n c bits w hm
  have HCK := Lib.hid hck
  clear hck
  have hL := ha.len_eq
  by_cases h1 : chk bits l.length 240 = 0
  · obtain ⟨b1, b2, b3⟩ := chk_good h1
    by_cases h2 : x.toNat < 4294967296
    · have hE : evE bits l.length 240 x = 0 := by unfold evE; rw [if_neg (by rw [h1]; simp), if_pos h2]
      have hV : teV l bits x = evV (l.take 128) bits 128 (turnV l x) := by unfold teV; rw [if_pos hE]
      have hE2 := evE_sub hE
      have hT : evE 64 l.length 240 x = 0 := tuE hE
      have hTV : tuV l x = turnV l x := by unfold tuV; rw [if_pos hT]
      have HE := Lib.hid hE
      have HV := Lib.hid hV
      have HE2 := Lib.hid hE2
      have HT := Lib.hid hT
      have HTV := Lib.hid hTV
      rw [h1] at HCK
      obtain rfl : n = 240 := by omega
      obtain ⟨b, off, rfl, _⟩ := ha.addr (by omega)
      clear hE hV h1 h2 b3 b1 b2 hE2 hT hTV
      go_enter Try.func34, Try.ntmps34
      go_wp2_with fail
      refine (HCK.out _).mono ?_
      rintro e w' ⟨rfl, rfl⟩
      go_wp2_with fail
      refine (turn_any _ _ _ _ _ _ ha).mono ?_
      rintro e w1 ⟨rfl, hn1⟩
      rw [HT.out, HTV.out]
      go_wp2_with fail
      refine (partst_any b off c hle hrm _).mono ?_
      rintro e w2 ⟨rfl, hn2⟩
      have hn12 := hn1.trans hn2
      have hq1 := (ha.stay hn12).slice 0 128 128 (by omega) (by omega) (by omega)
      rw [List.drop_zero] at hq1
      have hq2 : QRow w2 (some ⟨b, off, none⟩) 128 128 (l.take 128) := hq1
      clear hq1
      go_wp2_with fail
      refine (eval_any _ _ _ _ bits (turnV l x) _ hq2).mono ?_
      rintro e w3 ⟨rfl, hn3⟩
      rw [HE2.out]
      go_wp2
      go_ret2
      rw [HV.out, HE.out]
      exact ⟨rfl, hn12.trans hn3⟩
    · have hE : evE bits l.length 240 x = 2 := by unfold evE; rw [if_neg (by rw [h1]; simp), if_neg h2]
      have hV : W64 (teV l bits x) = 0 := by unfold teV; rw [if_neg (by rw [hE]; decide)]; exact W64_lit 0 (by omega)
      have hT : evE 64 l.length 240 x = 2 := tuE2 h1 h2
      have HE := Lib.hid hE
      have HV := Lib.hid hV
      have HT := Lib.hid hT
      rw [h1] at HCK
      clear hE hV h1 h2 b3 b1 b2 hT
      go_enter Try.func34, Try.ntmps34
      go_wp2_with fail
      refine (HCK.out _).mono ?_
      rintro e w' ⟨rfl, rfl⟩
      go_wp2_with fail
      refine (turn_any _ _ _ _ _ _ ha).mono ?_
      rintro e w1 ⟨rfl, hn1⟩
      rw [HT.out]
      go_wp2
      go_ret2
      rw [HV.out, HE.out]
      exact ⟨rfl, hn1⟩
  · have hE : evE bits l.length 240 x = chk bits l.length 240 := by unfold evE; rw [if_pos h1]
    have hV : W64 (teV l bits x) = 0 := by unfold teV; rw [hE, if_neg h1]; exact W64_lit 0 (by omega)
    have HE := Lib.hid hE
    have HV := Lib.hid hV
    have hne : (chk bits l.length 240 != 0) = true := by rw [bne_iff_ne]; exact h1
    clear hE hV h1
    generalize chk bits l.length 240 = q at HCK hne HE
    go_enter Try.func34, Try.ntmps34
    go_wp2_with fail
    refine (HCK.out _).mono ?_
    rintro e w' ⟨rfl, rfl⟩
    go_wp2
    go_ret2
    rw [HV.out, HE.out]
    exact ⟨rfl, New.refl _⟩
set_option maxHeartbeats 2000000 in
theorem evalt_ref (a : Option Addr) (n c : Nat) (l : List (BitVec 64)) (bits : Int) (x : BitVec 64) (w : World) (ha : QRow w a n c l) :
    Calls Try.prog 35 #[.slice a n c, .int .i64 bits, .int .u64 (W64 x)] w fun e w' => e = .returned (.tuple #[.int .u64 (W64 (teV l bits x)), .int .i64 (evE bits l.length 240 x)]) ∧ New w w' := by
  have hm := ha.most
  have hle := ha.le
  have hrm := ha.room
  have hck : ∀ w, Calls Try.prog 27 #[.slice a n c, .int .i64 bits, .int .i64 240] w fun e w' => e = .returned (.int .i64 (chk bits l.length 240)) ∧ w' = w := by
    rw [ha.len_eq]; exact fun w => check_ref a n c bits 240 w hm
  have HCK := Lib.hid hck
  clear hck
  have hL := ha.len_eq
  by_cases h1 : chk bits l.length 240 = 0
  · obtain ⟨b1, b2, b3⟩ := chk_good h1
    by_cases h2 : x.toNat < 4294967296
    · have hE : evE bits l.length 240 x = 0 := by unfold evE; rw [if_neg (by rw [h1]; simp), if_pos h2]
      have hV : teV l bits x = evV (l.take 128) bits 128 (turnV l x) := by unfold teV; rw [if_pos hE]
      have hE2 := evE_sub hE
      have HE := Lib.hid hE
      have HV := Lib.hid hV
      have HE2 := Lib.hid hE2
      have hx : decide (4294967296 ≤ W64 x) = false := decide_eq_false (by unfold W64; omega)
      rw [h1] at HCK
      obtain rfl : n = 240 := by omega
      obtain ⟨b, off, rfl, _⟩ := ha.addr (by omega)
      clear hE hV h1 h2 b3 b1 b2 hE2
      have hq0 : QRow w (some ⟨b, off, none⟩) 128 c (l.take 128) := by
        have h := ha.slice 0 128 c (by omega) (by omega) (by omega)
        rw [List.drop_zero] at h
        exact h
      have htr := fun w (h : QRow w (some ⟨b, off, none⟩) 240 c l) => turn_ref _ _ _ _ x w h rfl
      have hev : ∀ w, QRow w (some ⟨b, off, none⟩) 128 c (l.take 128) → Calls Try.prog 25 #[.slice (some ⟨b, off, none⟩) 128 c, .int .i64 bits, .int .u64 (W64 (turnV l x))] w fun e w' => e = .returned (.tuple #[.int .u64 (W64 (teV l bits x)), .int .i64 0]) ∧ New w w' := by
        intro w h
        have h3 := eval_ref _ _ _ _ bits (turnV l x) w h
        rw [HE2.out, ← HV.out] at h3
        exact h3
      have HTR := Lib.hid htr
      have HEV := Lib.hid hev
      clear htr hev HV
      generalize turnV l x = tx at HTR HEV
      generalize teV l bits x = vx at HEV ⊢
      go_enter Try.func35, Try.ntmps35
      go_wp2_with fail
      refine (HCK.out _).mono ?_
      rintro e w' ⟨rfl, rfl⟩
      go_wp2_with fail
      refine wp_region_class (fun wr => (QRow wr (some ⟨b, off, none⟩) 240 c l ∧ QRow wr (some ⟨b, off, none⟩) 128 c (l.take 128)) ∧ New w' wr) (by kernel_rfl) (by kernel_rfl) ⟨⟨ha.stay (New.refl _).drew, hq0.stay (New.refl _).drew⟩, (New.refl w').drew⟩ ?_
      intro I _ f hall hback
      have HSTEP : Hid (∀ n w', New (f n) w' → ∃ m, w' = f m) := Lib.hid fun n w' hn => hback w' ⟨⟨(hall n).1.1.stay hn, (hall n).1.2.stay hn⟩, (hall n).2.trans hn⟩
      have HALL := Lib.hid hall
      clear hall hback
      repeat (go_big_quiet_step (first
        | (go_at_call_of 33 (Value.int IntKind.u64 (W64 x)); refine class_new HSTEP.out (HTR.out _ (HALL.out _).1.1))
        | (go_at_call_of 25 (Value.int IntKind.u64 (W64 tx)); refine class_new HSTEP.out (HEV.out _ (HALL.out _).1.2))))
      refine wpQuiet_nil ?_
      rintro w4 ⟨n1, hw1⟩
      have hS := (HALL.out n1).2
      rw [← hw1] at hS
      clear HALL HSTEP hw1
      go_wp2
      go_ret2
      rw [HE.out]
      exact ⟨rfl, hS⟩
    · have hE : evE bits l.length 240 x = 2 := by unfold evE; rw [if_neg (by rw [h1]; simp), if_neg h2]
      have hV : W64 (teV l bits x) = 0 := by unfold teV; rw [if_neg (by rw [hE]; decide)]; exact W64_lit 0 (by omega)
      have HE := Lib.hid hE
      have HV := Lib.hid hV
      have hx : decide (4294967296 ≤ W64 x) = true := decide_eq_true (by unfold W64; omega)
      rw [h1] at HCK
      clear hE hV h1 h2 b3 b1 b2
      go_enter Try.func35, Try.ntmps35
      go_wp2_with fail
      refine (HCK.out _).mono ?_
      rintro e w' ⟨rfl, rfl⟩
      go_wp2
      go_ret2
      rw [HV.out, HE.out]
      exact ⟨rfl, New.refl _⟩
  · have hE : evE bits l.length 240 x = chk bits l.length 240 := by unfold evE; rw [if_pos h1]
    have hV : W64 (teV l bits x) = 0 := by unfold teV; rw [hE, if_neg h1]; exact W64_lit 0 (by omega)
    have HE := Lib.hid hE
    have HV := Lib.hid hV
    have hne : (chk bits l.length 240 != 0) = true := by rw [bne_iff_ne]; exact h1
    clear hE hV h1
    generalize chk bits l.length 240 = q at HCK hne HE
    go_enter Try.func35, Try.ntmps35
    go_wp2_with fail
    refine (HCK.out _).mono ?_
    rintro e w' ⟨rfl, rfl⟩
    go_wp2
    go_ret2
    rw [HV.out, HE.out]
    exact ⟨rfl, New.refl _⟩
set_option maxHeartbeats 1000000 in
theorem awake23 (w : World) :
    Calls Try.prog 30 #[] w fun e w' => e = .returned (.bool true) ∧ New w w' := by
  obtain ⟨i0, hi, hz0, hz1, hz2⟩ := info_parts info_u64t
  have hev : evE 64 240 240 77#64 = 0 := by decide +kernel
  have hvv : tuV (List.replicate 240 0#64) 77#64 = 77#64 := by decide +kernel
  have hc2 : chk 8 0 240 = 13 := by decide
  have HEV := Lib.hid hev
  have HVV := Lib.hid hvv
  have HC2 := Lib.hid hc2
  clear hev hvv hc2
  have H77 : Hid (W64 77#64 = 77) := Lib.hid (W64_lit 77 (by omega))
  have HZ : Hid (W64 0#64 = 0) := Lib.hid (W64_lit 0 (by omega))
  go_enter Try.func30, Try.ntmps30
  go_wp2_with fail
  go_loopw [1, 2] (fun v i wr => ∃ k : Nat, k ≤ 240 ∧ i = .int .i64 k ∧ wr.ownsRow w.heap.size 24 1 v k ((List.replicate k 0#64).map fun y => .int .u64 (W64 y)) ∧ New w wr) (fun _ i _ => 240 - (intOf i).toNat)
  case atStart => exact ⟨0, by omega, rfl, World.ownsRow_nil w _ _ 1, New.refl w⟩
  case round =>
    obtain ⟨k, hk, rfl, hown, hnew⟩ := hrel
    by_cases hlt : (k : Int) < 240
    · go_wp2_with (at_builtin; refine wpList_append_own _ rfl _ _ 22 rfl w.heap.size 24 i0 (.int .u64 0) 1 8 Try.underlying22 hi hz0 hz1 hz2 rfl (by decide) _ k _ rfl (hown.alloc _) ⟨wr.heap.size, 0, none⟩ 1 1 [.int .u64 0] rfl rfl ?c1 ?c2 ?c3 ?c4 ?c5 ?_)
      case c1 => exact new_cells_i wr _ _
      case c2 => intro u hu; simp at hu; subst hu; rfl
      case c3 => unfold maxLen; omega
      case c4 => omega
      case c5 => simp; have := hnew.le; omega
      intro v' w2 how hgr _
      have how2 : w2.ownsRow w.heap.size 24 1 v' (k + 1) ((List.replicate (k + 1) 0#64).map fun y => .int .u64 (W64 y)) := by
        rw [List.replicate_succ', List.map_append]
        show w2.ownsRow _ _ _ _ _ (_ ++ [.int .u64 (W64 0#64)])
        rw [List.map_replicate, HZ.out]; rw [HZ.out] at how; exact how
      have hn2 : New w w2 := (hnew.alloc _).grown' hgr (own_base hown)
      clear how hgr
      go_wp2
      exact ⟨⟨k + 1, by omega, by go_num, how2, hn2⟩, by simp [intOf]; omega⟩
    · obtain rfl : k = 240 := by omega
      obtain ⟨a', cap', rfl, hq⟩ := QRow.of_owns hown (by omega)
      have hev2 := turn_any a' 240 cap' (List.replicate 240 0#64) 77#64 wr hq
      rw [List.length_replicate, HEV.out, HVV.out, H77.out] at hev2
      have HE := Lib.hid hev2
      clear hev2
      go_wp2_with fail
      refine HE.out.mono ?_
      rintro e w3 ⟨rfl, hn3⟩
      have hfin := hnew.trans hn3
      have HB2 := fun w => checkt_any none 0 0 8 w (by omega)
      rw [HC2.out] at HB2
      have HB2 := Lib.hid HB2
      clear HE hnew hn3
      go_wp2_with fail
      refine (HB2.out _).mono ?_
      rintro e w' ⟨rfl, rfl⟩
      go_wp2
      go_ret
      exact ⟨rfl, hfin⟩
set_option maxHeartbeats 1000000 in
theorem TwistEvals_walk (W : World) (a0 : Option Addr) (n0 m0 : Nat) (z0 : List Int) (w0 : IRow .u64 W a0 n0 m0 z0) (r0 : m0 * 8 ≤ 140737488351232) (a1 : Int) (w1 : (Lit.int .i64 a1).wf = true) (a2 : Int) (w2 : (Lit.int .u64 a2).wf = true) :
    Calls Try.prog 9 #[.slice a0 n0 m0, .int .i64 a1, .int .u64 a2] W fun e w' => e = .returned (.bool true) ∧ Below W.heap.size W w' := by
  obtain ⟨l, hq⟩ := w0.words r0
  obtain ⟨x, rfl⟩ := wf64 w2
  have hm := hq.most
  clear w0 w1 w2 r0
  go_enter Try.func9, Try.ntmps9
  go_wp2_with fail
  refine (awake23 _).mono ?_
  rintro e w ⟨rfl, hg⟩
  go_wp2_with fail
  refine (evalt_any _ _ _ _ _ _ _ (hq.stay hg)).mono ?_
  rintro e w3 ⟨rfl, hg3⟩
  have hg3 := hg.trans hg3
  go_wp2_with fail
  refine (evalt_ref _ _ _ _ _ _ _ (hq.stay hg3)).mono ?_
  rintro e w4 ⟨rfl, hg4⟩
  have hg4 := hg3.trans hg4
  go_wp2_with fail
  refine (checkt_any _ _ _ _ _ hm).mono ?_
  rintro e w5 ⟨rfl, rfl⟩
  go_wp2_with fail
  refine (check_ref _ _ _ _ _ _ hm).mono ?_
  rintro e w6 ⟨rfl, rfl⟩
  go_wp2
  go_ret
  exact ⟨rfl, hg4⟩
theorem badE (n : Nat) (N : Int) (x : BitVec 64) : (chk 64 n N = 0 ∧ x.toNat < 4294967296 ∧ evE 64 n N x = 0) ∨ (chk 64 n N = 0 ∧ ¬ x.toNat < 4294967296 ∧ evE 64 n N x = 2) ∨ ((chk 64 n N == 0) = false ∧ (chk 64 n N != 0) = true ∧ evE 64 n N x = chk 64 n N) := by
  by_cases h1 : chk 64 n N = 0
  · by_cases h2 : x.toNat < 4294967296
    · exact Or.inl ⟨h1, h2, by unfold evE; rw [if_neg (by rw [h1]; simp), if_pos h2]⟩
    · exact Or.inr (Or.inl ⟨h1, h2, by unfold evE; rw [if_neg (by rw [h1]; simp), if_neg h2]⟩)
  · exact Or.inr (Or.inr ⟨by rw [beq_eq_false_iff_ne]; exact h1, by rw [bne_iff_ne]; exact h1, by unfold evE; rw [if_pos h1]⟩)
set_option maxHeartbeats 2000000 in
theorem TwistTurns_walk (W : World) (a0 : Option Addr) (n0 m0 : Nat) (z0 : List Int) (w0 : IRow .u64 W a0 n0 m0 z0) (r0 : m0 * 8 ≤ 140737488351232) (a1 : Int) (w1 : (Lit.int .u64 a1).wf = true) (a2 : Int) (w2 : (Lit.int .u64 a2).wf = true) :
    Calls Try.prog 8 #[.slice a0 n0 m0, .int .u64 a1, .int .u64 a2] W fun e w' => e = .returned (.bool true) ∧ Below W.heap.size W w' := by
  obtain ⟨l, hq⟩ := w0.words r0
  obtain ⟨x, rfl⟩ := wf64 w1
  obtain ⟨y, rfl⟩ := wf64 w2
  have hm := hq.most
  have hL := hq.len_eq
  clear w0 w1 w2 r0
  have hck : ∀ w, Calls Try.prog 27 #[.slice a0 n0 m0, .int .i64 64, .int .i64 240] w fun e w' => e = .returned (.int .i64 (chk 64 l.length 240)) ∧ w' = w := by
    rw [hL]; exact fun w => check_ref a0 n0 m0 64 240 w hm
  have HCK := Lib.hid hck
  clear hck
  rcases badE l.length 240 x with ⟨h1, h2, h3⟩ | ⟨h1, h2, h3⟩ | ⟨h1, h2, h3⟩
  · obtain ⟨_, _, b3⟩ := chk_good h1
    have hx : decide (4294967296 ≤ W64 x) = false := decide_eq_false (by unfold W64; omega)
    have hTV : tuV l x = turnV l x := by unfold tuV; rw [if_pos h3]
    have hu := fun w => unturn_any a0 n0 m0 l x w
    have ht := fun w => turn_any a0 n0 m0 l x w
    rw [hTV, h3] at hu ht
    have hr := fun w h => turn_ref a0 n0 m0 l x w h (by omega)
    have hry := fun w h => turn_ref a0 n0 m0 l y w h (by omega)
    have hrr := fun w h => turn_ref a0 n0 m0 l (turnV l x) w h (by omega)
    rw [turn_turn] at hrr
    have hinj := turn_inj l x y
    rw [h1] at HCK
    have HU := Lib.hid hu
    have HT := Lib.hid ht
    have HR := Lib.hid hr
    have HRY := Lib.hid hry
    have HRR := Lib.hid hrr
    clear hu ht hr hry hrr hTV h1 h2 h3 b3 hL
    generalize turnV l x = tx at *
    generalize turnV l y = ty at *
    have hy : decide (4294967296 ≤ W64 y) = false ∨ decide (4294967296 ≤ W64 y) = true := by cases decide (4294967296 ≤ W64 y) <;> simp
    go_enter Try.func8, Try.ntmps8
    go_wp2_with fail
    refine (awake23 _).mono ?_
    rintro e w ⟨rfl, hg⟩
    go_wp2_with fail
    refine (HT.out _ (hq.stay hg)).mono ?_
    rintro e w3 ⟨rfl, hg3⟩
    have hg3 := hg.trans hg3
    go_wp2_with fail
    refine (HU.out _ (hq.stay hg3)).mono ?_
    rintro e w4 ⟨rfl, hg4⟩
    have hg4 := hg3.trans hg4
    go_wp2_with fail
    refine (HCK.out _).mono ?_
    rintro e w5 ⟨rfl, rfl⟩
    go_wp2_with fail
    refine (HR.out _ (hq.stay hg4)).mono ?_
    rintro e w6 ⟨rfl, hg6⟩
    have hg6 := hg4.trans hg6
    go_wp2_with fail
    refine (HRR.out _ (hq.stay hg6)).mono ?_
    rintro e w7 ⟨rfl, hg7⟩
    have hg7 := hg6.trans hg7
    clear hg hg3 hg4 hg6
    rcases hy with hy | hy
    · go_wp2_with fail
      refine (HRY.out _ (hq.stay hg7)).mono ?_
      rintro e w8 ⟨rfl, hg8⟩
      have hg8 := hg7.trans hg8
      go_wp2
      go_ret
      exact ⟨rfl, hg8⟩
    · go_wp2
      go_ret
      exact ⟨rfl, hg7⟩
  · have hx : decide (4294967296 ≤ W64 x) = true := decide_eq_true (by unfold W64; omega)
    have hTV : W64 (tuV l x) = 0 := by unfold tuV; rw [if_neg (by rw [h3]; decide)]; exact W64_lit 0 (by omega)
    have hu := fun w => unturn_any a0 n0 m0 l x w
    have ht := fun w => turn_any a0 n0 m0 l x w
    rw [hTV, h3] at hu ht
    rw [h1] at HCK
    have HU := Lib.hid hu
    have HT := Lib.hid ht
    clear hu ht hTV h1 h2 h3
    go_enter Try.func8, Try.ntmps8
    go_wp2_with fail
    refine (awake23 _).mono ?_
    rintro e w ⟨rfl, hg⟩
    go_wp2_with fail
    refine (HT.out _ (hq.stay hg)).mono ?_
    rintro e w3 ⟨rfl, hg3⟩
    have hg3 := hg.trans hg3
    go_wp2_with fail
    refine (HU.out _ (hq.stay hg3)).mono ?_
    rintro e w4 ⟨rfl, hg4⟩
    have hg4 := hg3.trans hg4
    go_wp2_with fail
    refine (HCK.out _).mono ?_
    rintro e w5 ⟨rfl, rfl⟩
    go_wp2
    go_ret
    exact ⟨rfl, hg4⟩
  · have hTV : W64 (tuV l x) = 0 := by unfold tuV; rw [if_neg (by rw [h3]; rw [bne_iff_ne] at h2; exact h2)]; exact W64_lit 0 (by omega)
    have hu := fun w => unturn_any a0 n0 m0 l x w
    have ht := fun w => turn_any a0 n0 m0 l x w
    rw [hTV, h3] at hu ht
    have HU := Lib.hid hu
    have HT := Lib.hid ht
    clear hu ht hTV h3
    generalize chk 64 l.length 240 = q at *
    go_enter Try.func8, Try.ntmps8
    go_wp2_with fail
    refine (awake23 _).mono ?_
    rintro e w ⟨rfl, hg⟩
    go_wp2_with fail
    refine (HT.out _ (hq.stay hg)).mono ?_
    rintro e w3 ⟨rfl, hg3⟩
    have hg3 := hg.trans hg3
    go_wp2_with fail
    refine (HU.out _ (hq.stay hg3)).mono ?_
    rintro e w4 ⟨rfl, hg4⟩
    have hg4 := hg3.trans hg4
    go_wp2_with fail
    refine (HCK.out _).mono ?_
    rintro e w5 ⟨rfl, rfl⟩
    go_wp2
    go_ret
    exact ⟨rfl, hg4⟩
end Go.Proofs.Ytadkbpdbbgjkgaa
