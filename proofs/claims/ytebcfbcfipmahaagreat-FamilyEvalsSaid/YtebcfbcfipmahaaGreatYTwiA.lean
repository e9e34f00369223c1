import Derived.Test.YtebcfbcfipmahaaGreatYTabB
import Derived.Test.YtebcfbcfipmahaaGreatClass
import Derived.Deep.RegionWith
section
/- Contracts of twist.Check, Turn, Unturn, Eval and of the document's own Turn, Eval: for all words, all keys. -/
namespace Go.Bv
open Go Go.RowKit
theorem mod16 (x : BitVec 64) : x % 16#64 = x &&& 15#64 := by
  apply BitVec.eq_of_toNat_eq
  rw [BitVec.toNat_umod, BitVec.toNat_and]
  exact (Nat.and_two_pow_sub_one_eq_mod x.toNat 4).symm
theorem mod16_xor (x y : BitVec 64) : (x ^^^ y) % 16#64 = x % 16#64 ^^^ y % 16#64 := by
  rw [mod16, mod16, mod16]; ext i hi; simp; grind
theorem shl28 (x : BitVec 64) : x * 268435456#64 = x <<< 28 := by
  rw [← mul_shl]; rfl
end Go.Bv
namespace Go.Proofs.YtebcfbcfipmahaaGreat
open Go.RowKit Go.Bv
set_option linter.unusedVariables false
set_option maxRecDepth 100000
/-- what twists a key, by its first letters -/
def twx (l : List (BitVec 64)) (x : BitVec 64) : Nat → BitVec 64
  | 0 => 0#64
  | k + 1 => twx l x k ^^^ l.getD (128 + 16 * k + (lat x k).toNat) 0
def turnV (l : List (BitVec 64)) (x : BitVec 64) : BitVec 64 := x ^^^ (twx l x 7 % 16#64) <<< 28
set_option maxHeartbeats 1000000 in
theorem checkt_any (a : Option Addr) (n c : Nat) (bits : Int) (w : World) (hn : n ≤ 17592186044416) :
    Calls Tryz.prog 97 #[.slice a n c, .int .i64 bits] w fun e w' => e = .returned (.int .i64 (chk bits n 240)) ∧ w' = w := by
  by_cases h1 : bits < 1
  · have h : chk bits n 240 = 1 := by unfold chk; rw [if_pos (Or.inl h1)]
    have H := Lib.hid h
    clear h
    go_enter Tryz.func97, Tryz.ntmps97
    go_wp2
    go_ret
    rw [H.out]; exact ⟨rfl, rfl⟩
  · by_cases h2 : 64 < bits
    · have h : chk bits n 240 = 1 := by unfold chk; rw [if_pos (Or.inr h2)]
      have H := Lib.hid h
      clear h
      go_enter Tryz.func97, Tryz.ntmps97
      go_wp2
      go_ret
      rw [H.out]; exact ⟨rfl, rfl⟩
    · by_cases h3 : (n : Int) = 240
      · have h : chk bits n 240 = 0 := by unfold chk; rw [if_neg (by omega), if_neg (by omega)]
        have H := Lib.hid h
        have hb : ((n : Int) != 240) = false := by rw [bne_eq_false_iff_eq]; exact h3
        clear h h3
        go_enter Tryz.func97, Tryz.ntmps97
        go_wp2
        go_ret
        rw [H.out]; exact ⟨rfl, rfl⟩
      · have h : chk bits n 240 = 13 := by unfold chk; rw [if_neg (by omega), if_pos h3]
        have H := Lib.hid h
        have hb : ((n : Int) != 240) = true := by rw [bne_iff_ne]; exact h3
        clear h h3
        go_enter Tryz.func97, Tryz.ntmps97
        go_wp2
        go_ret
        rw [H.out]; exact ⟨rfl, rfl⟩
set_option maxHeartbeats 1000000 in
theorem partst_any (b off c : Nat) (hc : 240 ≤ c) (hcc : c ≤ 9223372036854775807) (w : World) :
    Calls Tryz.prog 99 #[.slice (some ⟨b, off, none⟩) 240 c] w fun e w' => e = .returned (.tuple #[.slice (some ⟨b, off, none⟩) 128 128, .slice (some ⟨b, off + 128, none⟩) 112 112]) ∧ New w w' := by
  go_enter Tryz.func99, Tryz.ntmps99
  go_wp2
  go_quiet (fail)
  go_wp2
  go_ret2
  exact ⟨rfl, (New.refl w).drewN nq⟩
set_option maxHeartbeats 1000000 in
theorem turning_any (b off c : Nat) (hc : 240 ≤ c) (hcc : c ≤ 9223372036854775807) (w : World) :
    Calls Tryz.prog 100 #[.slice (some ⟨b, off, none⟩) 240 c] w fun e w' => ∃ g, e = .returned (.func (.func 138) #[] #[.pointer (some ⟨g, 0, none⟩)]) ∧ w'.cell? ⟨g, 0, none⟩ = some (.slice (some ⟨b, off + 128, none⟩) 112 112) ∧ New w w' := by
  go_enter Tryz.func100, Tryz.ntmps100
  go_wp2_with fail
  refine (partst_any b off c hc hcc _).mono ?_
  rintro e w1 ⟨rfl, hn⟩
  go_wp2
  go_ret
  exact ⟨_, rfl, by rw [World.cell?_alloc_new]; rfl, hn.alloc _⟩
/-- the same, as the program has it -/
def twy (l : List (BitVec 64)) (x : BitVec 64) : Nat → BitVec 64
  | 0 => 0#64
  | k + 1 => twy l x k ^^^ l.getD (16 * k + (lat x k).toNat) 0 % 16#64
theorem getD_part (l : List (BitVec 64)) (i n j : Nat) (hj : j < n) : ((l.drop i).take n).getD j 0 = l.getD (i + j) 0 := by
  rw [List.getD_eq_getElem?_getD, List.getD_eq_getElem?_getD, List.getElem?_take, if_pos hj, List.getElem?_drop]
theorem twy_twx (l : List (BitVec 64)) (x : BitVec 64) : ∀ k, k ≤ 7 → twy ((l.drop 128).take 112) x k = twx l x k % 16#64
  | 0, _ => rfl
  | k + 1, h => by
    have hl := lat_lt x k
    show twy ((l.drop 128).take 112) x k ^^^ ((l.drop 128).take 112).getD (16 * k + (lat x k).toNat) 0 % 16#64 = (twx l x k ^^^ l.getD (128 + 16 * k + (lat x k).toNat) 0) % 16#64
    rw [twy_twx l x k (by omega), mod16_xor, getD_part _ _ _ _ (by omega), Nat.add_assoc]
set_option maxHeartbeats 1000000 in
theorem turning1_any (x : BitVec 64) (g b off : Nat) (l : List (BitVec 64)) (w : World) (hg : w.cell? ⟨g, 0, none⟩ = some (.slice (some ⟨b, off, none⟩) 112 112)) (hq : QRow w (some ⟨b, off, none⟩) 112 112 l) :
    Calls Tryz.prog 138 #[.int .u64 (W64 x), .pointer (some ⟨g, 0, none⟩)] w fun e w' => e = .returned (.int .u64 (W64 (x ^^^ (twy l x 7) <<< 28))) ∧ New w w' := by
  go_enter Tryz.func138, Tryz.ntmps138
  go_wp2_with fail
  refine (chars_any x 7 7 (by omega) (by decide) _).mono ?_
  rintro e w1 ⟨a1, c1, rfl, hrow, hn1⟩
  go_wp2
  go_loopw [4, 10] (fun s i wr => ∃ k : Nat, k ≤ 7 ∧ i = .int .i64 k ∧ s = .int .u64 (W64 (twy l x k)) ∧ New w wr ∧ New w1 wr) (fun _ i _ => 7 - (intOf i).toNat)
  case atStart => exact ⟨0, by omega, rfl, congrArg (Value.int .u64) (W64_lit 0 (by omega)).symm, hn1, New.refl w1⟩
  case round =>
    obtain ⟨k, hk, rfl, rfl, hn, hnr⟩ := hrel
    by_cases hlt : (k : Int) < 7
    · obtain ⟨b2, o2, rfl, hc2⟩ := (hrow.stay hnr).addr (by omega)
      have c2 := hc2 k (by omega)
      clear hc2
      rw [lets_at _ _ _ (by omega)] at c2
      have hl := lat_lt x k
      obtain ⟨c, hc⟩ : ∃ c : Nat, lat x k = (c : Int) := ⟨(lat x k).toNat, by omega⟩
      rw [hc] at c2
      have g1 : wr.cell? ⟨g, 0, none⟩ = some (.slice (some ⟨b, off, none⟩) 112 112) := by
        rw [hn.cell (a := ⟨g, 0, none⟩) (World.block_lt_of_cell? _ _ hg)]; exact hg
      have c1' := (hq.stay hn).cell b off rfl (16 * k + c) (by omega)
      have hw1 : wrap64 (16 * (k : Int)) = 16 * (k : Int) := by unfold wrap64; omega
      have hw2 : wrap64 (16 * (k : Int) + (c : Int)) = 16 * (k : Int) + (c : Int) := by unfold wrap64; omega
      have ht : (16 * (k : Int) + (c : Int)).toNat = 16 * k + c := by omega
      have hlen : 16 * (k : Int) + (c : Int) < 112 := by omega
      have hx : twy l x k ^^^ l.getD (16 * k + c) 0 % 16#64 = twy l x (k + 1) := by
        show _ = twy l x k ^^^ l.getD (16 * k + (lat x k).toNat) 0 % 16#64
        rw [hc]; rfl
      have HX := Lib.hid hx
      clear hx hc hl
      generalize l.getD (16 * k + c) 0 = y at c1' HX
      go_wp2
      exact ⟨⟨k + 1, by omega, by go_num, by rw [HX.out], hn, hnr⟩, by simp [intOf]; omega⟩
    · obtain rfl : k = 7 := by omega
      go_wp2
      go_ret
      exact ⟨rfl, hn⟩
def tuV (l : List (BitVec 64)) (x : BitVec 64) : BitVec 64 := if evE 64 l.length 240 x = 0 then turnV l x else 0#64
set_option maxHeartbeats 1000000 in
theorem turn_any (a : Option Addr) (n c : Nat) (l : List (BitVec 64)) (x : BitVec 64) (w : World) (ha : QRow w a n c l) :
    Calls Tryz.prog 98 #[.slice a n c, .int .u64 (W64 x)] w fun e w' => e = .returned (.tuple #[.int .u64 (W64 (tuV l x)), .int .i64 (evE 64 l.length 240 x)]) ∧ New w w' := by
  have hm := ha.most
  have hle := ha.le
  have hrm := ha.room
  have hck : ∀ w, Calls Tryz.prog 97 #[.slice a n c, .int .i64 64] w fun e w' => e = .returned (.int .i64 (chk 64 l.length 240)) ∧ w' = w := by
    rw [ha.len_eq]; exact fun w => checkt_any a n c 64 w hm
  have HCK := Lib.hid hck
  clear hck
  have hL := ha.len_eq
  by_cases h1 : chk 64 l.length 240 = 0
  · obtain ⟨b1, b2, b3⟩ := chk_good h1
    by_cases h2 : x.toNat < 4294967296
    · have hE : evE 64 l.length 240 x = 0 := by unfold evE; rw [if_neg (by rw [h1]; simp), if_pos h2]
      have hV : (x ^^^ (twy ((l.drop 128).take 112) x 7) <<< 28) = (tuV l x) := by unfold tuV; rw [if_pos hE, twy_twx l x 7 (by omega)]; rfl
      have HE := Lib.hid hE
      have HV := Lib.hid hV
      have hx : decide (4294967295 < W64 x) = false := decide_eq_false (by unfold W64; omega)
      rw [h1] at HCK
      obtain rfl : n = 240 := by omega
      obtain ⟨b, off, rfl, _⟩ := ha.addr (by omega)
      clear hE hV h1 h2 b3 b1 b2
      go_enter Tryz.func98, Tryz.ntmps98
      go_wp2_with fail
      refine (HCK.out _).mono ?_
      rintro e w' ⟨rfl, rfl⟩
      go_wp2_with fail
      refine (turning_any b off c hle hrm _).mono ?_
      rintro e w1 ⟨g, rfl, hcell, hn1⟩
      have hq1 := (ha.stay hn1).slice 128 112 112 (by omega) (by omega) (by omega)
      go_wp2_with fail
      refine (turning1_any x g b (off + 128) _ _ hcell hq1).mono ?_
      rintro e w2 ⟨rfl, hn2⟩
      go_wp2
      go_ret2
      rw [← HV.out, HE.out]
      exact ⟨rfl, hn1.trans hn2⟩
    · have hE : evE 64 l.length 240 x = 2 := by unfold evE; rw [if_neg (by rw [h1]; simp), if_neg h2]
      have hV : W64 (tuV l x) = 0 := by unfold tuV; rw [if_neg (by rw [hE]; decide)]; exact W64_lit 0 (by omega)
      have HE := Lib.hid hE
      have HV := Lib.hid hV
      have hx : decide (4294967295 < W64 x) = true := decide_eq_true (by unfold W64; omega)
      rw [h1] at HCK
      clear hE hV h1 h2 b3 b1 b2
      go_enter Tryz.func98, Tryz.ntmps98
      go_wp2_with fail
      refine (HCK.out _).mono ?_
      rintro e w' ⟨rfl, rfl⟩
      go_wp2
      go_ret2
      rw [HV.out, HE.out]
      exact ⟨rfl, New.refl _⟩
  · have hE : evE 64 l.length 240 x = chk 64 l.length 240 := by unfold evE; rw [if_pos h1]
    have hV : W64 (tuV l x) = 0 := by unfold tuV; rw [hE, if_neg h1]; exact W64_lit 0 (by omega)
    have HE := Lib.hid hE
    have HV := Lib.hid hV
    have hne : (chk 64 l.length 240 != 0) = true := by rw [bne_iff_ne]; exact h1
    clear hE hV h1
    generalize chk 64 l.length 240 = q at HCK hne HE
    go_enter Tryz.func98, Tryz.ntmps98
    go_wp2_with fail
    refine (HCK.out _).mono ?_
    rintro e w' ⟨rfl, rfl⟩
    go_wp2
    go_ret2
    rw [HV.out, HE.out]
    exact ⟨rfl, New.refl _⟩
set_option maxHeartbeats 1000000 in
theorem turn_ref (a : Option Addr) (n c : Nat) (l : List (BitVec 64)) (x : BitVec 64) (w : World) (ha : QRow w a n c l) (h240 : n = 240) :
    Calls Tryz.prog 65 #[.slice a n c, .int .u64 (W64 x)] w fun e w' => e = .returned (.int .u64 (W64 (turnV l x))) ∧ New w w' := by
  subst h240
  obtain ⟨b, off, rfl, _⟩ := ha.addr (by omega)
  go_enter Tryz.func65, Tryz.ntmps65
  go_wp2_with fail
  refine (letters_ref x 7 7 (by omega) (by decide) _).mono ?_
  rintro e w1 ⟨a1, c1, rfl, hrow, hn1⟩
  go_wp2
  go_loopw [5, 11] (fun s i wr => ∃ k : Nat, k ≤ 7 ∧ i = .int .i64 k ∧ s = .int .u64 (W64 (twx l x k)) ∧ New w wr ∧ New w1 wr) (fun _ i _ => 7 - (intOf i).toNat)
  case atStart => exact ⟨0, by omega, rfl, congrArg (Value.int .u64) (W64_lit 0 (by omega)).symm, hn1, New.refl w1⟩
  case round =>
    obtain ⟨k, hk, rfl, rfl, hn, hnr⟩ := hrel
    by_cases hlt : (k : Int) < 7
    · obtain ⟨b2, o2, rfl, hc2⟩ := (hrow.stay hnr).addr (by omega)
      have c2 := hc2 k (by omega)
      clear hc2
      rw [lets_at _ _ _ (by omega)] at c2
      have hl := lat_lt x k
      obtain ⟨c, hc⟩ : ∃ c : Nat, lat x k = (c : Int) := ⟨(lat x k).toNat, by omega⟩
      rw [hc] at c2
      have c1' := (ha.stay hn).cell b off rfl (128 + 16 * k + c) (by omega)
      have hw1 : wrap64 (16 * (k : Int)) = 16 * (k : Int) := by unfold wrap64; omega
      have hw2 : wrap64 (128 + 16 * (k : Int)) = 128 + 16 * (k : Int) := by unfold wrap64; omega
      have hw3 : wrap64 (128 + 16 * (k : Int) + (c : Int)) = 128 + 16 * (k : Int) + (c : Int) := by unfold wrap64; omega
      have ht : (128 + 16 * (k : Int) + (c : Int)).toNat = 128 + 16 * k + c := by omega
      have hlen : 128 + 16 * (k : Int) + (c : Int) < 240 := by omega
      have hx : twx l x k ^^^ l.getD (128 + 16 * k + c) 0 = twx l x (k + 1) := by
        show _ = twx l x k ^^^ l.getD (128 + 16 * k + (lat x k).toNat) 0
        rw [hc]; rfl
      have HX := Lib.hid hx
      clear hx hc hl
      generalize l.getD (128 + 16 * k + c) 0 = y at c1' HX
      go_wp2
      exact ⟨⟨k + 1, by omega, by go_num, by rw [HX.out], hn, hnr⟩, by simp [intOf]; omega⟩
    · obtain rfl : k = 7 := by omega
      go_wp2
      go_ret
      refine ⟨ret64 ?_, hn⟩
      unfold turnV
      first
        | rw [← shl28]
        | rfl
end Go.Proofs.YtebcfbcfipmahaaGreat
end
section
/- What is twisted twice is as it was; contracts of twist.Eval and of the document's own; the example of twist (awake); the walks of the statements TwistTurns and TwistEvals: for all words, all keys. -/
namespace Go.Bv
open Go Go.RowKit
theorem getLsb_mod16 (x : BitVec 64) (i j : Nat) (hj : j < 4) (hi : 4 * i + j < 64) : (x >>> (4 * i) % 16#64).getLsbD j = x.getLsbD (4 * i + j) := by
  rw [mod16, BitVec.getLsbD_and, BitVec.getLsbD_ushiftRight]
  have : (15#64).getLsbD j = true := by
    have hc : j = 0 ∨ j = 1 ∨ j = 2 ∨ j = 3 := by omega
    rcases hc with rfl | rfl | rfl | rfl <;> rfl
  rw [this, Bool.and_true]
theorem getLsb_mod16_hi (x : BitVec 64) (i j : Nat) (hj : 4 ≤ j) : (x >>> (4 * i) % 16#64).getLsbD j = false := by
  rw [← BitVec.testBit_toNat]
  apply Nat.testBit_lt_two_pow
  have : (x >>> (4 * i) % 16#64).toNat < 16 := by
    rw [BitVec.toNat_umod]; exact Nat.mod_lt _ (by decide)
  exact Nat.lt_of_lt_of_le this (Nat.le_trans (show 16 ≤ 2 ^ 4 by decide) (Nat.pow_le_pow_right (by omega) hj))
theorem low28 (x t : BitVec 64) (i : Nat) (hi : i < 7) : (x ^^^ t <<< 28) >>> (4 * i) % 16#64 = x >>> (4 * i) % 16#64 := by
  apply BitVec.eq_of_getLsbD_eq
  intro j hj
  by_cases h : j < 4
  · rw [getLsb_mod16 _ _ _ h (by omega), getLsb_mod16 _ _ _ h (by omega), BitVec.getLsbD_xor, BitVec.getLsbD_shiftLeft]
    have : decide (4 * i + j < 28) = true := decide_eq_true (by omega)
    rw [this]; simp
  · rw [getLsb_mod16_hi _ _ _ (by omega), getLsb_mod16_hi _ _ _ (by omega)]
end Go.Bv
namespace Go.Proofs.YtebcfbcfipmahaaGreat
open Go.RowKit Go.Bv
set_option linter.unusedVariables false
set_option maxRecDepth 100000
theorem twx_same (l : List (BitVec 64)) (x t : BitVec 64) : ∀ k, k ≤ 7 → twx l (x ^^^ t <<< 28) k = twx l x k
  | 0, _ => rfl
  | k + 1, h => by
    have e : lat (x ^^^ t <<< 28) k = lat x k := by unfold lat; rw [low28 _ _ _ (by omega)]
    show twx l (x ^^^ t <<< 28) k ^^^ _ = twx l x k ^^^ _
    rw [twx_same l x t k (by omega), e]
theorem turn_turn (l : List (BitVec 64)) (x : BitVec 64) : turnV l (turnV l x) = x := by
  unfold turnV
  rw [twx_same l x _ 7 (by omega)]
  generalize (twx l x 7 % 16#64) <<< 28 = u
  grind
theorem turn_inj (l : List (BitVec 64)) (x y : BitVec 64) : (turnV l y == turnV l x) = (x == y) := by
  rw [Bool.eq_iff_iff, beq_iff_eq, beq_iff_eq]
  constructor
  · intro h
    have := congrArg (turnV l) h
    rw [turn_turn, turn_turn] at this
    exact this.symm
  · intro h; rw [h]
theorem turn_small (l : List (BitVec 64)) (x : BitVec 64) (h : x.toNat < 4294967296) : (turnV l x).toNat < 4294967296 := by
  unfold turnV
  rw [BitVec.toNat_xor]
  have ht : (twx l x 7 % 16#64).toNat < 16 := by rw [BitVec.toNat_umod]; exact Nat.mod_lt _ (by decide)
  have h2 : ((twx l x 7 % 16#64) <<< 28).toNat < 4294967296 := by
    rw [BitVec.toNat_shiftLeft, Nat.shiftLeft_eq, Nat.mod_eq_of_lt (by omega)]
    omega
  exact Nat.xor_lt_two_pow (n := 32) h h2
theorem evE_good {bits : Int} {n : Nat} {N : Int} {x : BitVec 64} (h : evE bits n N x = 0) : chk bits n N = 0 ∧ x.toNat < 4294967296 := by
  unfold evE at h
  by_cases h1 : chk bits n N = 0
  · rw [if_neg (by rw [h1]; simp)] at h
    by_cases h2 : x.toNat < 4294967296
    · exact ⟨h1, h2⟩
    · rw [if_neg h2] at h; cases h
  · rw [if_pos h1] at h; exact absurd h h1
/-- what a seed brings a key to -/
def teV (l : List (BitVec 64)) (bits : Int) (x : BitVec 64) : BitVec 64 := if evE bits l.length 240 x = 0 then evV (l.take 128) bits 128 (turnV l x) else 0#64
theorem evE_sub {l : List (BitVec 64)} {bits : Int} {x : BitVec 64} (h : evE bits l.length 240 x = 0) : evE bits (l.take 128).length 128 (turnV l x) = 0 := by
  obtain ⟨h1, h2⟩ := evE_good h
  obtain ⟨b1, b2, b3⟩ := chk_good h1
  have hl : (l.take 128).length = 128 := by rw [List.length_take]; omega
  have hc : chk bits (l.take 128).length 128 = 0 := by unfold chk; rw [if_neg (by omega), hl, if_neg (by simp)]
  unfold evE
  rw [if_neg (by rw [hc]; simp), if_pos (turn_small l x h2)]
theorem tuE {bits : Int} {n : Nat} {N : Int} {x : BitVec 64} (h : evE bits n N x = 0) : evE 64 n N x = 0 := by
  obtain ⟨h1, h2⟩ := evE_good h
  obtain ⟨b1, b2, b3⟩ := chk_good h1
  have hc : chk 64 n N = 0 := by unfold chk; rw [if_neg (by omega), if_neg (by omega)]
  unfold evE
  rw [if_neg (by rw [hc]; simp), if_pos h2]
theorem tuE2 {bits : Int} {n : Nat} {N : Int} {x : BitVec 64} (h : chk bits n N = 0) (h2 : ¬ x.toNat < 4294967296) : evE 64 n N x = 2 := by
  obtain ⟨b1, b2, b3⟩ := chk_good h
  have hc : chk 64 n N = 0 := by unfold chk; rw [if_neg (by omega), if_neg (by omega)]
  unfold evE
  rw [if_neg (by rw [hc]; simp), if_neg h2]
set_option maxHeartbeats 1000000 in
theorem evalt_any (a : Option Addr) (n c : Nat) (l : List (BitVec 64)) (bits : Int) (x : BitVec 64) (w : World) (ha : QRow w a n c l) :
    Calls Tryz.prog 50 #[.slice a n c, .int .i64 bits, .int .u64 (W64 x)] w fun e w' => e = .returned (.tuple #[.int .u64 (W64 (teV l bits x)), .int .i64 (evE bits l.length 240 x)]) ∧ New w w' := by
  have hm := ha.most
  have hle := ha.le
  have hrm := ha.room
  have hck : ∀ w, Calls Tryz.prog 97 #[.slice a n c, .int .i64 bits] w fun e w' => e = .returned (.int .i64 (chk bits l.length 240)) ∧ w' = w := by
    rw [ha.len_eq]; exact fun w => checkt_any a n c bits w hm
  have HCK := Lib.hid hck
  clear hck
  have hL := ha.len_eq
  by_cases h1 : chk bits l.length 240 = 0
  · obtain ⟨b1, b2, b3⟩ := chk_good h1
    by_cases h2 : x.toNat < 4294967296
    · have hE : evE bits l.length 240 x = 0 := by unfold evE; rw [if_neg (by rw [h1]; simp), if_pos h2]
      have hV : teV l bits x = evV (l.take 128) bits 128 (turnV l x) := by unfold teV; rw [if_pos hE]
      have hE2 := evE_sub hE
      have hT : evE 64 l.length 240 x = 0 := tuE hE
      have hTV : tuV l x = turnV l x := by unfold tuV; rw [if_pos hT]
      have HE := Lib.hid hE
      have HV := Lib.hid hV
      have HE2 := Lib.hid hE2
      have HT := Lib.hid hT
      have HTV := Lib.hid hTV
      rw [h1] at HCK
      obtain rfl : n = 240 := by omega
      obtain ⟨b, off, rfl, _⟩ := ha.addr (by omega)
      clear hE hV h1 h2 b3 b1 b2 hE2 hT hTV
      go_enter Tryz.func50, Tryz.ntmps50
      go_wp2_with fail
      refine (HCK.out _).mono ?_
      rintro e w' ⟨rfl, rfl⟩
      go_wp2_with fail
      refine (turn_any _ _ _ _ _ _ ha).mono ?_
      rintro e w1 ⟨rfl, hn1⟩
      rw [HT.out, HTV.out]
      go_wp2_with fail
      refine (partst_any b off c hle hrm _).mono ?_
      rintro e w2 ⟨rfl, hn2⟩
      have hn12 := hn1.trans hn2
      have hq1 := (ha.stay hn12).slice 0 128 128 (by omega) (by omega) (by omega)
      rw [List.drop_zero] at hq1
      have hq2 : QRow w2 (some ⟨b, off, none⟩) 128 128 (l.take 128) := hq1
      clear hq1
      go_wp2_with fail
      refine (eval_any _ _ _ _ bits (turnV l x) _ hq2).mono ?_
      rintro e w3 ⟨rfl, hn3⟩
      rw [HE2.out]
      go_wp2
      go_ret2
      rw [HV.out, HE.out]
      exact ⟨rfl, hn12.trans hn3⟩
    · have hE : evE bits l.length 240 x = 2 := by unfold evE; rw [if_neg (by rw [h1]; simp), if_neg h2]
      have hV : W64 (teV l bits x) = 0 := by unfold teV; rw [if_neg (by rw [hE]; decide)]; exact W64_lit 0 (by omega)
      have hT : evE 64 l.length 240 x = 2 := tuE2 h1 h2
      have HE := Lib.hid hE
      have HV := Lib.hid hV
      have HT := Lib.hid hT
      rw [h1] at HCK
      clear hE hV h1 h2 b3 b1 b2 hT
      go_enter Tryz.func50, Tryz.ntmps50
      go_wp2_with fail
      refine (HCK.out _).mono ?_
      rintro e w' ⟨rfl, rfl⟩
      go_wp2_with fail
      refine (turn_any _ _ _ _ _ _ ha).mono ?_
      rintro e w1 ⟨rfl, hn1⟩
      rw [HT.out]
      go_wp2
      go_ret2
      rw [HV.out, HE.out]
      exact ⟨rfl, hn1⟩
  · have hE : evE bits l.length 240 x = chk bits l.length 240 := by unfold evE; rw [if_pos h1]
    have hV : W64 (teV l bits x) = 0 := by unfold teV; rw [hE, if_neg h1]; exact W64_lit 0 (by omega)
    have HE := Lib.hid hE
    have HV := Lib.hid hV
    have hne : (chk bits l.length 240 != 0) = true := by rw [bne_iff_ne]; exact h1
    clear hE hV h1
    generalize chk bits l.length 240 = q at HCK hne HE
    go_enter Tryz.func50, Tryz.ntmps50
    go_wp2_with fail
    refine (HCK.out _).mono ?_
    rintro e w' ⟨rfl, rfl⟩
    go_wp2
    go_ret2
    rw [HV.out, HE.out]
    exact ⟨rfl, New.refl _⟩
set_option maxHeartbeats 2000000 in
theorem evalt_ref (a : Option Addr) (n c : Nat) (l : List (BitVec 64)) (bits : Int) (x : BitVec 64) (w : World) (ha : QRow w a n c l) :
    Calls Tryz.prog 35 #[.slice a n c, .int .i64 bits, .int .u64 (W64 x)] w fun e w' => e = .returned (.tuple #[.int .u64 (W64 (teV l bits x)), .int .i64 (evE bits l.length 240 x)]) ∧ New w w' := by
  have hm := ha.most
  have hle := ha.le
  have hrm := ha.room
  have hck : ∀ w, Calls Tryz.prog 61 #[.slice a n c, .int .i64 bits, .int .i64 240] w fun e w' => e = .returned (.int .i64 (chk bits l.length 240)) ∧ w' = w := by
    rw [ha.len_eq]; exact fun w => check_ref a n c bits 240 w hm
  have HCK := Lib.hid hck
  clear hck
  have hL := ha.len_eq
  by_cases h1 : chk bits l.length 240 = 0
  · obtain ⟨b1, b2, b3⟩ := chk_good h1
    by_cases h2 : x.toNat < 4294967296
    · have hE : evE bits l.length 240 x = 0 := by unfold evE; rw [if_neg (by rw [h1]; simp), if_pos h2]
      have hV : teV l bits x = evV (l.take 128) bits 128 (turnV l x) := by unfold teV; rw [if_pos hE]
      have hE2 := evE_sub hE
      have HE := Lib.hid hE
      have HV := Lib.hid hV
      have HE2 := Lib.hid hE2
      have hx : decide (4294967296 ≤ W64 x) = false := decide_eq_false (by unfold W64; omega)
      rw [h1] at HCK
      obtain rfl : n = 240 := by omega
      obtain ⟨b, off, rfl, _⟩ := ha.addr (by omega)
      clear hE hV h1 h2 b3 b1 b2 hE2
      have hq0 : QRow w (some ⟨b, off, none⟩) 128 c (l.take 128) := by
        have h := ha.slice 0 128 c (by omega) (by omega) (by omega)
        rw [List.drop_zero] at h
        exact h
      have htr := fun w (h : QRow w (some ⟨b, off, none⟩) 240 c l) => turn_ref _ _ _ _ x w h rfl
      have hev : ∀ w, QRow w (some ⟨b, off, none⟩) 128 c (l.take 128) → Calls Tryz.prog 34 #[.slice (some ⟨b, off, none⟩) 128 c, .int .i64 bits, .int .u64 (W64 (turnV l x))] w fun e w' => e = .returned (.tuple #[.int .u64 (W64 (teV l bits x)), .int .i64 0]) ∧ New w w' := by
        intro w h
        have h3 := eval_ref _ _ _ _ bits (turnV l x) w h
        rw [HE2.out, ← HV.out] at h3
        exact h3
      have HTR := Lib.hid htr
      have HEV := Lib.hid hev
      clear htr hev HV
      generalize turnV l x = tx at HTR HEV
      generalize teV l bits x = vx at HEV ⊢
      go_enter Tryz.func35, Tryz.ntmps35
      go_wp2_with fail
      refine (HCK.out _).mono ?_
      rintro e w' ⟨rfl, rfl⟩
      go_wp2_with fail
      refine wp_region_class (fun wr => (QRow wr (some ⟨b, off, none⟩) 240 c l ∧ QRow wr (some ⟨b, off, none⟩) 128 c (l.take 128)) ∧ New w' wr) (by kernel_rfl) (by kernel_rfl) ⟨⟨ha.stay (New.refl _).drew, hq0.stay (New.refl _).drew⟩, (New.refl w').drew⟩ ?_
      intro I _ f hall hback
      have HSTEP : Hid (∀ n w', New (f n) w' → ∃ m, w' = f m) := Lib.hid fun n w' hn => hback w' ⟨⟨(hall n).1.1.stay hn, (hall n).1.2.stay hn⟩, (hall n).2.trans hn⟩
      have HALL := Lib.hid hall
      clear hall hback
      repeat (go_big_quiet_step (first
        | (go_at_call_of 65 (Value.int IntKind.u64 (W64 x)); refine class_new HSTEP.out (HTR.out _ (HALL.out _).1.1))
        | (go_at_call_of 34 (Value.int IntKind.u64 (W64 tx)); refine class_new HSTEP.out (HEV.out _ (HALL.out _).1.2))))
      refine wpQuiet_nil ?_
      rintro w4 ⟨n1, hw1⟩
      have hS := (HALL.out n1).2
      rw [← hw1] at hS
      clear HALL HSTEP hw1
      go_wp2
      go_ret2
      rw [HE.out]
      exact ⟨rfl, hS⟩
    · have hE : evE bits l.length 240 x = 2 := by unfold evE; rw [if_neg (by rw [h1]; simp), if_neg h2]
      have hV : W64 (teV l bits x) = 0 := by unfold teV; rw [if_neg (by rw [hE]; decide)]; exact W64_lit 0 (by omega)
      have HE := Lib.hid hE
      have HV := Lib.hid hV
      have hx : decide (4294967296 ≤ W64 x) = true := decide_eq_true (by unfold W64; omega)
      rw [h1] at HCK
      clear hE hV h1 h2 b3 b1 b2
      go_enter Tryz.func35, Tryz.ntmps35
      go_wp2_with fail
      refine (HCK.out _).mono ?_
      rintro e w' ⟨rfl, rfl⟩
      go_wp2
      go_ret2
      rw [HV.out, HE.out]
      exact ⟨rfl, New.refl _⟩
  · have hE : evE bits l.length 240 x = chk bits l.length 240 := by unfold evE; rw [if_pos h1]
    have hV : W64 (teV l bits x) = 0 := by unfold teV; rw [hE, if_neg h1]; exact W64_lit 0 (by omega)
    have HE := Lib.hid hE
    have HV := Lib.hid hV
    have hne : (chk bits l.length 240 != 0) = true := by rw [bne_iff_ne]; exact h1
    clear hE hV h1
    generalize chk bits l.length 240 = q at HCK hne HE
    go_enter Tryz.func35, Tryz.ntmps35
    go_wp2_with fail
    refine (HCK.out _).mono ?_
    rintro e w' ⟨rfl, rfl⟩
    go_wp2
    go_ret2
    rw [HV.out, HE.out]
    exact ⟨rfl, New.refl _⟩
theorem badE (n : Nat) (N : Int) (x : BitVec 64) : (chk 64 n N = 0 ∧ x.toNat < 4294967296 ∧ evE 64 n N x = 0) ∨ (chk 64 n N = 0 ∧ ¬ x.toNat < 4294967296 ∧ evE 64 n N x = 2) ∨ ((chk 64 n N == 0) = false ∧ (chk 64 n N != 0) = true ∧ evE 64 n N x = chk 64 n N) := by
  by_cases h1 : chk 64 n N = 0
  · by_cases h2 : x.toNat < 4294967296
    · exact Or.inl ⟨h1, h2, by unfold evE; rw [if_neg (by rw [h1]; simp), if_pos h2]⟩
    · exact Or.inr (Or.inl ⟨h1, h2, by unfold evE; rw [if_neg (by rw [h1]; simp), if_neg h2]⟩)
  · exact Or.inr (Or.inr ⟨by rw [beq_eq_false_iff_ne]; exact h1, by rw [bne_iff_ne]; exact h1, by unfold evE; rw [if_pos h1]⟩)
end Go.Proofs.YtebcfbcfipmahaaGreat
end
