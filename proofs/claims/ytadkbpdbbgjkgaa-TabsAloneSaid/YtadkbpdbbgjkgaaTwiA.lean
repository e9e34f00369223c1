/- Contracts of twist.Check, Turn, Unturn, Eval and of the document's own Turn, Eval: for all words, all keys. -/
import Derived.Test.YtadkbpdbbgjkgaaTabL
namespace Go.Bv
open Go Go.RowKit
theorem mod16 (x : BitVec 64) : x % 16#64 = x &&& 15#64 := by
  apply BitVec.eq_of_toNat_eq
  rw [BitVec.toNat_umod, BitVec.toNat_and]
  exact (Nat.and_two_pow_sub_one_eq_mod x.toNat 4).symm
theorem mod16_xor (x y : BitVec 64) : (x ^^^ y) % 16#64 = x % 16#64 ^^^ y % 16#64 := by
  rw [mod16, mod16, mod16]; ext i hi; simp; grind
theorem shl28 (x : BitVec 64) : x * 268435456#64 = x <<< 28 := by
  rw [← mul_shl]; rfl
end Go.Bv
namespace Go.Proofs.Ytadkbpdbbgjkgaa
open Go.RowKit Go.Bv
set_option linter.unusedVariables false
/-- what twists a key, by its first letters -/
def twx (l : List (BitVec 64)) (x : BitVec 64) : Nat → BitVec 64
  | 0 => 0#64
  | k + 1 => twx l x k ^^^ l.getD (128 + 16 * k + (lat x k).toNat) 0
def turnV (l : List (BitVec 64)) (x : BitVec 64) : BitVec 64 := x ^^^ (twx l x 7 % 16#64) <<< 28
set_option maxHeartbeats 1000000 in
theorem checkt_any (a : Option Addr) (n c : Nat) (bits : Int) (w : World) (hn : n ≤ 17592186044416) :
    Calls Try.prog 36 #[.slice a n c, .int .i64 bits] w fun e w' => e = .returned (.int .i64 (chk bits n 240)) ∧ w' = w := by
  by_cases h1 : bits < 1
  · have h : chk bits n 240 = 1 := by unfold chk; rw [if_pos (Or.inl h1)]
    have H := Lib.hid h
    clear h
    go_enter Try.func36, Try.ntmps36
    go_wp2
    go_ret
    rw [H.out]; exact ⟨rfl, rfl⟩
  · by_cases h2 : 64 < bits
    · have h : chk bits n 240 = 1 := by unfold chk; rw [if_pos (Or.inr h2)]
      have H := Lib.hid h
      clear h
      go_enter Try.func36, Try.ntmps36
      go_wp2
      go_ret
      rw [H.out]; exact ⟨rfl, rfl⟩
    · by_cases h3 : (n : Int) = 240
      · have h : chk bits n 240 = 0 := by unfold chk; rw [if_neg (by omega), if_neg (by omega)]
        have H := Lib.hid h
        have hb : ((n : Int) != 240) = false := by rw [bne_eq_false_iff_eq]; exact h3
        clear h h3
        go_enter Try.func36, Try.ntmps36
        go_wp2
        go_ret
        rw [H.out]; exact ⟨rfl, rfl⟩
      · have h : chk bits n 240 = 13 := by unfold chk; rw [if_neg (by omega), if_pos h3]
        have H := Lib.hid h
        have hb : ((n : Int) != 240) = true := by rw [bne_iff_ne]; exact h3
        clear h h3
        go_enter Try.func36, Try.ntmps36
        go_wp2
        go_ret
        rw [H.out]; exact ⟨rfl, rfl⟩
set_option maxHeartbeats 1000000 in
theorem partst_any (b off c : Nat) (hc : 240 ≤ c) (hcc : c ≤ 9223372036854775807) (w : World) :
    Calls Try.prog 54 #[.slice (some ⟨b, off, none⟩) 240 c] w fun e w' => e = .returned (.tuple #[.slice (some ⟨b, off, none⟩) 128 128, .slice (some ⟨b, off + 128, none⟩) 112 112]) ∧ New w w' := by
  go_enter Try.func54, Try.ntmps54
  go_wp2
  go_quiet (fail)
  go_wp2
  go_ret2
  exact ⟨rfl, (New.refl w).drewN nq⟩
set_option maxHeartbeats 1000000 in
theorem turning_any (b off c : Nat) (hc : 240 ≤ c) (hcc : c ≤ 9223372036854775807) (w : World) :
    Calls Try.prog 53 #[.slice (some ⟨b, off, none⟩) 240 c] w fun e w' => ∃ g, e = .returned (.func (.func 59) #[] #[.pointer (some ⟨g, 0, none⟩)]) ∧ w'.cell? ⟨g, 0, none⟩ = some (.slice (some ⟨b, off + 128, none⟩) 112 112) ∧ New w w' := by
  go_enter Try.func53, Try.ntmps53
  go_wp2_with fail
  refine (partst_any b off c hc hcc _).mono ?_
  rintro e w1 ⟨rfl, hn⟩
  go_wp2
  go_ret
  exact ⟨_, rfl, by rw [World.cell?_alloc_new]; rfl, hn.alloc _⟩
/-- the same, as the program has it -/
def twy (l : List (BitVec 64)) (x : BitVec 64) : Nat → BitVec 64
  | 0 => 0#64
  | k + 1 => twy l x k ^^^ l.getD (16 * k + (lat x k).toNat) 0 % 16#64
theorem getD_part (l : List (BitVec 64)) (i n j : Nat) (hj : j < n) : ((l.drop i).take n).getD j 0 = l.getD (i + j) 0 := by
  rw [List.getD_eq_getElem?_getD, List.getD_eq_getElem?_getD, List.getElem?_take, if_pos hj, List.getElem?_drop]
theorem twy_twx (l : List (BitVec 64)) (x : BitVec 64) : ∀ k, k ≤ 7 → twy ((l.drop 128).take 112) x k = twx l x k % 16#64
  | 0, _ => rfl
  | k + 1, h => by
    have hl := lat_lt x k
    show twy ((l.drop 128).take 112) x k ^^^ ((l.drop 128).take 112).getD (16 * k + (lat x k).toNat) 0 % 16#64 = (twx l x k ^^^ l.getD (128 + 16 * k + (lat x k).toNat) 0) % 16#64
    rw [twy_twx l x k (by omega), mod16_xor, getD_part _ _ _ _ (by omega), Nat.add_assoc]
set_option maxHeartbeats 1000000 in
theorem turning1_any (x : BitVec 64) (g b off : Nat) (l : List (BitVec 64)) (w : World) (hg : w.cell? ⟨g, 0, none⟩ = some (.slice (some ⟨b, off, none⟩) 112 112)) (hq : QRow w (some ⟨b, off, none⟩) 112 112 l) :
    Calls Try.prog 59 #[.int .u64 (W64 x), .pointer (some ⟨g, 0, none⟩)] w fun e w' => e = .returned (.int .u64 (W64 (x ^^^ (twy l x 7) <<< 28))) ∧ New w w' := by
  go_enter Try.func59, Try.ntmps59
  go_wp2_with fail
  refine (chars_any x 7 7 (by omega) (by decide) _).mono ?_
  rintro e w1 ⟨a1, c1, rfl, hrow, hn1⟩
  go_wp2
  go_loopw [4, 10] (fun s i wr => ∃ k : Nat, k ≤ 7 ∧ i = .int .i64 k ∧ s = .int .u64 (W64 (twy l x k)) ∧ New w wr ∧ New w1 wr) (fun _ i _ => 7 - (intOf i).toNat)
  case atStart => exact ⟨0, by omega, rfl, congrArg (Value.int .u64) (W64_lit 0 (by omega)).symm, hn1, New.refl w1⟩
  case round =>
    obtain ⟨k, hk, rfl, rfl, hn, hnr⟩ := hrel
    by_cases hlt : (k : Int) < 7
    · obtain ⟨b2, o2, rfl, hc2⟩ := (hrow.stay hnr).addr (by omega)
      have c2 := hc2 k (by omega)
      clear hc2
      rw [lets_at _ _ _ (by omega)] at c2
      have hl := lat_lt x k
      obtain ⟨c, hc⟩ : ∃ c : Nat, lat x k = (c : Int) := ⟨(lat x k).toNat, by omega⟩
      rw [hc] at c2
      have g1 : wr.cell? ⟨g, 0, none⟩ = some (.slice (some ⟨b, off, none⟩) 112 112) := by
        rw [hn.cell (a := ⟨g, 0, none⟩) (World.block_lt_of_cell? _ _ hg)]; exact hg
      have c1' := (hq.stay hn).cell b off rfl (16 * k + c) (by omega)
      have hw1 : wrap64 (16 * (k : Int)) = 16 * (k : Int) := by unfold wrap64; omega
      have hw2 : wrap64 (16 * (k : Int) + (c : Int)) = 16 * (k : Int) + (c : Int) := by unfold wrap64; omega
      have ht : (16 * (k : Int) + (c : Int)).toNat = 16 * k + c := by omega
      have hlen : 16 * (k : Int) + (c : Int) < 112 := by omega
      have hx : twy l x k ^^^ l.getD (16 * k + c) 0 % 16#64 = twy l x (k + 1) := by
        show _ = twy l x k ^^^ l.getD (16 * k + (lat x k).toNat) 0 % 16#64
        rw [hc]; rfl
      have HX := Lib.hid hx
      clear hx hc hl
      generalize l.getD (16 * k + c) 0 = y at c1' HX
      go_wp2
      exact ⟨⟨k + 1, by omega, by go_num, by rw [HX.out], hn, hnr⟩, by simp [intOf]; omega⟩
    · obtain rfl : k = 7 := by omega
      go_wp2
      go_ret
      exact ⟨rfl, hn⟩
def tuV (l : List (BitVec 64)) (x : BitVec 64) : BitVec 64 := if evE 64 l.length 240 x = 0 then turnV l x else 0#64
set_option maxHeartbeats 1000000 in
theorem turn_any (a : Option Addr) (n c : Nat) (l : List (BitVec 64)) (x : BitVec 64) (w : World) (ha : QRow w a n c l) :
    Calls Try.prog 31 #[.slice a n c, .int .u64 (W64 x)] w fun e w' => e = .returned (.tuple #[.int .u64 (W64 (tuV l x)), .int .i64 (evE 64 l.length 240 x)]) ∧ New w w' := by
  have hm := ha.most
  have hle := ha.le
  have hrm := ha.room
  have hck : ∀ w, Calls Try.prog 36 #[.slice a n c, .int .i64 64] w fun e w' => e = .returned (.int .i64 (chk 64 l.length 240)) ∧ w' = w := by
    rw [ha.len_eq]; exact fun w => checkt_any a n c 64 w hm
  have HCK := Lib.hid hck
  clear hck
  have hL := ha.len_eq
  by_cases h1 : chk 64 l.length 240 = 0
  · obtain ⟨b1, b2, b3⟩ := chk_good h1
    by_cases h2 : x.toNat < 4294967296
    · have hE : evE 64 l.length 240 x = 0 := by unfold evE; rw [if_neg (by rw [h1]; simp), if_pos h2]
      have hV : (x ^^^ (twy ((l.drop 128).take 112) x 7) <<< 28) = (tuV l x) := by unfold tuV; rw [if_pos hE, twy_twx l x 7 (by omega)]; rfl
      have HE := Lib.hid hE
      have HV := Lib.hid hV
      have hx : decide (4294967295 < W64 x) = false := decide_eq_false (by unfold W64; omega)
      rw [h1] at HCK
      obtain rfl : n = 240 := by omega
      obtain ⟨b, off, rfl, _⟩ := ha.addr (by omega)
      clear hE hV h1 h2 b3 b1 b2
      go_enter Try.func31, Try.ntmps31
      go_wp2_with fail
      refine (HCK.out _).mono ?_
      rintro e w' ⟨rfl, rfl⟩
      go_wp2_with fail
      refine (turning_any b off c hle hrm _).mono ?_
      rintro e w1 ⟨g, rfl, hcell, hn1⟩
      have hq1 := (ha.stay hn1).slice 128 112 112 (by omega) (by omega) (by omega)
      go_wp2_with fail
      refine (turning1_any x g b (off + 128) _ _ hcell hq1).mono ?_
      rintro e w2 ⟨rfl, hn2⟩
      go_wp2
      go_ret2
      rw [← HV.out, HE.out]
      exact ⟨rfl, hn1.trans hn2⟩
    · have hE : evE 64 l.length 240 x = 2 := by unfold evE; rw [if_neg (by rw [h1]; simp), if_neg h2]
      have hV : W64 (tuV l x) = 0 := by unfold tuV; rw [if_neg (by rw [hE]; decide)]; exact W64_lit 0 (by omega)
      have HE := Lib.hid hE
      have HV := Lib.hid hV
      have hx : decide (4294967295 < W64 x) = true := decide_eq_true (by unfold W64; omega)
      rw [h1] at HCK
      clear hE hV h1 h2 b3 b1 b2
      go_enter Try.func31, Try.ntmps31
      go_wp2_with fail
      refine (HCK.out _).mono ?_
      rintro e w' ⟨rfl, rfl⟩
      go_wp2
      go_ret2
      rw [HV.out, HE.out]
      exact ⟨rfl, New.refl _⟩
  · have hE : evE 64 l.length 240 x = chk 64 l.length 240 := by unfold evE; rw [if_pos h1]
    have hV : W64 (tuV l x) = 0 := by unfold tuV; rw [hE, if_neg h1]; exact W64_lit 0 (by omega)
    have HE := Lib.hid hE
    have HV := Lib.hid hV
    have hne : (chk 64 l.length 240 != 0) = true := by rw [bne_iff_ne]; exact h1
    clear hE hV h1
    generalize chk 64 l.length 240 = q at HCK hne HE
    go_enter Try.func31, Try.ntmps31
    go_wp2_with fail
    refine (HCK.out _).mono ?_
    rintro e w' ⟨rfl, rfl⟩
    go_wp2
    go_ret2
    rw [HV.out, HE.out]
    exact ⟨rfl, New.refl _⟩
set_option maxHeartbeats 1000000 in
theorem unturn_any (a : Option Addr) (n c : Nat) (l : List (BitVec 64)) (x : BitVec 64) (w : World) (ha : QRow w a n c l) :
    Calls Try.prog 32 #[.slice a n c, .int .u64 (W64 x)] w fun e w' => e = .returned (.tuple #[.int .u64 (W64 (tuV l x)), .int .i64 (evE 64 l.length 240 x)]) ∧ New w w' := by
  go_enter Try.func32, Try.ntmps32
  go_wp2_with fail
  refine (turn_any _ _ _ _ _ _ ha).mono ?_
  rintro e w1 ⟨rfl, hn⟩
  go_wp2
  go_ret2
  exact ⟨rfl, hn⟩
set_option maxHeartbeats 1000000 in
theorem turn_ref (a : Option Addr) (n c : Nat) (l : List (BitVec 64)) (x : BitVec 64) (w : World) (ha : QRow w a n c l) (h240 : n = 240) :
    Calls Try.prog 33 #[.slice a n c, .int .u64 (W64 x)] w fun e w' => e = .returned (.int .u64 (W64 (turnV l x))) ∧ New w w' := by
  subst h240
  obtain ⟨b, off, rfl, _⟩ := ha.addr (by omega)
  go_enter Try.func33, Try.ntmps33
  go_wp2_with fail
  refine (letters_ref x 7 7 (by omega) (by decide) _).mono ?_
  rintro e w1 ⟨a1, c1, rfl, hrow, hn1⟩
  go_wp2
  go_loopw [5, 11] (fun s i wr => ∃ k : Nat, k ≤ 7 ∧ i = .int .i64 k ∧ s = .int .u64 (W64 (twx l x k)) ∧ New w wr ∧ New w1 wr) (fun _ i _ => 7 - (intOf i).toNat)
  case atStart => exact ⟨0, by omega, rfl, congrArg (Value.int .u64) (W64_lit 0 (by omega)).symm, hn1, New.refl w1⟩
  case round =>
    obtain ⟨k, hk, rfl, rfl, hn, hnr⟩ := hrel
    by_cases hlt : (k : Int) < 7
    · obtain ⟨b2, o2, rfl, hc2⟩ := (hrow.stay hnr).addr (by omega)
      have c2 := hc2 k (by omega)
      clear hc2
      rw [lets_at _ _ _ (by omega)] at c2
      have hl := lat_lt x k
      obtain ⟨c, hc⟩ : ∃ c : Nat, lat x k = (c : Int) := ⟨(lat x k).toNat, by omega⟩
      rw [hc] at c2
      have c1' := (ha.stay hn).cell b off rfl (128 + 16 * k + c) (by omega)
      have hw1 : wrap64 (16 * (k : Int)) = 16 * (k : Int) := by unfold wrap64; omega
      have hw2 : wrap64 (128 + 16 * (k : Int)) = 128 + 16 * (k : Int) := by unfold wrap64; omega
      have hw3 : wrap64 (128 + 16 * (k : Int) + (c : Int)) = 128 + 16 * (k : Int) + (c : Int) := by unfold wrap64; omega
      have ht : (128 + 16 * (k : Int) + (c : Int)).toNat = 128 + 16 * k + c := by omega
      have hlen : 128 + 16 * (k : Int) + (c : Int) < 240 := by omega
      have hx : twx l x k ^^^ l.getD (128 + 16 * k + c) 0 = twx l x (k + 1) := by
        show _ = twx l x k ^^^ l.getD (128 + 16 * k + (lat x k).toNat) 0
        rw [hc]; rfl
      have HX := Lib.hid hx
      clear hx hc hl
      generalize l.getD (128 + 16 * k + c) 0 = y at c1' HX
      go_wp2
      exact ⟨⟨k + 1, by omega, by go_num, by rw [HX.out], hn, hnr⟩, by simp [intOf]; omega⟩
    · obtain rfl : k = 7 := by omega
      go_wp2
      go_ret
      refine ⟨ret64 ?_, hn⟩
      unfold turnV
      first
        | rw [← shl28]
        | rfl
end Go.Proofs.Ytadkbpdbbgjkgaa
