import Derived.Test.YtebcfbcfipmahaaGreatZ3FamB
import Derived.Test.YtebcfbcfipmahaaGreatZ3PolC
import Derived.Test.YtebcfbcfipmahaaGreatZ3PolM
import Derived.Test.YtebcfbcfipmahaaGreatZ3BitQ
import Derived.Test.YtebcfbcfipmahaaGreatZ3WidS
import Derived.Test.YtebcfbcfipmahaaGreatProg
import Derived.Test.YtebcfbcfipmahaaGreatZ3ModC
import Derived.Deep.QuietTactic
import Derived.BigQuiet
section
/- Layer 27: what a family says of a seed. -/
namespace Go.Proofs.YtebcfbcfipmahaaGreat
open Go.RowKit Go.Bv
set_option linter.unusedVariables false
/-- a seed's parts -/
abbrev sdc (k b : Int) (a : Option Addr) (n c : Nat) : Array Value := #[.int .i64 k, .int .i64 b, .slice a n c]
/-- what the family of a kind has against words -/
def chS (k b : Int) (l : List (BitVec 64)) : Int := if k = 1 then chkC l else if k = 2 then chkM (l.getD 0 0#64) b else if k = 8 then (if PP ≤ (l.getD 0 0#64).toNat then 2 else 0) else 0
/-- what is wrong with a seed -/
def chF (k b : Int) (l : List (BitVec 64)) : Int := if okF k = false then 6 else if (l.length : Int) < lsF k ∨ msF k < (l.length : Int) then 13 else if b < lbF k ∨ mbF k < b then 1 else chS k b l
theorem ck_all (k b : Int) (a : Option Addr) (n c : Nat) (w : World) : Calls Tryz.prog 82 #[.agg (sdc k b a n c)] w fun e w' => e = .returned (.int .i64 0) ∧ New w w' := by
  go_enter Tryz.func82, Tryz.ntmps82
  go_wp2
  go_ret
  exact ⟨rfl, (New.refl w).alloc _⟩
theorem ck_poly (k b : Int) (a : Option Addr) (n c : Nat) (l : List (BitVec 64)) (w : World) (h : QRow w a n c l) : Calls Tryz.prog 70 #[.agg (sdc k b a n c)] w fun e w' => e = .returned (.int .i64 (chkC l)) ∧ New w w' := by
  have HC := Lib.hid (check_q a n c l _ (h.stay ((New.refl w).alloc (.cells (sdc k b a n c) 30))))
  clear h
  go_enter Tryz.func70, Tryz.ntmps70
  go_wp2_with fail
  refine HC.out.mono ?_
  rintro e w' ⟨rfl, rfl⟩
  go_wp2
  go_ret
  exact ⟨rfl, (New.refl w).alloc _⟩
theorem ck_odd (k b : Int) (a : Option Addr) (n c : Nat) (l : List (BitVec 64)) (w : World) (h : QRow w a n c l) (h1 : 1 ≤ n) : Calls Tryz.prog 77 #[.agg (sdc k b a n c)] w fun e w' => e = .returned (.int .i64 (chkM (l.getD 0 0#64) b)) ∧ New w w' := by
  obtain ⟨g, off, rfl, _⟩ := h.addr (by omega)
  have hle := h.le
  generalize hW : w.alloc (.cells (sdc k b (some ⟨g, off, none⟩) n c) 30) = w0
  have HB : Hid (w0.heap[w.heap.size]? = some (.cells (sdc k b (some ⟨g, off, none⟩) n c) 30 (0, 0))) := Lib.hid (by rw [← hW]; exact heap_alloc_new w _)
  have HN : Hid (New w w0) := Lib.hid (by rw [← hW]; exact (New.refl w).alloc _)
  have HZ : Hid (∀ w' : World, New w0 w' → w'.cell? ⟨g, off, none⟩ = some (.int .u64 (W64 (l.getD 0 0#64)))) := Lib.hid (fun w' hn => (h.stay (HN.out.trans hn)).cell g off rfl 0 (by omega))
  have HM := Lib.hid (fun w => check_m (l.getD 0 0#64) b w)
  have hpos : ¬ (n : Int) ≤ 0 := by omega
  have hn0 : 0 < n := h1
  clear h
  go_enter Tryz.func77, Tryz.ntmps77
  go_wp2_with fail
  refine wp_region_class (fun w' => (w'.heap[w.heap.size]? = some (.cells (sdc k b (some ⟨g, off, none⟩) n c) 30 (0, 0))) ∧ New w0 w') (by kernel_rfl) (by kernel_rfl) ⟨((New.refl w0).drew.block _ (lt_of_block HB.out)).trans HB.out, (New.refl _).drew⟩ ?_
  intro I _ f hall hback
  have HSTEP : Hid (∀ n w', New (f n) w' → ∃ m, w' = f m) := Lib.hid fun n w' hn => hback w' ⟨(hn.block _ (lt_of_block (hall n).1)).trans (hall n).1, (hall n).2.trans hn⟩
  have HALL := Lib.hid fun n => (hall n).2
  have s0 := fun n => cell_of_row _ _ 0 _ _ _ ((hall n).1)
  have s1 := fun n => cell_of_row _ _ 1 _ _ _ ((hall n).1)
  have s2 := fun n => cell_of_row _ _ 2 _ _ _ ((hall n).1)
  have z0 := fun n => HZ.out _ (hall n).2
  clear hall hback
  repeat (go_big_quiet_step (first
    | (go_at_call 78; refine class_same (HM.out _))))
  refine wpQuiet_nil ?_
  rintro w9 ⟨n1, hw1⟩
  have hS := HALL.out n1
  rw [← hw1] at hS
  replace HB := Lib.hid ((hS.block _ (lt_of_block HB.out)).trans HB.out)
  replace HN := Lib.hid (HN.out.trans hS)
  clear z0 HALL HSTEP hw1 hS s0 s1 s2
  go_wp2
  go_ret
  exact ⟨rfl, HN.out⟩
theorem ck_str (k b : Int) (a : Option Addr) (n c : Nat) (l : List (BitVec 64)) (w : World) (h : QRow w a n c l) (h1 : 1 ≤ n) : Calls Tryz.prog 105 #[.agg (sdc k b a n c)] w fun e w' => e = .returned (.int .i64 (if PP ≤ (l.getD 0 0#64).toNat then 2 else 0)) ∧ New w w' := by
  obtain ⟨g, off, rfl, _⟩ := h.addr (by omega)
  have hle := h.le
  have z0 : (w.alloc (.cells (sdc k b (some ⟨g, off, none⟩) n c) 30)).cell? ⟨g, off, none⟩ = some (.int .u64 (W64 (l.getD 0 0#64))) := (h.stay ((New.refl w).alloc (.cells (sdc k b (some ⟨g, off, none⟩) n c) 30))).cell g off rfl 0 (by omega)
  have hpos : ¬ (n : Int) ≤ 0 := by omega
  have hn0 : 0 < n := h1
  clear h
  generalize l.getD 0 0#64 = x at *
  by_cases hp : PP ≤ (x).toNat
  · rw [if_pos hp]
    have hw : decide (2305843009213693951 ≤ W64 (x)) = true := decide_eq_true (by unfold W64; unfold PP at hp; omega)
    clear hp
    go_enter Tryz.func105, Tryz.ntmps105
    go_wp2
    go_ret
    exact ⟨rfl, (New.refl w).alloc _⟩
  · rw [if_neg hp]
    have hw : decide (2305843009213693951 ≤ W64 (x)) = false := decide_eq_false (by unfold W64; unfold PP at hp; omega)
    clear hp
    go_enter Tryz.func105, Tryz.ntmps105
    go_wp2
    go_ret
    exact ⟨rfl, (New.refl w).alloc _⟩
theorem fos_no (k b : Int) (a : Option Addr) (n c : Nat) (w : World) (h : okF k = false) : Calls Tryz.prog 28 #[.agg (sdc k b a n c)] w fun e w' => e = .returned (.tuple #[.agg fzc, .int .i64 6]) ∧ New w w' := by
  have HF := Lib.hid (fun w => fam_of k w)
  rw [h] at HF
  generalize hW : (w.alloc (.cells (sdc k b a n c) 30)).alloc (.cells fzc 52) = w0
  have HB : Hid (w0.heap[w.heap.size]? = some (.cells (sdc k b a n c) 30 (0, 0))) := Lib.hid (by rw [← hW]; exact ((New.refl _).alloc _).block _ (lt_of_block (heap_alloc_new w _)) |>.trans (heap_alloc_new w _))
  have HR : Hid (w0.heap[w.heap.size + 1]? = some (.cells fzc 52 (0, 0))) := Lib.hid (by rw [← hW]; exact first_blockF w _ _)
  have HN : Hid (New w w0) := Lib.hid (by rw [← hW]; exact ((New.refl w).alloc _).alloc _)
  have c0 := cell_of_row _ _ 0 _ _ _ HB.out
  have c1 := cell_of_row _ _ 1 _ _ _ HB.out
  have c2 := cell_of_row _ _ 2 _ _ _ HB.out
  go_enter Tryz.func28, Tryz.ntmps28
  go_wp2_with fail
  refine (HF.out _).mono ?_
  rintro e w1 ⟨⟨cs, rfl, hv⟩, hn⟩
  rcases hv with ⟨hk, _⟩ | ⟨_, rfl⟩
  · rw [h] at hk; cases hk
  have hr := ((hn.alloc (.cells fzc 52)).block _ (lt_of_block HR.out)).trans HR.out
  have r0 := cell_of_row _ _ 0 _ _ _ hr
  have r1 := cell_of_row _ _ 1 _ _ _ hr
  have r2 := cell_of_row _ _ 2 _ _ _ hr
  have r3 := cell_of_row _ _ 3 _ _ _ hr
  have r4 := cell_of_row _ _ 4 _ _ _ hr
  have r5 := cell_of_row _ _ 5 _ _ _ hr
  have r6 := cell_of_row _ _ 6 _ _ _ hr
  have r7 := cell_of_row _ _ 7 _ _ _ hr
  have r8 := cell_of_row _ _ 8 _ _ _ hr
  have r9 := cell_of_row _ _ 9 _ _ _ hr
  have rf := fun i => frozen_of_row _ _ i _ _ hr
  clear c0 c1 c2 HF h
  go_wp2_with fail
  have hp := put10_facts (.string ⟨#[]⟩) (.int .i64 0) (.int .i64 0) (.int .i64 0) (.int .i64 0) (.int .i64 0) .nilFunc .nilFunc .nilFunc .nilFunc hr
  refine bodyPost_ret (by simp [results, Tryz.results28, go_sem, r0, r1, r2, r3, r4, r5, r6, r7, r8, r9]; try rfl) rfl ?_
  exact ⟨rfl, hp.2.2.1 _ (HN.out.trans (hn.alloc _)) (Nat.le_succ _)⟩
end Go.Proofs.YtebcfbcfipmahaaGreat
end
section
/- Contracts of layer 26: firsts. -/
namespace Go.Bv
open Go Go.RowKit
/-- the first number that is brought to v or more -/
def frst (v m : BitVec 64) (k : Nat) : Nat := (v.toNat * 2 ^ k + (m.toNat - 1)) / m.toNat
end Go.Bv
namespace Go.Proofs.YtebcfbcfipmahaaGreat
open Go.RowKit Go.Bv
set_option linter.unusedVariables false
end Go.Proofs.YtebcfbcfipmahaaGreat
end
section
/- Contracts of layer 26: Check, Reduce; the document's own Check, Has, Reduce. -/
namespace Go.Bv
open Go Go.RowKit
/-- what a number is brought to -/
def redR (x m : BitVec 64) (k : Nat) : BitVec 64 := loN (x.toNat * m.toNat / 2 ^ k)
theorem shr_none (x : BitVec 64) (k : Nat) : (x >>> k == 0#64) = decide (x.toNat < 2 ^ k) := by
  rw [Bool.eq_iff_iff, beq_iff_eq, decide_eq_true_eq]
  constructor
  · intro h
    have h2 := congrArg BitVec.toNat h
    rw [BitVec.toNat_ushiftRight, Nat.shiftRight_eq_div_pow] at h2
    exact (Nat.div_eq_zero_iff_lt (Nat.two_pow_pos k)).1 h2
  · intro h
    apply BitVec.eq_of_toNat_eq
    rw [BitVec.toNat_ushiftRight, Nat.shiftRight_eq_div_pow, Nat.div_eq_of_lt h]; rfl
/-- the error's number -/
def chkR (k : Int) (m : BitVec 64) : Int := if k < 1 ∨ 64 < k then 1 else if m = 0#64 then 8 else 0
end Go.Bv
namespace Go.Proofs.YtebcfbcfipmahaaGreat
open Go.RowKit Go.Bv
set_option linter.unusedVariables false
end Go.Proofs.YtebcfbcfipmahaaGreat
end
section
/- The example of tabs (awake); the walks of the statements TabsSums and TabsEvals: for all words, all rows, all keys. -/
namespace Go.Proofs.YtebcfbcfipmahaaGreat
open Go.RowKit Go.Bv
set_option linter.unusedVariables false
set_option maxRecDepth 100000
theorem info_u64t : (Tryz.prog.info? 31).map (fun i => (i.zero, i.size, i.bytes)) = some (some (.int .u64 0), 1, 8) := by kernel_rfl
def rise (m : Nat) : List (BitVec 64) := (List.range m).map (BitVec.ofNat 64)
end Go.Proofs.YtebcfbcfipmahaaGreat
end
section
/- Contracts of twist.Check, Turn, Unturn, Eval and of the document's own Turn, Eval: for all words, all keys. -/
namespace Go.Bv
open Go Go.RowKit
theorem mod16 (x : BitVec 64) : x % 16#64 = x &&& 15#64 := by
  apply BitVec.eq_of_toNat_eq
  rw [BitVec.toNat_umod, BitVec.toNat_and]
  exact (Nat.and_two_pow_sub_one_eq_mod x.toNat 4).symm
theorem mod16_xor (x y : BitVec 64) : (x ^^^ y) % 16#64 = x % 16#64 ^^^ y % 16#64 := by
  rw [mod16, mod16, mod16]; ext i hi; simp; grind
theorem shl28 (x : BitVec 64) : x * 268435456#64 = x <<< 28 := by
  rw [← mul_shl]; rfl
end Go.Bv
namespace Go.Proofs.YtebcfbcfipmahaaGreat
open Go.RowKit Go.Bv
set_option linter.unusedVariables false
set_option maxRecDepth 100000
/-- what twists a key, by its first letters -/
def twx (l : List (BitVec 64)) (x : BitVec 64) : Nat → BitVec 64
  | 0 => 0#64
  | k + 1 => twx l x k ^^^ l.getD (128 + 16 * k + (lat x k).toNat) 0
def turnV (l : List (BitVec 64)) (x : BitVec 64) : BitVec 64 := x ^^^ (twx l x 7 % 16#64) <<< 28
set_option maxHeartbeats 1000000 in
theorem checkt_any (a : Option Addr) (n c : Nat) (bits : Int) (w : World) (hn : n ≤ 17592186044416) :
    Calls Tryz.prog 97 #[.slice a n c, .int .i64 bits] w fun e w' => e = .returned (.int .i64 (chk bits n 240)) ∧ w' = w := by
  by_cases h1 : bits < 1
  · have h : chk bits n 240 = 1 := by unfold chk; rw [if_pos (Or.inl h1)]
    have H := Lib.hid h
    clear h
    go_enter Tryz.func97, Tryz.ntmps97
    go_wp2
    go_ret
    rw [H.out]; exact ⟨rfl, rfl⟩
  · by_cases h2 : 64 < bits
    · have h : chk bits n 240 = 1 := by unfold chk; rw [if_pos (Or.inr h2)]
      have H := Lib.hid h
      clear h
      go_enter Tryz.func97, Tryz.ntmps97
      go_wp2
      go_ret
      rw [H.out]; exact ⟨rfl, rfl⟩
    · by_cases h3 : (n : Int) = 240
      · have h : chk bits n 240 = 0 := by unfold chk; rw [if_neg (by omega), if_neg (by omega)]
        have H := Lib.hid h
        have hb : ((n : Int) != 240) = false := by rw [bne_eq_false_iff_eq]; exact h3
        clear h h3
        go_enter Tryz.func97, Tryz.ntmps97
        go_wp2
        go_ret
        rw [H.out]; exact ⟨rfl, rfl⟩
      · have h : chk bits n 240 = 13 := by unfold chk; rw [if_neg (by omega), if_pos h3]
        have H := Lib.hid h
        have hb : ((n : Int) != 240) = true := by rw [bne_iff_ne]; exact h3
        clear h h3
        go_enter Tryz.func97, Tryz.ntmps97
        go_wp2
        go_ret
        rw [H.out]; exact ⟨rfl, rfl⟩
set_option maxHeartbeats 1000000 in
theorem partst_any (b off c : Nat) (hc : 240 ≤ c) (hcc : c ≤ 9223372036854775807) (w : World) :
    Calls Tryz.prog 99 #[.slice (some ⟨b, off, none⟩) 240 c] w fun e w' => e = .returned (.tuple #[.slice (some ⟨b, off, none⟩) 128 128, .slice (some ⟨b, off + 128, none⟩) 112 112]) ∧ New w w' := by
  go_enter Tryz.func99, Tryz.ntmps99
  go_wp2
  go_quiet (fail)
  go_wp2
  go_ret2
  exact ⟨rfl, (New.refl w).drewN nq⟩
set_option maxHeartbeats 1000000 in
theorem turning_any (b off c : Nat) (hc : 240 ≤ c) (hcc : c ≤ 9223372036854775807) (w : World) :
    Calls Tryz.prog 100 #[.slice (some ⟨b, off, none⟩) 240 c] w fun e w' => ∃ g, e = .returned (.func (.func 138) #[] #[.pointer (some ⟨g, 0, none⟩)]) ∧ w'.cell? ⟨g, 0, none⟩ = some (.slice (some ⟨b, off + 128, none⟩) 112 112) ∧ New w w' := by
  go_enter Tryz.func100, Tryz.ntmps100
  go_wp2_with fail
  refine (partst_any b off c hc hcc _).mono ?_
  rintro e w1 ⟨rfl, hn⟩
  go_wp2
  go_ret
  exact ⟨_, rfl, by rw [World.cell?_alloc_new]; rfl, hn.alloc _⟩
/-- the same, as the program has it -/
def twy (l : List (BitVec 64)) (x : BitVec 64) : Nat → BitVec 64
  | 0 => 0#64
  | k + 1 => twy l x k ^^^ l.getD (16 * k + (lat x k).toNat) 0 % 16#64
theorem getD_part (l : List (BitVec 64)) (i n j : Nat) (hj : j < n) : ((l.drop i).take n).getD j 0 = l.getD (i + j) 0 := by
  rw [List.getD_eq_getElem?_getD, List.getD_eq_getElem?_getD, List.getElem?_take, if_pos hj, List.getElem?_drop]
theorem twy_twx (l : List (BitVec 64)) (x : BitVec 64) : ∀ k, k ≤ 7 → twy ((l.drop 128).take 112) x k = twx l x k % 16#64
  | 0, _ => rfl
  | k + 1, h => by
    have hl := lat_lt x k
    show twy ((l.drop 128).take 112) x k ^^^ ((l.drop 128).take 112).getD (16 * k + (lat x k).toNat) 0 % 16#64 = (twx l x k ^^^ l.getD (128 + 16 * k + (lat x k).toNat) 0) % 16#64
    rw [twy_twx l x k (by omega), mod16_xor, getD_part _ _ _ _ (by omega), Nat.add_assoc]
set_option maxHeartbeats 1000000 in
theorem turning1_any (x : BitVec 64) (g b off : Nat) (l : List (BitVec 64)) (w : World) (hg : w.cell? ⟨g, 0, none⟩ = some (.slice (some ⟨b, off, none⟩) 112 112)) (hq : QRow w (some ⟨b, off, none⟩) 112 112 l) :
    Calls Tryz.prog 138 #[.int .u64 (W64 x), .pointer (some ⟨g, 0, none⟩)] w fun e w' => e = .returned (.int .u64 (W64 (x ^^^ (twy l x 7) <<< 28))) ∧ New w w' := by
  go_enter Tryz.func138, Tryz.ntmps138
  go_wp2_with fail
  refine (chars_any x 7 7 (by omega) (by decide) _).mono ?_
  rintro e w1 ⟨a1, c1, rfl, hrow, hn1⟩
  go_wp2
  go_loopw [4, 10] (fun s i wr => ∃ k : Nat, k ≤ 7 ∧ i = .int .i64 k ∧ s = .int .u64 (W64 (twy l x k)) ∧ New w wr ∧ New w1 wr) (fun _ i _ => 7 - (intOf i).toNat)
  case atStart => exact ⟨0, by omega, rfl, congrArg (Value.int .u64) (W64_lit 0 (by omega)).symm, hn1, New.refl w1⟩
  case round =>
    obtain ⟨k, hk, rfl, rfl, hn, hnr⟩ := hrel
    by_cases hlt : (k : Int) < 7
    · obtain ⟨b2, o2, rfl, hc2⟩ := (hrow.stay hnr).addr (by omega)
      have c2 := hc2 k (by omega)
      clear hc2
      rw [lets_at _ _ _ (by omega)] at c2
      have hl := lat_lt x k
      obtain ⟨c, hc⟩ : ∃ c : Nat, lat x k = (c : Int) := ⟨(lat x k).toNat, by omega⟩
      rw [hc] at c2
      have g1 : wr.cell? ⟨g, 0, none⟩ = some (.slice (some ⟨b, off, none⟩) 112 112) := by
        rw [hn.cell (a := ⟨g, 0, none⟩) (World.block_lt_of_cell? _ _ hg)]; exact hg
      have c1' := (hq.stay hn).cell b off rfl (16 * k + c) (by omega)
      have hw1 : wrap64 (16 * (k : Int)) = 16 * (k : Int) := by unfold wrap64; omega
      have hw2 : wrap64 (16 * (k : Int) + (c : Int)) = 16 * (k : Int) + (c : Int) := by unfold wrap64; omega
      have ht : (16 * (k : Int) + (c : Int)).toNat = 16 * k + c := by omega
      have hlen : 16 * (k : Int) + (c : Int) < 112 := by omega
      have hx : twy l x k ^^^ l.getD (16 * k + c) 0 % 16#64 = twy l x (k + 1) := by
        show _ = twy l x k ^^^ l.getD (16 * k + (lat x k).toNat) 0 % 16#64
        rw [hc]; rfl
      have HX := Lib.hid hx
      clear hx hc hl
      generalize l.getD (16 * k + c) 0 = y at c1' HX
      go_wp2
      exact ⟨⟨k + 1, by omega, by go_num, by rw [HX.out], hn, hnr⟩, by simp [intOf]; omega⟩
    · obtain rfl : k = 7 := by omega
      go_wp2
      go_ret
      exact ⟨rfl, hn⟩
def tuV (l : List (BitVec 64)) (x : BitVec 64) : BitVec 64 := if evE 64 l.length 240 x = 0 then turnV l x else 0#64
set_option maxHeartbeats 1000000 in
theorem turn_ref (a : Option Addr) (n c : Nat) (l : List (BitVec 64)) (x : BitVec 64) (w : World) (ha : QRow w a n c l) (h240 : n = 240) :
    Calls Tryz.prog 65 #[.slice a n c, .int .u64 (W64 x)] w fun e w' => e = .returned (.int .u64 (W64 (turnV l x))) ∧ New w w' := by
  subst h240
  obtain ⟨b, off, rfl, _⟩ := ha.addr (by omega)
  go_enter Tryz.func65, Tryz.ntmps65
  go_wp2_with fail
  refine (letters_ref x 7 7 (by omega) (by decide) _).mono ?_
  rintro e w1 ⟨a1, c1, rfl, hrow, hn1⟩
  go_wp2
  go_loopw [5, 11] (fun s i wr => ∃ k : Nat, k ≤ 7 ∧ i = .int .i64 k ∧ s = .int .u64 (W64 (twx l x k)) ∧ New w wr ∧ New w1 wr) (fun _ i _ => 7 - (intOf i).toNat)
  case atStart => exact ⟨0, by omega, rfl, congrArg (Value.int .u64) (W64_lit 0 (by omega)).symm, hn1, New.refl w1⟩
  case round =>
    obtain ⟨k, hk, rfl, rfl, hn, hnr⟩ := hrel
    by_cases hlt : (k : Int) < 7
    · obtain ⟨b2, o2, rfl, hc2⟩ := (hrow.stay hnr).addr (by omega)
      have c2 := hc2 k (by omega)
      clear hc2
      rw [lets_at _ _ _ (by omega)] at c2
      have hl := lat_lt x k
      obtain ⟨c, hc⟩ : ∃ c : Nat, lat x k = (c : Int) := ⟨(lat x k).toNat, by omega⟩
      rw [hc] at c2
      have c1' := (ha.stay hn).cell b off rfl (128 + 16 * k + c) (by omega)
      have hw1 : wrap64 (16 * (k : Int)) = 16 * (k : Int) := by unfold wrap64; omega
      have hw2 : wrap64 (128 + 16 * (k : Int)) = 128 + 16 * (k : Int) := by unfold wrap64; omega
      have hw3 : wrap64 (128 + 16 * (k : Int) + (c : Int)) = 128 + 16 * (k : Int) + (c : Int) := by unfold wrap64; omega
      have ht : (128 + 16 * (k : Int) + (c : Int)).toNat = 128 + 16 * k + c := by omega
      have hlen : 128 + 16 * (k : Int) + (c : Int) < 240 := by omega
      have hx : twx l x k ^^^ l.getD (128 + 16 * k + c) 0 = twx l x (k + 1) := by
        show _ = twx l x k ^^^ l.getD (128 + 16 * k + (lat x k).toNat) 0
        rw [hc]; rfl
      have HX := Lib.hid hx
      clear hx hc hl
      generalize l.getD (128 + 16 * k + c) 0 = y at c1' HX
      go_wp2
      exact ⟨⟨k + 1, by omega, by go_num, by rw [HX.out], hn, hnr⟩, by simp [intOf]; omega⟩
    · obtain rfl : k = 7 := by omega
      go_wp2
      go_ret
      refine ⟨ret64 ?_, hn⟩
      unfold turnV
      first
        | rw [← shl28]
        | rfl
end Go.Proofs.YtebcfbcfipmahaaGreat
end
section
/- Plain lemmas: values of sums and products of polynomials; division by X less a number. -/
namespace Go.Bv
open Go Go.RowKit
set_option linter.unusedVariables false
theorem pv_add (f g : Nat → Nat) (x : Nat) : ∀ n, pv (fun i => f i + g i) x n = pv f x n + pv g x n
  | 0 => rfl
  | n + 1 => by
    show pv (fun i => f i + g i) x n + (f n + g n) * x ^ n = (pv f x n + f n * x ^ n) + (pv g x n + g n * x ^ n)
    rw [pv_add f g x n, Nat.add_mul]; omega
theorem pv_none (f : Nat → Nat) (x : Nat) : ∀ n, (∀ i, i < n → f i = 0) → pv f x n = 0
  | 0, _ => rfl
  | n + 1, h => by
    show pv f x n + f n * x ^ n = 0
    rw [pv_none f x n (fun i hi => h i (by omega)), h n (by omega), Nat.zero_mul]
theorem pv_shift (g : Nat → Nat) (x c i : Nat) : ∀ d, pv (fun k => if i ≤ k then c * g (k - i) else 0) x (i + d) = c * x ^ i * pv g x d
  | 0 => by
    rw [pv_none _ _ _ (fun k hk => by show (if i ≤ k then _ else 0) = 0; rw [if_neg (by omega)])]
    simp [pv]
  | d + 1 => by
    show pv (fun k => if i ≤ k then c * g (k - i) else 0) x (i + d) + (if i ≤ i + d then c * g (i + d - i) else 0) * x ^ (i + d) = c * x ^ i * (pv g x d + g d * x ^ d)
    rw [pv_shift g x c i d, if_pos (by omega), Nat.add_sub_cancel_left, Nat.mul_add, Nat.pow_add]
    have e : c * g d * (x ^ i * x ^ d) = c * x ^ i * (g d * x ^ d) := by
      rw [Nat.mul_assoc, Nat.mul_assoc, Nat.mul_left_comm (g d)]
    rw [e]
theorem pv_cs (f g : Nat → Nat) (x nb : Nat) (hg : ∀ i, nb ≤ i → g i = 0) : ∀ i N, i + nb ≤ N → pv (fun k => cs f g i k) x N = pv f x i * pv g x nb
  | 0, N, _ => by
    rw [pv_none (fun k => cs f g 0 k) x N (fun k hk => rfl)]; simp [pv]
  | i + 1, N, h => by
    have e1 : pv (fun k => cs f g (i + 1) k) x N = pv (fun k => cs f g i k + (if i ≤ k then f i * g (k - i) else 0)) x N := rfl
    have e2 := pv_shift g x (f i) i (N - i)
    rw [show i + (N - i) = N by omega] at e2
    have e3 := pv_far g x nb hg (N - i - nb)
    rw [show nb + (N - i - nb) = N - i by omega] at e3
    rw [e1, pv_add, pv_cs f g x nb hg i N (by omega), e2, e3]
    show _ = (pv f x i + f i * x ^ i) * pv g x nb
    rw [Nat.add_mul]
theorem nv_nf (l : List (BitVec 64)) (x : BitVec 64) : nv l x = pv (nf l) x.toNat l.length := rfl
theorem nv_nf_up (l : List (BitVec 64)) (x : BitVec 64) (n : Nat) (h : l.length ≤ n) : nv l x = pv (nf l) x.toNat n := nv_up l x n h
theorem nv_add (a b : List (BitVec 64)) (x : BitVec 64) : mp (nv (addL a b) x) = mp (nv a x + nv b x) := by
  have hl : (addL a b).length = max a.length b.length := by unfold addL; exact addP_len _ _ _
  rw [nv_nf, hl, nv_nf_up a x (max a.length b.length) (by omega), nv_nf_up b x (max a.length b.length) (by omega), ← pv_add]
  apply mp_congr
  refine pv_mod _ _ (fun i hi => ?_)
  have h := addL_cm a b i
  unfold cm at h
  exact mp_iff.1 h
theorem nv_mul (a b : List (BitVec 64)) (x : BitVec 64) : mp (nv (mulL a b) x) = mp (nv a x * nv b x) := by
  have hl : (mulL a b).length = a.length + b.length := by unfold mulL; exact mulP_len _ _ _
  rw [nv_nf, hl, nv_nf a, nv_nf b, ← pv_cs (nf a) (nf b) x.toNat b.length (fun i hi => nf_far b i hi) a.length (a.length + b.length) (Nat.le_refl _)]
  apply mp_congr
  refine pv_mod _ _ (fun i hi => ?_)
  have h := mulL_cm a b i
  unfold cm at h
  rw [← cs_len] at h
  exact mp_iff.1 h
theorem nv_trim (l : List (BitVec 64)) (x : BitVec 64) : mp (nv (trimL l) x) = mp (nv l x) := nv_mod x (trimL_cm l)
theorem cs_two (q : List (BitVec 64)) (m : BitVec 64) (i : Nat) : cs (nf q) (nf [m, 1#64]) (i + 1) i = nf q i * m.toNat + (if i = 0 then 0 else nf q (i - 1)) := by
  have hb : ∀ d, 2 ≤ d → nf [m, 1#64] d = 0 := fun d hd => nf_far _ d hd
  have hz : ∀ j, j + 1 ≤ i → cs (nf q) (nf [m, 1#64]) j i = 0 := by
    intro j
    induction j with
    | zero => intro _; rfl
    | succ j ih =>
      intro hj
      show cs (nf q) (nf [m, 1#64]) j i + (if j ≤ i then nf q j * nf [m, 1#64] (i - j) else 0) = 0
      rw [ih (by omega), if_pos (by omega), hb (i - j) (by omega), Nat.mul_zero]
  have e1 : nf [m, 1#64] 0 = m.toNat := rfl
  have e2 : nf [m, 1#64] 1 = 1 := rfl
  show cs (nf q) (nf [m, 1#64]) i i + (if i ≤ i then nf q i * nf [m, 1#64] (i - i) else 0) = _
  rw [if_pos (Nat.le_refl _), Nat.sub_self, e1]
  cases i with
  | zero => show 0 + nf q 0 * m.toNat = nf q 0 * m.toNat + 0; omega
  | succ j =>
    show (cs (nf q) (nf [m, 1#64]) j (j + 1) + (if j ≤ j + 1 then nf q j * nf [m, 1#64] (j + 1 - j) else 0)) + nf q (j + 1) * m.toNat = _
    rw [hz j (by omega), if_pos (by omega), show j + 1 - j = 1 by omega, e2, if_neg (by omega), Nat.mul_one, Nat.add_sub_cancel]
    omega
end Go.Bv
end
section
/- Contract of the document's own Words: whether two lists of words are alike. -/
namespace Go.Proofs.YtebcfbcfipmahaaGreat
open Go.RowKit Go.Bv
set_option linter.unusedVariables false
theorem words_eq {la lb : List (BitVec 64)} {n : Nat} (ha : la.length = n) (hb : lb.length = n) (h : ∀ j, j < n → la.getD j 0 = lb.getD j 0) : la = lb := by
  apply List.ext_getElem (by omega)
  intro j h1 h2
  have := h j (by omega)
  rw [List.getD_eq_getElem?_getD, List.getD_eq_getElem?_getD, List.getElem?_eq_getElem h1, List.getElem?_eq_getElem h2] at this
  simpa using this
set_option maxHeartbeats 1000000 in
theorem words_ref (a b : Option Addr) (na ca nb cb : Nat) (la lb : List (BitVec 64)) (W w : World) (ha : QRow w a na ca la) (hb : QRow w b nb cb lb) (hg : New W w) :
    Calls Tryz.prog 26 #[.slice a na ca, .slice b nb cb] w fun e w' => e = .returned (.bool (la == lb)) ∧ New w w' ∧ New W w' := by
  have hma := ha.most
  have hmb := hb.most
  by_cases hl : na = nb
  · subst hl
    have Hla := Lib.hid ha.len_eq
    have Hlb := Lib.hid hb.len_eq
    go_enter Tryz.func26, Tryz.ntmps26
    go_wp2
    go_loopw [13] (fun i wr => ∃ k : Nat, k ≤ na ∧ i = .int .i64 k ∧ Hid (∀ j, j < k → la.getD j 0 = lb.getD j 0) ∧ New w wr) (fun i _ => na - (intOf i).toNat)
    case atStart => exact ⟨0, by omega, rfl, Lib.hid (fun j hj => by omega), New.refl w⟩
    case round =>
      obtain ⟨k, hk, rfl, H, hn⟩ := hrel
      by_cases hlt : (k : Int) < na
      · obtain ⟨b1, o1, rfl, hc1⟩ := (ha.stay hn).addr (by omega)
        obtain ⟨b2, o2, rfl, hc2⟩ := (hb.stay hn).addr (by omega)
        have c1 := hc1 k (by omega)
        have c2 := hc2 k (by omega)
        clear hc1 hc2
        by_cases hxy : la.getD k 0 = lb.getD k 0
        · have Hxy := Lib.hid hxy
          rw [hxy] at c1
          clear hxy
          generalize lb.getD k 0 = y at c1 c2
          go_wp2
          go_quiet (fail)
          go_wp2
          refine ⟨⟨k + 1, by omega, by go_num, Lib.hid (fun j hj => ?_), hn.drewN nq⟩, by simp [intOf]; omega⟩
          by_cases e : j = k
          · subst e; exact Hxy.out
          · exact H.out j (by omega)
        · have hf : (la == lb) = false := by
            rw [beq_eq_false_iff_ne]; intro e; exact hxy (by rw [e])
          have HF := Lib.hid hf
          have hne : (la.getD k 0 != lb.getD k 0) = true := by rw [bne_iff_ne]; exact hxy
          clear hf hxy
          generalize la.getD k 0 = x at c1 hne
          generalize lb.getD k 0 = y at c2 hne
          go_wp2
          go_quiet (fail)
          go_wp2
          go_ret
          exact ⟨retB HF.out.symm, hn.drewN nq, hg.trans (hn.drewN nq)⟩
      · obtain rfl : k = na := by omega
        go_wp2
        go_ret
        refine ⟨retB ?_, hn, hg.trans hn⟩
        rw [words_eq Hla.out Hlb.out H.out]; simp
  · have hne : ((na : Int) != (nb : Int)) = true := by rw [bne_iff_ne]; omega
    have hf : (la == lb) = false := by
      rw [beq_eq_false_iff_ne]; intro e; exact hl (by rw [← ha.len_eq, ← hb.len_eq, e])
    have HF := Lib.hid hf
    clear hf
    go_enter Tryz.func26, Tryz.ntmps26
    go_wp2
    go_ret
    exact ⟨retB (HF.out).symm, New.refl w, hg⟩
end Go.Proofs.YtebcfbcfipmahaaGreat
end
