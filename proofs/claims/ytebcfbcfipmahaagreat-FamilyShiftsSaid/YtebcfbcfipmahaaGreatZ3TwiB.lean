import Derived.Test.YtebcfbcfipmahaaGreatZ3FamC
import Derived.Test.YtebcfbcfipmahaaGreatZ3PolM
import Derived.Deep.RegionWith
section
/- What is twisted twice is as it was; contracts of twist.Eval and of the document's own; the example of twist (awake); the walks of the statements TwistTurns and TwistEvals: for all words, all keys. -/
namespace Go.Bv
open Go Go.RowKit
theorem getLsb_mod16 (x : BitVec 64) (i j : Nat) (hj : j < 4) (hi : 4 * i + j < 64) : (x >>> (4 * i) % 16#64).getLsbD j = x.getLsbD (4 * i + j) := by
  rw [mod16, BitVec.getLsbD_and, BitVec.getLsbD_ushiftRight]
  have : (15#64).getLsbD j = true := by
    have hc : j = 0 ∨ j = 1 ∨ j = 2 ∨ j = 3 := by omega
    rcases hc with rfl | rfl | rfl | rfl <;> rfl
  rw [this, Bool.and_true]
theorem getLsb_mod16_hi (x : BitVec 64) (i j : Nat) (hj : 4 ≤ j) : (x >>> (4 * i) % 16#64).getLsbD j = false := by
  rw [← BitVec.testBit_toNat]
  apply Nat.testBit_lt_two_pow
  have : (x >>> (4 * i) % 16#64).toNat < 16 := by
    rw [BitVec.toNat_umod]; exact Nat.mod_lt _ (by decide)
  exact Nat.lt_of_lt_of_le this (Nat.le_trans (show 16 ≤ 2 ^ 4 by decide) (Nat.pow_le_pow_right (by omega) hj))
theorem low28 (x t : BitVec 64) (i : Nat) (hi : i < 7) : (x ^^^ t <<< 28) >>> (4 * i) % 16#64 = x >>> (4 * i) % 16#64 := by
  apply BitVec.eq_of_getLsbD_eq
  intro j hj
  by_cases h : j < 4
  · rw [getLsb_mod16 _ _ _ h (by omega), getLsb_mod16 _ _ _ h (by omega), BitVec.getLsbD_xor, BitVec.getLsbD_shiftLeft]
    have : decide (4 * i + j < 28) = true := decide_eq_true (by omega)
    rw [this]; simp
  · rw [getLsb_mod16_hi _ _ _ (by omega), getLsb_mod16_hi _ _ _ (by omega)]
end Go.Bv
namespace Go.Proofs.YtebcfbcfipmahaaGreat
open Go.RowKit Go.Bv
set_option linter.unusedVariables false
set_option maxRecDepth 100000
theorem twx_same (l : List (BitVec 64)) (x t : BitVec 64) : ∀ k, k ≤ 7 → twx l (x ^^^ t <<< 28) k = twx l x k
  | 0, _ => rfl
  | k + 1, h => by
    have e : lat (x ^^^ t <<< 28) k = lat x k := by unfold lat; rw [low28 _ _ _ (by omega)]
    show twx l (x ^^^ t <<< 28) k ^^^ _ = twx l x k ^^^ _
    rw [twx_same l x t k (by omega), e]
theorem turn_turn (l : List (BitVec 64)) (x : BitVec 64) : turnV l (turnV l x) = x := by
  unfold turnV
  rw [twx_same l x _ 7 (by omega)]
  generalize (twx l x 7 % 16#64) <<< 28 = u
  grind
theorem turn_inj (l : List (BitVec 64)) (x y : BitVec 64) : (turnV l y == turnV l x) = (x == y) := by
  rw [Bool.eq_iff_iff, beq_iff_eq, beq_iff_eq]
  constructor
  · intro h
    have := congrArg (turnV l) h
    rw [turn_turn, turn_turn] at this
    exact this.symm
  · intro h; rw [h]
theorem turn_small (l : List (BitVec 64)) (x : BitVec 64) (h : x.toNat < 4294967296) : (turnV l x).toNat < 4294967296 := by
  unfold turnV
  rw [BitVec.toNat_xor]
  have ht : (twx l x 7 % 16#64).toNat < 16 := by rw [BitVec.toNat_umod]; exact Nat.mod_lt _ (by decide)
  have h2 : ((twx l x 7 % 16#64) <<< 28).toNat < 4294967296 := by
    rw [BitVec.toNat_shiftLeft, Nat.shiftLeft_eq, Nat.mod_eq_of_lt (by omega)]
    omega
  exact Nat.xor_lt_two_pow (n := 32) h h2
theorem evE_good {bits : Int} {n : Nat} {N : Int} {x : BitVec 64} (h : evE bits n N x = 0) : chk bits n N = 0 ∧ x.toNat < 4294967296 := by
  unfold evE at h
  by_cases h1 : chk bits n N = 0
  · rw [if_neg (by rw [h1]; simp)] at h
    by_cases h2 : x.toNat < 4294967296
    · exact ⟨h1, h2⟩
    · rw [if_neg h2] at h; cases h
  · rw [if_pos h1] at h; exact absurd h h1
/-- what a seed brings a key to -/
def teV (l : List (BitVec 64)) (bits : Int) (x : BitVec 64) : BitVec 64 := if evE bits l.length 240 x = 0 then evV (l.take 128) bits 128 (turnV l x) else 0#64
theorem evE_sub {l : List (BitVec 64)} {bits : Int} {x : BitVec 64} (h : evE bits l.length 240 x = 0) : evE bits (l.take 128).length 128 (turnV l x) = 0 := by
  obtain ⟨h1, h2⟩ := evE_good h
  obtain ⟨b1, b2, b3⟩ := chk_good h1
  have hl : (l.take 128).length = 128 := by rw [List.length_take]; omega
  have hc : chk bits (l.take 128).length 128 = 0 := by unfold chk; rw [if_neg (by omega), hl, if_neg (by simp)]
  unfold evE
  rw [if_neg (by rw [hc]; simp), if_pos (turn_small l x h2)]
theorem tuE {bits : Int} {n : Nat} {N : Int} {x : BitVec 64} (h : evE bits n N x = 0) : evE 64 n N x = 0 := by
  obtain ⟨h1, h2⟩ := evE_good h
  obtain ⟨b1, b2, b3⟩ := chk_good h1
  have hc : chk 64 n N = 0 := by unfold chk; rw [if_neg (by omega), if_neg (by omega)]
  unfold evE
  rw [if_neg (by rw [hc]; simp), if_pos h2]
theorem tuE2 {bits : Int} {n : Nat} {N : Int} {x : BitVec 64} (h : chk bits n N = 0) (h2 : ¬ x.toNat < 4294967296) : evE 64 n N x = 2 := by
  obtain ⟨b1, b2, b3⟩ := chk_good h
  have hc : chk 64 n N = 0 := by unfold chk; rw [if_neg (by omega), if_neg (by omega)]
  unfold evE
  rw [if_neg (by rw [hc]; simp), if_neg h2]
set_option maxHeartbeats 2000000 in
theorem evalt_ref (a : Option Addr) (n c : Nat) (l : List (BitVec 64)) (bits : Int) (x : BitVec 64) (w : World) (ha : QRow w a n c l) :
    Calls Tryz.prog 35 #[.slice a n c, .int .i64 bits, .int .u64 (W64 x)] w fun e w' => e = .returned (.tuple #[.int .u64 (W64 (teV l bits x)), .int .i64 (evE bits l.length 240 x)]) ∧ New w w' := by
  have hm := ha.most
  have hle := ha.le
  have hrm := ha.room
  have hck : ∀ w, Calls Tryz.prog 61 #[.slice a n c, .int .i64 bits, .int .i64 240] w fun e w' => e = .returned (.int .i64 (chk bits l.length 240)) ∧ w' = w := by
    rw [ha.len_eq]; exact fun w => check_ref a n c bits 240 w hm
  have HCK := Lib.hid hck
  clear hck
  have hL := ha.len_eq
  by_cases h1 : chk bits l.length 240 = 0
  · obtain ⟨b1, b2, b3⟩ := chk_good h1
    by_cases h2 : x.toNat < 4294967296
    · have hE : evE bits l.length 240 x = 0 := by unfold evE; rw [if_neg (by rw [h1]; simp), if_pos h2]
      have hV : teV l bits x = evV (l.take 128) bits 128 (turnV l x) := by unfold teV; rw [if_pos hE]
      have hE2 := evE_sub hE
      have HE := Lib.hid hE
      have HV := Lib.hid hV
      have HE2 := Lib.hid hE2
      have hx : decide (4294967296 ≤ W64 x) = false := decide_eq_false (by unfold W64; omega)
      rw [h1] at HCK
      obtain rfl : n = 240 := by omega
      obtain ⟨b, off, rfl, _⟩ := ha.addr (by omega)
      clear hE hV h1 h2 b3 b1 b2 hE2
      have hq0 : QRow w (some ⟨b, off, none⟩) 128 c (l.take 128) := by
        have h := ha.slice 0 128 c (by omega) (by omega) (by omega)
        rw [List.drop_zero] at h
        exact h
      have htr := fun w (h : QRow w (some ⟨b, off, none⟩) 240 c l) => turn_ref _ _ _ _ x w h rfl
      have hev : ∀ w, QRow w (some ⟨b, off, none⟩) 128 c (l.take 128) → Calls Tryz.prog 34 #[.slice (some ⟨b, off, none⟩) 128 c, .int .i64 bits, .int .u64 (W64 (turnV l x))] w fun e w' => e = .returned (.tuple #[.int .u64 (W64 (teV l bits x)), .int .i64 0]) ∧ New w w' := by
        intro w h
        have h3 := eval_ref _ _ _ _ bits (turnV l x) w h
        rw [HE2.out, ← HV.out] at h3
        exact h3
      have HTR := Lib.hid htr
      have HEV := Lib.hid hev
      clear htr hev HV
      generalize turnV l x = tx at HTR HEV
      generalize teV l bits x = vx at HEV ⊢
      go_enter Tryz.func35, Tryz.ntmps35
      go_wp2_with fail
      refine (HCK.out _).mono ?_
      rintro e w' ⟨rfl, rfl⟩
      go_wp2_with fail
      refine wp_region_class (fun wr => (QRow wr (some ⟨b, off, none⟩) 240 c l ∧ QRow wr (some ⟨b, off, none⟩) 128 c (l.take 128)) ∧ New w' wr) (by kernel_rfl) (by kernel_rfl) ⟨⟨ha.stay (New.refl _).drew, hq0.stay (New.refl _).drew⟩, (New.refl w').drew⟩ ?_
      intro I _ f hall hback
      have HSTEP : Hid (∀ n w', New (f n) w' → ∃ m, w' = f m) := Lib.hid fun n w' hn => hback w' ⟨⟨(hall n).1.1.stay hn, (hall n).1.2.stay hn⟩, (hall n).2.trans hn⟩
      have HALL := Lib.hid hall
      clear hall hback
      repeat (go_big_quiet_step (first
        | (go_at_call_of 65 (Value.int IntKind.u64 (W64 x)); refine class_new HSTEP.out (HTR.out _ (HALL.out _).1.1))
        | (go_at_call_of 34 (Value.int IntKind.u64 (W64 tx)); refine class_new HSTEP.out (HEV.out _ (HALL.out _).1.2))))
      refine wpQuiet_nil ?_
      rintro w4 ⟨n1, hw1⟩
      have hS := (HALL.out n1).2
      rw [← hw1] at hS
      clear HALL HSTEP hw1
      go_wp2
      go_ret2
      rw [HE.out]
      exact ⟨rfl, hS⟩
    · have hE : evE bits l.length 240 x = 2 := by unfold evE; rw [if_neg (by rw [h1]; simp), if_neg h2]
      have hV : W64 (teV l bits x) = 0 := by unfold teV; rw [if_neg (by rw [hE]; decide)]; exact W64_lit 0 (by omega)
      have HE := Lib.hid hE
      have HV := Lib.hid hV
      have hx : decide (4294967296 ≤ W64 x) = true := decide_eq_true (by unfold W64; omega)
      rw [h1] at HCK
      clear hE hV h1 h2 b3 b1 b2
      go_enter Tryz.func35, Tryz.ntmps35
      go_wp2_with fail
      refine (HCK.out _).mono ?_
      rintro e w' ⟨rfl, rfl⟩
      go_wp2
      go_ret2
      rw [HV.out, HE.out]
      exact ⟨rfl, New.refl _⟩
  · have hE : evE bits l.length 240 x = chk bits l.length 240 := by unfold evE; rw [if_pos h1]
    have hV : W64 (teV l bits x) = 0 := by unfold teV; rw [hE, if_neg h1]; exact W64_lit 0 (by omega)
    have HE := Lib.hid hE
    have HV := Lib.hid hV
    have hne : (chk bits l.length 240 != 0) = true := by rw [bne_iff_ne]; exact h1
    clear hE hV h1
    generalize chk bits l.length 240 = q at HCK hne HE
    go_enter Tryz.func35, Tryz.ntmps35
    go_wp2_with fail
    refine (HCK.out _).mono ?_
    rintro e w' ⟨rfl, rfl⟩
    go_wp2
    go_ret2
    rw [HV.out, HE.out]
    exact ⟨rfl, New.refl _⟩
theorem badE (n : Nat) (N : Int) (x : BitVec 64) : (chk 64 n N = 0 ∧ x.toNat < 4294967296 ∧ evE 64 n N x = 0) ∨ (chk 64 n N = 0 ∧ ¬ x.toNat < 4294967296 ∧ evE 64 n N x = 2) ∨ ((chk 64 n N == 0) = false ∧ (chk 64 n N != 0) = true ∧ evE 64 n N x = chk 64 n N) := by
  by_cases h1 : chk 64 n N = 0
  · by_cases h2 : x.toNat < 4294967296
    · exact Or.inl ⟨h1, h2, by unfold evE; rw [if_neg (by rw [h1]; simp), if_pos h2]⟩
    · exact Or.inr (Or.inl ⟨h1, h2, by unfold evE; rw [if_neg (by rw [h1]; simp), if_neg h2]⟩)
  · exact Or.inr (Or.inr ⟨by rw [beq_eq_false_iff_ne]; exact h1, by rw [bne_iff_ne]; exact h1, by unfold evE; rw [if_pos h1]⟩)
end Go.Proofs.YtebcfbcfipmahaaGreat
end
section
/- Contracts of tabs.Chars and of the document's own Letters as rows of their own; of mixed.Row and of the document's own Row: for all words, all keys. -/
namespace Go.Proofs.YtebcfbcfipmahaaGreat
open Go.RowKit Go.Bv
set_option linter.unusedVariables false
set_option maxRecDepth 100000
theorem own_stay {w w' : World} {base : Nat} {e : TypeId} {size : Nat} {v : Value} {n : Nat} {xs : List Value} (h : w.ownsRow base e size v n xs) (hn : New w w') : w'.ownsRow base e size v n xs := by
  obtain ⟨hl, h⟩ := h
  refine ⟨hl, ?_⟩
  rcases h with h | ⟨g, cap, cur, hv, hb, hc, h2⟩
  · exact Or.inl h
  · exact Or.inr ⟨g, cap, cur, hv, hb, by rw [hn.block _ (lt_of_block hc)]; exact hc, h2⟩
set_option maxHeartbeats 1000000 in
theorem chars_own (x : BitVec 64) (n : Int) (m : Nat) (hm : m ≤ 16) (hnm : min (max n 0) 16 = (m : Int)) (w : World) :
    Calls Tryz.prog 93 #[.int .u64 (W64 x), .int .i64 n] w fun e w' =>
      ∃ v, e = .returned v ∧ w'.ownsRow w.heap.size 3 1 v m ((lets x m).map fun y => .int .i64 y) ∧ New w w' := by
  obtain ⟨i0, hi, hz0, hz1, hz2⟩ := info_parts info_i64
  have hmk := run_make_row (P := Tryz.prog) 55 3 i0 (.int .i64 0) Tryz.underlying55 hi hz0 hz1 rfl .i64 .i64 m (by rw [hz2]; omega) (by omega) w
  have HM := Lib.hid (made_i m (fun i => (lets x m).getD i 0))
  have h0 : ¬ (m : Int) < 0 := by omega
  have hmk1 : Hid (∀ t : Int, t = (m : Int) → (Instr.makeSlice 55 (.int .i64 t) (.int .i64 t)).run Tryz.prog w = .ok (.slice (some ⟨w.heap.size, 0, none⟩) m m) (w.alloc (.cells (madeCells #[.int .i64 0] m) 3))) := Lib.hid (by rintro t rfl; exact hmk)
  clear hmk
  have h16 : ∀ k : Nat, k < m → wrap64 (4 * (k : Int)) = 4 * (k : Int) := by intro k hk; unfold wrap64; omega
  have H16 := Lib.hid h16
  clear h16
  go_enter Tryz.func93, Tryz.ntmps93
  go_wp2
  all_goals (
    rw [hmk1.out _ (by omega)]
    go_wp2
    go_loopw [13] (fun i wr => ∃ (k : Nat) (cs : Array Value), k ≤ m ∧ i = .int .i64 k ∧ wr.heap[w.heap.size]? = some (.cells cs 3 (0, 0)) ∧ Hid (cs.size = m ∧ ∀ j, j < m → cs[j]? = some (.int .i64 (if j < k then (lets x m).getD j 0 else 0))) ∧ New w wr) (fun i _ => m - (intOf i).toNat)
    case atStart => exact ⟨0, _, by omega, rfl, heap_alloc_new _ _, HM, (New.refl w).alloc _⟩
    case round =>
      obtain ⟨k, cs, hk, rfl, hb1, H, hn⟩ := hrel
      by_cases hlt : (k : Int) < m
      · first
        | (exfalso; omega)
        | (
          have hcell : wr.cell? ⟨w.heap.size, k, none⟩ = some (.int .i64 (if k < k then (lets x m).getD k 0 else 0)) := by
            rw [cell_of_row _ _ _ _ _ _ hb1]; exact H.out.2 k (by omega)
          have hfree := frozen_of_row wr w.heap.size k cs _ hb1
          have hd := heap_setCell_same wr w.heap.size k cs _ (.int .i64 (lat x k)) hb1
          have HD := Lib.hid hd
          clear hd
          have e4 := H16.out k (by omega)
          have e5 : (4 * (k : Int)).toNat = 4 * k := by omega
          have e6 : wrap64 (W64 (x >>> (4 * k) % 16#64)) = lat x k := by have := lat_lt x k; unfold lat at *; unfold wrap64; omega
          go_wp2
          refine ⟨⟨k + 1, _, by omega, by go_num, HD.out, Lib.hid ⟨by rw [Array.size_setIfInBounds]; exact H.out.1, ?_⟩, hn.setCell (Nat.le_refl _) _⟩, by simp [intOf]; omega⟩
          intro j hj
          have hs := H.out.1
          rw [Array.getElem?_setIfInBounds]
          by_cases e : k = j
          · subst e
            rw [if_pos rfl, if_pos (by omega), if_pos (by omega), lets_at _ _ _ hj]
          · rw [if_neg e, H.out.2 j hj]
            refine congrArg (fun d => some (Value.int .i64 d)) ?_
            by_cases e2 : j < k
            · rw [if_pos e2, if_pos (by omega)]
            · rw [if_neg e2, if_neg (by omega)])
      · obtain rfl : k = m := by omega
        go_wp2
        go_ret
        refine ⟨_, rfl, ⟨by simp [lets_len], Or.inr ⟨w.heap.size, k, cs, rfl, Nat.le_refl _, hb1, Nat.le_refl _, by unfold maxLen; omega, by rw [H.out.1, Nat.mul_one], ?_⟩⟩, hn⟩
        apply List.ext_getElem?
        intro j
        rw [Nat.mul_one, List.getElem?_take]
        by_cases hj : j < k
        · rw [if_pos hj, Array.getElem?_toList, H.out.2 j hj, if_pos hj, List.getElem?_map, List.getD_eq_getElem?_getD, List.getElem?_eq_getElem (by rw [lets_len]; exact hj)]
          rfl
        · rw [if_neg hj, List.getElem?_eq_none (by rw [List.length_map, lets_len]; omega)])
set_option maxHeartbeats 1000000 in
theorem letters_own (x : BitVec 64) (n : Int) (m : Nat) (hm : m ≤ 16) (hnm : min (max n 0) 16 = (m : Int)) (w : World) :
    Calls Tryz.prog 64 #[.int .u64 (W64 x), .int .i64 n] w fun e w' =>
      ∃ v, e = .returned v ∧ w'.ownsRow w.heap.size 3 1 v m ((lets x m).map fun y => .int .i64 y) ∧ New w w' := by
  obtain ⟨i0, hi, hz0, hz1, hz2⟩ := info_parts info_i64
  have hx0 : x >>> (4 * 0) = x := by simp
  have hstart : W64 x = W64 (x >>> (4 * 0)) := by rw [hx0]
  have HS := Lib.hid hstart
  clear hstart hx0
  go_enter Tryz.func64, Tryz.ntmps64
  go_wp2
  go_loopw [0, 5, 6] (fun xv v i wr => ∃ k : Nat, k ≤ m ∧ i = .int .i64 k ∧ xv = .int .u64 (W64 (x >>> (4 * k))) ∧ wr.ownsRow w.heap.size 3 1 v k ((lets x k).map fun y => .int .i64 y) ∧ New w wr) (fun _ _ i _ => m - (intOf i).toNat)
  case atStart => exact ⟨0, by omega, rfl, congrArg (Value.int .u64) HS.out, World.ownsRow_nil w _ _ 1, New.refl w⟩
  case round =>
    obtain ⟨k, hk, rfl, rfl, hown, hnew⟩ := hrel
    by_cases hlt : k < m
    · have hlt1 : (k : Int) < n := by omega
      have hlt2 : (k : Int) < 16 := by omega
      have e6 : wrap64 (W64 (x >>> (4 * k) % 16#64)) = lat x k := by have := lat_lt x k; unfold lat at *; unfold wrap64; omega
      have e7 := lat_next x k
      go_wp2_with (at_builtin; refine wpList_append_own _ rfl _ _ 55 rfl w.heap.size 3 i0 (.int .i64 0) 1 8 Tryz.underlying55 hi hz0 hz1 hz2 rfl (by decide) _ k _ rfl (hown.alloc _) ⟨wr.heap.size, 0, none⟩ 1 1 [.int .i64 (lat x k)] rfl rfl ?c1 ?c2 ?c3 ?c4 ?c5 ?_)
      case c1 => exact new_cells_i wr _ _
      case c2 => intro u hu; simp at hu; subst hu; rfl
      case c3 => unfold maxLen; omega
      case c4 => omega
      case c5 => simp; have := hnew.le; omega
      intro v' w1 how hgr _
      have how2 : w1.ownsRow w.heap.size 3 1 v' (k + 1) ((lets x (k + 1)).map fun y => .int .i64 y) := by
        rw [lets_succ, List.map_append]; exact how
      have hn1 : New w w1 := (hnew.alloc _).grown' hgr (own_base hown)
      clear how hgr
      go_wp2
      exact ⟨⟨k + 1, by omega, by go_num, rfl, how2, hn1⟩, by simp [intOf]; omega⟩
    · obtain rfl : k = m := by omega
      by_cases hk16 : k = 16
      · have hlt2 : ¬ (k : Int) < 16 := by omega
        by_cases hlt1 : (k : Int) < n
        · go_wp2
          go_ret
          exact ⟨_, rfl, hk16 ▸ hown, hnew⟩
        · go_wp2
          go_ret
          exact ⟨_, rfl, hk16 ▸ hown, hnew⟩
      · have hlt1 : ¬ (k : Int) < n := by omega
        go_wp2
        go_ret
        exact ⟨_, rfl, hown, hnew⟩
/-- the word from which letters are derived, by the first letters -/
def dwx (l : List (BitVec 64)) (x : BitVec 64) : Nat → BitVec 64
  | 0 => 0#64
  | k + 1 => dwx l x k ^^^ l.getD (192 + 16 * k + (lat x k).toNat) 0
theorem dwx_xs (l : List (BitVec 64)) (x : BitVec 64) : ∀ k, k ≤ 8 → xs ((l.drop 192).take 128) (lets x 8) k = dwx l x k
  | 0, _ => rfl
  | k + 1, h => by
    have hl := lat_lt x k
    show xs ((l.drop 192).take 128) (lets x 8) k ^^^ ((l.drop 192).take 128).getD (16 * k + ((lets x 8).getD k 0).toNat) 0 = dwx l x k ^^^ l.getD (192 + 16 * k + (lat x k).toNat) 0
    rw [dwx_xs l x k (by omega), lets_at _ _ _ (by omega), getD_part _ _ _ _ (by omega), Nat.add_assoc]
def rowM (l : List (BitVec 64)) (x : BitVec 64) : List Int := lets x 8 ++ lets (dwx l x 8) 4
theorem rowM_len (l : List (BitVec 64)) (x : BitVec 64) : (rowM l x).length = 12 := by unfold rowM; rw [List.length_append, lets_len, lets_len]
theorem rowM_mem (l : List (BitVec 64)) (x : BitVec 64) : ∀ n ∈ rowM l x, 0 ≤ n ∧ n < 16 := by
  intro n hn
  unfold rowM at hn
  rcases List.mem_append.1 hn with h | h
  · exact lets_mem _ _ _ h
  · exact lets_mem _ _ _ h
theorem rowM_wf (l : List (BitVec 64)) (x : BitVec 64) : ∀ n ∈ rowM l x, In64 n := by
  intro n hn; have := rowM_mem l x n hn; unfold In64; omega
set_option maxHeartbeats 1000000 in
theorem rowing1_any (x : BitVec 64) (g b off : Nat) (l : List (BitVec 64)) (w : World) (hL : l.length = 320) (hg : w.cell? ⟨g, 0, none⟩ = some (.slice (some ⟨b, off, none⟩) 128 128)) (hq : QRow w (some ⟨b, off, none⟩) 128 128 ((l.drop 192).take 128)) :
    Calls Tryz.prog 139 #[.int .u64 (W64 x), .pointer (some ⟨g, 0, none⟩)] w fun e w' => ∃ a cap, e = .returned (.slice a 12 cap) ∧ ZRow w' a 12 cap (rowM l x) ∧ New w w' := by
  obtain ⟨i0, hi, hz0, hz1, hz2⟩ := info_parts info_i64
  have hsv : sv ((l.drop 192).take 128) (lets x 8) = dwx l x 8 := by
    rw [sv_lets _ _ 8 (by rw [List.length_take, List.length_drop, hL]; omega), dwx_xs l x 8 (by omega)]
  have HSV := Lib.hid hsv
  clear hsv
  have HR : Hid (lets x 8 ++ lets (dwx l x 8) 4 = rowM l x) := Lib.hid rfl
  go_enter Tryz.func139, Tryz.ntmps139
  go_wp2_with fail
  refine (chars_own x 8 8 (by omega) (by decide) _).mono ?_
  rintro e w1 ⟨v, rfl, hown, hn1⟩
  obtain ⟨a1, c1, rfl, hz⟩ := ZRow.of_owns hown (by omega) (lets_wf _ _)
  have g1 : w1.cell? ⟨g, 0, none⟩ = some (.slice (some ⟨b, off, none⟩) 128 128) := by
    rw [hn1.cell (a := ⟨g, 0, none⟩) (World.block_lt_of_cell? _ _ hg)]; exact hg
  go_wp2_with fail
  refine (sum_any _ _ _ _ _ _ _ _ _ (hq.stay hn1) hz).mono ?_
  rintro e w2 ⟨rfl, hn2⟩
  rw [HSV.out]
  go_wp2_with fail
  refine (chars_any (dwx l x 8) 4 4 (by omega) (by decide) _).mono ?_
  rintro e w3 ⟨a3, c3, rfl, hz3, hn3⟩
  have hown3 := own_stay hown (hn2.trans hn3)
  obtain ⟨b3, o3, rfl, _⟩ := hz3.addr (by omega)
  have hn13 := hn1.trans (hn2.trans hn3)
  clear g1 hn2 hn3 hown hz hn1
  go_wp2_with (at_builtin; refine wpList_append_own _ rfl _ _ 55 rfl w.heap.size 3 i0 (.int .i64 0) 1 8 Tryz.underlying55 hi hz0 hz1 hz2 rfl (by decide) _ 8 _ rfl hown3 ⟨b3, o3, none⟩ 4 c3 ((lets (dwx l x 8) 4).map fun y => .int .i64 y) rfl (by simp [lets_len]) ?c1 ?c2 ?c3 ?c4 ?c5 ?_)
  case c1 => exact hz3.olds _ rfl
  case c2 => intro u hu; obtain ⟨y, _, rfl⟩ := List.mem_map.1 hu; rfl
  case c3 => unfold maxLen; omega
  case c4 => omega
  case c5 => exact hn13.le
  intro v' w4 how hgr _
  rw [← List.map_append, HR.out] at how
  have hn4 : New w w4 := hn13.grown' hgr (own_base hown3)
  obtain ⟨a5, c5, rfl, hz5⟩ := ZRow.of_owns how (by omega) (rowM_wf l x)
  clear how hgr
  go_wp2
  go_ret
  exact ⟨_, _, rfl, hz5, hn4⟩
end Go.Proofs.YtebcfbcfipmahaaGreat
end
