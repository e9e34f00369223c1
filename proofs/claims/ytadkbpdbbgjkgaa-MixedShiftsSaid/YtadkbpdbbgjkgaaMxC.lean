/- Unlike keys have unlike rows; the example of mixed (awake); the walk of the statement MixedRows: for all words, all keys. -/
import Derived.Test.YtadkbpdbbgjkgaaMxB
namespace Go.Proofs.Ytadkbpdbbgjkgaa
open Go.RowKit Go.Bv
set_option linter.unusedVariables false
theorem rowM_at (l : List (BitVec 64)) (x : BitVec 64) (i : Nat) (hi : i < 8) : (rowM l x).getD i 0 = lat x i := by
  unfold rowM
  rw [List.getD_eq_getElem?_getD, List.getElem?_append_left (by rw [lets_len]; exact hi), ← List.getD_eq_getElem?_getD, lets_at _ _ _ hi]
theorem rowM_inj (l : List (BitVec 64)) (x y : BitVec 64) (hx : x.toNat < 4294967296) (hy : y.toNat < 4294967296) : (rowM l x == rowM l y) = (x == y) := by
  rw [Bool.eq_iff_iff, beq_iff_eq, beq_iff_eq]
  constructor
  · intro h
    have h2 : ∀ i, i < 8 → x >>> (4 * i) % 16#64 = y >>> (4 * i) % 16#64 := by
      intro i hi
      have := congrArg (fun r => r.getD i 0) h
      simp only [rowM_at _ _ _ hi] at this
      exact W64_inj.1 this
    apply BitVec.eq_of_getLsbD_eq
    intro p hp
    by_cases h3 : p < 32
    · have e := h2 (p / 4) (by omega)
      have e2 := congrArg (fun z => z.getLsbD (p % 4)) e
      rw [getLsb_mod16 _ _ _ (by omega) (by omega), getLsb_mod16 _ _ _ (by omega) (by omega), show 4 * (p / 4) + p % 4 = p by omega] at e2
      exact e2
    · have hb : ∀ z : BitVec 64, z.toNat < 4294967296 → z.getLsbD p = false := by
        intro z hz
        rw [← BitVec.testBit_toNat]
        apply Nat.testBit_lt_two_pow
        exact Nat.lt_of_lt_of_le hz (Nat.le_trans (show 4294967296 ≤ 2 ^ 32 by decide) (Nat.pow_le_pow_right (by omega) (by omega)))
      rw [hb x hx, hb y hy]
  · intro h; rw [h]
set_option maxHeartbeats 1000000 in
theorem awake24 (w : World) :
    Calls Try.prog 38 #[] w fun e w' => e = .returned (.bool true) ∧ New w w' := by
  obtain ⟨i0, hi, hz0, hz1, hz2⟩ := info_parts info_u64t
  have hev : evE 64 320 320 33#64 = 0 := by decide +kernel
  have hvv : roM (List.replicate 320 0#64) 33#64 = [1, 2, 0, 0, 0, 0, 0, 0, 0, 0, 0, 0] := by decide +kernel
  have hc2 : chk 8 0 320 = 13 := by decide
  have HEV := Lib.hid hev
  have HVV := Lib.hid hvv
  have HC2 := Lib.hid hc2
  clear hev hvv hc2
  have H33 : Hid (W64 33#64 = 33) := Lib.hid (W64_lit 33 (by omega))
  have HZ : Hid (W64 0#64 = 0) := Lib.hid (W64_lit 0 (by omega))
  go_enter Try.func38, Try.ntmps38
  go_wp2_with fail
  go_loopw [1, 2] (fun v i wr => ∃ k : Nat, k ≤ 320 ∧ i = .int .i64 k ∧ wr.ownsRow w.heap.size 24 1 v k ((List.replicate k 0#64).map fun y => .int .u64 (W64 y)) ∧ New w wr) (fun _ i _ => 320 - (intOf i).toNat)
  case atStart => exact ⟨0, by omega, rfl, World.ownsRow_nil w _ _ 1, New.refl w⟩
  case round =>
    obtain ⟨k, hk, rfl, hown, hnew⟩ := hrel
    by_cases hlt : (k : Int) < 320
    · go_wp2_with (at_builtin; refine wpList_append_own _ rfl _ _ 22 rfl w.heap.size 24 i0 (.int .u64 0) 1 8 Try.underlying22 hi hz0 hz1 hz2 rfl (by decide) _ k _ rfl (hown.alloc _) ⟨wr.heap.size, 0, none⟩ 1 1 [.int .u64 0] rfl rfl ?c1 ?c2 ?c3 ?c4 ?c5 ?_)
      case c1 => exact new_cells_i wr _ _
      case c2 => intro u hu; simp at hu; subst hu; rfl
      case c3 => unfold maxLen; omega
      case c4 => omega
      case c5 => simp; have := hnew.le; omega
      intro v' w2 how hgr _
      have how2 : w2.ownsRow w.heap.size 24 1 v' (k + 1) ((List.replicate (k + 1) 0#64).map fun y => .int .u64 (W64 y)) := by
        rw [List.replicate_succ', List.map_append]
        show w2.ownsRow _ _ _ _ _ (_ ++ [.int .u64 (W64 0#64)])
        rw [List.map_replicate, HZ.out]; rw [HZ.out] at how; exact how
      have hn2 : New w w2 := (hnew.alloc _).grown' hgr (own_base hown)
      clear how hgr
      go_wp2
      exact ⟨⟨k + 1, by omega, by go_num, how2, hn2⟩, by simp [intOf]; omega⟩
    · obtain rfl : k = 320 := by omega
      obtain ⟨a', cap', rfl, hq⟩ := QRow.of_owns hown (by omega)
      have hev2 := rowm_any a' 320 cap' (List.replicate 320 0#64) 33#64 wr hq
      rw [List.length_replicate, HEV.out, HVV.out, H33.out] at hev2
      have HE := Lib.hid hev2
      clear hev2
      go_wp2_with fail
      refine HE.out.mono ?_
      rintro e w3 ⟨a3, n3, c3, rfl, hz3, hn3⟩
      obtain rfl : 12 = n3 := hz3.len_eq
      obtain ⟨b, off, rfl, hc⟩ := hz3.addr (by omega)
      have c0 : w3.cell? ⟨b, off, none⟩ = some (.int .i64 1) := hc 0 (by omega)
      have c1 : w3.cell? ⟨b, off + 1, none⟩ = some (.int .i64 2) := hc 1 (by omega)
      have c11 : w3.cell? ⟨b, off + 11, none⟩ = some (.int .i64 0) := hc 11 (by omega)
      clear hc
      have hfin := hnew.trans hn3
      have HB2 := fun w => checkm_any none 0 0 8 w (by omega)
      rw [HC2.out] at HB2
      have HB2 := Lib.hid HB2
      clear HE hnew hn3 hz3
      go_wp2_with fail
      refine (HB2.out _).mono ?_
      rintro e w' ⟨rfl, rfl⟩
      go_wp2
      go_ret
      exact ⟨rfl, hfin⟩
set_option maxHeartbeats 2000000 in
theorem MixedRows_walk (W : World) (a0 : Option Addr) (n0 m0 : Nat) (z0 : List Int) (w0 : IRow .u64 W a0 n0 m0 z0) (r0 : m0 * 8 ≤ 140737488351232) (a1 : Int) (w1 : (Lit.int .u64 a1).wf = true) (a2 : Int) (w2 : (Lit.int .u64 a2).wf = true) :
    Calls Try.prog 11 #[.slice a0 n0 m0, .int .u64 a1, .int .u64 a2] W fun e w' => e = .returned (.bool true) ∧ Below W.heap.size W w' := by
  obtain ⟨l, hq⟩ := w0.words r0
  obtain ⟨x, rfl⟩ := wf64 w1
  obtain ⟨y, rfl⟩ := wf64 w2
  have hm := hq.most
  have hL := hq.len_eq
  clear w0 w1 w2 r0
  have hck : ∀ w, Calls Try.prog 27 #[.slice a0 n0 m0, .int .i64 64, .int .i64 320] w fun e w' => e = .returned (.int .i64 (chk 64 l.length 320)) ∧ w' = w := by
    rw [hL]; exact fun w => check_ref a0 n0 m0 64 320 w hm
  have HCK := Lib.hid hck
  clear hck
  rcases badE l.length 320 x with ⟨h1, h2, h3⟩ | ⟨h1, h2, h3⟩ | ⟨h1, h2, h3⟩
  · obtain ⟨_, _, b3⟩ := chk_good h1
    have hx : decide (4294967296 ≤ W64 x) = false := decide_eq_false (by unfold W64; omega)
    have hV : roM l x = rowM l x := by unfold roM; rw [if_pos h3]
    have hrow := fun w => rowm_any a0 n0 m0 l x w
    rw [hV, h3] at hrow
    have hrowy := fun w => rowm_any a0 n0 m0 l y w
    have hr := fun w h => rowm_ref a0 n0 m0 l x w h (by omega)
    have HROW := Lib.hid hrow
    have HROWY := Lib.hid hrowy
    have HR := Lib.hid hr
    have hcase : (evE 64 l.length 320 y = 0 ∧ roM l y = rowM l y ∧ (rowM l x == rowM l y) = (x == y)) ∨ (evE 64 l.length 320 y = 2) := by
      rcases badE l.length 320 y with ⟨h4, h5, h6⟩ | ⟨h4, h5, h6⟩ | ⟨h4, h5, h6⟩
      · exact Or.inl ⟨h6, by unfold roM; rw [if_pos h6], rowM_inj l x y h2 h5⟩
      · exact Or.inr h6
      · rw [h1] at h4; cases h4
    have HCASE := Lib.hid hcase
    rw [h1] at HCK
    clear hrow hrowy hr hV h1 h2 h3 b3 hL hcase
    go_enter Try.func11, Try.ntmps11
    go_wp2_with fail
    refine (awake24 _).mono ?_
    rintro e w ⟨rfl, hg⟩
    go_wp2_with fail
    refine (HROW.out _ (hq.stay hg)).mono ?_
    rintro e w3 ⟨a3, n3, c3, rfl, hz3, hn3⟩
    have hg3 := hg.trans hn3
    go_wp2_with fail
    refine (HCK.out _).mono ?_
    rintro e w5 ⟨rfl, rfl⟩
    go_wp2_with fail
    refine (HROWY.out _ (hq.stay hg3)).mono ?_
    rintro e w4 ⟨a4, n4, c4, rfl, hz4, hn4⟩
    have hg4 := hg3.trans hn4
    go_wp2_with fail
    refine (HR.out _ (hq.stay hg4)).mono ?_
    rintro e w6 ⟨a6, c6, rfl, hz6, hn6⟩
    have hg6 := hg4.trans hn6
    go_wp2_with fail
    refine (ints_ref _ _ _ _ _ _ _ _ _ ((hz3.stay hn4).stay hn6) hz6).mono ?_
    rintro e w7 ⟨rfl, hn7⟩
    have hg7 := hg6.trans hn7
    rw [beq_self_eq_true]
    have hz3' := ((hz3.stay hn4).stay hn6).stay hn7
    have hz4' := (hz4.stay hn6).stay hn7
    clear hn3 hn4 hn6 hn7 hg hg3 hg4 hg6 hz3 hz4 hz6
    rcases HCASE.out with ⟨h4, h5, h6⟩ | h4
    · rw [h4]
      rw [h5] at hz4'
      have H6 := Lib.hid h6
      clear HCASE h4 h5 h6
      go_wp2_with fail
      refine (ints_ref _ _ _ _ _ _ _ _ _ hz3' hz4').mono ?_
      rintro e w8 ⟨rfl, hn8⟩
      have hg8 := hg7.trans hn8
      rw [H6.out]
      go_wp2
      go_ret
      exact ⟨rfl, hg8⟩
    · rw [h4]
      clear HCASE h4
      go_wp2
      go_ret
      exact ⟨rfl, hg7⟩
  · have hx : decide (4294967296 ≤ W64 x) = true := decide_eq_true (by unfold W64; omega)
    have hV : roM l x = [] := by unfold roM; rw [if_neg (by rw [h3]; decide)]
    have hrow := fun w => rowm_any a0 n0 m0 l x w
    rw [hV, h3] at hrow
    have HROW := Lib.hid hrow
    rw [h1] at HCK
    clear hrow hV h1 h2 h3
    go_enter Try.func11, Try.ntmps11
    go_wp2_with fail
    refine (awake24 _).mono ?_
    rintro e w ⟨rfl, hg⟩
    go_wp2_with fail
    refine (HROW.out _ (hq.stay hg)).mono ?_
    rintro e w3 ⟨a3, n3, c3, rfl, hz3, hn3⟩
    have hg3 := hg.trans hn3
    obtain rfl : 0 = n3 := hz3.len_eq
    go_wp2_with fail
    refine (HCK.out _).mono ?_
    rintro e w5 ⟨rfl, rfl⟩
    go_wp2
    go_ret
    exact ⟨rfl, hg3⟩
  · have hV : roM l x = [] := by unfold roM; rw [if_neg (by rw [h3]; rw [bne_iff_ne] at h2; exact h2)]
    have hrow := fun w => rowm_any a0 n0 m0 l x w
    rw [hV, h3] at hrow
    have HROW := Lib.hid hrow
    clear hrow hV h3
    generalize chk 64 l.length 320 = q at *
    go_enter Try.func11, Try.ntmps11
    go_wp2_with fail
    refine (awake24 _).mono ?_
    rintro e w ⟨rfl, hg⟩
    go_wp2_with fail
    refine (HROW.out _ (hq.stay hg)).mono ?_
    rintro e w3 ⟨a3, n3, c3, rfl, hz3, hn3⟩
    have hg3 := hg.trans hn3
    obtain rfl : 0 = n3 := hz3.len_eq
    go_wp2_with fail
    refine (HCK.out _).mono ?_
    rintro e w5 ⟨rfl, rfl⟩
    go_wp2
    go_ret
    exact ⟨rfl, hg3⟩
end Go.Proofs.Ytadkbpdbbgjkgaa
