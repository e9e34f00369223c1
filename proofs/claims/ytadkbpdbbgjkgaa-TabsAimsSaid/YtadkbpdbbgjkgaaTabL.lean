/- The example of tabs (awake); the walks of the statements TabsSums and TabsEvals: for all words, all rows, all keys. -/
import Derived.Test.YtadkbpdbbgjkgaaTabC
namespace Go.Proofs.Ytadkbpdbbgjkgaa
open Go.RowKit Go.Bv
set_option linter.unusedVariables false
theorem info_u64t : (Try.prog.info? 24).map (fun i => (i.zero, i.size, i.bytes)) = some (some (.int .u64 0), 1, 8) := by kernel_rfl
def rise (m : Nat) : List (BitVec 64) := (List.range m).map (BitVec.ofNat 64)
theorem rise_len (m : Nat) : (rise m).length = m := by simp [rise]
theorem rise_succ (m : Nat) : rise (m + 1) = rise m ++ [BitVec.ofNat 64 m] := by
  unfold rise; rw [List.range_succ, List.map_append]; rfl
set_option maxHeartbeats 1000000 in
theorem awake22 (w : World) :
    Calls Try.prog 14 #[] w fun e w' => e = .returned (.bool true) ∧ New w w' := by
  obtain ⟨i0, hi, hz0, hz1, hz2⟩ := info_parts info_u64t
  have hev : evE 64 128 128 0#64 = 0 := by decide +kernel
  have hvv : W64 (evV (rise 128) 64 128 0#64) = 0 := by decide +kernel
  have hl0 : (lets 33#64 3).getD 0 0 = 1 := by decide +kernel
  have hl1 : (lets 33#64 3).getD 1 0 = 2 := by decide +kernel
  have hc1 : chk 8 128 128 = 0 := by decide
  have hc2 : chk 8 0 128 = 13 := by decide
  have HEV := Lib.hid hev
  have HVV := Lib.hid hvv
  have HL0 := Lib.hid hl0
  have HL1 := Lib.hid hl1
  have HC1 := Lib.hid hc1
  have HC2 := Lib.hid hc2
  clear hev hvv hl0 hl1 hc1 hc2
  have h33 : W64 33#64 = 33 := W64_lit 33 (by omega)
  have hch := chars_any 33#64 3 3 (by omega) (by decide) w
  rw [h33] at hch
  have HCH := Lib.hid hch
  clear hch h33
  go_enter Try.func14, Try.ntmps14
  go_wp2_with fail
  refine HCH.out.mono ?_
  rintro e w1 ⟨a1, c1, rfl, hrow, hn1⟩
  clear HCH
  go_wp2_with fail
  go_loopw [2, 3] (fun v i wr => ∃ k : Nat, k ≤ 128 ∧ i = .int .i64 k ∧ wr.ownsRow w1.heap.size 24 1 v k ((rise k).map fun y => .int .u64 (W64 y)) ∧ New w1 wr) (fun _ i _ => 128 - (intOf i).toNat)
  case atStart => exact ⟨0, by omega, rfl, World.ownsRow_nil w1 _ _ 1, New.refl w1⟩
  case round =>
    obtain ⟨k, hk, rfl, hown, hnew⟩ := hrel
    by_cases hlt : (k : Int) < 128
    · have hcv : IntKind.u64.wrap (k : Int) = W64 (BitVec.ofNat 64 k) := by rw [wrap_u64]; rfl
      go_wp2_with (at_builtin; refine wpList_append_own _ rfl _ _ 22 rfl w1.heap.size 24 i0 (.int .u64 0) 1 8 Try.underlying22 hi hz0 hz1 hz2 rfl (by decide) _ k _ rfl (hown.alloc _) ⟨wr.heap.size, 0, none⟩ 1 1 [.int .u64 (W64 (BitVec.ofNat 64 k))] rfl rfl ?c1 ?c2 ?c3 ?c4 ?c5 ?_)
      case c1 => exact new_cells_i wr _ _
      case c2 => intro u hu; simp at hu; subst hu; rfl
      case c3 => unfold maxLen; omega
      case c4 => omega
      case c5 => simp; have := hnew.le; omega
      intro v' w2 how hgr _
      have how2 : w2.ownsRow w1.heap.size 24 1 v' (k + 1) ((rise (k + 1)).map fun y => .int .u64 (W64 y)) := by
        rw [rise_succ, List.map_append]; exact how
      have hn2 : New w1 w2 := (hnew.alloc _).grown' hgr (own_base hown)
      clear how hgr
      go_wp2
      exact ⟨⟨k + 1, by omega, by go_num, how2, hn2⟩, by simp [intOf]; omega⟩
    · obtain rfl : k = 128 := by omega
      obtain ⟨a', cap', rfl, hq⟩ := QRow.of_owns hown (by omega)
      have h0 : W64 0#64 = 0 := W64_lit 0 (by omega)
      have hev2 := eval_any a' 128 cap' (rise 128) 64 0#64 wr hq
      rw [h0, rise_len, HEV.out, HVV.out] at hev2
      have HE := Lib.hid hev2
      clear hev2
      go_wp2_with fail
      refine HE.out.mono ?_
      rintro e w3 ⟨rfl, hn3⟩
      have hn13 := hnew.trans hn3
      obtain ⟨b, off, rfl, hc⟩ := (hrow.stay hn13).addr (by omega)
      have c0 : w3.cell? ⟨b, off, none⟩ = some (.int .i64 ((lets 33#64 3).getD 0 0)) := hc 0 (by omega)
      have c1 := hc 1 (by omega)
      rw [HL0.out] at c0
      rw [HL1.out] at c1
      clear hc
      have HB1 := fun w => check_any a' 128 cap' 8 w (by omega)
      have HB2 := fun w => check_any none 0 0 8 w (by omega)
      rw [HC1.out] at HB1
      rw [HC2.out] at HB2
      have HB1 := Lib.hid HB1
      have HB2 := Lib.hid HB2
      have hfin := hn1.trans hn13
      clear HE hnew hn3 hn13 hn1
      go_wp2_with fail
      refine (HB1.out _).mono ?_
      rintro e w' ⟨rfl, rfl⟩
      go_wp2_with fail
      refine (HB2.out _).mono ?_
      rintro e w' ⟨rfl, rfl⟩
      go_wp2
      go_ret
      exact ⟨rfl, hfin⟩
set_option maxHeartbeats 1000000 in
theorem TabsSums_walk (W : World) (a0 : Option Addr) (n0 m0 : Nat) (z0 : List Int) (w0 : IRow .u64 W a0 n0 m0 z0) (r0 : m0 * 8 ≤ 140737488351232) (a1 : Option Addr) (n1 m1 : Nat) (z1 : List Int) (w1 : IRow .i64 W a1 n1 m1 z1) (r1 : m1 * 8 ≤ 140737488351232) (a2 : Int) (w2 : (Lit.int .u64 a2).wf = true) (a3 : Int) (w3 : (Lit.int .i64 a3).wf = true) :
    Calls Try.prog 3 #[.slice a0 n0 m0, .slice a1 n1 m1, .int .u64 a2, .int .i64 a3] W fun e w' => e = .returned (.bool true) ∧ Below W.heap.size W w' := by
  obtain ⟨l, hq⟩ := w0.words r0
  obtain ⟨r, hr⟩ := w1.ints r1
  obtain ⟨x, rfl⟩ := wf64 w2
  have hn1 := hr.most
  obtain ⟨m, hm, hnm⟩ : ∃ m : Nat, m ≤ 16 ∧ min (max a3 0) 16 = (m : Int) := ⟨(min (max a3 0) 16).toNat, by omega, by omega⟩
  have HNM := Lib.hid hnm
  clear w0 w1 w2 w3 hnm r0 r1
  by_cases h40 : (40 : Int) < n1
  · go_enter Try.func3, Try.ntmps3
    go_wp2_with fail
    refine (awake22 _).mono ?_
    rintro e w ⟨rfl, hg⟩
    go_wp2
    go_ret
    exact ⟨rfl, hg⟩
  · have hv : ∀ w, QRow w a0 n0 m0 l → ZRow w a1 n1 m1 r → fitE l.length r = 0 → Calls Try.prog 20 #[.slice a0 n0 m0, .slice a1 n1 m1] w fun e w' => e = .returned (.int .u64 (W64 (sv l r))) ∧ New w w' := by
      intro w h1 h2 h3
      have h := sum_ref a0 a1 n0 m0 n1 m1 l r w h1 h2 h3
      unfold sv; rw [if_pos h3]; exact h
    have HV := Lib.hid hv
    have hcase : (fitE l.length r = 0) ∨ ((fitE l.length r != 0) = true ∧ (fitE l.length r == 0) = false ∧ sv l r = 0#64) := by
      by_cases h : fitE l.length r = 0
      · exact Or.inl h
      · exact Or.inr ⟨by rw [bne_iff_ne]; exact h, by rw [beq_eq_false_iff_ne]; exact h, by unfold sv; rw [if_neg h]⟩
    have HC := Lib.hid hcase
    clear hv hcase
    go_enter Try.func3, Try.ntmps3
    go_wp2_with fail
    refine (awake22 _).mono ?_
    rintro e w ⟨rfl, hg⟩
    go_wp2_with fail
    refine (sum_any _ _ _ _ _ _ _ _ _ (hq.stay hg) (hr.stay hg)).mono ?_
    rintro e w3 ⟨rfl, hg3⟩
    have hg3 := hg.trans hg3
    go_wp2_with fail
    refine (fits_ref _ _ _ _ _ _ _ _ _ (hq.stay hg3) (hr.stay hg3)).mono ?_
    rintro e w4 ⟨rfl, hg4⟩
    have hg4 := hg3.trans hg4
    go_wp2_with fail
    refine (chars_any x a3 m hm HNM.out _).mono ?_
    rintro e w5 ⟨a5, c5, rfl, hr5, hn5⟩
    have hg5 := hg4.trans hn5
    go_wp2_with fail
    refine (letters_ref x a3 m hm HNM.out _).mono ?_
    rintro e w6 ⟨a6, c6, rfl, hr6, hn6⟩
    have hg6 := hg5.trans hn6
    go_wp2_with fail
    refine (ints_ref _ _ _ _ _ _ _ _ _ (hr5.stay hn6) hr6).mono ?_
    rintro e w7 ⟨rfl, hn7⟩
    have hg7 := hg6.trans hn7
    rw [beq_self_eq_true]
    clear hn5 hn6 hn7 hg hg6 hg5 hg4 hr5 hr6
    have HQ := Lib.hid (hq.stay hg7)
    have HR := Lib.hid (hr.stay hg7)
    rcases HC.out with h0 | ⟨h1, h2, h3⟩
    · have HF := Lib.hid h0
      rw [h0]
      clear h0 HC
      go_wp2_with fail
      refine (HV.out _ HQ.out HR.out HF.out).mono ?_
      rintro e w8 ⟨rfl, hg8⟩
      go_wp2
      go_ret
      exact ⟨rfl, hg7.trans hg8⟩
    · have h4 : W64 (sv l r) = 0 := by rw [h3]; exact W64_lit 0 (by omega)
      rw [h4]
      clear HC h3
      generalize fitE l.length r = q at h1 h2 ⊢
      go_wp2
      go_ret
      exact ⟨rfl, hg7⟩
set_option maxHeartbeats 1000000 in
theorem TabsEvals_walk (W : World) (a0 : Option Addr) (n0 m0 : Nat) (z0 : List Int) (w0 : IRow .u64 W a0 n0 m0 z0) (r0 : m0 * 8 ≤ 140737488351232) (a1 : Int) (w1 : (Lit.int .i64 a1).wf = true) (a2 : Int) (w2 : (Lit.int .u64 a2).wf = true) :
    Calls Try.prog 6 #[.slice a0 n0 m0, .int .i64 a1, .int .u64 a2] W fun e w' => e = .returned (.bool true) ∧ Below W.heap.size W w' := by
  obtain ⟨l, hq⟩ := w0.words r0
  obtain ⟨x, rfl⟩ := wf64 w2
  have hm := hq.most
  clear w0 w1 w2 r0
  go_enter Try.func6, Try.ntmps6
  go_wp2_with fail
  refine (awake22 _).mono ?_
  rintro e w ⟨rfl, hg⟩
  go_wp2_with fail
  refine (eval_any _ _ _ _ _ _ _ (hq.stay hg)).mono ?_
  rintro e w3 ⟨rfl, hg3⟩
  have hg3 := hg.trans hg3
  go_wp2_with fail
  refine (eval_ref _ _ _ _ _ _ _ (hq.stay hg3)).mono ?_
  rintro e w4 ⟨rfl, hg4⟩
  have hg4 := hg3.trans hg4
  go_wp2_with fail
  refine (check_any _ _ _ _ _ hm).mono ?_
  rintro e w5 ⟨rfl, rfl⟩
  go_wp2_with fail
  refine (check_ref _ _ _ _ _ _ hm).mono ?_
  rintro e w6 ⟨rfl, rfl⟩
  go_wp2
  go_ret
  exact ⟨rfl, hg4⟩
end Go.Proofs.Ytadkbpdbbgjkgaa
