/- Layer 43: how many pairs that tell an item lie ahead of a pair. -/
import Derived.Test.YtbjclkjikclljaaAliG
namespace Go.Ali
/-- what a span counts of the column k, if pairs ahead of (c, u) are counted -/
def cfV (T : BitVec 64) (c : Int) (u : BitVec 64) (k : Nat) (f t : BitVec 64) : BitVec 64 := if (k : Int) < c then szV f t T else if (k : Int) = c then szV f t u else 0#64
theorem cf_lt {T : BitVec 64} {c : Int} {u : BitVec 64} {k : Nat} (f t : BitVec 64) (h : (k : Int) < c) : cfV T c u k f t = szV f t T := by unfold cfV; rw [if_pos h]
theorem cf_eq {T : BitVec 64} {c : Int} {u : BitVec 64} {k : Nat} (f t : BitVec 64) (h : (k : Int) = c) : cfV T c u k f t = szV f t u := by unfold cfV; rw [if_neg (by omega), if_pos h]
theorem cf_gt {T : BitVec 64} {c : Int} {u : BitVec 64} {k : Nat} (f t : BitVec 64) (h : ¬ (k : Int) < c) (h2 : ¬ (k : Int) = c) : cfV T c u k f t = 0#64 := by unfold cfV; rw [if_neg h, if_neg h2]
theorem bf_next (T : BitVec 64) (be : List (BitVec 64)) (al : List Int) (item c : Int) (u : BitVec 64) (k : Nat) :
    bfK T be al item c u (k + 1) = bfK T be al item c u k + cfV T c u k 0#64 (sp0 be k item) + cfV T c u k (sp1 be al k item) (sp2 T al k item) := by
  show bfK T be al item c u k + _ = _
  rw [BitVec.add_assoc]
  congr 1
  by_cases h : (k : Int) < c
  · rw [if_pos h, cf_lt _ _ h, cf_lt _ _ h]; rfl
  · by_cases h2 : (k : Int) = c
    · rw [if_neg h, if_pos h2, cf_eq _ _ h2, cf_eq _ _ h2]; rfl
    · rw [if_neg h, if_neg h2, cf_gt _ _ h h2, cf_gt _ _ h h2]; rfl
end Go.Ali
namespace Go.Proofs.Ytbjclkjikclljaa
open Go Go.RowKit Go.Bv Go.Ali
set_option linter.unusedVariables false
set_option maxRecDepth 100000
set_option maxHeartbeats 8000000 in
theorem before_43 (T : BitVec 64) (ab : Option Addr) (n cb : Nat) (aa : Option Addr) (ca : Nat) (be : List (BitVec 64)) (al : List Int) (item c : Int) (u : BitVec 64) (w : World) (h : TL w ab n cb aa n ca be al) :
    Calls Try.prog 31 #[tv T ab n cb aa n ca, .int .i64 item, .int .i64 c, .int .u64 (W64 u)] w fun e w' => e = .returned (.int .u64 (W64 (bfK T be al item c u n))) ∧ New w w' := by
  have hm := h.b.most
  have hbx := heap_alloc_new w (TB (.int .u64 (W64 T)) (.slice ab n cb) (.slice aa n ca))
  have hn0 := (New.refl w).alloc (TB (.int .u64 (W64 T)) (.slice ab n cb) (.slice aa n ca))
  have k1 := cell_of_row _ _ 1 _ _ _ hbx
  have hz : W64 0#64 = 0 := W64_lit 0 (by omega)
  have HT0 : Hid (Value.int .u64 0 = .int .u64 (W64 (bfK T be al item c u 0))) := Lib.hid (by rw [show bfK T be al item c u 0 = 0#64 from rfl, hz])
  have HTL := Lib.hid h
  have HZ := Lib.hid hz
  have HBX := Lib.hid hbx
  have HN0 := Lib.hid hn0
  clear hbx hn0 h hz
  go_enter Try.func31, Try.ntmps31
  go_wp2
  go_loopw [9, 16] (fun sv iv wr => ∃ k : Nat, k ≤ n ∧ iv = .int .i64 (k : Int) ∧ sv = .int .u64 (W64 (bfK T be al item c u k)) ∧ Hid (New (w.alloc (TB (.int .u64 (W64 T)) (.slice ab n cb) (.slice aa n ca))) wr)) (fun _ iv _ => n - (intOf iv).toNat)
  case atStart => exact ⟨0, Nat.zero_le _, rfl, HT0.out, Lib.hid (New.refl _)⟩
  case round =>
    clear k1 HT0
    obtain ⟨k, hk, rfl, rfl, HN⟩ := hrel
    by_cases hlt : (k : Int) < (n : Int)
    · have hk0 : (0 : Int) ≤ (k : Int) := by omega
      have hkn : k < n := by omega
      have k0 := cell_of_row _ _ 0 _ _ _ (blk_stay HBX.out HN.out)
      have k1 := cell_of_row _ _ 1 _ _ _ (blk_stay HBX.out HN.out)
      have k2 := cell_of_row _ _ 2 _ _ _ (blk_stay HBX.out HN.out)
      have HSP := Lib.hid (spans_43 T ab n cb aa ca be al k item hkn _ (HTL.out.stay (HN0.out.trans HN.out)))
      have HBN := Lib.hid (bf_next T be al item c u k)
      obtain ⟨x, hx⟩ : ∃ x, bfK T be al item c u k = x := ⟨_, rfl⟩
      obtain ⟨s0, hs0⟩ : ∃ x, sp0 be k item = x := ⟨_, rfl⟩
      obtain ⟨s1, hs1⟩ : ∃ x, sp1 be al k item = x := ⟨_, rfl⟩
      obtain ⟨s2, hs2⟩ : ∃ x, sp2 T al k item = x := ⟨_, rfl⟩
      rw [hs0, hs1, hs2] at HSP
      rw [hx, hs0, hs1, hs2] at HBN
      rw [hx]
      clear hx hs0 hs1 hs2
      go_wp2_with fail
      refine HSP.out.mono ?_
      rintro e w2 ⟨rfl, n2⟩
      have HN2 := Lib.hid (HN.out.trans n2)
      clear k0 k1 k2 n2 HSP
      go_wp2
      go_loopw [9, 23] (fun sv iv wr => ((iv = .int .i64 0 ∧ sv = .int .u64 (W64 x)) ∨ (iv = .int .i64 1 ∧ sv = .int .u64 (W64 (x + cfV T c u k 0#64 s0))) ∨ (iv = .int .i64 2 ∧ sv = .int .u64 (W64 (x + cfV T c u k 0#64 s0 + cfV T c u k s1 s2)))) ∧ Hid (New (w.alloc (TB (.int .u64 (W64 T)) (.slice ab n cb) (.slice aa n ca))) wr)) (fun _ iv _ => 2 - (intOf iv).toNat)
      case atStart => exact ⟨Or.inl ⟨rfl, rfl⟩, HN2⟩
      case round =>
        clear HN HN2
        obtain ⟨hh, HN⟩ := hrel
        have ix0 : ∀ w, (Instr.index 69 (.agg #[.int .u64 0, .int .u64 (W64 s0), .int .u64 (W64 s1), .int .u64 (W64 s2)]) (.int .i64 0)).run Try.prog w = .ok (.agg #[.int .u64 0, .int .u64 (W64 s0)]) w := fun _ => rfl
        have ix1 : ∀ w, (Instr.index 69 (.agg #[.int .u64 0, .int .u64 (W64 s0), .int .u64 (W64 s1), .int .u64 (W64 s2)]) (.int .i64 1)).run Try.prog w = .ok (.agg #[.int .u64 (W64 s1), .int .u64 (W64 s2)]) w := fun _ => rfl
        rcases hh with ⟨rfl, rfl⟩ | ⟨rfl, rfl⟩ | ⟨rfl, rfl⟩
        · clear ix1
          have HNA := fun o : Obj => HN.out.alloc o
          have k0 := fun o : Obj => cell_of_row _ _ 0 _ _ _ (blk_stay HBX.out (HNA o))
          have q0 := cell_of_row _ _ 0 _ _ _ (heap_alloc_new wr (.cells #[.int .u64 0, .int .u64 (W64 s0)] 68))
          have q1 := cell_of_row _ _ 1 _ _ _ (heap_alloc_new wr (.cells #[.int .u64 0, .int .u64 (W64 s0)] 68))
          have HNA := Lib.hid (HNA (.cells #[.int .u64 0, .int .u64 (W64 s0)] 68))
          by_cases hc1 : (k : Int) < c
          · skip
            have HSZ := size_43 0#64 s0 T (wr.alloc (.cells #[.int .u64 0, .int .u64 (W64 s0)] 68))
            rw [HZ.out] at HSZ
            have HSZ := Lib.hid HSZ
            have HC := Lib.hid (cf_lt (T := T) (u := u) 0#64 s0 hc1)
            go_wp2_with fail
            refine HSZ.out.mono ?_
            rintro e w3 ⟨rfl, n3⟩
            have HN3 := Lib.hid (HNA.out.trans n3)
            clear k0 q0 q1 n3 HSZ
            go_wp2
            exact ⟨⟨Or.inr (Or.inl ⟨by go_num, by rw [HC.out]⟩), HN3⟩, by simp [intOf]⟩
          · by_cases hc2 : (k : Int) = c
            · have hb : ((k : Int) == c) = true := by rw [beq_iff_eq]; exact hc2
              have HSZ := size_43 0#64 s0 u (wr.alloc (.cells #[.int .u64 0, .int .u64 (W64 s0)] 68))
              rw [HZ.out] at HSZ
              have HSZ := Lib.hid HSZ
              have HC := Lib.hid (cf_eq (T := T) (u := u) 0#64 s0 hc2)
              clear hc2
              go_wp2_with fail
              refine HSZ.out.mono ?_
              rintro e w3 ⟨rfl, n3⟩
              have HN3 := Lib.hid (HNA.out.trans n3)
              clear k0 q0 q1 n3 HSZ
              go_wp2
              exact ⟨⟨Or.inr (Or.inl ⟨by go_num, by rw [HC.out]⟩), HN3⟩, by simp [intOf]⟩
            · have hb : ((k : Int) == c) = false := by rw [beq_eq_false_iff_ne]; exact hc2
              have HC := Lib.hid (cf_gt (T := T) (u := u) 0#64 s0 hc1 hc2)
              go_wp2
              exact ⟨⟨Or.inr (Or.inl ⟨by go_num, by rw [HC.out, BitVec.add_zero]⟩), HNA⟩, by simp [intOf]⟩
        · clear ix0
          have HNA := fun o : Obj => HN.out.alloc o
          have k0 := fun o : Obj => cell_of_row _ _ 0 _ _ _ (blk_stay HBX.out (HNA o))
          have q0 := cell_of_row _ _ 0 _ _ _ (heap_alloc_new wr (.cells #[.int .u64 (W64 s1), .int .u64 (W64 s2)] 68))
          have q1 := cell_of_row _ _ 1 _ _ _ (heap_alloc_new wr (.cells #[.int .u64 (W64 s1), .int .u64 (W64 s2)] 68))
          have HNA := Lib.hid (HNA (.cells #[.int .u64 (W64 s1), .int .u64 (W64 s2)] 68))
          by_cases hc1 : (k : Int) < c
          · skip
            have HSZ := size_43 s1 s2 T (wr.alloc (.cells #[.int .u64 (W64 s1), .int .u64 (W64 s2)] 68))
            have HSZ := Lib.hid HSZ
            have HC := Lib.hid (cf_lt (T := T) (u := u) s1 s2 hc1)
            go_wp2_with fail
            refine HSZ.out.mono ?_
            rintro e w3 ⟨rfl, n3⟩
            have HN3 := Lib.hid (HNA.out.trans n3)
            clear k0 q0 q1 n3 HSZ
            go_wp2
            exact ⟨⟨Or.inr (Or.inr ⟨by go_num, by rw [HC.out]⟩), HN3⟩, by simp [intOf]⟩
          · by_cases hc2 : (k : Int) = c
            · have hb : ((k : Int) == c) = true := by rw [beq_iff_eq]; exact hc2
              have HSZ := size_43 s1 s2 u (wr.alloc (.cells #[.int .u64 (W64 s1), .int .u64 (W64 s2)] 68))
              have HSZ := Lib.hid HSZ
              have HC := Lib.hid (cf_eq (T := T) (u := u) s1 s2 hc2)
              clear hc2
              go_wp2_with fail
              refine HSZ.out.mono ?_
              rintro e w3 ⟨rfl, n3⟩
              have HN3 := Lib.hid (HNA.out.trans n3)
              clear k0 q0 q1 n3 HSZ
              go_wp2
              exact ⟨⟨Or.inr (Or.inr ⟨by go_num, by rw [HC.out]⟩), HN3⟩, by simp [intOf]⟩
            · have hb : ((k : Int) == c) = false := by rw [beq_eq_false_iff_ne]; exact hc2
              have HC := Lib.hid (cf_gt (T := T) (u := u) s1 s2 hc1 hc2)
              go_wp2
              exact ⟨⟨Or.inr (Or.inr ⟨by go_num, by rw [HC.out, BitVec.add_zero]⟩), HNA⟩, by simp [intOf]⟩
        · go_wp2
          exact ⟨⟨k + 1, by omega, by go_num, by rw [HBN.out], HN⟩, by simp [intOf]; omega⟩
    · obtain rfl : k = n := by omega
      go_wp2
      go_ret
      exact ⟨rfl, HN0.out.trans HN.out⟩
end Go.Proofs.Ytbjclkjikclljaa
