import Derived.Test.YtdjlbpgjbgepdaaGreatYSdsE
import Derived.Test.YtdjlbpgjbgepdaaGreatYDrkB
section
/- Layer 44: Take of any kind; the example; the law SeedsChecks. -/
namespace Go.Proofs.YtdjlbpgjbgepdaaGreat
open Go Go.RowKit Go.Bv
set_option linter.unusedVariables false
set_option maxRecDepth 100000
theorem msF_gt {k : Int} (h : okF k = true) : decide (0 < msF k) = true := by
  rcases okF_k h with rfl | rfl | rfl | rfl | rfl | rfl | rfl | rfl <;> decide
theorem lmW_no {k : Int} (h : okF k = false) : W64 (lmW k) = 0 := by
  have hk : k < 1 ∨ 8 < k := by unfold okF at h; simp at h; omega
  unfold lmW
  rw [if_neg (by omega), if_neg (by omega)]; rfl
theorem wkK_three (k : Int) : wkK k = 0 ∨ wkK k = 1 ∨ wkK k = 2 := by
  unfold wkK
  split
  · exact .inl rfl
  · split
    · exact .inr (.inl rfl)
    · exact .inr (.inr rfl)
theorem take_44 (k0 bi : Int) (n : Nat) (hck : ckS k0 bi (n : Int) = 0) (b g0 : Nat) (l : List (BitVec 64)) (w : World) (ht : Tape w b g0 l 0) : Calls Tryz.prog 14 #[.pointer (some ⟨b, 0, none⟩), .int .i64 k0, .int .i64 bi, .int .i64 (n : Int)] w fun e w' =>
    (∃ ds k g1 g2, sdS (wkK k0) l n = some (ds, k) ∧ e = .returned (.tuple #[.agg (sdc k0 bi (some ⟨g1, 0, none⟩) n n), .slice (some ⟨g2, 0, none⟩) n n, .int .i64 0]) ∧ QRow w' (some ⟨g1, 0, none⟩) n n (ds.map fun d => d.1) ∧ KRow w' (some ⟨g2, 0, none⟩) n n ds ∧ After w w' b g0 l k ∧ w.heap.size ≤ g1) ∨ (sdS (wkK k0) l n = none ∧ e = .returned (.tuple #[.agg zSd, .slice none 0 0, .int .i64 7]) ∧ After w w' b g0 l l.length) := by
  rcases wkK_three k0 with h | h | h
  · exact take_p44 k0 bi n hck _ rfl h b g0 l w ht
  · exact take_odd44 k0 bi n hck _ rfl h b g0 l w ht
  · exact take_any44 k0 bi n hck _ rfl h b g0 l w ht
theorem ex44 : ckS 2 8 ((1 : Nat) : Int) = 0 ∧ sdS (wkK 2) [6#64] 1 = some ([(7#64, 0#64, 1)], 1) := by decide +kernel
theorem After.new {w w' : World} {b g0 j : Nat} {l : List (BitVec 64)} (h : After w w' b g0 l j) {W : World} (hw : New W w) (hb : W.heap.size ≤ b) (hg : W.heap.size ≤ g0) : New W w' := by
  obtain ⟨g, _, h2, _⟩ := h
  exact h2.new W hw hb hg
set_option maxHeartbeats 4000000 in
theorem awake44 (w : World) : Calls Tryz.prog 6 #[] w fun e w' => e = .returned (.bool true) ∧ New w w' := by
  have HQ := Lib.hid (row_one44 w 6#64)
  rw [show W64 6#64 = 6 from by decide] at HQ
  have HN0 := Lib.hid ((New.refl w).alloc (.cells #[.int .u64 6] 23))
  go_enter Tryz.func6, Tryz.ntmps6
  go_wp2_with fail
  refine (new_t _ _ _ _ _ HQ.out).mono ?_
  rintro e w1 ⟨b, rfl, hb, ht, hn1⟩
  have HT := Lib.hid (take_44 2 8 1 ex44.1 b b [6#64] w1 ht)
  have HN1 := Lib.hid (HN0.out.trans hn1)
  have HBB : Hid (w.heap.size ≤ b) := Lib.hid (Nat.le_trans HN0.out.le hb)
  clear ht hn1 hb HQ
  go_wp2_with fail
  refine HT.out.mono ?_
  rintro e w2 (⟨ds, k, g1, g2, hs, rfl, hq, hk, hA, hg⟩ | ⟨hs, _⟩)
  · rw [ex44.2] at hs
    cases hs
    have HN2 := Lib.hid (hA.new HN1.out HBB.out HBB.out)
    have c0 := fun o : Obj => (hq.stay ((New.refl w2).alloc o)).cell g1 0 rfl 0 (by omega)
    have c1 := fun o : Obj => ((hk.stay ((New.refl w2).alloc o)).cell g2 0 rfl 0 (by omega)).2.1
    simp only [Nat.zero_add, Nat.zero_mul, List.map_cons, List.map_nil, List.getD_cons_zero] at c0 c1
    rw [show W64 7#64 = 7 from by decide] at c0
    rw [show W64 0#64 = 0 from by decide] at c1
    clear hq hk hA hg HT
    go_wp2
    go_ret
    exact ⟨rfl, HN2.out.alloc _⟩
  · rw [ex44.2] at hs; cases hs
set_option maxHeartbeats 4000000 in
theorem checks_no (W : World) (k b m : Int) (hk : okF k = false) : Calls Tryz.prog 3 #[.int .i64 k, .int .i64 b, .int .i64 m] W fun e w' => e = .returned (.bool true) ∧ New W w' := by
  have HRC := Lib.hid (fun w => rcheck_44 k b m w)
  have HCH := Lib.hid (fun w => check_44 k b m w)
  have HMO := Lib.hid (fun w => rmost_27 k w)
  have HRL := Lib.hid (fun w => rlimit_44 k w)
  have hE : ckS k b m = 6 := by unfold ckS; rw [if_pos hk]
  have HWH := Lib.hid (fun w => whole_no k b m 6 hE rfl w)
  have HLI := Lib.hid (fun w => limit_no k hk w)
  rw [hE] at HRC HCH
  rw [msF_no hk] at HMO
  rw [lmW_no hk] at HRL
  clear hE hk
  go_enter Tryz.func3, Tryz.ntmps3
  go_wp2_with fail
  refine (awake44 _).mono ?_
  rintro e w1 ⟨rfl, hn1⟩
  go_wp2_with fail
  refine (HLI.out _).mono ?_
  rintro e w2 ⟨rfl, hn2⟩
  go_wp2_with fail
  refine (HRC.out _).mono ?_
  rintro e w3 ⟨rfl, hn3⟩
  go_wp2_with fail
  refine (HWH.out _).mono ?_
  rintro e w4 ⟨rfl, hn4⟩
  go_wp2_with fail
  refine (HCH.out _).mono ?_
  rintro e w5 ⟨rfl, hn5⟩
  go_wp2_with fail
  refine (HMO.out _).mono ?_
  rintro e w6 ⟨rfl, hn6⟩
  go_wp2_with fail
  refine (HRL.out _).mono ?_
  rintro e w7 ⟨rfl, rfl⟩
  go_wp2
  go_ret
  exact ⟨rfl, ((((hn1.trans hn2).trans hn3).trans hn4).trans hn5).trans hn6⟩
set_option maxHeartbeats 4000000 in
theorem checks_bad (W : World) (k b m : Int) (hk : okF k = true) (E : Int) (hE : ckS k b m = E) (h0 : (E == 0) = false) : Calls Tryz.prog 3 #[.int .i64 k, .int .i64 b, .int .i64 m] W fun e w' => e = .returned (.bool true) ∧ New W w' := by
  have HRC := Lib.hid (fun w => rcheck_44 k b m w)
  have HCH := Lib.hid (fun w => check_44 k b m w)
  have HMO := Lib.hid (fun w => rmost_27 k w)
  have HRL := Lib.hid (fun w => rlimit_44 k w)
  have HWH := Lib.hid (fun w => whole_no k b m E hE h0 w)
  have HLI := Lib.hid (fun w => limit_44 k hk w)
  rw [hE] at HRC HCH
  have hms := msF_gt hk
  generalize lmW k = lm at *
  clear hE hk
  go_enter Tryz.func3, Tryz.ntmps3
  go_wp2_with fail
  refine (awake44 _).mono ?_
  rintro e w1 ⟨rfl, hn1⟩
  go_wp2_with fail
  refine (HLI.out _).mono ?_
  rintro e w2 ⟨rfl, hn2⟩
  go_wp2_with fail
  refine (HRC.out _).mono ?_
  rintro e w3 ⟨rfl, hn3⟩
  go_wp2_with fail
  refine (HWH.out _).mono ?_
  rintro e w4 ⟨rfl, hn4⟩
  go_wp2_with fail
  refine (HCH.out _).mono ?_
  rintro e w5 ⟨rfl, hn5⟩
  go_wp2_with fail
  refine (HMO.out _).mono ?_
  rintro e w6 ⟨rfl, hn6⟩
  go_wp2_with fail
  refine (HRL.out _).mono ?_
  rintro e w7 ⟨rfl, rfl⟩
  go_wp2
  go_ret
  exact ⟨rfl, ((((hn1.trans hn2).trans hn3).trans hn4).trans hn5).trans hn6⟩
set_option maxHeartbeats 4000000 in
theorem checks_ok (W : World) (k b m : Int) (n : Nat) (hm : m = (n : Int)) (hE : ckS k b (n : Int) = 0) : Calls Tryz.prog 3 #[.int .i64 k, .int .i64 b, .int .i64 m] W fun e w' => e = .returned (.bool true) ∧ New W w' := by
  subst hm
  have HRC := Lib.hid (fun w => rcheck_44 k b (n : Int) w)
  have HCH := Lib.hid (fun w => check_44 k b (n : Int) w)
  have HMO := Lib.hid (fun w => rmost_27 k w)
  have HRL := Lib.hid (fun w => rlimit_44 k w)
  obtain ⟨hk, n', e1, _, hn320, _⟩ := ckS_ok hE
  have HWH := Lib.hid (fun w => whole_ok k b n hE w)
  have HLI := Lib.hid (fun w => limit_44 k hk w)
  rw [hE] at HRC HCH
  have hms := msF_gt hk
  have hn : n ≤ 320 := by omega
  generalize lmW k = lm at *
  clear hE hk e1 hn320
  go_enter Tryz.func3, Tryz.ntmps3
  go_wp2_with fail
  refine (awake44 _).mono ?_
  rintro e w1 ⟨rfl, hn1⟩
  go_wp2_with fail
  refine (HLI.out _).mono ?_
  rintro e w2 ⟨rfl, hn2⟩
  go_wp2_with fail
  refine (HRC.out _).mono ?_
  rintro e w3 ⟨rfl, hn3⟩
  go_wp2_with fail
  refine (HWH.out _).mono ?_
  rintro e w4 ⟨⟨r, rfl, hq⟩, hn4⟩
  have HQ := Lib.hid hq
  have HN4 := Lib.hid (((hn1.trans hn2).trans hn3).trans hn4)
  clear hq hn1 hn2 hn3 hn4
  go_wp2_with fail
  refine (HCH.out _).mono ?_
  rintro e w5 ⟨rfl, hn5⟩
  go_wp2_with fail
  refine (HMO.out _).mono ?_
  rintro e w6 ⟨rfl, hn6⟩
  have HQ6 := Lib.hid ((HQ.out.stay hn5).stay hn6)
  have HN6 := Lib.hid ((HN4.out.trans hn5).trans hn6)
  clear hn5 hn6 HQ HN4
  go_wp2_with fail
  refine (HRL.out _).mono ?_
  rintro e w7 ⟨rfl, rfl⟩
  go_wp2_with fail
  go_loopw [75] (fun iv wr => ∃ q : Nat, q ≤ n ∧ iv = .int .i64 (q : Int) ∧ wr = w7) (fun iv _ => n - (intOf iv).toNat)
  case atStart => exact ⟨0, Nat.zero_le _, rfl, rfl⟩
  case round =>
    obtain ⟨q, hq, rfl, rfl⟩ := hrel
    by_cases hlt : (q : Int) < (n : Int)
    · have hq0 : (0 : Int) ≤ (q : Int) := by omega
      have cq := HQ6.out.cell r 0 rfl q (by omega)
      rw [List.getD_eq_getElem?_getD, List.getElem?_replicate, if_pos (by omega), Option.getD_some, Nat.zero_add] at cq
      go_wp2
      exact ⟨⟨q + 1, by omega, by go_num, by first | rfl | trivial⟩, by simp [intOf]; omega⟩
    · obtain rfl : q = n := by omega
      go_wp2
      go_ret
      exact ⟨rfl, HN6.out⟩
theorem SeedsChecks_walk (W : World) (a0 : Int) (w0 : (Lit.int .i64 a0).wf = true) (a1 : Int) (w1 : (Lit.int .i64 a1).wf = true) (a2 : Int) (w2 : (Lit.int .i64 a2).wf = true) :
    Calls Tryz.prog 3 #[.int .i64 a0, .int .i64 a1, .int .i64 a2] W fun e w' => e = .returned (.bool true) ∧ Below W.heap.size W w' := by
  cases hk : okF a0
  · exact checks_no W a0 a1 a2 hk
  · by_cases hE : ckS a0 a1 a2 = 0
    · obtain ⟨_, n, rfl, _⟩ := ckS_ok hE
      exact checks_ok W a0 a1 (n : Int) n rfl hE
    · exact checks_bad W a0 a1 a2 hk _ rfl (beq_eq_false_iff_ne.2 hE)
end Go.Proofs.YtdjlbpgjbgepdaaGreat
end
section
/- Layer 44: the mathematics of aims: draws of any kind. -/
namespace Go.Bv
open Go Go.RowKit
theorem odd44_bit (x : BitVec 64) : (x % 2#64 = 0#64 → x ||| 1#64 = x + 1#64 ∧ x &&& 1#64 = 0#64) ∧ (¬ x % 2#64 = 0#64 → x ||| 1#64 = x ∧ x &&& 1#64 = 1#64) := by
  have ha : x &&& 1#64 = x % 2#64 := by
    apply BitVec.eq_of_toNat_eq
    rw [BitVec.toNat_and, BitVec.toNat_umod]
    show x.toNat &&& 1 = x.toNat % 2
    exact Nat.and_one_is_mod _
  have hm : (x % 2#64).toNat = x.toNat % 2 := by rw [BitVec.toNat_umod]; rfl
  have hb : ∀ i, (1#64 : BitVec 64).getLsbD i = decide (i = 0) := by
    intro i
    rw [BitVec.getLsbD_one]; simp
  refine ⟨fun h => ?_, fun h => ?_⟩
  · refine ⟨?_, by rw [ha, h]⟩
    rw [← BitVec.add_eq_or_of_and_eq_zero x 1#64 (by rw [ha, h])]
  · have h1 : x % 2#64 = 1#64 := by
      apply BitVec.eq_of_toNat_eq
      rw [hm]
      have : x.toNat % 2 ≠ 0 := fun e => h (BitVec.eq_of_toNat_eq (by rw [hm, e]; rfl))
      show _ = 1
      omega
    refine ⟨?_, by rw [ha, h1]⟩
    apply BitVec.eq_of_getLsbD_eq
    intro i hi
    rw [BitVec.getLsbD_or, hb]
    by_cases e : i = 0
    · subst e
      have h2 : (x &&& 1#64).getLsbD 0 = true := by rw [ha, h1]; rfl
      rw [BitVec.getLsbD_and, hb] at h2
      have h3 : x.getLsbD 0 = true := by simpa using h2
      rw [h3]; rfl
    · simp [e]
theorem bit_one (i : Nat) : (1#64 : BitVec 64).getLsbD i = decide (i = 0) := by rw [BitVec.getLsbD_one]; simp
theorem odd_val (x : BitVec 64) : (x ||| 1#64) &&& 1#64 = 1#64 := by
  apply BitVec.eq_of_getLsbD_eq
  intro i hi
  rw [BitVec.getLsbD_and, BitVec.getLsbD_or, bit_one]
  by_cases e : i = 0 <;> simp [e]
theorem odd_bck (x : BitVec 64) : (x ||| 1#64) &&& ~~~1#64 ||| x &&& 1#64 = x := by
  apply BitVec.eq_of_getLsbD_eq
  intro i hi
  rw [BitVec.getLsbD_or, BitVec.getLsbD_and, BitVec.getLsbD_and, BitVec.getLsbD_or, BitVec.getLsbD_not, bit_one]
  by_cases e : i = 0 <;> simp [e, hi]
theorem odd_num (v x : BitVec 64) (h : v &&& 1#64 = 1#64) : (v &&& ~~~1#64 ||| x &&& 1#64) ||| 1#64 = v := by
  have h0 : v.getLsbD 0 = true := by
    have := congrArg (fun z => z.getLsbD 0) h
    simpa using this
  apply BitVec.eq_of_getLsbD_eq
  intro i hi
  rw [BitVec.getLsbD_or, BitVec.getLsbD_or, BitVec.getLsbD_and, BitVec.getLsbD_and, BitVec.getLsbD_not, bit_one]
  by_cases e : i = 0
  · subst e; simp [h0]
  · simp [e, hi]
theorem odd_rnk (v x : BitVec 64) : (v &&& ~~~1#64 ||| x &&& 1#64) &&& 1#64 = x &&& 1#64 := by
  apply BitVec.eq_of_getLsbD_eq
  intro i hi
  rw [BitVec.getLsbD_and, BitVec.getLsbD_or, BitVec.getLsbD_and, BitVec.getLsbD_and, BitVec.getLsbD_not, bit_one]
  by_cases e : i = 0 <;> simp [e, hi]
end Go.Bv
namespace Go.Proofs.YtdjlbpgjbgepdaaGreat
open Go Go.RowKit Go.Bv
set_option linter.unusedVariables false
set_option maxRecDepth 100000
/-- words that a seed may have, by how they are drawn -/
def vld (c : Nat) (v : BitVec 64) : Prop := if c = 0 then v.toNat < PPw.toNat else if c = 1 then v &&& 1#64 = 1#64 else True
/-- the word that yields a number and has a rank -/
def wd (c : Nat) (v r : BitVec 64) : BitVec 64 := if c = 0 then wrdN v r PPw else if c = 1 then v &&& ~~~1#64 ||| r else v
theorem stp_spec {c : Nat} {l : List (BitVec 64)} {k k' : Nat} {d : Drw} (hk : k ≤ l.length) (h : stp c l k = some (d, k')) : k < k' ∧ k' ≤ l.length ∧ d.2.2 = k' - k ∧ vld c d.1 ∧ wd c d.1 d.2.1 = l.getD (k' - 1) 0 ∧
    (∀ (v : BitVec 64) (l' : List (BitVec 64)), vld c v → l'.length = l.length → (∀ q, k ≤ q → q < k' - 1 → l'.getD q 0 = l.getD q 0) → l'.getD (k' - 1) 0 = wd c v d.2.1 → stp c l' k = some ((v, d.2.1, d.2.2), k')) := by
  by_cases hc : c = 0
  · subst hc
    unfold stp at h
    rw [if_pos rfl] at h
    by_cases hj : fstT l PPw k < l.length
    · rw [if_pos hj] at h
      obtain ⟨h1, h2, h3⟩ := fstT_spec hk hj
      generalize fstT l PPw k = j at *
      cases h
      have ht := takO_tak h3
      refine ⟨by omega, by omega, rfl, ?_, ?_, ?_⟩
      · unfold vld; rw [if_pos rfl]; exact tel_lt _ _ PPw_ne
      · unfold wd
        rw [if_pos rfl, show j + 1 - 1 = j by omega]
        exact wrdN_back _ _ PPw_ne ht
      · intro v l' hv hl hq hw
        unfold vld at hv
        rw [if_pos rfl] at hv
        unfold wd at hw
        rw [if_pos rfl, show j + 1 - 1 = j by omega] at hw
        have ha := wrdN_all v (rnkN (l.getD j 0) PPw) PPw PPw_ne hv (rnk_ltN _ _ PPw_ne ht)
        have hw' : l'.getD j 0 = wrdN v (rnkN (l.getD j 0) PPw) PPw := hw
        rw [← hw'] at ha
        have hs := stp_yes (l := l') h1 (by omega) (fun i a b => by
          rw [hq i a (by omega), ← lt_takO PPw_ne]; exact h2 i a b) ha.1
        rw [hs]
        unfold drw
        rw [ha.2.1, ha.2.2]
    · rw [if_neg hj] at h; cases h
  · unfold stp at h
    rw [if_neg hc] at h
    by_cases hlt : k < l.length
    · rw [if_pos hlt] at h
      generalize hx : l.getD k 0 = x at h
      cases h
      by_cases h1 : c = 1
      · subst h1
        refine ⟨by omega, by omega, by show 1 = _; omega, ?_, ?_, ?_⟩
        · exact odd_val x
        · show (x ||| 1#64) &&& ~~~1#64 ||| x &&& 1#64 = l.getD (k + 1 - 1) 0
          rw [odd_bck, Nat.add_sub_cancel, hx]
        · intro v l' hv hl hq hw
          rw [stp_word hc (by omega)]
          rw [Nat.add_sub_cancel] at hw
          rw [hw]
          show some (((v &&& ~~~1#64 ||| x &&& 1#64) ||| 1#64, (v &&& ~~~1#64 ||| x &&& 1#64) &&& 1#64, 1), k + 1) = _
          rw [odd_num v x hv, odd_rnk]; rfl
      · have e : dOf c x = (x, 0#64, 1) := by unfold dOf; rw [if_neg h1]
        rw [e]
        refine ⟨by omega, by omega, by show 1 = _; omega, ?_, ?_, ?_⟩
        · unfold vld; rw [if_neg hc, if_neg h1]; trivial
        · unfold wd; rw [if_neg hc, if_neg h1, Nat.add_sub_cancel, hx]
        · intro v l' hv hl hq hw
          rw [stp_word hc (by omega)]
          rw [Nat.add_sub_cancel] at hw
          unfold wd at hw
          rw [if_neg hc, if_neg h1] at hw
          rw [hw]
          unfold dOf; rw [if_neg h1]
    · rw [if_neg hlt] at h; cases h
theorem sdS_prev {c m k : Nat} {l : List (BitVec 64)} {ds : List Drw} (h : sdS c l (m + 1) = some (ds, k)) : ∃ ds0 k0 d, sdS c l m = some (ds0, k0) ∧ ds0.length = m ∧ stp c l k0 = some (d, k) ∧ ds = ds0 ++ [d] := by
  have h' : (match sdS c l m with | none => none | some r => match stp c l r.2 with | none => none | some q => some (r.1 ++ [q.1], q.2)) = some (ds, k) := h
  rcases hm : sdS c l m with _ | ⟨ds0, k0⟩
  · rw [hm] at h'; cases h'
  · rw [hm] at h'
    rcases hs : stp c l k0 with _ | ⟨d, k1⟩
    · simp only [hs] at h'; cases h'
    · simp only [hs] at h'
      cases h'
      exact ⟨ds0, k0, d, rfl, sdS_len hm, hs, rfl⟩
theorem sdS_le {c : Nat} {l : List (BitVec 64)} : ∀ {m ds k}, sdS c l m = some (ds, k) → k ≤ l.length
  | 0, ds, k, h => by cases h; omega
  | m + 1, ds, k, h => by
    obtain ⟨ds0, k0, d, h0, hl, hs, rfl⟩ := sdS_prev h
    exact (stp_spec (sdS_le h0) hs).2.1
theorem sdS_us {c : Nat} {l : List (BitVec 64)} : ∀ {m ds k}, sdS c l m = some (ds, k) → usS ds m = k
  | 0, ds, k, h => by cases h; rfl
  | m + 1, ds, k, h => by
    obtain ⟨ds0, k0, d, h0, hl, hs, rfl⟩ := sdS_prev h
    obtain ⟨h1, h2, h3, _⟩ := stp_spec (sdS_le h0) hs
    subst hl
    show usS _ ds0.length + ((ds0 ++ [_]).getD ds0.length dz).2.2 = k
    rw [usS_app _ _ _ (Nat.le_refl _), sdS_us h0, getD_last, h3]
    omega
/-- what holds of each draw -/
theorem sdS_each {c : Nat} {l : List (BitVec 64)} : ∀ {m ds k}, sdS c l m = some (ds, k) → ∀ i, i < m → vld c (ds.getD i dz).1 ∧ 1 ≤ (ds.getD i dz).2.2 ∧ usS ds (i + 1) ≤ k ∧ wd c (ds.getD i dz).1 (ds.getD i dz).2.1 = l.getD (usS ds (i + 1) - 1) 0
  | 0, ds, k, _, i, hi => by omega
  | m + 1, ds, k, h, i, hi => by
    have hu := sdS_us h
    obtain ⟨ds0, k0, d, h0, hl, hs, rfl⟩ := sdS_prev h
    obtain ⟨h1, h2, h3, h4, h5, _⟩ := stp_spec (sdS_le h0) hs
    by_cases e : i = m
    · subst e
      rw [hu, ← hl, getD_last]
      exact ⟨h4, by omega, Nat.le_refl _, h5⟩
    · obtain ⟨a1, a2, a3, a4⟩ := sdS_each h0 i (by omega)
      rw [getD_app _ _ (by omega), usS_app _ _ _ (by omega)]
      exact ⟨a1, a2, by omega, a4⟩
/-- words behind the draws say nothing of them -/
theorem sdS_set {c : Nat} {l : List (BitVec 64)} {x : BitVec 64} : ∀ {m ds k j}, sdS c l m = some (ds, k) → k ≤ j → sdS c (l.set j x) m = some (ds, k)
  | 0, ds, k, j, h, _ => h
  | m + 1, ds, k, j, h, hk => by
    obtain ⟨ds0, k0, d, h0, hl, hs, rfl⟩ := sdS_prev h
    obtain ⟨h1, h2, h3, h4, h5, h6⟩ := stp_spec (sdS_le h0) hs
    have hg : ∀ q, q < j → (l.set j x).getD q 0 = l.getD q 0 := fun q hq => by
      rw [List.getD_eq_getElem?_getD, List.getElem?_set, if_neg (by omega), ← List.getD_eq_getElem?_getD]
    exact sdS_next (sdS_set h0 (by omega)) (h6 d.1 (l.set j x) h4 (by rw [List.length_set]) (fun q a b => hg q (by omega)) (by rw [hg _ (by omega), h5]))
/-- the row with the words of the first m draws put in place of those that were taken -/
def aimS (c : Nat) (o : List (BitVec 64)) (v : Nat → BitVec 64) (ds : List Drw) : Nat → List (BitVec 64)
  | 0 => o
  | m + 1 => (aimS c o v ds m).set (usS ds (m + 1) - 1) (wd c (v m) (ds.getD m dz).2.1)
theorem aimS_len (c : Nat) (o : List (BitVec 64)) (v : Nat → BitVec 64) (ds : List Drw) : ∀ m, (aimS c o v ds m).length = o.length
  | 0 => rfl
  | m + 1 => by show (List.set _ _ _).length = _; rw [List.length_set, aimS_len c o v ds m]
theorem aimS_app (c : Nat) (o : List (BitVec 64)) (v : Nat → BitVec 64) (ds : List Drw) (d : Drw) : ∀ m, m ≤ ds.length → aimS c o v (ds ++ [d]) m = aimS c o v ds m
  | 0, _ => rfl
  | m + 1, h => by
    show (aimS c o v (ds ++ [d]) m).set (usS (ds ++ [d]) (m + 1) - 1) (wd c (v m) ((ds ++ [d]).getD m dz).2.1) = _
    rw [aimS_app c o v ds d m (by omega), usS_app ds d (m + 1) h, getD_app ds d (by omega)]
    rfl
/-- words behind the draws stay -/
theorem aimS_get {c : Nat} {l : List (BitVec 64)} {o : List (BitVec 64)} {v : Nat → BitVec 64} : ∀ {m ds k}, sdS c l m = some (ds, k) → ∀ i, k ≤ i → (aimS c o v ds m).getD i 0 = o.getD i 0
  | 0, ds, k, h, i, _ => rfl
  | m + 1, ds, k, h, i, hi => by
    have hu := sdS_us h
    obtain ⟨ds0, k0, d, h0, hl, hs, rfl⟩ := sdS_prev h
    obtain ⟨h1, h2, h3, h4, h5, h6⟩ := stp_spec (sdS_le h0) hs
    show (List.set _ _ _).getD i 0 = _
    rw [hu, List.getD_eq_getElem?_getD, List.getElem?_set, if_neg (by omega), ← List.getD_eq_getElem?_getD, aimS_app _ _ _ _ _ _ (by omega)]
    exact aimS_get h0 i (by omega)
/-- what an aimed row tells -/
theorem aimS_tells {c : Nat} {l : List (BitVec 64)} {v : Nat → BitVec 64} : ∀ {m ds k}, sdS c l m = some (ds, k) → (∀ i, i < m → vld c (v i)) → sdS c (aimS c l v ds m) m = some (nmS v ds, k)
  | 0, ds, k, h, _ => by cases h; rfl
  | m + 1, ds, k, h, hv => by
    have hu := sdS_us h
    obtain ⟨ds0, k0, d, h0, hl, hs, rfl⟩ := sdS_prev h
    obtain ⟨h1, h2, h3, h4, h5, h6⟩ := stp_spec (sdS_le h0) hs
    have ih := aimS_tells (v := v) h0 (fun i hi => hv i (by omega))
    have hd : (ds0 ++ [d]).getD m dz = d := by rw [← hl]; exact getD_last _ _
    have hA : aimS c l v (ds0 ++ [d]) (m + 1) = (aimS c l v ds0 m).set (k - 1) (wd c (v m) d.2.1) := by
      show (aimS c l v _ m).set (usS _ (m + 1) - 1) (wd c (v m) _) = _
      rw [hu, hd, aimS_app _ _ _ _ _ _ (by omega)]
    rw [hA]
    have hlen : k - 1 < (aimS c l v ds0 m).length := by rw [aimS_len]; omega
    have hg : ∀ q, k0 ≤ q → q < k - 1 → ((aimS c l v ds0 m).set (k - 1) (wd c (v m) d.2.1)).getD q 0 = l.getD q 0 := fun q a b => by
      rw [List.getD_eq_getElem?_getD, List.getElem?_set, if_neg (by omega), ← List.getD_eq_getElem?_getD]
      exact aimS_get h0 q a
    have hgj : ((aimS c l v ds0 m).set (k - 1) (wd c (v m) d.2.1)).getD (k - 1) 0 = wd c (v m) d.2.1 := by
      rw [List.getD_eq_getElem?_getD, List.getElem?_set, if_pos rfl, if_pos hlen]; rfl
    have hn := sdS_next (sdS_set (x := wd c (v m) d.2.1) ih (by omega : k0 ≤ k - 1)) (h6 (v m) _ (hv m (by omega)) (by rw [List.length_set, aimS_len]) hg hgj)
    rw [hn, nmS_app, hl]
theorem aimS_swap {c : Nat} {v : Nat → BitVec 64} {j : Nat} {y : BitVec 64} : ∀ {l m ds k} (o : List (BitVec 64)), sdS c l m = some (ds, k) → k ≤ j → aimS c (o.set j y) v ds m = (aimS c o v ds m).set j y
  | l, 0, ds, k, o, h, _ => rfl
  | l, m + 1, ds, k, o, h, hk => by
    have hu := sdS_us h
    obtain ⟨ds0, k0, d, h0, hl, hs, rfl⟩ := sdS_prev h
    obtain ⟨h1, h2, h3, h4, h5, h6⟩ := stp_spec (sdS_le h0) hs
    show (aimS c (o.set j y) v _ m).set (usS _ (m + 1) - 1) _ = ((aimS c o v _ m).set (usS _ (m + 1) - 1) _).set j y
    rw [hu, aimS_app _ _ _ _ _ _ (by omega), aimS_app _ _ _ _ _ _ (by omega), aimS_swap o h0 (by omega), List.set_comm _ _ (by omega)]
/-- aimed back it is as it was -/
theorem aimS_back {c : Nat} {l : List (BitVec 64)} {v : Nat → BitVec 64} : ∀ {m ds k}, sdS c l m = some (ds, k) → ∀ {u : Nat → BitVec 64}, (∀ i, i < m → u i = (ds.getD i dz).1) → aimS c (aimS c l v ds m) u ds m = l
  | 0, ds, k, h, u, _ => rfl
  | m + 1, ds, k, h, u, hu2 => by
    have hu := sdS_us h
    obtain ⟨ds0, k0, d, h0, hl, hs, rfl⟩ := sdS_prev h
    obtain ⟨h1, h2, h3, h4, h5, h6⟩ := stp_spec (sdS_le h0) hs
    have hd : (ds0 ++ [d]).getD m dz = d := by rw [← hl]; exact getD_last _ _
    have hum : u m = d.1 := by rw [hu2 m (by omega), hd]
    show (aimS c ((aimS c l v _ m).set (usS _ (m + 1) - 1) _) u _ m).set (usS _ (m + 1) - 1) (wd c (u m) _) = l
    rw [hu, hd, hum, aimS_app c l _ _ _ _ (by omega), aimS_app _ _ _ _ _ _ (by omega), aimS_swap _ h0 (by omega), aimS_back h0 (fun i hi => by rw [hu2 i (by omega), getD_app _ _ (by omega)])]
    rw [List.set_set, h5]
    apply List.ext_getElem (by rw [List.length_set])
    intro i a b
    rw [List.getElem_set]
    by_cases e : k - 1 = i
    · subst e; rw [if_pos rfl, List.getD_eq_getElem?_getD, List.getElem?_eq_getElem b]; rfl
    · rw [if_neg e]
/-- of the aimed row's draws: its ranks are as before -/
theorem aimS_nm (c : Nat) (o : List (BitVec 64)) (u v : Nat → BitVec 64) (ds : List Drw) : ∀ m, m ≤ ds.length → aimS c o u (nmS v ds) m = aimS c o u ds m ∧ usS (nmS v ds) m = usS ds m
  | 0, _ => ⟨rfl, rfl⟩
  | m + 1, h => by
    obtain ⟨h1, h2⟩ := aimS_nm c o u v ds m (by omega)
    have e : usS (nmS v ds) (m + 1) = usS ds (m + 1) := by
      show usS (nmS v ds) m + ((nmS v ds).getD m dz).2.2 = usS ds m + (ds.getD m dz).2.2
      rw [h2, nmS_get v ds (by omega)]
    refine ⟨?_, e⟩
    show (aimS c o u (nmS v ds) m).set (usS (nmS v ds) (m + 1) - 1) (wd c (u m) ((nmS v ds).getD m dz).2.1) = _
    rw [h1, e, nmS_get v ds (by omega)]
    rfl
theorem bit_of_and (a : BitVec 64) : (a &&& 1#64 = 0#64) ∨ (a &&& 1#64 = 1#64) := by
  obtain ⟨h1, h2⟩ := odd44_bit a
  by_cases h : a % 2#64 = 0#64
  · exact .inl (h1 h).2
  · exact .inr (h2 h).2
/-- what a right seed is -/
theorem ch_iff {k b : Int} {l : List (BitVec 64)} : chF k b l = 0 ↔ okF k = true ∧ ¬ (l.length : Int) < lsF k ∧ ¬ msF k < (l.length : Int) ∧ ¬ b < lbF k ∧ ¬ mbF k < b ∧ ∀ i, i < l.length → vld (wkK k) (l.getD i 0) := by
  unfold chF
  by_cases hk : okF k = false
  · rw [if_pos hk]; simp [hk]
  rw [if_neg hk]
  have hk' : okF k = true := by simpa using hk
  by_cases h1 : (l.length : Int) < lsF k ∨ msF k < (l.length : Int)
  · rw [if_pos h1]
    constructor
    · intro h; cases h
    · rintro ⟨_, a, b, _⟩; rcases h1 with h1 | h1 <;> contradiction
  rw [if_neg h1]
  by_cases h2 : b < lbF k ∨ mbF k < b
  · rw [if_pos h2]
    constructor
    · intro h; cases h
    · rintro ⟨_, _, _, a, b, _⟩; rcases h2 with h2 | h2 <;> contradiction
  rw [if_neg h2]
  have h1a : ¬ (l.length : Int) < lsF k := fun e => h1 (.inl e)
  have h1b : ¬ msF k < (l.length : Int) := fun e => h1 (.inr e)
  have h2a : ¬ b < lbF k := fun e => h2 (.inl e)
  have h2b : ¬ mbF k < b := fun e => h2 (.inr e)
  have hPP : PPw.toNat = PP := by decide
  have key : chS k b l = 0 ↔ ∀ i, i < l.length → vld (wkK k) (l.getD i 0) := by
    rcases okF_k hk' with rfl | rfl | rfl | rfl | rfl | rfl | rfl | rfl
    · show chkC l = 0 ↔ ∀ i, i < l.length → (l.getD i 0).toNat < PPw.toNat
      rw [hPP]
      have e1 : lsF 1 = 1 := rfl
      have e2 : msF 1 = 64 := rfl
      rw [e1] at h1a; rw [e2] at h1b
      unfold chkC
      rw [if_neg (by omega)]
      by_cases hc : ∀ j, j < l.length → (l.getD j 0).toNat < PP
      · rw [if_pos hc]; exact ⟨fun _ => hc, fun _ => rfl⟩
      · rw [if_neg hc]; exact ⟨(fun h => absurd h (by decide)), fun h => absurd h hc⟩
    · show chkM (l.getD 0 0#64) b = 0 ↔ ∀ i, i < l.length → l.getD i 0 &&& 1#64 = 1#64
      have e1 : lsF 2 = 1 := rfl
      have e2 : msF 2 = 1 := rfl
      have e3 : lbF 2 = 1 := rfl
      have e4 : mbF 2 = 64 := rfl
      rw [e1] at h1a; rw [e2] at h1b; rw [e3] at h2a; rw [e4] at h2b
      unfold chkM
      rw [if_neg (by omega)]
      by_cases hc : l.getD 0 0#64 &&& 1#64 = 0#64
      · rw [if_pos hc]
        exact ⟨(fun h => absurd h (by decide)), fun h => by have h0 := (show l.getD 0 0#64 &&& 1#64 = 1#64 from h 0 (by omega)); rw [hc] at h0; exact absurd h0 (by decide)⟩
      · rw [if_neg hc]
        refine ⟨fun _ i hi => ?_, fun _ => rfl⟩
        obtain rfl : i = 0 := by omega
        exact (bit_of_and _).resolve_left hc
    · exact ⟨fun _ _ _ => trivial, fun _ => rfl⟩
    · exact ⟨fun _ _ _ => trivial, fun _ => rfl⟩
    · exact ⟨fun _ _ _ => trivial, fun _ => rfl⟩
    · exact ⟨fun _ _ _ => trivial, fun _ => rfl⟩
    · exact ⟨fun _ _ _ => trivial, fun _ => rfl⟩
    · show (if PP ≤ (l.getD 0 0#64).toNat then 2 else 0) = (0 : Int) ↔ ∀ i, i < l.length → (l.getD i 0).toNat < PPw.toNat
      rw [hPP]
      have e1 : lsF 8 = 1 := rfl
      have e2 : msF 8 = 1 := rfl
      rw [e1] at h1a; rw [e2] at h1b
      by_cases hc : PP ≤ (l.getD 0 0#64).toNat
      · rw [if_pos hc]
        exact ⟨(fun h => absurd h (by decide)), fun h => by have h0 := h 0 (by omega); exact absurd hc (Nat.not_le.2 h0)⟩
      · rw [if_neg hc]
        refine ⟨fun _ i hi => ?_, fun _ => rfl⟩
        obtain rfl : i = 0 := by omega
        exact Nat.not_le.1 hc
  rw [key]
  exact ⟨fun h => ⟨hk', h1a, h1b, h2a, h2b, h⟩, fun h => h.2.2.2.2.2⟩
theorem vld_one (c : Nat) : vld c 1#64 := by
  unfold vld
  split
  · decide
  · split
    · decide
    · trivial
/-- of any words that may be: a right seed's -/
theorem ch_of_ck {k b : Int} {n : Nat} (h : ckS k b (n : Int) = 0) {l : List (BitVec 64)} (hl : l.length = n) (hv : ∀ i, i < n → vld (wkK k) (l.getD i 0)) : chF k b l = 0 := by
  obtain ⟨_, n', e, _, _, _, _, hc⟩ := ckS_ok h
  obtain rfl : n = n' := by omega
  obtain ⟨a1, a2, a3, a4, a5, _⟩ := ch_iff.1 hc
  rw [List.length_replicate] at a2 a3
  exact ch_iff.2 ⟨a1, by rw [hl]; exact a2, by rw [hl]; exact a3, a4, a5, fun i hi => hv i (by omega)⟩
theorem ck_of_ch {k b : Int} {l : List (BitVec 64)} (h : chF k b l = 0) : ckS k b (l.length : Int) = 0 ∧ ∀ i, i < l.length → vld (wkK k) (l.getD i 0) := by
  obtain ⟨a1, a2, a3, a4, a5, a6⟩ := ch_iff.1 h
  refine ⟨?_, a6⟩
  unfold ckS
  rw [if_neg (by rw [a1]; decide), if_neg (fun e => e.elim a2 a3)]
  refine ch_iff.2 ⟨a1, by simpa using a2, by simpa using a3, a4, a5, fun i hi => ?_⟩
  have e : (List.replicate (l.length : Int).toNat (1#64 : BitVec 64)).getD i 0 = 1#64 := by
    rw [List.length_replicate] at hi
    rw [List.getD_eq_getElem?_getD, List.getElem?_replicate, if_pos hi]; rfl
  rw [e]
  exact vld_one _
end Go.Proofs.YtdjlbpgjbgepdaaGreat
end
