import Derived.Test.YtdjlbpgjbgepdaaGreatYSdsE
import Derived.Test.YtdjlbpgjbgepdaaGreatYDrkB
import Derived.Deep.Cut
import Derived.Deep.DeepCutAuto
import Derived.Deep.RegionHeld3
section
/- Layer 44: Take of any kind; the example; the law SeedsChecks. -/
namespace Go.Proofs.YtdjlbpgjbgepdaaGreat
open Go Go.RowKit Go.Bv
set_option linter.unusedVariables false
set_option maxRecDepth 100000
theorem msF_gt {k : Int} (h : okF k = true) : decide (0 < msF k) = true := by
  rcases okF_k h with rfl | rfl | rfl | rfl | rfl | rfl | rfl | rfl <;> decide
theorem lmW_no {k : Int} (h : okF k = false) : W64 (lmW k) = 0 := by
  have hk : k < 1 ∨ 8 < k := by unfold okF at h; simp at h; omega
  unfold lmW
  rw [if_neg (by omega), if_neg (by omega)]; rfl
theorem wkK_three (k : Int) : wkK k = 0 ∨ wkK k = 1 ∨ wkK k = 2 := by
  unfold wkK
  split
  · exact .inl rfl
  · split
    · exact .inr (.inl rfl)
    · exact .inr (.inr rfl)
theorem take_44 (k0 bi : Int) (n : Nat) (hck : ckS k0 bi (n : Int) = 0) (b g0 : Nat) (l : List (BitVec 64)) (w : World) (ht : Tape w b g0 l 0) : Calls Tryz.prog 14 #[.pointer (some ⟨b, 0, none⟩), .int .i64 k0, .int .i64 bi, .int .i64 (n : Int)] w fun e w' =>
    (∃ ds k g1 g2, sdS (wkK k0) l n = some (ds, k) ∧ e = .returned (.tuple #[.agg (sdc k0 bi (some ⟨g1, 0, none⟩) n n), .slice (some ⟨g2, 0, none⟩) n n, .int .i64 0]) ∧ QRow w' (some ⟨g1, 0, none⟩) n n (ds.map fun d => d.1) ∧ KRow w' (some ⟨g2, 0, none⟩) n n ds ∧ After w w' b g0 l k ∧ w.heap.size ≤ g1) ∨ (sdS (wkK k0) l n = none ∧ e = .returned (.tuple #[.agg zSd, .slice none 0 0, .int .i64 7]) ∧ After w w' b g0 l l.length) := by
  rcases wkK_three k0 with h | h | h
  · exact take_p44 k0 bi n hck _ rfl h b g0 l w ht
  · exact take_odd44 k0 bi n hck _ rfl h b g0 l w ht
  · exact take_any44 k0 bi n hck _ rfl h b g0 l w ht
theorem ex44 : ckS 2 8 ((1 : Nat) : Int) = 0 ∧ sdS (wkK 2) [6#64] 1 = some ([(7#64, 0#64, 1)], 1) := by decide +kernel
theorem After.new {w w' : World} {b g0 j : Nat} {l : List (BitVec 64)} (h : After w w' b g0 l j) {W : World} (hw : New W w) (hb : W.heap.size ≤ b) (hg : W.heap.size ≤ g0) : New W w' := by
  obtain ⟨g, _, h2, _⟩ := h
  exact h2.new W hw hb hg
set_option maxHeartbeats 4000000 in
theorem awake44 (w : World) : Calls Tryz.prog 6 #[] w fun e w' => e = .returned (.bool true) ∧ New w w' := by
  have HQ := Lib.hid (row_one44 w 6#64)
  rw [show W64 6#64 = 6 from by decide] at HQ
  have HN0 := Lib.hid ((New.refl w).alloc (.cells #[.int .u64 6] 23))
  go_enter Tryz.func6, Tryz.ntmps6
  go_wp2_with fail
  refine (new_t _ _ _ _ _ HQ.out).mono ?_
  rintro e w1 ⟨b, rfl, hb, ht, hn1⟩
  have HT := Lib.hid (take_44 2 8 1 ex44.1 b b [6#64] w1 ht)
  have HN1 := Lib.hid (HN0.out.trans hn1)
  have HBB : Hid (w.heap.size ≤ b) := Lib.hid (Nat.le_trans HN0.out.le hb)
  clear ht hn1 hb HQ
  go_wp2_with fail
  refine HT.out.mono ?_
  rintro e w2 (⟨ds, k, g1, g2, hs, rfl, hq, hk, hA, hg⟩ | ⟨hs, _⟩)
  · rw [ex44.2] at hs
    cases hs
    have HN2 := Lib.hid (hA.new HN1.out HBB.out HBB.out)
    have c0 := fun o : Obj => (hq.stay ((New.refl w2).alloc o)).cell g1 0 rfl 0 (by omega)
    have c1 := fun o : Obj => ((hk.stay ((New.refl w2).alloc o)).cell g2 0 rfl 0 (by omega)).2.1
    simp only [Nat.zero_add, Nat.zero_mul, List.map_cons, List.map_nil, List.getD_cons_zero] at c0 c1
    rw [show W64 7#64 = 7 from by decide] at c0
    rw [show W64 0#64 = 0 from by decide] at c1
    clear hq hk hA hg HT
    go_wp2
    go_ret
    exact ⟨rfl, HN2.out.alloc _⟩
  · rw [ex44.2] at hs; cases hs
set_option maxHeartbeats 4000000 in
theorem checks_no (W : World) (k b m : Int) (hk : okF k = false) : Calls Tryz.prog 3 #[.int .i64 k, .int .i64 b, .int .i64 m] W fun e w' => e = .returned (.bool true) ∧ New W w' := by
  have HRC := Lib.hid (fun w => rcheck_44 k b m w)
  have HCH := Lib.hid (fun w => check_44 k b m w)
  have HMO := Lib.hid (fun w => rmost_27 k w)
  have HRL := Lib.hid (fun w => rlimit_44 k w)
  have hE : ckS k b m = 6 := by unfold ckS; rw [if_pos hk]
  have HWH := Lib.hid (fun w => whole_no k b m 6 hE rfl w)
  have HLI := Lib.hid (fun w => limit_no k hk w)
  rw [hE] at HRC HCH
  rw [msF_no hk] at HMO
  rw [lmW_no hk] at HRL
  clear hE hk
  go_enter Tryz.func3, Tryz.ntmps3
  go_wp2_with fail
  refine (awake44 _).mono ?_
  rintro e w1 ⟨rfl, hn1⟩
  go_wp2_with fail
  refine (HLI.out _).mono ?_
  rintro e w2 ⟨rfl, hn2⟩
  go_wp2_with fail
  refine (HRC.out _).mono ?_
  rintro e w3 ⟨rfl, hn3⟩
  go_wp2_with fail
  refine (HWH.out _).mono ?_
  rintro e w4 ⟨rfl, hn4⟩
  go_wp2_with fail
  refine (HCH.out _).mono ?_
  rintro e w5 ⟨rfl, hn5⟩
  go_wp2_with fail
  refine (HMO.out _).mono ?_
  rintro e w6 ⟨rfl, hn6⟩
  go_wp2_with fail
  refine (HRL.out _).mono ?_
  rintro e w7 ⟨rfl, rfl⟩
  go_wp2
  go_ret
  exact ⟨rfl, ((((hn1.trans hn2).trans hn3).trans hn4).trans hn5).trans hn6⟩
set_option maxHeartbeats 4000000 in
theorem checks_bad (W : World) (k b m : Int) (hk : okF k = true) (E : Int) (hE : ckS k b m = E) (h0 : (E == 0) = false) : Calls Tryz.prog 3 #[.int .i64 k, .int .i64 b, .int .i64 m] W fun e w' => e = .returned (.bool true) ∧ New W w' := by
  have HRC := Lib.hid (fun w => rcheck_44 k b m w)
  have HCH := Lib.hid (fun w => check_44 k b m w)
  have HMO := Lib.hid (fun w => rmost_27 k w)
  have HRL := Lib.hid (fun w => rlimit_44 k w)
  have HWH := Lib.hid (fun w => whole_no k b m E hE h0 w)
  have HLI := Lib.hid (fun w => limit_44 k hk w)
  rw [hE] at HRC HCH
  have hms := msF_gt hk
  generalize lmW k = lm at *
  clear hE hk
  go_enter Tryz.func3, Tryz.ntmps3
  go_wp2_with fail
  refine (awake44 _).mono ?_
  rintro e w1 ⟨rfl, hn1⟩
  go_wp2_with fail
  refine (HLI.out _).mono ?_
  rintro e w2 ⟨rfl, hn2⟩
  go_wp2_with fail
  refine (HRC.out _).mono ?_
  rintro e w3 ⟨rfl, hn3⟩
  go_wp2_with fail
  refine (HWH.out _).mono ?_
  rintro e w4 ⟨rfl, hn4⟩
  go_wp2_with fail
  refine (HCH.out _).mono ?_
  rintro e w5 ⟨rfl, hn5⟩
  go_wp2_with fail
  refine (HMO.out _).mono ?_
  rintro e w6 ⟨rfl, hn6⟩
  go_wp2_with fail
  refine (HRL.out _).mono ?_
  rintro e w7 ⟨rfl, rfl⟩
  go_wp2
  go_ret
  exact ⟨rfl, ((((hn1.trans hn2).trans hn3).trans hn4).trans hn5).trans hn6⟩
set_option maxHeartbeats 4000000 in
theorem checks_ok (W : World) (k b m : Int) (n : Nat) (hm : m = (n : Int)) (hE : ckS k b (n : Int) = 0) : Calls Tryz.prog 3 #[.int .i64 k, .int .i64 b, .int .i64 m] W fun e w' => e = .returned (.bool true) ∧ New W w' := by
  subst hm
  have HRC := Lib.hid (fun w => rcheck_44 k b (n : Int) w)
  have HCH := Lib.hid (fun w => check_44 k b (n : Int) w)
  have HMO := Lib.hid (fun w => rmost_27 k w)
  have HRL := Lib.hid (fun w => rlimit_44 k w)
  obtain ⟨hk, n', e1, _, hn320, _⟩ := ckS_ok hE
  have HWH := Lib.hid (fun w => whole_ok k b n hE w)
  have HLI := Lib.hid (fun w => limit_44 k hk w)
  rw [hE] at HRC HCH
  have hms := msF_gt hk
  have hn : n ≤ 320 := by omega
  generalize lmW k = lm at *
  clear hE hk e1 hn320
  go_enter Tryz.func3, Tryz.ntmps3
  go_wp2_with fail
  refine (awake44 _).mono ?_
  rintro e w1 ⟨rfl, hn1⟩
  go_wp2_with fail
  refine (HLI.out _).mono ?_
  rintro e w2 ⟨rfl, hn2⟩
  go_wp2_with fail
  refine (HRC.out _).mono ?_
  rintro e w3 ⟨rfl, hn3⟩
  go_wp2_with fail
  refine (HWH.out _).mono ?_
  rintro e w4 ⟨⟨r, rfl, hq⟩, hn4⟩
  have HQ := Lib.hid hq
  have HN4 := Lib.hid (((hn1.trans hn2).trans hn3).trans hn4)
  clear hq hn1 hn2 hn3 hn4
  go_wp2_with fail
  refine (HCH.out _).mono ?_
  rintro e w5 ⟨rfl, hn5⟩
  go_wp2_with fail
  refine (HMO.out _).mono ?_
  rintro e w6 ⟨rfl, hn6⟩
  have HQ6 := Lib.hid ((HQ.out.stay hn5).stay hn6)
  have HN6 := Lib.hid ((HN4.out.trans hn5).trans hn6)
  clear hn5 hn6 HQ HN4
  go_wp2_with fail
  refine (HRL.out _).mono ?_
  rintro e w7 ⟨rfl, rfl⟩
  go_wp2_with fail
  go_loopw [75] (fun iv wr => ∃ q : Nat, q ≤ n ∧ iv = .int .i64 (q : Int) ∧ wr = w7) (fun iv _ => n - (intOf iv).toNat)
  case atStart => exact ⟨0, Nat.zero_le _, rfl, rfl⟩
  case round =>
    obtain ⟨q, hq, rfl, rfl⟩ := hrel
    by_cases hlt : (q : Int) < (n : Int)
    · have hq0 : (0 : Int) ≤ (q : Int) := by omega
      have cq := HQ6.out.cell r 0 rfl q (by omega)
      rw [List.getD_eq_getElem?_getD, List.getElem?_replicate, if_pos (by omega), Option.getD_some, Nat.zero_add] at cq
      go_wp2
      exact ⟨⟨q + 1, by omega, by go_num, by first | rfl | trivial⟩, by simp [intOf]; omega⟩
    · obtain rfl : q = n := by omega
      go_wp2
      go_ret
      exact ⟨rfl, HN6.out⟩
theorem SeedsChecks_walk (W : World) (a0 : Int) (w0 : (Lit.int .i64 a0).wf = true) (a1 : Int) (w1 : (Lit.int .i64 a1).wf = true) (a2 : Int) (w2 : (Lit.int .i64 a2).wf = true) :
    Calls Tryz.prog 3 #[.int .i64 a0, .int .i64 a1, .int .i64 a2] W fun e w' => e = .returned (.bool true) ∧ Below W.heap.size W w' := by
  cases hk : okF a0
  · exact checks_no W a0 a1 a2 hk
  · by_cases hE : ckS a0 a1 a2 = 0
    · obtain ⟨_, n, rfl, _⟩ := ckS_ok hE
      exact checks_ok W a0 a1 (n : Int) n rfl hE
    · exact checks_bad W a0 a1 a2 hk _ rfl (beq_eq_false_iff_ne.2 hE)
end Go.Proofs.YtdjlbpgjbgepdaaGreat
end
section
/- Layer 44: the mathematics of aims: draws of any kind. -/
namespace Go.Bv
open Go Go.RowKit
theorem odd44_bit (x : BitVec 64) : (x % 2#64 = 0#64 → x ||| 1#64 = x + 1#64 ∧ x &&& 1#64 = 0#64) ∧ (¬ x % 2#64 = 0#64 → x ||| 1#64 = x ∧ x &&& 1#64 = 1#64) := by
  have ha : x &&& 1#64 = x % 2#64 := by
    apply BitVec.eq_of_toNat_eq
    rw [BitVec.toNat_and, BitVec.toNat_umod]
    show x.toNat &&& 1 = x.toNat % 2
    exact Nat.and_one_is_mod _
  have hm : (x % 2#64).toNat = x.toNat % 2 := by rw [BitVec.toNat_umod]; rfl
  have hb : ∀ i, (1#64 : BitVec 64).getLsbD i = decide (i = 0) := by
    intro i
    rw [BitVec.getLsbD_one]; simp
  refine ⟨fun h => ?_, fun h => ?_⟩
  · refine ⟨?_, by rw [ha, h]⟩
    rw [← BitVec.add_eq_or_of_and_eq_zero x 1#64 (by rw [ha, h])]
  · have h1 : x % 2#64 = 1#64 := by
      apply BitVec.eq_of_toNat_eq
      rw [hm]
      have : x.toNat % 2 ≠ 0 := fun e => h (BitVec.eq_of_toNat_eq (by rw [hm, e]; rfl))
      show _ = 1
      omega
    refine ⟨?_, by rw [ha, h1]⟩
    apply BitVec.eq_of_getLsbD_eq
    intro i hi
    rw [BitVec.getLsbD_or, hb]
    by_cases e : i = 0
    · subst e
      have h2 : (x &&& 1#64).getLsbD 0 = true := by rw [ha, h1]; rfl
      rw [BitVec.getLsbD_and, hb] at h2
      have h3 : x.getLsbD 0 = true := by simpa using h2
      rw [h3]; rfl
    · simp [e]
theorem bit_one (i : Nat) : (1#64 : BitVec 64).getLsbD i = decide (i = 0) := by rw [BitVec.getLsbD_one]; simp
theorem odd_val (x : BitVec 64) : (x ||| 1#64) &&& 1#64 = 1#64 := by
  apply BitVec.eq_of_getLsbD_eq
  intro i hi
  rw [BitVec.getLsbD_and, BitVec.getLsbD_or, bit_one]
  by_cases e : i = 0 <;> simp [e]
theorem odd_bck (x : BitVec 64) : (x ||| 1#64) &&& ~~~1#64 ||| x &&& 1#64 = x := by
  apply BitVec.eq_of_getLsbD_eq
  intro i hi
  rw [BitVec.getLsbD_or, BitVec.getLsbD_and, BitVec.getLsbD_and, BitVec.getLsbD_or, BitVec.getLsbD_not, bit_one]
  by_cases e : i = 0 <;> simp [e, hi]
theorem odd_num (v x : BitVec 64) (h : v &&& 1#64 = 1#64) : (v &&& ~~~1#64 ||| x &&& 1#64) ||| 1#64 = v := by
  have h0 : v.getLsbD 0 = true := by
    have := congrArg (fun z => z.getLsbD 0) h
    simpa using this
  apply BitVec.eq_of_getLsbD_eq
  intro i hi
  rw [BitVec.getLsbD_or, BitVec.getLsbD_or, BitVec.getLsbD_and, BitVec.getLsbD_and, BitVec.getLsbD_not, bit_one]
  by_cases e : i = 0
  · subst e; simp [h0]
  · simp [e, hi]
theorem odd_rnk (v x : BitVec 64) : (v &&& ~~~1#64 ||| x &&& 1#64) &&& 1#64 = x &&& 1#64 := by
  apply BitVec.eq_of_getLsbD_eq
  intro i hi
  rw [BitVec.getLsbD_and, BitVec.getLsbD_or, BitVec.getLsbD_and, BitVec.getLsbD_and, BitVec.getLsbD_not, bit_one]
  by_cases e : i = 0 <;> simp [e, hi]
end Go.Bv
namespace Go.Proofs.YtdjlbpgjbgepdaaGreat
open Go Go.RowKit Go.Bv
set_option linter.unusedVariables false
set_option maxRecDepth 100000
/-- words that a seed may have, by how they are drawn -/
def vld (c : Nat) (v : BitVec 64) : Prop := if c = 0 then v.toNat < PPw.toNat else if c = 1 then v &&& 1#64 = 1#64 else True
/-- the word that yields a number and has a rank -/
def wd (c : Nat) (v r : BitVec 64) : BitVec 64 := if c = 0 then wrdN v r PPw else if c = 1 then v &&& ~~~1#64 ||| r else v
theorem stp_spec {c : Nat} {l : List (BitVec 64)} {k k' : Nat} {d : Drw} (hk : k ≤ l.length) (h : stp c l k = some (d, k')) : k < k' ∧ k' ≤ l.length ∧ d.2.2 = k' - k ∧ vld c d.1 ∧ wd c d.1 d.2.1 = l.getD (k' - 1) 0 ∧
    (∀ (v : BitVec 64) (l' : List (BitVec 64)), vld c v → l'.length = l.length → (∀ q, k ≤ q → q < k' - 1 → l'.getD q 0 = l.getD q 0) → l'.getD (k' - 1) 0 = wd c v d.2.1 → stp c l' k = some ((v, d.2.1, d.2.2), k')) := by
  by_cases hc : c = 0
  · subst hc
    unfold stp at h
    rw [if_pos rfl] at h
    by_cases hj : fstT l PPw k < l.length
    · rw [if_pos hj] at h
      obtain ⟨h1, h2, h3⟩ := fstT_spec hk hj
      generalize fstT l PPw k = j at *
      cases h
      have ht := takO_tak h3
      refine ⟨by omega, by omega, rfl, ?_, ?_, ?_⟩
      · unfold vld; rw [if_pos rfl]; exact tel_lt _ _ PPw_ne
      · unfold wd
        rw [if_pos rfl, show j + 1 - 1 = j by omega]
        exact wrdN_back _ _ PPw_ne ht
      · intro v l' hv hl hq hw
        unfold vld at hv
        rw [if_pos rfl] at hv
        unfold wd at hw
        rw [if_pos rfl, show j + 1 - 1 = j by omega] at hw
        have ha := wrdN_all v (rnkN (l.getD j 0) PPw) PPw PPw_ne hv (rnk_ltN _ _ PPw_ne ht)
        have hw' : l'.getD j 0 = wrdN v (rnkN (l.getD j 0) PPw) PPw := hw
        rw [← hw'] at ha
        have hs := stp_yes (l := l') h1 (by omega) (fun i a b => by
          rw [hq i a (by omega), ← lt_takO PPw_ne]; exact h2 i a b) ha.1
        rw [hs]
        unfold drw
        rw [ha.2.1, ha.2.2]
    · rw [if_neg hj] at h; cases h
  · unfold stp at h
    rw [if_neg hc] at h
    by_cases hlt : k < l.length
    · rw [if_pos hlt] at h
      generalize hx : l.getD k 0 = x at h
      cases h
      by_cases h1 : c = 1
      · subst h1
        refine ⟨by omega, by omega, by show 1 = _; omega, ?_, ?_, ?_⟩
        · exact odd_val x
        · show (x ||| 1#64) &&& ~~~1#64 ||| x &&& 1#64 = l.getD (k + 1 - 1) 0
          rw [odd_bck, Nat.add_sub_cancel, hx]
        · intro v l' hv hl hq hw
          rw [stp_word hc (by omega)]
          rw [Nat.add_sub_cancel] at hw
          rw [hw]
          show some (((v &&& ~~~1#64 ||| x &&& 1#64) ||| 1#64, (v &&& ~~~1#64 ||| x &&& 1#64) &&& 1#64, 1), k + 1) = _
          rw [odd_num v x hv, odd_rnk]; rfl
      · have e : dOf c x = (x, 0#64, 1) := by unfold dOf; rw [if_neg h1]
        rw [e]
        refine ⟨by omega, by omega, by show 1 = _; omega, ?_, ?_, ?_⟩
        · unfold vld; rw [if_neg hc, if_neg h1]; trivial
        · unfold wd; rw [if_neg hc, if_neg h1, Nat.add_sub_cancel, hx]
        · intro v l' hv hl hq hw
          rw [stp_word hc (by omega)]
          rw [Nat.add_sub_cancel] at hw
          unfold wd at hw
          rw [if_neg hc, if_neg h1] at hw
          rw [hw]
          unfold dOf; rw [if_neg h1]
    · rw [if_neg hlt] at h; cases h
theorem sdS_prev {c m k : Nat} {l : List (BitVec 64)} {ds : List Drw} (h : sdS c l (m + 1) = some (ds, k)) : ∃ ds0 k0 d, sdS c l m = some (ds0, k0) ∧ ds0.length = m ∧ stp c l k0 = some (d, k) ∧ ds = ds0 ++ [d] := by
  have h' : (match sdS c l m with | none => none | some r => match stp c l r.2 with | none => none | some q => some (r.1 ++ [q.1], q.2)) = some (ds, k) := h
  rcases hm : sdS c l m with _ | ⟨ds0, k0⟩
  · rw [hm] at h'; cases h'
  · rw [hm] at h'
    rcases hs : stp c l k0 with _ | ⟨d, k1⟩
    · simp only [hs] at h'; cases h'
    · simp only [hs] at h'
      cases h'
      exact ⟨ds0, k0, d, rfl, sdS_len hm, hs, rfl⟩
theorem sdS_le {c : Nat} {l : List (BitVec 64)} : ∀ {m ds k}, sdS c l m = some (ds, k) → k ≤ l.length
  | 0, ds, k, h => by cases h; omega
  | m + 1, ds, k, h => by
    obtain ⟨ds0, k0, d, h0, hl, hs, rfl⟩ := sdS_prev h
    exact (stp_spec (sdS_le h0) hs).2.1
theorem sdS_us {c : Nat} {l : List (BitVec 64)} : ∀ {m ds k}, sdS c l m = some (ds, k) → usS ds m = k
  | 0, ds, k, h => by cases h; rfl
  | m + 1, ds, k, h => by
    obtain ⟨ds0, k0, d, h0, hl, hs, rfl⟩ := sdS_prev h
    obtain ⟨h1, h2, h3, _⟩ := stp_spec (sdS_le h0) hs
    subst hl
    show usS _ ds0.length + ((ds0 ++ [_]).getD ds0.length dz).2.2 = k
    rw [usS_app _ _ _ (Nat.le_refl _), sdS_us h0, getD_last, h3]
    omega
/-- what holds of each draw -/
theorem sdS_each {c : Nat} {l : List (BitVec 64)} : ∀ {m ds k}, sdS c l m = some (ds, k) → ∀ i, i < m → vld c (ds.getD i dz).1 ∧ 1 ≤ (ds.getD i dz).2.2 ∧ usS ds (i + 1) ≤ k ∧ wd c (ds.getD i dz).1 (ds.getD i dz).2.1 = l.getD (usS ds (i + 1) - 1) 0
  | 0, ds, k, _, i, hi => by omega
  | m + 1, ds, k, h, i, hi => by
    have hu := sdS_us h
    obtain ⟨ds0, k0, d, h0, hl, hs, rfl⟩ := sdS_prev h
    obtain ⟨h1, h2, h3, h4, h5, _⟩ := stp_spec (sdS_le h0) hs
    by_cases e : i = m
    · subst e
      rw [hu, ← hl, getD_last]
      exact ⟨h4, by omega, Nat.le_refl _, h5⟩
    · obtain ⟨a1, a2, a3, a4⟩ := sdS_each h0 i (by omega)
      rw [getD_app _ _ (by omega), usS_app _ _ _ (by omega)]
      exact ⟨a1, a2, by omega, a4⟩
/-- words behind the draws say nothing of them -/
theorem sdS_set {c : Nat} {l : List (BitVec 64)} {x : BitVec 64} : ∀ {m ds k j}, sdS c l m = some (ds, k) → k ≤ j → sdS c (l.set j x) m = some (ds, k)
  | 0, ds, k, j, h, _ => h
  | m + 1, ds, k, j, h, hk => by
    obtain ⟨ds0, k0, d, h0, hl, hs, rfl⟩ := sdS_prev h
    obtain ⟨h1, h2, h3, h4, h5, h6⟩ := stp_spec (sdS_le h0) hs
    have hg : ∀ q, q < j → (l.set j x).getD q 0 = l.getD q 0 := fun q hq => by
      rw [List.getD_eq_getElem?_getD, List.getElem?_set, if_neg (by omega), ← List.getD_eq_getElem?_getD]
    exact sdS_next (sdS_set h0 (by omega)) (h6 d.1 (l.set j x) h4 (by rw [List.length_set]) (fun q a b => hg q (by omega)) (by rw [hg _ (by omega), h5]))
/-- the row with the words of the first m draws put in place of those that were taken -/
def aimS (c : Nat) (o : List (BitVec 64)) (v : Nat → BitVec 64) (ds : List Drw) : Nat → List (BitVec 64)
  | 0 => o
  | m + 1 => (aimS c o v ds m).set (usS ds (m + 1) - 1) (wd c (v m) (ds.getD m dz).2.1)
theorem aimS_len (c : Nat) (o : List (BitVec 64)) (v : Nat → BitVec 64) (ds : List Drw) : ∀ m, (aimS c o v ds m).length = o.length
  | 0 => rfl
  | m + 1 => by show (List.set _ _ _).length = _; rw [List.length_set, aimS_len c o v ds m]
theorem aimS_app (c : Nat) (o : List (BitVec 64)) (v : Nat → BitVec 64) (ds : List Drw) (d : Drw) : ∀ m, m ≤ ds.length → aimS c o v (ds ++ [d]) m = aimS c o v ds m
  | 0, _ => rfl
  | m + 1, h => by
    show (aimS c o v (ds ++ [d]) m).set (usS (ds ++ [d]) (m + 1) - 1) (wd c (v m) ((ds ++ [d]).getD m dz).2.1) = _
    rw [aimS_app c o v ds d m (by omega), usS_app ds d (m + 1) h, getD_app ds d (by omega)]
    rfl
/-- words behind the draws stay -/
theorem aimS_get {c : Nat} {l : List (BitVec 64)} {o : List (BitVec 64)} {v : Nat → BitVec 64} : ∀ {m ds k}, sdS c l m = some (ds, k) → ∀ i, k ≤ i → (aimS c o v ds m).getD i 0 = o.getD i 0
  | 0, ds, k, h, i, _ => rfl
  | m + 1, ds, k, h, i, hi => by
    have hu := sdS_us h
    obtain ⟨ds0, k0, d, h0, hl, hs, rfl⟩ := sdS_prev h
    obtain ⟨h1, h2, h3, h4, h5, h6⟩ := stp_spec (sdS_le h0) hs
    show (List.set _ _ _).getD i 0 = _
    rw [hu, List.getD_eq_getElem?_getD, List.getElem?_set, if_neg (by omega), ← List.getD_eq_getElem?_getD, aimS_app _ _ _ _ _ _ (by omega)]
    exact aimS_get h0 i (by omega)
/-- what an aimed row tells -/
theorem aimS_tells {c : Nat} {l : List (BitVec 64)} {v : Nat → BitVec 64} : ∀ {m ds k}, sdS c l m = some (ds, k) → (∀ i, i < m → vld c (v i)) → sdS c (aimS c l v ds m) m = some (nmS v ds, k)
  | 0, ds, k, h, _ => by cases h; rfl
  | m + 1, ds, k, h, hv => by
    have hu := sdS_us h
    obtain ⟨ds0, k0, d, h0, hl, hs, rfl⟩ := sdS_prev h
    obtain ⟨h1, h2, h3, h4, h5, h6⟩ := stp_spec (sdS_le h0) hs
    have ih := aimS_tells (v := v) h0 (fun i hi => hv i (by omega))
    have hd : (ds0 ++ [d]).getD m dz = d := by rw [← hl]; exact getD_last _ _
    have hA : aimS c l v (ds0 ++ [d]) (m + 1) = (aimS c l v ds0 m).set (k - 1) (wd c (v m) d.2.1) := by
      show (aimS c l v _ m).set (usS _ (m + 1) - 1) (wd c (v m) _) = _
      rw [hu, hd, aimS_app _ _ _ _ _ _ (by omega)]
    rw [hA]
    have hlen : k - 1 < (aimS c l v ds0 m).length := by rw [aimS_len]; omega
    have hg : ∀ q, k0 ≤ q → q < k - 1 → ((aimS c l v ds0 m).set (k - 1) (wd c (v m) d.2.1)).getD q 0 = l.getD q 0 := fun q a b => by
      rw [List.getD_eq_getElem?_getD, List.getElem?_set, if_neg (by omega), ← List.getD_eq_getElem?_getD]
      exact aimS_get h0 q a
    have hgj : ((aimS c l v ds0 m).set (k - 1) (wd c (v m) d.2.1)).getD (k - 1) 0 = wd c (v m) d.2.1 := by
      rw [List.getD_eq_getElem?_getD, List.getElem?_set, if_pos rfl, if_pos hlen]; rfl
    have hn := sdS_next (sdS_set (x := wd c (v m) d.2.1) ih (by omega : k0 ≤ k - 1)) (h6 (v m) _ (hv m (by omega)) (by rw [List.length_set, aimS_len]) hg hgj)
    rw [hn, nmS_app, hl]
theorem aimS_swap {c : Nat} {v : Nat → BitVec 64} {j : Nat} {y : BitVec 64} : ∀ {l m ds k} (o : List (BitVec 64)), sdS c l m = some (ds, k) → k ≤ j → aimS c (o.set j y) v ds m = (aimS c o v ds m).set j y
  | l, 0, ds, k, o, h, _ => rfl
  | l, m + 1, ds, k, o, h, hk => by
    have hu := sdS_us h
    obtain ⟨ds0, k0, d, h0, hl, hs, rfl⟩ := sdS_prev h
    obtain ⟨h1, h2, h3, h4, h5, h6⟩ := stp_spec (sdS_le h0) hs
    show (aimS c (o.set j y) v _ m).set (usS _ (m + 1) - 1) _ = ((aimS c o v _ m).set (usS _ (m + 1) - 1) _).set j y
    rw [hu, aimS_app _ _ _ _ _ _ (by omega), aimS_app _ _ _ _ _ _ (by omega), aimS_swap o h0 (by omega), List.set_comm _ _ (by omega)]
/-- aimed back it is as it was -/
theorem aimS_back {c : Nat} {l : List (BitVec 64)} {v : Nat → BitVec 64} : ∀ {m ds k}, sdS c l m = some (ds, k) → ∀ {u : Nat → BitVec 64}, (∀ i, i < m → u i = (ds.getD i dz).1) → aimS c (aimS c l v ds m) u ds m = l
  | 0, ds, k, h, u, _ => rfl
  | m + 1, ds, k, h, u, hu2 => by
    have hu := sdS_us h
    obtain ⟨ds0, k0, d, h0, hl, hs, rfl⟩ := sdS_prev h
    obtain ⟨h1, h2, h3, h4, h5, h6⟩ := stp_spec (sdS_le h0) hs
    have hd : (ds0 ++ [d]).getD m dz = d := by rw [← hl]; exact getD_last _ _
    have hum : u m = d.1 := by rw [hu2 m (by omega), hd]
    show (aimS c ((aimS c l v _ m).set (usS _ (m + 1) - 1) _) u _ m).set (usS _ (m + 1) - 1) (wd c (u m) _) = l
    rw [hu, hd, hum, aimS_app c l _ _ _ _ (by omega), aimS_app _ _ _ _ _ _ (by omega), aimS_swap _ h0 (by omega), aimS_back h0 (fun i hi => by rw [hu2 i (by omega), getD_app _ _ (by omega)])]
    rw [List.set_set, h5]
    apply List.ext_getElem (by rw [List.length_set])
    intro i a b
    rw [List.getElem_set]
    by_cases e : k - 1 = i
    · subst e; rw [if_pos rfl, List.getD_eq_getElem?_getD, List.getElem?_eq_getElem b]; rfl
    · rw [if_neg e]
/-- of the aimed row's draws: its ranks are as before -/
theorem aimS_nm (c : Nat) (o : List (BitVec 64)) (u v : Nat → BitVec 64) (ds : List Drw) : ∀ m, m ≤ ds.length → aimS c o u (nmS v ds) m = aimS c o u ds m ∧ usS (nmS v ds) m = usS ds m
  | 0, _ => ⟨rfl, rfl⟩
  | m + 1, h => by
    obtain ⟨h1, h2⟩ := aimS_nm c o u v ds m (by omega)
    have e : usS (nmS v ds) (m + 1) = usS ds (m + 1) := by
      show usS (nmS v ds) m + ((nmS v ds).getD m dz).2.2 = usS ds m + (ds.getD m dz).2.2
      rw [h2, nmS_get v ds (by omega)]
    refine ⟨?_, e⟩
    show (aimS c o u (nmS v ds) m).set (usS (nmS v ds) (m + 1) - 1) (wd c (u m) ((nmS v ds).getD m dz).2.1) = _
    rw [h1, e, nmS_get v ds (by omega)]
    rfl
theorem bit_of_and (a : BitVec 64) : (a &&& 1#64 = 0#64) ∨ (a &&& 1#64 = 1#64) := by
  obtain ⟨h1, h2⟩ := odd44_bit a
  by_cases h : a % 2#64 = 0#64
  · exact .inl (h1 h).2
  · exact .inr (h2 h).2
/-- what a right seed is -/
theorem ch_iff {k b : Int} {l : List (BitVec 64)} : chF k b l = 0 ↔ okF k = true ∧ ¬ (l.length : Int) < lsF k ∧ ¬ msF k < (l.length : Int) ∧ ¬ b < lbF k ∧ ¬ mbF k < b ∧ ∀ i, i < l.length → vld (wkK k) (l.getD i 0) := by
  unfold chF
  by_cases hk : okF k = false
  · rw [if_pos hk]; simp [hk]
  rw [if_neg hk]
  have hk' : okF k = true := by simpa using hk
  by_cases h1 : (l.length : Int) < lsF k ∨ msF k < (l.length : Int)
  · rw [if_pos h1]
    constructor
    · intro h; cases h
    · rintro ⟨_, a, b, _⟩; rcases h1 with h1 | h1 <;> contradiction
  rw [if_neg h1]
  by_cases h2 : b < lbF k ∨ mbF k < b
  · rw [if_pos h2]
    constructor
    · intro h; cases h
    · rintro ⟨_, _, _, a, b, _⟩; rcases h2 with h2 | h2 <;> contradiction
  rw [if_neg h2]
  have h1a : ¬ (l.length : Int) < lsF k := fun e => h1 (.inl e)
  have h1b : ¬ msF k < (l.length : Int) := fun e => h1 (.inr e)
  have h2a : ¬ b < lbF k := fun e => h2 (.inl e)
  have h2b : ¬ mbF k < b := fun e => h2 (.inr e)
  have hPP : PPw.toNat = PP := by decide
  have key : chS k b l = 0 ↔ ∀ i, i < l.length → vld (wkK k) (l.getD i 0) := by
    rcases okF_k hk' with rfl | rfl | rfl | rfl | rfl | rfl | rfl | rfl
    · show chkC l = 0 ↔ ∀ i, i < l.length → (l.getD i 0).toNat < PPw.toNat
      rw [hPP]
      have e1 : lsF 1 = 1 := rfl
      have e2 : msF 1 = 64 := rfl
      rw [e1] at h1a; rw [e2] at h1b
      unfold chkC
      rw [if_neg (by omega)]
      by_cases hc : ∀ j, j < l.length → (l.getD j 0).toNat < PP
      · rw [if_pos hc]; exact ⟨fun _ => hc, fun _ => rfl⟩
      · rw [if_neg hc]; exact ⟨(fun h => absurd h (by decide)), fun h => absurd h hc⟩
    · show chkM (l.getD 0 0#64) b = 0 ↔ ∀ i, i < l.length → l.getD i 0 &&& 1#64 = 1#64
      have e1 : lsF 2 = 1 := rfl
      have e2 : msF 2 = 1 := rfl
      have e3 : lbF 2 = 1 := rfl
      have e4 : mbF 2 = 64 := rfl
      rw [e1] at h1a; rw [e2] at h1b; rw [e3] at h2a; rw [e4] at h2b
      unfold chkM
      rw [if_neg (by omega)]
      by_cases hc : l.getD 0 0#64 &&& 1#64 = 0#64
      · rw [if_pos hc]
        exact ⟨(fun h => absurd h (by decide)), fun h => by have h0 := (show l.getD 0 0#64 &&& 1#64 = 1#64 from h 0 (by omega)); rw [hc] at h0; exact absurd h0 (by decide)⟩
      · rw [if_neg hc]
        refine ⟨fun _ i hi => ?_, fun _ => rfl⟩
        obtain rfl : i = 0 := by omega
        exact (bit_of_and _).resolve_left hc
    · exact ⟨fun _ _ _ => trivial, fun _ => rfl⟩
    · exact ⟨fun _ _ _ => trivial, fun _ => rfl⟩
    · exact ⟨fun _ _ _ => trivial, fun _ => rfl⟩
    · exact ⟨fun _ _ _ => trivial, fun _ => rfl⟩
    · exact ⟨fun _ _ _ => trivial, fun _ => rfl⟩
    · show (if PP ≤ (l.getD 0 0#64).toNat then 2 else 0) = (0 : Int) ↔ ∀ i, i < l.length → (l.getD i 0).toNat < PPw.toNat
      rw [hPP]
      have e1 : lsF 8 = 1 := rfl
      have e2 : msF 8 = 1 := rfl
      rw [e1] at h1a; rw [e2] at h1b
      by_cases hc : PP ≤ (l.getD 0 0#64).toNat
      · rw [if_pos hc]
        exact ⟨(fun h => absurd h (by decide)), fun h => by have h0 := h 0 (by omega); exact absurd hc (Nat.not_le.2 h0)⟩
      · rw [if_neg hc]
        refine ⟨fun _ i hi => ?_, fun _ => rfl⟩
        obtain rfl : i = 0 := by omega
        exact Nat.not_le.1 hc
  rw [key]
  exact ⟨fun h => ⟨hk', h1a, h1b, h2a, h2b, h⟩, fun h => h.2.2.2.2.2⟩
theorem vld_one (c : Nat) : vld c 1#64 := by
  unfold vld
  split
  · decide
  · split
    · decide
    · trivial
/-- of any words that may be: a right seed's -/
theorem ch_of_ck {k b : Int} {n : Nat} (h : ckS k b (n : Int) = 0) {l : List (BitVec 64)} (hl : l.length = n) (hv : ∀ i, i < n → vld (wkK k) (l.getD i 0)) : chF k b l = 0 := by
  obtain ⟨_, n', e, _, _, _, _, hc⟩ := ckS_ok h
  obtain rfl : n = n' := by omega
  obtain ⟨a1, a2, a3, a4, a5, _⟩ := ch_iff.1 hc
  rw [List.length_replicate] at a2 a3
  exact ch_iff.2 ⟨a1, by rw [hl]; exact a2, by rw [hl]; exact a3, a4, a5, fun i hi => hv i (by omega)⟩
theorem ck_of_ch {k b : Int} {l : List (BitVec 64)} (h : chF k b l = 0) : ckS k b (l.length : Int) = 0 ∧ ∀ i, i < l.length → vld (wkK k) (l.getD i 0) := by
  obtain ⟨a1, a2, a3, a4, a5, a6⟩ := ch_iff.1 h
  refine ⟨?_, a6⟩
  unfold ckS
  rw [if_neg (by rw [a1]; decide), if_neg (fun e => e.elim a2 a3)]
  refine ch_iff.2 ⟨a1, by simpa using a2, by simpa using a3, a4, a5, fun i hi => ?_⟩
  have e : (List.replicate (l.length : Int).toNat (1#64 : BitVec 64)).getD i 0 = 1#64 := by
    rw [List.length_replicate] at hi
    rw [List.getD_eq_getElem?_getD, List.getElem?_replicate, if_pos hi]; rfl
  rw [e]
  exact vld_one _
end Go.Proofs.YtdjlbpgjbgepdaaGreat
end
section
/- Layer 44: the document's Take. -/
namespace Go.Proofs.YtdjlbpgjbgepdaaGreat
open Go Go.RowKit Go.Bv
set_option linter.unusedVariables false
set_option maxRecDepth 100000
theorem ow_apart {w : World} {b1 b2 : Nat} {e1 e2 : TypeId} {s1 s2 : Nat} {v1 v2 : Value} {n1 n2 : Nat} {xs1 xs2 : List Value} (h1 : w.ownsRow b1 e1 s1 v1 n1 xs1) (h2 : w.ownsRow b2 e2 s2 v2 n2 xs2) (he : e1 ≠ e2) : ∀ x, v1.ownBlock = some x → v2.ownBlock ≠ some x := by
  intro x hx1 hx2
  rcases h1.2 with ⟨hv, _⟩ | ⟨g, cap, cur, hv, _, hc, _⟩
  · rw [hv] at hx1; cases hx1
  · rcases h2.2 with ⟨hv2, _⟩ | ⟨g2, cap2, cur2, hv2, _, hc2, _⟩
    · rw [hv2] at hx2; cases hx2
    · rw [hv] at hx1
      rw [hv2] at hx2
      have i1 : g = x := by simpa [Value.ownBlock] using hx1
      have i2 : g2 = x := by simpa [Value.ownBlock] using hx2
      subst i1; subst i2
      rw [hc] at hc2
      have h3 := Option.some.inj hc2
      injection h3 with _ h4 _
      exact he h4
theorem own_in44 {w : World} {base g : Nat} {e : TypeId} {s n cap : Nat} {xs : List Value} {a : Option Addr} (h : w.ownsRow base e s (.slice a n cap) n xs) (hg : (Value.slice a n cap).ownBlock = some g) : base ≤ g ∧ g < w.heap.size := ow_lt h g hg
theorem rtk_some44 {l : List (BitVec 64)} {k k' : Nat} {d : Drw} (hk : k ≤ l.length) (h : stp 0 l k = some (d, k')) (a : Option Addr) (n c : Nat) (w : World) (hq : QRow w a n c (l.drop k)) :
    Calls Tryz.prog 31 #[.slice a n c, .int .u64 2305843009213693951] w fun e w' => e = .returned (.tuple #[.agg #[.int .u64 (W64 d.1), .int .u64 (W64 d.2.1), .int .i64 (d.2.2 : Int)], .bool true]) ∧ New w w' := by
  have hC := rtake_l a n c (l.drop k) PPw PPw_ne w hq
  rw [PPw_lit] at hC
  refine hC.mono ?_
  rintro e w' ⟨⟨j, h1, h2, h3, rfl⟩ | ⟨h2, rfl⟩, hn⟩
  · rw [List.length_drop] at h1
    rw [drop_get] at h3 ⊢
    have hy := stp_yes (l := l) (k := k) (j := k + j) (by omega) (by omega) (fun i hi1 hi2 => by
      have := h2 (i - k) (by omega)
      rw [drop_get, show k + (i - k) = i by omega] at this
      exact this) h3
    rw [hy] at h
    cases h
    refine ⟨?_, hn⟩
    unfold drw
    rw [show ((k + j + 1 - k : Nat) : Int) = (j : Int) + 1 by omega]
  · have hno := stp_no (l := l) hk (fun i hi1 hi2 => by
      have := h2 (i - k) (by rw [List.length_drop]; omega)
      rw [drop_get, show k + (i - k) = i by omega] at this
      exact this)
    rw [hno] at h; cases h
theorem rtk_none44 {l : List (BitVec 64)} {k : Nat} (hk : k ≤ l.length) (h : stp 0 l k = none) (a : Option Addr) (n c : Nat) (w : World) (hq : QRow w a n c (l.drop k)) :
    Calls Tryz.prog 31 #[.slice a n c, .int .u64 2305843009213693951] w fun e w' => e = .returned (.tuple #[.agg #[.int .u64 0, .int .u64 0, .int .i64 0], .bool false]) ∧ New w w' := by
  have hC := rtake_l a n c (l.drop k) PPw PPw_ne w hq
  rw [PPw_lit] at hC
  refine hC.mono ?_
  rintro e w' ⟨⟨j, h1, h2, h3, rfl⟩ | ⟨h2, rfl⟩, hn⟩
  · rw [List.length_drop] at h1
    rw [drop_get] at h3 ⊢
    have hy := stp_yes (l := l) (k := k) (j := k + j) (by omega) (by omega) (fun i hi1 hi2 => by
      have := h2 (i - k) (by omega)
      rw [drop_get, show k + (i - k) = i by omega] at this
      exact this) h3
    rw [hy] at h; cases h
  · exact ⟨rfl, hn⟩
/-- all blocks of old but one are as they were -/
def Kb44 (W : World) (r : Nat) (w : World) : Prop := W.heap.size ≤ w.heap.size ∧ ∀ j, j < W.heap.size → j ≠ r → w.heap[j]? = W.heap[j]?
theorem Kb44.refl (W : World) (r : Nat) : Kb44 W r W := ⟨Nat.le_refl _, fun _ _ _ => rfl⟩
theorem Kb44.drew {W w : World} {r : Nat} (h : Kb44 W r w) : Kb44 W r w.drew := h
theorem Kb44.new {W w w' : World} {r : Nat} (h : Kb44 W r w) (hn : New w w') : Kb44 W r w' := ⟨Nat.le_trans h.1 hn.le, fun j hj hr => (hn.block j (Nat.lt_of_lt_of_le hj h.1)).trans (h.2 j hj hr)⟩
theorem Kb44.set {W w : World} {r : Nat} (h : Kb44 W r w) (i : Nat) (v : Value) : Kb44 W r (w.setCell ⟨r, i, none⟩ v) := ⟨by simpa using h.1, fun j hj hr => (heap_setCell_other _ _ _ _ hr).trans (h.2 j hj hr)⟩
set_option maxHeartbeats 8000000 in
theorem rtake_144 (k0 bi : Int) (n : Nat) (hn : 1 ≤ n ∧ n ≤ 320) (hwk : wkK k0 = 1) (hlm : W64 (lmW k0) = 2) (bl ol nl cl : Nat) (l : List (BitVec 64)) (hnl : nl ≤ 400) (w : World) (hl : QRow w (some ⟨bl, ol, none⟩) nl cl l) (hnl0 : 0 < nl) : Calls Tryz.prog 17 #[.slice (some ⟨bl, ol, none⟩) nl cl, .int .i64 k0, .int .i64 bi, .int .i64 (n : Int)] w fun e w' =>
    ((∃ ds k a1 c1 a2 c2, sdS 1 l n = some (ds, k) ∧ e = .returned (.tuple #[.agg (sdc k0 bi a1 n c1), .slice a2 n c2, .int .i64 (k : Int), .bool true]) ∧ QRow w' a1 n c1 (ds.map fun d => d.1) ∧ KRow w' a2 n c2 ds) ∨ (sdS 1 l n = none ∧ e = .returned (.tuple #[.agg zSd, .slice none 0 0, .int .i64 (nl : Int), .bool false]))) ∧ New w w' := by
  obtain ⟨iq, hiq, jq0, jq1, jq2⟩ := info_parts info_u64q
  obtain ⟨id, hid, hd0, hd1, hd2⟩ := info_parts info_drw
  have hlc := hl.le
  have hlr := hl.room
  have HLE := Lib.hid hl.len_eq
  have HL := Lib.hid hl
  have HLI := Lib.hid (fun w => rlimit_44 k0 w)
  rw [hlm] at HLI
  obtain ⟨h1, h2, h3⟩ := two_blocks44 w (.cells zSd 37) (.cells (sdc k0 bi none 0 0) 37)
  have HR0 := Lib.hid h1
  have HS0 := Lib.hid h2
  have HN0 := Lib.hid h3
  have hsz : (w.alloc (.cells zSd 37)).heap.size = w.heap.size + 1 := by simp
  have hsz2 : ((w.alloc (.cells zSd 37)).alloc (.cells (sdc k0 bi none 0 0) 37)).heap.size = w.heap.size + 2 := by simp
  clear h1 h2 h3 hl hwk hlm
  go_enter Tryz.func17, Tryz.ntmps17
  go_wp2_with fail
  generalize (w.alloc (.cells zSd 37)).alloc (.cells (sdc k0 bi none 0 0) 37) = w0 at HR0 HS0 HN0 hsz2 ⊢
  have HZ0 := Lib.hid hsz2
  clear hsz2
  try rw [hsz]
  clear hsz
  go_loopw [13, 14, 15] (fun ov uv iv wr => ∃ (q k : Nat) (ds : List Drw) (a1 : Option Addr) (c1 : Nat) (a2 : Option Addr) (c2 : Nat), q ≤ n ∧ iv = .int .i64 (q : Int) ∧ uv = .int .i64 (k : Int) ∧ ov = .slice a2 q c2 ∧ Hid (sdS 1 l q = some (ds, k) ∧ k ≤ nl) ∧ Hid (wr.heap[w.heap.size]? = some (.cells zSd 37 (0, 0))) ∧ Hid (wr.heap[w.heap.size + 1]? = some (.cells (sdc k0 bi a1 q c1) 37 (0, 0))) ∧ wr.ownsRow (w.heap.size + 2) 23 1 (.slice a1 q c1) q ((ds.map fun d => d.1).map fun x => .int .u64 (W64 x)) ∧ wr.ownsRow (w.heap.size + 2) 53 3 (.slice a2 q c2) q (drCs ds) ∧ Hid (New w wr)) (fun _ _ iv _ => n - (intOf iv).toNat)
  case atStart => exact ⟨0, 0, [], none, 0, none, 0, Nat.zero_le _, rfl, rfl, rfl, Lib.hid ⟨rfl, Nat.zero_le _⟩, HR0, HS0, World.ownsRow_nil _ _ _ 1, World.ownsRow_nil _ _ _ 3, HN0⟩
  case round =>
    obtain ⟨q, k, ds, a1, c1, a2, c2, hq, rfl, rfl, rfl, HS, HRB, HSB, ho1, ho2, HN⟩ := hrel
    clear HR0 HS0 HN0 HZ0
    have HO1 := Lib.hid ho1
    have HO2 := Lib.hid ho2
    obtain ⟨wq, hwq⟩ : ∃ z, z = wr := ⟨_, rfl⟩
    rw [← hwq] at HO1 HO2 HRB HSB HN ⊢
    clear ho1 ho2 hwq
    have hk0 : (0 : Int) ≤ (k : Int) := by omega
    have hkl : (k : Int) ≤ (nl : Int) := by have := HS.out.2; omega
    by_cases hlt : (q : Int) < (n : Int)
    · have hq0 : (0 : Int) ≤ (q : Int) := by omega
      have HLQ := Lib.hid (HL.out.stay HN.out)
      go_wp2_with fail
      refine (HLI.out _).mono ?_
      rintro e w9 ⟨rfl, rfl⟩
      go_upto_if 33 with fail
      go_cut [17] (fun is wx => (∃ (x y : BitVec 64) (u k' : Nat), Hid (stp 1 l k = some ((x, y, u), k') ∧ k' = k + u ∧ k' ≤ nl) ∧ is = .bool true ∧ Hid (wx.heap[wq.heap.size]? = some (.cells #[.int .u64 (W64 x), .int .u64 (W64 y), .int .i64 (u : Int)] 53 (0, 0))) ∧ Hid (New wq wx)) ∨ (Hid (stp 1 l k = none) ∧ is = .bool false ∧ Hid (New wq wx)))
      case first =>
        by_cases hkn : (k : Int) < (nl : Int)
        · have hd : decide (k < nl) = true := decide_eq_true (by omega)
          have cl0 := fun o : Obj => (HLQ.out.stay ((New.refl wq).alloc o)).cell bl ol rfl k (by omega)
          have HST := Lib.hid (stp_word (c := 1) (by decide) (l := l) (k := k) (by rw [HLE.out]; omega))
          generalize l.getD k 0 = x at *
          obtain ⟨hev, hod⟩ := odd44_bit x
          by_cases hp : x % 2#64 = 0#64
          · have hpb : (x % 2#64 == 0#64) = true := by rw [hp]; rfl
            obtain ⟨e1, e2⟩ := hev hp
            have HE := Lib.hid (And.intro e1 e2)
            clear hev hod e1 e2 hp
            go_wp2_with fail
            refine (HLI.out _).mono ?_
            rintro e w9 ⟨rfl, rfl⟩
            go_wp2_with fail
            go_meet
            case rel =>
              refine .inl ⟨x ||| 1#64, x &&& 1#64, 1, k + 1, Lib.hid ⟨HST.out, rfl, by omega⟩, rfl, Lib.hid ?_, Lib.hid ((New.refl wq).alloc _)⟩
              rw [HE.out.1, HE.out.2]
              exact heap_alloc_new _ _
          · have hpb : (x % 2#64 == 0#64) = false := beq_eq_false_iff_ne.2 hp
            obtain ⟨e1, e2⟩ := hod hp
            have HE := Lib.hid (And.intro e1 e2)
            clear hev hod e1 e2 hp
            go_wp2_with fail
            refine (HLI.out _).mono ?_
            rintro e w9 ⟨rfl, rfl⟩
            go_wp2_with fail
            refine (HLI.out _).mono ?_
            rintro e w9 ⟨rfl, rfl⟩
            go_wp2_with fail
            go_meet
            case rel =>
              refine .inl ⟨x ||| 1#64, x &&& 1#64, 1, k + 1, Lib.hid ⟨HST.out, rfl, by omega⟩, rfl, Lib.hid ?_, Lib.hid ((New.refl wq).alloc _)⟩
              rw [HE.out.1, HE.out.2]
              exact heap_alloc_new _ _
        · have hd : decide (k < nl) = false := decide_eq_false (by omega)
          have HST : Hid (stp 1 l k = none) := Lib.hid (by have e : k = l.length := by have := HLE.out; omega
                                                           rw [e]; exact stp_few (by decide))
          go_wp2_with fail
          go_meet
          case rel => exact .inr ⟨HST, rfl, Lib.hid ((New.refl wq).alloc _)⟩
      case rest =>
        rcases hcut with ⟨x, y, u, k', HST, rfl, HDB, HNX⟩ | ⟨HST, rfl, HNX⟩
        · have HD := Lib.hid (sdS_next HS.out.1 HST.out.1)
          have hds := sdS_len HS.out.1
          have hkk := HST.out.2
          have hsb := (HNX.out.block _ (lt_of_block HSB.out)).trans HSB.out
          have hrb := (HNX.out.block _ (lt_of_block HRB.out)).trans HRB.out
          have o1 := ow_new HO1.out HNX.out
          have o2 := ow_new HO2.out HNX.out
          have s2 := cell_of_row _ _ 2 _ _ _ hsb
          have d0 := cell_of_row _ _ 0 _ _ _ HDB.out
          have hwk := HN.out.le
          have hwx := HNX.out.le
          have hltD := lt_of_block HDB.out
          have hltS := lt_of_block hsb
          have hltR := lt_of_block hrb
          have hltq := lt_of_block HSB.out
          have HRX := Lib.hid hrb
          have HSX := Lib.hid hsb
          have HO1X := Lib.hid o1
          have HO2X := Lib.hid o2
          have HLT1 : Hid (∀ g, (Value.slice a1 q c1).ownBlock = some g → w.heap.size + 2 ≤ g ∧ g < wq.heap.size) := Lib.hid (fun g hg => ow_lt HO1.out g hg)
          have HLT2 : Hid (∀ g, (Value.slice a2 q c2).ownBlock = some g → w.heap.size + 2 ≤ g ∧ g < wq.heap.size) := Lib.hid (fun g hg => ow_lt HO2.out g hg)
          have HSZ : Hid (w.heap.size + 1 < wq.heap.size ∧ wq.heap.size ≤ wc.heap.size ∧ True) := Lib.hid ⟨hltq, hwx, trivial⟩
          have hds2 := hds
          clear hsb hrb o2 hwk hwx hltD hltS hltR hltq
          clear HO1 HO2 HRB HSB
          have HKK := Lib.hid hkk
          have HQN : Hid (q < n) := Lib.hid (by omega)
          clear hkk hds hds2
          go_wp2_with (at_builtin; refine wpList_append_own _ rfl (.tmp 72) (.tmp 75) 28 rfl (w.heap.size + 2) 23 iq (.int .u64 0) 1 8 Tryz.underlying28 hiq jq0 jq1 jq2 rfl (by decide) _ q _ rfl (o1.alloc _) ⟨wc.heap.size, 0, none⟩ 1 1 [.int .u64 (W64 x)] rfl rfl ?c1 ?c2 ?c3 ?c4 ?c5 ?_)
          try (case c1 => exact new_cells_t wc _ _)
          try (case c2 => intro z hz; simp at hz; subst hz; rfl)
          try (case c3 => unfold maxLen; have := HQN.out; omega)
          try (case c4 => have := HQN.out; omega)
          try (case c5 => have := HSZ.out; simp; omega)
          intro v1 w1 how1 hgr1 _
          have hw1' : w1.ownsRow (w.heap.size + 2) 23 1 v1 (q + 1) (((ds ++ [(x, y, u)]).map fun d => d.1).map fun x => .int .u64 (W64 x)) := by
            rw [List.map_append, List.map_append, List.map_map]; exact how1
          obtain ⟨b1, p1, rfl, _⟩ := own_len hw1'
          have hlt1 : wc.heap.size ≤ (wc.alloc (.cells #[.int .u64 (W64 x)] 23)).heap.size := by simp
          have HD1 : Hid (w1.heap[wq.heap.size]? = some (.cells #[.int .u64 (W64 x), .int .u64 (W64 y), .int .i64 (u : Int)] 53 (0, 0))) := Lib.hid ((hgr1.block _ (Nat.lt_of_lt_of_le (lt_of_block HDB.out) hlt1) (fun e => by have := HLT1.out _ e.symm; omega)).trans ((((New.refl wc).alloc _).block _ (lt_of_block HDB.out)).trans HDB.out))
          have HS1 : Hid (w1.heap[w.heap.size + 1]? = some (.cells (sdc k0 bi a1 q c1) 37 (0, 0))) := Lib.hid ((hgr1.block _ (Nat.lt_of_lt_of_le (lt_of_block HSX.out) hlt1) (fun e => by have := HLT1.out _ e.symm; omega)).trans ((((New.refl wc).alloc _).block _ (lt_of_block HSX.out)).trans HSX.out))
          have HR1 : Hid (w1.heap[w.heap.size]? = some (.cells zSd 37 (0, 0))) := Lib.hid ((hgr1.block _ (Nat.lt_of_lt_of_le (lt_of_block HRX.out) hlt1) (fun e => by have := HLT1.out _ e.symm; omega)).trans ((((New.refl wc).alloc _).block _ (lt_of_block HRX.out)).trans HRX.out))
          have HO21 : Hid (w1.ownsRow (w.heap.size + 2) 53 3 (.slice a2 q c2) q (drCs ds)) := Lib.hid (ow_blk (ow_new HO2X.out ((New.refl wc).alloc _)) (fun z hz => hgr1.block z (by have := HLT2.out z hz; have := HSZ.out; omega) (fun e => ow_apart HO1X.out HO2X.out (by decide) z e.symm hz)))
          have HN1 : Hid (New w w1) := Lib.hid (((HN.out.trans HNX.out).alloc _).grown' hgr1 (fun z e => by have := HLT1.out z e; omega))
          have HO11 := Lib.hid hw1'
          have HZ1 : Hid (wq.heap.size ≤ w1.heap.size) := Lib.hid (by have := hgr1.size; have := HSZ.out; omega)
          have f2 := frozen_of_row _ _ 2 _ _ HS1.out
          have t2 := cell_of_row _ _ 2 _ _ _ HS1.out
          clear how1 hgr1 hw1' hlt1 o1 s2 d0 HO1X HO2X HSX HRX
          go_upto_region 20 with fail
          have HSW := Lib.hid (heap_setCell_same _ _ 2 _ _ (.slice b1 (q + 1) p1) HS1.out)
          have HDW := Lib.hid ((heap_setCell_other w1 ⟨w.heap.size + 1, 2, none⟩ wq.heap.size (.slice b1 (q + 1) p1) (by show wq.heap.size ≠ w.heap.size + 1; have := HSZ.out; omega)).trans HD1.out)
          have HRW := Lib.hid ((heap_setCell_other w1 ⟨w.heap.size + 1, 2, none⟩ w.heap.size (.slice b1 (q + 1) p1) (by show w.heap.size ≠ w.heap.size + 1; omega)).trans HR1.out)
          have HO1W := Lib.hid (ow_far3 HO11.out (a := ⟨w.heap.size + 1, 2, none⟩) (fun e => absurd (ow_lt HO11.out _ e).1 (by show ¬ (w.heap.size + 2 ≤ w.heap.size + 1); omega)) (.slice b1 (q + 1) p1))
          have HO2W := Lib.hid (ow_far3 HO21.out (a := ⟨w.heap.size + 1, 2, none⟩) (fun e => absurd (ow_lt HO21.out _ e).1 (by show ¬ (w.heap.size + 2 ≤ w.heap.size + 1); omega)) (.slice b1 (q + 1) p1))
          have HNW := Lib.hid (HN1.out.setCell (p := ⟨w.heap.size + 1, 2, none⟩) (by show w.heap.size ≤ w.heap.size + 1; omega) (.slice b1 (q + 1) p1))
          have HZW : Hid (wq.heap.size ≤ (w1.setCell ⟨w.heap.size + 1, 2, none⟩ (.slice b1 (q + 1) p1)).heap.size) := Lib.hid (by rw [size_set]; exact HZ1.out)
          generalize w1.setCell ⟨w.heap.size + 1, 2, none⟩ (.slice b1 (q + 1) p1) = W2 at *
          clear HS1 HD1 HR1 HO11 HO21 HN1 HZ1 f2 t2
          have e0 := cell_of_row _ _ 0 _ _ _ HDW.out
          have e1 := cell_of_row _ _ 1 _ _ _ HDW.out
          have e2 := cell_of_row _ _ 2 _ _ _ HDW.out
          have o2 := HO2W.out
          go_wp2_with (at_builtin; refine wpList_append_own _ rfl (.tmp 78) (.tmp 80) 38 rfl (w.heap.size + 2) 53 id (.agg #[.int .u64 0, .int .u64 0, .int .i64 0]) 3 24 Tryz.underlying38 hid hd0 hd1 hd2 rfl (by decide) _ q _ rfl (o2.alloc _) ⟨W2.heap.size, 0, none⟩ 1 1 (drC (x, y, u)) rfl rfl ?c1 ?c2 ?c3 ?c4 ?c5 ?_)
          try (case c1 => exact drw_cells W2 x y u 53)
          try (case c2 => exact drw_one x y u)
          try (case c3 => unfold maxLen; have := HQN.out; omega)
          try (case c4 => have := HQN.out; omega)
          try (case c5 => have := HZW.out; have := HSZ.out; simp; omega)
          intro v2 w2 how2 hgr2 _
          have hw2' : w2.ownsRow (w.heap.size + 2) 53 3 v2 (q + 1) (drCs (ds ++ [(x, y, u)])) := by
            rw [drCs_snoc]; exact how2
          obtain ⟨b2, p2, rfl, _⟩ := KRow.of_owns hw2' (by have := HQN.out; omega)
          have hlt2 : W2.heap.size ≤ (W2.alloc (.cells #[.int .u64 (W64 x), .int .u64 (W64 y), .int .i64 (u : Int)] 53)).heap.size := by simp
          have HD2 : Hid (w2.heap[wq.heap.size]? = some (.cells #[.int .u64 (W64 x), .int .u64 (W64 y), .int .i64 (u : Int)] 53 (0, 0))) := Lib.hid ((hgr2.block _ (Nat.lt_of_lt_of_le (lt_of_block HDW.out) hlt2) (fun e => by have := HLT2.out _ e.symm; omega)).trans ((((New.refl W2).alloc _).block _ (lt_of_block HDW.out)).trans HDW.out))
          have HS2 : Hid (w2.heap[w.heap.size + 1]? = some (.cells (sdc k0 bi b1 (q + 1) p1) 37 (0, 0))) := Lib.hid ((hgr2.block _ (Nat.lt_of_lt_of_le (lt_of_block HSW.out) hlt2) (fun e => by have := HLT2.out _ e.symm; omega)).trans ((((New.refl W2).alloc _).block _ (lt_of_block HSW.out)).trans HSW.out))
          have HR2 : Hid (w2.heap[w.heap.size]? = some (.cells zSd 37 (0, 0))) := Lib.hid ((hgr2.block _ (Nat.lt_of_lt_of_le (lt_of_block HRW.out) hlt2) (fun e => by have := HLT2.out _ e.symm; omega)).trans ((((New.refl W2).alloc _).block _ (lt_of_block HRW.out)).trans HRW.out))
          have HO12 : Hid (w2.ownsRow (w.heap.size + 2) 23 1 (.slice b1 (q + 1) p1) (q + 1) (((ds ++ [(x, y, u)]).map fun d => d.1).map fun x => .int .u64 (W64 x))) := Lib.hid (ow_blk (ow_new HO1W.out ((New.refl W2).alloc _)) (fun z hz => hgr2.block z (by have := (ow_lt HO1W.out z hz).2; omega) (fun e => ow_apart HO1W.out HO2W.out (by decide) z hz e.symm)))
          have HN2 : Hid (New w w2) := Lib.hid ((HNW.out.alloc _).grown' hgr2 (fun z e => by have := HLT2.out z e; omega))
          have HO22 := Lib.hid hw2'
          have g2 := cell_of_row _ _ 2 _ _ _ HD2.out
          have hw1 : wrap64 ((k : Int) + (u : Int)) = ((k + u : Nat) : Int) := by have := HKK.out; unfold wrap64; omega
          clear how2 hgr2 hw2' hlt2 o2 e0 e1 e2 HO1W HO2W HSW HRW HDW HNW
          go_wp2
          exact ⟨⟨q + 1, k', _, b1, p1, b2, p2, by have := HQN.out; omega, by go_num, by rw [hw1, HKK.out.1], rfl, Lib.hid ⟨HD.out, HKK.out.2⟩, HR2, HS2, HO12.out, HO22.out, HN2⟩, by have := HQN.out; simp [intOf]; omega⟩
        · have HD := Lib.hid (sdS_few HS.out.1 HST.out)
          have HNO : Hid (sdS 1 l n = none) := Lib.hid (by
            have := sdS_none HD.out (n - (q + 1))
            rw [show q + 1 + (n - (q + 1)) = n by omega] at this
            exact this)
          have hrb := (HNX.out.block _ (lt_of_block HRB.out)).trans HRB.out
          have r0 := cell_of_row _ _ 0 _ _ _ hrb
          have r1 := cell_of_row _ _ 1 _ _ _ hrb
          have r2 := cell_of_row _ _ 2 _ _ _ hrb
          have rf := fun i => frozen_of_row _ _ i _ _ hrb
          have HNF := Lib.hid (HN.out.trans HNX.out)
          clear hrb HRB HSB HO1 HO2
          go_wp2_with fail
          refine bodyPost_ret (by simp [results, Tryz.results17, go_sem, r0, r1, r2]; try rfl) rfl ?_
          exact ⟨.inr ⟨HNO.out, rfl⟩, ((HNF.out.setCell (by exact Nat.le_refl _) _).setCell (by exact Nat.le_refl _) _).setCell (by exact Nat.le_refl _) _⟩
    · obtain rfl : q = n := by omega
      have r0 := cell_of_row _ _ 0 _ _ _ HRB.out
      have r1 := cell_of_row _ _ 1 _ _ _ HRB.out
      have r2 := cell_of_row _ _ 2 _ _ _ HRB.out
      have rf := fun i => frozen_of_row _ _ i _ _ HRB.out
      have s0 := cell_of_row _ _ 0 _ _ _ HSB.out
      have s1 := cell_of_row _ _ 1 _ _ _ HSB.out
      have s2 := cell_of_row _ _ 2 _ _ _ HSB.out
      have hR : ∀ (i x : Nat), (((wq.setCell ⟨w.heap.size, 0, none⟩ (.int .i64 k0)).setCell ⟨w.heap.size, 1, none⟩ (.int .i64 bi)).setCell ⟨w.heap.size, 2, none⟩ (.slice a1 q c1)).ownsRow (w.heap.size + 2) 23 1 (.slice a1 q c1) q ((ds.map fun d => d.1).map fun x => .int .u64 (W64 x)) := fun i x =>
        ow_far3 (ow_far3 (ow_far3 HO1.out (a := ⟨w.heap.size, 0, none⟩) (fun e => absurd (ow_lt HO1.out _ e).1 (by show ¬ (w.heap.size + 2 ≤ w.heap.size); omega)) _) (a := ⟨w.heap.size, 1, none⟩) (fun e => absurd (ow_lt HO1.out _ e).1 (by show ¬ (w.heap.size + 2 ≤ w.heap.size); omega)) _) (a := ⟨w.heap.size, 2, none⟩) (fun e => absurd (ow_lt HO1.out _ e).1 (by show ¬ (w.heap.size + 2 ≤ w.heap.size); omega)) _
      have hK : ∀ (i x : Nat), (((wq.setCell ⟨w.heap.size, 0, none⟩ (.int .i64 k0)).setCell ⟨w.heap.size, 1, none⟩ (.int .i64 bi)).setCell ⟨w.heap.size, 2, none⟩ (.slice a1 q c1)).ownsRow (w.heap.size + 2) 53 3 (.slice a2 q c2) q (drCs ds) := fun i x =>
        ow_far3 (ow_far3 (ow_far3 HO2.out (a := ⟨w.heap.size, 0, none⟩) (fun e => absurd (ow_lt HO2.out _ e).1 (by show ¬ (w.heap.size + 2 ≤ w.heap.size); omega)) _) (a := ⟨w.heap.size, 1, none⟩) (fun e => absurd (ow_lt HO2.out _ e).1 (by show ¬ (w.heap.size + 2 ≤ w.heap.size); omega)) _) (a := ⟨w.heap.size, 2, none⟩) (fun e => absurd (ow_lt HO2.out _ e).1 (by show ¬ (w.heap.size + 2 ≤ w.heap.size); omega)) _
      obtain ⟨x1, y1, z1, hq1⟩ := QRow.of_owns (hR 0 0) (by omega)
      cases z1
      obtain ⟨x2, y2, z2, hq2⟩ := KRow.of_owns (hK 0 0) (by omega)
      cases z2
      have HQ1 := Lib.hid hq1
      have HQ2 := Lib.hid hq2
      have HNF := Lib.hid (((HN.out.setCell (p := ⟨w.heap.size, 0, none⟩) (by exact Nat.le_refl _) (.int .i64 k0)).setCell (p := ⟨w.heap.size, 1, none⟩) (by exact Nat.le_refl _) (.int .i64 bi)).setCell (p := ⟨w.heap.size, 2, none⟩) (by exact Nat.le_refl _) (.slice a1 q c1))
      clear hq1 hq2 hR hK HO1 HO2 HRB HSB
      go_wp2_with fail
      refine bodyPost_ret (by simp [results, Tryz.results17, go_sem, r0, r1, r2]; try rfl) rfl ?_
      first | exact ⟨.inl ⟨ds, k, a1, c1, a2, c2, HS.out.1, rfl, HQ1.out, HQ2.out⟩, HNF.out⟩ | exact ⟨.inl ⟨ds, k, HS.out.1, a1, c1, a2, c2, rfl, HQ1.out, HQ2.out⟩, HNF.out⟩
set_option maxHeartbeats 8000000 in
theorem rtake_244 (k0 bi : Int) (n : Nat) (hn : 1 ≤ n ∧ n ≤ 320) (hwk : wkK k0 = 2) (hlm : W64 (lmW k0) = 0) (bl ol nl cl : Nat) (l : List (BitVec 64)) (hnl : nl ≤ 400) (w : World) (hl : QRow w (some ⟨bl, ol, none⟩) nl cl l) (hnl0 : 0 < nl) : Calls Tryz.prog 17 #[.slice (some ⟨bl, ol, none⟩) nl cl, .int .i64 k0, .int .i64 bi, .int .i64 (n : Int)] w fun e w' =>
    ((∃ ds k a1 c1 a2 c2, sdS 2 l n = some (ds, k) ∧ e = .returned (.tuple #[.agg (sdc k0 bi a1 n c1), .slice a2 n c2, .int .i64 (k : Int), .bool true]) ∧ QRow w' a1 n c1 (ds.map fun d => d.1) ∧ KRow w' a2 n c2 ds) ∨ (sdS 2 l n = none ∧ e = .returned (.tuple #[.agg zSd, .slice none 0 0, .int .i64 (nl : Int), .bool false]))) ∧ New w w' := by
  obtain ⟨iq, hiq, jq0, jq1, jq2⟩ := info_parts info_u64q
  obtain ⟨id, hid, hd0, hd1, hd2⟩ := info_parts info_drw
  have hlc := hl.le
  have hlr := hl.room
  have HLE := Lib.hid hl.len_eq
  have HL := Lib.hid hl
  have HLI := Lib.hid (fun w => rlimit_44 k0 w)
  rw [hlm] at HLI
  obtain ⟨h1, h2, h3⟩ := two_blocks44 w (.cells zSd 37) (.cells (sdc k0 bi none 0 0) 37)
  have HR0 := Lib.hid h1
  have HS0 := Lib.hid h2
  have HN0 := Lib.hid h3
  have hsz : (w.alloc (.cells zSd 37)).heap.size = w.heap.size + 1 := by simp
  have hsz2 : ((w.alloc (.cells zSd 37)).alloc (.cells (sdc k0 bi none 0 0) 37)).heap.size = w.heap.size + 2 := by simp
  clear h1 h2 h3 hl hwk hlm
  go_enter Tryz.func17, Tryz.ntmps17
  go_wp2_with fail
  generalize (w.alloc (.cells zSd 37)).alloc (.cells (sdc k0 bi none 0 0) 37) = w0 at HR0 HS0 HN0 hsz2 ⊢
  have HZ0 := Lib.hid hsz2
  clear hsz2
  try rw [hsz]
  clear hsz
  go_loopw [13, 14, 15] (fun ov uv iv wr => ∃ (q k : Nat) (ds : List Drw) (a1 : Option Addr) (c1 : Nat) (a2 : Option Addr) (c2 : Nat), q ≤ n ∧ iv = .int .i64 (q : Int) ∧ uv = .int .i64 (k : Int) ∧ ov = .slice a2 q c2 ∧ Hid (sdS 2 l q = some (ds, k) ∧ k ≤ nl) ∧ Hid (wr.heap[w.heap.size]? = some (.cells zSd 37 (0, 0))) ∧ Hid (wr.heap[w.heap.size + 1]? = some (.cells (sdc k0 bi a1 q c1) 37 (0, 0))) ∧ wr.ownsRow (w.heap.size + 2) 23 1 (.slice a1 q c1) q ((ds.map fun d => d.1).map fun x => .int .u64 (W64 x)) ∧ wr.ownsRow (w.heap.size + 2) 53 3 (.slice a2 q c2) q (drCs ds) ∧ Hid (New w wr)) (fun _ _ iv _ => n - (intOf iv).toNat)
  case atStart => exact ⟨0, 0, [], none, 0, none, 0, Nat.zero_le _, rfl, rfl, rfl, Lib.hid ⟨rfl, Nat.zero_le _⟩, HR0, HS0, World.ownsRow_nil _ _ _ 1, World.ownsRow_nil _ _ _ 3, HN0⟩
  case round =>
    obtain ⟨q, k, ds, a1, c1, a2, c2, hq, rfl, rfl, rfl, HS, HRB, HSB, ho1, ho2, HN⟩ := hrel
    clear HR0 HS0 HN0 HZ0
    have HO1 := Lib.hid ho1
    have HO2 := Lib.hid ho2
    obtain ⟨wq, hwq⟩ : ∃ z, z = wr := ⟨_, rfl⟩
    rw [← hwq] at HO1 HO2 HRB HSB HN ⊢
    clear ho1 ho2 hwq
    have hk0 : (0 : Int) ≤ (k : Int) := by omega
    have hkl : (k : Int) ≤ (nl : Int) := by have := HS.out.2; omega
    by_cases hlt : (q : Int) < (n : Int)
    · have hq0 : (0 : Int) ≤ (q : Int) := by omega
      have HLQ := Lib.hid (HL.out.stay HN.out)
      go_wp2_with fail
      refine (HLI.out _).mono ?_
      rintro e w9 ⟨rfl, rfl⟩
      go_upto_if 33 with fail
      go_cut [17] (fun is wx => (∃ (x y : BitVec 64) (u k' : Nat), Hid (stp 2 l k = some ((x, y, u), k') ∧ k' = k + u ∧ k' ≤ nl) ∧ is = .bool true ∧ Hid (wx.heap[wq.heap.size]? = some (.cells #[.int .u64 (W64 x), .int .u64 (W64 y), .int .i64 (u : Int)] 53 (0, 0))) ∧ Hid (New wq wx)) ∨ (Hid (stp 2 l k = none) ∧ is = .bool false ∧ Hid (New wq wx)))
      case first =>
        by_cases hkn : (k : Int) < (nl : Int)
        · have hd : decide (k < nl) = true := decide_eq_true (by omega)
          have cl0 := fun o : Obj => (HLQ.out.stay ((New.refl wq).alloc o)).cell bl ol rfl k (by omega)
          have HST := Lib.hid (stp_word (c := 2) (by decide) (l := l) (k := k) (by rw [HLE.out]; omega))
          generalize l.getD k 0 = x at *
          go_wp2_with fail
          refine (HLI.out _).mono ?_
          rintro e w9 ⟨rfl, rfl⟩
          go_wp2_with fail
          refine (HLI.out _).mono ?_
          rintro e w9 ⟨rfl, rfl⟩
          go_wp2_with fail
          go_meet
          case rel =>
            refine .inl ⟨x, 0#64, 1, k + 1, Lib.hid ⟨HST.out, rfl, by omega⟩, rfl, Lib.hid ?_, Lib.hid ((New.refl wq).alloc _)⟩
            exact heap_alloc_new _ _
        · have hd : decide (k < nl) = false := decide_eq_false (by omega)
          have HST : Hid (stp 2 l k = none) := Lib.hid (by have e : k = l.length := by have := HLE.out; omega
                                                           rw [e]; exact stp_few (by decide))
          go_wp2_with fail
          go_meet
          case rel => exact .inr ⟨HST, rfl, Lib.hid ((New.refl wq).alloc _)⟩
      case rest =>
        rcases hcut with ⟨x, y, u, k', HST, rfl, HDB, HNX⟩ | ⟨HST, rfl, HNX⟩
        · have HD := Lib.hid (sdS_next HS.out.1 HST.out.1)
          have hds := sdS_len HS.out.1
          have hkk := HST.out.2
          have hsb := (HNX.out.block _ (lt_of_block HSB.out)).trans HSB.out
          have hrb := (HNX.out.block _ (lt_of_block HRB.out)).trans HRB.out
          have o1 := ow_new HO1.out HNX.out
          have o2 := ow_new HO2.out HNX.out
          have s2 := cell_of_row _ _ 2 _ _ _ hsb
          have d0 := cell_of_row _ _ 0 _ _ _ HDB.out
          have hwk := HN.out.le
          have hwx := HNX.out.le
          have hltD := lt_of_block HDB.out
          have hltS := lt_of_block hsb
          have hltR := lt_of_block hrb
          have hltq := lt_of_block HSB.out
          have HRX := Lib.hid hrb
          have HSX := Lib.hid hsb
          have HO1X := Lib.hid o1
          have HO2X := Lib.hid o2
          have HLT1 : Hid (∀ g, (Value.slice a1 q c1).ownBlock = some g → w.heap.size + 2 ≤ g ∧ g < wq.heap.size) := Lib.hid (fun g hg => ow_lt HO1.out g hg)
          have HLT2 : Hid (∀ g, (Value.slice a2 q c2).ownBlock = some g → w.heap.size + 2 ≤ g ∧ g < wq.heap.size) := Lib.hid (fun g hg => ow_lt HO2.out g hg)
          have HSZ : Hid (w.heap.size + 1 < wq.heap.size ∧ wq.heap.size ≤ wc.heap.size ∧ True) := Lib.hid ⟨hltq, hwx, trivial⟩
          have hds2 := hds
          clear hsb hrb o2 hwk hwx hltD hltS hltR hltq
          clear HO1 HO2 HRB HSB
          have HKK := Lib.hid hkk
          have HQN : Hid (q < n) := Lib.hid (by omega)
          clear hkk hds hds2
          go_wp2_with (at_builtin; refine wpList_append_own _ rfl (.tmp 72) (.tmp 75) 28 rfl (w.heap.size + 2) 23 iq (.int .u64 0) 1 8 Tryz.underlying28 hiq jq0 jq1 jq2 rfl (by decide) _ q _ rfl (o1.alloc _) ⟨wc.heap.size, 0, none⟩ 1 1 [.int .u64 (W64 x)] rfl rfl ?c1 ?c2 ?c3 ?c4 ?c5 ?_)
          try (case c1 => exact new_cells_t wc _ _)
          try (case c2 => intro z hz; simp at hz; subst hz; rfl)
          try (case c3 => unfold maxLen; have := HQN.out; omega)
          try (case c4 => have := HQN.out; omega)
          try (case c5 => have := HSZ.out; simp; omega)
          intro v1 w1 how1 hgr1 _
          have hw1' : w1.ownsRow (w.heap.size + 2) 23 1 v1 (q + 1) (((ds ++ [(x, y, u)]).map fun d => d.1).map fun x => .int .u64 (W64 x)) := by
            rw [List.map_append, List.map_append, List.map_map]; exact how1
          obtain ⟨b1, p1, rfl, _⟩ := own_len hw1'
          have hlt1 : wc.heap.size ≤ (wc.alloc (.cells #[.int .u64 (W64 x)] 23)).heap.size := by simp
          have HD1 : Hid (w1.heap[wq.heap.size]? = some (.cells #[.int .u64 (W64 x), .int .u64 (W64 y), .int .i64 (u : Int)] 53 (0, 0))) := Lib.hid ((hgr1.block _ (Nat.lt_of_lt_of_le (lt_of_block HDB.out) hlt1) (fun e => by have := HLT1.out _ e.symm; omega)).trans ((((New.refl wc).alloc _).block _ (lt_of_block HDB.out)).trans HDB.out))
          have HS1 : Hid (w1.heap[w.heap.size + 1]? = some (.cells (sdc k0 bi a1 q c1) 37 (0, 0))) := Lib.hid ((hgr1.block _ (Nat.lt_of_lt_of_le (lt_of_block HSX.out) hlt1) (fun e => by have := HLT1.out _ e.symm; omega)).trans ((((New.refl wc).alloc _).block _ (lt_of_block HSX.out)).trans HSX.out))
          have HR1 : Hid (w1.heap[w.heap.size]? = some (.cells zSd 37 (0, 0))) := Lib.hid ((hgr1.block _ (Nat.lt_of_lt_of_le (lt_of_block HRX.out) hlt1) (fun e => by have := HLT1.out _ e.symm; omega)).trans ((((New.refl wc).alloc _).block _ (lt_of_block HRX.out)).trans HRX.out))
          have HO21 : Hid (w1.ownsRow (w.heap.size + 2) 53 3 (.slice a2 q c2) q (drCs ds)) := Lib.hid (ow_blk (ow_new HO2X.out ((New.refl wc).alloc _)) (fun z hz => hgr1.block z (by have := HLT2.out z hz; have := HSZ.out; omega) (fun e => ow_apart HO1X.out HO2X.out (by decide) z e.symm hz)))
          have HN1 : Hid (New w w1) := Lib.hid (((HN.out.trans HNX.out).alloc _).grown' hgr1 (fun z e => by have := HLT1.out z e; omega))
          have HO11 := Lib.hid hw1'
          have HZ1 : Hid (wq.heap.size ≤ w1.heap.size) := Lib.hid (by have := hgr1.size; have := HSZ.out; omega)
          have f2 := frozen_of_row _ _ 2 _ _ HS1.out
          have t2 := cell_of_row _ _ 2 _ _ _ HS1.out
          clear how1 hgr1 hw1' hlt1 o1 s2 d0 HO1X HO2X HSX HRX
          go_upto_region 20 with fail
          have HSW := Lib.hid (heap_setCell_same _ _ 2 _ _ (.slice b1 (q + 1) p1) HS1.out)
          have HDW := Lib.hid ((heap_setCell_other w1 ⟨w.heap.size + 1, 2, none⟩ wq.heap.size (.slice b1 (q + 1) p1) (by show wq.heap.size ≠ w.heap.size + 1; have := HSZ.out; omega)).trans HD1.out)
          have HRW := Lib.hid ((heap_setCell_other w1 ⟨w.heap.size + 1, 2, none⟩ w.heap.size (.slice b1 (q + 1) p1) (by show w.heap.size ≠ w.heap.size + 1; omega)).trans HR1.out)
          have HO1W := Lib.hid (ow_far3 HO11.out (a := ⟨w.heap.size + 1, 2, none⟩) (fun e => absurd (ow_lt HO11.out _ e).1 (by show ¬ (w.heap.size + 2 ≤ w.heap.size + 1); omega)) (.slice b1 (q + 1) p1))
          have HO2W := Lib.hid (ow_far3 HO21.out (a := ⟨w.heap.size + 1, 2, none⟩) (fun e => absurd (ow_lt HO21.out _ e).1 (by show ¬ (w.heap.size + 2 ≤ w.heap.size + 1); omega)) (.slice b1 (q + 1) p1))
          have HNW := Lib.hid (HN1.out.setCell (p := ⟨w.heap.size + 1, 2, none⟩) (by show w.heap.size ≤ w.heap.size + 1; omega) (.slice b1 (q + 1) p1))
          have HZW : Hid (wq.heap.size ≤ (w1.setCell ⟨w.heap.size + 1, 2, none⟩ (.slice b1 (q + 1) p1)).heap.size) := Lib.hid (by rw [size_set]; exact HZ1.out)
          generalize w1.setCell ⟨w.heap.size + 1, 2, none⟩ (.slice b1 (q + 1) p1) = W2 at *
          clear HS1 HD1 HR1 HO11 HO21 HN1 HZ1 f2 t2
          have e0 := cell_of_row _ _ 0 _ _ _ HDW.out
          have e1 := cell_of_row _ _ 1 _ _ _ HDW.out
          have e2 := cell_of_row _ _ 2 _ _ _ HDW.out
          have o2 := HO2W.out
          go_wp2_with (at_builtin; refine wpList_append_own _ rfl (.tmp 78) (.tmp 80) 38 rfl (w.heap.size + 2) 53 id (.agg #[.int .u64 0, .int .u64 0, .int .i64 0]) 3 24 Tryz.underlying38 hid hd0 hd1 hd2 rfl (by decide) _ q _ rfl (o2.alloc _) ⟨W2.heap.size, 0, none⟩ 1 1 (drC (x, y, u)) rfl rfl ?c1 ?c2 ?c3 ?c4 ?c5 ?_)
          try (case c1 => exact drw_cells W2 x y u 53)
          try (case c2 => exact drw_one x y u)
          try (case c3 => unfold maxLen; have := HQN.out; omega)
          try (case c4 => have := HQN.out; omega)
          try (case c5 => have := HZW.out; have := HSZ.out; simp; omega)
          intro v2 w2 how2 hgr2 _
          have hw2' : w2.ownsRow (w.heap.size + 2) 53 3 v2 (q + 1) (drCs (ds ++ [(x, y, u)])) := by
            rw [drCs_snoc]; exact how2
          obtain ⟨b2, p2, rfl, _⟩ := KRow.of_owns hw2' (by have := HQN.out; omega)
          have hlt2 : W2.heap.size ≤ (W2.alloc (.cells #[.int .u64 (W64 x), .int .u64 (W64 y), .int .i64 (u : Int)] 53)).heap.size := by simp
          have HD2 : Hid (w2.heap[wq.heap.size]? = some (.cells #[.int .u64 (W64 x), .int .u64 (W64 y), .int .i64 (u : Int)] 53 (0, 0))) := Lib.hid ((hgr2.block _ (Nat.lt_of_lt_of_le (lt_of_block HDW.out) hlt2) (fun e => by have := HLT2.out _ e.symm; omega)).trans ((((New.refl W2).alloc _).block _ (lt_of_block HDW.out)).trans HDW.out))
          have HS2 : Hid (w2.heap[w.heap.size + 1]? = some (.cells (sdc k0 bi b1 (q + 1) p1) 37 (0, 0))) := Lib.hid ((hgr2.block _ (Nat.lt_of_lt_of_le (lt_of_block HSW.out) hlt2) (fun e => by have := HLT2.out _ e.symm; omega)).trans ((((New.refl W2).alloc _).block _ (lt_of_block HSW.out)).trans HSW.out))
          have HR2 : Hid (w2.heap[w.heap.size]? = some (.cells zSd 37 (0, 0))) := Lib.hid ((hgr2.block _ (Nat.lt_of_lt_of_le (lt_of_block HRW.out) hlt2) (fun e => by have := HLT2.out _ e.symm; omega)).trans ((((New.refl W2).alloc _).block _ (lt_of_block HRW.out)).trans HRW.out))
          have HO12 : Hid (w2.ownsRow (w.heap.size + 2) 23 1 (.slice b1 (q + 1) p1) (q + 1) (((ds ++ [(x, y, u)]).map fun d => d.1).map fun x => .int .u64 (W64 x))) := Lib.hid (ow_blk (ow_new HO1W.out ((New.refl W2).alloc _)) (fun z hz => hgr2.block z (by have := (ow_lt HO1W.out z hz).2; omega) (fun e => ow_apart HO1W.out HO2W.out (by decide) z hz e.symm)))
          have HN2 : Hid (New w w2) := Lib.hid ((HNW.out.alloc _).grown' hgr2 (fun z e => by have := HLT2.out z e; omega))
          have HO22 := Lib.hid hw2'
          have g2 := cell_of_row _ _ 2 _ _ _ HD2.out
          have hw1 : wrap64 ((k : Int) + (u : Int)) = ((k + u : Nat) : Int) := by have := HKK.out; unfold wrap64; omega
          clear how2 hgr2 hw2' hlt2 o2 e0 e1 e2 HO1W HO2W HSW HRW HDW HNW
          go_wp2
          exact ⟨⟨q + 1, k', _, b1, p1, b2, p2, by have := HQN.out; omega, by go_num, by rw [hw1, HKK.out.1], rfl, Lib.hid ⟨HD.out, HKK.out.2⟩, HR2, HS2, HO12.out, HO22.out, HN2⟩, by have := HQN.out; simp [intOf]; omega⟩
        · have HD := Lib.hid (sdS_few HS.out.1 HST.out)
          have HNO : Hid (sdS 2 l n = none) := Lib.hid (by
            have := sdS_none HD.out (n - (q + 1))
            rw [show q + 1 + (n - (q + 1)) = n by omega] at this
            exact this)
          have hrb := (HNX.out.block _ (lt_of_block HRB.out)).trans HRB.out
          have r0 := cell_of_row _ _ 0 _ _ _ hrb
          have r1 := cell_of_row _ _ 1 _ _ _ hrb
          have r2 := cell_of_row _ _ 2 _ _ _ hrb
          have rf := fun i => frozen_of_row _ _ i _ _ hrb
          have HNF := Lib.hid (HN.out.trans HNX.out)
          clear hrb HRB HSB HO1 HO2
          go_wp2_with fail
          refine bodyPost_ret (by simp [results, Tryz.results17, go_sem, r0, r1, r2]; try rfl) rfl ?_
          exact ⟨.inr ⟨HNO.out, rfl⟩, ((HNF.out.setCell (by exact Nat.le_refl _) _).setCell (by exact Nat.le_refl _) _).setCell (by exact Nat.le_refl _) _⟩
    · obtain rfl : q = n := by omega
      have r0 := cell_of_row _ _ 0 _ _ _ HRB.out
      have r1 := cell_of_row _ _ 1 _ _ _ HRB.out
      have r2 := cell_of_row _ _ 2 _ _ _ HRB.out
      have rf := fun i => frozen_of_row _ _ i _ _ HRB.out
      have s0 := cell_of_row _ _ 0 _ _ _ HSB.out
      have s1 := cell_of_row _ _ 1 _ _ _ HSB.out
      have s2 := cell_of_row _ _ 2 _ _ _ HSB.out
      have hR : ∀ (i x : Nat), (((wq.setCell ⟨w.heap.size, 0, none⟩ (.int .i64 k0)).setCell ⟨w.heap.size, 1, none⟩ (.int .i64 bi)).setCell ⟨w.heap.size, 2, none⟩ (.slice a1 q c1)).ownsRow (w.heap.size + 2) 23 1 (.slice a1 q c1) q ((ds.map fun d => d.1).map fun x => .int .u64 (W64 x)) := fun i x =>
        ow_far3 (ow_far3 (ow_far3 HO1.out (a := ⟨w.heap.size, 0, none⟩) (fun e => absurd (ow_lt HO1.out _ e).1 (by show ¬ (w.heap.size + 2 ≤ w.heap.size); omega)) _) (a := ⟨w.heap.size, 1, none⟩) (fun e => absurd (ow_lt HO1.out _ e).1 (by show ¬ (w.heap.size + 2 ≤ w.heap.size); omega)) _) (a := ⟨w.heap.size, 2, none⟩) (fun e => absurd (ow_lt HO1.out _ e).1 (by show ¬ (w.heap.size + 2 ≤ w.heap.size); omega)) _
      have hK : ∀ (i x : Nat), (((wq.setCell ⟨w.heap.size, 0, none⟩ (.int .i64 k0)).setCell ⟨w.heap.size, 1, none⟩ (.int .i64 bi)).setCell ⟨w.heap.size, 2, none⟩ (.slice a1 q c1)).ownsRow (w.heap.size + 2) 53 3 (.slice a2 q c2) q (drCs ds) := fun i x =>
        ow_far3 (ow_far3 (ow_far3 HO2.out (a := ⟨w.heap.size, 0, none⟩) (fun e => absurd (ow_lt HO2.out _ e).1 (by show ¬ (w.heap.size + 2 ≤ w.heap.size); omega)) _) (a := ⟨w.heap.size, 1, none⟩) (fun e => absurd (ow_lt HO2.out _ e).1 (by show ¬ (w.heap.size + 2 ≤ w.heap.size); omega)) _) (a := ⟨w.heap.size, 2, none⟩) (fun e => absurd (ow_lt HO2.out _ e).1 (by show ¬ (w.heap.size + 2 ≤ w.heap.size); omega)) _
      obtain ⟨x1, y1, z1, hq1⟩ := QRow.of_owns (hR 0 0) (by omega)
      cases z1
      obtain ⟨x2, y2, z2, hq2⟩ := KRow.of_owns (hK 0 0) (by omega)
      cases z2
      have HQ1 := Lib.hid hq1
      have HQ2 := Lib.hid hq2
      have HNF := Lib.hid (((HN.out.setCell (p := ⟨w.heap.size, 0, none⟩) (by exact Nat.le_refl _) (.int .i64 k0)).setCell (p := ⟨w.heap.size, 1, none⟩) (by exact Nat.le_refl _) (.int .i64 bi)).setCell (p := ⟨w.heap.size, 2, none⟩) (by exact Nat.le_refl _) (.slice a1 q c1))
      clear hq1 hq2 hR hK HO1 HO2 HRB HSB
      go_wp2_with fail
      refine bodyPost_ret (by simp [results, Tryz.results17, go_sem, r0, r1, r2]; try rfl) rfl ?_
      first | exact ⟨.inl ⟨ds, k, a1, c1, a2, c2, HS.out.1, rfl, HQ1.out, HQ2.out⟩, HNF.out⟩ | exact ⟨.inl ⟨ds, k, HS.out.1, a1, c1, a2, c2, rfl, HQ1.out, HQ2.out⟩, HNF.out⟩
end Go.Proofs.YtdjlbpgjbgepdaaGreat
end
