/- poly.Roots. -/
import Derived.Test.YtiboncnfepnjcaaPolG
import Derived.Maps.Own
import Derived.Maps.OwnOps
import Derived.Maps.Views
import Derived.WalkKit
namespace Go.Proofs.Ytiboncnfepnjcaa
open Go.RowKit Go.Bv Go.Maps
set_option linter.unusedVariables false
theorem lawU : Keyed Try.prog 23 := int_keyed Try.underlying23
theorem zeroI (w : World) : (zeroValue 3).run Try.prog w = .ok (.int .i64 0) w := by kernel_rfl
theorem wf_u64 (y : BitVec 64) : (Lit.int .u64 (W64 y)).wf = true := by
  have := y.isLt
  simp [Lit.wf, IntKind.min, IntKind.max, IntKind.signed, IntKind.bits, W64]; omega
theorem wf_small (z : Int) (h0 : 0 ≤ z) (h1 : z ≤ 100000000000000) : (Lit.int .i64 z).wf = true := by
  simp [Lit.wf, IntKind.min, IntKind.max, IntKind.signed, IntKind.bits]; omega
theorem key_ne {x y : BitVec 64} (h : x ≠ y) : (Lit.int .u64 (W64 x)) ≠ .int .u64 (W64 y) := by
  intro e
  injection e with _ e
  unfold W64 at e
  exact h (BitVec.eq_of_toNat_eq (by omega))
theorem lit_eq {c d : Int} (h : (DataW.lit (.int .i64 c) : DataW Unit) = .lit (.int .i64 d)) : c = d := by
  injection h with h; injection h
/-- the datum tells how often each word came -/
def Tells (l : List (BitVec 64)) (k : Nat) (D : DataW Unit) : Prop := IsMap D ∧ ∀ y, D.atKey (.int .u64 (W64 y)) (.lit (.int .i64 0)) = .lit (.int .i64 (ct l y k : Nat))
theorem tells_none (l : List (BitVec 64)) : Tells l 0 (.map []) := ⟨isMap_empty, fun y => rfl⟩
theorem tells_c {l : List (BitVec 64)} {k : Nat} {D : DataW Unit} (h : Tells l k D) (y : BitVec 64) (c : Int) (hat : D.atKey (.int .u64 (W64 y)) (.lit (.int .i64 0)) = .lit (.int .i64 c)) : c = (ct l y k : Nat) := lit_eq (hat.symm.trans (h.2 y))
theorem put_c {D : DataW Unit} (hD : IsMap D) (y : BitVec 64) (v c : Int) (hat : (D.put (.int .u64 (W64 y)) (.lit (.int .i64 v))).atKey (.int .u64 (W64 y)) (.lit (.int .i64 0)) = .lit (.int .i64 c)) : c = v := by
  rw [atKey_put_same hD (show WideAt.IsKeyLit (.int .u64 (W64 y)) from trivial)] at hat
  exact (lit_eq hat).symm
theorem tells_put {l : List (BitVec 64)} {k : Nat} {D : DataW Unit} (h : Tells l k D) (y : BitVec 64) (hy : cm l k = y) (v : Int) (hv : v = (ct l y k : Nat) + 1) : Tells l (k + 1) (D.put (.int .u64 (W64 y)) (.lit (.int .i64 v))) := by
  refine ⟨h.1.put _ _, fun z => ?_⟩
  have e : ct l z (k + 1) = ct l z k + if cm l k = z then 1 else 0 := rfl
  by_cases hz : z = y
  · subst hz
    rw [atKey_put_same h.1 (show WideAt.IsKeyLit (.int .u64 (W64 z)) from trivial), e, if_pos hy, hv]; simp
  · rw [atKey_put_other (key_ne hz), h.2 z, e, if_neg (fun e2 => hz (e2.symm.trans hy)), Nat.add_zero]
theorem map_new {w w' : World} {k : TypeId} {R : Value → Option (DataW Unit × List MemPlace)} {b n : Nat} {D : DataW Unit} (h : w.ownsMap Try.prog k R b n D) (hn : New w w') : w'.ownsMap Try.prog k R b n D := by
  have hlt := h.lt
  obtain ⟨es, clock, hb, F, hs, hD⟩ := h
  exact ⟨es, clock, (hn.block b hlt).trans hb, F, hs, hD⟩
theorem own_grown {w w' : World} {base b : Nat} {e : TypeId} {size : Nat} {v : Value} {n : Nat} {xs : List Value} (h : w.ownsRow base e size v n xs) (hg : w.grownBy w' (some b)) (hb : b < base) : w'.ownsRow base e size v n xs := by
  refine ⟨h.1, ?_⟩
  rcases h.2 with h2 | ⟨g, cap, cur, hv, hb2, hg2, rest⟩
  · exact .inl h2
  · exact .inr ⟨g, cap, cur, hv, hb2, (hg.block g (lt_of_block hg2) (fun e => by injection e; omega)).trans hg2, rest⟩
set_option maxRecDepth 100000 in
set_option maxHeartbeats 4000000 in
theorem proots_q (a b : Option Addr) (na ca nb cb : Nat) (c l : List (BitVec 64)) (w : World) (ha : QRow w a na ca c) (hb : QRow w b nb cb l) :
    Calls Try.prog 30 #[.slice a na ca, .slice b nb cb] w fun e w' => ∃ a' c', e = .returned (.slice a' ((rts c l nb).length : Nat) c') ∧ QRow w' a' (rts c l nb).length c' (rts c l nb) ∧ New w w' := by
  obtain ⟨i0, hi, hz0, hz1, hz2⟩ := info_parts info_u64q
  have hma := ha.most
  have hmb := hb.most
  have HHA := Lib.hid ha
  have HHB := Lib.hid hb
  have HL := Lib.hid hb.len_eq
  clear ha hb
  have hmm := @run_makeMap Try.prog
  go_enter Try.func30, Try.ntmps30
  go_wp2_with fail
  go_loopw [5, 14] (fun v iv wr => ∃ (k : Nat) (D : DataW Unit), k ≤ nb ∧ iv = .int .i64 (k : Int) ∧ wr.ownsMap Try.prog 23 (plainElem (H := Unit) Try.prog 3) w.heap.size k D ∧ Tells l k D ∧ wr.ownsRow (w.heap.size + 1) 23 1 v (rts c l k).length ((rts c l k).map fun y => .int .u64 (W64 y)) ∧ New w wr) (fun _ iv _ => nb - (intOf iv).toNat)
  case atStart => exact ⟨0, _, Nat.zero_le _, rfl, World.ownsMap_made _ _ _ _, tells_none l, World.ownsRow_nil _ _ _ 1, (New.refl w).alloc _⟩
  case round =>
    clear hmm
    obtain ⟨k, D, hk, rfl, hmap, htl, hown, hnew⟩ := hrel
    have HM := Lib.hid hmap
    have HT := Lib.hid htl
    have HO := Lib.hid hown
    have HN := Lib.hid hnew
    obtain ⟨wq, hwq⟩ : ∃ z, z = wr := ⟨_, rfl⟩
    rw [← hwq] at HM HO HN ⊢
    clear hmap htl hown hnew hwq
    have HTL := Lib.hid (rts_len c l k)
    by_cases hlt : (k : Int) < (nb : Int)
    · obtain ⟨b1, off1, rfl, hc⟩ := (HHB.out.stay HN.out).addr (by omega)
      have c1 := hc k (by omega)
      clear hc
      have hk0 : (0 : Int) ≤ (k : Int) := by omega
      have hcm : l.getD k 0 % 2305843009213693951#64 = cm l k := mod_mp _
      have HDV := Lib.hid (fun w' (hn : New w w') => divide_q _ _ _ _ (cm l k) w' (HHA.out.stay hn))
      have HRS := Lib.hid (fun h h0 => rts_in (c := c) (rts_seen (c := c) (l := l) k (ct_seen (y := cm l k) k h) h0))
      have HRO := Lib.hid (fun h => rts_no (c := c) (l := l) (k := k) h)
      have HRN := Lib.hid (fun (h : ct l (cm l k) k = 0) h2 => rts_new (c := c) (l := l) (k := k) (fun e => by
        obtain ⟨_, _, j, h3, h4⟩ := rts_mem k e
        exact ct_none k h j h3 h4) h2)
      have HTC := Lib.hid (fun c0 h => tells_c HT.out (cm l k) c0 h)
      have HTP := Lib.hid (fun v hv => tells_put HT.out (cm l k) rfl v hv)
      have HP := Lib.hid (fun v c0 h => put_c HT.out.1 (cm l k) v c0 h)
      have hctl := ct_le l (cm l k) k
      obtain ⟨x, hx⟩ : ∃ z, l.getD k 0 = z := ⟨_, rfl⟩
      rw [hx] at c1 hcm
      clear hx
      obtain ⟨y, hy⟩ : ∃ z, cm l k = z := ⟨_, rfl⟩
      rw [hy] at hcm HDV HRS HRO HRN HTC HTP HP hctl
      clear hy
      obtain ⟨s, hs⟩ : ∃ z, mp (nv c y) = z := ⟨_, rfl⟩
      rw [hs] at HDV HRS HRO HRN
      clear hs
      obtain ⟨t, ht⟩ : ∃ z, ct l y k = z := ⟨_, rfl⟩
      rw [ht] at HRS HRN HTC HTP hctl
      clear ht
      obtain ⟨r, hr⟩ : ∃ z, rts c l k = z := ⟨_, rfl⟩
      rw [hr] at HO HTL HRS HRO HRN
      clear hr
      obtain ⟨rl, hrl⟩ : ∃ z, r.length = z := ⟨_, rfl⟩
      rw [hrl] at HO HTL
      have HRL := Lib.hid hrl
      clear hrl
      have hrm := HTL.out
      by_cases ht0 : t = 0
      · subst ht0
        have HC : Hid (∀ c0 : Int, D.atKey (.int .u64 (W64 y)) (.lit (.int .i64 0)) = .lit (.int .i64 c0) → c0 = 0) := Lib.hid (fun c0 h => HTC.out c0 h)
        have HT1 := Lib.hid (HTP.out 1 rfl)
        clear HTC HTP
        go_wp2_with (first
          | (at_lookup; refine wpList_lookup_own_int _ rfl _ _ 69 rfl 23 3 .i64 lawU Try.underlying69 Try.underlying3 (zeroI _) w.heap.size k _ rfl HM.out _ _ rfl (keyOf_int_mk Try.underlying23 (wf_u64 y)) ?_; intro c0 hat hwc; obtain rfl := HC.out c0 hat)
          | (at_mapUpdate; refine wpList_mapUpdate_own _ rfl _ _ _ 69 rfl 23 3 lawU Try.underlying69 _ w.heap.size k _ rfl HM.out (by unfold maxLen; omega) _ _ _ rfl rfl (keyOf_int_mk Try.underlying23 (wf_u64 y)) _ [] (plainElem_int Try.underlying3 (wf_small _ (by omega) (by omega))) ?_; intro w1 hown1 hgrow1)
          | (at_lookup; refine wpList_lookup_own_int _ rfl _ _ 69 rfl 23 3 .i64 lawU Try.underlying69 Try.underlying3 (zeroI _) w.heap.size (k + 1) _ rfl hown1 _ _ rfl (keyOf_int_mk Try.underlying23 (wf_u64 y)) ?_; intro c1 hat1 hwc1; obtain rfl := HP.out _ _ hat1)
          | fail)
        have HM1 := Lib.hid hown1
        have HO1 := Lib.hid (own_grown HO.out hgrow1 (Nat.lt_succ_self _))
        replace HN := Lib.hid (HN.out.grown' hgrow1 (fun j hj => by cases hj; exact Nat.le_refl _))
        clear hown1 hgrow1 HO HM HC HP hat hat1 hwc hwc1 c1
        refine (HDV.out _ HN.out).mono ?_
        rintro e w9 ⟨qa, qc, rfl, hq, hn⟩
        have HO := Lib.hid (own_new HO1.out hn)
        replace HM1 := Lib.hid (map_new HM1.out hn)
        replace HN := Lib.hid (HN.out.trans hn)
        clear hq hn HO1 HDV
        by_cases hs0 : s = 0#64
        · have HE := Lib.hid (HRN.out (by first | rfl | trivial) hs0)
          rw [hs0, lo_zero]
          clear hs0
          clear hctl
          have hown := HO.out
          have hnew := HN.out
          go_wp2_with (at_builtin; refine wpList_append_own _ rfl _ _ 22 rfl (w.heap.size + 1) 23 i0 (.int .u64 0) 1 8 Try.underlying22 hi hz0 hz1 hz2 rfl (by decide) _ rl _ rfl (hown.alloc _) ⟨w9.heap.size, 0, none⟩ 1 1 [.int .u64 (W64 y)] rfl rfl ?c1 ?c2 ?c3 ?c4 ?c5 ?_)
          try (case c1 => exact new_cells_q w9 _ _)
          try (case c2 => first | rfl | (intro u hu; simp at hu; subst hu; rfl))
          try (case c3 => first | (unfold maxLen; omega) | omega)
          try (case c4 => omega)
          try (case c5 => first | (simp; have := hnew.le; omega) | (have := hnew.le; omega))
          intro v' w1 how hgr _
          have HO2 : Hid (w1.ownsRow (w.heap.size + 1) 23 1 v' (rl + 1) ((r ++ [y]).map fun y => .int .u64 (W64 y))) := Lib.hid (by
            rw [show r ++ [y] = r ++ [y] from rfl, List.map_append]; exact how)
          have HN1 := Lib.hid ((hnew.alloc _).grown' hgr (fun j e => Nat.le_of_succ_le (own_base hown j e)))
          have HM2 := Lib.hid ((HM1.out.alloc _).kept hgr (fun e => by have := own_base hown _ e.symm; omega))
          clear how hgr hown hnew
          go_wp2
          refine ⟨⟨k + 1, _, by omega, by go_num, HM2.out, HT1.out, ?_, HN1.out⟩, by simp [intOf]; omega⟩
          rw [HE.out, List.length_append, HRL.out]; exact HO2.out
        · have HE := Lib.hid (HRO.out hs0)
          have hne : (s == 0#64) = false := by rw [beq_eq_false_iff_ne]; exact hs0
          clear hs0
          go_wp2
          refine ⟨⟨k + 1, _, by omega, by go_num, HM1.out, HT1.out, ?_, HN.out⟩, by simp [intOf]; omega⟩
          rw [HE.out, HRL.out]; exact HO.out
      · have HC : Hid (∀ c0 : Int, D.atKey (.int .u64 (W64 y)) (.lit (.int .i64 0)) = .lit (.int .i64 c0) → c0 = (t : Int)) := Lib.hid (fun c0 h => HTC.out c0 h)
        have HT1 := Lib.hid (HTP.out ((t : Int) + 1) rfl)
        have HE : Hid (rts c l (k + 1) = r) := Lib.hid (by
          by_cases hs0 : s = 0#64
          · exact HRS.out (by omega) hs0
          · exact HRO.out hs0)
        have hwt : wrap64 ((t : Int) + 1) = (t : Int) + 1 := by unfold wrap64; omega
        have hgt : (1 : Int) < (t : Int) + 1 := by omega
        have ht1 : (0 : Int) < (t : Int) := by omega
        clear HTC HTP ht0
        go_wp2_with (first
          | (at_lookup; refine wpList_lookup_own_int _ rfl _ _ 69 rfl 23 3 .i64 lawU Try.underlying69 Try.underlying3 (zeroI _) w.heap.size k _ rfl HM.out _ _ rfl (keyOf_int_mk Try.underlying23 (wf_u64 y)) ?_; intro c0 hat hwc; obtain rfl := HC.out c0 hat)
          | (at_mapUpdate; refine wpList_mapUpdate_own _ rfl _ _ _ 69 rfl 23 3 lawU Try.underlying69 _ w.heap.size k _ rfl HM.out (by unfold maxLen; omega) _ _ _ rfl rfl (keyOf_int_mk Try.underlying23 (wf_u64 y)) _ [] (plainElem_int Try.underlying3 (wf_small _ (by omega) (by omega))) ?_; intro w1 hown1 hgrow1)
          | (at_lookup; refine wpList_lookup_own_int _ rfl _ _ 69 rfl 23 3 .i64 lawU Try.underlying69 Try.underlying3 (zeroI _) w.heap.size (k + 1) _ rfl hown1 _ _ rfl (keyOf_int_mk Try.underlying23 (wf_u64 y)) ?_; intro c1 hat1 hwc1; obtain rfl := HP.out _ _ hat1)
          | fail)
        have HM1 := Lib.hid hown1
        have HO1 := Lib.hid (own_grown HO.out hgrow1 (Nat.lt_succ_self _))
        replace HN := Lib.hid (HN.out.grown' hgrow1 (fun j hj => by cases hj; exact Nat.le_refl _))
        clear hown1 hgrow1
        go_wp2
        refine ⟨⟨k + 1, _, by omega, by go_num, HM1.out, HT1.out, ?_, HN.out⟩, by simp [intOf]; omega⟩
        rw [HE.out, HRL.out]; exact HO1.out
    · obtain rfl : k = nb := by omega
      obtain ⟨a', cap', rfl, hrow⟩ := QRow.of_owns HO.out (by have := HTL.out; omega)
      have HR := Lib.hid hrow
      clear hrow HO
      go_wp2
      go_ret
      exact ⟨a', cap', rfl, HR.out, HN.out⟩
end Go.Proofs.Ytiboncnfepnjcaa
