/- strpoly: Difference, Most, Meets; the document's own Difference and Most. -/
import Derived.Test.YtiboncnfepnjcaaStrO
import Derived.Test.YtiboncnfepnjcaaStrK
import Derived.Test.YtiboncnfepnjcaaStrN
import Derived.Test.YtiboncnfepnjcaaPolF
namespace Go.Proofs.Ytiboncnfepnjcaa
open Go Go.RowKit Go.Bv
set_option linter.unusedVariables false
/-- coefficients, the first k of them turned -/
def dsL (l : List (BitVec 64)) (k : Nat) : List (BitVec 64) := (l.take k).map (sb 0#64) ++ l.drop k
theorem dsL_len (l : List (BitVec 64)) (k : Nat) (h : k ≤ l.length) : (dsL l k).length = l.length := by unfold dsL; simp; omega
theorem dsL_get (l : List (BitVec 64)) (k : Nat) (h : k < l.length) : (dsL l k).getD k 0 = l.getD k 0 := by
  unfold dsL
  rw [List.getD_eq_getElem?_getD, List.getElem?_append_right (by simp; omega), List.getElem?_drop, List.getD_eq_getElem?_getD]
  congr 2
  simp; omega
theorem dsL_step (l : List (BitVec 64)) (k : Nat) (h : k < l.length) : dsL l (k + 1) = (dsL l k).set k (sb 0#64 (l.getD k 0)) := by
  unfold dsL
  have h1 : ((l.take k).map (sb 0#64)).length = k := by simp; omega
  rw [List.set_append_right _ _ (by omega), h1, Nat.sub_self, List.drop_eq_getElem_cons h, List.take_succ_eq_append_getElem h, List.map_append, List.append_assoc, List.getD_eq_getElem?_getD, List.getElem?_eq_getElem h]
  rfl
theorem dsL_all (l : List (BitVec 64)) (n : Nat) (h : l.length = n) : dsL l n = l.map (sb 0#64) := by
  unfold dsL; rw [List.take_of_length_le (by omega), List.drop_eq_nil_of_le (by omega), List.append_nil]
set_option maxRecDepth 100000 in
set_option maxHeartbeats 4000000 in
theorem diff_q (a b : Option Addr) (na ca nb cb : Nat) (la lb : List (BitVec 8)) (w : World) (ha : BRow w a na ca la) (hb : BRow w b nb cb lb) (hla : na ≤ 1000000) (hlb : nb ≤ 1000000) :
    Calls Try.prog 51 #[.slice a na ca, .slice b nb cb] w fun e w' => ∃ a' c', e = .returned (.slice a' ((dfL la lb).length : Nat) c') ∧ QRow w' a' (dfL la lb).length c' (dfL la lb) ∧ New w w' := by
  have HA := Lib.hid ha
  have HC := Lib.hid (coefs_o b nb cb lb w hb hlb)
  have HCA := Lib.hid (fun w' (h : BRow w' a na ca la) => coefs_q a na ca la w' h hla)
  have HAD := Lib.hid (fun w' a1 n1 c1 b1 n2 c2 (h : QRow w' a1 n1 c1 (monL la)) (h' : QRow w' b1 n2 c2 ((monL lb).map (sb 0#64))) => padd_q a1 b1 n1 c1 n2 c2 _ _ w' h h')
  rw [dfL_sb] at HAD
  have hml : (monL lb).length = nb / 7 + 2 := by rw [monL_len, hb.len_eq]
  obtain ⟨m, hm⟩ : ∃ m, nb / 7 + 2 = m := ⟨_, rfl⟩
  rw [hm] at HC hml
  have hmm : m ≤ 1000000 := by omega
  have hm1 : 1 ≤ m := by omega
  obtain ⟨q, hq⟩ : ∃ q, monL lb = q := ⟨_, rfl⟩
  rw [hq] at HC hml HAD
  have HML := Lib.hid hml
  clear ha hb hm hq hml
  obtain ⟨d, hd⟩ : ∃ d, dfL la lb = d := ⟨_, rfl⟩
  rw [hd] at HAD
  rw [hd]
  clear hd
  go_enter Try.func51, Try.ntmps51
  go_wp2_with fail
  refine (HC.out).mono ?_
  rintro e w9 ⟨g, cap, rfl, how, hn⟩
  have HO0 := Lib.hid how
  have HN0 := Lib.hid hn
  obtain ⟨hcl, hcm, _⟩ := own_cellsT how
  have hgb : w.heap.size ≤ g := own_base how g rfl
  clear how hn HC
  go_wp2_with fail
  go_loopw [12] (fun iv wr => ∃ k : Nat, k ≤ m ∧ iv = .int .i64 (k : Int) ∧ wr.ownsRow w.heap.size 23 1 (.slice (some ⟨g, 0, none⟩) m cap) m ((dsL q k).map fun y => .int .u64 (W64 y)) ∧ New w wr) (fun iv _ => m - (intOf iv).toNat)
  case atStart => exact ⟨0, Nat.zero_le _, rfl, HO0.out, HN0.out⟩
  case round =>
    obtain ⟨k, hk, rfl, hown, hnew⟩ := hrel
    have HO := Lib.hid hown
    have HN := Lib.hid hnew
    obtain ⟨wq, hwq⟩ : ∃ z, z = wr := ⟨_, rfl⟩
    rw [← hwq] at HO HN ⊢
    clear hown hnew hwq
    by_cases hlt : (k : Int) < (m : Int)
    · have hk0 : (0 : Int) ≤ (k : Int) := by omega
      obtain ⟨_, _, cs, hcs, _, hck⟩ := own_cellsT HO.out
      have c1 := hck k (by omega)
      have HCC : Hid (wq.cell? ⟨g, k, none⟩ = some (.int .u64 (W64 (q.getD k 0)))) := Lib.hid (by
        rw [cell_of_row _ _ _ _ _ _ hcs, c1, dsL_get q k (by rw [HML.out]; omega)])
      have HSS := Lib.hid (dsL_step q k (by rw [HML.out]; omega))
      clear hcs hck c1
      obtain ⟨x, hx⟩ : ∃ z, q.getD k 0 = z := ⟨_, rfl⟩
      rw [hx] at HCC HSS
      clear hx
      have c1 := HCC.out
      have HS := Lib.hid (msub_p 0#64 x wq)
      rw [lo_zero] at HS
      obtain ⟨s, hs⟩ : ∃ z, sb 0#64 x = z := ⟨_, rfl⟩
      rw [hs] at HS HSS
      clear hs
      go_wp2_with fail
      clear c1
      refine (HS.out).mono ?_
      rintro e w8 ⟨rfl, hn⟩
      have how8 := own_new HO.out hn
      obtain ⟨⟨u8, hu8⟩, hf8⟩ := own_cellS how8 (k := k) (by omega)
      have HO2 : Hid ((w8.setCell ⟨g, k, none⟩ (.int .u64 (W64 s))).ownsRow w.heap.size 23 1 (.slice (some ⟨g, 0, none⟩) m cap) m ((dsL q (k + 1)).map fun y => .int .u64 (W64 y))) := Lib.hid (by
        rw [HSS.out, List.map_set]; exact own_setS how8 k _)
      have HN2 : Hid (New w (w8.setCell ⟨g, k, none⟩ (.int .u64 (W64 s)))) := Lib.hid ((HN.out.trans hn).setCell hgb _)
      clear how8 hn
      go_wp2
      exact ⟨⟨k + 1, by omega, by go_num, HO2.out, HN2.out⟩, by simp [intOf]; omega⟩
    · obtain rfl : k = m := by omega
      have how := HO.out
      rw [dsL_all q k HML.out] at how
      have HCQ := Lib.hid (HCA.out wq (HA.out.stay HN.out))
      have HOW := Lib.hid how
      clear how HO HO0
      go_wp2_with fail
      refine (HCQ.out).mono ?_
      rintro e w8 ⟨qa, qc, rfl, hqa, hn⟩
      obtain ⟨a2, c2, he, hqb⟩ := QRow.of_owns (own_new HOW.out hn) (by omega)
      cases he
      have HP := Lib.hid (HAD.out w8 _ _ _ _ _ _ hqa hqb)
      have HN2 := Lib.hid (HN.out.trans hn)
      clear hqa hqb hn
      go_wp2_with fail
      refine (HP.out).mono ?_
      rintro e w7 ⟨ra, rc, rfl, hr, hn⟩
      have HR := Lib.hid hr
      have HN3 := Lib.hid (HN2.out.trans hn)
      clear hr hn
      go_wp2
      go_ret
      exact ⟨ra, rc, rfl, HR.out, HN3.out⟩
def mnP (q : List (BitVec 64)) (k : Nat) : List (BitVec 64) := (q.take k).map mn
set_option maxRecDepth 100000 in
set_option maxHeartbeats 4000000 in
theorem rdiff_q (a b : Option Addr) (na ca nb cb : Nat) (la lb : List (BitVec 8)) (w : World) (ha : BRow w a na ca la) (hb : BRow w b nb cb lb) (hla : na ≤ 1000000) (hlb : nb ≤ 1000000) :
    Calls Try.prog 53 #[.slice a na ca, .slice b nb cb] w fun e w' => ∃ a' c', e = .returned (.slice a' ((dfL la lb).length : Nat) c') ∧ QRow w' a' (dfL la lb).length c' (dfL la lb) ∧ New w w' := by
  obtain ⟨i0, hi, hz0, hz1, hz2⟩ := info_parts info_u64q
  have HA := Lib.hid ha
  have HC := Lib.hid (rmonic_q b nb cb lb w hb hlb)
  have HCA := Lib.hid (fun w' (h : BRow w' a na ca la) => rmonic_q a na ca la w' h hla)
  have HAD := Lib.hid (fun w' a1 n1 c1 b1 n2 c2 (h : QRow w' a1 n1 c1 (monL la)) (h' : QRow w' b1 n2 c2 ((monL lb).map mn)) => radd_q a1 b1 n1 c1 n2 c2 _ _ w' h h')
  have hdf : trimL (addL (monL la) ((monL lb).map mn)) = dfL la lb := rfl
  rw [hdf] at HAD
  clear hdf
  have hml : (monL lb).length = nb / 7 + 2 := by rw [monL_len, hb.len_eq]
  obtain ⟨m, hm⟩ : ∃ m, nb / 7 + 2 = m := ⟨_, rfl⟩
  rw [hm] at HC hml
  have hmm : m ≤ 1000000 := by omega
  have hm1 : 1 ≤ m := by omega
  obtain ⟨q, hq⟩ : ∃ q, monL lb = q := ⟨_, rfl⟩
  rw [hq] at HC hml HAD
  have HML := Lib.hid hml
  clear ha hb hm hq hml
  obtain ⟨d, hd⟩ : ∃ d, dfL la lb = d := ⟨_, rfl⟩
  rw [hd] at HAD
  rw [hd]
  clear hd
  go_enter Try.func53, Try.ntmps53
  go_wp2_with fail
  refine (HC.out).mono ?_
  rintro e w9 ⟨qa, qc, rfl, hqr, hn⟩
  have HQ := Lib.hid hqr
  have HN0 := Lib.hid hn
  clear hqr hn HC
  go_wp2_with fail
  go_loopw [5, 11] (fun v iv wr => ∃ k : Nat, k ≤ m ∧ iv = .int .i64 (k : Int) ∧ wr.ownsRow w9.heap.size 23 1 v k ((mnP q k).map fun y => .int .u64 (W64 y)) ∧ New w9 wr) (fun _ iv _ => m - (intOf iv).toNat)
  case atStart => exact ⟨0, Nat.zero_le _, rfl, World.ownsRow_nil _ _ _ 1, New.refl _⟩
  case round =>
    obtain ⟨k, hk, rfl, hown, hnew⟩ := hrel
    have HO := Lib.hid hown
    have HN := Lib.hid hnew
    obtain ⟨wq, hwq⟩ : ∃ z, z = wr := ⟨_, rfl⟩
    rw [← hwq] at HO HN ⊢
    clear hown hnew hwq
    by_cases hlt : (k : Int) < (m : Int)
    · have hk0 : (0 : Int) ≤ (k : Int) := by omega
      obtain ⟨b1, off1, rfl, hc1⟩ := (HQ.out.stay HN.out).addr (by omega)
      have c1 := hc1 k (by omega)
      clear hc1
      have HSS : Hid (mnP q (k + 1) = mnP q k ++ [mn (q.getD k 0)]) := Lib.hid (by
        unfold mnP
        have h1 : k < q.length := by rw [HML.out]; omega
        rw [List.take_succ_eq_append_getElem h1, List.map_append, List.getD_eq_getElem?_getD, List.getElem?_eq_getElem h1]; rfl)
      obtain ⟨x, hx⟩ : ∃ z, q.getD k 0 = z := ⟨_, rfl⟩
      rw [hx] at c1 HSS
      clear hx
      have HM := Lib.hid (minus_q x wq)
      obtain ⟨y, hy⟩ : ∃ z, mn x = z := ⟨_, rfl⟩
      rw [hy] at HM HSS
      clear hy
      go_wp2_with fail
      clear c1
      refine (HM.out).mono ?_
      rintro e w' ⟨rfl, hw⟩
      replace hw := hw.symm
      subst hw
      have hown := HO.out
      have hnew := HN.out
      go_wp2_with (at_builtin; refine wpList_append_own _ rfl _ _ 22 rfl w9.heap.size 23 i0 (.int .u64 0) 1 8 Try.underlying22 hi hz0 hz1 hz2 rfl (by decide) _ k _ rfl (hown.alloc _) ⟨wq.heap.size, 0, none⟩ 1 1 [.int .u64 (W64 y)] rfl rfl ?c1 ?c2 ?c3 ?c4 ?c5 ?_)
      try (case c1 => exact new_cells_q wq _ _)
      try (case c2 => first | rfl | (intro u hu; simp at hu; subst hu; rfl))
      try (case c3 => first | (unfold maxLen; omega) | omega)
      try (case c4 => omega)
      try (case c5 => first | (simp; have := hnew.le; omega) | (have := hnew.le; omega))
      intro v' w1 how hgr _
      have HO2 : Hid (w1.ownsRow w9.heap.size 23 1 v' (k + 1) ((mnP q (k + 1)).map fun y => .int .u64 (W64 y))) := Lib.hid (by
        rw [HSS.out, List.map_append]; exact how)
      have HN1 := Lib.hid ((hnew.alloc _).grown' hgr (own_base hown))
      clear how hgr hown hnew
      go_wp2
      exact ⟨⟨k + 1, by omega, by go_num, HO2.out, HN1.out⟩, by simp [intOf]; omega⟩
    · obtain rfl : k = m := by omega
      have how := HO.out
      rw [show mnP q k = q.map mn by unfold mnP; rw [List.take_of_length_le (by rw [HML.out]; exact Nat.le_refl _)]] at how
      have HCQ := Lib.hid (HCA.out wq (HA.out.stay (HN0.out.trans HN.out)))
      obtain ⟨a2, c2, rfl, hqb⟩ := QRow.of_owns how (by omega)
      have HQB := Lib.hid hqb
      clear how hqb HO
      go_wp2_with fail
      refine (HCQ.out).mono ?_
      rintro e w8 ⟨pa, pc, rfl, hqa, hn⟩
      have HP := Lib.hid (HAD.out w8 _ _ _ _ _ _ hqa (HQB.out.stay hn))
      have HN2 := Lib.hid ((HN0.out.trans HN.out).trans hn)
      clear hqa hn
      go_wp2_with fail
      refine (HP.out).mono ?_
      rintro e w7 ⟨ra, rc, rfl, hr, hn⟩
      have HR := Lib.hid hr
      have HN3 := Lib.hid (HN2.out.trans hn)
      clear hr hn
      go_wp2
      go_ret
      exact ⟨ra, rc, rfl, HR.out, HN3.out⟩
def mostN (na nb : Nat) : Nat := max (na / 7 + 1) (nb / 7 + 1)
set_option maxHeartbeats 1000000 in
theorem most_q (a b : Option Addr) (na ca nb cb : Nat) (w : World) (hla : na ≤ 1000000) (hlb : nb ≤ 1000000) :
    Calls Try.prog 52 #[.slice a na ca, .slice b nb cb] w fun e w' => e = .returned (.int .i64 (mostN na nb : Nat)) ∧ w' = w := by
  obtain ⟨N, hN⟩ : ∃ N, mostN na nb = N := ⟨_, rfl⟩
  rw [hN]
  unfold mostN at hN
  obtain ⟨p, hp⟩ : ∃ p, na / 7 + 1 = p := ⟨_, rfl⟩
  obtain ⟨q, hq⟩ : ∃ q, nb / 7 + 1 = q := ⟨_, rfl⟩
  rw [hp, hq] at hN
  have HA := Lib.hid (fun w => count_q a na ca p hp hla w)
  have HB := Lib.hid (fun w => count_q b nb cb q hq hlb w)
  have hmx : max (p : Int) (q : Int) = (N : Int) := by omega
  clear hp hq hN hla hlb
  go_enter Try.func52, Try.ntmps52
  go_wp2_with fail
  refine (HA.out _).mono ?_
  rintro e w' ⟨rfl, hw⟩
  replace hw := hw.symm
  subst hw
  go_wp2_with fail
  refine (HB.out _).mono ?_
  rintro e w' ⟨rfl, hw⟩
  replace hw := hw.symm
  subst hw
  go_wp2
  go_ret
  exact ⟨rfl, rfl⟩
set_option maxHeartbeats 1000000 in
theorem rmost_q (a b : Option Addr) (na ca nb cb : Nat) (la lb : List (BitVec 8)) (w : World) (ha : BRow w a na ca la) (hb : BRow w b nb cb lb) (hla : na ≤ 1000000) (hlb : nb ≤ 1000000) :
    Calls Try.prog 54 #[.slice a na ca, .slice b nb cb] w fun e w' => e = .returned (.int .i64 (mostN na nb : Nat)) ∧ New w w' := by
  obtain ⟨N, hN⟩ : ∃ N, mostN na nb = N := ⟨_, rfl⟩
  rw [hN]
  unfold mostN at hN
  have HA := Lib.hid (rchunks_q a na ca la w ha hla)
  have HB := Lib.hid (fun w' (h : New w w') => rchunks_q b nb cb lb w' (hb.stay h) hlb)
  obtain ⟨p, hp⟩ : ∃ p, na / 7 + 1 = p := ⟨_, rfl⟩
  obtain ⟨q, hq⟩ : ∃ q, nb / 7 + 1 = q := ⟨_, rfl⟩
  rw [hp] at hN HA
  rw [hq] at hN HB
  have hmx : max (p : Int) (q : Int) = (N : Int) := by omega
  clear hp hq hN hla hlb ha hb
  go_enter Try.func54, Try.ntmps54
  go_wp2_with fail
  refine (HA.out).mono ?_
  rintro e w9 ⟨a1, c1, rfl, _, hn⟩
  have HN := Lib.hid hn
  clear hn HA
  go_wp2_with fail
  refine (HB.out _ HN.out).mono ?_
  rintro e w8 ⟨a2, c2, rfl, _, hn⟩
  have HN2 := Lib.hid (HN.out.trans hn)
  clear hn HB
  go_wp2
  go_ret
  exact ⟨rfl, HN2.out⟩
theorem bequal_any (a b : Option Addr) (na ca nb cb : Nat) (la lb : List (BitVec 8)) (w : World) (ha : BRow w a na ca la) (hb : BRow w b nb cb lb) :
    Calls Try.prog 77 #[.slice a na ca, .slice b nb cb] w fun e w' => e = .returned (.bool (la == lb)) ∧ w' = w := by
  have h1 := conv_row ha
  have h2 := conv_row hb
  go_enter Try.func77, Try.ntmps77
  go_wp2
  go_ret
  refine ⟨retB ?_, rfl⟩
  rw [Bool.eq_iff_iff, beq_iff_eq, beq_iff_eq]
  exact ⟨fun h => bstr_inj (by rw [← Lib.toList_data, ← Lib.toList_data]; exact h), fun h => by rw [h]⟩
set_option maxHeartbeats 2000000 in
theorem meets_q (x : BitVec 64) (a b : Option Addr) (na ca nb cb : Nat) (la lb : List (BitVec 8)) (w : World) (ha : BRow w a na ca la) (hb : BRow w b nb cb lb) (hla : na ≤ 4096) (hlb : nb ≤ 4096) :
    Calls Try.prog 55 #[.int .u64 (W64 x), .slice a na ca, .slice b nb cb] w fun e w' => e = .returned (.tuple #[.bool (meetV x la lb), .int .i64 (meetE x la lb)]) ∧ New w w' := by
  have HEA := Lib.hid (seval_any x a na ca la w ha)
  have HEB := Lib.hid (fun w' (h : New w w') => seval_any x b nb cb lb w' (hb.stay h))
  by_cases hx : PP ≤ x.toNat
  · have e1 : seE x na = 2 := by unfold seE; rw [if_neg (by omega), if_pos hx]
    have e2 : meetE x la lb = 2 := by unfold meetE; rw [if_pos hx]
    have e3 : meetV x la lb = false := by unfold meetV; rw [e2]; rfl
    rw [e1] at HEA
    rw [e2, e3]
    clear e1 e2 e3 hx HEB ha hb
    go_enter Try.func55, Try.ntmps55
    go_wp2_with fail
    refine (HEA.out).mono ?_
    rintro e w9 ⟨rfl, hn⟩
    have HN := Lib.hid hn
    clear hn HEA
    go_wp2
    go_ret2
    exact ⟨rfl, HN.out⟩
  · have e1 : seE x na = 0 := by unfold seE; rw [if_neg (by omega), if_neg hx]
    have e2 : seE x nb = 0 := by unfold seE; rw [if_neg (by omega), if_neg hx]
    have v1 : seV x la = hor x (chL la) := by unfold seV; rw [ha.len_eq, e1, hor_value]; rfl
    have v2 : seV x lb = hor x (chL lb) := by unfold seV; rw [hb.len_eq, e2, hor_value]; rfl
    rw [e1, v1] at HEA
    rw [e2, v2] at HEB
    have HBE := Lib.hid (fun w' (h : New w w') => bequal_any a b na ca nb cb la lb w' (ha.stay h) (hb.stay h))
    have HM : Hid (meetE x la lb = (if la = lb then 15 else 0)) := Lib.hid (by unfold meetE; rw [if_neg hx])
    have HV : Hid (meetV x la lb = (decide (meetE x la lb = 0) && meetB x la lb)) := Lib.hid rfl
    have HBB : Hid (meetB x la lb = (hor x (chL la) == hor x (chL lb))) := Lib.hid rfl
    obtain ⟨u, hu⟩ : ∃ z, hor x (chL la) = z := ⟨_, rfl⟩
    obtain ⟨v, hv⟩ : ∃ z, hor x (chL lb) = z := ⟨_, rfl⟩
    rw [hu] at HEA HBB
    rw [hv] at HEB HBB
    clear e1 e2 v1 v2 hx ha hb hu hv
    by_cases hs : la = lb
    · have e4 : meetE x la lb = 15 := by rw [HM.out, if_pos hs]
      have e5 : meetV x la lb = false := by rw [HV.out, e4]; rfl
      have e6 : (la == lb) = true := by rw [beq_iff_eq]; exact hs
      rw [e6] at HBE
      rw [e4, e5]
      clear e4 e5 e6 hs HM HV HBB
      go_enter Try.func55, Try.ntmps55
      go_wp2_with fail
      refine (HEA.out).mono ?_
      rintro e w9 ⟨rfl, hn⟩
      have HN := Lib.hid hn
      clear hn HEA
      go_wp2_with fail
      refine (HEB.out _ HN.out).mono ?_
      rintro e w8 ⟨rfl, hn⟩
      have HN2 := Lib.hid (HN.out.trans hn)
      clear hn HEB
      go_wp2_with fail
      refine (HBE.out _ HN2.out).mono ?_
      rintro e w' ⟨rfl, hw⟩
      replace hw := hw.symm
      subst hw
      go_wp2
      go_ret2
      exact ⟨rfl, HN2.out⟩
    · have e4 : meetE x la lb = 0 := by rw [HM.out, if_neg hs]
      have e5 : meetV x la lb = (u == v) := by rw [HV.out, e4, HBB.out]; rfl
      have e6 : (la == lb) = false := by rw [beq_eq_false_iff_ne]; exact hs
      rw [e6] at HBE
      rw [e4, e5]
      clear e4 e5 e6 hs HM HV HBB
      go_enter Try.func55, Try.ntmps55
      go_wp2_with fail
      refine (HEA.out).mono ?_
      rintro e w9 ⟨rfl, hn⟩
      have HN := Lib.hid hn
      clear hn HEA
      go_wp2_with fail
      refine (HEB.out _ HN.out).mono ?_
      rintro e w8 ⟨rfl, hn⟩
      have HN2 := Lib.hid (HN.out.trans hn)
      clear hn HEB
      go_wp2_with fail
      refine (HBE.out _ HN2.out).mono ?_
      rintro e w' ⟨rfl, hw⟩
      replace hw := hw.symm
      subst hw
      go_wp2
      go_ret2
      exact ⟨rfl, HN2.out⟩
end Go.Proofs.Ytiboncnfepnjcaa
