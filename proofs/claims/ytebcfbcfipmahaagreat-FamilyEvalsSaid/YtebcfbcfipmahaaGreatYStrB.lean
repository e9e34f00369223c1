import Derived.Test.YtebcfbcfipmahaaGreatYPolW
import Derived.Test.YtebcfbcfipmahaaGreatYLoadB
import Derived.Test.YtebcfbcfipmahaaGreatYFer
/- strpoly: the document's Chunks. · strpoly: the document's Monic, Eval; Append. · Plain lemmas: the value of a text's polynomial, chunk by chunk. -/
namespace Go.Proofs.YtebcfbcfipmahaaGreat
open Go.RowKit Go.Bv
set_option linter.unusedVariables false
/-- the first k whole chunks -/
def chP (l : List (BitVec 8)) (k : Nat) : List (BitVec 64) := (List.range k).map fun i => rd l (7 * i) 7
/-- the last chunk -/
def chZ (l : List (BitVec 8)) : BitVec 64 := rd l (7 * (l.length / 7)) (l.length % 7) + BitVec.ofNat 64 (256 ^ (l.length % 7))
/-- a text's numbers -/
def chL (l : List (BitVec 8)) : List (BitVec 64) := chP l (l.length / 7) ++ [chZ l]
theorem chP_len (l : List (BitVec 8)) (k : Nat) : (chP l k).length = k := by unfold chP; simp
theorem chP_succ (l : List (BitVec 8)) (k : Nat) : chP l (k + 1) = chP l k ++ [rd l (7 * k) 7] := by unfold chP; rw [List.range_succ, List.map_append]; rfl
theorem chL_len (l : List (BitVec 8)) : (chL l).length = l.length / 7 + 1 := by unfold chL; rw [List.length_append, chP_len]; rfl
/-- the coefficients of a text, the lowest first -/
def monL (l : List (BitVec 8)) : List (BitVec 64) := (chL l).reverse ++ [1#64]
theorem monL_len (l : List (BitVec 8)) : (monL l).length = l.length / 7 + 2 := by unfold monL; rw [List.length_append, List.length_reverse, chL_len]; rfl
theorem rev_take (l : List (BitVec 64)) (k : Nat) (h : k < l.length) : l.reverse.take (l.length - k) = l.reverse.take (l.length - (k + 1)) ++ [l.getD k 0] := by
  rw [show l.length - k = (l.length - (k + 1)) + 1 by omega, List.take_add_one]
  congr 1
  rw [List.getElem?_reverse (by omega), List.getD_eq_getElem?_getD, show l.length - 1 - (l.length - (k + 1)) = k by omega, List.getElem?_eq_getElem h]; rfl
set_option maxRecDepth 100000 in
set_option maxHeartbeats 4000000 in
theorem rchunks_q (a : Option Addr) (n c : Nat) (l : List (BitVec 8)) (w : World) (h : BRow w a n c l) (hlim : n ≤ 1000000) :
    Calls Tryz.prog 69 #[.slice a n c] w fun e w' => ∃ a' c', e = .returned (.slice a' (n / 7 + 1 : Nat) c') ∧ QRow w' a' (n / 7 + 1) c' (chL l) ∧ New w w' := by
  obtain ⟨i0, hi, hz0, hz1, hz2⟩ := info_parts info_u64q
  have HH := Lib.hid h
  have HL := Lib.hid h.len_eq
  clear h
  go_enter Tryz.func69, Tryz.ntmps69
  go_wp2_with fail
  go_loopw [3, 4] (fun v iv wr => ∃ (k at' : Nat), at' = 7 * k ∧ at' ≤ n ∧ iv = .int .i64 (at' : Int) ∧ wr.ownsRow w.heap.size 31 1 v k ((chP l k).map fun y => .int .u64 (W64 y)) ∧ New w wr) (fun _ iv _ => n - (intOf iv).toNat)
  case atStart => exact ⟨0, 0, rfl, Nat.zero_le _, rfl, World.ownsRow_nil w _ _ 1, New.refl w⟩
  case round =>
    obtain ⟨k, at', hat, hk, rfl, hown, hnew⟩ := hrel
    have HO := Lib.hid hown
    have HN := Lib.hid hnew
    have HAT := Lib.hid hat
    obtain ⟨wq, hwq⟩ : ∃ z, z = wr := ⟨_, rfl⟩
    rw [← hwq] at HO HN ⊢
    clear hown hnew hwq hat
    by_cases hlt : (at' : Int) + 7 ≤ (n : Int)
    · have HQ := Lib.hid (num_ref a n c l at' 7 wq (HH.out.stay HN.out) (by omega) (by omega))
      have HSS : Hid (chP l (k + 1) = chP l k ++ [rd l at' 7]) := Lib.hid (by rw [chP_succ, HAT.out])
      obtain ⟨y, hy⟩ : ∃ z, rd l at' 7 = z := ⟨_, rfl⟩
      rw [hy] at HQ HSS
      clear hy
      go_wp2_with fail
      refine (HQ.out).mono ?_
      rintro e w' ⟨rfl, hw⟩
      replace hw := hw.symm
      subst hw
      have hkk : k ≤ 1000000 := by have := HAT.out; omega
      have hown := HO.out
      have hnew := HN.out
      go_wp2_with (at_builtin; refine wpList_append_own _ rfl _ _ 28 rfl w.heap.size 31 i0 (.int .u64 0) 1 8 Tryz.underlying28 hi hz0 hz1 hz2 rfl (by decide) _ k _ rfl (hown.alloc _) ⟨wq.heap.size, 0, none⟩ 1 1 [.int .u64 (W64 y)] rfl rfl ?c1 ?c2 ?c3 ?c4 ?c5 ?_)
      try (case c1 => exact new_cells_q wq _ _)
      try (case c2 => first | rfl | (intro u hu; simp at hu; subst hu; rfl))
      try (case c3 => first | (unfold maxLen; omega) | omega)
      try (case c4 => omega)
      try (case c5 => first | (simp; have := hnew.le; omega) | (have := hnew.le; omega))
      intro v' w1 how hgr _
      have HO2 : Hid (w1.ownsRow w.heap.size 31 1 v' (k + 1) ((chP l (k + 1)).map fun y => .int .u64 (W64 y))) := Lib.hid (by
        rw [HSS.out, List.map_append]; exact how)
      have HN1 := Lib.hid ((hnew.alloc _).grown' hgr (own_base hown))
      clear how hgr hown hnew
      go_wp2
      exact ⟨⟨k + 1, at' + 7, by have := HAT.out; omega, by omega, by go_num, HO2.out, HN1.out⟩, by simp [intOf]; omega⟩
    · obtain ⟨r, hr⟩ : ∃ r, n % 7 = r := ⟨_, rfl⟩
      have hkn : k = n / 7 := by have := HAT.out; omega
      have hnr : n = at' + r := by have := HAT.out; omega
      have HSZ : Hid (chL l = chP l k ++ [rd l at' r + BitVec.ofNat 64 (256 ^ r)]) := Lib.hid (by
        unfold chL chZ; rw [HL.out, ← hkn, ← HAT.out, hr])
      have HKN := Lib.hid hkn
      have HNR := Lib.hid hnr
      have HQ := Lib.hid (num_ref a n c l at' r wq (HH.out.stay HN.out) (by omega) (by omega))
      have hr7 : r ≤ 6 := by omega
      clear hkn hnr hr
      obtain ⟨z0, hz0'⟩ : ∃ z, rd l at' r = z := ⟨_, rfl⟩
      rw [hz0'] at HQ HSZ
      clear hz0'
      go_wp2_with fail
      go_loopw [5, 6] (fun mv iv wr => ∃ j : Nat, j ≤ r ∧ iv = .int .i64 ((at' : Int) + (j : Int)) ∧ mv = .int .u64 (W64 (BitVec.ofNat 64 (256 ^ j))) ∧ wr = wq) (fun _ iv _ => n - (intOf iv).toNat)
      case atStart => exact ⟨0, Nat.zero_le _, by simp, rfl, rfl⟩
      case round =>
        obtain ⟨j, hj, rfl, rfl, hwr⟩ := hrel
        replace hwr := hwr.symm
        subst hwr
        by_cases hjr : j < r
        · have hlt2 : (at' : Int) + (j : Int) < (n : Int) := by have := HNR.out; omega
          have hw1 : wrap64 ((at' : Int) + (j : Int) + 1) = (at' : Int) + (j : Int) + 1 := by unfold wrap64; omega
          have HM : Hid (BitVec.ofNat 64 (256 ^ j) * 256#64 = BitVec.ofNat 64 (256 ^ (j + 1))) := Lib.hid (by rw [Nat.pow_succ, BitVec.ofNat_mul])
          obtain ⟨m0, hm0⟩ : ∃ z, BitVec.ofNat 64 (256 ^ j) = z := ⟨_, rfl⟩
          rw [hm0] at HM
          rw [hm0]
          clear hm0
          go_wp2
          refine ⟨⟨j + 1, by omega, by simp; omega, by rw [← HM.out], by first | rfl | trivial⟩, by simp [intOf]; omega⟩
        · have hjr2 : r = j := by omega
          subst hjr2
          clear hjr hj
          have hlt2 : ¬ (at' : Int) + (r : Int) < (n : Int) := by have := HNR.out; omega
          have hw2 : wrap64 ((n : Int) - (at' : Int)) = (r : Int) := by have := HNR.out; unfold wrap64; omega
          have hd2 : (n : Int) - (at' : Int) = (r : Int) := by have := HNR.out; omega
          obtain ⟨mk, hmk⟩ : ∃ z, BitVec.ofNat 64 (256 ^ r) = z := ⟨_, rfl⟩
          rw [hmk] at HSZ ⊢
          clear hmk
          have hkk : k ≤ 1000000 := by have := HKN.out; omega
          go_wp2_with fail
          refine (HQ.out).mono ?_
          rintro e w' ⟨rfl, hw⟩
          replace hw := hw.symm
          subst hw
          obtain ⟨z, hz⟩ : ∃ z, z0 + mk = z := ⟨_, rfl⟩
          rw [hz] at HSZ
          have hown := HO.out
          have hnew := HN.out
          go_wp2_with (at_builtin; refine wpList_append_own _ rfl _ _ 28 rfl w.heap.size 31 i0 (.int .u64 0) 1 8 Tryz.underlying28 hi hz0 hz1 hz2 rfl (by decide) _ k _ rfl (hown.alloc _) ⟨wq.heap.size, 0, none⟩ 1 1 [.int .u64 (W64 z)] rfl rfl ?d1 ?d2 ?d3 ?d4 ?d5 ?_)
          try (case d1 => exact new_cells_q wq _ _)
          try (case d2 => first | rfl | (intro u hu; simp at hu; subst hu; rfl))
          try (case d3 => first | (unfold maxLen; omega) | omega)
          try (case d4 => omega)
          try (case d5 => first | (simp; have := hnew.le; omega) | (have := hnew.le; omega))
          intro v' w1 how hgr _
          have HO2 : Hid (w1.ownsRow w.heap.size 31 1 v' (k + 1) ((chL l).map fun y => .int .u64 (W64 y))) := Lib.hid (by
            rw [HSZ.out, List.map_append]; exact how)
          have HN1 := Lib.hid ((hnew.alloc _).grown' hgr (own_base hown))
          clear how hgr hown hnew
          obtain ⟨a', cap', rfl, hrow⟩ := QRow.of_owns HO2.out (by omega)
          have HR := Lib.hid hrow
          clear hrow HO2
          go_wp2
          go_ret
          rw [← HKN.out]
          exact ⟨a', cap', rfl, HR.out, HN1.out⟩
end Go.Proofs.YtebcfbcfipmahaaGreat
namespace Go.Proofs.YtebcfbcfipmahaaGreat
open Go.RowKit Go.Bv
set_option linter.unusedVariables false
def rvt (q : List (BitVec 64)) (j : Nat) : List (BitVec 64) := q.reverse.take j
set_option maxRecDepth 100000 in
set_option maxHeartbeats 4000000 in
theorem rmonic_q (a : Option Addr) (n c : Nat) (l : List (BitVec 8)) (w : World) (h : BRow w a n c l) (hlim : n ≤ 1000000) :
    Calls Tryz.prog 42 #[.slice a n c] w fun e w' => ∃ a' c', e = .returned (.slice a' (n / 7 + 2 : Nat) c') ∧ QRow w' a' (n / 7 + 2) c' (monL l) ∧ New w w' := by
  obtain ⟨i0, hi, hz0, hz1, hz2⟩ := info_parts info_u64q
  have HC := Lib.hid (rchunks_q a n c l w h hlim)
  have HML : Hid (monL l = (chL l).reverse ++ [1#64]) := Lib.hid rfl
  obtain ⟨q, hq⟩ : ∃ z, chL l = z := ⟨_, rfl⟩
  rw [hq] at HC HML
  clear hq h
  obtain ⟨L, hL⟩ : ∃ L, n / 7 + 1 = L := ⟨_, rfl⟩
  rw [hL] at HC
  have hLs : n / 7 + 2 = L + 1 := by omega
  rw [hLs]
  have hLm : L ≤ 1000000 := by omega
  have hL1 : 1 ≤ L := by omega
  clear hL hLs
  go_enter Tryz.func42, Tryz.ntmps42
  go_wp2_with fail
  refine (HC.out).mono ?_
  rintro e w9 ⟨qa, qc, rfl, hq, hn⟩
  have HQ := Lib.hid hq
  have HN0 := Lib.hid hn
  have HLQ := Lib.hid hq.len_eq
  clear hq hn HC
  go_wp2_with fail
  go_loopw [4, 5] (fun v iv wr => ∃ (k : Nat) (z : Int), k ≤ L ∧ iv = .int .i64 z ∧ Hid (z = (k : Int) - 1) ∧ wr.ownsRow w9.heap.size 31 1 v (L - k) ((rvt q (L - k)).map fun y => .int .u64 (W64 y)) ∧ New w9 wr) (fun _ iv _ => (intOf iv + 1).toNat)
  case atStart => exact ⟨L, _, Nat.le_refl _, rfl, Lib.hid (by omega), by rw [Nat.sub_self]; exact World.ownsRow_nil _ _ _ 1, New.refl _⟩
  case round =>
    obtain ⟨k, z, hk, rfl, HZ, hown, hnew⟩ := hrel
    have HO := Lib.hid hown
    have HN := Lib.hid hnew
    obtain ⟨wq, hwq⟩ : ∃ z, z = wr := ⟨_, rfl⟩
    rw [← hwq] at HO HN ⊢
    clear hown hnew hwq
    rcases k with _ | k
    · obtain rfl : z = -1 := by have := HZ.out; omega
      have HRV : Hid (rvt q L ++ [1#64] = rvt q L ++ [1#64]) := Lib.hid rfl
      clear HRV
      have HRW : Hid (q.reverse ++ [1#64] = rvt q L ++ [1#64]) := Lib.hid (by unfold rvt; rw [List.take_of_length_le (by rw [List.length_reverse, HLQ.out]; exact Nat.le_refl _)])
      rw [Nat.sub_zero] at HO
      have hown := HO.out
      have hnew := HN.out
      go_wp2_with (at_builtin; refine wpList_append_own _ rfl _ _ 28 rfl w9.heap.size 31 i0 (.int .u64 0) 1 8 Tryz.underlying28 hi hz0 hz1 hz2 rfl (by decide) _ L _ rfl (hown.alloc _) ⟨wq.heap.size, 0, none⟩ 1 1 [.int .u64 1] rfl rfl ?d1 ?d2 ?d3 ?d4 ?d5 ?_)
      try (case d1 => exact new_cells_q wq _ _)
      try (case d2 => first | rfl | (intro u hu; simp at hu; subst hu; rfl))
      try (case d3 => first | (unfold maxLen; omega) | omega)
      try (case d4 => omega)
      try (case d5 => first | (simp; have := hnew.le; omega) | (have := hnew.le; omega))
      intro v' w1 how hgr _
      have HO2 : Hid (w1.ownsRow w9.heap.size 31 1 v' (L + 1) ((rvt q L ++ [1#64]).map fun y => .int .u64 (W64 y))) := Lib.hid (by
        rw [show rvt q L ++ [1#64] = rvt q L ++ [1#64] from rfl, List.map_append]; exact how)
      have HN1 := Lib.hid ((hnew.alloc _).grown' hgr (own_base hown))
      clear how hgr hown hnew
      obtain ⟨a', cap', rfl, hrow⟩ := QRow.of_owns HO2.out (by omega)
      have HR := Lib.hid hrow
      clear hrow HO2
      go_wp2
      go_ret
      rw [HML.out, HRW.out]
      exact ⟨a', cap', rfl, HR.out, HN0.out.trans HN1.out⟩
    · obtain rfl : z = (k : Int) := by have := HZ.out; omega
      have hk0 : (0 : Int) ≤ (k : Int) := by omega
      have hkL : (k : Int) < (L : Int) := by omega
      obtain ⟨b1, off1, rfl, hc1⟩ := (HQ.out.stay HN.out).addr (by omega)
      have c1 := hc1 k (by omega)
      clear hc1
      have HSS : Hid (rvt q (L - k) = rvt q (L - (k + 1)) ++ [q.getD k 0]) := Lib.hid (by have := rev_take q k (by rw [HLQ.out]; omega); rw [HLQ.out] at this; exact this)
      obtain ⟨y, hy⟩ : ∃ z, q.getD k 0 = z := ⟨_, rfl⟩
      rw [hy] at c1 HSS
      clear hy
      have hown := HO.out
      have hnew := HN.out
      go_wp2_with (at_builtin; refine wpList_append_own _ rfl _ _ 28 rfl w9.heap.size 31 i0 (.int .u64 0) 1 8 Tryz.underlying28 hi hz0 hz1 hz2 rfl (by decide) _ (L - (k + 1)) _ rfl (hown.alloc _) ⟨wq.heap.size, 0, none⟩ 1 1 [.int .u64 (W64 y)] rfl rfl ?c1 ?c2 ?c3 ?c4 ?c5 ?_)
      try (case c1 => exact new_cells_q wq _ _)
      try (case c2 => first | rfl | (intro u hu; simp at hu; subst hu; rfl))
      try (case c3 => first | (unfold maxLen; omega) | omega)
      try (case c4 => omega)
      try (case c5 => first | (simp; have := hnew.le; omega) | (have := hnew.le; omega))
      intro v' w1 how hgr _
      have HO2 : Hid (w1.ownsRow w9.heap.size 31 1 v' ((L - (k + 1)) + 1) ((rvt q (L - k)).map fun y => .int .u64 (W64 y))) := Lib.hid (by
        rw [HSS.out, List.map_append]; exact how)
      have HN1 := Lib.hid ((hnew.alloc _).grown' hgr (own_base hown))
      clear how hgr hown hnew
      have hlk : L - (k + 1) + 1 = L - k := by omega
      rw [hlk] at HO2
      clear hlk
      go_wp2
      exact ⟨⟨k, _, by omega, rfl, Lib.hid (by omega), HO2.out, HN1.out⟩, by simp [intOf]⟩
/-- what the document's Eval says -/
def seE (a : BitVec 64) (n : Nat) : Int := if 4096 < n then 4 else if PP ≤ a.toNat then 2 else 0
def seV (a : BitVec 64) (l : List (BitVec 8)) : BitVec 64 := if seE a l.length = 0 then mp (nv (monL l) a) else 0#64
set_option maxHeartbeats 2000000 in
theorem reval25_q (x : BitVec 64) (a : Option Addr) (n c : Nat) (l : List (BitVec 8)) (w : World) (h : BRow w a n c l) :
    Calls Tryz.prog 22 #[.int .u64 (W64 x), .slice a n c] w fun e w' => e = .returned (.tuple #[.int .u64 (W64 (seV x l)), .int .i64 (seE x n)]) ∧ New w w' := by
  have hl := h.len_eq
  by_cases h1 : 4096 < (n : Int)
  · have e1 : seE x n = 4 := by unfold seE; rw [if_pos (by omega)]
    have e2 : seV x l = 0#64 := by unfold seV; rw [hl, e1]; rfl
    rw [e1, e2, lo_zero]
    clear e1 e2 hl h
    go_enter Tryz.func22, Tryz.ntmps22
    go_wp2
    go_ret2
    exact ⟨rfl, New.refl _⟩
  · by_cases h2 : PP ≤ x.toNat
    · have e1 : seE x n = 2 := by unfold seE; rw [if_neg (by omega), if_pos h2]
      have e2 : seV x l = 0#64 := by unfold seV; rw [hl, e1]; rfl
      have hg : decide (2305843009213693951 ≤ W64 x) = true := decide_eq_true (by unfold PP at h2; unfold W64; omega)
      rw [e1, e2, lo_zero]
      clear e1 e2 hl h h2
      go_enter Tryz.func22, Tryz.ntmps22
      go_wp2
      go_ret2
      exact ⟨rfl, New.refl _⟩
    · have e1 : seE x n = 0 := by unfold seE; rw [if_neg (by omega), if_neg h2]
      have e2 : seV x l = mp (nv (monL l) x) := by unfold seV; rw [hl, e1]; rfl
      have hg : decide (2305843009213693951 ≤ W64 x) = false := decide_eq_false (by unfold PP at h2; unfold W64; omega)
      have HM := Lib.hid (rmonic_q a n c l w h (by omega))
      have HV := Lib.hid (fun w' a' c' (h' : QRow w' a' (n / 7 + 2) c' (monL l)) => value_q _ _ _ _ x w' h')
      rw [e1, e2]
      obtain ⟨v, hv⟩ : ∃ z, mp (nv (monL l) x) = z := ⟨_, rfl⟩
      rw [hv] at HV
      rw [hv]
      clear e1 e2 hl h h2 hv
      go_enter Tryz.func22, Tryz.ntmps22
      go_wp2_with fail
      refine (HM.out).mono ?_
      rintro e w9 ⟨qa, qc, rfl, hq, hn⟩
      have HQ := Lib.hid hq
      have HN := Lib.hid hn
      clear hq hn HM
      go_wp2_with fail
      refine (HV.out _ _ _ HQ.out).mono ?_
      rintro e w8 ⟨rfl, hw8⟩
      replace hw8 := hw8.symm
      subst hw8
      go_wp2
      go_ret2
      exact ⟨rfl, HN.out⟩
/-- what Append says -/
def apE (a h x : BitVec 64) : Int := if a.toNat < PP ∧ h.toNat < PP ∧ x.toNat < PP then 0 else 2
set_option maxHeartbeats 2000000 in
theorem sapp_ok (a h x : BitVec 64) (ha : a.toNat < PP) (hh : h.toNat < PP) (hx : x.toNat < PP) (w : World) :
    Calls Tryz.prog 68 #[.int .u64 (W64 a), .int .u64 (W64 h), .int .u64 (W64 x)] w fun e w' => e = .returned (.tuple #[.int .u64 (W64 (mp (h.toNat * a.toNat + x.toNat))), .int .i64 0]) ∧ New w w' := by
  have g1 : decide (2305843009213693951 ≤ W64 a) = false := decide_eq_false (by unfold PP at ha; unfold W64; omega)
  have g2 : decide (2305843009213693951 ≤ W64 h) = false := decide_eq_false (by unfold PP at hh; unfold W64; omega)
  have g3 : decide (2305843009213693951 ≤ W64 x) = false := decide_eq_false (by unfold PP at hx; unfold W64; omega)
  have HM := Lib.hid (fun w => mmul_p h a w)
  have HA := Lib.hid (fun w => madd_p (mp (h.toNat * a.toNat)) x w)
  have HE : Hid (mp ((mp (h.toNat * a.toNat)).toNat + x.toNat) = mp (h.toNat * a.toNat + x.toNat)) := Lib.hid (by
    apply mp_congr; rw [mp_toNat, Nat.mod_add_mod])
  rw [HE.out] at HA
  obtain ⟨m, hm⟩ : ∃ z, mp (h.toNat * a.toNat) = z := ⟨_, rfl⟩
  rw [hm] at HM HA
  obtain ⟨r, hr⟩ : ∃ z, mp (h.toNat * a.toNat + x.toNat) = z := ⟨_, rfl⟩
  rw [hr] at HA
  rw [hr]
  clear hm hr HE ha hh hx
  go_enter Tryz.func68, Tryz.ntmps68
  go_wp2_with fail
  refine (HM.out _).mono ?_
  rintro e w9 ⟨rfl, hn⟩
  have HN := Lib.hid hn
  clear hn HM
  go_wp2_with fail
  refine (HA.out _).mono ?_
  rintro e w8 ⟨rfl, hn⟩
  replace HN := Lib.hid (HN.out.trans hn)
  clear hn HA
  go_wp2
  go_ret2
  exact ⟨rfl, HN.out⟩
end Go.Proofs.YtebcfbcfipmahaaGreat
namespace Go.Proofs.YtebcfbcfipmahaaGreat
open Go Go.RowKit Go.Bv
set_option linter.unusedVariables false
theorem pv_cons (x : Nat) (f : Nat → Nat) (z : Nat) : ∀ n, pv (fun i => if i = 0 then x else f (i - 1)) z (n + 1) = x + z * pv f z n
  | 0 => by
    show 0 + (if 0 = 0 then x else f (0 - 1)) * z ^ 0 = x + z * 0
    rw [if_pos rfl, Nat.pow_zero]; omega
  | n + 1 => by
    show pv (fun i => if i = 0 then x else f (i - 1)) z (n + 1) + (if n + 1 = 0 then x else f (n + 1 - 1)) * z ^ (n + 1) = x + z * (pv f z n + f n * z ^ n)
    rw [pv_cons x f z n, if_neg (by omega), Nat.add_sub_cancel, Nat.mul_add, Nat.pow_succ]
    have e : f n * (z ^ n * z) = z * (f n * z ^ n) := by rw [Nat.mul_comm z, Nat.mul_assoc]
    rw [e, Nat.add_assoc]
theorem nv_cons (x : BitVec 64) (l : List (BitVec 64)) (z : BitVec 64) : nv (x :: l) z = x.toNat + z.toNat * nv l z := by
  have h := pv_cons x.toNat (fun i => (l.getD i 0).toNat) z.toNat l.length
  unfold nv
  rw [List.length_cons, ← h]
  congr 1
  funext i
  cases i with
  | zero => rfl
  | succ j => rfl
/-- the value, chunk by chunk -/
def hor (a : BitVec 64) (cs : List (BitVec 64)) : BitVec 64 := cs.foldl (fun h x => mp (h.toNat * a.toNat + x.toNat)) 1#64
theorem hor_snoc (a : BitVec 64) (cs : List (BitVec 64)) (x : BitVec 64) : hor a (cs ++ [x]) = mp ((hor a cs).toNat * a.toNat + x.toNat) := by unfold hor; rw [List.foldl_append]; rfl
theorem hor_rev (a : BitVec 64) : ∀ q : List (BitVec 64), mp (hor a q.reverse).toNat = mp (nv (q ++ [1#64]) a)
  | [] => by
    show mp (1#64 : BitVec 64).toNat = mp (nv [1#64] a)
    rw [nv_single]
  | x :: q => by
    rw [List.reverse_cons, hor_snoc, List.cons_append, nv_cons]
    have ih := hor_rev a q
    apply mp_congr
    have h2 := mp_iff.1 ih
    rw [mp_toNat, Nat.mod_mod, Nat.add_mod, Nat.mul_mod, h2, ← Nat.mul_mod, ← Nat.add_mod, Nat.add_comm, Nat.mul_comm]
theorem hor_lt (a : BitVec 64) (cs : List (BitVec 64)) : (hor a cs).toNat < PP := by
  rcases List.eq_nil_or_concat cs with rfl | ⟨l, x, rfl⟩
  · show (1#64 : BitVec 64).toNat < PP; decide
  · rw [List.concat_eq_append, hor_snoc]; exact mp_lt _
/-- what Eval answers, chunk by chunk, is the polynomial's value -/
theorem hor_value (a : BitVec 64) (l : List (BitVec 8)) : hor a (chL l) = mp (nv (monL l) a) := by
  have h := hor_rev a (chL l).reverse
  rw [List.reverse_reverse, mp_low (hor_lt _ _)] at h
  exact h
end Go.Proofs.YtebcfbcfipmahaaGreat
