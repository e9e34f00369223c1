import Derived.Test.YtebcfbcfipmahaaGreatZ3FamF
import Derived.Test.YtebcfbcfipmahaaGreatZ3WidS
import Derived.Test.YtebcfbcfipmahaaGreatZ3FamG
import Derived.Test.YtebcfbcfipmahaaGreatZ3MxC
import Derived.Test.YtebcfbcfipmahaaGreatZ3Gro3
import Derived.Deep.QuietTactic
import Derived.BigQuiet
section
/- strpoly: the document's Chunks. · strpoly: the document's Monic, Eval; Append. · Plain lemmas: the value of a text's polynomial, chunk by chunk. -/
namespace Go.Proofs.YtebcfbcfipmahaaGreat
open Go.RowKit Go.Bv
set_option linter.unusedVariables false
/-- the first k whole chunks -/
def chP (l : List (BitVec 8)) (k : Nat) : List (BitVec 64) := (List.range k).map fun i => rd l (7 * i) 7
/-- the last chunk -/
def chZ (l : List (BitVec 8)) : BitVec 64 := rd l (7 * (l.length / 7)) (l.length % 7) + BitVec.ofNat 64 (256 ^ (l.length % 7))
/-- a text's numbers -/
def chL (l : List (BitVec 8)) : List (BitVec 64) := chP l (l.length / 7) ++ [chZ l]
theorem chP_succ (l : List (BitVec 8)) (k : Nat) : chP l (k + 1) = chP l k ++ [rd l (7 * k) 7] := by unfold chP; rw [List.range_succ, List.map_append]; rfl
/-- the coefficients of a text, the lowest first -/
def monL (l : List (BitVec 8)) : List (BitVec 64) := (chL l).reverse ++ [1#64]
theorem rev_take (l : List (BitVec 64)) (k : Nat) (h : k < l.length) : l.reverse.take (l.length - k) = l.reverse.take (l.length - (k + 1)) ++ [l.getD k 0] := by
  rw [show l.length - k = (l.length - (k + 1)) + 1 by omega, List.take_add_one]
  congr 1
  rw [List.getElem?_reverse (by omega), List.getD_eq_getElem?_getD, show l.length - 1 - (l.length - (k + 1)) = k by omega, List.getElem?_eq_getElem h]; rfl
set_option maxRecDepth 100000 in
set_option maxHeartbeats 4000000 in
theorem rchunks_q (a : Option Addr) (n c : Nat) (l : List (BitVec 8)) (w : World) (h : BRow w a n c l) (hlim : n ≤ 1000000) :
    Calls Tryz.prog 69 #[.slice a n c] w fun e w' => ∃ a' c', e = .returned (.slice a' (n / 7 + 1 : Nat) c') ∧ QRow w' a' (n / 7 + 1) c' (chL l) ∧ New w w' := by
  obtain ⟨i0, hi, hz0, hz1, hz2⟩ := info_parts info_u64q
  have HH := Lib.hid h
  have HL := Lib.hid h.len_eq
  clear h
  go_enter Tryz.func69, Tryz.ntmps69
  go_wp2_with fail
  go_loopw [3, 4] (fun v iv wr => ∃ (k at' : Nat), at' = 7 * k ∧ at' ≤ n ∧ iv = .int .i64 (at' : Int) ∧ wr.ownsRow w.heap.size 31 1 v k ((chP l k).map fun y => .int .u64 (W64 y)) ∧ New w wr) (fun _ iv _ => n - (intOf iv).toNat)
  case atStart => exact ⟨0, 0, rfl, Nat.zero_le _, rfl, World.ownsRow_nil w _ _ 1, New.refl w⟩
  case round =>
    obtain ⟨k, at', hat, hk, rfl, hown, hnew⟩ := hrel
    have HO := Lib.hid hown
    have HN := Lib.hid hnew
    have HAT := Lib.hid hat
    obtain ⟨wq, hwq⟩ : ∃ z, z = wr := ⟨_, rfl⟩
    rw [← hwq] at HO HN ⊢
    clear hown hnew hwq hat
    by_cases hlt : (at' : Int) + 7 ≤ (n : Int)
    · have HQ := Lib.hid (num_ref a n c l at' 7 wq (HH.out.stay HN.out) (by omega) (by omega))
      have HSS : Hid (chP l (k + 1) = chP l k ++ [rd l at' 7]) := Lib.hid (by rw [chP_succ, HAT.out])
      obtain ⟨y, hy⟩ : ∃ z, rd l at' 7 = z := ⟨_, rfl⟩
      rw [hy] at HQ HSS
      clear hy
      go_wp2_with fail
      refine (HQ.out).mono ?_
      rintro e w' ⟨rfl, hw⟩
      replace hw := hw.symm
      subst hw
      have hkk : k ≤ 1000000 := by have := HAT.out; omega
      have hown := HO.out
      have hnew := HN.out
      go_wp2_with (at_builtin; refine wpList_append_own _ rfl _ _ 28 rfl w.heap.size 31 i0 (.int .u64 0) 1 8 Tryz.underlying28 hi hz0 hz1 hz2 rfl (by decide) _ k _ rfl (hown.alloc _) ⟨wq.heap.size, 0, none⟩ 1 1 [.int .u64 (W64 y)] rfl rfl ?c1 ?c2 ?c3 ?c4 ?c5 ?_)
      try (case c1 => exact new_cells_q wq _ _)
      try (case c2 => first | rfl | (intro u hu; simp at hu; subst hu; rfl))
      try (case c3 => first | (unfold maxLen; omega) | omega)
      try (case c4 => omega)
      try (case c5 => first | (simp; have := hnew.le; omega) | (have := hnew.le; omega))
      intro v' w1 how hgr _
      have HO2 : Hid (w1.ownsRow w.heap.size 31 1 v' (k + 1) ((chP l (k + 1)).map fun y => .int .u64 (W64 y))) := Lib.hid (by
        rw [HSS.out, List.map_append]; exact how)
      have HN1 := Lib.hid ((hnew.alloc _).grown' hgr (own_base hown))
      clear how hgr hown hnew
      go_wp2
      exact ⟨⟨k + 1, at' + 7, by have := HAT.out; omega, by omega, by go_num, HO2.out, HN1.out⟩, by simp [intOf]; omega⟩
    · obtain ⟨r, hr⟩ : ∃ r, n % 7 = r := ⟨_, rfl⟩
      have hkn : k = n / 7 := by have := HAT.out; omega
      have hnr : n = at' + r := by have := HAT.out; omega
      have HSZ : Hid (chL l = chP l k ++ [rd l at' r + BitVec.ofNat 64 (256 ^ r)]) := Lib.hid (by
        unfold chL chZ; rw [HL.out, ← hkn, ← HAT.out, hr])
      have HKN := Lib.hid hkn
      have HNR := Lib.hid hnr
      have HQ := Lib.hid (num_ref a n c l at' r wq (HH.out.stay HN.out) (by omega) (by omega))
      have hr7 : r ≤ 6 := by omega
      clear hkn hnr hr
      obtain ⟨z0, hz0'⟩ : ∃ z, rd l at' r = z := ⟨_, rfl⟩
      rw [hz0'] at HQ HSZ
      clear hz0'
      go_wp2_with fail
      go_loopw [5, 6] (fun mv iv wr => ∃ j : Nat, j ≤ r ∧ iv = .int .i64 ((at' : Int) + (j : Int)) ∧ mv = .int .u64 (W64 (BitVec.ofNat 64 (256 ^ j))) ∧ wr = wq) (fun _ iv _ => n - (intOf iv).toNat)
      case atStart => exact ⟨0, Nat.zero_le _, by simp, rfl, rfl⟩
      case round =>
        obtain ⟨j, hj, rfl, rfl, hwr⟩ := hrel
        replace hwr := hwr.symm
        subst hwr
        by_cases hjr : j < r
        · have hlt2 : (at' : Int) + (j : Int) < (n : Int) := by have := HNR.out; omega
          have hw1 : wrap64 ((at' : Int) + (j : Int) + 1) = (at' : Int) + (j : Int) + 1 := by unfold wrap64; omega
          have HM : Hid (BitVec.ofNat 64 (256 ^ j) * 256#64 = BitVec.ofNat 64 (256 ^ (j + 1))) := Lib.hid (by rw [Nat.pow_succ, BitVec.ofNat_mul])
          obtain ⟨m0, hm0⟩ : ∃ z, BitVec.ofNat 64 (256 ^ j) = z := ⟨_, rfl⟩
          rw [hm0] at HM
          rw [hm0]
          clear hm0
          go_wp2
          refine ⟨⟨j + 1, by omega, by simp; omega, by rw [← HM.out], by first | rfl | trivial⟩, by simp [intOf]; omega⟩
        · have hjr2 : r = j := by omega
          subst hjr2
          clear hjr hj
          have hlt2 : ¬ (at' : Int) + (r : Int) < (n : Int) := by have := HNR.out; omega
          have hw2 : wrap64 ((n : Int) - (at' : Int)) = (r : Int) := by have := HNR.out; unfold wrap64; omega
          have hd2 : (n : Int) - (at' : Int) = (r : Int) := by have := HNR.out; omega
          obtain ⟨mk, hmk⟩ : ∃ z, BitVec.ofNat 64 (256 ^ r) = z := ⟨_, rfl⟩
          rw [hmk] at HSZ ⊢
          clear hmk
          have hkk : k ≤ 1000000 := by have := HKN.out; omega
          go_wp2_with fail
          refine (HQ.out).mono ?_
          rintro e w' ⟨rfl, hw⟩
          replace hw := hw.symm
          subst hw
          obtain ⟨z, hz⟩ : ∃ z, z0 + mk = z := ⟨_, rfl⟩
          rw [hz] at HSZ
          have hown := HO.out
          have hnew := HN.out
          go_wp2_with (at_builtin; refine wpList_append_own _ rfl _ _ 28 rfl w.heap.size 31 i0 (.int .u64 0) 1 8 Tryz.underlying28 hi hz0 hz1 hz2 rfl (by decide) _ k _ rfl (hown.alloc _) ⟨wq.heap.size, 0, none⟩ 1 1 [.int .u64 (W64 z)] rfl rfl ?d1 ?d2 ?d3 ?d4 ?d5 ?_)
          try (case d1 => exact new_cells_q wq _ _)
          try (case d2 => first | rfl | (intro u hu; simp at hu; subst hu; rfl))
          try (case d3 => first | (unfold maxLen; omega) | omega)
          try (case d4 => omega)
          try (case d5 => first | (simp; have := hnew.le; omega) | (have := hnew.le; omega))
          intro v' w1 how hgr _
          have HO2 : Hid (w1.ownsRow w.heap.size 31 1 v' (k + 1) ((chL l).map fun y => .int .u64 (W64 y))) := Lib.hid (by
            rw [HSZ.out, List.map_append]; exact how)
          have HN1 := Lib.hid ((hnew.alloc _).grown' hgr (own_base hown))
          clear how hgr hown hnew
          obtain ⟨a', cap', rfl, hrow⟩ := QRow.of_owns HO2.out (by omega)
          have HR := Lib.hid hrow
          clear hrow HO2
          go_wp2
          go_ret
          rw [← HKN.out]
          exact ⟨a', cap', rfl, HR.out, HN1.out⟩
end Go.Proofs.YtebcfbcfipmahaaGreat
namespace Go.Proofs.YtebcfbcfipmahaaGreat
open Go.RowKit Go.Bv
set_option linter.unusedVariables false
def rvt (q : List (BitVec 64)) (j : Nat) : List (BitVec 64) := q.reverse.take j
set_option maxRecDepth 100000 in
set_option maxHeartbeats 4000000 in
theorem rmonic_q (a : Option Addr) (n c : Nat) (l : List (BitVec 8)) (w : World) (h : BRow w a n c l) (hlim : n ≤ 1000000) :
    Calls Tryz.prog 42 #[.slice a n c] w fun e w' => ∃ a' c', e = .returned (.slice a' (n / 7 + 2 : Nat) c') ∧ QRow w' a' (n / 7 + 2) c' (monL l) ∧ New w w' := by
  obtain ⟨i0, hi, hz0, hz1, hz2⟩ := info_parts info_u64q
  have HC := Lib.hid (rchunks_q a n c l w h hlim)
  have HML : Hid (monL l = (chL l).reverse ++ [1#64]) := Lib.hid rfl
  obtain ⟨q, hq⟩ : ∃ z, chL l = z := ⟨_, rfl⟩
  rw [hq] at HC HML
  clear hq h
  obtain ⟨L, hL⟩ : ∃ L, n / 7 + 1 = L := ⟨_, rfl⟩
  rw [hL] at HC
  have hLs : n / 7 + 2 = L + 1 := by omega
  rw [hLs]
  have hLm : L ≤ 1000000 := by omega
  have hL1 : 1 ≤ L := by omega
  clear hL hLs
  go_enter Tryz.func42, Tryz.ntmps42
  go_wp2_with fail
  refine (HC.out).mono ?_
  rintro e w9 ⟨qa, qc, rfl, hq, hn⟩
  have HQ := Lib.hid hq
  have HN0 := Lib.hid hn
  have HLQ := Lib.hid hq.len_eq
  clear hq hn HC
  go_wp2_with fail
  go_loopw [4, 5] (fun v iv wr => ∃ (k : Nat) (z : Int), k ≤ L ∧ iv = .int .i64 z ∧ Hid (z = (k : Int) - 1) ∧ wr.ownsRow w9.heap.size 31 1 v (L - k) ((rvt q (L - k)).map fun y => .int .u64 (W64 y)) ∧ New w9 wr) (fun _ iv _ => (intOf iv + 1).toNat)
  case atStart => exact ⟨L, _, Nat.le_refl _, rfl, Lib.hid (by omega), by rw [Nat.sub_self]; exact World.ownsRow_nil _ _ _ 1, New.refl _⟩
  case round =>
    obtain ⟨k, z, hk, rfl, HZ, hown, hnew⟩ := hrel
    have HO := Lib.hid hown
    have HN := Lib.hid hnew
    obtain ⟨wq, hwq⟩ : ∃ z, z = wr := ⟨_, rfl⟩
    rw [← hwq] at HO HN ⊢
    clear hown hnew hwq
    rcases k with _ | k
    · obtain rfl : z = -1 := by have := HZ.out; omega
      have HRV : Hid (rvt q L ++ [1#64] = rvt q L ++ [1#64]) := Lib.hid rfl
      clear HRV
      have HRW : Hid (q.reverse ++ [1#64] = rvt q L ++ [1#64]) := Lib.hid (by unfold rvt; rw [List.take_of_length_le (by rw [List.length_reverse, HLQ.out]; exact Nat.le_refl _)])
      rw [Nat.sub_zero] at HO
      have hown := HO.out
      have hnew := HN.out
      go_wp2_with (at_builtin; refine wpList_append_own _ rfl _ _ 28 rfl w9.heap.size 31 i0 (.int .u64 0) 1 8 Tryz.underlying28 hi hz0 hz1 hz2 rfl (by decide) _ L _ rfl (hown.alloc _) ⟨wq.heap.size, 0, none⟩ 1 1 [.int .u64 1] rfl rfl ?d1 ?d2 ?d3 ?d4 ?d5 ?_)
      try (case d1 => exact new_cells_q wq _ _)
      try (case d2 => first | rfl | (intro u hu; simp at hu; subst hu; rfl))
      try (case d3 => first | (unfold maxLen; omega) | omega)
      try (case d4 => omega)
      try (case d5 => first | (simp; have := hnew.le; omega) | (have := hnew.le; omega))
      intro v' w1 how hgr _
      have HO2 : Hid (w1.ownsRow w9.heap.size 31 1 v' (L + 1) ((rvt q L ++ [1#64]).map fun y => .int .u64 (W64 y))) := Lib.hid (by
        rw [show rvt q L ++ [1#64] = rvt q L ++ [1#64] from rfl, List.map_append]; exact how)
      have HN1 := Lib.hid ((hnew.alloc _).grown' hgr (own_base hown))
      clear how hgr hown hnew
      obtain ⟨a', cap', rfl, hrow⟩ := QRow.of_owns HO2.out (by omega)
      have HR := Lib.hid hrow
      clear hrow HO2
      go_wp2
      go_ret
      rw [HML.out, HRW.out]
      exact ⟨a', cap', rfl, HR.out, HN0.out.trans HN1.out⟩
    · obtain rfl : z = (k : Int) := by have := HZ.out; omega
      have hk0 : (0 : Int) ≤ (k : Int) := by omega
      have hkL : (k : Int) < (L : Int) := by omega
      obtain ⟨b1, off1, rfl, hc1⟩ := (HQ.out.stay HN.out).addr (by omega)
      have c1 := hc1 k (by omega)
      clear hc1
      have HSS : Hid (rvt q (L - k) = rvt q (L - (k + 1)) ++ [q.getD k 0]) := Lib.hid (by have := rev_take q k (by rw [HLQ.out]; omega); rw [HLQ.out] at this; exact this)
      obtain ⟨y, hy⟩ : ∃ z, q.getD k 0 = z := ⟨_, rfl⟩
      rw [hy] at c1 HSS
      clear hy
      have hown := HO.out
      have hnew := HN.out
      go_wp2_with (at_builtin; refine wpList_append_own _ rfl _ _ 28 rfl w9.heap.size 31 i0 (.int .u64 0) 1 8 Tryz.underlying28 hi hz0 hz1 hz2 rfl (by decide) _ (L - (k + 1)) _ rfl (hown.alloc _) ⟨wq.heap.size, 0, none⟩ 1 1 [.int .u64 (W64 y)] rfl rfl ?c1 ?c2 ?c3 ?c4 ?c5 ?_)
      try (case c1 => exact new_cells_q wq _ _)
      try (case c2 => first | rfl | (intro u hu; simp at hu; subst hu; rfl))
      try (case c3 => first | (unfold maxLen; omega) | omega)
      try (case c4 => omega)
      try (case c5 => first | (simp; have := hnew.le; omega) | (have := hnew.le; omega))
      intro v' w1 how hgr _
      have HO2 : Hid (w1.ownsRow w9.heap.size 31 1 v' ((L - (k + 1)) + 1) ((rvt q (L - k)).map fun y => .int .u64 (W64 y))) := Lib.hid (by
        rw [HSS.out, List.map_append]; exact how)
      have HN1 := Lib.hid ((hnew.alloc _).grown' hgr (own_base hown))
      clear how hgr hown hnew
      have hlk : L - (k + 1) + 1 = L - k := by omega
      rw [hlk] at HO2
      clear hlk
      go_wp2
      exact ⟨⟨k, _, by omega, rfl, Lib.hid (by omega), HO2.out, HN1.out⟩, by simp [intOf]⟩
/-- what the document's Eval says -/
def seE (a : BitVec 64) (n : Nat) : Int := if 4096 < n then 4 else if PP ≤ a.toNat then 2 else 0
def seV (a : BitVec 64) (l : List (BitVec 8)) : BitVec 64 := if seE a l.length = 0 then mp (nv (monL l) a) else 0#64
set_option maxHeartbeats 2000000 in
theorem reval25_q (x : BitVec 64) (a : Option Addr) (n c : Nat) (l : List (BitVec 8)) (w : World) (h : BRow w a n c l) :
    Calls Tryz.prog 22 #[.int .u64 (W64 x), .slice a n c] w fun e w' => e = .returned (.tuple #[.int .u64 (W64 (seV x l)), .int .i64 (seE x n)]) ∧ New w w' := by
  have hl := h.len_eq
  by_cases h1 : 4096 < (n : Int)
  · have e1 : seE x n = 4 := by unfold seE; rw [if_pos (by omega)]
    have e2 : seV x l = 0#64 := by unfold seV; rw [hl, e1]; rfl
    rw [e1, e2, lo_zero]
    clear e1 e2 hl h
    go_enter Tryz.func22, Tryz.ntmps22
    go_wp2
    go_ret2
    exact ⟨rfl, New.refl _⟩
  · by_cases h2 : PP ≤ x.toNat
    · have e1 : seE x n = 2 := by unfold seE; rw [if_neg (by omega), if_pos h2]
      have e2 : seV x l = 0#64 := by unfold seV; rw [hl, e1]; rfl
      have hg : decide (2305843009213693951 ≤ W64 x) = true := decide_eq_true (by unfold PP at h2; unfold W64; omega)
      rw [e1, e2, lo_zero]
      clear e1 e2 hl h h2
      go_enter Tryz.func22, Tryz.ntmps22
      go_wp2
      go_ret2
      exact ⟨rfl, New.refl _⟩
    · have e1 : seE x n = 0 := by unfold seE; rw [if_neg (by omega), if_neg h2]
      have e2 : seV x l = mp (nv (monL l) x) := by unfold seV; rw [hl, e1]; rfl
      have hg : decide (2305843009213693951 ≤ W64 x) = false := decide_eq_false (by unfold PP at h2; unfold W64; omega)
      have HM := Lib.hid (rmonic_q a n c l w h (by omega))
      have HV := Lib.hid (fun w' a' c' (h' : QRow w' a' (n / 7 + 2) c' (monL l)) => value_q _ _ _ _ x w' h')
      rw [e1, e2]
      obtain ⟨v, hv⟩ : ∃ z, mp (nv (monL l) x) = z := ⟨_, rfl⟩
      rw [hv] at HV
      rw [hv]
      clear e1 e2 hl h h2 hv
      go_enter Tryz.func22, Tryz.ntmps22
      go_wp2_with fail
      refine (HM.out).mono ?_
      rintro e w9 ⟨qa, qc, rfl, hq, hn⟩
      have HQ := Lib.hid hq
      have HN := Lib.hid hn
      clear hq hn HM
      go_wp2_with fail
      refine (HV.out _ _ _ HQ.out).mono ?_
      rintro e w8 ⟨rfl, hw8⟩
      replace hw8 := hw8.symm
      subst hw8
      go_wp2
      go_ret2
      exact ⟨rfl, HN.out⟩
/-- what Append says -/
def apE (a h x : BitVec 64) : Int := if a.toNat < PP ∧ h.toNat < PP ∧ x.toNat < PP then 0 else 2
end Go.Proofs.YtebcfbcfipmahaaGreat
namespace Go.Proofs.YtebcfbcfipmahaaGreat
open Go Go.RowKit Go.Bv
set_option linter.unusedVariables false
/-- the value, chunk by chunk -/
def hor (a : BitVec 64) (cs : List (BitVec 64)) : BitVec 64 := cs.foldl (fun h x => mp (h.toNat * a.toNat + x.toNat)) 1#64
end Go.Proofs.YtebcfbcfipmahaaGreat
end
section
/- through: the quotient of a difference. -/
namespace Go.Proofs.YtebcfbcfipmahaaGreat
open Go.RowKit Go.Bv
set_option linter.unusedVariables false
set_option maxRecDepth 100000 in
set_option maxHeartbeats 4000000 in
theorem div_q (p b off n c : Nat) (xs : List (BitVec 64)) (rise : BitVec 64) (s t : Nat) (w : World) (hp : w.heap[p]? = some (.cells #[.slice (some ⟨b, off, none⟩) n c] 28 (0, 0))) (hx : QRow w (some ⟨b, off, none⟩) n c xs) (hs : s < n) (ht : t < n) :
    Calls Tryz.prog 166 #[.int .u64 (W64 rise), .int .i64 (s : Int), .int .i64 (t : Int), .pointer (some ⟨p, 0, none⟩)] w fun e w' => e = .returned (.int .u64 (W64 (mp (rise.toNat * (iv (sb (xs.getD t 0) (xs.getD s 0))).toNat)))) ∧ New w w' := by
  have hm := hx.most
  have HX := Lib.hid hx
  have HP := Lib.hid hp
  clear hx hp
  have hs0 : (0 : Int) ≤ (s : Int) := by omega
  have hs1 : (s : Int) < (n : Int) := by omega
  have ht0 : (0 : Int) ≤ (t : Int) := by omega
  have ht1 : (t : Int) < (n : Int) := by omega
  obtain ⟨x, hx⟩ : ∃ z, xs.getD t 0 = z := ⟨_, rfl⟩
  obtain ⟨y, hy⟩ : ∃ z, xs.getD s 0 = z := ⟨_, rfl⟩
  rw [hx, hy]
  have HE := Lib.hid hx
  have HF := Lib.hid hy
  clear hx hy
  have HS := Lib.hid (fun w => msub_p x y w)
  obtain ⟨d1, hd1⟩ : ∃ z, sb x y = z := ⟨_, rfl⟩
  rw [hd1] at HS
  rw [hd1]
  clear hd1
  have HI0 := Lib.hid (merinv_any 61 d1)
  rw [pM61, md_mp, md_mp] at HI0
  obtain ⟨d2, hd2⟩ : ∃ z, iv d1 = z := ⟨_, rfl⟩
  have hd3 : (if mp d1.toNat = 0#64 then 0#64 else mp (d1.toNat ^ (2305843009213693951#64 - 2#64).toNat)) = d2 := hd2
  rw [hd3] at HI0
  rw [hd2]
  clear hd2 hd3
  obtain ⟨bb, hbb⟩ : ∃ z, (mp d1.toNat != 0#64) = z := ⟨_, rfl⟩
  rw [hbb] at HI0
  have HI := Lib.hid (fun w => HI0.out w)
  clear hbb HI0
  have HM := Lib.hid (fun w => mmul_p rise d2 w)
  obtain ⟨r, hr⟩ : ∃ z, mp (rise.toNat * d2.toNat) = z := ⟨_, rfl⟩
  rw [hr] at HM
  rw [hr]
  clear hr
  go_enter Tryz.func166, Tryz.ntmps166
  go_wp2_with fail
  refine Gro3.wp_region_gro3S (fun w' => w'.heap[p]? = some (.cells #[.slice (some ⟨b, off, none⟩) n c] 28 (0, 0)) ∧ New w w') (fun w' => w'.heap[p]? = some (.cells #[.slice (some ⟨b, off, none⟩) n c] 28 (0, 0)) ∧ New w w') [0,0,0,0,0,0,0,0,2,2,0,0,0,0,0] New (fun _ _ _ => True) (by kernel_rfl) (by kernel_rfl) (by kernel_rfl) (fun _ _ _ _ _ _ => trivial) (fun w' hw' => hw') (⟨HP.out, (New.refl w).drew⟩) ?_
  intro I J _ _ f g hfa hba hgb hbb
  have HFA := Lib.hid hfa
  have HBA := Lib.hid hba
  have HGB := Lib.hid hgb
  have HBB := Lib.hid hbb
  have fa := fun n => cell_of_row _ _ 0 _ _ _ (hfa n).1
  have fx := fun k => (HX.out.stay (hfa k).2).cell b off rfl t (by omega)
  have fy := fun k => (HX.out.stay (hfa k).2).cell b off rfl s (by omega)
  rw [HE.out] at fx
  rw [HF.out] at fy
  clear hfa hba hgb hbb
  refine Gro3.take0 8 (by kernel_rfl) ?_
  simp only [List.take, List.drop, List.length]
  repeat (go_big_quiet_step (fail))
  refine wpQuiet_nil ?_
  refine Gro3.callt (fun v => v = .int .u64 (W64 d1)) (fun _ _ => True) rfl rfl (⟨_, rfl⟩) (fun _ _ _ _ _ => trivial) (fun w1 hB hG => ?_) (fun v1 A1 hv1 hA => ?_)
  · obtain ⟨nq, rfl⟩ := hB
    clear fa fx fy
    go_simp
    refine (HS.out _).mono ?_
    rintro e w2 ⟨rfl, hn⟩
    have HX2 := HBB.out _ ⟨(hn.block _ (lt_of_block (HGB.out nq).1)).trans (HGB.out nq).1, (HGB.out nq).2.trans hn⟩
    first | exact ⟨_, rfl, HX2, hn, rfl⟩ | exact ⟨_, rfl, HX2, hn, rfl, trivial⟩ | exact ⟨rfl, HX2, hn⟩ | exact ⟨HX2, hn, rfl⟩ | exact ⟨HX2, hn⟩
  simp [Act.put] at hA
  subst hA
  obtain rfl := hv1
  refine Gro3.callt (fun v => v = .tuple #[.int .u64 (W64 d2), .bool bb]) (fun _ _ => True) rfl rfl (⟨_, rfl⟩) (fun _ _ _ _ _ => trivial) (fun w1 hB hG => ?_) (fun v2 A2 hv2 hA => ?_)
  · obtain ⟨nq, rfl⟩ := hB
    clear fa fx fy
    go_simp
    refine (HI.out _).mono ?_
    rintro e w2 ⟨rfl, hn⟩
    have HX2 := HBB.out _ ⟨(hn.block _ (lt_of_block (HGB.out nq).1)).trans (HGB.out nq).1, (HGB.out nq).2.trans hn⟩
    first | exact ⟨_, rfl, HX2, hn, rfl⟩ | exact ⟨_, rfl, HX2, hn, rfl, trivial⟩ | exact ⟨rfl, HX2, hn⟩ | exact ⟨HX2, hn, rfl⟩ | exact ⟨HX2, hn⟩
  simp [Act.put] at hA
  subst hA
  obtain rfl := hv2
  refine Gro3.take0 5 (by kernel_rfl) ?_
  simp only [List.take, List.drop, List.length]
  repeat (go_big_quiet_step (fail))
  refine wpQuiet_nil ?_
  refine Gro3.nil ?_
  rintro w11 ⟨n9, rfl⟩ hG
  have HNZ := Lib.hid (HGB.out n9).2
  clear HFA HBA HGB HBB hG fa fx fy HS HI HP
  generalize g n9 = w9 at *
  go_wp2_with fail
  refine (HM.out _).mono ?_
  rintro e w8 ⟨rfl, hn⟩
  have HN := Lib.hid (HNZ.out.trans hn)
  clear hn HM HNZ
  go_wp2
  go_ret
  exact ⟨rfl, HN.out⟩
end Go.Proofs.YtebcfbcfipmahaaGreat
end
section
/- through.Check. -/
namespace Go.Proofs.YtebcfbcfipmahaaGreat
open Go.RowKit Go.Bv
set_option linter.unusedVariables false
set_option maxRecDepth 100000 in
set_option maxHeartbeats 4000000 in
theorem pchk_q (a b2 : Option Addr) (n c n2 cc2 : Nat) (xs ys : List (BitVec 64)) (w : World) (hx : QRow w a n c xs) (hy : QRow w b2 n2 cc2 ys) :
    Calls Tryz.prog 119 #[.slice a n c, .slice b2 n2 cc2] w fun e w' => e = .returned (.int .i64 (chkT xs ys)) ∧ New w w' := by
  have hmx := hx.most
  have hmy := hy.most
  have HX := Lib.hid hx
  have HY := Lib.hid hy
  have hlx := hx.len_eq
  have hly := hy.len_eq
  clear hx hy
  by_cases h1 : (n : Int) = 0
  · have HE : Hid (chkT xs ys = 1) := Lib.hid (by unfold chkT; rw [if_pos (by omega)])
    go_enter Tryz.func119, Tryz.ntmps119
    go_wp2
    go_ret
    rw [HE.out]; exact ⟨rfl, New.refl w⟩
  by_cases h2 : 64 < (n : Int)
  · have HE : Hid (chkT xs ys = 1) := Lib.hid (by unfold chkT; rw [if_pos (by omega)])
    go_enter Tryz.func119, Tryz.ntmps119
    go_wp2
    go_ret
    rw [HE.out]; exact ⟨rfl, New.refl w⟩
  by_cases h3 : n = n2
  rotate_left
  · have hne : ((n2 : Int) != (n : Int)) = true := by rw [bne_iff_ne]; omega
    have HE : Hid (chkT xs ys = 1) := Lib.hid (by unfold chkT; rw [if_pos (by omega)])
    clear h3
    go_enter Tryz.func119, Tryz.ntmps119
    go_wp2
    go_ret
    rw [HE.out]; exact ⟨rfl, New.refl w⟩
  subst h3
  have HL := Lib.hid hlx
  have HL2 := Lib.hid hly
  have HC0 : Hid (chkT xs ys = if (blw xs && blw ys) = true then (if unl xs then 0 else 15) else 2) := Lib.hid (by unfold chkT; rw [if_neg (by omega)])
  clear hlx hly
  have HBX := Lib.hid (fun w' (hn : New w w') => inf_q _ _ _ _ w' (HX.out.stay hn))
  have HBY := Lib.hid (fun w' (hn : New w w') => inf_q _ _ _ _ w' (HY.out.stay hn))
  cases hbx : blw xs with
  | false =>
    have HE : Hid (chkT xs ys = 2) := Lib.hid (by rw [HC0.out, hbx]; rfl)
    rw [hbx] at HBX
    go_enter Tryz.func119, Tryz.ntmps119
    go_wp2_with fail
    refine (HBX.out _ (New.refl w)).mono ?_
    rintro e w' ⟨rfl, rfl⟩
    go_wp2
    go_ret
    rw [HE.out]; exact ⟨rfl, New.refl _⟩
  | true =>
  cases hby : blw ys with
  | false =>
    have HE : Hid (chkT xs ys = 2) := Lib.hid (by rw [HC0.out, hbx, hby]; rfl)
    rw [hbx] at HBX
    rw [hby] at HBY
    go_enter Tryz.func119, Tryz.ntmps119
    go_wp2_with fail
    refine (HBX.out _ (New.refl w)).mono ?_
    rintro e w' ⟨rfl, hw⟩
    replace hw := hw.symm
    subst hw
    go_wp2_with fail
    refine (HBY.out _ (New.refl w)).mono ?_
    rintro e w' ⟨rfl, hw⟩
    replace hw := hw.symm
    subst hw
    go_wp2
    go_ret
    rw [HE.out]; exact ⟨rfl, New.refl _⟩
  | true =>
  have HC : Hid (chkT xs ys = if unl xs then 0 else 15) := Lib.hid (by rw [HC0.out, hbx, hby]; rfl)
  rw [hbx] at HBX
  rw [hby] at HBY
  clear hbx hby HC0
  go_enter Tryz.func119, Tryz.ntmps119
  go_wp2_with fail
  refine (HBX.out _ (New.refl w)).mono ?_
  rintro e w' ⟨rfl, hw⟩
  replace hw := hw.symm
  subst hw
  go_wp2_with fail
  refine (HBY.out _ (New.refl w)).mono ?_
  rintro e w' ⟨rfl, hw⟩
  replace hw := hw.symm
  subst hw
  go_wp2_with fail
  clear HBX HBY
  go_loopw [34] (fun iv wr => ∃ i : Nat, i ≤ n ∧ iv = .int .i64 (i : Int) ∧ Hid (∀ i', i' < i → ∀ k, k < i' → xs.getD k 0 ≠ xs.getD i' 0) ∧ New w wr) (fun iv _ => n - (intOf iv).toNat)
  case atStart => exact ⟨0, Nat.zero_le _, rfl, Lib.hid (fun i hi => by omega), New.refl w⟩
  case round =>
    obtain ⟨i, hi, rfl, H, hnw⟩ := hrel
    have HN := Lib.hid hnw
    obtain ⟨wq, hwq⟩ : ∃ z, z = wr := ⟨_, rfl⟩
    rw [← hwq] at HN ⊢
    clear hnw hwq
    by_cases hlt : (i : Int) < (n : Int)
    · obtain ⟨b, off, rfl, hc⟩ := (HX.out.stay HN.out).addr (by omega)
      have c1 := hc i (by omega)
      have HCC := Lib.hid hc
      have HXI := Lib.hid (show xs.getD i 0 = xs.getD i 0 from rfl)
      obtain ⟨x, hx⟩ : ∃ z, xs.getD i 0 = z := ⟨_, rfl⟩
      rw [hx] at c1 HXI
      have HXE := Lib.hid hx
      clear hx hc
      have hi0 : (0 : Int) ≤ (i : Int) := by omega
      have hic : (i : Int) ≤ (c : Int) := by have := HX.out.le; omega
      go_wp2_with fail
      clear c1
      go_loopw [43] (fun jv wr => ∃ j : Nat, j ≤ i ∧ jv = .int .i64 (j : Int) ∧ Hid (∀ k, k < j → xs.getD k 0 ≠ x) ∧ New w wr) (fun jv _ => i - (intOf jv).toNat)
      case atStart => exact ⟨0, Nat.zero_le _, rfl, Lib.hid (fun k hk => by omega), HN.out⟩
      case round =>
        clear HN HCC
        obtain ⟨j, hj, rfl, HJ, hnw⟩ := hrel
        have HN := Lib.hid hnw
        obtain ⟨wq, hwq⟩ : ∃ z, z = wr := ⟨_, rfl⟩
        rw [← hwq] at HN ⊢
        clear hnw hwq
        by_cases hlt2 : (j : Int) < (i : Int)
        · have c2 := (HX.out.stay HN.out).cell b off rfl j (by omega)
          have hj0 : (0 : Int) ≤ (j : Int) := by omega
          by_cases he : xs.getD j 0 = x
          · have HE : Hid (chkT xs ys = 15) := Lib.hid (by rw [HC.out, if_neg (fun hh => hh i (by rw [HL.out]; omega) j (by omega) (by rw [he, HXE.out]))])
            rw [he] at c2
            clear he
            go_wp2
            go_ret
            rw [HE.out]; exact ⟨rfl, HN.out⟩
          · have HE : Hid (xs.getD j 0 ≠ x) := Lib.hid he
            have hne : (xs.getD j 0 == x) = false := by rw [beq_eq_false_iff_ne]; exact he
            clear he
            obtain ⟨y, hy⟩ : ∃ z, xs.getD j 0 = z := ⟨_, rfl⟩
            rw [hy] at c2 hne
            clear hy
            go_wp2
            refine ⟨⟨j + 1, by omega, by go_num, Lib.hid (fun k hk => ?_), HN.out⟩, by simp [intOf]; omega⟩
            by_cases e : k = j
            · subst e; exact HE.out
            · exact HJ.out k (by omega)
        · obtain rfl : j = i := by omega
          go_wp2
          refine ⟨⟨j + 1, by omega, by go_num, Lib.hid (fun i' hi' k hk => ?_), HN.out⟩, by simp [intOf]; omega⟩
          by_cases e : i' = j
          · subst e; rw [HXE.out]; exact HJ.out k hk
          · exact H.out i' (by omega) k hk
    · obtain rfl : i = n := by omega
      have HE : Hid (chkT xs ys = 0) := Lib.hid (by rw [HC.out, if_pos (by unfold unl; rw [HL.out]; exact H.out)])
      clear H
      go_wp2
      go_ret
      rw [HE.out]; exact ⟨rfl, HN.out⟩
end Go.Proofs.YtebcfbcfipmahaaGreat
end
