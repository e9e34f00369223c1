/- strpoly: the document's Chunks. -/
import Derived.Test.YtiboncnfepnjcaaPolW
import Derived.Test.YtiboncnfepnjcaaLoadB
namespace Go.Proofs.Ytiboncnfepnjcaa
open Go.RowKit Go.Bv
set_option linter.unusedVariables false
/-- the first k whole chunks -/
def chP (l : List (BitVec 8)) (k : Nat) : List (BitVec 64) := (List.range k).map fun i => rd l (7 * i) 7
/-- the last chunk -/
def chZ (l : List (BitVec 8)) : BitVec 64 := rd l (7 * (l.length / 7)) (l.length % 7) + BitVec.ofNat 64 (256 ^ (l.length % 7))
/-- a text's numbers -/
def chL (l : List (BitVec 8)) : List (BitVec 64) := chP l (l.length / 7) ++ [chZ l]
theorem chP_len (l : List (BitVec 8)) (k : Nat) : (chP l k).length = k := by unfold chP; simp
theorem chP_succ (l : List (BitVec 8)) (k : Nat) : chP l (k + 1) = chP l k ++ [rd l (7 * k) 7] := by unfold chP; rw [List.range_succ, List.map_append]; rfl
theorem chL_len (l : List (BitVec 8)) : (chL l).length = l.length / 7 + 1 := by unfold chL; rw [List.length_append, chP_len]; rfl
/-- the coefficients of a text, the lowest first -/
def monL (l : List (BitVec 8)) : List (BitVec 64) := (chL l).reverse ++ [1#64]
theorem monL_len (l : List (BitVec 8)) : (monL l).length = l.length / 7 + 2 := by unfold monL; rw [List.length_append, List.length_reverse, chL_len]; rfl
theorem rev_take (l : List (BitVec 64)) (k : Nat) (h : k < l.length) : l.reverse.take (l.length - k) = l.reverse.take (l.length - (k + 1)) ++ [l.getD k 0] := by
  rw [show l.length - k = (l.length - (k + 1)) + 1 by omega, List.take_add_one]
  congr 1
  rw [List.getElem?_reverse (by omega), List.getD_eq_getElem?_getD, show l.length - 1 - (l.length - (k + 1)) = k by omega, List.getElem?_eq_getElem h]; rfl
set_option maxRecDepth 100000 in
set_option maxHeartbeats 4000000 in
theorem rchunks_q (a : Option Addr) (n c : Nat) (l : List (BitVec 8)) (w : World) (h : BRow w a n c l) (hlim : n ≤ 1000000) :
    Calls Try.prog 45 #[.slice a n c] w fun e w' => ∃ a' c', e = .returned (.slice a' (n / 7 + 1 : Nat) c') ∧ QRow w' a' (n / 7 + 1) c' (chL l) ∧ New w w' := by
  obtain ⟨i0, hi, hz0, hz1, hz2⟩ := info_parts info_u64q
  have HH := Lib.hid h
  have HL := Lib.hid h.len_eq
  clear h
  go_enter Try.func45, Try.ntmps45
  go_wp2_with fail
  go_loopw [3, 4] (fun v iv wr => ∃ (k at' : Nat), at' = 7 * k ∧ at' ≤ n ∧ iv = .int .i64 (at' : Int) ∧ wr.ownsRow w.heap.size 23 1 v k ((chP l k).map fun y => .int .u64 (W64 y)) ∧ New w wr) (fun _ iv _ => n - (intOf iv).toNat)
  case atStart => exact ⟨0, 0, rfl, Nat.zero_le _, rfl, World.ownsRow_nil w _ _ 1, New.refl w⟩
  case round =>
    obtain ⟨k, at', hat, hk, rfl, hown, hnew⟩ := hrel
    have HO := Lib.hid hown
    have HN := Lib.hid hnew
    have HAT := Lib.hid hat
    obtain ⟨wq, hwq⟩ : ∃ z, z = wr := ⟨_, rfl⟩
    rw [← hwq] at HO HN ⊢
    clear hown hnew hwq hat
    by_cases hlt : (at' : Int) + 7 ≤ (n : Int)
    · have HQ := Lib.hid (num_ref a n c l at' 7 wq (HH.out.stay HN.out) (by omega) (by omega))
      have HSS : Hid (chP l (k + 1) = chP l k ++ [rd l at' 7]) := Lib.hid (by rw [chP_succ, HAT.out])
      obtain ⟨y, hy⟩ : ∃ z, rd l at' 7 = z := ⟨_, rfl⟩
      rw [hy] at HQ HSS
      clear hy
      go_wp2_with fail
      refine (HQ.out).mono ?_
      rintro e w' ⟨rfl, hw⟩
      replace hw := hw.symm
      subst hw
      have hkk : k ≤ 1000000 := by have := HAT.out; omega
      have hown := HO.out
      have hnew := HN.out
      go_wp2_with (at_builtin; refine wpList_append_own _ rfl _ _ 22 rfl w.heap.size 23 i0 (.int .u64 0) 1 8 Try.underlying22 hi hz0 hz1 hz2 rfl (by decide) _ k _ rfl (hown.alloc _) ⟨wq.heap.size, 0, none⟩ 1 1 [.int .u64 (W64 y)] rfl rfl ?c1 ?c2 ?c3 ?c4 ?c5 ?_)
      try (case c1 => exact new_cells_q wq _ _)
      try (case c2 => first | rfl | (intro u hu; simp at hu; subst hu; rfl))
      try (case c3 => first | (unfold maxLen; omega) | omega)
      try (case c4 => omega)
      try (case c5 => first | (simp; have := hnew.le; omega) | (have := hnew.le; omega))
      intro v' w1 how hgr _
      have HO2 : Hid (w1.ownsRow w.heap.size 23 1 v' (k + 1) ((chP l (k + 1)).map fun y => .int .u64 (W64 y))) := Lib.hid (by
        rw [HSS.out, List.map_append]; exact how)
      have HN1 := Lib.hid ((hnew.alloc _).grown' hgr (own_base hown))
      clear how hgr hown hnew
      go_wp2
      exact ⟨⟨k + 1, at' + 7, by have := HAT.out; omega, by omega, by go_num, HO2.out, HN1.out⟩, by simp [intOf]; omega⟩
    · obtain ⟨r, hr⟩ : ∃ r, n % 7 = r := ⟨_, rfl⟩
      have hkn : k = n / 7 := by have := HAT.out; omega
      have hnr : n = at' + r := by have := HAT.out; omega
      have HSZ : Hid (chL l = chP l k ++ [rd l at' r + BitVec.ofNat 64 (256 ^ r)]) := Lib.hid (by
        unfold chL chZ; rw [HL.out, ← hkn, ← HAT.out, hr])
      have HKN := Lib.hid hkn
      have HNR := Lib.hid hnr
      have HQ := Lib.hid (num_ref a n c l at' r wq (HH.out.stay HN.out) (by omega) (by omega))
      have hr7 : r ≤ 6 := by omega
      clear hkn hnr hr
      obtain ⟨z0, hz0'⟩ : ∃ z, rd l at' r = z := ⟨_, rfl⟩
      rw [hz0'] at HQ HSZ
      clear hz0'
      go_wp2_with fail
      go_loopw [5, 6] (fun mv iv wr => ∃ j : Nat, j ≤ r ∧ iv = .int .i64 ((at' : Int) + (j : Int)) ∧ mv = .int .u64 (W64 (BitVec.ofNat 64 (256 ^ j))) ∧ wr = wq) (fun _ iv _ => n - (intOf iv).toNat)
      case atStart => exact ⟨0, Nat.zero_le _, by simp, rfl, rfl⟩
      case round =>
        obtain ⟨j, hj, rfl, rfl, hwr⟩ := hrel
        replace hwr := hwr.symm
        subst hwr
        by_cases hjr : j < r
        · have hlt2 : (at' : Int) + (j : Int) < (n : Int) := by have := HNR.out; omega
          have hw1 : wrap64 ((at' : Int) + (j : Int) + 1) = (at' : Int) + (j : Int) + 1 := by unfold wrap64; omega
          have HM : Hid (BitVec.ofNat 64 (256 ^ j) * 256#64 = BitVec.ofNat 64 (256 ^ (j + 1))) := Lib.hid (by rw [Nat.pow_succ, BitVec.ofNat_mul])
          obtain ⟨m0, hm0⟩ : ∃ z, BitVec.ofNat 64 (256 ^ j) = z := ⟨_, rfl⟩
          rw [hm0] at HM
          rw [hm0]
          clear hm0
          go_wp2
          refine ⟨⟨j + 1, by omega, by simp; omega, by rw [← HM.out], by first | rfl | trivial⟩, by simp [intOf]; omega⟩
        · have hjr2 : r = j := by omega
          subst hjr2
          clear hjr hj
          have hlt2 : ¬ (at' : Int) + (r : Int) < (n : Int) := by have := HNR.out; omega
          have hw2 : wrap64 ((n : Int) - (at' : Int)) = (r : Int) := by have := HNR.out; unfold wrap64; omega
          have hd2 : (n : Int) - (at' : Int) = (r : Int) := by have := HNR.out; omega
          obtain ⟨mk, hmk⟩ : ∃ z, BitVec.ofNat 64 (256 ^ r) = z := ⟨_, rfl⟩
          rw [hmk] at HSZ ⊢
          clear hmk
          have hkk : k ≤ 1000000 := by have := HKN.out; omega
          go_wp2_with fail
          refine (HQ.out).mono ?_
          rintro e w' ⟨rfl, hw⟩
          replace hw := hw.symm
          subst hw
          obtain ⟨z, hz⟩ : ∃ z, z0 + mk = z := ⟨_, rfl⟩
          rw [hz] at HSZ
          have hown := HO.out
          have hnew := HN.out
          go_wp2_with (at_builtin; refine wpList_append_own _ rfl _ _ 22 rfl w.heap.size 23 i0 (.int .u64 0) 1 8 Try.underlying22 hi hz0 hz1 hz2 rfl (by decide) _ k _ rfl (hown.alloc _) ⟨wq.heap.size, 0, none⟩ 1 1 [.int .u64 (W64 z)] rfl rfl ?d1 ?d2 ?d3 ?d4 ?d5 ?_)
          try (case d1 => exact new_cells_q wq _ _)
          try (case d2 => first | rfl | (intro u hu; simp at hu; subst hu; rfl))
          try (case d3 => first | (unfold maxLen; omega) | omega)
          try (case d4 => omega)
          try (case d5 => first | (simp; have := hnew.le; omega) | (have := hnew.le; omega))
          intro v' w1 how hgr _
          have HO2 : Hid (w1.ownsRow w.heap.size 23 1 v' (k + 1) ((chL l).map fun y => .int .u64 (W64 y))) := Lib.hid (by
            rw [HSZ.out, List.map_append]; exact how)
          have HN1 := Lib.hid ((hnew.alloc _).grown' hgr (own_base hown))
          clear how hgr hown hnew
          obtain ⟨a', cap', rfl, hrow⟩ := QRow.of_owns HO2.out (by omega)
          have HR := Lib.hid hrow
          clear hrow HO2
          go_wp2
          go_ret
          rw [← HKN.out]
          exact ⟨a', cap', rfl, HR.out, HN1.out⟩
end Go.Proofs.Ytiboncnfepnjcaa
