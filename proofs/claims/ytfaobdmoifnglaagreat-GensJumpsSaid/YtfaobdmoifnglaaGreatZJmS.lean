import Derived.Test.YtfaobdmoifnglaaGreatZJmM
import Derived.Test.YtfaobdmoifnglaaGreatZGsY
import Derived.Test.YtfaobdmoifnglaaGreatZJmB
import Derived.Test.YtfaobdmoifnglaaGreatZFouM
import Derived.Test.YtfaobdmoifnglaaGreatZClass
section
/- All generators: the document's Steps; numbers of 256 bits. -/
namespace Go.Proofs.YtfaobdmoifnglaaGreat
open Go.RowKit Go.Bv Go.G2
set_option linter.unusedVariables false
set_option maxRecDepth 100000
/-- what the document's loop keeps -/
structure RsI (w wr : World) (k : Int) (q : W4) (i : Nat) : Prop where
  new : New w wr
  box : wr.heap[w.heap.size]? = some (.cells (stc k (itK k i q)) 25 (0, 0))
  res : wr.heap[w.heap.size + 1]? = some (.cells zst 25 (0, 0))
set_option maxHeartbeats 4000000 in
theorem rsteps_of (k : Int) (q : W4) (hk : chkK k q = 0) (m : Nat) (hm : m ≤ 4096) (w : World) :
    Calls Tryz.prog 28 #[.agg (stc k q), .int .i64 (m : Int)] w fun e w' => e = .returned (.agg (stc k (itK k m q))) ∧ New w w' := by
  have hz := two_blocksG w (.cells (stc k q) 25) (.cells zst 25)
  have HST : Hid (RsI w ((w.alloc (.cells (stc k q) 25)).alloc (.cells zst 25)) k q 0) := Lib.hid ⟨hz.2.2, hz.1, hz.2.1⟩
  clear hz
  go_enter Tryz.func28, Tryz.ntmps28
  go_wp2_with fail
  go_loopw [5] (fun iv wr => ∃ i : Nat, i ≤ m ∧ iv = .int .i64 (i : Int) ∧ Hid (RsI w wr k q i)) (fun iv _ => m - (intOf iv).toNat)
  case atStart => exact ⟨0, Nat.zero_le _, rfl, HST⟩
  case round =>
    obtain ⟨i, hi2, rfl, HI⟩ := hrel
    have hI := HI.out
    by_cases hlt : i < m
    · have hln : (i : Int) < (m : Int) := by omega
      have b0 := cell_of_row _ _ 0 _ _ _ hI.box
      have b1 := cell_of_row _ _ 1 _ _ _ hI.box
      have b2 := cell_of_row _ _ 2 _ _ _ hI.box
      have b3 := cell_of_row _ _ 3 _ _ _ hI.box
      have b4 := cell_of_row _ _ 4 _ _ _ hI.box
      have HCALL := Lib.hid (fun w => rst_any (chk_it i hk) w)
      have HBX := Lib.hid hI.box
      have HRES := Lib.hid hI.res
      have HNEW := Lib.hid hI.new
      have HWS : Hid (itK k (i + 1) q = stK k (itK k i q)) := Lib.hid (itK_last k i q)
      obtain ⟨qi, hqi⟩ : ∃ z, itK k i q = z := ⟨_, rfl⟩
      obtain ⟨qn, hqn⟩ : ∃ z, stK k (itK k i q) = z := ⟨_, rfl⟩
      rw [hqn, hqi] at HCALL
      rw [hqn] at HWS
      rw [hqi] at b0 b1 b2 b3 b4 HBX
      clear hI hqi hqn HI HST
      go_wp2_with fail
      refine (HCALL.out _).mono ?_
      rintro e w9 ⟨rfl, hn9⟩
      have hbx1 := (hn9.block _ (lt_of_block HBX.out)).trans HBX.out
      have hrs1 := (hn9.block _ (lt_of_block HRES.out)).trans HRES.out
      have e0 := cell_of_row _ _ 0 _ _ _ hbx1
      have e1 := cell_of_row _ _ 1 _ _ _ hbx1
      have e2 := cell_of_row _ _ 2 _ _ _ hbx1
      have e3 := cell_of_row _ _ 3 _ _ _ hbx1
      have e4 := cell_of_row _ _ 4 _ _ _ hbx1
      have ef := fun j => frozen_of_row _ _ j _ _ hbx1
      have HRI : Hid (RsI w (put5 w9 w.heap.size (.int .i64 k) (.int .u64 (W64 qn.a)) (.int .u64 (W64 qn.b)) (.int .u64 (W64 qn.c)) (.int .u64 (W64 qn.d))) k q (i + 1)) := Lib.hid (by
        have hp := put5_facts (.int .i64 k) (.int .u64 (W64 qn.a)) (.int .u64 (W64 qn.b)) (.int .u64 (W64 qn.c)) (.int .u64 (W64 qn.d)) hbx1
        refine ⟨hp.2.2.1 _ (HNEW.out.trans hn9) (Nat.le_refl _), ?_, (hp.2.1 _ (by omega)).trans hrs1⟩
        rw [HWS.out]; exact hp.1)
      clear hbx1 hrs1 hn9 b0 b1 b2 b3 b4
      go_wp2
      exact ⟨⟨i + 1, by omega, by go_num, HRI⟩, by simp [intOf]; omega⟩
    · obtain rfl : i = m := by omega
      have hln : ¬ (i : Int) < (i : Int) := by omega
      have b0 := cell_of_row _ _ 0 _ _ _ hI.box
      have b1 := cell_of_row _ _ 1 _ _ _ hI.box
      have b2 := cell_of_row _ _ 2 _ _ _ hI.box
      have b3 := cell_of_row _ _ 3 _ _ _ hI.box
      have b4 := cell_of_row _ _ 4 _ _ _ hI.box
      have d0 := cell_of_row _ _ 0 _ _ _ hI.res
      have d1 := cell_of_row _ _ 1 _ _ _ hI.res
      have d2 := cell_of_row _ _ 2 _ _ _ hI.res
      have d3 := cell_of_row _ _ 3 _ _ _ hI.res
      have d4 := cell_of_row _ _ 4 _ _ _ hI.res
      have df := fun j => frozen_of_row _ _ j _ _ hI.res
      have HRES := Lib.hid hI.res
      have HNEW := Lib.hid hI.new
      obtain ⟨qi, hqi⟩ : ∃ z, itK k i q = z := ⟨_, rfl⟩
      rw [hqi] at b0 b1 b2 b3 b4
      have HQI := Lib.hid hqi
      clear hI HI HST hqi
      go_wp2
      have hp := put5_facts (.int .i64 k) (.int .u64 (W64 qi.a)) (.int .u64 (W64 qi.b)) (.int .u64 (W64 qi.c)) (.int .u64 (W64 qi.d)) HRES.out
      refine bodyPost_ret (by simp [results, Tryz.results28, go_sem, d0, d1, d2, d3, d4]; try rfl) rfl ?_
      exact ⟨by rw [HQI.out], hp.2.2.1 _ HNEW.out (by omega)⟩
/-- so many words are so many steps as they cost -/
theorem ws_it (k : Int) (q : W4) (ho : okK k = true) : ∀ m : Nat, wsK k q m = itK k (m * (csK k).toNat) q
  | 0 => by rw [Nat.zero_mul, itK_0]; rfl
  | m + 1 => by
    have e : wsK k q (m + 1) = nxK k (wsK k q m) := rfl
    rw [e, ws_it k q ho m, itK_nx k ho, ← itK_add, Nat.succ_mul]
theorem four_small (m : Nat) (h : m < 18446744073709551616) : four (BitVec.ofNat 64 m) 0#64 0#64 0#64 = m := by
  unfold four
  rw [BitVec.toNat_ofNat, Nat.mod_eq_of_lt h]
  show m + _ * ((0#64).toNat + _ * ((0#64).toNat + _ * (0#64).toNat)) = m
  rw [show (0#64).toNat = 0 from rfl, Nat.mul_zero, Nat.add_zero]
theorem four_parts (N : Nat) (h : N < 2 ^ 256) : four (BitVec.ofNat 64 N) (BitVec.ofNat 64 (N / 2 ^ 64)) (BitVec.ofNat 64 (N / 2 ^ 128)) (BitVec.ofNat 64 (N / 2 ^ 192)) = N := by
  obtain ⟨e1, e2, e3, e4⟩ := div64s N
  rw [e1, e2, e3]
  have h4 : N / 2 ^ 256 = 0 := Nat.div_eq_of_lt h
  rw [e4] at h4
  unfold four
  rw [BitVec.toNat_ofNat, BitVec.toNat_ofNat, BitVec.toNat_ofNat, BitVec.toNat_ofNat, p64]
  have d0 := Nat.div_add_mod N 18446744073709551616
  have d1 := Nat.div_add_mod (N / 18446744073709551616) 18446744073709551616
  have d2 := Nat.div_add_mod (N / 18446744073709551616 / 18446744073709551616) 18446744073709551616
  have d3 := Nat.div_add_mod (N / 18446744073709551616 / 18446744073709551616 / 18446744073709551616) 18446744073709551616
  rw [h4] at d3
  generalize N / 18446744073709551616 / 18446744073709551616 / 18446744073709551616 = N3 at *
  generalize N / 18446744073709551616 / 18446744073709551616 = N2 at *
  generalize N / 18446744073709551616 = N1 at *
  omega
end Go.Proofs.YtfaobdmoifnglaaGreat
end
section
/- The statement GensJumps: for every state and all numbers. -/
namespace Go.Proofs.YtfaobdmoifnglaaGreat
open Go.RowKit Go.Bv Go.G2
set_option linter.unusedVariables false
set_option maxRecDepth 100000
theorem zs_stay {w w' : World} {b : Nat} {o : Obj} (h : w.heap[b]? = some o) (hn : New w w') : w'.heap[b]? = some o := (hn.block _ (lt_of_block h)).trans h
theorem zs_new (w : World) : (w.alloc (.cells zst 25)).heap[w.heap.size]? = some (.cells zst 25 (0, 0)) := heap_alloc_new w _
theorem zs_alloc (w : World) (cs : Array Value) : (w.alloc (.cells cs 25)).heap[w.heap.size]? = some (.cells cs 25 (0, 0)) := heap_alloc_new w _
theorem zs_d (w : World) : (w.alloc (.cells zst 25)).drew.heap[w.heap.size]? = some (.cells zst 25 (0, 0)) := heap_alloc_new w _
theorem zs_dd (w : World) : (w.drew.alloc (.cells zst 25)).heap[w.heap.size]? = some (.cells zst 25 (0, 0)) := heap_alloc_new w.drew _
theorem zs_put {w : World} {b : Nat} (v0 v1 v2 v3 v4 : Value) (h : w.heap[b]? = some (.cells zst 25 (0, 0))) : (put5 w b v0 v1 v2 v3 v4).heap[b]? = some (.cells #[v0, v1, v2, v3, v4] 25 (0, 0)) := (put5_facts v0 v1 v2 v3 v4 h).1
theorem zs_put_new {W w : World} {b : Nat} {v0 v1 v2 v3 v4 : Value} (hn : New W w) (hb : W.heap.size ≤ b) : New W (put5 w b v0 v1 v2 v3 v4) := ((((hn.setCell hb _).setCell hb _).setCell hb _).setCell hb _).setCell hb _
theorem add_of (a0 a1 a2 a3 b0 b1 b2 b3 : BitVec 64) (N : Nat) (hN : four a0 a1 a2 a3 + four b0 b1 b2 b3 = N) (w : World) :
    Calls Tryz.prog 26 #[.agg (uc a0 a1 a2 a3), .agg (uc b0 b1 b2 b3)] w fun e w' => e = .returned (.tuple #[.agg (uc (BitVec.ofNat 64 N) (BitVec.ofNat 64 (N / 2 ^ 64)) (BitVec.ofNat 64 (N / 2 ^ 128)) (BitVec.ofNat 64 (N / 2 ^ 192))), .bool (decide (2 ^ 256 ≤ N))]) ∧ New w w' := by
  subst hN
  refine (wadd4 a0 a1 a2 a3 b0 b1 b2 b3 w).mono ?_
  rintro e w' ⟨s0, s1, s2, s3, rfl, ⟨rfl, rfl, rfl, rfl⟩, hn⟩
  exact ⟨rfl, hn⟩
theorem w64_small {m : Nat} (h : m < 18446744073709551616) : W64 (BitVec.ofNat 64 m) = (m : Int) := by unfold W64; rw [BitVec.toNat_ofNat, Nat.mod_eq_of_lt h]
theorem w64_wrap {t : Int} (h0 : 0 ≤ t) (h1 : t ≤ 1000) : W64 (BitVec.ofInt 64 (IntKind.i64.wrap t)) = t := by
  have e : IntKind.i64.wrap t = t := by rw [IntKind.wrap_i64]; omega
  rw [e]
  obtain ⟨n, rfl⟩ := Int.eq_ofNat_of_zero_le h0
  rw [BitVec.ofInt_natCast]
  exact w64_small (by omega)
theorem of_small (m : Nat) (h : m < 18446744073709551616) (t : Int) (ht : t = (m : Int)) (w : World) :
    Calls Tryz.prog 27 #[.int .u64 t] w fun e w' => e = .returned (.agg (uc (BitVec.ofNat 64 m) 0#64 0#64 0#64)) ∧ New w w' := by
  have e : W64 (BitVec.ofNat 64 m) = (m : Int) := by unfold W64; rw [BitVec.toNat_ofNat, Nat.mod_eq_of_lt h]
  have hw := wof4 (BitVec.ofNat 64 m) w
  subst ht
  unfold uc
  rw [W64z]
  rw [e] at hw ⊢
  exact hw
set_option maxHeartbeats 4000000 in
theorem jumps_bad (W : World) (k : Int) (q : W4) (a0 a1 a2 a3 b0 b1 b2 b3 : BitVec 64) (n : Int) (hk : ¬ chkK k q = 0) :
    Calls Tryz.prog 6 #[.agg (stc k q), .agg (uc a0 a1 a2 a3), .agg (uc b0 b1 b2 b3), .int .i64 n] W fun e w' => e = .returned (.bool true) ∧ New W w' := by
  have HJ1 := Lib.hid (fun w => jump_no k q a0 a1 a2 a3 hk w)
  have HRC := Lib.hid (fun w => rcheck_any k q w)
  have hq := eqSt_zero
  obtain ⟨c, hc⟩ : ∃ c, chkK k q = c := ⟨_, rfl⟩
  rw [hc] at HJ1 HRC hk
  have hcz : (c != 0) = true := by simpa using hk
  have hcc : (c == c) = true := by simp
  clear hc hk
  obtain ⟨W3, hW3, hb1, hb2, hb3, hn3⟩ := j3 W (.cells (stc k q) 25) (.cells (uc a0 a1 a2 a3) 49) (.cells (uc b0 b1 b2 b3) 49)
  have HW3 := Lib.hid hW3
  have HBS := Lib.hid hb1
  have HBA := Lib.hid hb2
  have HBB := Lib.hid hb3
  have HN := Lib.hid hn3
  clear hW3 hb1 hb2 hb3 hn3
  go_enter Tryz.func6, Tryz.ntmps6
  go_wp2_with fail
  rw [HW3.out]
  clear HW3
  refine (awake15 _).mono ?_
  rintro e w1 ⟨rfl, n1⟩
  replace HBS := Lib.hid (zs_stay HBS.out n1)
  replace HBA := Lib.hid (zs_stay HBA.out n1)
  replace HBB := Lib.hid (zs_stay HBB.out n1)
  replace HN := Lib.hid (HN.out.trans n1)
  clear n1
  have fS0 := cell_of_row _ _ 0 _ _ _ HBS.out
  have fS1 := cell_of_row _ _ 1 _ _ _ HBS.out
  have fS2 := cell_of_row _ _ 2 _ _ _ HBS.out
  have fS3 := cell_of_row _ _ 3 _ _ _ HBS.out
  have fS4 := cell_of_row _ _ 4 _ _ _ HBS.out
  have fA0 := cell_of_row _ _ 0 _ _ _ HBA.out
  have fA1 := cell_of_row _ _ 1 _ _ _ HBA.out
  have fA2 := cell_of_row _ _ 2 _ _ _ HBA.out
  have fA3 := cell_of_row _ _ 3 _ _ _ HBA.out
  go_wp2_with fail
  refine (HJ1.out _).mono ?_
  rintro e w2 ⟨rfl, n2⟩
  clear fS0 fS1 fS2 fS3 fS4 fA0 fA1 fA2 fA3
  have m2 := n2.alloc (.cells zst 25)
  replace HBS := Lib.hid (zs_stay HBS.out m2)
  replace HBA := Lib.hid (zs_stay HBA.out m2)
  replace HBB := Lib.hid (zs_stay HBB.out m2)
  replace HN := Lib.hid (HN.out.trans m2)
  have HBO := Lib.hid (heap_alloc_new w2 (.cells zst 25))
  clear n2 m2
  have fS0 := cell_of_row _ _ 0 _ _ _ HBS.out
  have fS1 := cell_of_row _ _ 1 _ _ _ HBS.out
  have fS2 := cell_of_row _ _ 2 _ _ _ HBS.out
  have fS3 := cell_of_row _ _ 3 _ _ _ HBS.out
  have fS4 := cell_of_row _ _ 4 _ _ _ HBS.out
  go_wp2_with fail
  refine (HRC.out _).mono ?_
  rintro e w5 ⟨rfl, n5⟩
  clear fS0 fS1 fS2 fS3 fS4
  replace HBS := Lib.hid (zs_stay HBS.out n5)
  replace HBA := Lib.hid (zs_stay HBA.out n5)
  replace HBB := Lib.hid (zs_stay HBB.out n5)
  replace HBO := Lib.hid (zs_stay HBO.out n5)
  replace HN := Lib.hid (HN.out.trans n5)
  clear n5
  have fO0 := cell_of_row _ _ 0 _ _ _ HBO.out
  have fO1 := cell_of_row _ _ 1 _ _ _ HBO.out
  have fO2 := cell_of_row _ _ 2 _ _ _ HBO.out
  have fO3 := cell_of_row _ _ 3 _ _ _ HBO.out
  have fO4 := cell_of_row _ _ 4 _ _ _ HBO.out
  go_wp2
  go_ret
  exact ⟨rfl, HN.out⟩
end Go.Proofs.YtfaobdmoifnglaaGreat
end
