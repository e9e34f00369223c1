/- Layer 34: the document's rounds and word. -/
import Derived.Test.YtoplabhoedloeaaM34B
import Derived.Defers
import Derived.Recover
import Derived.Laws.Pointers
import Derived.Handy
import Derived.Laws.EntriesVeiled
namespace Go.Proofs.Ytoplabhoedloeaa
open Go.RowKit Go.Bv
set_option linter.unusedVariables false
set_option maxRecDepth 100000 in
set_option maxHeartbeats 8000000 in
theorem rounds_34d (s : BitVec 64 × BitVec 64 × BitVec 64 × BitVec 64) (n : Nat) (hn : n ≤ 100) (w : World) : Calls Try.prog 46 #[.agg #[.int .u64 (W64 (s.1)), .int .u64 (W64 (s.2.1)), .int .u64 (W64 (s.2.2.1)), .int .u64 (W64 (s.2.2.2))], .int .i64 (n : Int)] w fun e w' => e = .returned (.agg #[.int .u64 (W64 ((itr34 n s).1)), .int .u64 (W64 ((itr34 n s).2.1)), .int .u64 (W64 ((itr34 n s).2.2.1)), .int .u64 (W64 ((itr34 n s).2.2.2))]) ∧ New w w' := by
  have HZ := Lib.hid (two_blocks w (.cells #[.int .u64 (W64 (s.1)), .int .u64 (W64 (s.2.1)), .int .u64 (W64 (s.2.2.1)), .int .u64 (W64 (s.2.2.2))] 57) (.cells #[.int .u64 0, .int .u64 0, .int .u64 0, .int .u64 0] 57))
  go_enter Try.func46, Try.ntmps46
  go_wp2_with fail
  go_loopw [5] (fun i wr => ∃ k : Nat, k ≤ n ∧ i = .int .i64 (k : Int) ∧ wr.heap[w.heap.size]? = some (.cells #[.int .u64 (W64 ((itr34 k s).1)), .int .u64 (W64 ((itr34 k s).2.1)), .int .u64 (W64 ((itr34 k s).2.2.1)), .int .u64 (W64 ((itr34 k s).2.2.2))] 57 (0, 0)) ∧ wr.heap[w.heap.size + 1]? = some (.cells #[.int .u64 0, .int .u64 0, .int .u64 0, .int .u64 0] 57 (0, 0)) ∧ New w wr) (fun i _ => n - (intOf i).toNat)
  case atStart => exact ⟨0, Nat.zero_le _, rfl, HZ.out.1, HZ.out.2.1, HZ.out.2.2⟩
  case round =>
    clear HZ
    obtain ⟨k, hk, rfl, ha, ho, hnw⟩ := hrel
    have HA := Lib.hid ha
    have HO := Lib.hid ho
    have HN := Lib.hid hnw
    clear ha ho hnw
    have hsu : itr34 (k + 1) s = one34 (itr34 k s) := rfl
    have HSU := Lib.hid hsu
    clear hsu
    obtain ⟨cur, hcur⟩ : ∃ z, itr34 k s = z := ⟨_, rfl⟩
    rw [hcur] at HA HSU
    have HCUR := Lib.hid hcur
    clear hcur
    obtain ⟨a0, a1, a2, a3⟩ := cur
    obtain ⟨w0, hw0⟩ : ∃ z, wr = z := ⟨_, rfl⟩
    subst hw0
    by_cases hlt : (k : Int) < (n : Int)
    · have hone := HSU.out
      unfold one34 at hone
      simp only at hone
      obtain ⟨p0, hnm⟩ : ∃ z, a0 + a1 = z := ⟨_, rfl⟩
      rw [hnm] at hone
      have HP0 := Lib.hid hnm
      clear hnm
      have HR1 := Lib.hid (rot64r_n a1 13 (by decide))
      obtain ⟨r1, hnm⟩ : ∃ z, a1.rotateLeft 13 = z := ⟨_, rfl⟩
      rw [hnm] at HR1 hone
      clear hnm
      obtain ⟨p1, hnm⟩ : ∃ z, r1 ^^^ p0 = z := ⟨_, rfl⟩
      rw [hnm] at hone
      have HP1 := Lib.hid hnm
      clear hnm
      obtain ⟨p2, hnm⟩ : ∃ z, a2 + a3 = z := ⟨_, rfl⟩
      rw [hnm] at hone
      have HP2 := Lib.hid hnm
      clear hnm
      have HR3 := Lib.hid (rot64r_n a3 16 (by decide))
      obtain ⟨r3, hnm⟩ : ∃ z, a3.rotateLeft 16 = z := ⟨_, rfl⟩
      rw [hnm] at HR3 hone
      clear hnm
      obtain ⟨p3, hnm⟩ : ∃ z, r3 ^^^ p2 = z := ⟨_, rfl⟩
      rw [hnm] at hone
      have HP3 := Lib.hid hnm
      clear hnm
      have HR2 := Lib.hid (rot64r_n p0 32 (by decide))
      obtain ⟨q0, hnm⟩ : ∃ z, p0.rotateLeft 32 = z := ⟨_, rfl⟩
      rw [hnm] at HR2 hone
      clear hnm
      obtain ⟨e0, hnm⟩ : ∃ z, q0 + p3 = z := ⟨_, rfl⟩
      rw [hnm] at hone
      have HE0 := Lib.hid hnm
      clear hnm
      obtain ⟨f2, hnm⟩ : ∃ z, p2 + p1 = z := ⟨_, rfl⟩
      rw [hnm] at hone
      have HF2 := Lib.hid hnm
      clear hnm
      have HR5 := Lib.hid (rot64r_n p1 17 (by decide))
      obtain ⟨r5, hnm⟩ : ∃ z, p1.rotateLeft 17 = z := ⟨_, rfl⟩
      rw [hnm] at HR5 hone
      clear hnm
      obtain ⟨e1, hnm⟩ : ∃ z, r5 ^^^ f2 = z := ⟨_, rfl⟩
      rw [hnm] at hone
      have HE1 := Lib.hid hnm
      clear hnm
      have HR6 := Lib.hid (rot64r_n f2 32 (by decide))
      obtain ⟨e2, hnm⟩ : ∃ z, f2.rotateLeft 32 = z := ⟨_, rfl⟩
      rw [hnm] at HR6 hone
      clear hnm
      have HR4 := Lib.hid (rot64r_n p3 21 (by decide))
      obtain ⟨r4, hnm⟩ : ∃ z, p3.rotateLeft 21 = z := ⟨_, rfl⟩
      rw [hnm] at HR4 hone
      clear hnm
      obtain ⟨e3, hnm⟩ : ∃ z, r4 ^^^ e0 = z := ⟨_, rfl⟩
      rw [hnm] at hone
      have HE3 := Lib.hid hnm
      clear hnm
      have HONE := Lib.hid hone
      clear hone HSU
      have c0 := cell_of_row _ _ 0 _ _ _ HA.out
      have c1 := cell_of_row _ _ 1 _ _ _ HA.out
      have c2 := cell_of_row _ _ 2 _ _ _ HA.out
      have c3 := cell_of_row _ _ 3 _ _ _ HA.out
      have cf := fun i => frozen_of_row _ _ i _ _ HA.out
      have vHP0 := HP0.out
      go_wp2_with fail
      refine (HR1.out _).mono ?_
      rintro e w9 ⟨rfl, hw9⟩
      replace hw9 := hw9.symm
      subst hw9
      have vHP1 := HP1.out
      have vHP2 := HP2.out
      go_wp2_with fail
      refine (HR3.out _).mono ?_
      rintro e w9 ⟨rfl, hw9⟩
      replace hw9 := hw9.symm
      subst hw9
      have vHP3 := HP3.out
      go_wp2_with fail
      refine (HR2.out _).mono ?_
      rintro e w9 ⟨rfl, hw9⟩
      replace hw9 := hw9.symm
      subst hw9
      have vHE0 := HE0.out
      have vHF2 := HF2.out
      go_wp2_with fail
      refine (HR5.out _).mono ?_
      rintro e w9 ⟨rfl, hw9⟩
      replace hw9 := hw9.symm
      subst hw9
      have vHE1 := HE1.out
      go_wp2_with fail
      refine (HR6.out _).mono ?_
      rintro e w9 ⟨rfl, hw9⟩
      replace hw9 := hw9.symm
      subst hw9
      go_wp2_with fail
      refine (HR4.out _).mono ?_
      rintro e w9 ⟨rfl, hw9⟩
      replace hw9 := hw9.symm
      subst hw9
      have vHE3 := HE3.out
      go_wp2
      have HP := Lib.hid (put4h (.int .u64 (W64 e0)) (.int .u64 (W64 e1)) (.int .u64 (W64 e2)) (.int .u64 (W64 e3)) HA.out)
      refine ⟨⟨k + 1, by omega, by go_num, ?_, (HP.out.2.1 _ (by omega)).trans HO.out, HP.out.2.2 _ HN.out (Nat.le_refl _)⟩, by simp [intOf]; omega⟩
      rw [HONE.out]
      exact HP.out.1
    · obtain rfl : k = n := by omega
      clear HSU
      have z0 := cell_of_row _ _ 0 _ _ _ HO.out
      have z1 := cell_of_row _ _ 1 _ _ _ HO.out
      have z2 := cell_of_row _ _ 2 _ _ _ HO.out
      have z3 := cell_of_row _ _ 3 _ _ _ HO.out
      have c0 := cell_of_row _ _ 0 _ _ _ HA.out
      have c1 := cell_of_row _ _ 1 _ _ _ HA.out
      have c2 := cell_of_row _ _ 2 _ _ _ HA.out
      have c3 := cell_of_row _ _ 3 _ _ _ HA.out
      have zf := fun i => frozen_of_row _ _ i _ _ HO.out
      go_wp2
      refine bodyPost_ret (by simp [results, Try.results46, go_sem, z0, z1, z2, z3]; try rfl) rfl ?_
      rw [HCUR.out]
      exact ⟨rfl, ((((HN.out.setCell (by show w.heap.size ≤ w.heap.size + 1; omega) _).setCell (by show w.heap.size ≤ w.heap.size + 1; omega) _).setCell (by show w.heap.size ≤ w.heap.size + 1; omega) _).setCell (by show w.heap.size ≤ w.heap.size + 1; omega) _)⟩
set_option maxRecDepth 100000 in
set_option maxHeartbeats 4000000 in
theorem word_34d (kind : Int) (r : Nat) (hr : (kind = 7 ∧ r = 1) ∨ (kind ≠ 7 ∧ r = 2)) (s : BitVec 64 × BitVec 64 × BitVec 64 × BitVec 64) (m : BitVec 64) (w : World) : Calls Try.prog 44 #[.int .i64 kind, .agg #[.int .u64 (W64 (s.1)), .int .u64 (W64 (s.2.1)), .int .u64 (W64 (s.2.2.1)), .int .u64 (W64 (s.2.2.2))], .int .u64 (W64 m)] w fun e w' => e = .returned (.agg #[.int .u64 (W64 ((word34 r s m).1)), .int .u64 (W64 ((word34 r s m).2.1)), .int .u64 (W64 ((word34 r s m).2.2.1)), .int .u64 (W64 ((word34 r s m).2.2.2))]) ∧ New w w' := by
  obtain ⟨s0, s1, s2, s3⟩ := s
  unfold word34 lst34 fst34
  simp only
  have HR := Lib.hid (rounds_34d (s0, s1, s2, s3 ^^^ m) r (by omega))
  obtain ⟨⟨t0, t1, t2, t3⟩, ht⟩ : ∃ z, itr34 r (s0, s1, s2, s3 ^^^ m) = z := ⟨_, rfl⟩
  rw [ht] at HR
  rw [ht]
  clear ht
  simp only
  have HZ := Lib.hid (two_blocks w (.cells #[.int .u64 (W64 s0), .int .u64 (W64 s1), .int .u64 (W64 s2), .int .u64 (W64 (s3 ^^^ m))] 57) (.cells #[.int .u64 0, .int .u64 0, .int .u64 0, .int .u64 0] 57))
  rcases hr with ⟨rfl, rfl⟩ | ⟨h7, rfl⟩
  · have h0 : True := trivial
    go_enter Try.func44, Try.ntmps44
    go_wp2_with fail
    refine (HR.out _).mono ?_
    rintro e w9 ⟨rfl, hn⟩
    have HA := Lib.hid ((hn.block _ (lt_of_block HZ.out.1)).trans HZ.out.1)
    have HO := Lib.hid ((hn.block _ (lt_of_block HZ.out.2.1)).trans HZ.out.2.1)
    have HN := Lib.hid (HZ.out.2.2.trans hn)
    clear hn HZ HR
    have c0 := cell_of_row _ _ 0 _ _ _ HA.out
    have c1 := cell_of_row _ _ 1 _ _ _ HA.out
    have c2 := cell_of_row _ _ 2 _ _ _ HA.out
    have c3 := cell_of_row _ _ 3 _ _ _ HA.out
    have cf := fun i => frozen_of_row _ _ i _ _ HA.out
    go_simp
    first | go_skip | go_guarded | go_step | go_upon | go_in | go_back
    first | go_skip | go_guarded | go_step | go_upon | go_in | go_back
    first | go_skip | go_guarded | go_step | go_upon | go_in | go_back
    first | go_skip | go_guarded | go_step | go_upon | go_in | go_back
    first | go_skip | go_guarded | go_step | go_upon | go_in | go_back
    first | go_skip | go_guarded | go_step | go_upon | go_in | go_back
    first | go_skip | go_guarded | go_step | go_upon | go_in | go_back
    first | go_skip | go_guarded | go_step | go_upon | go_in | go_back
    have hp := put4h (.int .u64 (W64 t0)) (.int .u64 (W64 t1)) (.int .u64 (W64 t2)) (.int .u64 (W64 t3)) HA.out
    replace HO := Lib.hid ((hp.2.1 _ (by omega)).trans HO.out)
    replace HN := Lib.hid (hp.2.2 _ HN.out (by omega))
    have HA2 := Lib.hid hp.1
    clear hp HA c0 c1 c2 c3 cf
    generalize World.setCell (World.setCell (World.setCell (World.setCell w9 ⟨w.heap.size, 0, none⟩ (.int .u64 (W64 t0))) ⟨w.heap.size, 1, none⟩ (.int .u64 (W64 t1))) ⟨w.heap.size, 2, none⟩ (.int .u64 (W64 t2))) ⟨w.heap.size, 3, none⟩ (.int .u64 (W64 t3)) = w8 at *
    have c0 := cell_of_row _ _ 0 _ _ _ HA2.out
    have c1 := cell_of_row _ _ 1 _ _ _ HA2.out
    have c2 := cell_of_row _ _ 2 _ _ _ HA2.out
    have c3 := cell_of_row _ _ 3 _ _ _ HA2.out
    have cf := fun i => frozen_of_row _ _ i _ _ HA2.out
    first | go_skip | go_guarded | go_step | go_upon | go_in | go_back
    first | go_skip | go_guarded | go_step | go_upon | go_in | go_back
    first | go_skip | go_guarded | go_step | go_upon | go_in | go_back
    first | go_skip | go_guarded | go_step | go_upon | go_in | go_back
    first | go_skip | go_guarded | go_step | go_upon | go_in | go_back
    first | go_skip | go_guarded | go_step | go_upon | go_in | go_back
    first | go_skip | go_guarded | go_step | go_upon | go_in | go_back
    first | go_skip | go_guarded | go_step | go_upon | go_in | go_back
    first | go_skip | go_guarded | go_step | go_upon | go_in | go_back
    first | go_skip | go_guarded | go_step | go_upon | go_in | go_back
    first | go_skip | go_guarded | go_step | go_upon | go_in | go_back
    first | go_skip | go_guarded | go_step | go_upon | go_in | go_back
    first | go_skip | go_guarded | go_step | go_upon | go_in | go_back
    first | go_skip | go_guarded | go_step | go_upon | go_in | go_back
    first | go_skip | go_guarded | go_step | go_upon | go_in | go_back
    first | go_skip | go_guarded | go_step | go_upon | go_in | go_back
    first | go_skip | go_guarded | go_step | go_upon | go_in | go_back
    first | go_skip | go_guarded | go_step | go_upon | go_in | go_back
    replace HO := Lib.hid ((heap_setCell_other w8 ⟨w.heap.size, 0, none⟩ (w.heap.size + 1) (.int .u64 (W64 (t0 ^^^ m))) (by show w.heap.size + 1 ≠ w.heap.size; omega)).trans HO.out)
    replace HN := Lib.hid (HN.out.setCell (p := ⟨w.heap.size, 0, none⟩) (Nat.le_refl _) (.int .u64 (W64 (t0 ^^^ m))))
    have h3 := heap_setCell_same w8 (w.heap.size) 0 _ _ (.int .u64 (W64 (t0 ^^^ m))) HA2.out
    clear c0 c1 c2 c3 cf HA2
    generalize World.setCell w8 ⟨w.heap.size, 0, none⟩ (.int .u64 (W64 (t0 ^^^ m))) = w7 at *
    have HA3 := Lib.hid (show w7.heap[w.heap.size]? = some (.cells #[.int .u64 (W64 (t0 ^^^ m)), .int .u64 (W64 t1), .int .u64 (W64 t2), .int .u64 (W64 t3)] 57 (0, 0)) from h3)
    clear h3
    have c0 := cell_of_row _ _ 0 _ _ _ HA3.out
    have c1 := cell_of_row _ _ 1 _ _ _ HA3.out
    have c2 := cell_of_row _ _ 2 _ _ _ HA3.out
    have c3 := cell_of_row _ _ 3 _ _ _ HA3.out
    have z0 := cell_of_row _ _ 0 _ _ _ HO.out
    have z1 := cell_of_row _ _ 1 _ _ _ HO.out
    have z2 := cell_of_row _ _ 2 _ _ _ HO.out
    have z3 := cell_of_row _ _ 3 _ _ _ HO.out
    have zf := fun i => frozen_of_row _ _ i _ _ HO.out
    go_wp2
    refine bodyPost_ret (by simp [results, Try.results44, go_sem, z0, z1, z2, z3]; try rfl) rfl ?_
    exact ⟨rfl, ((((HN.out.setCell (by show w.heap.size ≤ w.heap.size + 1; omega) _).setCell (by show w.heap.size ≤ w.heap.size + 1; omega) _).setCell (by show w.heap.size ≤ w.heap.size + 1; omega) _).setCell (by show w.heap.size ≤ w.heap.size + 1; omega) _)⟩
  · have h0 : True := trivial
    go_enter Try.func44, Try.ntmps44
    go_wp2_with fail
    refine (HR.out _).mono ?_
    rintro e w9 ⟨rfl, hn⟩
    have HA := Lib.hid ((hn.block _ (lt_of_block HZ.out.1)).trans HZ.out.1)
    have HO := Lib.hid ((hn.block _ (lt_of_block HZ.out.2.1)).trans HZ.out.2.1)
    have HN := Lib.hid (HZ.out.2.2.trans hn)
    clear hn HZ HR
    have c0 := cell_of_row _ _ 0 _ _ _ HA.out
    have c1 := cell_of_row _ _ 1 _ _ _ HA.out
    have c2 := cell_of_row _ _ 2 _ _ _ HA.out
    have c3 := cell_of_row _ _ 3 _ _ _ HA.out
    have cf := fun i => frozen_of_row _ _ i _ _ HA.out
    go_simp
    first | go_skip | go_guarded | go_step | go_upon | go_in | go_back
    first | go_skip | go_guarded | go_step | go_upon | go_in | go_back
    first | go_skip | go_guarded | go_step | go_upon | go_in | go_back
    first | go_skip | go_guarded | go_step | go_upon | go_in | go_back
    first | go_skip | go_guarded | go_step | go_upon | go_in | go_back
    first | go_skip | go_guarded | go_step | go_upon | go_in | go_back
    first | go_skip | go_guarded | go_step | go_upon | go_in | go_back
    first | go_skip | go_guarded | go_step | go_upon | go_in | go_back
    have hp := put4h (.int .u64 (W64 t0)) (.int .u64 (W64 t1)) (.int .u64 (W64 t2)) (.int .u64 (W64 t3)) HA.out
    replace HO := Lib.hid ((hp.2.1 _ (by omega)).trans HO.out)
    replace HN := Lib.hid (hp.2.2 _ HN.out (by omega))
    have HA2 := Lib.hid hp.1
    clear hp HA c0 c1 c2 c3 cf
    generalize World.setCell (World.setCell (World.setCell (World.setCell w9 ⟨w.heap.size, 0, none⟩ (.int .u64 (W64 t0))) ⟨w.heap.size, 1, none⟩ (.int .u64 (W64 t1))) ⟨w.heap.size, 2, none⟩ (.int .u64 (W64 t2))) ⟨w.heap.size, 3, none⟩ (.int .u64 (W64 t3)) = w8 at *
    have c0 := cell_of_row _ _ 0 _ _ _ HA2.out
    have c1 := cell_of_row _ _ 1 _ _ _ HA2.out
    have c2 := cell_of_row _ _ 2 _ _ _ HA2.out
    have c3 := cell_of_row _ _ 3 _ _ _ HA2.out
    have cf := fun i => frozen_of_row _ _ i _ _ HA2.out
    first | go_skip | go_guarded | go_step | go_upon | go_in | go_back
    first | go_skip | go_guarded | go_step | go_upon | go_in | go_back
    first | go_skip | go_guarded | go_step | go_upon | go_in | go_back
    first | go_skip | go_guarded | go_step | go_upon | go_in | go_back
    first | go_skip | go_guarded | go_step | go_upon | go_in | go_back
    first | go_skip | go_guarded | go_step | go_upon | go_in | go_back
    first | go_skip | go_guarded | go_step | go_upon | go_in | go_back
    first | go_skip | go_guarded | go_step | go_upon | go_in | go_back
    first | go_skip | go_guarded | go_step | go_upon | go_in | go_back
    first | go_skip | go_guarded | go_step | go_upon | go_in | go_back
    first | go_skip | go_guarded | go_step | go_upon | go_in | go_back
    first | go_skip | go_guarded | go_step | go_upon | go_in | go_back
    first | go_skip | go_guarded | go_step | go_upon | go_in | go_back
    first | go_skip | go_guarded | go_step | go_upon | go_in | go_back
    first | go_skip | go_guarded | go_step | go_upon | go_in | go_back
    first | go_skip | go_guarded | go_step | go_upon | go_in | go_back
    first | go_skip | go_guarded | go_step | go_upon | go_in | go_back
    first | go_skip | go_guarded | go_step | go_upon | go_in | go_back
    replace HO := Lib.hid ((heap_setCell_other w8 ⟨w.heap.size, 0, none⟩ (w.heap.size + 1) (.int .u64 (W64 (t0 ^^^ m))) (by show w.heap.size + 1 ≠ w.heap.size; omega)).trans HO.out)
    replace HN := Lib.hid (HN.out.setCell (p := ⟨w.heap.size, 0, none⟩) (Nat.le_refl _) (.int .u64 (W64 (t0 ^^^ m))))
    have h3 := heap_setCell_same w8 (w.heap.size) 0 _ _ (.int .u64 (W64 (t0 ^^^ m))) HA2.out
    clear c0 c1 c2 c3 cf HA2
    generalize World.setCell w8 ⟨w.heap.size, 0, none⟩ (.int .u64 (W64 (t0 ^^^ m))) = w7 at *
    have HA3 := Lib.hid (show w7.heap[w.heap.size]? = some (.cells #[.int .u64 (W64 (t0 ^^^ m)), .int .u64 (W64 t1), .int .u64 (W64 t2), .int .u64 (W64 t3)] 57 (0, 0)) from h3)
    clear h3
    have c0 := cell_of_row _ _ 0 _ _ _ HA3.out
    have c1 := cell_of_row _ _ 1 _ _ _ HA3.out
    have c2 := cell_of_row _ _ 2 _ _ _ HA3.out
    have c3 := cell_of_row _ _ 3 _ _ _ HA3.out
    have z0 := cell_of_row _ _ 0 _ _ _ HO.out
    have z1 := cell_of_row _ _ 1 _ _ _ HO.out
    have z2 := cell_of_row _ _ 2 _ _ _ HO.out
    have z3 := cell_of_row _ _ 3 _ _ _ HO.out
    have zf := fun i => frozen_of_row _ _ i _ _ HO.out
    go_wp2
    refine bodyPost_ret (by simp [results, Try.results44, go_sem, z0, z1, z2, z3]; try rfl) rfl ?_
    exact ⟨rfl, ((((HN.out.setCell (by show w.heap.size ≤ w.heap.size + 1; omega) _).setCell (by show w.heap.size ≤ w.heap.size + 1; omega) _).setCell (by show w.heap.size ≤ w.heap.size + 1; omega) _).setCell (by show w.heap.size ≤ w.heap.size + 1; omega) _)⟩
end Go.Proofs.Ytoplabhoedloeaa
