import Derived.Test.YtoplabhoedloeaaGreatZBlkX
import Derived.Defers
import Derived.Recover
import Derived.Laws.Pointers
import Derived.Handy
import Derived.Laws.EntriesVeiled
import Derived.LoopN
section
/- Layer 34: the document's rounds and word. -/
namespace Go.Proofs.YtoplabhoedloeaaGreat
open Go.RowKit Go.Bv
set_option linter.unusedVariables false
end Go.Proofs.YtoplabhoedloeaaGreat
end
section
/- Layer 34: the document's From. -/
namespace Go.Proofs.YtoplabhoedloeaaGreat
open Go.RowKit Go.Bv
set_option linter.unusedVariables false
theorem rd_take34 (l : List (BitVec 8)) (n k m : Nat) (h : k + m ≤ n) : rd (l.take n) k m = rd l k m := by
  unfold rd
  exact num_congr m (fun i hi => by simp [List.getD_eq_getElem?_getD, show k + i < n by omega])
end Go.Proofs.YtoplabhoedloeaaGreat
end
section
/- Layer 34: a seed; which kinds there are; the last word. -/
namespace Go.Proofs.YtoplabhoedloeaaGreat
open Go.RowKit Go.Bv
set_option linter.unusedVariables false
theorem shl_mul34 (lg : BitVec 64) : lg % 256#64 * 72057594037927936#64 = lg <<< 56 := by
  apply BitVec.eq_of_toNat_eq
  rw [BitVec.toNat_mul, BitVec.toNat_umod, BitVec.toNat_shiftLeft, Nat.shiftLeft_eq]
  show (lg.toNat % 256 * 72057594037927936) % 18446744073709551616 = (lg.toNat * 72057594037927936) % 18446744073709551616
  omega
theorem last_word34 (a lg : BitVec 64) (h : a.toNat < 72057594037927936) : a + lg % 256#64 * 72057594037927936#64 = a ||| lg <<< 56 := by
  rw [shl_mul34]
  apply BitVec.add_eq_or_of_and_eq_zero
  apply BitVec.eq_of_getLsbD_eq
  intro i hi
  rw [BitVec.getLsbD_and, BitVec.getLsbD_shiftLeft]
  simp only [BitVec.getLsbD_zero]
  by_cases hlt : i < 56
  · simp [hlt]
  · have : a.getLsbD i = false := by
      apply Nat.testBit_lt_two_pow
      exact Nat.lt_of_lt_of_le h (Nat.pow_le_pow_right (n := 2) (by omega) (show 56 ≤ i by omega))
    simp [this]
theorem rd_small34 (l : List (BitVec 8)) (h : l.length < 8) : (rd l 0 8).toNat < 72057594037927936 := by
  unfold rd
  rw [num_short (fun i => l.getD (0 + i) 0) l.length 8 (by omega) (fun i h1 h2 => by simp [List.getD_eq_getElem?_getD, List.getElem?_eq_none (show l.length ≤ i by omega)])]
  refine Nat.lt_of_lt_of_le (num_lt _ l.length (by omega)) ?_
  exact Nat.le_trans (Nat.pow_le_pow_right (n := 256) (by omega) (show l.length ≤ 7 by omega)) (by decide)
/-- a kind with its rounds, and a key -/
structure Sd34 where
  kind : Int
  kd : Nat × Nat × Bool
  hK : KD kind kd
  key : BitVec 64 × BitVec 64
theorem Sd34.h1 (sd : Sd34) : sd.kd.1 ≤ 100 := by
  rcases sd.hK with ⟨_, h⟩ | ⟨_, h⟩ | ⟨_, h⟩ <;> rw [h] <;> decide
theorem Sd34.h2 (sd : Sd34) : sd.kd.2.1 ≤ 100 := by
  rcases sd.hK with ⟨_, h⟩ | ⟨_, h⟩ | ⟨_, h⟩ <;> rw [h] <;> decide
theorem Sd34.hr (sd : Sd34) : (sd.kind = 7 ∧ sd.kd.1 = 1) ∨ (sd.kind ≠ 7 ∧ sd.kd.1 = 2) := by
  rcases sd.hK with ⟨h0, h⟩ | ⟨h0, h⟩ | ⟨h0, h⟩ <;> rw [h, h0] <;> decide
theorem Sd34.hk (sd : Sd34) : 6 ≤ sd.kind ∧ sd.kind ≤ 8 := by
  rcases sd.hK with ⟨h0, _⟩ | ⟨h0, _⟩ | ⟨h0, _⟩ <;> rw [h0] <;> decide
end Go.Proofs.YtoplabhoedloeaaGreat
end
section
/- Layer 34: the document's own Blocks. -/
namespace Go.Proofs.YtoplabhoedloeaaGreat
open Go.RowKit Go.Bv
set_option linter.unusedVariables false
end Go.Proofs.YtoplabhoedloeaaGreat
end
section
/- Layer 34: the document's own End, of kind 6. -/
namespace Go.Proofs.YtoplabhoedloeaaGreat
open Go.RowKit Go.Bv
set_option linter.unusedVariables false
end Go.Proofs.YtoplabhoedloeaaGreat
end
section
/- Layer 34: the document's own End, of kind 7. -/
namespace Go.Proofs.YtoplabhoedloeaaGreat
open Go.RowKit Go.Bv
set_option linter.unusedVariables false
end Go.Proofs.YtoplabhoedloeaaGreat
end
section
/- Layer 34: the document's own End, of kind 8. -/
namespace Go.Proofs.YtoplabhoedloeaaGreat
open Go.RowKit Go.Bv
set_option linter.unusedVariables false
end Go.Proofs.YtoplabhoedloeaaGreat
end
section
/- Layer 34: the document's own End, One. -/
namespace Go.Proofs.YtoplabhoedloeaaGreat
open Go.RowKit Go.Bv
set_option linter.unusedVariables false
end Go.Proofs.YtoplabhoedloeaaGreat
end
section
/- Layer 34: finish. -/
namespace Go.Proofs.YtoplabhoedloeaaGreat
open Go.RowKit Go.Bv
set_option linter.unusedVariables false
theorem put2h {w : World} {q : Nat} {u0 u1 : Value} {T : TypeId} (v0 v1 : Value) (h : w.heap[q]? = some (.cells #[u0, u1] T (0, 0))) : True := trivial
set_option maxRecDepth 100000 in
set_option maxHeartbeats 8000000 in
theorem finish_34s (kd : Nat × Nat × Bool) (hk : kd.1 ≤ 100) (hq : kd.2.1 ≤ 100) (s : BitVec 64 × BitVec 64 × BitVec 64 × BitVec 64) (a : Option Addr) (n c : Nat) (tl : List (BitVec 8)) (lg : BitVec 64) (w : World) (h : BRow w a n c tl) :
    Calls Tryz.prog 37 #[(.agg #[.int .i64 (kd.1 : Nat), .int .i64 (kd.2.1 : Nat), .bool kd.2.2]), .agg #[.int .u64 (W64 (s.1)), .int .u64 (W64 (s.2.1)), .int .u64 (W64 (s.2.2.1)), .int .u64 (W64 (s.2.2.2))], .slice a n c, .int .u64 (W64 lg)] w fun e w' => e = .returned (.agg #[.int .u64 (W64 (end34 kd s tl lg).2), .int .u64 (W64 (end34 kd s tl lg).1)]) ∧ New w w' := by
  have HT := Lib.hid (fun w' (hn : New w w') => tail_any a n c tl w' (h.stay hn))
  rw [tail_first34 tl n h.len_eq] at HT
  unfold end34
  obtain ⟨kk, hkk⟩ : ∃ z, rd tl 0 8 = z := ⟨_, rfl⟩
  rw [hkk] at HT
  rw [hkk]
  clear hkk h
  have HW := Lib.hid (word_34s kd hk s (kk ||| lg <<< 56))
  obtain ⟨⟨t0, t1, t2, t3⟩, ht⟩ : ∃ z, word34 kd.1 s (kk ||| lg <<< 56) = z := ⟨_, rfl⟩
  rw [ht] at HW
  rw [ht]
  clear ht hk
  have HZ := Lib.hid (three_all34 w (.cells #[.int .i64 (kd.1 : Nat), .int .i64 (kd.2.1 : Nat), .bool kd.2.2] 74) (.cells #[.int .u64 (W64 (s.1)), .int .u64 (W64 (s.2.1)), .int .u64 (W64 (s.2.2.1)), .int .u64 (W64 (s.2.2.2))] 77) (.cells #[.int .u64 0, .int .u64 0] 24))
  unfold tell34
  cases hg : kd.2.2
  · rw [if_neg (by simp)]
    unfold thd34
    simp only
    obtain ⟨u2, hnm⟩ : ∃ z, t2 ^^^ 255#64 = z := ⟨_, rfl⟩
    have HU2 := Lib.hid hnm
    rw [hnm]
    clear hnm
    have HR := Lib.hid (rounds_34s (t0, t1, u2, t3) kd.2.1 hq)
    obtain ⟨v, hv⟩ : ∃ z, itr34 kd.2.1 (t0, t1, u2, t3) = z := ⟨_, rfl⟩
    rw [hv] at HR
    rw [hv]
    clear hv
    have HJ := Lib.hid (joined_34s v)
    obtain ⟨lo, hlo⟩ : ∃ z, xor34 v = z := ⟨_, rfl⟩
    rw [hlo] at HJ
    rw [hlo, show W64 0#64 = 0 by decide]
    clear hlo
    rw [hg] at HZ HW
    go_enter Tryz.func37, Tryz.ntmps37
    go_wp2_with fail
    refine Gro3.wp_region_gro3S (fun w' => w'.heap[w.heap.size]? = some (.cells #[.int .i64 (kd.1 : Nat), .int .i64 (kd.2.1 : Nat), .bool false] 74 (0, 0)) ∧ (∃ u0 u1 u2 u3 : Value, w'.heap[w.heap.size + 1]? = some (.cells #[u0, u1, u2, u3] 77 (0, 0))) ∧ w'.heap[w.heap.size + 1 + 1]? = some (.cells #[.int .u64 0, .int .u64 0] 24 (0, 0)) ∧ New w w') (fun w' => w'.heap[w.heap.size]? = some (.cells #[.int .i64 (kd.1 : Nat), .int .i64 (kd.2.1 : Nat), .bool false] 74 (0, 0)) ∧ w'.heap[w.heap.size + 1]? = some (.cells #[.int .u64 (W64 (s.1)), .int .u64 (W64 (s.2.1)), .int .u64 (W64 (s.2.2.1)), .int .u64 (W64 (s.2.2.2))] 77 (0, 0)) ∧ w'.heap[w.heap.size + 1 + 1]? = some (.cells #[.int .u64 0, .int .u64 0] 24 (0, 0)) ∧ New w w') [1,1,0,2,0,0,0,2,3] New (fun _ _ _ => True) (by kernel_rfl) (by kernel_rfl) (by kernel_rfl) (fun _ _ _ _ _ _ => trivial) (fun w' hw' => ⟨hw'.1, ⟨_, _, _, _, hw'.2.1⟩, hw'.2.2.1, hw'.2.2.2⟩) (⟨HZ.out.1, HZ.out.2.1, HZ.out.2.2.1, HZ.out.2.2.2.drew⟩) ?_
    intro I J _ _ f g hfa hba hgb hbb
    have HFA := Lib.hid hfa
    have HBA := Lib.hid hba
    have HGB := Lib.hid hgb
    have HBB := Lib.hid hbb
    have fv0 := fun n => cell_of_row _ _ 0 _ _ _ (hgb n).1
    have fv1 := fun n => cell_of_row _ _ 1 _ _ _ (hgb n).1
    have fv2 := fun n => cell_of_row _ _ 2 _ _ _ (hgb n).1
    have fs0 := fun n => cell_of_row _ _ 0 _ _ _ (hgb n).2.1
    have fs1 := fun n => cell_of_row _ _ 1 _ _ _ (hgb n).2.1
    have fs2 := fun n => cell_of_row _ _ 2 _ _ _ (hgb n).2.1
    have fs3 := fun n => cell_of_row _ _ 3 _ _ _ (hgb n).2.1
    clear hfa hba hgb hbb
    refine Gro3.take1 2 (by kernel_rfl) ?_
    simp only [List.take, List.drop, List.length]
    repeat (go_big_quiet_step (fail))
    refine wpQuiet_nil ?_
    refine Gro3.take0 1 (by kernel_rfl) ?_
    simp only [List.take, List.drop, List.length]
    repeat (go_big_quiet_step (fail))
    refine wpQuiet_nil ?_
    refine Gro3.callt (fun v => v = .int .u64 (W64 kk)) (fun _ _ => True) rfl rfl (⟨_, rfl⟩) (fun _ _ _ _ _ => trivial) (fun w1 hB hG => ?_) (fun v1 A1 hv1 hA => ?_)
    · obtain ⟨nq, rfl⟩ := hB
      clear fv0 fv1 fv2 fs0 fs1 fs2 fs3
      go_simp
      refine (HT.out _ (HGB.out nq).2.2.2).mono ?_
      rintro e w2 ⟨rfl, rfl⟩
      first | exact ⟨_, rfl, ⟨nq, rfl⟩, New.refl _, rfl⟩ | exact ⟨_, rfl, ⟨nq, rfl⟩, New.refl _, rfl, trivial⟩ | exact ⟨⟨nq, rfl⟩, New.refl _⟩
    simp [Act.put] at hA
    subst hA
    obtain rfl := hv1
    refine Gro3.take0 3 (by kernel_rfl) ?_
    simp only [List.take, List.drop, List.length]
    repeat (go_big_quiet_step (fail))
    refine wpQuiet_nil ?_
    refine Gro3.callt (fun v => v = .agg #[.int .u64 (W64 t0), .int .u64 (W64 t1), .int .u64 (W64 t2), .int .u64 (W64 t3)]) (fun _ _ => True) rfl rfl (⟨_, rfl⟩) (fun _ _ _ _ _ => trivial) (fun w1 hB hG => ?_) (fun v2 A2 hv2 hA => ?_)
    · obtain ⟨nq, rfl⟩ := hB
      clear fv0 fv1 fv2 fs0 fs1 fs2 fs3
      go_simp
      refine (HW.out _).mono ?_
      rintro e w2 ⟨rfl, hn⟩
      have HX := HBB.out _ ⟨(hn.block _ (lt_of_block (HGB.out nq).1)).trans (HGB.out nq).1, (hn.block _ (lt_of_block (HGB.out nq).2.1)).trans (HGB.out nq).2.1, (hn.block _ (lt_of_block (HGB.out nq).2.2.1)).trans (HGB.out nq).2.2.1, (HGB.out nq).2.2.2.trans hn⟩
      first | exact ⟨_, rfl, HX, hn, rfl⟩ | exact ⟨_, rfl, HX, hn, rfl, trivial⟩ | exact ⟨rfl, HX, hn⟩ | exact ⟨HX, hn, rfl⟩ | exact ⟨HX, hn⟩
    simp [Act.put] at hA
    subst hA
    obtain rfl := hv2
    refine Gro3.turn (fun v => v = undef) (fun _ w9 => Lies w9 (w.heap.size + 1) (.cells #[.int .u64 (W64 t0), .int .u64 (W64 t1), .int .u64 (W64 t2), .int .u64 (W64 t3)] 77 (0, 0))) rfl rfl ⟨_, rfl⟩ (fun w1 hB hG => ?_) (fun v3 A3 hv3 hA => ?_)
    · obtain ⟨nq, rfl⟩ : ∃ nq, w1 = g nq := hB
      have HX := Lib.hid (HGB.out nq)
      have c0 := cell_of_row _ _ 0 _ _ _ HX.out.2.1
      have c1 := cell_of_row _ _ 1 _ _ _ HX.out.2.1
      have c2 := cell_of_row _ _ 2 _ _ _ HX.out.2.1
      have c3 := cell_of_row _ _ 3 _ _ _ HX.out.2.1
      have cf := fun i => frozen_of_row _ _ i _ _ HX.out.2.1
      have HP := Lib.hid (put4h (.int .u64 (W64 t0)) (.int .u64 (W64 t1)) (.int .u64 (W64 t2)) (.int .u64 (W64 t3)) HX.out.2.1)
      have HLI := Lib.hid (show Lies _ _ _ from HP.out.1)
      clear fv0 fv1 fv2 fs0 fs1 fs2 fs3
      go_simp
      exact ⟨HBA.out _ ⟨(HP.out.2.1 _ (by omega)).trans HX.out.1, ⟨_, _, _, _, HLI.out⟩, (HP.out.2.1 _ (by omega)).trans HX.out.2.2.1, HP.out.2.2 _ HX.out.2.2.2 (by omega)⟩, HLI.out⟩
    simp [Act.put] at hA
    subst hA
    refine Gro3.nil ?_
    rintro w11 ⟨n9, rfl⟩ hG
    have hF := HFA.out n9
    have HA := Lib.hid (show (f n9).heap[w.heap.size + 1]? = _ from hG)
    have HV := Lib.hid hF.1
    have HO := Lib.hid hF.2.2.1
    have HN := Lib.hid hF.2.2.2
    clear HFA HBA HGB HBB hG hF fv0 fv1 fv2 fs0 fs1 fs2 fs3 HZ HT HW
    generalize f n9 = w9 at *
    have c0 := cell_of_row _ _ 0 _ _ _ HA.out
    have c1 := cell_of_row _ _ 1 _ _ _ HA.out
    have c2 := cell_of_row _ _ 2 _ _ _ HA.out
    have c3 := cell_of_row _ _ 3 _ _ _ HA.out
    have cf := fun i => frozen_of_row _ _ i _ _ HA.out
    have y0 := cell_of_row _ _ 0 _ _ _ HV.out
    have y1 := cell_of_row _ _ 1 _ _ _ HV.out
    have y2 := cell_of_row _ _ 2 _ _ _ HV.out
    have hu := HU2.out
    go_wp2_with fail
    refine (HR.out _).mono ?_
    rintro e w8 ⟨rfl, hn⟩
    clear hu
    clear c0 c1 c2 c3 cf y0 y1 y2
    have h3 := heap_setCell_same w9 (w.heap.size + 1) 2 _ _ (.int .u64 (W64 u2)) HA.out
    have hs1 := heap_setCell_other w9 ⟨w.heap.size + 1, 2, none⟩ (w.heap.size) (.int .u64 (W64 u2)) (by show w.heap.size ≠ w.heap.size + 1; omega)
    have hs2 := heap_setCell_other w9 ⟨w.heap.size + 1, 2, none⟩ (w.heap.size + 1 + 1) (.int .u64 (W64 u2)) (by show w.heap.size + 1 + 1 ≠ w.heap.size + 1; omega)
    replace HV := Lib.hid (hs1.trans HV.out)
    replace HO := Lib.hid (hs2.trans HO.out)
    replace HN := Lib.hid (HN.out.setCell (p := ⟨w.heap.size + 1, 2, none⟩) (by show w.heap.size ≤ w.heap.size + 1; omega) (.int .u64 (W64 u2)))
    clear hs1 hs2 HA
    generalize World.setCell w9 ⟨w.heap.size + 1, 2, none⟩ (.int .u64 (W64 u2)) = w7 at *
    have HA := Lib.hid (show w7.heap[w.heap.size + 1]? = some (.cells #[.int .u64 (W64 t0), .int .u64 (W64 t1), .int .u64 (W64 u2), .int .u64 (W64 t3)] 77 (0, 0)) from h3)
    clear h3
    replace HO := Lib.hid ((hn.block _ (lt_of_block HO.out)).trans HO.out)
    replace HN := Lib.hid (HN.out.trans hn)
    clear hn
    go_wp2_with fail
    refine (HJ.out _).mono ?_
    rintro e w6 ⟨rfl, hn⟩
    replace HO := Lib.hid ((hn.block _ (lt_of_block HO.out)).trans HO.out)
    replace HN := Lib.hid (HN.out.trans hn)
    clear hn
    have z0 := cell_of_row _ _ 0 _ _ _ HO.out
    have z1 := cell_of_row _ _ 1 _ _ _ HO.out
    have zf := fun i => frozen_of_row _ _ i _ _ HO.out
    go_wp2
    refine bodyPost_ret (by simp [results, Tryz.results37, go_sem, z0, z1]; try rfl) rfl ?_
    refine ⟨?_, ((HN.out.setCell (by show w.heap.size ≤ w.heap.size + 1 + 1; omega) _).setCell (by show w.heap.size ≤ w.heap.size + 1 + 1; omega) _)⟩
    with_reducible rfl
  · rw [if_pos rfl]
    unfold thd34
    simp only
    obtain ⟨u2, hnm⟩ : ∃ z, t2 ^^^ 238#64 = z := ⟨_, rfl⟩
    have HU2 := Lib.hid hnm
    rw [hnm]
    clear hnm
    have HR := Lib.hid (rounds_34s (t0, t1, u2, t3) kd.2.1 hq)
    obtain ⟨⟨p0, p1, p2, p3⟩, hv⟩ : ∃ z, itr34 kd.2.1 (t0, t1, u2, t3) = z := ⟨_, rfl⟩
    rw [hv] at HR
    rw [hv]
    clear hv
    have HJ := Lib.hid (joined_34s (p0, p1, p2, p3))
    obtain ⟨lo, hlo⟩ : ∃ z, xor34 (p0, p1, p2, p3) = z := ⟨_, rfl⟩
    rw [hlo] at HJ
    rw [hlo]
    clear hlo
    unfold snd34
    simp only
    obtain ⟨u1, hnm⟩ : ∃ z, p1 ^^^ 221#64 = z := ⟨_, rfl⟩
    have HU1 := Lib.hid hnm
    rw [hnm]
    clear hnm
    have HR2 := Lib.hid (rounds_34s (p0, u1, p2, p3) kd.2.1 hq)
    obtain ⟨r, hv⟩ : ∃ z, itr34 kd.2.1 (p0, u1, p2, p3) = z := ⟨_, rfl⟩
    rw [hv] at HR2
    rw [hv]
    clear hv
    have HJ2 := Lib.hid (joined_34s r)
    obtain ⟨hi, hhi⟩ : ∃ z, xor34 r = z := ⟨_, rfl⟩
    rw [hhi] at HJ2
    rw [hhi]
    clear hhi
    rw [hg] at HZ HW
    go_enter Tryz.func37, Tryz.ntmps37
    go_wp2_with fail
    refine Gro3.wp_region_gro3S (fun w' => w'.heap[w.heap.size]? = some (.cells #[.int .i64 (kd.1 : Nat), .int .i64 (kd.2.1 : Nat), .bool true] 74 (0, 0)) ∧ (∃ u0 u1 u2 u3 : Value, w'.heap[w.heap.size + 1]? = some (.cells #[u0, u1, u2, u3] 77 (0, 0))) ∧ w'.heap[w.heap.size + 1 + 1]? = some (.cells #[.int .u64 0, .int .u64 0] 24 (0, 0)) ∧ New w w') (fun w' => w'.heap[w.heap.size]? = some (.cells #[.int .i64 (kd.1 : Nat), .int .i64 (kd.2.1 : Nat), .bool true] 74 (0, 0)) ∧ w'.heap[w.heap.size + 1]? = some (.cells #[.int .u64 (W64 (s.1)), .int .u64 (W64 (s.2.1)), .int .u64 (W64 (s.2.2.1)), .int .u64 (W64 (s.2.2.2))] 77 (0, 0)) ∧ w'.heap[w.heap.size + 1 + 1]? = some (.cells #[.int .u64 0, .int .u64 0] 24 (0, 0)) ∧ New w w') [1,1,0,2,0,0,0,2,3] New (fun _ _ _ => True) (by kernel_rfl) (by kernel_rfl) (by kernel_rfl) (fun _ _ _ _ _ _ => trivial) (fun w' hw' => ⟨hw'.1, ⟨_, _, _, _, hw'.2.1⟩, hw'.2.2.1, hw'.2.2.2⟩) (⟨HZ.out.1, HZ.out.2.1, HZ.out.2.2.1, HZ.out.2.2.2.drew⟩) ?_
    intro I J _ _ f g hfa hba hgb hbb
    have HFA := Lib.hid hfa
    have HBA := Lib.hid hba
    have HGB := Lib.hid hgb
    have HBB := Lib.hid hbb
    have fv0 := fun n => cell_of_row _ _ 0 _ _ _ (hgb n).1
    have fv1 := fun n => cell_of_row _ _ 1 _ _ _ (hgb n).1
    have fv2 := fun n => cell_of_row _ _ 2 _ _ _ (hgb n).1
    have fs0 := fun n => cell_of_row _ _ 0 _ _ _ (hgb n).2.1
    have fs1 := fun n => cell_of_row _ _ 1 _ _ _ (hgb n).2.1
    have fs2 := fun n => cell_of_row _ _ 2 _ _ _ (hgb n).2.1
    have fs3 := fun n => cell_of_row _ _ 3 _ _ _ (hgb n).2.1
    clear hfa hba hgb hbb
    refine Gro3.take1 2 (by kernel_rfl) ?_
    simp only [List.take, List.drop, List.length]
    repeat (go_big_quiet_step (fail))
    refine wpQuiet_nil ?_
    refine Gro3.take0 1 (by kernel_rfl) ?_
    simp only [List.take, List.drop, List.length]
    repeat (go_big_quiet_step (fail))
    refine wpQuiet_nil ?_
    refine Gro3.callt (fun v => v = .int .u64 (W64 kk)) (fun _ _ => True) rfl rfl (⟨_, rfl⟩) (fun _ _ _ _ _ => trivial) (fun w1 hB hG => ?_) (fun v1 A1 hv1 hA => ?_)
    · obtain ⟨nq, rfl⟩ := hB
      clear fv0 fv1 fv2 fs0 fs1 fs2 fs3
      go_simp
      refine (HT.out _ (HGB.out nq).2.2.2).mono ?_
      rintro e w2 ⟨rfl, rfl⟩
      first | exact ⟨_, rfl, ⟨nq, rfl⟩, New.refl _, rfl⟩ | exact ⟨_, rfl, ⟨nq, rfl⟩, New.refl _, rfl, trivial⟩ | exact ⟨⟨nq, rfl⟩, New.refl _⟩
    simp [Act.put] at hA
    subst hA
    obtain rfl := hv1
    refine Gro3.take0 3 (by kernel_rfl) ?_
    simp only [List.take, List.drop, List.length]
    repeat (go_big_quiet_step (fail))
    refine wpQuiet_nil ?_
    refine Gro3.callt (fun v => v = .agg #[.int .u64 (W64 t0), .int .u64 (W64 t1), .int .u64 (W64 t2), .int .u64 (W64 t3)]) (fun _ _ => True) rfl rfl (⟨_, rfl⟩) (fun _ _ _ _ _ => trivial) (fun w1 hB hG => ?_) (fun v2 A2 hv2 hA => ?_)
    · obtain ⟨nq, rfl⟩ := hB
      clear fv0 fv1 fv2 fs0 fs1 fs2 fs3
      go_simp
      refine (HW.out _).mono ?_
      rintro e w2 ⟨rfl, hn⟩
      have HX := HBB.out _ ⟨(hn.block _ (lt_of_block (HGB.out nq).1)).trans (HGB.out nq).1, (hn.block _ (lt_of_block (HGB.out nq).2.1)).trans (HGB.out nq).2.1, (hn.block _ (lt_of_block (HGB.out nq).2.2.1)).trans (HGB.out nq).2.2.1, (HGB.out nq).2.2.2.trans hn⟩
      first | exact ⟨_, rfl, HX, hn, rfl⟩ | exact ⟨_, rfl, HX, hn, rfl, trivial⟩ | exact ⟨rfl, HX, hn⟩ | exact ⟨HX, hn, rfl⟩ | exact ⟨HX, hn⟩
    simp [Act.put] at hA
    subst hA
    obtain rfl := hv2
    refine Gro3.turn (fun v => v = undef) (fun _ w9 => Lies w9 (w.heap.size + 1) (.cells #[.int .u64 (W64 t0), .int .u64 (W64 t1), .int .u64 (W64 t2), .int .u64 (W64 t3)] 77 (0, 0))) rfl rfl ⟨_, rfl⟩ (fun w1 hB hG => ?_) (fun v3 A3 hv3 hA => ?_)
    · obtain ⟨nq, rfl⟩ : ∃ nq, w1 = g nq := hB
      have HX := Lib.hid (HGB.out nq)
      have c0 := cell_of_row _ _ 0 _ _ _ HX.out.2.1
      have c1 := cell_of_row _ _ 1 _ _ _ HX.out.2.1
      have c2 := cell_of_row _ _ 2 _ _ _ HX.out.2.1
      have c3 := cell_of_row _ _ 3 _ _ _ HX.out.2.1
      have cf := fun i => frozen_of_row _ _ i _ _ HX.out.2.1
      have HP := Lib.hid (put4h (.int .u64 (W64 t0)) (.int .u64 (W64 t1)) (.int .u64 (W64 t2)) (.int .u64 (W64 t3)) HX.out.2.1)
      have HLI := Lib.hid (show Lies _ _ _ from HP.out.1)
      clear fv0 fv1 fv2 fs0 fs1 fs2 fs3
      go_simp
      exact ⟨HBA.out _ ⟨(HP.out.2.1 _ (by omega)).trans HX.out.1, ⟨_, _, _, _, HLI.out⟩, (HP.out.2.1 _ (by omega)).trans HX.out.2.2.1, HP.out.2.2 _ HX.out.2.2.2 (by omega)⟩, HLI.out⟩
    simp [Act.put] at hA
    subst hA
    refine Gro3.nil ?_
    rintro w11 ⟨n9, rfl⟩ hG
    have hF := HFA.out n9
    have HA := Lib.hid (show (f n9).heap[w.heap.size + 1]? = _ from hG)
    have HV := Lib.hid hF.1
    have HO := Lib.hid hF.2.2.1
    have HN := Lib.hid hF.2.2.2
    clear HFA HBA HGB HBB hG hF fv0 fv1 fv2 fs0 fs1 fs2 fs3 HZ HT HW
    generalize f n9 = w9 at *
    have c0 := cell_of_row _ _ 0 _ _ _ HA.out
    have c1 := cell_of_row _ _ 1 _ _ _ HA.out
    have c2 := cell_of_row _ _ 2 _ _ _ HA.out
    have c3 := cell_of_row _ _ 3 _ _ _ HA.out
    have cf := fun i => frozen_of_row _ _ i _ _ HA.out
    have y0 := cell_of_row _ _ 0 _ _ _ HV.out
    have y1 := cell_of_row _ _ 1 _ _ _ HV.out
    have y2 := cell_of_row _ _ 2 _ _ _ HV.out
    have hu := HU2.out
    go_wp2_with fail
    refine (HR.out _).mono ?_
    rintro e w8 ⟨rfl, hn⟩
    clear hu
    clear c0 c1 c2 c3 cf y0 y1 y2
    have h3 := heap_setCell_same w9 (w.heap.size + 1) 2 _ _ (.int .u64 (W64 u2)) HA.out
    have hs1 := heap_setCell_other w9 ⟨w.heap.size + 1, 2, none⟩ (w.heap.size) (.int .u64 (W64 u2)) (by show w.heap.size ≠ w.heap.size + 1; omega)
    have hs2 := heap_setCell_other w9 ⟨w.heap.size + 1, 2, none⟩ (w.heap.size + 1 + 1) (.int .u64 (W64 u2)) (by show w.heap.size + 1 + 1 ≠ w.heap.size + 1; omega)
    replace HV := Lib.hid (hs1.trans HV.out)
    replace HO := Lib.hid (hs2.trans HO.out)
    replace HN := Lib.hid (HN.out.setCell (p := ⟨w.heap.size + 1, 2, none⟩) (by show w.heap.size ≤ w.heap.size + 1; omega) (.int .u64 (W64 u2)))
    clear hs1 hs2 HA
    generalize World.setCell w9 ⟨w.heap.size + 1, 2, none⟩ (.int .u64 (W64 u2)) = w7 at *
    have HA := Lib.hid (show w7.heap[w.heap.size + 1]? = some (.cells #[.int .u64 (W64 t0), .int .u64 (W64 t1), .int .u64 (W64 u2), .int .u64 (W64 t3)] 77 (0, 0)) from h3)
    clear h3
    replace HA := Lib.hid ((hn.block _ (lt_of_block HA.out)).trans HA.out)
    replace HV := Lib.hid ((hn.block _ (lt_of_block HV.out)).trans HV.out)
    replace HO := Lib.hid ((hn.block _ (lt_of_block HO.out)).trans HO.out)
    replace HN := Lib.hid (HN.out.trans hn)
    clear hn
    have c0 := cell_of_row _ _ 0 _ _ _ HA.out
    have c1 := cell_of_row _ _ 1 _ _ _ HA.out
    have c2 := cell_of_row _ _ 2 _ _ _ HA.out
    have c3 := cell_of_row _ _ 3 _ _ _ HA.out
    have cf := fun i => frozen_of_row _ _ i _ _ HA.out
    go_simp
    first | go_skip | go_guarded | go_step | go_upon | go_in | go_back
    first | go_skip | go_guarded | go_step | go_upon | go_in | go_back
    first | go_skip | go_guarded | go_step | go_upon | go_in | go_back
    first | go_skip | go_guarded | go_step | go_upon | go_in | go_back
    first | go_skip | go_guarded | go_step | go_upon | go_in | go_back
    first | go_skip | go_guarded | go_step | go_upon | go_in | go_back
    first | go_skip | go_guarded | go_step | go_upon | go_in | go_back
    first | go_skip | go_guarded | go_step | go_upon | go_in | go_back
    have hp := put4h (.int .u64 (W64 p0)) (.int .u64 (W64 p1)) (.int .u64 (W64 p2)) (.int .u64 (W64 p3)) HA.out
    replace HO := Lib.hid ((hp.2.1 _ (by omega)).trans HO.out)
    replace HV := Lib.hid ((hp.2.1 _ (by omega)).trans HV.out)
    replace HN := Lib.hid (hp.2.2 _ HN.out (by omega))
    replace HA := Lib.hid hp.1
    clear hp c0 c1 c2 c3 cf
    generalize World.setCell (World.setCell (World.setCell (World.setCell w8 ⟨w.heap.size + 1, 0, none⟩ (.int .u64 (W64 p0))) ⟨w.heap.size + 1, 1, none⟩ (.int .u64 (W64 p1))) ⟨w.heap.size + 1, 2, none⟩ (.int .u64 (W64 p2))) ⟨w.heap.size + 1, 3, none⟩ (.int .u64 (W64 p3)) = w6 at *
    have c0 := cell_of_row _ _ 0 _ _ _ HA.out
    have c1 := cell_of_row _ _ 1 _ _ _ HA.out
    have c2 := cell_of_row _ _ 2 _ _ _ HA.out
    have c3 := cell_of_row _ _ 3 _ _ _ HA.out
    have cf := fun i => frozen_of_row _ _ i _ _ HA.out
    go_wp2_with fail
    refine (HJ.out _).mono ?_
    rintro e w5 ⟨rfl, hn⟩
    clear c0 c1 c2 c3 cf
    replace HA := Lib.hid ((hn.block _ (lt_of_block HA.out)).trans HA.out)
    replace HV := Lib.hid ((hn.block _ (lt_of_block HV.out)).trans HV.out)
    replace HO := Lib.hid ((hn.block _ (lt_of_block HO.out)).trans HO.out)
    replace HN := Lib.hid (HN.out.trans hn)
    clear hn
    have c0 := cell_of_row _ _ 0 _ _ _ HA.out
    have c1 := cell_of_row _ _ 1 _ _ _ HA.out
    have c2 := cell_of_row _ _ 2 _ _ _ HA.out
    have c3 := cell_of_row _ _ 3 _ _ _ HA.out
    have cf := fun i => frozen_of_row _ _ i _ _ HA.out
    have y0 := cell_of_row _ _ 0 _ _ _ HV.out
    have y1 := cell_of_row _ _ 1 _ _ _ HV.out
    have y2 := cell_of_row _ _ 2 _ _ _ HV.out
    have hu := HU1.out
    go_wp2_with fail
    refine (HR2.out _).mono ?_
    rintro e w4 ⟨rfl, hn⟩
    clear hu
    clear c0 c1 c2 c3 cf y0 y1 y2
    have h3 := heap_setCell_same w5 (w.heap.size + 1) 1 _ _ (.int .u64 (W64 u1)) HA.out
    have hs1 := heap_setCell_other w5 ⟨w.heap.size + 1, 1, none⟩ (w.heap.size) (.int .u64 (W64 u1)) (by show w.heap.size ≠ w.heap.size + 1; omega)
    have hs2 := heap_setCell_other w5 ⟨w.heap.size + 1, 1, none⟩ (w.heap.size + 1 + 1) (.int .u64 (W64 u1)) (by show w.heap.size + 1 + 1 ≠ w.heap.size + 1; omega)
    replace HV := Lib.hid (hs1.trans HV.out)
    replace HO := Lib.hid (hs2.trans HO.out)
    replace HN := Lib.hid (HN.out.setCell (p := ⟨w.heap.size + 1, 1, none⟩) (by show w.heap.size ≤ w.heap.size + 1; omega) (.int .u64 (W64 u1)))
    clear hs1 hs2 HA
    generalize World.setCell w5 ⟨w.heap.size + 1, 1, none⟩ (.int .u64 (W64 u1)) = w3 at *
    have HA := Lib.hid (show w3.heap[w.heap.size + 1]? = some (.cells #[.int .u64 (W64 p0), .int .u64 (W64 u1), .int .u64 (W64 p2), .int .u64 (W64 p3)] 77 (0, 0)) from h3)
    clear h3
    replace HO := Lib.hid ((hn.block _ (lt_of_block HO.out)).trans HO.out)
    replace HN := Lib.hid (HN.out.trans hn)
    clear hn
    go_wp2_with fail
    refine (HJ2.out _).mono ?_
    rintro e w2 ⟨rfl, hn⟩
    replace HO := Lib.hid ((hn.block _ (lt_of_block HO.out)).trans HO.out)
    replace HN := Lib.hid (HN.out.trans hn)
    clear hn
    have z0 := cell_of_row _ _ 0 _ _ _ HO.out
    have z1 := cell_of_row _ _ 1 _ _ _ HO.out
    have zf := fun i => frozen_of_row _ _ i _ _ HO.out
    go_wp2
    refine bodyPost_ret (by simp [results, Tryz.results37, go_sem, z0, z1]; try rfl) rfl ?_
    refine ⟨?_, ((HN.out.setCell (by show w.heap.size ≤ w.heap.size + 1 + 1; omega) _).setCell (by show w.heap.size ≤ w.heap.size + 1 + 1; omega) _)⟩
    with_reducible rfl
end Go.Proofs.YtoplabhoedloeaaGreat
end
