/- Layer 1: the number that a text tells. -/
import Derived.Test.YtgekdcedijbmaaaDoorTxtE
import Derived.Test.YtgekdcedijbmaaaDoorGro3
namespace Go.Bv
open Go Go.RowKit
/-- what is wrong with a text; the number that it tells -/
def rdE (s : ByteArray) : Int := if s.size = 0 then 3 else if plD s.data.toList = false then 5 else if 2 ^ 256 ≤ vD s.data.toList then 9 else 0
def rdV (s : ByteArray) : Nat := if rdE s = 0 then vD s.data.toList else 0
theorem rdV_bad {s : ByteArray} (h : ¬ rdE s = 0) : rdV s = 0 := by unfold rdV; rw [if_neg h]
theorem rd_dig {s : ByteArray} (h : plD s.data.toList = true) (k : Nat) (hk : k < s.size) : isD s[k] = true := by
  unfold plD at h
  rw [Bool.and_eq_true] at h
  exact List.all_eq_true.1 h.1 _ (List.mem_of_getElem? (byte_at s k hk))
theorem rd_low {c : UInt8} (h : isD c = true) : 48 ≤ c.toNat ∧ c.toNat ≤ 57 := by
  refine ⟨?_, ?_⟩
  · rcases Nat.lt_or_ge c.toNat 48 with h1 | h1
    · rw [isD_low h1] at h; cases h
    · exact h1
  · rcases Nat.lt_or_ge 57 c.toNat with h1 | h1
    · rw [isD_high h1] at h; cases h
    · exact h1
theorem rd_take (s : ByteArray) (k : Nat) (hk : k < s.size) : vD (s.data.toList.take (k + 1)) = vD (s.data.toList.take k) * 10 + (s[k].toNat - 48) := by
  have hl : k < s.data.toList.length := by rw [Array.length_toList]; exact hk
  rw [vD_take _ _ hl]
  have := byte_at s k hk
  rw [List.getElem?_eq_getElem hl] at this
  rw [Option.some.inj this]
def Lies (w : World) (p : Nat) (o : Obj) : Prop := w.heap[p]? = some o
theorem dig_word (b : UInt8) (h : 48 ≤ b.toNat) : (BitVec.setWidth 64 (b.toBitVec - 48#8)).toNat = b.toNat - 48 := by
  have h1 : b.toBitVec.toNat = b.toNat := rfl
  have h2 := b.toBitVec.isLt
  rw [BitVec.toNat_setWidth, BitVec.toNat_sub]
  show (256 - 48 + b.toBitVec.toNat) % 256 % _ = _
  rw [h1] at *
  omega
theorem rd_all (s : ByteArray) : s.data.toList.take s.size = s.data.toList := List.take_of_length_le (by rw [Array.length_toList]; exact Nat.le_refl _)
theorem put4_T {w : World} {q : Nat} {T : TypeId} {u0 u1 u2 u3 : Value} (v0 v1 v2 v3 : Value) (h : w.heap[q]? = some (.cells #[u0, u1, u2, u3] T (0, 0))) :
    ((((w.setCell ⟨q, 0, none⟩ v0).setCell ⟨q, 1, none⟩ v1).setCell ⟨q, 2, none⟩ v2).setCell ⟨q, 3, none⟩ v3).heap[q]? = some (.cells #[v0, v1, v2, v3] T (0, 0)) :=
  heap_setCell_same _ _ 3 _ _ _ (heap_setCell_same _ _ 2 _ _ _ (heap_setCell_same _ _ 1 _ _ _ (heap_setCell_same _ _ 0 _ _ _ h)))
theorem put4_O {w : World} {q j : Nat} (v0 v1 v2 v3 : Value) (h : j ≠ q) : ((((w.setCell ⟨q, 0, none⟩ v0).setCell ⟨q, 1, none⟩ v1).setCell ⟨q, 2, none⟩ v2).setCell ⟨q, 3, none⟩ v3).heap[j]? = w.heap[j]? := by
  rw [heap_setCell_other _ _ _ _ h, heap_setCell_other _ _ _ _ h, heap_setCell_other _ _ _ _ h, heap_setCell_other _ _ _ _ h]
theorem ne_text {s : ByteArray} (h0 : 0 < s.size) : s.toList.isEmpty = false := by
  rw [ByteArray.toList_eq]
  cases hh : s.data.toList with
  | nil =>
    have := congrArg List.length hh
    rw [Array.length_toList] at this
    exact absurd h0 (by show ¬ 0 < s.data.size; rw [this]; decide)
  | cons a l => rfl
end Go.Bv
namespace Go.Proofs.YtgekdcedijbmaaaDoor
open Go.RowKit Go.Bv
set_option linter.unusedVariables false
set_option maxRecDepth 100000
theorem read_none (s : ByteArray) (h : s.size = 0) (w : World) : Calls Tryd.prog 6 #[.string s] w fun e w' => (∃ n0 n1 n2 n3 : BitVec 64, e = .returned (.tuple #[.agg #[.int .u64 (W64 n0), .int .u64 (W64 n1), .int .u64 (W64 n2), .int .u64 (W64 n3)], .int .i64 (rdE s)]) ∧ four n0 n1 n2 n3 = rdV s) ∧ New w w' := by
  have HE : Hid (rdE s = 3) := Lib.hid (by unfold rdE; rw [if_pos h])
  have HV : Hid (rdV s = 0) := Lib.hid (by unfold rdV; rw [HE.out]; rfl)
  have he : s = ⟨#[]⟩ := by
    apply ByteArray.ext
    exact Array.eq_empty_of_size_eq_zero h
  rw [HE.out, HV.out]
  subst he
  clear h HE HV
  go_enter Tryd.func6, Tryd.ntmps6
  go_wp2_with fail
  go_returns
  exact ⟨⟨0#64, 0#64, 0#64, 0#64, rfl, rfl⟩, (New.refl w).alloc _⟩
theorem read_form (s : ByteArray) (h0 : 0 < s.size) (hs : s.size ≤ 9223372036854775807) (h : plD s.data.toList = false) (w : World) : Calls Tryd.prog 6 #[.string s] w fun e w' => (∃ n0 n1 n2 n3 : BitVec 64, e = .returned (.tuple #[.agg #[.int .u64 (W64 n0), .int .u64 (W64 n1), .int .u64 (W64 n2), .int .u64 (W64 n3)], .int .i64 (rdE s)]) ∧ four n0 n1 n2 n3 = rdV s) ∧ New w w' := by
  have HE : Hid (rdE s = 5) := Lib.hid (by unfold rdE; rw [if_neg (by omega), if_pos h])
  have HV : Hid (rdV s = 0) := Lib.hid (by unfold rdV; rw [HE.out]; rfl)
  have HP := Lib.hid (fun w => plain_q s h0 hs w)
  rw [h] at HP
  have he : s.toList.isEmpty = false := ne_text h0
  rw [HE.out, HV.out]
  clear h h0 HE HV
  go_enter Tryd.func6, Tryd.ntmps6
  go_wp2_with fail
  refine (HP.out _).mono ?_
  rintro e w1 ⟨rfl, rfl⟩
  go_wp2_with fail
  go_returns
  exact ⟨⟨0#64, 0#64, 0#64, 0#64, rfl, rfl⟩, (New.refl w).alloc _⟩
set_option maxHeartbeats 8000000 in
theorem read_num (s : ByteArray) (h0 : 0 < s.size) (hs : s.size ≤ 9223372036854775807) (h : plD s.data.toList = true) (w : World) : Calls Tryd.prog 6 #[.string s] w fun e w' => (∃ n0 n1 n2 n3 : BitVec 64, e = .returned (.tuple #[.agg #[.int .u64 (W64 n0), .int .u64 (W64 n1), .int .u64 (W64 n2), .int .u64 (W64 n3)], .int .i64 (rdE s)]) ∧ four n0 n1 n2 n3 = rdV s) ∧ New w w' := by
  have HP := Lib.hid (fun w => plain_q s h0 hs w)
  rw [h] at HP
  have HPL := Lib.hid h
  have H0 := Lib.hid h0
  have he : s.toList.isEmpty = false := ne_text h0
  have HB0 := Lib.hid (blocks2T w (.cells #[.int .u64 0, .int .u64 0, .int .u64 0, .int .u64 0] 24) (.cells #[.int .u64 0, .int .u64 0, .int .u64 0, .int .u64 0] 24))
  clear h h0
  go_enter Tryd.func6, Tryd.ntmps6
  go_wp2_with fail
  refine (HP.out _).mono ?_
  rintro e w1 ⟨rfl, rfl⟩
  go_wp2_with fail
  go_loopw [16] (fun c wr => ∃ (k : Nat) (a0 a1 a2 a3 : BitVec 64), k ≤ s.size ∧ c = .int .i64 (k : Int) ∧ Hid (four a0 a1 a2 a3 = vD (s.data.toList.take k)) ∧ Hid (wr.heap[(w.heap.size + 1)]? = some (.cells #[.int .u64 (W64 a0), .int .u64 (W64 a1), .int .u64 (W64 a2), .int .u64 (W64 a3)] 24 (0, 0))) ∧ Hid (wr.heap[w.heap.size]? = some (.cells #[.int .u64 0, .int .u64 0, .int .u64 0, .int .u64 0] 24 (0, 0))) ∧ Hid (New w wr)) (fun c _ => s.size - (intOf c).toNat)
  case atStart => exact ⟨0, 0#64, 0#64, 0#64, 0#64, Nat.zero_le _, rfl, Lib.hid rfl, Lib.hid HB0.out.2.1, Lib.hid HB0.out.1, Lib.hid HB0.out.2.2⟩
  case round =>
    obtain ⟨k, a0, a1, a2, a3, hk, rfl, HV, HB, HZ, HN⟩ := hrel
    clear HB0
    by_cases hlt : (k : Int) < (s.size : Int)
    · have hin : k < s.size := by omega
      obtain ⟨d48, d57⟩ := rd_low (rd_dig HPL.out k hin)
      have HTK := Lib.hid (rd_take s k hin)
      obtain ⟨c0, hc0⟩ : ∃ c0 : BitVec 64, c0 = BitVec.setWidth 64 (s[k].toBitVec - 48#8) := ⟨_, rfl⟩
      have hc0n : c0.toNat = s[k].toNat - 48 := by rw [hc0]; exact dig_word _ d48
      obtain ⟨m0, m1, m2, m3, c1, c2, c3, c4, hap⟩ : ∃ m0 m1 m2 m3 c1 c2 c3 c4, Ap4 a0 a1 a2 a3 c0 m0 m1 m2 m3 c1 c2 c3 c4 := ⟨_, _, _, _, _, _, _, _, ⟨rfl, rfl, rfl, rfl, rfl, rfl, rfl, rfl⟩⟩
      have HAP := Lib.hid (fun w => append_10 a0 a1 a2 a3 c0 m0 m1 m2 m3 c1 c2 c3 c4 hap w)
      rw [hc0] at HAP
      have his := hap.is
      rw [HV.out, hc0n, ← HTK.out] at his
      obtain ⟨ob, hob⟩ : ∃ ob : Bool, ob = (c4 != 0#64) := ⟨_, rfl⟩
      rw [← hob] at HAP
      have HOB := Lib.hid hob
      have HIS := Lib.hid his
      have hb8 : ((s[k].toNat : Int) - 48) % 256 = (s[k].toNat : Int) - 48 := by omega
      have hwr : wrap64 ((k : Int) + 1) = (k : Int) + 1 := by unfold wrap64; omega
      have HKS := Lib.hid hin
      clear his hap hob hc0 hc0n HTK hk
      go_wp2_with fail
      refine Gro3.wp_region_gro3S (fun w' => (∃ u0 u1 u2 u3 : Value, w'.heap[(w.heap.size + 1)]? = some (.cells #[u0, u1, u2, u3] 24 (0, 0))) ∧ w'.heap[w.heap.size]? = some (.cells #[.int .u64 0, .int .u64 0, .int .u64 0, .int .u64 0] 24 (0, 0)) ∧ New w w') (fun w' => w'.heap[(w.heap.size + 1)]? = some (.cells #[.int .u64 (W64 a0), .int .u64 (W64 a1), .int .u64 (W64 a2), .int .u64 (W64 a3)] 24 (0, 0)) ∧ w'.heap[w.heap.size]? = some (.cells #[.int .u64 0, .int .u64 0, .int .u64 0, .int .u64 0] 24 (0, 0)) ∧ New w w') [1,0,0,0,0,0,2,0,0,0,3,0] New (fun _ _ _ => True) (by kernel_rfl) (by kernel_rfl) (by kernel_rfl) (fun _ _ _ _ _ _ => trivial) (fun w' hw' => ⟨⟨_, _, _, _, hw'.1⟩, hw'.2.1, hw'.2.2⟩) (⟨HB.out, HZ.out, HN.out.drew⟩) ?_
      intro I J _ _ f g hfa hba hgb hbb
      have HFA := Lib.hid hfa
      have HBA := Lib.hid hba
      have HGB := Lib.hid hgb
      have HBB := Lib.hid hbb
      have fb0 := fun n => cell_of_row _ _ 0 _ _ _ (hgb n).1
      have fb1 := fun n => cell_of_row _ _ 1 _ _ _ (hgb n).1
      have fb2 := fun n => cell_of_row _ _ 2 _ _ _ (hgb n).1
      have fb3 := fun n => cell_of_row _ _ 3 _ _ _ (hgb n).1
      clear hfa hba hgb hbb
      refine Gro3.take1 1 (by kernel_rfl) ?_
      simp only [List.take, List.drop, List.length]
      repeat (go_big_quiet_step (fail))
      refine wpQuiet_nil ?_
      refine Gro3.take0 5 (by kernel_rfl) ?_
      simp only [List.take, List.drop, List.length]
      repeat (go_big_quiet_step (fail))
      refine wpQuiet_nil ?_
      refine Gro3.callt (fun v => v = .tuple #[.agg #[.int .u64 (W64 m0), .int .u64 (W64 m1), .int .u64 (W64 m2), .int .u64 (W64 m3)], .bool ob]) (fun _ _ => True) rfl rfl (⟨_, rfl⟩) (fun _ _ _ _ _ => trivial) (fun w1 hB hG => ?_) (fun v1 A1 hv1 hA => ?_)
      · obtain ⟨nq, rfl⟩ := hB
        clear fb0 fb1 fb2 fb3
        go_simp
        refine (HAP.out _).mono ?_
        rintro e w2 ⟨rfl, hn⟩
        have HX := HBB.out _ ⟨(hn.block _ (lt_of_block (HGB.out nq).1)).trans (HGB.out nq).1, (hn.block _ (lt_of_block (HGB.out nq).2.1)).trans (HGB.out nq).2.1, (HGB.out nq).2.2.trans hn⟩
        first | exact ⟨_, rfl, HX, hn, rfl⟩ | exact ⟨_, rfl, HX, hn, rfl, trivial⟩ | exact ⟨HX, hn⟩ | exact ⟨rfl, HX, hn⟩
      simp [Act.put] at hA
      subst hA
      obtain rfl := hv1
      refine Gro3.take0 3 (by kernel_rfl) ?_
      simp only [List.take, List.drop, List.length]
      repeat (go_big_quiet_step (fail))
      refine wpQuiet_nil ?_
      refine Gro3.turn (fun v => v = undef) (fun _ w9 => Lies w9 (w.heap.size + 1) (.cells #[.int .u64 (W64 m0), .int .u64 (W64 m1), .int .u64 (W64 m2), .int .u64 (W64 m3)] 24 (0, 0))) rfl rfl ⟨_, rfl⟩ (fun w1 hB hG => ?_) (fun v2 A2 hv2 hA => ?_)
      · obtain ⟨nq, rfl⟩ : ∃ nq, w1 = g nq := hB
        have HX := Lib.hid (HGB.out nq)
        have c0 := cell_of_row _ _ 0 _ _ _ HX.out.1
        have c1 := cell_of_row _ _ 1 _ _ _ HX.out.1
        have c2 := cell_of_row _ _ 2 _ _ _ HX.out.1
        have c3 := cell_of_row _ _ 3 _ _ _ HX.out.1
        have cf := fun i => frozen_of_row _ _ i _ _ HX.out.1
        have HPT := Lib.hid (put4_T (.int .u64 (W64 m0)) (.int .u64 (W64 m1)) (.int .u64 (W64 m2)) (.int .u64 (W64 m3)) HX.out.1)
        have HPO := Lib.hid (fun j (hj : j ≠ (w.heap.size + 1)) => put4_O (w := g nq) (q := (w.heap.size + 1)) (j := j) (.int .u64 (W64 m0)) (.int .u64 (W64 m1)) (.int .u64 (W64 m2)) (.int .u64 (W64 m3)) hj)
        have HPN := Lib.hid (put4_factsT (.int .u64 (W64 m0)) (.int .u64 (W64 m1)) (.int .u64 (W64 m2)) (.int .u64 (W64 m3)) HX.out.1)
        have HLI := Lib.hid (show Lies _ _ _ from HPT.out)
        clear fb0 fb1 fb2 fb3
        go_simp
        exact ⟨HBA.out _ ⟨⟨_, _, _, _, HLI.out⟩, (HPO.out w.heap.size (by omega)).trans HX.out.2.1, HPN.out _ HX.out.2.2 (by omega)⟩, HLI.out⟩
      simp [Act.put] at hA
      subst hA
      refine Gro3.take0 1 (by kernel_rfl) ?_
      simp only [List.take, List.drop, List.length]
      repeat (go_big_quiet_step (fail))
      refine wpQuiet_nil ?_
      refine Gro3.nil ?_
      rintro w11 ⟨n9, rfl⟩ hG
      have HRZ := Lib.hid (show (f n9).heap[(w.heap.size + 1)]? = _ from hG)
      have HZ9 := Lib.hid (HFA.out n9).2.1
      have HN9 := Lib.hid (HFA.out n9).2.2
      clear HFA HBA HGB HBB hG fb0 fb1 fb2 fb3 HAP
      generalize f n9 = w11 at *
      cases ob
      · have hov : c4 = 0#64 := by have h := HOB.out.symm; rw [bne_eq_false_iff_eq] at h; exact h
        have HV2 : Hid (four m0 m1 m2 m3 = vD (s.data.toList.take (k + 1))) := Lib.hid (by rw [HIS.out, hov]; show _ = _ + 2 ^ 256 * 0; rw [Nat.mul_zero, Nat.add_zero])
        clear hov HOB
        go_wp2
        exact ⟨⟨k + 1, m0, m1, m2, m3, HKS.out, by rw [Int.natCast_add]; rfl, HV2, HRZ, HZ9, HN9⟩, by have := HKS.out; simp [intOf]; omega⟩
      · have hov : ¬ c4 = 0#64 := by have h := HOB.out.symm; rw [bne_iff_ne] at h; exact h
        have hbig : 2 ^ 256 ≤ vD s.data.toList := by
          have h1 := vD_mono s.data.toList (k + 1)
          rw [HIS.out] at h1
          have h2 : 1 ≤ c4.toNat := by
            rcases Nat.eq_zero_or_pos c4.toNat with h | h
            · exact absurd (BitVec.eq_of_toNat_eq h) hov
            · exact h
          have h3 : 2 ^ 256 * 1 ≤ 2 ^ 256 * c4.toNat := Nat.mul_le_mul_left _ h2
          rw [Nat.mul_one] at h3
          exact Nat.le_trans h3 (Nat.le_trans (Nat.le_add_left _ _) h1)
        have HE : Hid (rdE s = 9) := Lib.hid (by unfold rdE; rw [if_neg (by have := H0.out; omega), if_neg (by rw [HPL.out]; decide), if_pos hbig])
        have HVZ : Hid (rdV s = 0) := Lib.hid (by unfold rdV; rw [HE.out]; rfl)
        have z0 := cell_of_row _ _ 0 _ _ _ HZ9.out
        have z1 := cell_of_row _ _ 1 _ _ _ HZ9.out
        have z2 := cell_of_row _ _ 2 _ _ _ HZ9.out
        have z3 := cell_of_row _ _ 3 _ _ _ HZ9.out
        have zf := fun j => frozen_of_row _ _ j _ _ HZ9.out
        have HF4 := Lib.hid (put4_factsT (.int .u64 0) (.int .u64 0) (.int .u64 0) (.int .u64 0) HZ9.out)
        clear hov hbig HOB
        go_wp2_with fail
        refine bodyPost_ret (by simp [results, Tryd.results6, go_sem, z0, z1, z2, z3]; try rfl) rfl ?_
        rw [HE.out, HVZ.out]
        exact ⟨⟨0#64, 0#64, 0#64, 0#64, rfl, rfl⟩, HF4.out w HN9.out (Nat.le_refl _)⟩
    · obtain rfl : k = s.size := by omega
      have hv : four a0 a1 a2 a3 = vD s.data.toList := by rw [HV.out, rd_all]
      have hsm : ¬ 2 ^ 256 ≤ vD s.data.toList := by rw [← hv]; exact Nat.not_le.2 (four_lt a0 a1 a2 a3)
      have HE : Hid (rdE s = 0) := Lib.hid (by unfold rdE; rw [if_neg (by have := H0.out; omega), if_neg (by rw [HPL.out]; decide), if_neg hsm])
      have HVV : Hid (four a0 a1 a2 a3 = rdV s) := Lib.hid (by unfold rdV; rw [if_pos HE.out]; exact hv)
      have k0 := cell_of_row _ _ 0 _ _ _ HB.out
      have k1 := cell_of_row _ _ 1 _ _ _ HB.out
      have k2 := cell_of_row _ _ 2 _ _ _ HB.out
      have k3 := cell_of_row _ _ 3 _ _ _ HB.out
      have z0 := cell_of_row _ _ 0 _ _ _ HZ.out
      have z1 := cell_of_row _ _ 1 _ _ _ HZ.out
      have z2 := cell_of_row _ _ 2 _ _ _ HZ.out
      have z3 := cell_of_row _ _ 3 _ _ _ HZ.out
      have zf := fun j => frozen_of_row _ _ j _ _ HZ.out
      have HF4 := Lib.hid (put4_factsT (.int .u64 (W64 a0)) (.int .u64 (W64 a1)) (.int .u64 (W64 a2)) (.int .u64 (W64 a3)) HZ.out)
      clear hv hsm hlt hk
      go_wp2_with fail
      refine bodyPost_ret (by simp [results, Tryd.results6, go_sem, z0, z1, z2, z3]; try rfl) rfl ?_
      rw [HE.out]
      exact ⟨⟨a0, a1, a2, a3, rfl, HVV.out⟩, HF4.out w HN.out (Nat.le_refl _)⟩
theorem read_4 (s : ByteArray) (hs : s.size ≤ 9223372036854775807) (w : World) : Calls Tryd.prog 6 #[.string s] w fun e w' => (∃ n0 n1 n2 n3 : BitVec 64, e = .returned (.tuple #[.agg #[.int .u64 (W64 n0), .int .u64 (W64 n1), .int .u64 (W64 n2), .int .u64 (W64 n3)], .int .i64 (rdE s)]) ∧ four n0 n1 n2 n3 = rdV s) ∧ New w w' := by
  rcases Nat.eq_zero_or_pos s.size with h | h
  · exact read_none s h w
  cases hp : plD s.data.toList
  · exact read_form s h hs hp w
  · exact read_num s h hs hp w
end Go.Proofs.YtgekdcedijbmaaaDoor
