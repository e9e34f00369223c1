/- poly.collect with its closures. -/
import Derived.Test.YtdjlbpgjbgepdaaGreatPolA
import Derived.Deep.OwnRows
import Derived.WalkMore
import Derived.ScopeJumps
namespace Go.Proofs.YtdjlbpgjbgepdaaGreat
open Go.RowKit Go.Bv
set_option linter.unusedVariables false
theorem info_u64q : (Tryz.prog.info? 23).map (fun i => (i.zero, i.size, i.bytes)) = some (some (.int .u64 0), 1, 8) := by kernel_rfl
theorem made_q (m : Nat) (f : Nat → BitVec 64) : (madeCells #[Value.int .u64 0] m).size = m ∧ ∀ j, j < m → (madeCells #[Value.int .u64 0] m)[j]? = some (.int .u64 (W64 (if j < 0 then f j else 0#64))) := by
  refine ⟨size_madeCells _ _, fun j hj => ?_⟩
  rw [if_neg (by omega), ← Array.getElem?_toList, toList_madeCells_one, List.getElem?_replicate, if_pos hj, lo_zero]
set_option maxRecDepth 100000 in
set_option maxHeartbeats 4000000 in
theorem collect_T (n : Nat) (f : Nat → BitVec 64) (p : Nat) (w : World) (hn : n ≤ 17592186044416) (hh : ∀ (w' : World) (i : Nat), New w w' → i < n → Calls Tryz.prog 179 #[.int .i64 (i : Int), .pointer (some ⟨p, 0, none⟩)] w' fun e w'' => e = .returned (.int .u64 (W64 (f i))) ∧ New w' w'') :
    Calls Tryz.prog 178 #[.int .i64 (n : Int), .func (Fn.func 179) #[] #[.pointer (some ⟨p, 0, none⟩)]] w fun e w' => ∃ a c, e = .returned (.slice a (topF f n : Nat) c) ∧ QRow w' a (topF f n) c (trimF f n) ∧ New w w' := by
  obtain ⟨i0, hi, hz0, hz1, hz2⟩ := info_parts info_u64q
  have H := Lib.hid hh
  have HTG : Hid (∀ i, i < topF f n → f i = (trimF f n).getD i 0) := Lib.hid (fun i hi => by
    unfold trimF
    rw [List.getD_eq_getElem?_getD, List.getElem?_map, List.getElem?_range hi]; rfl)
  clear hh
  go_enter Tryz.func178, Tryz.ntmps178
  go_wp2_with fail
  go_step3
  go_wp2_with fail
  go_step3
  go_wp2_with fail
  go_loopw [0] (fun mv wr => ∃ m : Nat, m ≤ n ∧ mv = .int .i64 (m : Int) ∧ topF f n = topF f m ∧ New w wr) (fun mv _ => (intOf mv).toNat)
  case atStart => exact ⟨n, Nat.le_refl _, rfl, rfl, New.refl w⟩
  case round =>
    obtain ⟨m, hm, rfl, htop, hnw⟩ := hrel
    have HT := Lib.hid htop
    have HN := Lib.hid hnw
    have HMN := Lib.hid hm
    clear htop hnw
    by_cases hpos : (0 : Int) < (m : Int)
    · have HF := Lib.hid (H.out wr (m - 1) HN.out (by omega))
      have hm1 : ((m - 1 : Nat) : Int) = (m : Int) - 1 := by omega
      rw [hm1] at HF
      have hmw : wrap64 ((m : Int) - 1) = (m : Int) - 1 := by unfold wrap64; omega
      by_cases hf0 : f (m - 1) = 0#64
      · rw [hf0, lo_zero] at HF
        have HTT : Hid (topF f n = topF f (m - 1)) := Lib.hid (by
          rw [HT.out, show m = (m - 1) + 1 by omega, show m - 1 + 1 - 1 = m - 1 by omega]
          show (if f (m - 1) = 0#64 then topF f (m - 1) else m - 1 + 1) = _
          rw [if_pos hf0])
        clear hf0
        go_wp2_with fail
        refine (HF.out).mono ?_
        rintro e w9 ⟨rfl, hn9⟩
        replace HN := Lib.hid (HN.out.trans hn9)
        clear hn9 HF
        go_wp2
        exact ⟨⟨m - 1, by omega, by rw [hm1], HTT.out, HN.out⟩, by simp [intOf]; omega⟩
      · have HTT : Hid (topF f n = m) := Lib.hid (by
          rw [HT.out, show m = (m - 1) + 1 by omega]
          show (if f (m - 1) = 0#64 then topF f (m - 1) else m - 1 + 1) = _
          rw [if_neg hf0])
        have hne : (f (m - 1) == 0#64) = false := by rw [beq_eq_false_iff_ne]; exact hf0
        clear hf0
        obtain ⟨y, hy⟩ : ∃ z, f (m - 1) = z := ⟨_, rfl⟩
        rw [hy] at HF hne
        clear hy HT
        have hne2 : (y != 0#64) = true := by rw [bne, hne]; rfl
        go_wp2_with fail
        refine (HF.out).mono ?_
        rintro e w9 ⟨rfl, hn9⟩
        replace HN := Lib.hid (HN.out.trans hn9)
        clear hn9 HF
        go_wp2_with fail
        clear hne hne2 hmw hm1
        obtain ⟨W1, hW1⟩ : ∃ z, z = w9 := ⟨_, rfl⟩
        rw [← hW1] at HN ⊢
        clear hW1
        have hmk := run_make_row (P := Tryz.prog) 28 23 i0 (.int .u64 0) Tryz.underlying28 hi hz0 hz1 rfl .i64 .i64 m (by rw [hz2]; omega) (by omega) W1
        have HM := Lib.hid (made_q m f)
        have hmk1 : Hid (∀ t : Int, t = ((m : Nat) : Int) → (Instr.makeSlice 28 (.int .i64 t) (.int .i64 t)).run Tryz.prog W1 = .ok (.slice (some ⟨W1.heap.size, 0, none⟩) m m) (W1.alloc (.cells (madeCells #[.int .u64 0] m) 23))) := Lib.hid (by rintro t rfl; exact hmk)
        clear hmk
        rw [hmk1.out _ rfl]
        go_wp2
        go_loopw [20] (fun iv wq => ∃ (k : Nat) (cs : Array Value), k ≤ m ∧ iv = .int .i64 (k : Int) ∧ wq.heap[W1.heap.size]? = some (.cells cs 23 (0, 0)) ∧ Hid (cs.size = m ∧ ∀ j, j < m → cs[j]? = some (.int .u64 (W64 (if j < k then f j else 0#64)))) ∧ New W1 wq) (fun iv _ => m - (intOf iv).toNat)
        case atStart => exact ⟨0, _, Nat.zero_le _, rfl, heap_alloc_new _ _, HM, (New.refl W1).alloc _⟩
        case round =>
          obtain ⟨k, cs, hk, rfl, hb1, HCS, hn2⟩ := hrel
          have HB1 := Lib.hid hb1
          have HN2 := Lib.hid hn2
          obtain ⟨wq, hwq⟩ : ∃ z, z = wr := ⟨_, rfl⟩
          rw [← hwq] at HB1 HN2 ⊢
          clear hb1 hn2 hwq
          by_cases hlt : (k : Int) < ((m : Nat) : Int)
          · have HTK := Lib.hid (H.out wq k (HN.out.trans HN2.out) (by omega))
            obtain ⟨y, hy⟩ : ∃ z, f k = z := ⟨_, rfl⟩
            rw [hy] at HTK
            have HY := Lib.hid hy
            clear hy
            have hk0 : (0 : Int) ≤ (k : Int) := by omega
            go_wp2_with fail
            refine (HTK.out).mono ?_
            rintro e w9 ⟨rfl, hn3⟩
            replace HB1 := Lib.hid ((hn3.block _ (lt_of_block HB1.out)).trans HB1.out)
            replace HN2 := Lib.hid (HN2.out.trans hn3)
            clear hn3 HTK
            have hcell : w9.cell? ⟨W1.heap.size, k, none⟩ = some (.int .u64 (W64 (if k < k then f k else 0#64))) := by
              rw [cell_of_row _ _ _ _ _ _ HB1.out]; exact HCS.out.2 k (by omega)
            have hfree := frozen_of_row w9 W1.heap.size k cs _ HB1.out
            have hd := heap_setCell_same w9 W1.heap.size k cs _ (.int .u64 (W64 y)) HB1.out
            have HD := Lib.hid hd
            clear hd
            go_wp2
            refine ⟨⟨k + 1, _, by omega, by go_num, HD.out, Lib.hid ⟨by rw [Array.size_setIfInBounds]; exact HCS.out.1, ?_⟩, HN2.out.setCell (Nat.le_refl _) _⟩, by simp [intOf]; omega⟩
            intro j hj
            have hs := HCS.out.1
            rw [Array.getElem?_setIfInBounds]
            by_cases e : k = j
            · subst e
              rw [if_pos rfl, if_pos (by omega), if_pos (by omega), HY.out]
            · rw [if_neg e, HCS.out.2 j hj]
              refine congrArg (fun d => some (Value.int .u64 (W64 d))) ?_
              by_cases e2 : j < k
              · rw [if_pos e2, if_pos (by omega)]
              · rw [if_neg e2, if_neg (by omega)]
          · have hkm : k = m := by omega
            go_wp2
            go_ret
            have HMM := HTT.out
            rw [HMM]
            refine ⟨_, _, rfl, ?_, HN.out.trans HN2.out⟩
            refine ⟨by rw [trimF_len]; exact HMM, Nat.le_refl _, by omega, by omega, (fun e => by cases e), ?_, ?_, ?_⟩
            · intro b off e i hi
              cases e
              rw [Nat.zero_add, cell_of_row _ _ _ _ _ _ HB1.out, HCS.out.2 i hi, if_pos (by omega), HTG.out i (by rw [HMM]; exact hi)]
            · intro x e h; cases e; rfl
            · intro x e h; cases e; exact lt_of_block HB1.out
    · obtain rfl : m = 0 := by omega
      have HTT : Hid (topF f n = 0) := Lib.hid (by rw [HT.out]; rfl)
      clear HT
      go_wp2_with fail
      obtain ⟨W1, hW1⟩ : ∃ z, z = wr := ⟨_, rfl⟩
      rw [← hW1] at HN ⊢
      clear hW1
      have hmk := run_make_row (P := Tryz.prog) 28 23 i0 (.int .u64 0) Tryz.underlying28 hi hz0 hz1 rfl .i64 .i64 0 (by rw [hz2]; omega) (by omega) W1
      have HM := Lib.hid (made_q 0 f)
      have hmk1 : Hid (∀ t : Int, t = ((0 : Nat) : Int) → (Instr.makeSlice 28 (.int .i64 t) (.int .i64 t)).run Tryz.prog W1 = .ok (.slice (some ⟨W1.heap.size, 0, none⟩) 0 0) (W1.alloc (.cells (madeCells #[.int .u64 0] 0) 23))) := Lib.hid (by rintro t rfl; exact hmk)
      clear hmk
      rw [hmk1.out 0 rfl]
      go_wp2
      go_loopw [20] (fun iv wq => ∃ (k : Nat) (cs : Array Value), k ≤ 0 ∧ iv = .int .i64 (k : Int) ∧ wq.heap[W1.heap.size]? = some (.cells cs 23 (0, 0)) ∧ Hid (cs.size = 0 ∧ ∀ j, j < 0 → cs[j]? = some (.int .u64 (W64 (if j < k then f j else 0#64)))) ∧ New W1 wq) (fun iv _ => 0 - (intOf iv).toNat)
      case atStart => exact ⟨0, _, Nat.zero_le _, rfl, heap_alloc_new _ _, HM, (New.refl W1).alloc _⟩
      case round =>
        obtain ⟨k, cs, hk, rfl, hb1, HCS, hn2⟩ := hrel
        have HB1 := Lib.hid hb1
        have HN2 := Lib.hid hn2
        obtain ⟨wq, hwq⟩ : ∃ z, z = wr := ⟨_, rfl⟩
        rw [← hwq] at HB1 HN2 ⊢
        clear hb1 hn2 hwq
        by_cases hlt : (k : Int) < ((0 : Nat) : Int)
        · exfalso; omega
        · have hkm : k = 0 := by omega
          go_wp2
          go_ret
          have HMM := HTT.out
          rw [HMM]
          refine ⟨_, _, rfl, ?_, HN.out.trans HN2.out⟩
          refine ⟨by rw [trimF_len]; exact HMM, Nat.le_refl _, by omega, by omega, (fun e => by cases e), ?_, ?_, ?_⟩
          · intro b off e i hi
            cases e
            rw [Nat.zero_add, cell_of_row _ _ _ _ _ _ HB1.out, HCS.out.2 i hi, if_pos (by omega), HTG.out i (by rw [HMM]; exact hi)]
          · intro x e h; cases e; rfl
          · intro x e h; cases e; exact lt_of_block HB1.out
end Go.Proofs.YtdjlbpgjbgepdaaGreat
