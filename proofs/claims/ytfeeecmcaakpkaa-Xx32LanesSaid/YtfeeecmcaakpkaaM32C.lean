/- Layer 32: the document's own From. -/
import Derived.Test.YtfeeecmcaakpkaaM32R
import Derived.Defers
import Derived.Recover
import Derived.Laws.Pointers
import Derived.Handy
import Derived.Laws.EntriesVeiled
import Derived.LoopN
namespace Go.Proofs.Ytfeeecmcaakpkaa
open Go.RowKit Go.Bv
set_option linter.unusedVariables false
theorem rd_take32 (l : List (BitVec 8)) (n k m : Nat) (h : k + m ≤ n) : rd (l.take n) k m = rd l k m := by
  unfold rd
  exact num_congr m (fun i hi => by simp [List.getD_eq_getElem?_getD, show k + i < n by omega])
def lenOf32 : Value → Nat
  | .slice _ n _ => n
  | _ => 0
theorem sw32 (s : BitVec 32) : (s.setWidth 64).setWidth 32 = s := by
  apply BitVec.eq_of_toNat_eq
  rw [BitVec.toNat_setWidth, BitVec.toNat_setWidth]
  have := s.isLt
  omega
theorem three_blocks (w : World) (A B C : Obj) : (((w.alloc A).alloc B).alloc C).heap[w.heap.size + 1]? = some B ∧ (((w.alloc A).alloc B).alloc C).heap[w.heap.size + 1 + 1]? = some C ∧ New w (((w.alloc A).alloc B).alloc C) := by
  have h := two_blocks w A B
  have e2 : ((w.alloc A).alloc B).heap.size = w.heap.size + 1 + 1 := by simp
  refine ⟨?_, ?_, h.2.2.alloc _⟩
  · rw [((New.refl ((w.alloc A).alloc B)).alloc C).block _ (by rw [e2]; omega)]; exact h.2.1
  · rw [← e2]; exact heap_alloc_new _ _
set_option maxRecDepth 100000 in
set_option maxHeartbeats 8000000 in
theorem from_ref32 (s : BitVec 32 × BitVec 32 × BitVec 32 × BitVec 32) (a : Option Addr) (n c : Nat) (l : List (BitVec 8)) (w : World) (h : BRow w a n c l) :
    Calls Try.prog 47 #[.agg #[.int .u64 (W64 ((s).1.setWidth 64)), .int .u64 (W64 ((s).2.1.setWidth 64)), .int .u64 (W64 ((s).2.2.1.setWidth 64)), .int .u64 (W64 ((s).2.2.2.setWidth 64))], .slice a n c] w fun e w' => ∃ a' c', e = .returned (.tuple #[.agg #[.int .u64 (W64 ((bState 16 stp32 s l).1.setWidth 64)), .int .u64 (W64 ((bState 16 stp32 s l).2.1.setWidth 64)), .int .u64 (W64 ((bState 16 stp32 s l).2.2.1.setWidth 64)), .int .u64 (W64 ((bState 16 stp32 s l).2.2.2.setWidth 64))], .slice a' (n % 16 : Nat) c']) ∧ BRow w' a' (n % 16) c' (bTail 16 l) ∧ New w w' := by
  have H := Lib.hid h
  have HL := Lib.hid h.len_eq
  clear h
  have sw0 := sw32 s.1
  have sw1 := sw32 s.2.1
  have sw2 := sw32 s.2.2.1
  have sw3 := sw32 s.2.2.2
  have HZ := Lib.hid (three_blocks w (.cells #[.int .u64 (W64 ((s).1.setWidth 64)), .int .u64 (W64 ((s).2.1.setWidth 64)), .int .u64 (W64 ((s).2.2.1.setWidth 64)), .int .u64 (W64 ((s).2.2.2.setWidth 64))] 36) (.cells #[.int .u64 0, .int .u64 0, .int .u64 0, .int .u64 0] 36) (.cells #[.int .u32 (W32 (s.1)), .int .u32 (W32 (s.2.1)), .int .u32 (W32 (s.2.2.1)), .int .u32 (W32 (s.2.2.2))] 55))
  go_enter Try.func47, Try.ntmps47
  go_wp2
  go_loopw [1] (fun sl wr => ∃ (a2 : Option Addr) (n2 c2 : Nat) (l2 : List (BitVec 8)) (s2 : BitVec 32 × BitVec 32 × BitVec 32 × BitVec 32), sl = .slice a2 n2 c2 ∧ BRow w a2 n2 c2 l2 ∧ bState 16 stp32 s2 l2 = bState 16 stp32 s l ∧ bTail 16 l2 = bTail 16 l ∧ n2 % 16 = n % 16 ∧ wr.heap[w.heap.size + 1]? = some (.cells #[.int .u64 0, .int .u64 0, .int .u64 0, .int .u64 0] 36 (0, 0)) ∧ wr.heap[(w.heap.size + 1 + 1)]? = some (.cells #[.int .u32 (W32 (s2.1)), .int .u32 (W32 (s2.2.1)), .int .u32 (W32 (s2.2.2.1)), .int .u32 (W32 (s2.2.2.2))] 55 (0, 0)) ∧ New w wr) (fun sl _ => lenOf32 sl)
  case atStart => exact ⟨a, n, c, l, s, rfl, H.out, rfl, rfl, rfl, HZ.out.1, HZ.out.2.1, HZ.out.2.2⟩
  case round =>
    clear sw0 sw1 sw2 sw3 HZ
    obtain ⟨aa, n2, c2, l2, s2, rfl, hrow, hs, ht, hm, hz, hvb, hn⟩ := hrel
    have HR := Lib.hid hrow
    have HS := Lib.hid hs
    have HT := Lib.hid ht
    have HM := Lib.hid hm
    have HZZ := Lib.hid hz
    have HV := Lib.hid hvb
    have HN := Lib.hid hn
    have hle := hrow.le
    have hlen := hrow.len_eq
    have hmost := hrow.most
    have hroom := hrow.room
    clear hrow hs ht hm hz hn hvb
    by_cases hlt : (16 : Int) ≤ (n2 : Int)
    · obtain ⟨b, off, rfl, _⟩ := HR.out.addr (by omega)
      have hst := bState_step 16 (by decide) stp32 s2 l2 (by omega)
      have htl := bTail_step 16 (by decide) l2 (by omega)
      obtain ⟨a0, a1, a2, a3⟩ := s2
      have hstp : stp32 (a0, a1, a2, a3) (l2.take 16) = (rnd32 a0 ((rd l2 0 4).setWidth 32), rnd32 a1 ((rd l2 4 4).setWidth 32), rnd32 a2 ((rd l2 8 4).setWidth 32), rnd32 a3 ((rd l2 12 4).setWidth 32)) := by
        unfold stp32
        rw [rd_take32 l2 16 0 4 (by omega), rd_take32 l2 16 4 4 (by omega), rd_take32 l2 16 8 4 (by omega), rd_take32 l2 16 12 4 (by omega)]
      rw [hstp] at hst
      clear hstp
      unfold rnd32 at hst
      have HK0 := Lib.hid (fun w' (hn : New w w') => num_ref (some ⟨b, off, none⟩) n2 c2 l2 0 4 w' (HR.out.stay hn) (by omega) (by omega))
      obtain ⟨k0, hk⟩ : ∃ z, rd l2 0 4 = z := ⟨_, rfl⟩
      rw [hk] at HK0 hst
      clear hk
      have HQ0 := Lib.hid (rot32r_n (a0 + k0.setWidth 32 * 2246822519#32) 13 (by decide))
      obtain ⟨r0, hr⟩ : ∃ z, (a0 + k0.setWidth 32 * 2246822519#32).rotateLeft 13 = z := ⟨_, rfl⟩
      rw [hr] at HQ0 hst
      clear hr
      obtain ⟨m0, hm⟩ : ∃ z, r0 * 2654435761#32 = z := ⟨_, rfl⟩
      rw [hm] at hst
      have HM0 := Lib.hid hm
      clear hm
      have HK1 := Lib.hid (fun w' (hn : New w w') => num_ref (some ⟨b, off, none⟩) n2 c2 l2 4 4 w' (HR.out.stay hn) (by omega) (by omega))
      obtain ⟨k1, hk⟩ : ∃ z, rd l2 4 4 = z := ⟨_, rfl⟩
      rw [hk] at HK1 hst
      clear hk
      have HQ1 := Lib.hid (rot32r_n (a1 + k1.setWidth 32 * 2246822519#32) 13 (by decide))
      obtain ⟨r1, hr⟩ : ∃ z, (a1 + k1.setWidth 32 * 2246822519#32).rotateLeft 13 = z := ⟨_, rfl⟩
      rw [hr] at HQ1 hst
      clear hr
      obtain ⟨m1, hm⟩ : ∃ z, r1 * 2654435761#32 = z := ⟨_, rfl⟩
      rw [hm] at hst
      have HM1 := Lib.hid hm
      clear hm
      have HK2 := Lib.hid (fun w' (hn : New w w') => num_ref (some ⟨b, off, none⟩) n2 c2 l2 8 4 w' (HR.out.stay hn) (by omega) (by omega))
      obtain ⟨k2, hk⟩ : ∃ z, rd l2 8 4 = z := ⟨_, rfl⟩
      rw [hk] at HK2 hst
      clear hk
      have HQ2 := Lib.hid (rot32r_n (a2 + k2.setWidth 32 * 2246822519#32) 13 (by decide))
      obtain ⟨r2, hr⟩ : ∃ z, (a2 + k2.setWidth 32 * 2246822519#32).rotateLeft 13 = z := ⟨_, rfl⟩
      rw [hr] at HQ2 hst
      clear hr
      obtain ⟨m2, hm⟩ : ∃ z, r2 * 2654435761#32 = z := ⟨_, rfl⟩
      rw [hm] at hst
      have HM2 := Lib.hid hm
      clear hm
      have HK3 := Lib.hid (fun w' (hn : New w w') => num_ref (some ⟨b, off, none⟩) n2 c2 l2 12 4 w' (HR.out.stay hn) (by omega) (by omega))
      obtain ⟨k3, hk⟩ : ∃ z, rd l2 12 4 = z := ⟨_, rfl⟩
      rw [hk] at HK3 hst
      clear hk
      have HQ3 := Lib.hid (rot32r_n (a3 + k3.setWidth 32 * 2246822519#32) 13 (by decide))
      obtain ⟨r3, hr⟩ : ∃ z, (a3 + k3.setWidth 32 * 2246822519#32).rotateLeft 13 = z := ⟨_, rfl⟩
      rw [hr] at HQ3 hst
      clear hr
      obtain ⟨m3, hm⟩ : ∃ z, r3 * 2654435761#32 = z := ⟨_, rfl⟩
      rw [hm] at hst
      have HM3 := Lib.hid hm
      clear hm
      have HST := Lib.hid (hst.symm.trans HS.out)
      have HTL := Lib.hid (htl.symm.trans HT.out)
      clear hst htl
      have hmod : (n2 - 16) % 16 = n2 % 16 := by omega
      have HMD := Lib.hid (hmod.trans HM.out)
      have hi1 : (16 : Int) ≤ (c2 : Int) := by omega
      have hlc : (n2 : Int) ≤ (c2 : Int) := by omega
      clear hmod
      by_cases hcm : c2 = 16
      · obtain rfl : n2 = 16 := by omega
        subst hcm
        have HR0 := Lib.hid (row_end HR.out)
        go_wp2_with fail
        refine wp_loop_rounds 5 ?_
        rw [rounds_succ]
        go_wp2_with fail
        refine Gro3.wp_region_gro3S (fun w' => (∃ u0 u1 u2 u3 : Value, w'.heap[(w.heap.size + 1 + 1)]? = some (.cells #[u0, u1, u2, u3] 55 (0, 0))) ∧ w'.heap[w.heap.size + 1]? = some (.cells #[.int .u64 0, .int .u64 0, .int .u64 0, .int .u64 0] 36 (0, 0)) ∧ New w w') (fun w' => w'.heap[(w.heap.size + 1 + 1)]? = some (.cells #[.int .u32 (W32 a0), .int .u32 (W32 a1), .int .u32 (W32 a2), .int .u32 (W32 a3)] 55 (0, 0)) ∧ w'.heap[w.heap.size + 1]? = some (.cells #[.int .u64 0, .int .u64 0, .int .u64 0, .int .u64 0] 36 (0, 0)) ∧ New w w') [0,0,0,1,0,0,0,2,0,0,0,2,0,0,3] New (fun _ _ _ => True) (by kernel_rfl) (by kernel_rfl) (by kernel_rfl) (fun _ _ _ _ _ _ => trivial) (fun w' hw' => ⟨⟨_, _, _, _, hw'.1⟩, hw'.2⟩) (⟨HV.out, HZZ.out, HN.out.drew⟩) ?_
        intro I J _ _ f g hfa hba hgb hbb
        have HFA := Lib.hid hfa
        have HBA := Lib.hid hba
        have HGB := Lib.hid hgb
        have HBB := Lib.hid hbb
        have s0 := fun n => cell_of_row _ _ 0 _ _ _ (hgb n).1
        clear hfa hba hgb hbb
        refine Gro3.take0 3 (by kernel_rfl) ?_
        simp only [List.take, List.drop, List.length]
        repeat (go_big_quiet_step (fail))
        refine wpQuiet_nil ?_
        refine Gro3.take1 1 (by kernel_rfl) ?_
        simp only [List.take, List.drop, List.length]
        repeat (go_big_quiet_step (fail))
        refine wpQuiet_nil ?_
        refine Gro3.take0 3 (by kernel_rfl) ?_
        simp only [List.take, List.drop, List.length]
        repeat (go_big_quiet_step (fail))
        refine wpQuiet_nil ?_
        refine Gro3.callt (fun v => v = .int .u64 (W64 k0)) (fun _ _ => True) rfl rfl (⟨_, rfl⟩) (fun _ _ _ _ _ => trivial) (fun w1 hB hG => ?_) (fun v1 A1 hv1 hA => ?_)
        · obtain ⟨nq, rfl⟩ := hB
          clear s0
          go_simp
          refine (HK0.out _ (HGB.out nq).2.2).mono ?_
          rintro e w2 ⟨rfl, rfl⟩
          first | exact ⟨_, rfl, ⟨nq, rfl⟩, New.refl _, rfl⟩ | exact ⟨_, rfl, ⟨nq, rfl⟩, New.refl _, rfl, trivial⟩ | exact ⟨⟨nq, rfl⟩, New.refl _⟩
        simp [Act.put] at hA
        subst hA
        obtain rfl := hv1
        refine Gro3.take0 3 (by kernel_rfl) ?_
        simp only [List.take, List.drop, List.length]
        repeat (go_big_quiet_step (fail))
        refine wpQuiet_nil ?_
        refine Gro3.callt (fun v => v = .int .u32 (W32 r0)) (fun _ _ => True) rfl rfl (⟨_, rfl⟩) (fun _ _ _ _ _ => trivial) (fun w1 hB hG => ?_) (fun v2 A2 hv2 hA => ?_)
        · obtain ⟨nq, rfl⟩ := hB
          clear s0
          go_simp
          refine (HQ0.out _).mono ?_
          rintro e w2 ⟨rfl, rfl⟩
          first | exact ⟨_, rfl, ⟨nq, rfl⟩, New.refl _, rfl⟩ | exact ⟨_, rfl, ⟨nq, rfl⟩, New.refl _, rfl, trivial⟩ | exact ⟨⟨nq, rfl⟩, New.refl _⟩
        simp [Act.put] at hA
        subst hA
        obtain rfl := hv2
        have hv := HM0.out
        refine Gro3.take0 2 (by kernel_rfl) ?_
        simp only [List.take, List.drop, List.length]
        repeat (go_big_quiet_step (fail))
        refine wpQuiet_nil ?_
        clear hv
        refine Gro3.turn (fun v => v = undef) (fun _ w9 => Lies w9 (w.heap.size + 1 + 1) (.cells #[.int .u32 (W32 m0), .int .u32 (W32 a1), .int .u32 (W32 a2), .int .u32 (W32 a3)] 55 (0, 0))) rfl rfl ⟨_, rfl⟩ (fun w1 hB hG => ?_) (fun v3 A3 hv3 hA => ?_)
        · obtain ⟨nq, rfl⟩ : ∃ nq, w1 = g nq := hB
          have HX := Lib.hid (HGB.out nq)
          have c0 := cell_of_row _ _ 0 _ _ _ HX.out.1
          have cf := fun i => frozen_of_row _ _ i _ _ HX.out.1
          have h0 := heap_setCell_same _ (w.heap.size + 1 + 1) 0 _ _ (.int .u32 (W32 m0)) HX.out.1
          have HLI := Lib.hid (show Lies _ _ _ from h0)
          have HOT := Lib.hid (heap_setCell_other (g nq) ⟨(w.heap.size + 1 + 1), 0, none⟩ (w.heap.size + 1) (.int .u32 (W32 m0)) (by show w.heap.size + 1 ≠ w.heap.size + 1 + 1; omega))
          clear h0 s0
          go_simp
          exact ⟨HBA.out _ ⟨⟨_, _, _, _, HLI.out⟩, HOT.out.trans HX.out.2.1, HX.out.2.2.setCell (by show w.heap.size ≤ w.heap.size + 1 + 1; omega) _⟩, HLI.out⟩
        simp [Act.put] at hA
        subst hA
        refine Gro3.nil ?_
        rintro w11 ⟨n9, rfl⟩ hG
        have hF := HFA.out n9
        replace HV := Lib.hid (show (f n9).heap[(w.heap.size + 1 + 1)]? = _ from hG)
        replace HZZ := Lib.hid hF.2.1
        replace HN := Lib.hid hF.2.2
        clear HFA HBA HGB HBB hG hF s0 HK0 HQ0 HM0
        generalize f n9 = w9 at *
        go_wp2_with fail
        rw [rounds_succ]
        go_wp2_with fail
        refine Gro3.wp_region_gro3S (fun w' => (∃ u0 u1 u2 u3 : Value, w'.heap[(w.heap.size + 1 + 1)]? = some (.cells #[u0, u1, u2, u3] 55 (0, 0))) ∧ w'.heap[w.heap.size + 1]? = some (.cells #[.int .u64 0, .int .u64 0, .int .u64 0, .int .u64 0] 36 (0, 0)) ∧ New w w') (fun w' => w'.heap[(w.heap.size + 1 + 1)]? = some (.cells #[.int .u32 (W32 m0), .int .u32 (W32 a1), .int .u32 (W32 a2), .int .u32 (W32 a3)] 55 (0, 0)) ∧ w'.heap[w.heap.size + 1]? = some (.cells #[.int .u64 0, .int .u64 0, .int .u64 0, .int .u64 0] 36 (0, 0)) ∧ New w w') [0,0,0,1,0,0,0,2,0,0,0,2,0,0,3] New (fun _ _ _ => True) (by kernel_rfl) (by kernel_rfl) (by kernel_rfl) (fun _ _ _ _ _ _ => trivial) (fun w' hw' => ⟨⟨_, _, _, _, hw'.1⟩, hw'.2⟩) (⟨HV.out, HZZ.out, HN.out.drew⟩) ?_
        intro I J _ _ f g hfa hba hgb hbb
        have HFA := Lib.hid hfa
        have HBA := Lib.hid hba
        have HGB := Lib.hid hgb
        have HBB := Lib.hid hbb
        have s0 := fun n => cell_of_row _ _ 1 _ _ _ (hgb n).1
        clear hfa hba hgb hbb
        refine Gro3.take0 3 (by kernel_rfl) ?_
        simp only [List.take, List.drop, List.length]
        repeat (go_big_quiet_step (fail))
        refine wpQuiet_nil ?_
        refine Gro3.take1 1 (by kernel_rfl) ?_
        simp only [List.take, List.drop, List.length]
        repeat (go_big_quiet_step (fail))
        refine wpQuiet_nil ?_
        refine Gro3.take0 3 (by kernel_rfl) ?_
        simp only [List.take, List.drop, List.length]
        repeat (go_big_quiet_step (fail))
        refine wpQuiet_nil ?_
        refine Gro3.callt (fun v => v = .int .u64 (W64 k1)) (fun _ _ => True) rfl rfl (⟨_, rfl⟩) (fun _ _ _ _ _ => trivial) (fun w1 hB hG => ?_) (fun v1 A1 hv1 hA => ?_)
        · obtain ⟨nq, rfl⟩ := hB
          clear s0
          go_simp
          refine (HK1.out _ (HGB.out nq).2.2).mono ?_
          rintro e w2 ⟨rfl, rfl⟩
          first | exact ⟨_, rfl, ⟨nq, rfl⟩, New.refl _, rfl⟩ | exact ⟨_, rfl, ⟨nq, rfl⟩, New.refl _, rfl, trivial⟩ | exact ⟨⟨nq, rfl⟩, New.refl _⟩
        simp [Act.put] at hA
        subst hA
        obtain rfl := hv1
        refine Gro3.take0 3 (by kernel_rfl) ?_
        simp only [List.take, List.drop, List.length]
        repeat (go_big_quiet_step (fail))
        refine wpQuiet_nil ?_
        refine Gro3.callt (fun v => v = .int .u32 (W32 r1)) (fun _ _ => True) rfl rfl (⟨_, rfl⟩) (fun _ _ _ _ _ => trivial) (fun w1 hB hG => ?_) (fun v2 A2 hv2 hA => ?_)
        · obtain ⟨nq, rfl⟩ := hB
          clear s0
          go_simp
          refine (HQ1.out _).mono ?_
          rintro e w2 ⟨rfl, rfl⟩
          first | exact ⟨_, rfl, ⟨nq, rfl⟩, New.refl _, rfl⟩ | exact ⟨_, rfl, ⟨nq, rfl⟩, New.refl _, rfl, trivial⟩ | exact ⟨⟨nq, rfl⟩, New.refl _⟩
        simp [Act.put] at hA
        subst hA
        obtain rfl := hv2
        have hv := HM1.out
        refine Gro3.take0 2 (by kernel_rfl) ?_
        simp only [List.take, List.drop, List.length]
        repeat (go_big_quiet_step (fail))
        refine wpQuiet_nil ?_
        clear hv
        refine Gro3.turn (fun v => v = undef) (fun _ w9 => Lies w9 (w.heap.size + 1 + 1) (.cells #[.int .u32 (W32 m0), .int .u32 (W32 m1), .int .u32 (W32 a2), .int .u32 (W32 a3)] 55 (0, 0))) rfl rfl ⟨_, rfl⟩ (fun w1 hB hG => ?_) (fun v3 A3 hv3 hA => ?_)
        · obtain ⟨nq, rfl⟩ : ∃ nq, w1 = g nq := hB
          have HX := Lib.hid (HGB.out nq)
          have c0 := cell_of_row _ _ 1 _ _ _ HX.out.1
          have cf := fun i => frozen_of_row _ _ i _ _ HX.out.1
          have h0 := heap_setCell_same _ (w.heap.size + 1 + 1) 1 _ _ (.int .u32 (W32 m1)) HX.out.1
          have HLI := Lib.hid (show Lies _ _ _ from h0)
          have HOT := Lib.hid (heap_setCell_other (g nq) ⟨(w.heap.size + 1 + 1), 1, none⟩ (w.heap.size + 1) (.int .u32 (W32 m1)) (by show w.heap.size + 1 ≠ w.heap.size + 1 + 1; omega))
          clear h0 s0
          go_simp
          exact ⟨HBA.out _ ⟨⟨_, _, _, _, HLI.out⟩, HOT.out.trans HX.out.2.1, HX.out.2.2.setCell (by show w.heap.size ≤ w.heap.size + 1 + 1; omega) _⟩, HLI.out⟩
        simp [Act.put] at hA
        subst hA
        refine Gro3.nil ?_
        rintro w11 ⟨n9, rfl⟩ hG
        have hF := HFA.out n9
        replace HV := Lib.hid (show (f n9).heap[(w.heap.size + 1 + 1)]? = _ from hG)
        replace HZZ := Lib.hid hF.2.1
        replace HN := Lib.hid hF.2.2
        clear HFA HBA HGB HBB hG hF s0 HK1 HQ1 HM1
        generalize f n9 = w9 at *
        go_wp2_with fail
        rw [rounds_succ]
        go_wp2_with fail
        refine Gro3.wp_region_gro3S (fun w' => (∃ u0 u1 u2 u3 : Value, w'.heap[(w.heap.size + 1 + 1)]? = some (.cells #[u0, u1, u2, u3] 55 (0, 0))) ∧ w'.heap[w.heap.size + 1]? = some (.cells #[.int .u64 0, .int .u64 0, .int .u64 0, .int .u64 0] 36 (0, 0)) ∧ New w w') (fun w' => w'.heap[(w.heap.size + 1 + 1)]? = some (.cells #[.int .u32 (W32 m0), .int .u32 (W32 m1), .int .u32 (W32 a2), .int .u32 (W32 a3)] 55 (0, 0)) ∧ w'.heap[w.heap.size + 1]? = some (.cells #[.int .u64 0, .int .u64 0, .int .u64 0, .int .u64 0] 36 (0, 0)) ∧ New w w') [0,0,0,1,0,0,0,2,0,0,0,2,0,0,3] New (fun _ _ _ => True) (by kernel_rfl) (by kernel_rfl) (by kernel_rfl) (fun _ _ _ _ _ _ => trivial) (fun w' hw' => ⟨⟨_, _, _, _, hw'.1⟩, hw'.2⟩) (⟨HV.out, HZZ.out, HN.out.drew⟩) ?_
        intro I J _ _ f g hfa hba hgb hbb
        have HFA := Lib.hid hfa
        have HBA := Lib.hid hba
        have HGB := Lib.hid hgb
        have HBB := Lib.hid hbb
        have s0 := fun n => cell_of_row _ _ 2 _ _ _ (hgb n).1
        clear hfa hba hgb hbb
        refine Gro3.take0 3 (by kernel_rfl) ?_
        simp only [List.take, List.drop, List.length]
        repeat (go_big_quiet_step (fail))
        refine wpQuiet_nil ?_
        refine Gro3.take1 1 (by kernel_rfl) ?_
        simp only [List.take, List.drop, List.length]
        repeat (go_big_quiet_step (fail))
        refine wpQuiet_nil ?_
        refine Gro3.take0 3 (by kernel_rfl) ?_
        simp only [List.take, List.drop, List.length]
        repeat (go_big_quiet_step (fail))
        refine wpQuiet_nil ?_
        refine Gro3.callt (fun v => v = .int .u64 (W64 k2)) (fun _ _ => True) rfl rfl (⟨_, rfl⟩) (fun _ _ _ _ _ => trivial) (fun w1 hB hG => ?_) (fun v1 A1 hv1 hA => ?_)
        · obtain ⟨nq, rfl⟩ := hB
          clear s0
          go_simp
          refine (HK2.out _ (HGB.out nq).2.2).mono ?_
          rintro e w2 ⟨rfl, rfl⟩
          first | exact ⟨_, rfl, ⟨nq, rfl⟩, New.refl _, rfl⟩ | exact ⟨_, rfl, ⟨nq, rfl⟩, New.refl _, rfl, trivial⟩ | exact ⟨⟨nq, rfl⟩, New.refl _⟩
        simp [Act.put] at hA
        subst hA
        obtain rfl := hv1
        refine Gro3.take0 3 (by kernel_rfl) ?_
        simp only [List.take, List.drop, List.length]
        repeat (go_big_quiet_step (fail))
        refine wpQuiet_nil ?_
        refine Gro3.callt (fun v => v = .int .u32 (W32 r2)) (fun _ _ => True) rfl rfl (⟨_, rfl⟩) (fun _ _ _ _ _ => trivial) (fun w1 hB hG => ?_) (fun v2 A2 hv2 hA => ?_)
        · obtain ⟨nq, rfl⟩ := hB
          clear s0
          go_simp
          refine (HQ2.out _).mono ?_
          rintro e w2 ⟨rfl, rfl⟩
          first | exact ⟨_, rfl, ⟨nq, rfl⟩, New.refl _, rfl⟩ | exact ⟨_, rfl, ⟨nq, rfl⟩, New.refl _, rfl, trivial⟩ | exact ⟨⟨nq, rfl⟩, New.refl _⟩
        simp [Act.put] at hA
        subst hA
        obtain rfl := hv2
        have hv := HM2.out
        refine Gro3.take0 2 (by kernel_rfl) ?_
        simp only [List.take, List.drop, List.length]
        repeat (go_big_quiet_step (fail))
        refine wpQuiet_nil ?_
        clear hv
        refine Gro3.turn (fun v => v = undef) (fun _ w9 => Lies w9 (w.heap.size + 1 + 1) (.cells #[.int .u32 (W32 m0), .int .u32 (W32 m1), .int .u32 (W32 m2), .int .u32 (W32 a3)] 55 (0, 0))) rfl rfl ⟨_, rfl⟩ (fun w1 hB hG => ?_) (fun v3 A3 hv3 hA => ?_)
        · obtain ⟨nq, rfl⟩ : ∃ nq, w1 = g nq := hB
          have HX := Lib.hid (HGB.out nq)
          have c0 := cell_of_row _ _ 2 _ _ _ HX.out.1
          have cf := fun i => frozen_of_row _ _ i _ _ HX.out.1
          have h0 := heap_setCell_same _ (w.heap.size + 1 + 1) 2 _ _ (.int .u32 (W32 m2)) HX.out.1
          have HLI := Lib.hid (show Lies _ _ _ from h0)
          have HOT := Lib.hid (heap_setCell_other (g nq) ⟨(w.heap.size + 1 + 1), 2, none⟩ (w.heap.size + 1) (.int .u32 (W32 m2)) (by show w.heap.size + 1 ≠ w.heap.size + 1 + 1; omega))
          clear h0 s0
          go_simp
          exact ⟨HBA.out _ ⟨⟨_, _, _, _, HLI.out⟩, HOT.out.trans HX.out.2.1, HX.out.2.2.setCell (by show w.heap.size ≤ w.heap.size + 1 + 1; omega) _⟩, HLI.out⟩
        simp [Act.put] at hA
        subst hA
        refine Gro3.nil ?_
        rintro w11 ⟨n9, rfl⟩ hG
        have hF := HFA.out n9
        replace HV := Lib.hid (show (f n9).heap[(w.heap.size + 1 + 1)]? = _ from hG)
        replace HZZ := Lib.hid hF.2.1
        replace HN := Lib.hid hF.2.2
        clear HFA HBA HGB HBB hG hF s0 HK2 HQ2 HM2
        generalize f n9 = w9 at *
        go_wp2_with fail
        rw [rounds_succ]
        go_wp2_with fail
        refine Gro3.wp_region_gro3S (fun w' => (∃ u0 u1 u2 u3 : Value, w'.heap[(w.heap.size + 1 + 1)]? = some (.cells #[u0, u1, u2, u3] 55 (0, 0))) ∧ w'.heap[w.heap.size + 1]? = some (.cells #[.int .u64 0, .int .u64 0, .int .u64 0, .int .u64 0] 36 (0, 0)) ∧ New w w') (fun w' => w'.heap[(w.heap.size + 1 + 1)]? = some (.cells #[.int .u32 (W32 m0), .int .u32 (W32 m1), .int .u32 (W32 m2), .int .u32 (W32 a3)] 55 (0, 0)) ∧ w'.heap[w.heap.size + 1]? = some (.cells #[.int .u64 0, .int .u64 0, .int .u64 0, .int .u64 0] 36 (0, 0)) ∧ New w w') [0,0,0,1,0,0,0,2,0,0,0,2,0,0,3] New (fun _ _ _ => True) (by kernel_rfl) (by kernel_rfl) (by kernel_rfl) (fun _ _ _ _ _ _ => trivial) (fun w' hw' => ⟨⟨_, _, _, _, hw'.1⟩, hw'.2⟩) (⟨HV.out, HZZ.out, HN.out.drew⟩) ?_
        intro I J _ _ f g hfa hba hgb hbb
        have HFA := Lib.hid hfa
        have HBA := Lib.hid hba
        have HGB := Lib.hid hgb
        have HBB := Lib.hid hbb
        have s0 := fun n => cell_of_row _ _ 3 _ _ _ (hgb n).1
        clear hfa hba hgb hbb
        refine Gro3.take0 3 (by kernel_rfl) ?_
        simp only [List.take, List.drop, List.length]
        repeat (go_big_quiet_step (fail))
        refine wpQuiet_nil ?_
        refine Gro3.take1 1 (by kernel_rfl) ?_
        simp only [List.take, List.drop, List.length]
        repeat (go_big_quiet_step (fail))
        refine wpQuiet_nil ?_
        refine Gro3.take0 3 (by kernel_rfl) ?_
        simp only [List.take, List.drop, List.length]
        repeat (go_big_quiet_step (fail))
        refine wpQuiet_nil ?_
        refine Gro3.callt (fun v => v = .int .u64 (W64 k3)) (fun _ _ => True) rfl rfl (⟨_, rfl⟩) (fun _ _ _ _ _ => trivial) (fun w1 hB hG => ?_) (fun v1 A1 hv1 hA => ?_)
        · obtain ⟨nq, rfl⟩ := hB
          clear s0
          go_simp
          refine (HK3.out _ (HGB.out nq).2.2).mono ?_
          rintro e w2 ⟨rfl, rfl⟩
          first | exact ⟨_, rfl, ⟨nq, rfl⟩, New.refl _, rfl⟩ | exact ⟨_, rfl, ⟨nq, rfl⟩, New.refl _, rfl, trivial⟩ | exact ⟨⟨nq, rfl⟩, New.refl _⟩
        simp [Act.put] at hA
        subst hA
        obtain rfl := hv1
        refine Gro3.take0 3 (by kernel_rfl) ?_
        simp only [List.take, List.drop, List.length]
        repeat (go_big_quiet_step (fail))
        refine wpQuiet_nil ?_
        refine Gro3.callt (fun v => v = .int .u32 (W32 r3)) (fun _ _ => True) rfl rfl (⟨_, rfl⟩) (fun _ _ _ _ _ => trivial) (fun w1 hB hG => ?_) (fun v2 A2 hv2 hA => ?_)
        · obtain ⟨nq, rfl⟩ := hB
          clear s0
          go_simp
          refine (HQ3.out _).mono ?_
          rintro e w2 ⟨rfl, rfl⟩
          first | exact ⟨_, rfl, ⟨nq, rfl⟩, New.refl _, rfl⟩ | exact ⟨_, rfl, ⟨nq, rfl⟩, New.refl _, rfl, trivial⟩ | exact ⟨⟨nq, rfl⟩, New.refl _⟩
        simp [Act.put] at hA
        subst hA
        obtain rfl := hv2
        have hv := HM3.out
        refine Gro3.take0 2 (by kernel_rfl) ?_
        simp only [List.take, List.drop, List.length]
        repeat (go_big_quiet_step (fail))
        refine wpQuiet_nil ?_
        clear hv
        refine Gro3.turn (fun v => v = undef) (fun _ w9 => Lies w9 (w.heap.size + 1 + 1) (.cells #[.int .u32 (W32 m0), .int .u32 (W32 m1), .int .u32 (W32 m2), .int .u32 (W32 m3)] 55 (0, 0))) rfl rfl ⟨_, rfl⟩ (fun w1 hB hG => ?_) (fun v3 A3 hv3 hA => ?_)
        · obtain ⟨nq, rfl⟩ : ∃ nq, w1 = g nq := hB
          have HX := Lib.hid (HGB.out nq)
          have c0 := cell_of_row _ _ 3 _ _ _ HX.out.1
          have cf := fun i => frozen_of_row _ _ i _ _ HX.out.1
          have h0 := heap_setCell_same _ (w.heap.size + 1 + 1) 3 _ _ (.int .u32 (W32 m3)) HX.out.1
          have HLI := Lib.hid (show Lies _ _ _ from h0)
          have HOT := Lib.hid (heap_setCell_other (g nq) ⟨(w.heap.size + 1 + 1), 3, none⟩ (w.heap.size + 1) (.int .u32 (W32 m3)) (by show w.heap.size + 1 ≠ w.heap.size + 1 + 1; omega))
          clear h0 s0
          go_simp
          exact ⟨HBA.out _ ⟨⟨_, _, _, _, HLI.out⟩, HOT.out.trans HX.out.2.1, HX.out.2.2.setCell (by show w.heap.size ≤ w.heap.size + 1 + 1; omega) _⟩, HLI.out⟩
        simp [Act.put] at hA
        subst hA
        refine Gro3.nil ?_
        rintro w11 ⟨n9, rfl⟩ hG
        have hF := HFA.out n9
        replace HV := Lib.hid (show (f n9).heap[(w.heap.size + 1 + 1)]? = _ from hG)
        replace HZZ := Lib.hid hF.2.1
        replace HN := Lib.hid hF.2.2
        clear HFA HBA HGB HBB hG hF s0 HK3 HQ3 HM3
        generalize f n9 = w9 at *
        go_wp2_with fail
        rw [rounds_succ]
        go_wp2
        exact ⟨⟨_, 0, 0, l2.drop 16, (m0, m1, m2, m3), rfl, HR0.out, HST.out, HTL.out, HMD.out, HZZ.out, HV.out, HN.out⟩, by simp [lenOf32] <;> omega⟩
      · have hcm2 : ¬ (c2 : Int) = 16 := by omega
        obtain ⟨sp2, hadd, hsp⟩ := row_rest HR.out (show 16 ≤ n2 by omega)
        obtain rfl : sp2 = none := by
          simp [Addr.add] at hadd
          first | exact hadd | exact hadd.symm
        have HR0 := Lib.hid hsp
        have HLT := Lib.hid hlt
        clear hsp hadd
        go_wp2_with fail
        refine wp_loop_rounds 5 ?_
        rw [rounds_succ]
        go_wp2_with fail
        refine Gro3.wp_region_gro3S (fun w' => (∃ u0 u1 u2 u3 : Value, w'.heap[(w.heap.size + 1 + 1)]? = some (.cells #[u0, u1, u2, u3] 55 (0, 0))) ∧ w'.heap[w.heap.size + 1]? = some (.cells #[.int .u64 0, .int .u64 0, .int .u64 0, .int .u64 0] 36 (0, 0)) ∧ New w w') (fun w' => w'.heap[(w.heap.size + 1 + 1)]? = some (.cells #[.int .u32 (W32 a0), .int .u32 (W32 a1), .int .u32 (W32 a2), .int .u32 (W32 a3)] 55 (0, 0)) ∧ w'.heap[w.heap.size + 1]? = some (.cells #[.int .u64 0, .int .u64 0, .int .u64 0, .int .u64 0] 36 (0, 0)) ∧ New w w') [0,0,0,1,0,0,0,2,0,0,0,2,0,0,3] New (fun _ _ _ => True) (by kernel_rfl) (by kernel_rfl) (by kernel_rfl) (fun _ _ _ _ _ _ => trivial) (fun w' hw' => ⟨⟨_, _, _, _, hw'.1⟩, hw'.2⟩) (⟨HV.out, HZZ.out, HN.out.drew⟩) ?_
        intro I J _ _ f g hfa hba hgb hbb
        have HFA := Lib.hid hfa
        have HBA := Lib.hid hba
        have HGB := Lib.hid hgb
        have HBB := Lib.hid hbb
        have s0 := fun n => cell_of_row _ _ 0 _ _ _ (hgb n).1
        clear hfa hba hgb hbb
        refine Gro3.take0 3 (by kernel_rfl) ?_
        simp only [List.take, List.drop, List.length]
        repeat (go_big_quiet_step (fail))
        refine wpQuiet_nil ?_
        refine Gro3.take1 1 (by kernel_rfl) ?_
        simp only [List.take, List.drop, List.length]
        repeat (go_big_quiet_step (fail))
        refine wpQuiet_nil ?_
        refine Gro3.take0 3 (by kernel_rfl) ?_
        simp only [List.take, List.drop, List.length]
        repeat (go_big_quiet_step (fail))
        refine wpQuiet_nil ?_
        refine Gro3.callt (fun v => v = .int .u64 (W64 k0)) (fun _ _ => True) rfl rfl (⟨_, rfl⟩) (fun _ _ _ _ _ => trivial) (fun w1 hB hG => ?_) (fun v1 A1 hv1 hA => ?_)
        · obtain ⟨nq, rfl⟩ := hB
          clear s0
          go_simp
          refine (HK0.out _ (HGB.out nq).2.2).mono ?_
          rintro e w2 ⟨rfl, rfl⟩
          first | exact ⟨_, rfl, ⟨nq, rfl⟩, New.refl _, rfl⟩ | exact ⟨_, rfl, ⟨nq, rfl⟩, New.refl _, rfl, trivial⟩ | exact ⟨⟨nq, rfl⟩, New.refl _⟩
        simp [Act.put] at hA
        subst hA
        obtain rfl := hv1
        refine Gro3.take0 3 (by kernel_rfl) ?_
        simp only [List.take, List.drop, List.length]
        repeat (go_big_quiet_step (fail))
        refine wpQuiet_nil ?_
        refine Gro3.callt (fun v => v = .int .u32 (W32 r0)) (fun _ _ => True) rfl rfl (⟨_, rfl⟩) (fun _ _ _ _ _ => trivial) (fun w1 hB hG => ?_) (fun v2 A2 hv2 hA => ?_)
        · obtain ⟨nq, rfl⟩ := hB
          clear s0
          go_simp
          refine (HQ0.out _).mono ?_
          rintro e w2 ⟨rfl, rfl⟩
          first | exact ⟨_, rfl, ⟨nq, rfl⟩, New.refl _, rfl⟩ | exact ⟨_, rfl, ⟨nq, rfl⟩, New.refl _, rfl, trivial⟩ | exact ⟨⟨nq, rfl⟩, New.refl _⟩
        simp [Act.put] at hA
        subst hA
        obtain rfl := hv2
        have hv := HM0.out
        refine Gro3.take0 2 (by kernel_rfl) ?_
        simp only [List.take, List.drop, List.length]
        repeat (go_big_quiet_step (fail))
        refine wpQuiet_nil ?_
        clear hv
        refine Gro3.turn (fun v => v = undef) (fun _ w9 => Lies w9 (w.heap.size + 1 + 1) (.cells #[.int .u32 (W32 m0), .int .u32 (W32 a1), .int .u32 (W32 a2), .int .u32 (W32 a3)] 55 (0, 0))) rfl rfl ⟨_, rfl⟩ (fun w1 hB hG => ?_) (fun v3 A3 hv3 hA => ?_)
        · obtain ⟨nq, rfl⟩ : ∃ nq, w1 = g nq := hB
          have HX := Lib.hid (HGB.out nq)
          have c0 := cell_of_row _ _ 0 _ _ _ HX.out.1
          have cf := fun i => frozen_of_row _ _ i _ _ HX.out.1
          have h0 := heap_setCell_same _ (w.heap.size + 1 + 1) 0 _ _ (.int .u32 (W32 m0)) HX.out.1
          have HLI := Lib.hid (show Lies _ _ _ from h0)
          have HOT := Lib.hid (heap_setCell_other (g nq) ⟨(w.heap.size + 1 + 1), 0, none⟩ (w.heap.size + 1) (.int .u32 (W32 m0)) (by show w.heap.size + 1 ≠ w.heap.size + 1 + 1; omega))
          clear h0 s0
          go_simp
          exact ⟨HBA.out _ ⟨⟨_, _, _, _, HLI.out⟩, HOT.out.trans HX.out.2.1, HX.out.2.2.setCell (by show w.heap.size ≤ w.heap.size + 1 + 1; omega) _⟩, HLI.out⟩
        simp [Act.put] at hA
        subst hA
        refine Gro3.nil ?_
        rintro w11 ⟨n9, rfl⟩ hG
        have hF := HFA.out n9
        replace HV := Lib.hid (show (f n9).heap[(w.heap.size + 1 + 1)]? = _ from hG)
        replace HZZ := Lib.hid hF.2.1
        replace HN := Lib.hid hF.2.2
        clear HFA HBA HGB HBB hG hF s0 HK0 HQ0 HM0
        generalize f n9 = w9 at *
        go_wp2_with fail
        rw [rounds_succ]
        go_wp2_with fail
        refine Gro3.wp_region_gro3S (fun w' => (∃ u0 u1 u2 u3 : Value, w'.heap[(w.heap.size + 1 + 1)]? = some (.cells #[u0, u1, u2, u3] 55 (0, 0))) ∧ w'.heap[w.heap.size + 1]? = some (.cells #[.int .u64 0, .int .u64 0, .int .u64 0, .int .u64 0] 36 (0, 0)) ∧ New w w') (fun w' => w'.heap[(w.heap.size + 1 + 1)]? = some (.cells #[.int .u32 (W32 m0), .int .u32 (W32 a1), .int .u32 (W32 a2), .int .u32 (W32 a3)] 55 (0, 0)) ∧ w'.heap[w.heap.size + 1]? = some (.cells #[.int .u64 0, .int .u64 0, .int .u64 0, .int .u64 0] 36 (0, 0)) ∧ New w w') [0,0,0,1,0,0,0,2,0,0,0,2,0,0,3] New (fun _ _ _ => True) (by kernel_rfl) (by kernel_rfl) (by kernel_rfl) (fun _ _ _ _ _ _ => trivial) (fun w' hw' => ⟨⟨_, _, _, _, hw'.1⟩, hw'.2⟩) (⟨HV.out, HZZ.out, HN.out.drew⟩) ?_
        intro I J _ _ f g hfa hba hgb hbb
        have HFA := Lib.hid hfa
        have HBA := Lib.hid hba
        have HGB := Lib.hid hgb
        have HBB := Lib.hid hbb
        have s0 := fun n => cell_of_row _ _ 1 _ _ _ (hgb n).1
        clear hfa hba hgb hbb
        refine Gro3.take0 3 (by kernel_rfl) ?_
        simp only [List.take, List.drop, List.length]
        repeat (go_big_quiet_step (fail))
        refine wpQuiet_nil ?_
        refine Gro3.take1 1 (by kernel_rfl) ?_
        simp only [List.take, List.drop, List.length]
        repeat (go_big_quiet_step (fail))
        refine wpQuiet_nil ?_
        refine Gro3.take0 3 (by kernel_rfl) ?_
        simp only [List.take, List.drop, List.length]
        repeat (go_big_quiet_step (fail))
        refine wpQuiet_nil ?_
        refine Gro3.callt (fun v => v = .int .u64 (W64 k1)) (fun _ _ => True) rfl rfl (⟨_, rfl⟩) (fun _ _ _ _ _ => trivial) (fun w1 hB hG => ?_) (fun v1 A1 hv1 hA => ?_)
        · obtain ⟨nq, rfl⟩ := hB
          clear s0
          go_simp
          refine (HK1.out _ (HGB.out nq).2.2).mono ?_
          rintro e w2 ⟨rfl, rfl⟩
          first | exact ⟨_, rfl, ⟨nq, rfl⟩, New.refl _, rfl⟩ | exact ⟨_, rfl, ⟨nq, rfl⟩, New.refl _, rfl, trivial⟩ | exact ⟨⟨nq, rfl⟩, New.refl _⟩
        simp [Act.put] at hA
        subst hA
        obtain rfl := hv1
        refine Gro3.take0 3 (by kernel_rfl) ?_
        simp only [List.take, List.drop, List.length]
        repeat (go_big_quiet_step (fail))
        refine wpQuiet_nil ?_
        refine Gro3.callt (fun v => v = .int .u32 (W32 r1)) (fun _ _ => True) rfl rfl (⟨_, rfl⟩) (fun _ _ _ _ _ => trivial) (fun w1 hB hG => ?_) (fun v2 A2 hv2 hA => ?_)
        · obtain ⟨nq, rfl⟩ := hB
          clear s0
          go_simp
          refine (HQ1.out _).mono ?_
          rintro e w2 ⟨rfl, rfl⟩
          first | exact ⟨_, rfl, ⟨nq, rfl⟩, New.refl _, rfl⟩ | exact ⟨_, rfl, ⟨nq, rfl⟩, New.refl _, rfl, trivial⟩ | exact ⟨⟨nq, rfl⟩, New.refl _⟩
        simp [Act.put] at hA
        subst hA
        obtain rfl := hv2
        have hv := HM1.out
        refine Gro3.take0 2 (by kernel_rfl) ?_
        simp only [List.take, List.drop, List.length]
        repeat (go_big_quiet_step (fail))
        refine wpQuiet_nil ?_
        clear hv
        refine Gro3.turn (fun v => v = undef) (fun _ w9 => Lies w9 (w.heap.size + 1 + 1) (.cells #[.int .u32 (W32 m0), .int .u32 (W32 m1), .int .u32 (W32 a2), .int .u32 (W32 a3)] 55 (0, 0))) rfl rfl ⟨_, rfl⟩ (fun w1 hB hG => ?_) (fun v3 A3 hv3 hA => ?_)
        · obtain ⟨nq, rfl⟩ : ∃ nq, w1 = g nq := hB
          have HX := Lib.hid (HGB.out nq)
          have c0 := cell_of_row _ _ 1 _ _ _ HX.out.1
          have cf := fun i => frozen_of_row _ _ i _ _ HX.out.1
          have h0 := heap_setCell_same _ (w.heap.size + 1 + 1) 1 _ _ (.int .u32 (W32 m1)) HX.out.1
          have HLI := Lib.hid (show Lies _ _ _ from h0)
          have HOT := Lib.hid (heap_setCell_other (g nq) ⟨(w.heap.size + 1 + 1), 1, none⟩ (w.heap.size + 1) (.int .u32 (W32 m1)) (by show w.heap.size + 1 ≠ w.heap.size + 1 + 1; omega))
          clear h0 s0
          go_simp
          exact ⟨HBA.out _ ⟨⟨_, _, _, _, HLI.out⟩, HOT.out.trans HX.out.2.1, HX.out.2.2.setCell (by show w.heap.size ≤ w.heap.size + 1 + 1; omega) _⟩, HLI.out⟩
        simp [Act.put] at hA
        subst hA
        refine Gro3.nil ?_
        rintro w11 ⟨n9, rfl⟩ hG
        have hF := HFA.out n9
        replace HV := Lib.hid (show (f n9).heap[(w.heap.size + 1 + 1)]? = _ from hG)
        replace HZZ := Lib.hid hF.2.1
        replace HN := Lib.hid hF.2.2
        clear HFA HBA HGB HBB hG hF s0 HK1 HQ1 HM1
        generalize f n9 = w9 at *
        go_wp2_with fail
        rw [rounds_succ]
        go_wp2_with fail
        refine Gro3.wp_region_gro3S (fun w' => (∃ u0 u1 u2 u3 : Value, w'.heap[(w.heap.size + 1 + 1)]? = some (.cells #[u0, u1, u2, u3] 55 (0, 0))) ∧ w'.heap[w.heap.size + 1]? = some (.cells #[.int .u64 0, .int .u64 0, .int .u64 0, .int .u64 0] 36 (0, 0)) ∧ New w w') (fun w' => w'.heap[(w.heap.size + 1 + 1)]? = some (.cells #[.int .u32 (W32 m0), .int .u32 (W32 m1), .int .u32 (W32 a2), .int .u32 (W32 a3)] 55 (0, 0)) ∧ w'.heap[w.heap.size + 1]? = some (.cells #[.int .u64 0, .int .u64 0, .int .u64 0, .int .u64 0] 36 (0, 0)) ∧ New w w') [0,0,0,1,0,0,0,2,0,0,0,2,0,0,3] New (fun _ _ _ => True) (by kernel_rfl) (by kernel_rfl) (by kernel_rfl) (fun _ _ _ _ _ _ => trivial) (fun w' hw' => ⟨⟨_, _, _, _, hw'.1⟩, hw'.2⟩) (⟨HV.out, HZZ.out, HN.out.drew⟩) ?_
        intro I J _ _ f g hfa hba hgb hbb
        have HFA := Lib.hid hfa
        have HBA := Lib.hid hba
        have HGB := Lib.hid hgb
        have HBB := Lib.hid hbb
        have s0 := fun n => cell_of_row _ _ 2 _ _ _ (hgb n).1
        clear hfa hba hgb hbb
        refine Gro3.take0 3 (by kernel_rfl) ?_
        simp only [List.take, List.drop, List.length]
        repeat (go_big_quiet_step (fail))
        refine wpQuiet_nil ?_
        refine Gro3.take1 1 (by kernel_rfl) ?_
        simp only [List.take, List.drop, List.length]
        repeat (go_big_quiet_step (fail))
        refine wpQuiet_nil ?_
        refine Gro3.take0 3 (by kernel_rfl) ?_
        simp only [List.take, List.drop, List.length]
        repeat (go_big_quiet_step (fail))
        refine wpQuiet_nil ?_
        refine Gro3.callt (fun v => v = .int .u64 (W64 k2)) (fun _ _ => True) rfl rfl (⟨_, rfl⟩) (fun _ _ _ _ _ => trivial) (fun w1 hB hG => ?_) (fun v1 A1 hv1 hA => ?_)
        · obtain ⟨nq, rfl⟩ := hB
          clear s0
          go_simp
          refine (HK2.out _ (HGB.out nq).2.2).mono ?_
          rintro e w2 ⟨rfl, rfl⟩
          first | exact ⟨_, rfl, ⟨nq, rfl⟩, New.refl _, rfl⟩ | exact ⟨_, rfl, ⟨nq, rfl⟩, New.refl _, rfl, trivial⟩ | exact ⟨⟨nq, rfl⟩, New.refl _⟩
        simp [Act.put] at hA
        subst hA
        obtain rfl := hv1
        refine Gro3.take0 3 (by kernel_rfl) ?_
        simp only [List.take, List.drop, List.length]
        repeat (go_big_quiet_step (fail))
        refine wpQuiet_nil ?_
        refine Gro3.callt (fun v => v = .int .u32 (W32 r2)) (fun _ _ => True) rfl rfl (⟨_, rfl⟩) (fun _ _ _ _ _ => trivial) (fun w1 hB hG => ?_) (fun v2 A2 hv2 hA => ?_)
        · obtain ⟨nq, rfl⟩ := hB
          clear s0
          go_simp
          refine (HQ2.out _).mono ?_
          rintro e w2 ⟨rfl, rfl⟩
          first | exact ⟨_, rfl, ⟨nq, rfl⟩, New.refl _, rfl⟩ | exact ⟨_, rfl, ⟨nq, rfl⟩, New.refl _, rfl, trivial⟩ | exact ⟨⟨nq, rfl⟩, New.refl _⟩
        simp [Act.put] at hA
        subst hA
        obtain rfl := hv2
        have hv := HM2.out
        refine Gro3.take0 2 (by kernel_rfl) ?_
        simp only [List.take, List.drop, List.length]
        repeat (go_big_quiet_step (fail))
        refine wpQuiet_nil ?_
        clear hv
        refine Gro3.turn (fun v => v = undef) (fun _ w9 => Lies w9 (w.heap.size + 1 + 1) (.cells #[.int .u32 (W32 m0), .int .u32 (W32 m1), .int .u32 (W32 m2), .int .u32 (W32 a3)] 55 (0, 0))) rfl rfl ⟨_, rfl⟩ (fun w1 hB hG => ?_) (fun v3 A3 hv3 hA => ?_)
        · obtain ⟨nq, rfl⟩ : ∃ nq, w1 = g nq := hB
          have HX := Lib.hid (HGB.out nq)
          have c0 := cell_of_row _ _ 2 _ _ _ HX.out.1
          have cf := fun i => frozen_of_row _ _ i _ _ HX.out.1
          have h0 := heap_setCell_same _ (w.heap.size + 1 + 1) 2 _ _ (.int .u32 (W32 m2)) HX.out.1
          have HLI := Lib.hid (show Lies _ _ _ from h0)
          have HOT := Lib.hid (heap_setCell_other (g nq) ⟨(w.heap.size + 1 + 1), 2, none⟩ (w.heap.size + 1) (.int .u32 (W32 m2)) (by show w.heap.size + 1 ≠ w.heap.size + 1 + 1; omega))
          clear h0 s0
          go_simp
          exact ⟨HBA.out _ ⟨⟨_, _, _, _, HLI.out⟩, HOT.out.trans HX.out.2.1, HX.out.2.2.setCell (by show w.heap.size ≤ w.heap.size + 1 + 1; omega) _⟩, HLI.out⟩
        simp [Act.put] at hA
        subst hA
        refine Gro3.nil ?_
        rintro w11 ⟨n9, rfl⟩ hG
        have hF := HFA.out n9
        replace HV := Lib.hid (show (f n9).heap[(w.heap.size + 1 + 1)]? = _ from hG)
        replace HZZ := Lib.hid hF.2.1
        replace HN := Lib.hid hF.2.2
        clear HFA HBA HGB HBB hG hF s0 HK2 HQ2 HM2
        generalize f n9 = w9 at *
        go_wp2_with fail
        rw [rounds_succ]
        go_wp2_with fail
        refine Gro3.wp_region_gro3S (fun w' => (∃ u0 u1 u2 u3 : Value, w'.heap[(w.heap.size + 1 + 1)]? = some (.cells #[u0, u1, u2, u3] 55 (0, 0))) ∧ w'.heap[w.heap.size + 1]? = some (.cells #[.int .u64 0, .int .u64 0, .int .u64 0, .int .u64 0] 36 (0, 0)) ∧ New w w') (fun w' => w'.heap[(w.heap.size + 1 + 1)]? = some (.cells #[.int .u32 (W32 m0), .int .u32 (W32 m1), .int .u32 (W32 m2), .int .u32 (W32 a3)] 55 (0, 0)) ∧ w'.heap[w.heap.size + 1]? = some (.cells #[.int .u64 0, .int .u64 0, .int .u64 0, .int .u64 0] 36 (0, 0)) ∧ New w w') [0,0,0,1,0,0,0,2,0,0,0,2,0,0,3] New (fun _ _ _ => True) (by kernel_rfl) (by kernel_rfl) (by kernel_rfl) (fun _ _ _ _ _ _ => trivial) (fun w' hw' => ⟨⟨_, _, _, _, hw'.1⟩, hw'.2⟩) (⟨HV.out, HZZ.out, HN.out.drew⟩) ?_
        intro I J _ _ f g hfa hba hgb hbb
        have HFA := Lib.hid hfa
        have HBA := Lib.hid hba
        have HGB := Lib.hid hgb
        have HBB := Lib.hid hbb
        have s0 := fun n => cell_of_row _ _ 3 _ _ _ (hgb n).1
        clear hfa hba hgb hbb
        refine Gro3.take0 3 (by kernel_rfl) ?_
        simp only [List.take, List.drop, List.length]
        repeat (go_big_quiet_step (fail))
        refine wpQuiet_nil ?_
        refine Gro3.take1 1 (by kernel_rfl) ?_
        simp only [List.take, List.drop, List.length]
        repeat (go_big_quiet_step (fail))
        refine wpQuiet_nil ?_
        refine Gro3.take0 3 (by kernel_rfl) ?_
        simp only [List.take, List.drop, List.length]
        repeat (go_big_quiet_step (fail))
        refine wpQuiet_nil ?_
        refine Gro3.callt (fun v => v = .int .u64 (W64 k3)) (fun _ _ => True) rfl rfl (⟨_, rfl⟩) (fun _ _ _ _ _ => trivial) (fun w1 hB hG => ?_) (fun v1 A1 hv1 hA => ?_)
        · obtain ⟨nq, rfl⟩ := hB
          clear s0
          go_simp
          refine (HK3.out _ (HGB.out nq).2.2).mono ?_
          rintro e w2 ⟨rfl, rfl⟩
          first | exact ⟨_, rfl, ⟨nq, rfl⟩, New.refl _, rfl⟩ | exact ⟨_, rfl, ⟨nq, rfl⟩, New.refl _, rfl, trivial⟩ | exact ⟨⟨nq, rfl⟩, New.refl _⟩
        simp [Act.put] at hA
        subst hA
        obtain rfl := hv1
        refine Gro3.take0 3 (by kernel_rfl) ?_
        simp only [List.take, List.drop, List.length]
        repeat (go_big_quiet_step (fail))
        refine wpQuiet_nil ?_
        refine Gro3.callt (fun v => v = .int .u32 (W32 r3)) (fun _ _ => True) rfl rfl (⟨_, rfl⟩) (fun _ _ _ _ _ => trivial) (fun w1 hB hG => ?_) (fun v2 A2 hv2 hA => ?_)
        · obtain ⟨nq, rfl⟩ := hB
          clear s0
          go_simp
          refine (HQ3.out _).mono ?_
          rintro e w2 ⟨rfl, rfl⟩
          first | exact ⟨_, rfl, ⟨nq, rfl⟩, New.refl _, rfl⟩ | exact ⟨_, rfl, ⟨nq, rfl⟩, New.refl _, rfl, trivial⟩ | exact ⟨⟨nq, rfl⟩, New.refl _⟩
        simp [Act.put] at hA
        subst hA
        obtain rfl := hv2
        have hv := HM3.out
        refine Gro3.take0 2 (by kernel_rfl) ?_
        simp only [List.take, List.drop, List.length]
        repeat (go_big_quiet_step (fail))
        refine wpQuiet_nil ?_
        clear hv
        refine Gro3.turn (fun v => v = undef) (fun _ w9 => Lies w9 (w.heap.size + 1 + 1) (.cells #[.int .u32 (W32 m0), .int .u32 (W32 m1), .int .u32 (W32 m2), .int .u32 (W32 m3)] 55 (0, 0))) rfl rfl ⟨_, rfl⟩ (fun w1 hB hG => ?_) (fun v3 A3 hv3 hA => ?_)
        · obtain ⟨nq, rfl⟩ : ∃ nq, w1 = g nq := hB
          have HX := Lib.hid (HGB.out nq)
          have c0 := cell_of_row _ _ 3 _ _ _ HX.out.1
          have cf := fun i => frozen_of_row _ _ i _ _ HX.out.1
          have h0 := heap_setCell_same _ (w.heap.size + 1 + 1) 3 _ _ (.int .u32 (W32 m3)) HX.out.1
          have HLI := Lib.hid (show Lies _ _ _ from h0)
          have HOT := Lib.hid (heap_setCell_other (g nq) ⟨(w.heap.size + 1 + 1), 3, none⟩ (w.heap.size + 1) (.int .u32 (W32 m3)) (by show w.heap.size + 1 ≠ w.heap.size + 1 + 1; omega))
          clear h0 s0
          go_simp
          exact ⟨HBA.out _ ⟨⟨_, _, _, _, HLI.out⟩, HOT.out.trans HX.out.2.1, HX.out.2.2.setCell (by show w.heap.size ≤ w.heap.size + 1 + 1; omega) _⟩, HLI.out⟩
        simp [Act.put] at hA
        subst hA
        refine Gro3.nil ?_
        rintro w11 ⟨n9, rfl⟩ hG
        have hF := HFA.out n9
        replace HV := Lib.hid (show (f n9).heap[(w.heap.size + 1 + 1)]? = _ from hG)
        replace HZZ := Lib.hid hF.2.1
        replace HN := Lib.hid hF.2.2
        clear HFA HBA HGB HBB hG hF s0 HK3 HQ3 HM3
        generalize f n9 = w9 at *
        go_wp2_with fail
        rw [rounds_succ]
        go_wp2
        exact ⟨⟨_, (n2 - 16), (c2 - 16), l2.drop 16, (m0, m1, m2, m3), rfl, HR0.out, HST.out, HTL.out, HMD.out, HZZ.out, HV.out, HN.out⟩, by simp [lenOf32] <;> omega⟩
    · have hsh : l2.length < 16 := by omega
      have h1 := bState_short 16 stp32 s2 l2 hsh
      have h2 := bTail_short 16 l2 hsh
      rw [h1] at HS
      rw [h2] at HT
      have h3 : n % 16 = n2 := by have := HM.out; omega
      have H3 := Lib.hid h3
      have z0 := cell_of_row _ _ 0 _ _ _ HZZ.out
      have v0 := cell_of_row _ _ 0 _ _ _ HV.out
      have z1 := cell_of_row _ _ 1 _ _ _ HZZ.out
      have v1 := cell_of_row _ _ 1 _ _ _ HV.out
      have z2 := cell_of_row _ _ 2 _ _ _ HZZ.out
      have v2 := cell_of_row _ _ 2 _ _ _ HV.out
      have z3 := cell_of_row _ _ 3 _ _ _ HZZ.out
      have v3 := cell_of_row _ _ 3 _ _ _ HV.out
      have zf := fun i => frozen_of_row _ _ i _ _ HZZ.out
      clear h1 h2 h3 hsh
      go_wp2
      refine bodyPost_ret (by simp [results, Try.results47, go_sem, z0, z1, z2, z3]; try rfl) rfl ?_
      have hq : ∀ i, w.heap.size ≤ (⟨w.heap.size + 1, i, none⟩ : Addr).block := fun i => by show w.heap.size ≤ w.heap.size + 1; omega
      have HNF := ((((HN.out.setCell (hq 0) (.int .u64 (W64 (s2.1.setWidth 64)))).setCell (hq 1) (.int .u64 (W64 (s2.2.1.setWidth 64)))).setCell (hq 2) (.int .u64 (W64 (s2.2.2.1.setWidth 64)))).setCell (hq 3) (.int .u64 (W64 (s2.2.2.2.setWidth 64))))
      rw [H3.out, ← HS.out, ← HT.out]
      exact ⟨aa, c2, rfl, HR.out.stay HNF, HNF⟩
end Go.Proofs.Ytfeeecmcaakpkaa
