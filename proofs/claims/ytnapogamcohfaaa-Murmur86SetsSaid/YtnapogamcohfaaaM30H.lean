/- Layer 30: One, and the methods of a hash. -/
import Derived.Test.YtnapogamcohfaaaM30F
import Derived.Test.YtnapogamcohfaaaB30F
import Derived.Defers
import Derived.Recover
import Derived.Laws.Pointers
import Derived.Handy
import Derived.Laws.EntriesVeiled
namespace Go.Proofs.Ytnapogamcohfaaa
open Go.RowKit Go.Bv
set_option linter.unusedVariables false
set_option maxRecDepth 100000 in
set_option maxHeartbeats 1000000 in
theorem hone30 (sd : BitVec 32) (a : Option Addr) (n c : Nat) (l : List (BitVec 8)) (w : World) (h : BRow w a n c l) :
    Calls Try.prog 8 #[.int .u32 (W32 sd), .slice a n c] w fun e w' => e = .returned (.agg #[.int .u64 (W64 (hash30 sd l).2), .int .u64 (W64 (hash30 sd l).1)]) ∧ New w w' := by
  have HST := Lib.hid (start_30s sd)
  have HF := Lib.hid (fun kd w' (hn : New w w') (hf : Fun30 w' kd) => fold_30 kd (start30 sd) a n c l w' (h.stay hn) hf)
  have HZ := Lib.hid (heap_alloc_new w (.cells #[.int .u64 0, .int .u64 0] 27))
  have hlen := h.len_eq
  unfold hash30
  rw [hlen]
  clear h hlen
  obtain ⟨s0, h0⟩ : ∃ z, start30 sd = z := ⟨_, rfl⟩
  rw [h0] at HST HF
  rw [h0]
  obtain ⟨st, h1⟩ : ∃ z, bState 16 stp30 s0 l = z := ⟨_, rfl⟩
  obtain ⟨tl, h2⟩ : ∃ z, bTail 16 l = z := ⟨_, rfl⟩
  rw [h1, h2] at HF
  rw [h1, h2]
  clear h0 h1 h2
  have HEN := Lib.hid (fun (w' : World) a' c' (hr : BRow w' a' (n % 16) c' tl) => finish_30s st a' (n % 16) c' tl (BitVec.ofNat 64 n) w' hr)
  obtain ⟨hh, hhe⟩ : ∃ z, end30 st tl (BitVec.ofNat 64 n) = z := ⟨_, rfl⟩
  rw [hhe] at HEN
  rw [hhe]
  clear hhe
  go_enter Try.func8, Try.ntmps8
  go_wp2_with fail
  refine (HST.out _).mono ?_
  rintro e w9 ⟨rfl, hn⟩
  have HO := Lib.hid ((hn.block _ (lt_of_block HZ.out)).trans HZ.out)
  have HN := Lib.hid (((New.refl w).alloc _).trans hn)
  clear hn HST HZ
  go_wp2_with fail
  refine (process_30s _).mono ?_
  rintro e w9 ⟨kd, rfl, hf, hn⟩
  replace HO := Lib.hid ((hn.block _ (lt_of_block HO.out)).trans HO.out)
  replace HN := Lib.hid (HN.out.trans hn)
  have HKF := Lib.hid hf
  clear hn hf
  go_wp2_with fail
  refine (HF.out kd _ HN.out HKF.out).mono ?_
  rintro e w9 ⟨a2, c2, rfl, hr, hn⟩
  replace HO := Lib.hid ((hn.block _ (lt_of_block HO.out)).trans HO.out)
  replace HN := Lib.hid (HN.out.trans hn)
  have HR := Lib.hid hr
  clear hr hn HF HKF
  have hx := heap_alloc_new w9 (.cells #[.int .u32 (W32 (st.1)), .int .u32 (W32 (st.2.1)), .int .u32 (W32 (st.2.2.1)), .int .u32 (W32 (st.2.2.2))] 52)
  have hn2 := (New.refl w9).alloc (.cells #[.int .u32 (W32 (st.1)), .int .u32 (W32 (st.2.1)), .int .u32 (W32 (st.2.2.1)), .int .u32 (W32 (st.2.2.2))] 52)
  obtain ⟨qHM, hq⟩ : ∃ q, w9.heap.size = q := ⟨_, rfl⟩
  have hle := HN.out.le
  rw [hq] at hx hle
  have hw0 := And.intro (rfl : w9.alloc (.cells #[.int .u32 (W32 (st.1)), .int .u32 (W32 (st.2.1)), .int .u32 (W32 (st.2.2.1)), .int .u32 (W32 (st.2.2.2))] 52) = w9.alloc (.cells #[.int .u32 (W32 (st.1)), .int .u32 (W32 (st.2.1)), .int .u32 (W32 (st.2.2.1)), .int .u32 (W32 (st.2.2.2))] 52)) hq
  generalize hw2 : w9.alloc (.cells #[.int .u32 (W32 (st.1)), .int .u32 (W32 (st.2.1)), .int .u32 (W32 (st.2.2.1)), .int .u32 (W32 (st.2.2.2))] 52) = w10 at hx hn2 hw0
  have HE := Lib.hid (show w9.alloc (.cells #[.int .u32 (W32 (st.1)), .int .u32 (W32 (st.2.1)), .int .u32 (W32 (st.2.2.1)), .int .u32 (W32 (st.2.2.2))] 52) = w10 ∧ w9.heap.size = qHM from ⟨hw2, hq⟩)
  clear hw0 hw2
  replace HR := Lib.hid (HR.out.stay hn2)
  replace HO := Lib.hid ((hn2.block _ (lt_of_block HO.out)).trans HO.out)
  replace HN := Lib.hid (HN.out.trans hn2)
  have HM := Lib.hid hx
  have HLHM := Lib.hid hle
  clear hx hn2 hq hle
  have x0 := cell_of_row _ _ 0 _ _ _ HM.out
  have x1 := cell_of_row _ _ 1 _ _ _ HM.out
  have x2 := cell_of_row _ _ 2 _ _ _ HM.out
  have x3 := cell_of_row _ _ 3 _ _ _ HM.out
  go_wp2_with (rw [HE.out.1, HE.out.2])
  refine (HEN.out _ _ _ HR.out).mono ?_
  rintro e w9 ⟨rfl, hn⟩
  replace HR := Lib.hid (HR.out.stay hn)
  replace HO := Lib.hid ((hn.block _ (lt_of_block HO.out)).trans HO.out)
  replace HM := Lib.hid ((hn.block _ (lt_of_block HM.out)).trans HM.out)
  replace HN := Lib.hid (HN.out.trans hn)
  clear hn HE x0 x1 x2 x3
  have z0 := cell_of_row _ _ 0 _ _ _ HO.out
  have z1 := cell_of_row _ _ 1 _ _ _ HO.out
  have zf := fun i => frozen_of_row _ _ i _ _ HO.out
  go_wp2
  refine bodyPost_ret (by simp [results, Try.results8, go_sem, z0, z1]; try rfl) rfl ?_
  exact ⟨rfl, (HN.out.setCell (by show w.heap.size ≤ w.heap.size; omega) _).setCell (by show w.heap.size ≤ w.heap.size; omega) _⟩
theorem hnew30 (sd : BitVec 32) (w : World) :
    Calls Try.prog 10 #[.int .u32 (W32 sd)] w fun e w' => ∃ kd q g, e = .returned (.pointer (some ⟨g, 0, none⟩)) ∧ w.heap.size ≤ q ∧ q < g ∧ w'.heap[g]? = some (.cells #[.pointer (some ⟨q, 0, none⟩)] 62 (0, 0)) ∧ Strm_30 kd w' q 16 (start30 sd) (start30 sd) [] 0#64 ∧ Fun30 w' kd ∧ New w w' := by
  have HST := Lib.hid (start_30s sd)
  obtain ⟨s0, h0⟩ : ∃ z, start30 sd = z := ⟨_, rfl⟩
  rw [h0] at HST
  rw [h0]
  clear h0
  have HNW := Lib.hid (fun kd => new_30 kd s0)
  go_enter Try.func10, Try.ntmps10
  go_wp2_with fail
  refine (HST.out _).mono ?_
  rintro e w9 ⟨rfl, hn⟩
  have HN := Lib.hid hn
  clear hn HST
  go_wp2_with fail
  refine (process_30s _).mono ?_
  rintro e w9 ⟨kd, rfl, hf, hn⟩
  replace HN := Lib.hid (HN.out.trans hn)
  have HKF := Lib.hid hf
  clear hn hf
  go_wp2_with fail
  refine (HNW.out kd _).mono ?_
  rintro e w9 ⟨q, rfl, hq, hs, hn⟩
  have HQ := Lib.hid (Nat.le_trans HN.out.le hq)
  replace HN := Lib.hid (HN.out.trans hn)
  replace HKF := Lib.hid (HKF.out.stay hn)
  have HS := Lib.hid hs
  clear hq hs hn HNW
  go_wp2
  go_ret
  refine ⟨kd, q, _, rfl, HQ.out, HS.out.lt, heap_alloc_new w9 _, HS.out.stay ((New.refl w9).alloc _), HKF.out.stay ((New.refl w9).alloc _), HN.out.alloc _⟩
theorem content_n_30 (kd : Nat × Nat) (w : World) : Calls Try.prog 28 #[.pointer none] w fun e w' => e = .returned (.pointer none) ∧ w' = w := by
  go_enter Try.func28, Try.ntmps28
  go_wp2
  go_ret
  exact ⟨rfl, rfl⟩
theorem content_30 (kd : Nat × Nat) (p h : Nat) (w : World) (hx : w.heap[h]? = some (.cells #[.pointer (some ⟨p, 0, none⟩)] 62 (0, 0))) : Calls Try.prog 28 #[.pointer (some ⟨h, 0, none⟩)] w fun e w' => e = .returned (.pointer (some ⟨p, 0, none⟩)) ∧ w' = w := by
  have k0 := cell_of_row _ _ 0 _ _ _ hx
  go_enter Try.func28, Try.ntmps28
  go_wp2
  go_ret
  exact ⟨rfl, rfl⟩
theorem hwrite_n_30 (kd : Nat × Nat) (v : Value) (w : World) : Calls Try.prog 13 #[.pointer none, v] w fun e w' => e = .returned (.tuple #[]) ∧ w' = w := by
  go_enter Try.func13, Try.ntmps13
  go_wp2_with fail
  refine (content_n_30 kd _).mono ?_
  rintro e w' ⟨rfl, rfl⟩
  go_wp2_with fail
  refine (write_n_30 kd _ _).mono ?_
  rintro e w' ⟨rfl, rfl⟩
  go_wp2_with fail
  first | go_end0 | refine bodyPost_ret (results_none rfl _ _ _) rfl ?_
  exact ⟨rfl, rfl⟩
theorem hwrite_30 (kd : Nat × Nat) (p h : Nat) (fs st : BitVec 32 × BitVec 32 × BitVec 32 × BitVec 32) (tl : List (BitVec 8)) (long : BitVec 64) (b : Option Addr) (lb cb : Nat) (m : List (BitVec 8)) (w : World) (hx : w.heap[h]? = some (.cells #[.pointer (some ⟨p, 0, none⟩)] 62 (0, 0))) (hs : Strm_30 kd w p 16 fs st tl long) (hm : BRow w b lb cb m) (hsum : tl.length + lb ≤ 140737488355328) (hf : Fun30 w kd) :
    Calls Try.prog 13 #[.pointer (some ⟨h, 0, none⟩), .slice b lb cb] w fun e w' => e = .returned (.tuple #[]) ∧ Strm_30 kd w' p 16 fs (bState 16 stp30 st (tl ++ m)) (bTail 16 (tl ++ m)) (long + BitVec.ofNat 64 lb) ∧ But p w w' := by
  have HC := Lib.hid (content_30 kd p h w hx)
  have HW := Lib.hid (write_30 kd p fs st tl long b lb cb m w hs hm hsum hf)
  clear hx hs hm hsum hf
  generalize bState 16 stp30 st (tl ++ m) = st2 at *
  generalize bTail 16 (tl ++ m) = tl2 at *
  go_enter Try.func13, Try.ntmps13
  go_wp2_with fail
  refine HC.out.mono ?_
  rintro e w' ⟨rfl, rfl⟩
  go_wp2_with fail
  refine HW.out.mono ?_
  rintro e w' ⟨rfl, hs, hb⟩
  have HS := Lib.hid hs
  have HBU := Lib.hid hb
  clear hs hb
  go_wp2_with fail
  first | go_end0 | refine bodyPost_ret (results_none rfl _ _ _) rfl ?_
  exact ⟨rfl, HS.out, HBU.out⟩
theorem hreset_n_30 (kd : Nat × Nat) (w : World) : Calls Try.prog 14 #[.pointer none] w fun e w' => e = .returned (.tuple #[]) ∧ w' = w := by
  go_enter Try.func14, Try.ntmps14
  go_wp2_with fail
  refine (content_n_30 kd _).mono ?_
  rintro e w' ⟨rfl, rfl⟩
  go_wp2_with fail
  refine (reset_n_30 kd _).mono ?_
  rintro e w' ⟨rfl, rfl⟩
  go_wp2_with fail
  first | go_end0 | refine bodyPost_ret (results_none rfl _ _ _) rfl ?_
  exact ⟨rfl, rfl⟩
theorem hreset_30 (kd : Nat × Nat) (p h : Nat) (fs st : BitVec 32 × BitVec 32 × BitVec 32 × BitVec 32) (tl : List (BitVec 8)) (long : BitVec 64) (w : World) (hx : w.heap[h]? = some (.cells #[.pointer (some ⟨p, 0, none⟩)] 62 (0, 0))) (hs : Strm_30 kd w p 16 fs st tl long) :
    Calls Try.prog 14 #[.pointer (some ⟨h, 0, none⟩)] w fun e w' => e = .returned (.tuple #[]) ∧ Strm_30 kd w' p 16 fs fs [] 0#64 ∧ But p w w' := by
  have HC := Lib.hid (content_30 kd p h w hx)
  have HW := Lib.hid (reset_30 kd p fs st tl long w hs)
  clear hx hs
  go_enter Try.func14, Try.ntmps14
  go_wp2_with fail
  refine HC.out.mono ?_
  rintro e w' ⟨rfl, rfl⟩
  go_wp2_with fail
  refine HW.out.mono ?_
  rintro e w' ⟨rfl, hs, hb⟩
  have HS := Lib.hid hs
  have HBU := Lib.hid hb
  clear hs hb
  go_wp2_with fail
  first | go_end0 | refine bodyPost_ret (results_none rfl _ _ _) rfl ?_
  exact ⟨rfl, HS.out, HBU.out⟩
theorem hclone_n_30 (kd : Nat × Nat) (w : World) : Calls Try.prog 19 #[.pointer none] w fun e w' => e = .returned (.pointer none) ∧ w' = w := by
  go_enter Try.func19, Try.ntmps19
  go_wp2_with fail
  refine (content_n_30 kd _).mono ?_
  rintro e w' ⟨rfl, rfl⟩
  go_wp2
  go_ret
  exact ⟨rfl, rfl⟩
theorem hclone_30 (kd : Nat × Nat) (p h : Nat) (fs st : BitVec 32 × BitVec 32 × BitVec 32 × BitVec 32) (tl : List (BitVec 8)) (long : BitVec 64) (w : World) (hx : w.heap[h]? = some (.cells #[.pointer (some ⟨p, 0, none⟩)] 62 (0, 0))) (hs : Strm_30 kd w p 16 fs st tl long) :
    Calls Try.prog 19 #[.pointer (some ⟨h, 0, none⟩)] w fun e w' => ∃ q g, e = .returned (.pointer (some ⟨g, 0, none⟩)) ∧ w.heap.size ≤ q ∧ q < g ∧ w'.heap[g]? = some (.cells #[.pointer (some ⟨q, 0, none⟩)] 62 (0, 0)) ∧ Strm_30 kd w' q 16 fs st tl long ∧ New w w' := by
  have HC := Lib.hid (content_30 kd p h w hx)
  have HW := Lib.hid (sclone_30 kd p fs st tl long w hs)
  clear hx hs
  go_enter Try.func19, Try.ntmps19
  go_wp2_with fail
  refine HC.out.mono ?_
  rintro e w' ⟨rfl, rfl⟩
  go_wp2_with fail
  refine HW.out.mono ?_
  rintro e w9 ⟨q, rfl, hq, hs, hn⟩
  have HS := Lib.hid hs
  have HN := Lib.hid hn
  have HQ := Lib.hid hq
  clear hs hn hq
  go_wp2
  go_ret
  refine ⟨q, _, rfl, HQ.out, HS.out.lt, heap_alloc_new w9 _, HS.out.stay ((New.refl w9).alloc _), HN.out.alloc _⟩
set_option maxHeartbeats 1000000 in
theorem hsum_n_30 (kd : Nat × Nat) (w : World) : Calls Try.prog 11 #[.pointer none] w fun e w' => e = .returned (.agg #[.int .u64 0, .int .u64 0]) ∧ New w w' := by
  have HO := Lib.hid (heap_alloc_new w (.cells #[.int .u64 0, .int .u64 0] 27))
  have HN := Lib.hid ((New.refl w).alloc (.cells #[.int .u64 0, .int .u64 0] 27))
  go_enter Try.func11, Try.ntmps11
  go_wp2_with fail
  refine (content_n_30 kd _).mono ?_
  rintro e w9 ⟨rfl, rfl⟩
  have z0 := cell_of_row _ _ 0 _ _ _ HO.out
  have z1 := cell_of_row _ _ 1 _ _ _ HO.out
  have zf := fun i => frozen_of_row _ _ i _ _ HO.out
  go_wp2
  refine bodyPost_ret (by simp [results, Try.results11, go_sem, z0, z1]; try rfl) rfl ?_
  first | exact ⟨rfl, HN.out⟩ | exact ⟨rfl, (HN.out.setCell (by show w.heap.size ≤ w.heap.size; omega) _).setCell (by show w.heap.size ≤ w.heap.size; omega) _⟩
set_option maxHeartbeats 1000000 in
theorem hsum_30 (kd : Nat × Nat) (p h : Nat) (fs st : BitVec 32 × BitVec 32 × BitVec 32 × BitVec 32) (tl : List (BitVec 8)) (long : BitVec 64) (w : World) (hx : w.heap[h]? = some (.cells #[.pointer (some ⟨p, 0, none⟩)] 62 (0, 0))) (hs : Strm_30 kd w p 16 fs st tl long) :
    Calls Try.prog 11 #[.pointer (some ⟨h, 0, none⟩)] w fun e w' => e = .returned (.agg #[.int .u64 (W64 (end30 st tl long).2), .int .u64 (W64 (end30 st tl long).1)]) ∧ New w w' := by
  have HC := Lib.hid (fun w' (hn : New w w') => content_30 kd p h w' ((hn.block _ (lt_of_block hx)).trans hx))
  have HS1 := Lib.hid (fun w' (hn : New w w') => state_30 kd p 16 fs st tl long w' (by omega) (hs.stay hn))
  have HS2 := Lib.hid (fun w' (hn : New w w') => tail_30 kd p 16 fs st tl long w' (by omega) (hs.stay hn))
  have HS3 := Lib.hid (fun w' (hn : New w w') => long_30 kd p 16 fs st tl long w' (by omega) (hs.stay hn))
  have HEN := Lib.hid (fun (w' : World) a' c' (hr : BRow w' a' tl.length c' tl) => finish_30s st a' tl.length c' tl long w' hr)
  generalize end30 st tl long = hh at *
  clear hx hs
  have HO := Lib.hid (heap_alloc_new w (.cells #[.int .u64 0, .int .u64 0] 27))
  have HN := Lib.hid ((New.refl w).alloc (.cells #[.int .u64 0, .int .u64 0] 27))
  go_enter Try.func11, Try.ntmps11
  go_wp2_with fail
  refine (HC.out _ HN.out).mono ?_
  rintro e w9 ⟨rfl, rfl⟩
  go_wp2_with fail
  refine (HS1.out _ HN.out).mono ?_
  rintro e w9 ⟨rfl, hn⟩
  replace HO := Lib.hid ((hn.block _ (lt_of_block HO.out)).trans HO.out)
  replace HN := Lib.hid (HN.out.trans hn)
  clear hn
  go_wp2_with fail
  refine (HS2.out _ HN.out).mono ?_
  rintro e w9 ⟨a2, c2, rfl, hr, hn⟩
  replace HO := Lib.hid ((hn.block _ (lt_of_block HO.out)).trans HO.out)
  replace HN := Lib.hid (HN.out.trans hn)
  have HR := Lib.hid hr
  clear hn hr
  go_wp2_with fail
  refine (HS3.out _ HN.out).mono ?_
  rintro e w9 ⟨rfl, rfl⟩
  go_wp2_with fail
  refine (HEN.out _ _ _ HR.out).mono ?_
  rintro e w9 ⟨rfl, hn⟩
  replace HO := Lib.hid ((hn.block _ (lt_of_block HO.out)).trans HO.out)
  replace HN := Lib.hid (HN.out.trans hn)
  clear hn HR HC HS1 HS2 HS3 HEN
  have z0 := cell_of_row _ _ 0 _ _ _ HO.out
  have z1 := cell_of_row _ _ 1 _ _ _ HO.out
  have zf := fun i => frozen_of_row _ _ i _ _ HO.out
  go_wp2
  refine bodyPost_ret (by simp [results, Try.results11, go_sem, z0, z1]; try rfl) rfl ?_
  exact ⟨rfl, (HN.out.setCell (by show w.heap.size ≤ w.heap.size; omega) _).setCell (by show w.heap.size ≤ w.heap.size; omega) _⟩
end Go.Proofs.Ytnapogamcohfaaa
