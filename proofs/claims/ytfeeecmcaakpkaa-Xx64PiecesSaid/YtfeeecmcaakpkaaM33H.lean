/- Layer 33: One, and the methods of a hash. -/
import Derived.Test.YtfeeecmcaakpkaaM33F
import Derived.Test.YtfeeecmcaakpkaaB33F
import Derived.Defers
import Derived.Recover
import Derived.Laws.Pointers
import Derived.Handy
import Derived.Laws.EntriesVeiled
namespace Go.Proofs.Ytfeeecmcaakpkaa
open Go.RowKit Go.Bv
set_option linter.unusedVariables false
set_option maxRecDepth 100000 in
set_option maxHeartbeats 1000000 in
theorem hone_33 (sd : BitVec 64) (a : Option Addr) (n c : Nat) (l : List (BitVec 8)) (w : World) (h : BRow w a n c l) :
    Calls Try.prog 24 #[.int .u64 (W64 sd), .slice a n c] w fun e w' => e = .returned (.int .u64 (W64 (hash33 sd l))) ∧ New w w' := by
  have HST := Lib.hid (start_33 sd)
  have HF := Lib.hid (fun w' (hn : New w w') => fold_33 (start33 sd) a n c l w' (h.stay hn))
  have hlen := h.len_eq
  unfold hash33
  rw [hlen]
  clear h hlen
  obtain ⟨s0, h0⟩ : ∃ z, start33 sd = z := ⟨_, rfl⟩
  rw [h0] at HST HF
  rw [h0]
  obtain ⟨st, h1⟩ : ∃ z, bState 32 stp33 s0 l = z := ⟨_, rfl⟩
  obtain ⟨tl, h2⟩ : ∃ z, bTail 32 l = z := ⟨_, rfl⟩
  rw [h1, h2] at HF
  rw [h1, h2]
  clear h0 h1 h2
  have HEN := Lib.hid (fun (w' : World) a' c' (hr : BRow w' a' (n % 32) c' tl) => finish_33 st a' (n % 32) c' tl (BitVec.ofNat 64 n) w' hr)
  obtain ⟨hh, hhe⟩ : ∃ z, end33 st tl (BitVec.ofNat 64 n) = z := ⟨_, rfl⟩
  rw [hhe] at HEN
  rw [hhe]
  clear hhe
  go_enter Try.func24, Try.ntmps24
  go_wp2_with fail
  refine (HST.out _).mono ?_
  rintro e w9 ⟨rfl, hn⟩
  have HN := Lib.hid hn
  clear hn HST
  go_wp2_with fail
  refine (HF.out _ HN.out).mono ?_
  rintro e w9 ⟨a2, c2, rfl, hr, hn⟩
  replace HN := Lib.hid (HN.out.trans hn)
  have HR := Lib.hid hr
  clear hr hn HF
  have hx := heap_alloc_new w9 (.cells #[.int .u64 (W64 (st.1)), .int .u64 (W64 (st.2.1)), .int .u64 (W64 (st.2.2.1)), .int .u64 (W64 (st.2.2.2))] 76)
  have hn2 := (New.refl w9).alloc (.cells #[.int .u64 (W64 (st.1)), .int .u64 (W64 (st.2.1)), .int .u64 (W64 (st.2.2.1)), .int .u64 (W64 (st.2.2.2))] 76)
  obtain ⟨qHM, hq⟩ : ∃ q, w9.heap.size = q := ⟨_, rfl⟩
  have hle := HN.out.le
  rw [hq] at hx hle
  have hw0 := And.intro (rfl : w9.alloc (.cells #[.int .u64 (W64 (st.1)), .int .u64 (W64 (st.2.1)), .int .u64 (W64 (st.2.2.1)), .int .u64 (W64 (st.2.2.2))] 76) = w9.alloc (.cells #[.int .u64 (W64 (st.1)), .int .u64 (W64 (st.2.1)), .int .u64 (W64 (st.2.2.1)), .int .u64 (W64 (st.2.2.2))] 76)) hq
  generalize hw2 : w9.alloc (.cells #[.int .u64 (W64 (st.1)), .int .u64 (W64 (st.2.1)), .int .u64 (W64 (st.2.2.1)), .int .u64 (W64 (st.2.2.2))] 76) = w10 at hx hn2 hw0
  have HE := Lib.hid (show w9.alloc (.cells #[.int .u64 (W64 (st.1)), .int .u64 (W64 (st.2.1)), .int .u64 (W64 (st.2.2.1)), .int .u64 (W64 (st.2.2.2))] 76) = w10 ∧ w9.heap.size = qHM from ⟨hw2, hq⟩)
  clear hw0 hw2
  replace HR := Lib.hid (HR.out.stay hn2)
  replace HN := Lib.hid (HN.out.trans hn2)
  have HM := Lib.hid hx
  have HLHM := Lib.hid hle
  clear hx hn2 hq hle
  have x0 := cell_of_row _ _ 0 _ _ _ HM.out
  have x1 := cell_of_row _ _ 1 _ _ _ HM.out
  have x2 := cell_of_row _ _ 2 _ _ _ HM.out
  have x3 := cell_of_row _ _ 3 _ _ _ HM.out
  go_wp2_with (rw [HE.out.1, HE.out.2])
  refine (HEN.out _ _ _ HR.out).mono ?_
  rintro e w9 ⟨rfl, hn⟩
  replace HR := Lib.hid (HR.out.stay hn)
  replace HM := Lib.hid ((hn.block _ (lt_of_block HM.out)).trans HM.out)
  replace HN := Lib.hid (HN.out.trans hn)
  clear hn HE x0 x1 x2 x3
  go_wp2
  go_ret
  exact ⟨rfl, HN.out⟩
theorem content_n_33 (w : World) : Calls Try.prog 57 #[.pointer none] w fun e w' => e = .returned (.pointer none) ∧ w' = w := by
  go_enter Try.func57, Try.ntmps57
  go_wp2
  go_ret
  exact ⟨rfl, rfl⟩
theorem content_33 (p h : Nat) (w : World) (hx : w.heap[h]? = some (.cells #[.pointer (some ⟨p, 0, none⟩)] 86 (0, 0))) : Calls Try.prog 57 #[.pointer (some ⟨h, 0, none⟩)] w fun e w' => e = .returned (.pointer (some ⟨p, 0, none⟩)) ∧ w' = w := by
  have k0 := cell_of_row _ _ 0 _ _ _ hx
  go_enter Try.func57, Try.ntmps57
  go_wp2
  go_ret
  exact ⟨rfl, rfl⟩
theorem hwrite_n_33 (v : Value) (w : World) : Calls Try.prog 28 #[.pointer none, v] w fun e w' => e = .returned (.tuple #[]) ∧ w' = w := by
  go_enter Try.func28, Try.ntmps28
  go_wp2_with fail
  refine (content_n_33 _).mono ?_
  rintro e w' ⟨rfl, rfl⟩
  go_wp2_with fail
  refine (write_n_33 _ _).mono ?_
  rintro e w' ⟨rfl, rfl⟩
  go_wp2_with fail
  first | go_end0 | refine bodyPost_ret (results_none rfl _ _ _) rfl ?_
  exact ⟨rfl, rfl⟩
theorem hwrite_33 (p h : Nat) (fs st : BitVec 64 × BitVec 64 × BitVec 64 × BitVec 64) (tl : List (BitVec 8)) (long : BitVec 64) (b : Option Addr) (lb cb : Nat) (m : List (BitVec 8)) (w : World) (hx : w.heap[h]? = some (.cells #[.pointer (some ⟨p, 0, none⟩)] 86 (0, 0))) (hs : Strm_33 w p 32 fs st tl long) (hm : BRow w b lb cb m) (hsum : tl.length + lb ≤ 140737488355328) :
    Calls Try.prog 28 #[.pointer (some ⟨h, 0, none⟩), .slice b lb cb] w fun e w' => e = .returned (.tuple #[]) ∧ Strm_33 w' p 32 fs (bState 32 stp33 st (tl ++ m)) (bTail 32 (tl ++ m)) (long + BitVec.ofNat 64 lb) ∧ But p w w' := by
  have HC := Lib.hid (content_33 p h w hx)
  have HW := Lib.hid (write_33 p fs st tl long b lb cb m w hs hm hsum)
  clear hx hs hm hsum
  generalize bState 32 stp33 st (tl ++ m) = st2 at *
  generalize bTail 32 (tl ++ m) = tl2 at *
  go_enter Try.func28, Try.ntmps28
  go_wp2_with fail
  refine HC.out.mono ?_
  rintro e w' ⟨rfl, rfl⟩
  go_wp2_with fail
  refine HW.out.mono ?_
  rintro e w' ⟨rfl, hs, hb⟩
  have HS := Lib.hid hs
  have HBU := Lib.hid hb
  clear hs hb
  go_wp2_with fail
  first | go_end0 | refine bodyPost_ret (results_none rfl _ _ _) rfl ?_
  exact ⟨rfl, HS.out, HBU.out⟩
theorem hreset_n_33 (w : World) : Calls Try.prog 29 #[.pointer none] w fun e w' => e = .returned (.tuple #[]) ∧ w' = w := by
  go_enter Try.func29, Try.ntmps29
  go_wp2_with fail
  refine (content_n_33 _).mono ?_
  rintro e w' ⟨rfl, rfl⟩
  go_wp2_with fail
  refine (reset_n_33 _).mono ?_
  rintro e w' ⟨rfl, rfl⟩
  go_wp2_with fail
  first | go_end0 | refine bodyPost_ret (results_none rfl _ _ _) rfl ?_
  exact ⟨rfl, rfl⟩
theorem hreset_33 (p h : Nat) (fs st : BitVec 64 × BitVec 64 × BitVec 64 × BitVec 64) (tl : List (BitVec 8)) (long : BitVec 64) (w : World) (hx : w.heap[h]? = some (.cells #[.pointer (some ⟨p, 0, none⟩)] 86 (0, 0))) (hs : Strm_33 w p 32 fs st tl long) :
    Calls Try.prog 29 #[.pointer (some ⟨h, 0, none⟩)] w fun e w' => e = .returned (.tuple #[]) ∧ Strm_33 w' p 32 fs fs [] 0#64 ∧ But p w w' := by
  have HC := Lib.hid (content_33 p h w hx)
  have HW := Lib.hid (reset_33 p fs st tl long w hs)
  clear hx hs
  go_enter Try.func29, Try.ntmps29
  go_wp2_with fail
  refine HC.out.mono ?_
  rintro e w' ⟨rfl, rfl⟩
  go_wp2_with fail
  refine HW.out.mono ?_
  rintro e w' ⟨rfl, hs, hb⟩
  have HS := Lib.hid hs
  have HBU := Lib.hid hb
  clear hs hb
  go_wp2_with fail
  first | go_end0 | refine bodyPost_ret (results_none rfl _ _ _) rfl ?_
  exact ⟨rfl, HS.out, HBU.out⟩
theorem hclone_n_33 (w : World) : Calls Try.prog 33 #[.pointer none] w fun e w' => e = .returned (.pointer none) ∧ w' = w := by
  go_enter Try.func33, Try.ntmps33
  go_wp2_with fail
  refine (content_n_33 _).mono ?_
  rintro e w' ⟨rfl, rfl⟩
  go_wp2
  go_ret
  exact ⟨rfl, rfl⟩
theorem hclone_33 (p h : Nat) (fs st : BitVec 64 × BitVec 64 × BitVec 64 × BitVec 64) (tl : List (BitVec 8)) (long : BitVec 64) (w : World) (hx : w.heap[h]? = some (.cells #[.pointer (some ⟨p, 0, none⟩)] 86 (0, 0))) (hs : Strm_33 w p 32 fs st tl long) :
    Calls Try.prog 33 #[.pointer (some ⟨h, 0, none⟩)] w fun e w' => ∃ q g, e = .returned (.pointer (some ⟨g, 0, none⟩)) ∧ w.heap.size ≤ q ∧ q < g ∧ w'.heap[g]? = some (.cells #[.pointer (some ⟨q, 0, none⟩)] 86 (0, 0)) ∧ Strm_33 w' q 32 fs st tl long ∧ New w w' := by
  have HC := Lib.hid (content_33 p h w hx)
  have HW := Lib.hid (sclone_33 p fs st tl long w hs)
  clear hx hs
  go_enter Try.func33, Try.ntmps33
  go_wp2_with fail
  refine HC.out.mono ?_
  rintro e w' ⟨rfl, rfl⟩
  go_wp2_with fail
  refine HW.out.mono ?_
  rintro e w9 ⟨q, rfl, hq, hs, hn⟩
  have HS := Lib.hid hs
  have HN := Lib.hid hn
  have HQ := Lib.hid hq
  clear hs hn hq
  go_wp2
  go_ret
  refine ⟨q, _, rfl, HQ.out, HS.out.lt, heap_alloc_new w9 _, HS.out.stay ((New.refl w9).alloc _), HN.out.alloc _⟩
theorem hnew_33 (sd : BitVec 64) (w : World) :
    Calls Try.prog 26 #[.int .u64 (W64 sd)] w fun e w' => ∃ q g, e = .returned (.pointer (some ⟨g, 0, none⟩)) ∧ w.heap.size ≤ q ∧ q < g ∧ w'.heap[g]? = some (.cells #[.pointer (some ⟨q, 0, none⟩)] 86 (0, 0)) ∧ Strm_33 w' q 32 (start33 sd) (start33 sd) [] 0#64 ∧ New w w' := by
  have HST := Lib.hid (start_33 sd)
  generalize start33 sd = s0 at *
  have HNW := Lib.hid (new_33 s0)
  go_enter Try.func26, Try.ntmps26
  go_wp2_with fail
  refine (HST.out _).mono ?_
  rintro e w9 ⟨rfl, hn⟩
  have HN := Lib.hid hn
  clear hn HST
  go_wp2_with fail
  refine (HNW.out _).mono ?_
  rintro e w9 ⟨q, rfl, hq, hs, hn⟩
  have HQ := Lib.hid (Nat.le_trans HN.out.le hq)
  replace HN := Lib.hid (HN.out.trans hn)
  have HS := Lib.hid hs
  clear hq hs hn HNW
  go_wp2
  go_ret
  refine ⟨q, _, rfl, HQ.out, HS.out.lt, heap_alloc_new w9 _, HS.out.stay ((New.refl w9).alloc _), HN.out.alloc _⟩
set_option maxHeartbeats 1000000 in
theorem hsum_33 (p h : Nat) (fs st : BitVec 64 × BitVec 64 × BitVec 64 × BitVec 64) (tl : List (BitVec 8)) (long : BitVec 64) (w : World) (hx : w.heap[h]? = some (.cells #[.pointer (some ⟨p, 0, none⟩)] 86 (0, 0))) (hs : Strm_33 w p 32 fs st tl long) :
    Calls Try.prog 27 #[.pointer (some ⟨h, 0, none⟩)] w fun e w' => e = .returned (.int .u64 (W64 (end33 st tl long))) ∧ New w w' := by
  have HC := Lib.hid (content_33 p h w hx)
  have HS1 := Lib.hid (fun w' (hn : New w w') => state_33 p 32 fs st tl long w' (by omega) (hs.stay hn))
  have HS2 := Lib.hid (fun w' (hn : New w w') => tail_33 p 32 fs st tl long w' (by omega) (hs.stay hn))
  have HS3 := Lib.hid (fun w' (hn : New w w') => long_33 p 32 fs st tl long w' (by omega) (hs.stay hn))
  have HEN := Lib.hid (fun (w' : World) a' c' (hr : BRow w' a' tl.length c' tl) => finish_33 st a' tl.length c' tl long w' hr)
  obtain ⟨hh, hhe⟩ : ∃ z, end33 st tl long = z := ⟨_, rfl⟩
  rw [hhe] at HEN
  rw [hhe]
  clear hhe hx hs
  go_enter Try.func27, Try.ntmps27
  go_wp2_with fail
  refine (HC.out).mono ?_
  rintro e w9 ⟨rfl, rfl⟩
  go_wp2_with fail
  refine (HS1.out _ (New.refl _)).mono ?_
  rintro e w9 ⟨rfl, hn⟩
  have HN := Lib.hid hn
  clear hn HC
  go_wp2_with fail
  refine (HS2.out _ HN.out).mono ?_
  rintro e w9 ⟨a2, c2, rfl, hr, hn⟩
  replace HN := Lib.hid (HN.out.trans hn)
  have HR := Lib.hid hr
  clear hn hr
  go_wp2_with fail
  refine (HS3.out _ HN.out).mono ?_
  rintro e w9 ⟨rfl, rfl⟩
  go_wp2_with fail
  refine (HEN.out _ _ _ HR.out).mono ?_
  rintro e w9 ⟨rfl, hn⟩
  replace HN := Lib.hid (HN.out.trans hn)
  clear hn HR HS1 HS2 HS3 HEN
  go_wp2
  go_ret
  exact ⟨rfl, HN.out⟩
end Go.Proofs.Ytfeeecmcaakpkaa
