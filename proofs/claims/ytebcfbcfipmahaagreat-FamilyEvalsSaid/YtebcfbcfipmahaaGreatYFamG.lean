import Derived.Test.YtebcfbcfipmahaaGreatYFamF
import Derived.Laws.OwnMore
/- Layer 27: values of seeds of polynomials; the chapter's example; what any kind is called: the walk of the statement FamilyKinds. -/
namespace Go.Proofs.YtebcfbcfipmahaaGreat
open Go.RowKit Go.Bv
set_option linter.unusedVariables false
theorem ev_poly (k b : Int) (a : Option Addr) (n c : Nat) (l : List (BitVec 64)) (x : BitVec 64) (w : World) (h : QRow w a n c l) : Calls Tryz.prog 73 #[.agg (sdc k b a n c), .int .u64 (W64 x)] w fun e w' => e = .returned (.tuple #[.int .u64 (W64 (evP l x)), .int .i64 (evC l x)]) ∧ New w w' := by
  generalize hW : w.alloc (.cells (sdc k b a n c) 30) = w0
  have HB : Hid (w0.heap[w.heap.size]? = some (.cells (sdc k b a n c) 30 (0, 0))) := Lib.hid (by rw [← hW]; exact heap_alloc_new w _)
  have HN : Hid (New w w0) := Lib.hid (by rw [← hW]; exact (New.refl w).alloc _)
  have HROW := Lib.hid (h.stay HN.out)
  have HE := Lib.hid (peval_q a n c l x w0 HROW.out)
  have c0 := cell_of_row _ _ 0 _ _ _ HB.out
  have c1 := cell_of_row _ _ 1 _ _ _ HB.out
  have c2 := cell_of_row _ _ 2 _ _ _ HB.out
  go_enter Tryz.func73, Tryz.ntmps73
  go_wp2_with fail
  refine HE.out.mono ?_
  rintro e w1 ⟨rfl, hn⟩
  have HN1 := Lib.hid (HN.out.trans hn)
  clear HE hn c0 c1 c2
  go_wp2
  go_ret2
  exact ⟨rfl, HN1.out⟩
set_option maxHeartbeats 1000000 in
theorem feval_err (k b : Int) (a : Option Addr) (n c : Nat) (l : List (BitVec 64)) (x : BitVec 64) (w : World) (h : QRow w a n c l) (hz : ¬ chF k b l = 0) : Calls Tryz.prog 15 #[.agg (sdc k b a n c), .int .u64 (W64 x)] w fun e w' => e = .returned (.tuple #[.int .u64 0, .int .i64 (chF k b l)]) ∧ New w w' := by
  generalize hW : w.alloc (.cells (sdc k b a n c) 30) = w0
  have HB : Hid (w0.heap[w.heap.size]? = some (.cells (sdc k b a n c) 30 (0, 0))) := Lib.hid (by rw [← hW]; exact heap_alloc_new w _)
  have HN : Hid (New w w0) := Lib.hid (by rw [← hW]; exact (New.refl w).alloc _)
  have HROW := Lib.hid (h.stay HN.out)
  ·
    have HF := Lib.hid (fos_err k b a n c l w0 HROW.out hz)
    have hzb : (chF k b l != 0) = true := by rw [bne_iff_ne]; exact hz
    clear hz
    have c0 := cell_of_row _ _ 0 _ _ _ HB.out
    have c1 := cell_of_row _ _ 1 _ _ _ HB.out
    have c2 := cell_of_row _ _ 2 _ _ _ HB.out
    go_enter Tryz.func15, Tryz.ntmps15
    go_wp2_with fail
    refine HF.out.mono ?_
    rintro e w1 ⟨rfl, hn⟩
    have HN1 := Lib.hid (HN.out.trans hn)
    clear HF hn c0 c1 c2
    go_wp2
    go_ret2
    exact ⟨rfl, HN1.out.alloc _⟩

set_option maxHeartbeats 1000000 in
theorem feval_poly (b : Int) (a : Option Addr) (n c : Nat) (l : List (BitVec 64)) (x : BitVec 64) (w : World) (h : QRow w a n c l) (hz : chF 1 b l = 0) : Calls Tryz.prog 15 #[.agg (sdc 1 b a n c), .int .u64 (W64 x)] w fun e w' => e = .returned (.tuple #[.int .u64 (W64 (evP l x)), .int .i64 (evC l x)]) ∧ New w w' := by
  generalize hW : w.alloc (.cells (sdc 1 b a n c) 30) = w0
  have HB : Hid (w0.heap[w.heap.size]? = some (.cells (sdc 1 b a n c) 30 (0, 0))) := Lib.hid (by rw [← hW]; exact heap_alloc_new w _)
  have HN : Hid (New w w0) := Lib.hid (by rw [← hW]; exact (New.refl w).alloc _)
  have HROW := Lib.hid (h.stay HN.out)
  have HF := Lib.hid (fos_fine 1 b a n c l w0 HROW.out hz)
  clear hz
  have c0 := cell_of_row _ _ 0 _ _ _ HB.out
  have c1 := cell_of_row _ _ 1 _ _ _ HB.out
  have c2 := cell_of_row _ _ 2 _ _ _ HB.out
  go_enter Tryz.func15, Tryz.ntmps15
  go_wp2_with fail
  refine HF.out.mono ?_
  rintro e w1 ⟨⟨f, rfl, hg⟩, hn⟩
  have HN1 := Lib.hid (HN.out.trans hn)
  obtain ⟨g1, g2⟩ : f = ⟨nmF 1, lsF 1, msF 1, lbF 1, mbF 1, kyF 1, (.func (Fn.func 70) #[] #[]), (.func (Fn.func 72) #[] #[]), (.func (Fn.func 73) #[] #[]), (.func (Fn.func 75) #[] #[])⟩ ∧ True := by
    have hI := hg.now
    generalize hk : (1 : Int) = kk at hI
    cases hI with
    | poly => exact ⟨rfl, trivial⟩
    | odd b h => omega
    | sum k hk2 b b9 h h9 => omega
    | table k hk2 b be bs h he hs => omega
    | str b h => omega
  subst g1
  clear HF c0 c1 c2 g2 hg
  have hs := ((hn.alloc (.cells #[.string (nmF 1), .int .i64 (lsF 1), .int .i64 (msF 1), .int .i64 (lbF 1), .int .i64 (mbF 1), .int .i64 (kyF 1), (.func (Fn.func 70) #[] #[]), (.func (Fn.func 72) #[] #[]), (.func (Fn.func 73) #[] #[]), (.func (Fn.func 75) #[] #[])] 52)).block _ (lt_of_block HB.out)).trans HB.out
  have s0 := cell_of_row _ _ 0 _ _ _ hs
  have s1 := cell_of_row _ _ 1 _ _ _ hs
  have s2 := cell_of_row _ _ 2 _ _ _ hs
  have HCK := Lib.hid (ev_poly 1 b a n c l x (w1.alloc (.cells #[.string (nmF 1), .int .i64 (lsF 1), .int .i64 (msF 1), .int .i64 (lbF 1), .int .i64 (mbF 1), .int .i64 (kyF 1), (.func (Fn.func 70) #[] #[]), (.func (Fn.func 72) #[] #[]), (.func (Fn.func 73) #[] #[]), (.func (Fn.func 75) #[] #[])] 52)) (HROW.out.stay (hn.alloc _)))
  clear hn hs
  go_wp2_with fail
  refine HCK.out.mono ?_
  rintro e w2 ⟨rfl, hn2⟩
  have HN2 := Lib.hid ((HN1.out.alloc _).trans hn2)
  clear hn2
  go_wp2
  go_ret2
  exact ⟨rfl, HN2.out⟩
theorem ex27 : chF 1 61 [1#64, 2#64, 3#64, 4#64, 5#64] = 0 ∧ evC [1#64, 2#64, 3#64, 4#64, 5#64] 1#64 = 0 ∧ evP [1#64, 2#64, 3#64, 4#64, 5#64] 1#64 = 15#64 := by decide +kernel
theorem row27 (w : World) : QRow (w.alloc (.cells #[.int .u64 1, .int .u64 2, .int .u64 3, .int .u64 4, .int .u64 5] 31)) (some ⟨w.heap.size, 0, none⟩) 5 5 [1#64, 2#64, 3#64, 4#64, 5#64] := by
  let ⟨a, c, e, h⟩ := QRow.of_owns (l := [1#64, 2#64, 3#64, 4#64, 5#64]) (World.ownsRow_lit (base := w.heap.size) (e := 31) (size := 1) w #[.int .u64 1, .int .u64 2, .int .u64 3, .int .u64 4, .int .u64 5] 5 (Nat.le_refl _) (by decide) rfl) (by omega)
  cases e
  exact h
set_option maxRecDepth 100000 in
set_option maxHeartbeats 1000000 in
theorem awake27 (w : World) : Calls Tryz.prog 7 #[] w fun e w' => e = .returned (.bool true) ∧ New w w' := by
  obtain ⟨x1, x2, x3⟩ := ex27
  have HE := Lib.hid (fun (w' : World) (hr : QRow w' (some ⟨w.heap.size, 0, none⟩) 5 5 [1#64, 2#64, 3#64, 4#64, 5#64]) => feval_poly 61 (some ⟨w.heap.size, 0, none⟩) 5 5 _ 1#64 w' hr x1)
  have HT := Lib.hid (fun (w' : World) (hr : QRow w' (some ⟨w.heap.size, 0, none⟩) 5 5 [1#64, 2#64, 3#64, 4#64, 5#64]) => together_27 1 61 (some ⟨w.heap.size, 0, none⟩) 5 5 _ w' hr)
  rw [x2, x3, show W64 15#64 = 15 from by decide, show W64 1#64 = 1 from by decide] at HE
  rw [if_pos x1, show tgK 1 5 = 5 from by decide] at HT
  clear x1 x2 x3
  have HR := Lib.hid (row27 w)
  generalize hW : w.alloc (.cells #[.int .u64 1, .int .u64 2, .int .u64 3, .int .u64 4, .int .u64 5] 31) = wa at *
  have HA : Hid (New w wa) := Lib.hid (by rw [← hW]; exact (New.refl w).alloc _)
  have HS : Hid (wa.heap.size = w.heap.size + 1) := Lib.hid (by rw [← hW]; simp)
  have HBX := Lib.hid (heap_alloc_new wa (.cells (sdc 1 61 (some ⟨w.heap.size, 0, none⟩) 5 5) 30))
  have HAB := Lib.hid ((New.refl wa).alloc (.cells (sdc 1 61 (some ⟨w.heap.size, 0, none⟩) 5 5) 30))
  go_enter Tryz.func7, Tryz.ntmps7
  go_wp2_with fail
  refine (HE.out _ (HR.out.stay HAB.out)).mono ?_
  rintro e w2 ⟨rfl, hn2⟩
  have HN := Lib.hid (HAB.out.trans hn2)
  have hb := (hn2.block _ (lt_of_block HBX.out)).trans HBX.out
  have c0 := cell_of_row _ _ 0 _ _ _ hb
  have c1 := cell_of_row _ _ 1 _ _ _ hb
  have c2 := cell_of_row _ _ 2 _ _ _ hb
  clear hb hn2 HE
  go_wp2_with fail
  refine (HT.out _ (HR.out.stay HN.out)).mono ?_
  rintro e w3 ⟨rfl, hn3⟩
  replace HN := Lib.hid (HA.out.trans (HN.out.trans hn3))
  clear hn3 HT
  go_wp2
  go_ret
  exact ⟨rfl, HN.out⟩
theorem FamilyKinds_walk (W : World) (k : Int) (w0 : (Lit.int .i64 k).wf = true) :
    Calls Tryz.prog 3 #[.int .i64 k] W fun e w' => e = .returned (.bool true) ∧ Below W.heap.size W w' := by
  clear w0
  have HA := Lib.hid (awake27 W)
  have b1 : (lsF k == lsF k) = true := beq_self_eq_true _
  have b2 : (msF k == msF k) = true := beq_self_eq_true _
  have b3 : (kyF k == kyF k) = true := beq_self_eq_true _
  go_enter Tryz.func3, Tryz.ntmps3
  go_wp2_with fail
  refine (HA.out).mono ?_
  rintro e w9 ⟨rfl, hn⟩
  have HN := Lib.hid hn
  clear hn HA
  go_wp2_with fail
  refine (size_27 k _).mono ?_
  rintro e w9 ⟨rfl, hn⟩
  replace HN := Lib.hid (HN.out.trans hn)
  clear hn
  go_wp2_with fail
  refine (rleast_27 k _).mono ?_
  rintro e w9 ⟨rfl, hn⟩
  replace HN := Lib.hid (HN.out.trans hn)
  clear hn
  go_wp2_with fail
  refine (rmost_27 k _).mono ?_
  rintro e w9 ⟨rfl, hn⟩
  replace HN := Lib.hid (HN.out.trans hn)
  clear hn
  go_wp2_with fail
  refine (keys_27 k _).mono ?_
  rintro e w9 ⟨rfl, hn⟩
  replace HN := Lib.hid (HN.out.trans hn)
  clear hn
  go_wp2_with fail
  refine (rkeys_27 k _).mono ?_
  rintro e w9 ⟨rfl, hn⟩
  replace HN := Lib.hid (HN.out.trans hn)
  clear hn
  go_wp2_with fail
  refine (name_27 k _).mono ?_
  rintro e w9 ⟨rfl, hn⟩
  replace HN := Lib.hid (HN.out.trans hn)
  clear hn
  go_wp2_with fail
  refine (rname_27 k _).mono ?_
  rintro e w9 ⟨rfl, hn⟩
  replace HN := Lib.hid (HN.out.trans hn)
  clear hn
  go_wp2
  go_ret
  exact ⟨rfl, HN.out⟩
end Go.Proofs.YtebcfbcfipmahaaGreat
