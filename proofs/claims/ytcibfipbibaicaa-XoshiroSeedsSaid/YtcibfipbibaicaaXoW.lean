/- Contracts of xoshiro.Back, of the document's own Steps; the example of xoshiro (awake); the walks of the statements XoshiroTells and XoshiroBack. -/
import Derived.Test.YtcibfipbibaicaaXoU
namespace Go.Proofs.Ytcibfipbibaicaa
open Go.RowKit Go.Bv
set_option linter.unusedVariables false
theorem run_dn (q : Q4) (m : Nat) (hm : m ≤ 300) (w : World) :
    Calls Try.prog 19 #[.agg #[.int .u64 (W64 q.a), .int .u64 (W64 q.b), .int .u64 (W64 q.c), .int .u64 (W64 q.d)], .int .i64 (-(m : Int))] w fun e w' =>
      e = .returned (.agg #[.int .u64 (W64 (it9 bk9 m q).a), .int .u64 (W64 (it9 bk9 m q).b), .int .u64 (W64 (it9 bk9 m q).c), .int .u64 (W64 (it9 bk9 m q).d)]) ∧ New w w' := by
  rcases Nat.eq_zero_or_pos m with rfl | h
  · exact run_up q 0 (by omega) w
  · exact run_dn0 q m hm h w
theorem step_mv9 : Mv 12 st9 := fun q w => step_any9 q.a q.b q.c q.d w
theorem step_mvr : Mv 13 st9 := fun q w => step_ref9 q.a q.b q.c q.d w
set_option maxHeartbeats 1000000 in
theorem back_mv9 : Mv 18 bk9 := by
  intro q w
  obtain ⟨s0, s1, s2, s3⟩ := q
  go_enter Try.func18, Try.ntmps18
  go_wp2_with fail
  refine (back_mv ⟨s0, s1, s2, s3⟩ _).mono ?_
  rintro e w' ⟨rfl, hn⟩
  have k0 : w'.cell? ⟨w.heap.size + 1, 0, none⟩ = some (.int .u64 0) := fresh_cell hn 0
  have k1 : w'.cell? ⟨w.heap.size + 1, 1, none⟩ = some (.int .u64 0) := fresh_cell hn 1
  have k2 : w'.cell? ⟨w.heap.size + 1, 2, none⟩ = some (.int .u64 0) := fresh_cell hn 2
  have k3 : w'.cell? ⟨w.heap.size + 1, 3, none⟩ = some (.int .u64 0) := fresh_cell hn 3
  have kf := fresh_free hn
  have hN : New w w' := (((New.refl w).alloc _).alloc _).trans hn
  have HN := Lib.hid hN
  clear hN hn
  go_wp2
  refine bodyPost_ret (by simp [results, Try.results18, go_sem, k0, k1, k2, k3]; try rfl) rfl ?_
  exact ⟨rfl, (((HN.out.setCell (by simp) _).setCell (by simp) _).setCell (by simp) _).setCell (by simp) _⟩
set_option maxHeartbeats 2000000 in
theorem steps_ref9 (q : Q4) (m : Nat) (hm : m ≤ 300) (w : World) :
    Calls Try.prog 20 #[.agg #[.int .u64 (W64 q.a), .int .u64 (W64 q.b), .int .u64 (W64 q.c), .int .u64 (W64 q.d)], .int .i64 m] w fun e w' =>
      e = .returned (.agg #[.int .u64 (W64 (it9 st9 m q).a), .int .u64 (W64 (it9 st9 m q).b), .int .u64 (W64 (it9 st9 m q).c), .int .u64 (W64 (it9 st9 m q).d)]) ∧ New w w' := by
  obtain ⟨s0, s1, s2, s3⟩ := q
  go_enter Try.func20, Try.ntmps20
  go_wp2_with fail
  go_loopw [5] (fun i wr => ∃ k : Nat, k ≤ m ∧ i = .int .i64 k ∧ wr.heap[w.heap.size]? = some (.cells (cs4 (it9 st9 k ⟨s0, s1, s2, s3⟩)) 23 (0, 0)) ∧ wr.heap[w.heap.size + 1]? = some (.cells zs4 23 (0, 0)) ∧ New w wr) (fun i _ => m - (intOf i).toNat)
  case atStart =>
    exact ⟨0, by omega, rfl, heap_alloc2_old _ _ _, heap_alloc2_new _ _ _, ((New.refl w).alloc _).alloc _⟩
  case round =>
    obtain ⟨k, hk, rfl, hb2, hb1, hn⟩ := hrel
    by_cases hlt : (k : Int) < m
    · obtain ⟨c0, c1, c2, c3⟩ := row4 hb2
      have cf := fun i => frozen_of_row wr w.heap.size i _ _ hb2
      go_wp2_with fail
      refine (step_mvr _ _).mono ?_
      rintro e w' ⟨rfl, hn1⟩
      have hb2' : w'.heap[w.heap.size]? = some (.cells (cs4 (it9 st9 k ⟨s0, s1, s2, s3⟩)) 23 (0, 0)) := by rw [hn1.block _ (lt_of_block hb2)]; exact hb2
      have hb1' : w'.heap[w.heap.size + 1]? = some (.cells zs4 23 (0, 0)) := by rw [hn1.block _ (lt_of_block hb1)]; exact hb1
      have hn' : New w w' := hn.trans hn1
      clear hb1 hb2 hn hn1 c0 c1 c2 c3 cf
      obtain ⟨c0, c1, c2, c3⟩ := row4 hb2'
      have cf := fun i => frozen_of_row w' w.heap.size i _ _ hb2'
      have HB2 := Lib.hid (set4 (st9 (it9 st9 k ⟨s0, s1, s2, s3⟩)) hb2')
      have HB1 := Lib.hid hb1'
      have HN := Lib.hid hn'
      clear hb1' hb2' hn'
      go_wp2
      exact ⟨⟨k + 1, by omega, by go_num, HB2.out, by rw [set4_other _ (by omega)]; exact HB1.out, set4_new _ HN.out (by omega)⟩, by simp [intOf]; omega⟩
    · obtain rfl : k = m := by omega
      obtain ⟨c0, c1, c2, c3⟩ := row4 hb2
      have z0 := row4z hb1 0 (by omega)
      have z1 := row4z hb1 1 (by omega)
      have z2 := row4z hb1 2 (by omega)
      have z3 := row4z hb1 3 (by omega)
      have zf := fun i => frozen_of_row wr (w.heap.size + 1) i _ _ hb1
      have HN := Lib.hid hn
      clear hn hb1 hb2
      go_wp2
      refine bodyPost_ret (by simp [results, Try.results20, go_sem, z0, z1, z2, z3]; try rfl) rfl ?_
      exact ⟨rfl, set4_new _ HN.out (by omega)⟩
theorem unsh_left (x : BitVec 64) : unsh (x ^^^ x <<< 17) = x := by
  unfold unsh
  have h17 : (x <<< 17) <<< 17 = x <<< 34 := by rw [← BitVec.shiftLeft_add]
  have h34 : (x <<< 34) <<< 34 = 0#64 := by rw [← BitVec.shiftLeft_add]; simp
  rw [BitVec.shiftLeft_xor_distrib, h17, show x ^^^ x <<< 17 ^^^ (x <<< 17 ^^^ x <<< 34) = x ^^^ x <<< 34 by grind, BitVec.shiftLeft_xor_distrib, h34]
  grind
theorem unsh_right (z : BitVec 64) : unsh z ^^^ unsh z <<< 17 = z := by
  have h17 : (z <<< 17) <<< 17 = z <<< 34 := by rw [← BitVec.shiftLeft_add]
  have h1 : z ^^^ z <<< 17 ^^^ (z ^^^ z <<< 17) <<< 17 = z ^^^ z <<< 34 := by rw [BitVec.shiftLeft_xor_distrib, h17]; grind
  have h34 : (z <<< 34) <<< 34 = 0#64 := by rw [← BitVec.shiftLeft_add]; simp
  unfold unsh
  generalize z ^^^ z <<< 17 = y at h1 ⊢
  have e1 : (y ^^^ y <<< 34) <<< 17 = y <<< 17 ^^^ (y <<< 17) <<< 34 := by
    rw [BitVec.shiftLeft_xor_distrib, ← BitVec.shiftLeft_add, ← BitVec.shiftLeft_add]
  have e3 : y <<< 34 ^^^ (y <<< 17) <<< 34 = z <<< 34 := by
    rw [← BitVec.shiftLeft_xor_distrib, h1, BitVec.shiftLeft_xor_distrib, h34]; grind
  rw [e1]
  generalize (y <<< 17) <<< 34 = r at e3 ⊢
  generalize y <<< 34 = p at e3 ⊢
  generalize y <<< 17 = u at h1 ⊢
  generalize z <<< 34 = t at h1 e3
  rw [show y ^^^ p ^^^ (u ^^^ r) = (y ^^^ u) ^^^ (p ^^^ r) by grind, h1, e3]
  grind
theorem rot_45 (x : BitVec 64) : (x.rotateLeft 45).rotateLeft 19 = x := rot_back x 45 (by omega)
theorem rot_19 (x : BitVec 64) : (x.rotateLeft 19).rotateLeft 45 = x := rot_back x 19 (by omega)
theorem bk_st (q : Q4) : bk9 (st9 q) = q := by
  obtain ⟨a, b, c, d⟩ := q
  have h1 : (b ^^^ (c ^^^ a)) ^^^ ((c ^^^ a) ^^^ b <<< 17) = b ^^^ b <<< 17 := by grind
  simp only [bk9, st9, rot_45, h1, unsh_left, Q4.mk.injEq]
  refine ⟨by grind, trivial, by grind, by grind⟩
theorem st_bk (q : Q4) : st9 (bk9 q) = q := by
  obtain ⟨a, b, c, d⟩ := q
  have h := unsh_right (b ^^^ c)
  simp only [bk9, st9, Q4.mk.injEq]
  have hd := rot_19 d
  generalize unsh (b ^^^ c) = u at h ⊢
  generalize hr : d.rotateLeft 19 = r at hd ⊢
  have hv : u <<< 17 = u ^^^ (b ^^^ c) := by rw [← h, ← BitVec.xor_assoc, BitVec.xor_self, BitVec.zero_xor]
  rw [hv]
  clear hv h hr
  refine ⟨by grind, by grind, by grind, ?_⟩
  rw [show r ^^^ u ^^^ u = r by grind, hd]
theorem it_back {f g : Q4 → Q4} (h : ∀ q, f (g q) = q) (k : Nat) (q : Q4) : it9 f k (it9 g k q) = q := by
  have hc : ∀ k q, it9 f k (f q) = f (it9 f k q) := by
    intro k; induction k with
    | zero => intro q; rfl
    | succ k ih => intro q; show f (it9 f k (f q)) = f (f (it9 f k q)); rw [ih]
  induction k with
  | zero => rfl
  | succ k ih => show f (it9 f k (g (it9 g k q))) = q; rw [← hc, h, ih]
def sq0 : Q4 := ⟨1#64, 2#64, 3#64, 4#64⟩
theorem lits : (W64 1#64 = 1 ∧ W64 2#64 = 2) ∧ (W64 3#64 = 3 ∧ W64 4#64 = 4) := ⟨⟨W64_lit 1 (by omega), W64_lit 2 (by omega)⟩, W64_lit 3 (by omega), W64_lit 4 (by omega)⟩
theorem fresh_one {w w' : World} {cs : Array Value} {t : TypeId} (hn : New (w.alloc (.cells cs t)) w') (i : Nat) : w'.cell? ⟨w.heap.size, i, none⟩ = cs[i]? := by
  rw [hn.cell (a := ⟨w.heap.size, i, none⟩) (by simp)]
  exact cell_of_row _ _ _ cs t (0, 0) (heap_alloc_new w (.cells cs t))
set_option maxHeartbeats 1000000 in
theorem awake09 (w : World) :
    Calls Try.prog 11 #[] w fun e w' => e = .returned (.bool true) ∧ New w w' := by
  have h1 : (ss9 2#64 == 11520#64) = true := by decide +kernel
  have h2 : (ss9 (st9 sq0).b == 0#64) = true := by decide +kernel
  have h3 : (ss9 (it9 st9 2 sq0).b == 1509978240#64) = true := by decide +kernel
  obtain ⟨⟨l1, l2⟩, l3, l4⟩ := lits
  have hss := ss_any 1#64 2#64 3#64 4#64
  have hst := step_mv9 sq0
  have hrn := run_up sq0 2 (by omega)
  rw [show sq0.a = 1#64 from rfl, show sq0.b = 2#64 from rfl, show sq0.c = 3#64 from rfl, show sq0.d = 4#64 from rfl] at hrn hst
  rw [l1, l2, l3, l4] at hss hst hrn
  generalize st9 sq0 = r at h2 hst
  generalize it9 st9 2 sq0 = p at h3 hrn
  obtain ⟨r0, r1, r2, r3⟩ := r
  obtain ⟨p0, p1, p2, p3⟩ := p
  generalize ss9 2#64 = x1 at h1 hss
  have hs2 := ss_any r0 r1 r2 r3
  have hs3 := ss_any p0 p1 p2 p3
  change (ss9 r1 == 0#64) = true at h2
  change (ss9 p1 == 1509978240#64) = true at h3
  generalize ss9 r1 = x2 at h2 hs2
  generalize ss9 p1 = x3 at h3 hs3
  have HSS := Lib.hid hss
  have HS2 := Lib.hid hs2
  have HS3 := Lib.hid hs3
  have HST := Lib.hid hst
  have HRN := Lib.hid hrn
  clear hss hst hrn hs2 hs3 l1 l2 l3 l4
  go_enter Try.func11, Try.ntmps11
  go_wp2_with fail
  refine (HSS.out _).mono ?_
  rintro e w1 ⟨rfl, hn⟩
  have k0 : w1.cell? ⟨w.heap.size, 0, none⟩ = some (.int .u64 1) := fresh_one hn 0
  have k1 : w1.cell? ⟨w.heap.size, 1, none⟩ = some (.int .u64 2) := fresh_one hn 1
  have k2 : w1.cell? ⟨w.heap.size, 2, none⟩ = some (.int .u64 3) := fresh_one hn 2
  have k3 : w1.cell? ⟨w.heap.size, 3, none⟩ = some (.int .u64 4) := fresh_one hn 3
  go_wp2_with fail
  refine (HST.out _).mono ?_
  rintro e w2 ⟨rfl, hn2⟩
  go_wp2_with fail
  refine (HS2.out _).mono ?_
  rintro e w3 ⟨rfl, hn3⟩
  clear k0 k1 k2 k3
  have hn3 := (hn.trans hn2).trans hn3
  clear hn hn2
  have k0 : w3.cell? ⟨w.heap.size, 0, none⟩ = some (.int .u64 1) := fresh_one hn3 0
  have k1 : w3.cell? ⟨w.heap.size, 1, none⟩ = some (.int .u64 2) := fresh_one hn3 1
  have k2 : w3.cell? ⟨w.heap.size, 2, none⟩ = some (.int .u64 3) := fresh_one hn3 2
  have k3 : w3.cell? ⟨w.heap.size, 3, none⟩ = some (.int .u64 4) := fresh_one hn3 3
  go_wp2_with fail
  refine (HRN.out _).mono ?_
  rintro e w4 ⟨rfl, hn4⟩
  go_wp2_with fail
  refine (HS3.out _).mono ?_
  rintro e w5 ⟨rfl, hn5⟩
  go_wp2
  go_ret
  exact ⟨rfl, (((New.refl w).alloc _).trans hn3).trans (hn4.trans hn5)⟩
end Go.Proofs.Ytcibfipbibaicaa
