/- Layer 43: spans of a column, how many pairs of them lie ahead, an item's weight. -/
import Derived.Test.YtbjclkjikclljaaAliF
namespace Go.Ali
/-- how many numbers of a span are below u -/
def szV (f t u : BitVec 64) : BitVec 64 := if u.toNat ≤ f.toNat then 0#64 else (if u.toNat ≤ t.toNat then u else t) - f
/-- the four ends of a column's spans -/
def sp0 (be : List (BitVec 64)) (c : Nat) (item : Int) : BitVec 64 := if (c : Int) = item then be.getD c 0 else 0#64
def sp1 (be : List (BitVec 64)) (al : List Int) (c : Nat) (item : Int) : BitVec 64 := if al.getD c 0 = item then be.getD c 0 else 0#64
def sp2 (T : BitVec 64) (al : List Int) (c : Nat) (item : Int) : BitVec 64 := if al.getD c 0 = item then T else 0#64
/-- what a column counts, up to a number -/
def clV (T : BitVec 64) (be : List (BitVec 64)) (al : List Int) (item : Int) (k : Nat) (u : BitVec 64) : BitVec 64 := szV 0#64 (sp0 be k item) u + szV (sp1 be al k item) (sp2 T al k item) u
/-- the pairs ahead of a pair, in the first k columns -/
def bfK (T : BitVec 64) (be : List (BitVec 64)) (al : List Int) (item c : Int) (u : BitVec 64) : Nat → BitVec 64
  | 0 => 0#64
  | k + 1 => bfK T be al item c u k + (if (k : Int) < c then clV T be al item k T else if (k : Int) = c then clV T be al item k u else 0#64)
end Go.Ali
namespace Go.Proofs.Ytbjclkjikclljaa
open Go Go.RowKit Go.Bv Go.Ali
set_option linter.unusedVariables false
set_option maxRecDepth 100000
theorem dle (a b : BitVec 64) : decide (W64 a ≤ W64 b) = decide (a.toNat ≤ b.toNat) := decide_eq_decide.2 (by unfold W64; omega)
set_option maxHeartbeats 4000000 in
theorem size_43 (f t u : BitVec 64) (w : World) : Calls Try.prog 33 #[.agg #[.int .u64 (W64 f), .int .u64 (W64 t)], .int .u64 (W64 u)] w fun e w' => e = .returned (.int .u64 (W64 (szV f t u))) ∧ New w w' := by
  have hbx := heap_alloc_new w (.cells #[.int .u64 (W64 f), .int .u64 (W64 t)] 68)
  have k0 := cell_of_row _ _ 0 _ _ _ hbx
  have k1 := cell_of_row _ _ 1 _ _ _ hbx
  have hd := dle u f
  have hz : W64 0#64 = 0 := W64_lit 0 (by omega)
  by_cases h1 : u.toNat ≤ f.toNat
  · have HS : Hid (szV f t u = 0#64) := Lib.hid (by unfold szV; rw [if_pos h1])
    rw [decide_eq_true h1] at hd
    clear h1
    go_enter Try.func33, Try.ntmps33
    go_wp2
    go_ret
    rw [HS.out, hz]
    exact ⟨rfl, (New.refl w).alloc _⟩
  · have HS : Hid (szV f t u = (if u.toNat ≤ t.toNat then u else t) - f) := Lib.hid (by unfold szV; rw [if_neg h1])
    rw [decide_eq_false h1] at hd
    clear h1
    go_enter Try.func33, Try.ntmps33
    go_wp2
    all_goals (
      go_ret
      rw [HS.out]
      refine ⟨?_, (New.refl w).alloc _⟩
      by_cases hu : u.toNat ≤ t.toNat
      · rw [if_pos hu]
        first | rfl | (exfalso; unfold W64 at *; omega)
      · rw [if_neg hu]
        first | rfl | (exfalso; unfold W64 at *; omega))
set_option maxHeartbeats 8000000 in
theorem spans_43 (T : BitVec 64) (ab : Option Addr) (n cb : Nat) (aa : Option Addr) (ca : Nat) (be : List (BitVec 64)) (al : List Int) (c : Nat) (item : Int) (hc : c < n) (w : World) (h : TL w ab n cb aa n ca be al) :
    Calls Try.prog 32 #[tv T ab n cb aa n ca, .int .i64 (c : Int), .int .i64 item] w fun e w' => e = .returned (.agg #[.int .u64 0, .int .u64 (W64 (sp0 be c item)), .int .u64 (W64 (sp1 be al c item)), .int .u64 (W64 (sp2 T al c item))]) ∧ New w w' := by
  have hm := h.b.most
  obtain ⟨p1, o1, e1, _⟩ := h.b.addr (by omega)
  subst e1
  obtain ⟨p2, o2, e2, _⟩ := h.a.addr (by omega)
  subst e2
  have hN := fun o : Obj => (((New.refl w).alloc (TB (.int .u64 (W64 T)) (.slice (some ⟨p1, o1, none⟩) n cb) (.slice (some ⟨p2, o2, none⟩) n ca))).alloc (.cells #[.int .u64 0, .int .u64 0, .int .u64 0, .int .u64 0] 69)).alloc o
  have d1 := fun o : Obj => (h.b.stay (hN o)).cell p1 o1 rfl c hc
  have d2 := fun o : Obj => (h.a.stay (hN o)).cell p2 o2 rfl c hc
  have hc0 : (0 : Int) ≤ (c : Int) := by omega
  have hcn : (c : Int) < (n : Int) := by omega
  have hz : W64 0#64 = 0 := W64_lit 0 (by omega)
  have HS0 : Hid (sp0 be c item = if (c : Int) = item then be.getD c 0 else 0#64) := Lib.hid rfl
  have HS1 : Hid (sp1 be al c item = if al.getD c 0 = item then be.getD c 0 else 0#64) := Lib.hid rfl
  have HS2 : Hid (sp2 T al c item = if al.getD c 0 = item then T else 0#64) := Lib.hid rfl
  obtain ⟨x, hx⟩ : ∃ x, be.getD c 0 = x := ⟨_, rfl⟩
  obtain ⟨y, hy⟩ : ∃ y, al.getD c 0 = y := ⟨_, rfl⟩
  rw [hx] at d1 HS0 HS1
  rw [hy] at d2 HS1 HS2
  have HN3 := Lib.hid hN
  have k0 := fun o : Obj => cell_of_row _ _ 0 _ _ _ (tri w (TB (.int .u64 (W64 T)) (.slice (some ⟨p1, o1, none⟩) n cb) (.slice (some ⟨p2, o2, none⟩) n ca)) (.cells #[.int .u64 0, .int .u64 0, .int .u64 0, .int .u64 0] 69) o).1
  have k1 := fun o : Obj => cell_of_row _ _ 1 _ _ _ (tri w (TB (.int .u64 (W64 T)) (.slice (some ⟨p1, o1, none⟩) n cb) (.slice (some ⟨p2, o2, none⟩) n ca)) (.cells #[.int .u64 0, .int .u64 0, .int .u64 0, .int .u64 0] 69) o).1
  have k2 := fun o : Obj => cell_of_row _ _ 2 _ _ _ (tri w (TB (.int .u64 (W64 T)) (.slice (some ⟨p1, o1, none⟩) n cb) (.slice (some ⟨p2, o2, none⟩) n ca)) (.cells #[.int .u64 0, .int .u64 0, .int .u64 0, .int .u64 0] 69) o).1
  have r0 := fun o : Obj => cell_of_row _ _ 0 _ _ _ (tri w (TB (.int .u64 (W64 T)) (.slice (some ⟨p1, o1, none⟩) n cb) (.slice (some ⟨p2, o2, none⟩) n ca)) (.cells #[.int .u64 0, .int .u64 0, .int .u64 0, .int .u64 0] 69) o).2.1
  have r1 := fun o : Obj => cell_of_row _ _ 1 _ _ _ (tri w (TB (.int .u64 (W64 T)) (.slice (some ⟨p1, o1, none⟩) n cb) (.slice (some ⟨p2, o2, none⟩) n ca)) (.cells #[.int .u64 0, .int .u64 0, .int .u64 0, .int .u64 0] 69) o).2.1
  have r2 := fun o : Obj => cell_of_row _ _ 2 _ _ _ (tri w (TB (.int .u64 (W64 T)) (.slice (some ⟨p1, o1, none⟩) n cb) (.slice (some ⟨p2, o2, none⟩) n ca)) (.cells #[.int .u64 0, .int .u64 0, .int .u64 0, .int .u64 0] 69) o).2.1
  have r3 := fun o : Obj => cell_of_row _ _ 3 _ _ _ (tri w (TB (.int .u64 (W64 T)) (.slice (some ⟨p1, o1, none⟩) n cb) (.slice (some ⟨p2, o2, none⟩) n ca)) (.cells #[.int .u64 0, .int .u64 0, .int .u64 0, .int .u64 0] 69) o).2.1
  have rf := fun (o : Obj) i => frozen_of_row _ _ i _ _ (tri w (TB (.int .u64 (W64 T)) (.slice (some ⟨p1, o1, none⟩) n cb) (.slice (some ⟨p2, o2, none⟩) n ca)) (.cells #[.int .u64 0, .int .u64 0, .int .u64 0, .int .u64 0] 69) o).2.1
  clear h hx hy hN
  by_cases hi : (c : Int) = item
  · subst hi
    rw [if_pos rfl] at HS0
    have hbi : ((c : Int) == (c : Int)) = true := by simp
    by_cases hj : y = (c : Int)
    · rw [if_pos hj] at HS1 HS2
      have hbj : (y == (c : Int)) = true := by rw [beq_iff_eq]; exact hj
      clear hj
      go_enter Try.func32, Try.ntmps32
      go_wp2_with fail
      go_region
      go_wp2
      refine bodyPost_ret (by simp [results, Try.results32, go_sem]; try rfl) rfl ?_
      rw [HS0.out, HS1.out, HS2.out]
      try rw [hz]
      exact ⟨rfl, ((((New.refl w).alloc _).alloc _).alloc _).drew⟩
    · rw [if_neg hj] at HS1 HS2
      have hbj : (y == (c : Int)) = false := by rw [beq_eq_false_iff_ne]; exact hj
      clear hj
      go_enter Try.func32, Try.ntmps32
      go_wp2_with fail
      refine bodyPost_ret (by simp [results, Try.results32, go_sem]; try rfl) rfl ?_
      rw [HS0.out, HS1.out, HS2.out]
      try rw [hz]
      exact ⟨rfl, (((New.refl w).alloc _).alloc _).alloc _⟩
  · rw [if_neg hi] at HS0
    have hbi : ((c : Int) == item) = false := by rw [beq_eq_false_iff_ne]; exact hi
    clear hi
    by_cases hj : y = item
    · rw [if_pos hj] at HS1 HS2
      have hbj : (y == item) = true := by rw [beq_iff_eq]; exact hj
      clear hj
      go_enter Try.func32, Try.ntmps32
      go_wp2_with fail
      go_region
      go_wp2
      refine bodyPost_ret (by simp [results, Try.results32, go_sem]; try rfl) rfl ?_
      rw [HS0.out, HS1.out, HS2.out]
      try rw [hz]
      exact ⟨rfl, ((((New.refl w).alloc _).alloc _).alloc _).drew⟩
    · rw [if_neg hj] at HS1 HS2
      have hbj : (y == item) = false := by rw [beq_eq_false_iff_ne]; exact hj
      clear hj
      go_enter Try.func32, Try.ntmps32
      go_wp2_with fail
      refine bodyPost_ret (by simp [results, Try.results32, go_sem]; try rfl) rfl ?_
      rw [HS0.out, HS1.out, HS2.out]
      try rw [hz]
      exact ⟨rfl, (((New.refl w).alloc _).alloc _).alloc _⟩
end Go.Proofs.Ytbjclkjikclljaa
