import Derived.Test.YtdjlbpgjbgepdaaGreatShfM
import Derived.Test.YtdjlbpgjbgepdaaGreatTabB
import Derived.BigRegion
import Derived.Deep.RegionHeld3
import Derived.Deep.DeepCutAuto
section
/- shuffle: rows, clones; which lists are choices, which are orders. · shuffle: which lists are orders. · shuffle.Perm; the document's own Perm. -/
namespace Go.Proofs.YtdjlbpgjbgepdaaGreat
open Go Go.RowKit Go.Bv
set_option linter.unusedVariables false
theorem info_int40 : (Tryz.prog.info? 3).map (fun i => (i.zero, i.size, i.bytes)) = some (some (.int .i64 0), 1, 8) := by kernel_rfl
theorem info_bool40 : (Tryz.prog.info? 4).map (fun i => (i.zero, i.size, i.bytes)) = some (some (.bool false), 1, 1) := by kernel_rfl
theorem one_cell (w : World) (x : Value) (t : TypeId) : ∀ j u, [x][j]? = some u → (w.alloc (.cells #[x] t)).cell? ((⟨w.heap.size, 0, none⟩ : Addr).add j) = some u := cell_one_new w x t
theorem liI_succ (f : Nat → Nat) (n : Nat) : liI f (n + 1) = liI f n ++ [(f n : Int)] := by unfold liI; rw [List.range_succ, List.map_append]; rfl
/-- the first k numbers in their order, zeros behind them -/
def sqI (n k : Nat) : List Int := liI (fun x => if x < k then x else 0) n
theorem sqI_zero (n : Nat) : (List.replicate n (Value.int .i64 0)) = (sqI n 0).map fun x => .int .i64 x := by
  unfold sqI liI
  apply List.ext_getElem?
  intro i
  rw [List.getElem?_replicate, List.getElem?_map, List.getElem?_map]
  by_cases h : i < n
  · rw [if_pos h, List.getElem?_range h]; simp
  · rw [if_neg h, List.getElem?_eq_none (by simp; omega)]; rfl
theorem sqI_all (n : Nat) : sqI n n = liI (fun x => x) n := liI_ext fun x hx => by rw [if_pos hx]
theorem sqI_set (n k : Nat) (h : k < n) : (sqI n k).set k (k : Int) = sqI n (k + 1) := by
  unfold sqI
  rw [liI_set _ k h]
  apply liI_ext
  intro x _
  by_cases e : x = k
  · rw [if_pos e, if_pos (by omega), e]
  · rw [if_neg e]
    by_cases e2 : x < k
    · rw [if_pos e2, if_pos (by omega)]
    · rw [if_neg e2, if_neg (by omega)]
theorem make_int (n : Nat) (hn : n ≤ 1000000) (t : Int) (w : World) (ht : t = ((n : Nat) : Int)) : (Instr.makeSlice 78 (.int .i64 t) (.int .i64 t)).run Tryz.prog w = .ok (.slice (some ⟨w.heap.size, 0, none⟩) n n) (w.alloc (.cells (madeCells #[.int .i64 0] n) 3)) := by
  obtain ⟨i0, hi, hz0, hz1, hz2⟩ := info_parts info_int40
  subst ht
  exact run_make_row (P := Tryz.prog) 78 3 i0 (.int .i64 0) Tryz.underlying78 hi hz0 hz1 rfl .i64 .i64 n (by rw [hz2]; omega) (by omega) w
/-- whether the first k may be choices -/
def rtB (c : List Int) : Nat → Bool
  | 0 => true
  | k + 1 => rtB c k && (decide (0 ≤ c.getD k 0) && decide (c.getD k 0 ≤ (k : Int)))
theorem rtB_iff {c : List Int} : ∀ {k}, rtB c k = true ↔ ∀ i, i < k → 0 ≤ c.getD i 0 ∧ c.getD i 0 ≤ (i : Int)
  | 0 => ⟨fun _ i h => by omega, fun _ => rfl⟩
  | k + 1 => by
    show (rtB c k && (decide (0 ≤ c.getD k 0) && decide (c.getD k 0 ≤ (k : Int)))) = true ↔ _
    rw [Bool.and_eq_true, Bool.and_eq_true, decide_eq_true_eq, decide_eq_true_eq, rtB_iff (k := k)]
    constructor
    · rintro ⟨h1, h2⟩ i hi
      by_cases e : i = k
      · subst e; exact h2
      · exact h1 i (by omega)
    · intro h
      exact ⟨fun i hi => h i (by omega), h k (by omega)⟩
theorem rtB_no {c : List Int} {n k : Nat} (hk : k < n) (h : c.getD k 0 < 0 ∨ (k : Int) < c.getD k 0) : rtB c n = false := by
  rw [← Bool.not_eq_true, rtB_iff]
  intro h2
  have := h2 k hk
  omega
def rightB (c : List Int) : Bool := rtB c c.length
theorem rightB_iff {c : List Int} : rightB c = true ↔ rtI c := rtB_iff
end Go.Proofs.YtdjlbpgjbgepdaaGreat
namespace Go.Proofs.YtdjlbpgjbgepdaaGreat
open Go Go.RowKit Go.Bv
set_option linter.unusedVariables false
/-- whether x is among the first k -/
def seI (p : List Int) (x : Nat) : Nat → Bool
  | 0 => false
  | k + 1 => seI p x k || decide (p.getD k 0 = (x : Int))
theorem seI_iff {p : List Int} {x : Nat} : ∀ {k}, seI p x k = true ↔ ∃ j, j < k ∧ p.getD j 0 = (x : Int)
  | 0 => ⟨fun h => (by cases h), fun ⟨j, h, _⟩ => by omega⟩
  | k + 1 => by
    show (seI p x k || decide (p.getD k 0 = (x : Int))) = true ↔ _
    rw [Bool.or_eq_true, decide_eq_true_eq, seI_iff (k := k)]
    constructor
    · rintro (⟨j, h1, h2⟩ | h)
      · exact ⟨j, by omega, h2⟩
      · exact ⟨k, by omega, h⟩
    · rintro ⟨j, h1, h2⟩
      by_cases e : j = k
      · subst e; exact .inr h2
      · exact .inl ⟨j, by omega, h2⟩
/-- which numbers are among the first k -/
def seL (p : List Int) (n k : Nat) : List Bool := (List.range n).map fun x => seI p x k
theorem seL_len (p : List Int) (n k : Nat) : (seL p n k).length = n := by unfold seL; simp
theorem seL_get (p : List Int) {n x : Nat} (k : Nat) (h : x < n) : (seL p n k).getD x false = seI p x k := by
  unfold seL; rw [List.getD_eq_getElem?_getD, List.getElem?_map, List.getElem?_range h]; rfl
theorem bools_eq {n : Nat} {la lb : List Bool} (ha : la.length = n) (hb : lb.length = n) (h : ∀ j, j < n → la.getD j false = lb.getD j false) : la = lb := by
  apply List.ext_getElem?
  intro i
  rcases Nat.lt_or_ge i n with hi | hi
  · have := h i hi
    rw [List.getD_eq_getElem?_getD, List.getD_eq_getElem?_getD, List.getElem?_eq_getElem (by omega), List.getElem?_eq_getElem (by omega)] at this
    rw [List.getElem?_eq_getElem (by omega), List.getElem?_eq_getElem (by omega)]
    exact congrArg some this
  · rw [List.getElem?_eq_none (by omega), List.getElem?_eq_none (by omega)]
theorem seL_set (p : List Int) (n k y : Nat) (hy : y < n) (he : p.getD k 0 = (y : Int)) : (seL p n k).set y true = seL p n (k + 1) := by
  apply bools_eq (n := n) (by rw [List.length_set, seL_len]) (seL_len _ _ _)
  intro i hi
  rw [seL_get p (k + 1) hi, List.getD_eq_getElem?_getD, List.getElem?_set, seL_len]
  show _ = (seI p i k || decide (p.getD k 0 = (i : Int)))
  by_cases e : y = i
  · subst e; rw [if_pos rfl, if_pos hy, he]; simp
  · rw [if_neg e, ← List.getD_eq_getElem?_getD, seL_get p k hi, he, decide_eq_false (by omega), Bool.or_false]
theorem seL_zero (p : List Int) (n : Nat) : List.replicate n (Value.bool false) = (seL p n 0).map fun x => .bool x := by
  unfold seL
  apply List.ext_getElem?
  intro i
  rw [List.getElem?_replicate, List.getElem?_map, List.getElem?_map]
  by_cases h : i < n
  · rw [if_pos h, List.getElem?_range h]; rfl
  · rw [if_neg h, List.getElem?_eq_none (by simp; omega)]; rfl
/-- whether a list is an order -/
def isB (p : List Int) : Bool := (List.range p.length).all fun i => cntI p i p.length == 1
theorem isB_iff {p : List Int} : isB p = true ↔ isO p := by
  rw [isO_cnt]
  unfold isB
  rw [List.all_eq_true]
  constructor
  · intro h i hi
    have := h i (List.mem_range.2 hi)
    rwa [beq_iff_eq] at this
  · intro h i hi
    rw [beq_iff_eq]
    exact h i (List.mem_range.1 hi)
theorem isB_no {p : List Int} (h : ¬ isO p) : isB p = false := by rw [← Bool.not_eq_true, isB_iff]; exact h
theorem cnt_step (p : List Int) (i m : Nat) : cntI p i (m + 1) = cntI p i m + if p.getD m 0 = (i : Int) then 1 else 0 := rfl
theorem cnt_le (p : List Int) (i : Nat) : ∀ m, cntI p i m ≤ m
  | 0 => Nat.le_refl _
  | m + 1 => by have := cnt_le p i m; rw [cnt_step]; split <;> omega
end Go.Proofs.YtdjlbpgjbgepdaaGreat
namespace Go.Proofs.YtdjlbpgjbgepdaaGreat
open Go Go.RowKit Go.Bv
set_option linter.unusedVariables false
theorem st_put {c : Nat → Nat} {n k : Nat} (hc : rtF c n) (hk : k < n) : stF c n n (n - 1 - k) = stF c n k (c (n - 1 - k)) := by
  have h3 := st_stay hc (k := k + 1) (x := n - 1 - k) (by omega) (by omega) (n - (k + 1)) (by omega)
  rw [show k + 1 + (n - (k + 1)) = n by omega] at h3
  rw [h3]
  show sw _ _ _ _ = _
  unfold sw
  by_cases e1 : n - 1 - k = c (n - 1 - k)
  · rw [if_pos e1]; exact congrArg _ e1
  · rw [if_neg e1, if_pos rfl]
theorem liI_take (f : Nat → Nat) (j : Nat) : (liI f (j + 1)).take j = liI f j := by
  rw [liI_succ, List.take_left' (liI_len f j)]
theorem row_next (f : Nat → Nat) {j q : Nat} (hq : q ≤ j) : ((liI f (j + 1)).set q (f j : Int)).take j = liI (sw f j q) j := by
  rw [liI_set f (f j) (show q < j + 1 by omega), liI_take]
  apply liI_ext
  intro x hx
  unfold sw
  by_cases e : x = q
  · rw [if_pos e, if_pos e]
  · rw [if_neg e, if_neg e, if_neg (by omega)]
theorem ow_cut {w : World} {base g n cap m : Nat} {e : TypeId} {xs : List Value} (h : w.ownsRow base e 1 (.slice (some ⟨g, 0, none⟩) n cap) n xs) (hm : m ≤ n) : w.ownsRow base e 1 (.slice (some ⟨g, 0, none⟩) m cap) m (xs.take m) := by
  obtain ⟨hl, h | ⟨g', cap', cur, hv, hb, hc, h1, h2, h3, h4⟩⟩ := h
  · cases h.1
  · injection hv with e1 e2 e3
    cases e1; subst e3
    refine ⟨by rw [List.length_take]; omega, Or.inr ⟨g, cap, cur, rfl, hb, hc, by omega, h2, h3, ?_⟩⟩
    rw [← h4, List.take_take]; congr 1; omega
theorem in64_li (f : Nat → Nat) {n : Nat} (h : ∀ x, x < n → f x < 9223372036854775807) : ∀ z ∈ liI f n, In64 z := by
  intro z hz
  unfold liI at hz
  obtain ⟨x, hx, rfl⟩ := List.mem_map.1 hz
  have := h x (List.mem_range.1 hx)
  unfold In64; omega
theorem nil_zrow (w : World) : ZRow w none 0 0 [] := ⟨rfl, Nat.le_refl _, by omega, by omega, (fun _ => ⟨rfl, rfl⟩), (fun b off e => by cases e), (fun x e => by cases e), (fun x e => by cases e), (fun x e => by cases e)⟩
/-- what is taken out, the last place first -/
def bkF (l : List Int) (n : Nat) : Nat → Nat := fun t => stF (fnI l) n n (n - 1 - t)
theorem pm_take (l : List Int) (k : Nat) (h : k < l.length) : (pmI l).take (k + 1) = (pmI l).take k ++ [(bkF l l.length (l.length - 1 - k) : Int)] := by
  rw [List.take_add_one, List.getElem?_eq_getElem (by rw [pmI_len]; exact h)]
  congr 1
  have h1 := liI_get (stF (fnI l) l.length l.length) h
  rw [List.getD_eq_getElem?_getD, List.getElem?_eq_getElem (by rw [liI_len]; exact h)] at h1
  show [_] = [_]
  congr 1
  unfold bkF
  rw [show l.length - 1 - (l.length - 1 - k) = k by omega]
  exact h1
def pmT (l : List Int) (k : Nat) : List Int := (pmI l).take k
end Go.Proofs.YtdjlbpgjbgepdaaGreat
end
section
/- shuffle.Choices. -/
namespace Go.Proofs.YtdjlbpgjbgepdaaGreat
open Go Go.RowKit Go.Bv
set_option linter.unusedVariables false
theorem ch_next (p : Nat → Nat) {n k i : Nat} (hk : k < n) (hi : n - 1 - k = i) :
    chC p n (k + 1) = (fun x => if x = i then inF (chC p n k) n k (p i) else chC p n k x) ∧ stF (chC p n (k + 1)) n (k + 1) = sw (stF (chC p n k) n k) i (inF (chC p n k) n k (p i)) ∧ inF (chC p n (k + 1)) n (k + 1) = swI (stF (chC p n k) n k) (inF (chC p n k) n k) i (inF (chC p n k) n k (p i)) := by
  subst hi
  refine ⟨rfl, ?_, ?_⟩
  · show sw _ _ _ = _
    rw [ch_st p n k hk, ch_at]
  · show swI _ _ _ _ = _
    rw [ch_st p n k hk, ch_in p n k hk, ch_at]
theorem sw_at (f : Nat → Nat) (i j : Nat) : sw f i j i = f j := by
  unfold sw
  by_cases e : i = j
  · rw [if_pos e, e]
  · rw [if_neg e, if_pos rfl]
theorem sw_at2 (f : Nat → Nat) (i j : Nat) : sw f i j j = f i := by unfold sw; rw [if_pos rfl]
theorem liI_swI (f g : Nat → Nat) {n i j : Nat} (h1 : f j < n) (h2 : f i < n) : ((liI g n).set (f j) (i : Int)).set (f i) (j : Int) = liI (swI f g i j) n := by
  rw [liI_set g i h1, liI_set _ j h2]; rfl
theorem zeros_li (n : Nat) : (List.replicate n (Value.int .i64 0)) = (liI (fun _ => 0) n).map fun x => .int .i64 x := by
  unfold liI
  apply List.ext_getElem?
  intro i
  rw [List.getElem?_replicate, List.getElem?_map, List.getElem?_map]
  by_cases h : i < n
  · rw [if_pos h, List.getElem?_range h]; rfl
  · rw [if_neg h, List.getElem?_eq_none (by simp; omega)]; rfl
theorem ow_in {w : World} {base g n cap : Nat} {e : TypeId} {xs : List Value} (h : w.ownsRow base e 1 (.slice (some ⟨g, 0, none⟩) n cap) n xs) : base ≤ g ∧ g < w.heap.size ∧ n ≤ cap := by
  obtain ⟨hl, h | ⟨g', cap', cur, hv, hb, hc, h2, h3, _⟩⟩ := h
  · cases h.1
  · injection hv with e1 e2 e3
    cases e1; subst e3
    exact ⟨hb, lt_of_block hc, h2⟩
end Go.Proofs.YtdjlbpgjbgepdaaGreat
end
section
/- shuffle: the example; the laws ShuffleOrders, ShuffleOnly. -/
namespace Go.Proofs.YtdjlbpgjbgepdaaGreat
open Go Go.RowKit Go.Bv
set_option linter.unusedVariables false
end Go.Proofs.YtdjlbpgjbgepdaaGreat
end
