/- shuffle: rows, clones; which lists are choices, which are orders. · shuffle: which lists are orders. · shuffle.Perm; the document's own Perm. -/
import Derived.Test.YtopepchfaomdoaaShfM
import Derived.Test.YtopepchfaomdoaaTabB
import Derived.BigRegion
namespace Go.Proofs.Ytopepchfaomdoaa
open Go Go.RowKit Go.Bv
set_option linter.unusedVariables false
theorem info_int40 : (Try.prog.info? 3).map (fun i => (i.zero, i.size, i.bytes)) = some (some (.int .i64 0), 1, 8) := by kernel_rfl
theorem info_bool40 : (Try.prog.info? 4).map (fun i => (i.zero, i.size, i.bytes)) = some (some (.bool false), 1, 1) := by kernel_rfl
theorem one_cell (w : World) (x : Value) (t : TypeId) : ∀ j u, [x][j]? = some u → (w.alloc (.cells #[x] t)).cell? ((⟨w.heap.size, 0, none⟩ : Addr).add j) = some u := cell_one_new w x t
theorem liI_succ (f : Nat → Nat) (n : Nat) : liI f (n + 1) = liI f n ++ [(f n : Int)] := by unfold liI; rw [List.range_succ, List.map_append]; rfl
set_option maxHeartbeats 1000000 in
theorem row_ref40 (n : Nat) (w : World) (hn : n ≤ 1000000) :
    Calls Try.prog 18 #[.int .i64 (n : Int)] w fun e w' => ∃ v, e = .returned v ∧ w'.ownsRow w.heap.size 3 1 v n ((liI (fun x => x) n).map fun x => .int .i64 x) ∧ New w w' := by
  obtain ⟨i0, hi, hz0, hz1, hz2⟩ := info_parts info_int40
  go_enter Try.func18, Try.ntmps18
  go_wp2
  go_loopw [3, 4] (fun v iv wr => ∃ k : Nat, k ≤ n ∧ iv = .int .i64 (k : Int) ∧ wr.ownsRow w.heap.size 3 1 v k ((liI (fun x => x) k).map fun x => .int .i64 x) ∧ New w wr) (fun _ iv _ => n - (intOf iv).toNat)
  case atStart => exact ⟨0, Nat.zero_le _, rfl, World.ownsRow_nil w _ _ 1, New.refl w⟩
  case round =>
    obtain ⟨k, hk, rfl, hown, hnew⟩ := hrel
    by_cases hlt : (k : Int) < (n : Int)
    · obtain ⟨wq, hwq⟩ : ∃ z, z = wr := ⟨_, rfl⟩
      rw [← hwq] at hown hnew ⊢
      clear hwq
      have HL := Lib.hid (liI_succ (fun x => x) k)
      go_wp2_with (at_builtin; refine wpList_append_own _ rfl _ _ 22 rfl w.heap.size 3 i0 (.int .i64 0) 1 8 Try.underlying22 hi hz0 hz1 hz2 rfl (by decide) _ k _ rfl (hown.alloc _) ⟨wq.heap.size, 0, none⟩ 1 1 [.int .i64 (k : Int)] rfl rfl ?c1 ?c2 ?c3 ?c4 ?c5 ?_)
      try (case c1 => exact one_cell wq _ _)
      try (case c2 => first | rfl | (intro u hu; simp at hu; subst hu; rfl))
      try (case c3 => first | (unfold maxLen; omega) | omega)
      try (case c4 => omega)
      try (case c5 => first | (simp; have := hnew.le; omega) | (have := hnew.le; omega))
      intro v' w1 how hgr _
      have HO2 : Hid (w1.ownsRow w.heap.size 3 1 v' (k + 1) ((liI (fun x => x) (k + 1)).map fun x => .int .i64 x)) := Lib.hid (by
        rw [HL.out, List.map_append]; exact how)
      have HN1 := Lib.hid ((hnew.alloc _).grown' hgr (own_base hown))
      clear how hgr hown hnew
      go_wp2
      exact ⟨⟨k + 1, by omega, by go_num, HO2.out, HN1.out⟩, by simp [intOf]; omega⟩
    · obtain rfl : k = n := by omega
      go_wp2
      go_ret
      exact ⟨_, rfl, hown, hnew⟩
/-- the first k numbers in their order, zeros behind them -/
def sqI (n k : Nat) : List Int := liI (fun x => if x < k then x else 0) n
theorem sqI_zero (n : Nat) : (List.replicate n (Value.int .i64 0)) = (sqI n 0).map fun x => .int .i64 x := by
  unfold sqI liI
  apply List.ext_getElem?
  intro i
  rw [List.getElem?_replicate, List.getElem?_map, List.getElem?_map]
  by_cases h : i < n
  · rw [if_pos h, List.getElem?_range h]; simp
  · rw [if_neg h, List.getElem?_eq_none (by simp; omega)]; rfl
theorem sqI_all (n : Nat) : sqI n n = liI (fun x => x) n := liI_ext fun x hx => by rw [if_pos hx]
theorem sqI_set (n k : Nat) (h : k < n) : (sqI n k).set k (k : Int) = sqI n (k + 1) := by
  unfold sqI
  rw [liI_set _ k h]
  apply liI_ext
  intro x _
  by_cases e : x = k
  · rw [if_pos e, if_pos (by omega), e]
  · rw [if_neg e]
    by_cases e2 : x < k
    · rw [if_pos e2, if_pos (by omega)]
    · rw [if_neg e2, if_neg (by omega)]
theorem make_int (n : Nat) (hn : n ≤ 1000000) (t : Int) (w : World) (ht : t = ((n : Nat) : Int)) : (Instr.makeSlice 22 (.int .i64 t) (.int .i64 t)).run Try.prog w = .ok (.slice (some ⟨w.heap.size, 0, none⟩) n n) (w.alloc (.cells (madeCells #[.int .i64 0] n) 3)) := by
  obtain ⟨i0, hi, hz0, hz1, hz2⟩ := info_parts info_int40
  subst ht
  exact run_make_row (P := Try.prog) 22 3 i0 (.int .i64 0) Try.underlying22 hi hz0 hz1 rfl .i64 .i64 n (by rw [hz2]; omega) (by omega) w
set_option maxRecDepth 100000 in
set_option maxHeartbeats 2000000 in
theorem sorted_40 (n : Nat) (w : World) (hn : n ≤ 1000000) :
    Calls Try.prog 28 #[.int .i64 (n : Int)] w fun e w' => ∃ g, e = .returned (.slice (some ⟨g, 0, none⟩) (n : Nat) n) ∧ w'.ownsRow w.heap.size 3 1 (.slice (some ⟨g, 0, none⟩) n n) n ((liI (fun x => x) n).map fun x => .int .i64 x) ∧ New w w' := by
  obtain ⟨i0, hi, hz0, hz1, hz2⟩ := info_parts info_int40
  have HMK := Lib.hid (make_int n hn)
  go_enter Try.func28, Try.ntmps28
  go_wp2_with fail
  rw [HMK.out _ _ rfl]
  go_wp2_with fail
  go_loopw [9] (fun iv wr => ∃ k : Nat, k ≤ n ∧ iv = .int .i64 (k : Int) ∧ wr.ownsRow w.heap.size 3 1 (.slice (some ⟨w.heap.size, 0, none⟩) n n) n ((sqI n k).map fun x => .int .i64 x) ∧ New w wr) (fun iv _ => n - (intOf iv).toNat)
  case atStart => exact ⟨0, Nat.zero_le _, rfl, ow_made w _ _ _ n _ (Nat.le_refl _) (by omega) (by rw [made_toList, sqI_zero]) (by rw [List.length_map, sqI, liI_len]), (New.refl w).alloc _⟩
  case round =>
    obtain ⟨k, hk, rfl, hown, hnew⟩ := hrel
    by_cases hlt : (k : Int) < (n : Int)
    · have hk0 : (0 : Int) ≤ (k : Int) := by omega
      obtain ⟨hc1, hf1⟩ := ow_int hown (k := k) (by omega)
      have HO2 : Hid ((wr.setCell ⟨w.heap.size, k, none⟩ (.int .i64 (k : Int))).ownsRow w.heap.size 3 1 (.slice (some ⟨w.heap.size, 0, none⟩) n n) n ((sqI n (k + 1)).map fun x => .int .i64 x)) := Lib.hid (by
        rw [← sqI_set n k (by omega), List.map_set]; exact ow_set hown k _)
      have HN2 : Hid (New w (wr.setCell ⟨w.heap.size, k, none⟩ (.int .i64 (k : Int)))) := Lib.hid (hnew.setCell (Nat.le_refl _) _)
      clear hown hnew
      go_wp2
      exact ⟨⟨k + 1, by omega, by go_num, HO2.out, HN2.out⟩, by simp [intOf]; omega⟩
    · obtain rfl : k = n := by omega
      rw [sqI_all] at hown
      go_wp2
      go_ret
      exact ⟨_, rfl, hown, hnew⟩
theorem clone_z (a : Option Addr) (len cap : Nat) (l : List Int) (w : World) (h : ZRow w a len cap l) :
    Calls Try.prog 29 #[.slice a len cap] w fun e w' => ∃ v, e = .returned v ∧ w'.ownsRow w.heap.size 3 1 v len (l.map fun x => .int .i64 x) ∧ New w w' := by
  obtain ⟨i0, hi, hz0, hz1, hz2⟩ := info_parts info_int40
  have hq : ∀ (w : World) (a : Option Addr) (n c n' c' : Nat), (binOp .eql 22 (.slice a n c) (.slice none n' c')).run Try.prog w = .ok (.bool a.isNone) w := fun w a n c n' c' => Lib.run_eql_slice_nil w _ _ a n c n' c' Try.underlying22
  cases a with
  | none =>
    obtain ⟨rfl, rfl⟩ := h.none rfl
    obtain rfl : l = [] := List.eq_nil_of_length_eq_zero h.len_eq
    go_enter Try.func29, Try.ntmps29
    go_wp2
    go_ret
    exact ⟨_, rfl, World.ownsRow_nil w _ _ 1, New.refl w⟩
  | some x =>
    have H := Lib.hid h
    clear h
    go_enter Try.func29, Try.ntmps29
    go_wp2_with (at_builtin; refine wpList_append_own _ rfl _ _ 22 rfl w.heap.size 3 i0 (.int .i64 0) 1 8 Try.underlying22 hi hz0 hz1 hz2 rfl (by decide) _ 0 [] rfl (World.ownsRow_made w #[] 0 (Nat.le_refl _) (Nat.zero_le _) (by simp)) x len cap (l.map fun x => .int .i64 x) rfl ?c1 ?c2 ?c3 ?c4 ?c5 ?c6 ?_)
    case c1 => rw [List.length_map, H.out.len_eq]; omega
    case c2 => intro j u hj; exact Lib.cell?_alloc_some _ (H.out.olds x rfl j u hj)
    case c3 => intro u hu; rw [List.mem_map] at hu; obtain ⟨y, _, rfl⟩ := hu; rfl
    case c4 => have := H.out.most; unfold maxLen; omega
    case c5 => have := H.out.most; omega
    case c6 => simp
    intro v' w1 how hgr _
    have how2 : w1.ownsRow w.heap.size 3 1 v' len (l.map fun x => .int .i64 x) := by simpa using how
    have hn1 : New w w1 := ((New.refl w).alloc _).grown' hgr (fun k hk => by simp [Value.ownBlock] at hk; omega)
    clear how hgr
    go_wp2
    go_ret
    exact ⟨_, rfl, how2, hn1⟩
/-- whether the first k may be choices -/
def rtB (c : List Int) : Nat → Bool
  | 0 => true
  | k + 1 => rtB c k && (decide (0 ≤ c.getD k 0) && decide (c.getD k 0 ≤ (k : Int)))
theorem rtB_iff {c : List Int} : ∀ {k}, rtB c k = true ↔ ∀ i, i < k → 0 ≤ c.getD i 0 ∧ c.getD i 0 ≤ (i : Int)
  | 0 => ⟨fun _ i h => by omega, fun _ => rfl⟩
  | k + 1 => by
    show (rtB c k && (decide (0 ≤ c.getD k 0) && decide (c.getD k 0 ≤ (k : Int)))) = true ↔ _
    rw [Bool.and_eq_true, Bool.and_eq_true, decide_eq_true_eq, decide_eq_true_eq, rtB_iff (k := k)]
    constructor
    · rintro ⟨h1, h2⟩ i hi
      by_cases e : i = k
      · subst e; exact h2
      · exact h1 i (by omega)
    · intro h
      exact ⟨fun i hi => h i (by omega), h k (by omega)⟩
theorem rtB_no {c : List Int} {n k : Nat} (hk : k < n) (h : c.getD k 0 < 0 ∨ (k : Int) < c.getD k 0) : rtB c n = false := by
  rw [← Bool.not_eq_true, rtB_iff]
  intro h2
  have := h2 k hk
  omega
def rightB (c : List Int) : Bool := rtB c c.length
theorem rightB_iff {c : List Int} : rightB c = true ↔ rtI c := rtB_iff
set_option maxHeartbeats 1000000 in
theorem right_40 (a : Option Addr) (n c : Nat) (l : List Int) (w : World) (h : ZRow w a n c l) :
    Calls Try.prog 10 #[.slice a n c] w fun e w' => e = .returned (.bool (rightB l)) ∧ w' = w := by
  have hm := h.most
  have HL := Lib.hid h.len_eq
  have HH := Lib.hid h
  have HB : Hid (rightB l = rtB l n) := Lib.hid (by unfold rightB; rw [HL.out])
  clear h
  go_enter Try.func10, Try.ntmps10
  go_wp2
  go_loop [7] (fun i => ∃ k : Nat, k ≤ n ∧ i = .int .i64 (k : Int) ∧ Hid (rtB l k = true)) (fun i => n - (intOf i).toNat)
  case atStart => exact ⟨0, Nat.zero_le _, rfl, Lib.hid rfl⟩
  case round =>
    obtain ⟨k, hk, rfl, H⟩ := hrel
    by_cases hlt : (k : Int) < (n : Int)
    · obtain ⟨b, off, rfl, hc⟩ := HH.out.addr (by omega)
      have c1 := hc k (by omega)
      clear hc
      have hk0 : (0 : Int) ≤ (k : Int) := by omega
      have HNO := Lib.hid (fun h => rtB_no (c := l) (n := n) (k := k) (by omega) h)
      have HST : Hid (rtB l (k + 1) = (rtB l k && (decide (0 ≤ l.getD k 0) && decide (l.getD k 0 ≤ (k : Int))))) := Lib.hid rfl
      obtain ⟨y, hy⟩ : ∃ z, l.getD k 0 = z := ⟨_, rfl⟩
      rw [hy] at c1 HNO HST
      clear hy
      by_cases h1 : y < 0
      · go_wp2
        go_ret
        rw [HB.out, HNO.out (.inl h1)]; exact ⟨rfl, rfl⟩
      by_cases h2 : (k : Int) < y
      · go_wp2
        go_ret
        rw [HB.out, HNO.out (.inr h2)]; exact ⟨rfl, rfl⟩
      have h1' : 0 ≤ y := by omega
      have h2' : y ≤ (k : Int) := by omega
      go_wp2
      exact ⟨⟨k + 1, by omega, by go_num, Lib.hid (by rw [HST.out, H.out, decide_eq_true h1', decide_eq_true h2']; rfl)⟩, by simp [intOf]; omega⟩
    · obtain rfl : k = n := by omega
      go_wp2
      go_ret
      rw [HB.out, H.out]; exact ⟨rfl, rfl⟩
end Go.Proofs.Ytopepchfaomdoaa
namespace Go.Proofs.Ytopepchfaomdoaa
open Go Go.RowKit Go.Bv
set_option linter.unusedVariables false
/-- whether x is among the first k -/
def seI (p : List Int) (x : Nat) : Nat → Bool
  | 0 => false
  | k + 1 => seI p x k || decide (p.getD k 0 = (x : Int))
theorem seI_iff {p : List Int} {x : Nat} : ∀ {k}, seI p x k = true ↔ ∃ j, j < k ∧ p.getD j 0 = (x : Int)
  | 0 => ⟨fun h => (by cases h), fun ⟨j, h, _⟩ => by omega⟩
  | k + 1 => by
    show (seI p x k || decide (p.getD k 0 = (x : Int))) = true ↔ _
    rw [Bool.or_eq_true, decide_eq_true_eq, seI_iff (k := k)]
    constructor
    · rintro (⟨j, h1, h2⟩ | h)
      · exact ⟨j, by omega, h2⟩
      · exact ⟨k, by omega, h⟩
    · rintro ⟨j, h1, h2⟩
      by_cases e : j = k
      · subst e; exact .inr h2
      · exact .inl ⟨j, by omega, h2⟩
/-- which numbers are among the first k -/
def seL (p : List Int) (n k : Nat) : List Bool := (List.range n).map fun x => seI p x k
theorem seL_len (p : List Int) (n k : Nat) : (seL p n k).length = n := by unfold seL; simp
theorem seL_get (p : List Int) {n x : Nat} (k : Nat) (h : x < n) : (seL p n k).getD x false = seI p x k := by
  unfold seL; rw [List.getD_eq_getElem?_getD, List.getElem?_map, List.getElem?_range h]; rfl
theorem bools_eq {n : Nat} {la lb : List Bool} (ha : la.length = n) (hb : lb.length = n) (h : ∀ j, j < n → la.getD j false = lb.getD j false) : la = lb := by
  apply List.ext_getElem?
  intro i
  rcases Nat.lt_or_ge i n with hi | hi
  · have := h i hi
    rw [List.getD_eq_getElem?_getD, List.getD_eq_getElem?_getD, List.getElem?_eq_getElem (by omega), List.getElem?_eq_getElem (by omega)] at this
    rw [List.getElem?_eq_getElem (by omega), List.getElem?_eq_getElem (by omega)]
    exact congrArg some this
  · rw [List.getElem?_eq_none (by omega), List.getElem?_eq_none (by omega)]
theorem seL_set (p : List Int) (n k y : Nat) (hy : y < n) (he : p.getD k 0 = (y : Int)) : (seL p n k).set y true = seL p n (k + 1) := by
  apply bools_eq (n := n) (by rw [List.length_set, seL_len]) (seL_len _ _ _)
  intro i hi
  rw [seL_get p (k + 1) hi, List.getD_eq_getElem?_getD, List.getElem?_set, seL_len]
  show _ = (seI p i k || decide (p.getD k 0 = (i : Int)))
  by_cases e : y = i
  · subst e; rw [if_pos rfl, if_pos hy, he]; simp
  · rw [if_neg e, ← List.getD_eq_getElem?_getD, seL_get p k hi, he, decide_eq_false (by omega), Bool.or_false]
theorem seL_zero (p : List Int) (n : Nat) : List.replicate n (Value.bool false) = (seL p n 0).map fun x => .bool x := by
  unfold seL
  apply List.ext_getElem?
  intro i
  rw [List.getElem?_replicate, List.getElem?_map, List.getElem?_map]
  by_cases h : i < n
  · rw [if_pos h, List.getElem?_range h]; rfl
  · rw [if_neg h, List.getElem?_eq_none (by simp; omega)]; rfl
/-- whether a list is an order -/
def isB (p : List Int) : Bool := (List.range p.length).all fun i => cntI p i p.length == 1
theorem isB_iff {p : List Int} : isB p = true ↔ isO p := by
  rw [isO_cnt]
  unfold isB
  rw [List.all_eq_true]
  constructor
  · intro h i hi
    have := h i (List.mem_range.2 hi)
    rwa [beq_iff_eq] at this
  · intro h i hi
    rw [beq_iff_eq]
    exact h i (List.mem_range.1 hi)
theorem isB_no {p : List Int} (h : ¬ isO p) : isB p = false := by rw [← Bool.not_eq_true, isB_iff]; exact h
theorem make_bool (n : Nat) (hn : n ≤ 1000000) (t : Int) (w : World) (ht : t = ((n : Nat) : Int)) : (Instr.makeSlice 48 (.int .i64 t) (.int .i64 t)).run Try.prog w = .ok (.slice (some ⟨w.heap.size, 0, none⟩) n n) (w.alloc (.cells (madeCells #[.bool false] n) 4)) := by
  obtain ⟨i0, hi, hz0, hz1, hz2⟩ := info_parts info_bool40
  subst ht
  exact run_make_row (P := Try.prog) 48 4 i0 (.bool false) Try.underlying48 hi hz0 hz1 rfl .i64 .i64 n (by rw [hz2]; omega) (by omega) w
set_option maxRecDepth 100000 in
set_option maxHeartbeats 2000000 in
theorem is_40 (a : Option Addr) (n c : Nat) (p : List Int) (w : World) (h : ZRow w a n c p) (hn : n ≤ 1000000) :
    Calls Try.prog 14 #[.slice a n c] w fun e w' => e = .returned (.bool (isB p)) ∧ New w w' := by
  have HL := Lib.hid h.len_eq
  have HH := Lib.hid h
  have HMK := Lib.hid (make_bool n hn)
  have HN0 : Hid (∀ (k : Nat), k < n → (p.getD k 0 < 0 ∨ (n : Int) ≤ p.getD k 0) → isB p = false) := Lib.hid (fun k hk hb => isB_no (fun ho => by
    have := ho.1 k (by rw [HL.out]; exact hk)
    rw [HL.out] at this
    omega))
  have HN1 : Hid (∀ (k y : Nat), k < n → p.getD k 0 = (y : Int) → seI p y k = true → isB p = false) := Lib.hid (fun k y hk he hs => isB_no (fun ho => by
    obtain ⟨j, hj, hje⟩ := seI_iff.1 hs
    exact ho.2 j k hj (by rw [HL.out]; exact hk) (hje.trans he.symm)))
  have HY : Hid ((∀ k, k < n → 0 ≤ p.getD k 0 ∧ p.getD k 0 < (n : Int)) → (∀ j k, j < k → k < n → p.getD j 0 ≠ p.getD k 0) → isB p = true) := Lib.hid (fun h1 h2 => isB_iff.2 ⟨by rw [HL.out]; exact h1, by rw [HL.out]; exact h2⟩)
  clear h
  go_enter Try.func14, Try.ntmps14
  go_wp2_with fail
  rw [HMK.out _ _ rfl]
  go_wp2_with fail
  go_loopw [11] (fun iv wr => ∃ k : Nat, k ≤ n ∧ iv = .int .i64 (k : Int) ∧ wr.ownsRow w.heap.size 4 1 (.slice (some ⟨w.heap.size, 0, none⟩) n n) n ((seL p n k).map fun x => .bool x) ∧ New w wr ∧ Hid ((∀ j, j < k → 0 ≤ p.getD j 0 ∧ p.getD j 0 < (n : Int)) ∧ ∀ i j, i < j → j < k → p.getD i 0 ≠ p.getD j 0)) (fun iv _ => n - (intOf iv).toNat)
  case atStart => exact ⟨0, Nat.zero_le _, rfl, ow_made w _ _ _ n _ (Nat.le_refl _) (by omega) (by rw [made_toList, seL_zero p]) (by rw [List.length_map, seL_len]), (New.refl w).alloc _, Lib.hid ⟨fun j hj => by omega, fun i j _ hj => by omega⟩⟩
  case round =>
    obtain ⟨k, hk, rfl, hown, hnew, HP⟩ := hrel
    by_cases hlt : (k : Int) < (n : Int)
    · have hk0 : (0 : Int) ≤ (k : Int) := by omega
      obtain ⟨b, off, rfl, hc⟩ := (HH.out.stay hnew).addr (by omega)
      have c1 := hc k (by omega)
      clear hc
      have HB0 := Lib.hid (HN0.out k (by omega))
      have HB1 := Lib.hid (fun y => HN1.out k y (by omega))
      have HST := Lib.hid (fun y hy he => seL_set p n k y hy he)
      have HPR : Hid (∀ z : Nat, p.getD k 0 = (z : Int) → z < n → seI p z k = false → (∀ j, j < k + 1 → 0 ≤ p.getD j 0 ∧ p.getD j 0 < (n : Int)) ∧ ∀ i j, i < j → j < k + 1 → p.getD i 0 ≠ p.getD j 0) := Lib.hid (fun z hz hzn hs => by
        refine ⟨fun j hj => ?_, fun i j hij hj => ?_⟩
        · by_cases e : j = k
          · subst e; omega
          · exact HP.out.1 j (by omega)
        · by_cases e : j = k
          · subst e
            intro e2
            have := seI_iff.2 ⟨i, hij, e2.trans hz⟩
            rw [hs] at this; cases this
          · exact HP.out.2 i j hij (by omega))
      obtain ⟨y, hy⟩ : ∃ z, p.getD k 0 = z := ⟨_, rfl⟩
      rw [hy] at c1 HB0 HPR
      have HYY := Lib.hid hy
      clear hy HP
      by_cases h1 : y < 0
      · have HF := Lib.hid (HB0.out (.inl h1))
        clear hown
        go_wp2
        go_ret
        rw [HF.out]; exact ⟨rfl, hnew⟩
      by_cases h2 : (n : Int) ≤ y
      · have HF := Lib.hid (HB0.out (.inr h2))
        clear hown
        go_wp2
        go_ret
        rw [HF.out]; exact ⟨rfl, hnew⟩
      obtain ⟨z, rfl⟩ : ∃ z : Nat, y = (z : Int) := ⟨y.toNat, by omega⟩
      have hzn : z < n := by omega
      obtain ⟨hc2, hf2⟩ := ow_bool hown (k := z) hzn
      rw [seL_get p k hzn] at hc2
      have hy0 : (0 : Int) ≤ (z : Int) := by omega
      have hyn : (z : Int) < (n : Int) := by omega
      rcases hs : seI p z k with _ | _
      · have HPR2 := Lib.hid (HPR.out z rfl hzn hs)
        have HO2 : Hid ((wr.setCell ⟨w.heap.size, z, none⟩ (.bool true)).ownsRow w.heap.size 4 1 (.slice (some ⟨w.heap.size, 0, none⟩) n n) n ((seL p n (k + 1)).map fun x => .bool x)) := Lib.hid (by
          rw [← HST.out z hzn HYY.out, List.map_set]; exact ow_set hown z _)
        have HN2 : Hid (New w (wr.setCell ⟨w.heap.size, z, none⟩ (.bool true))) := Lib.hid (hnew.setCell (Nat.le_refl _) _)
        rw [hs] at hc2
        clear hown hnew hs HB0 HB1 HPR
        go_wp2
        exact ⟨⟨k + 1, by omega, by go_num, HO2.out, HN2.out, HPR2⟩, by simp [intOf]; omega⟩
      · have HF := Lib.hid (HB1.out z HYY.out hs)
        rw [hs] at hc2
        clear hown hs HB0 HB1 HPR
        go_wp2
        go_ret
        rw [HF.out]; exact ⟨rfl, hnew⟩
    · obtain rfl : k = n := by omega
      have HF := Lib.hid (HY.out HP.out.1 HP.out.2)
      clear hown HP
      go_wp2
      go_ret
      rw [HF.out]; exact ⟨rfl, hnew⟩
theorem cnt_step (p : List Int) (i m : Nat) : cntI p i (m + 1) = cntI p i m + if p.getD m 0 = (i : Int) then 1 else 0 := rfl
theorem cnt_le (p : List Int) (i : Nat) : ∀ m, cntI p i m ≤ m
  | 0 => Nat.le_refl _
  | m + 1 => by have := cnt_le p i m; rw [cnt_step]; split <;> omega
set_option maxRecDepth 100000 in
set_option maxHeartbeats 2000000 in
theorem isr_40 (a : Option Addr) (n c : Nat) (p : List Int) (w : World) (h : ZRow w a n c p) (hn : n ≤ 1000000) :
    Calls Try.prog 15 #[.slice a n c] w fun e w' => e = .returned (.bool (isB p)) ∧ w' = w := by
  have HL := Lib.hid h.len_eq
  have HH := Lib.hid h
  have HNO : Hid (∀ k, k < n → cntI p k n ≠ 1 → isB p = false) := Lib.hid (fun k hk hb => isB_no (fun ho => hb (by
    have := (isO_cnt p).1 ho k (by rw [HL.out]; exact hk)
    rwa [HL.out] at this)))
  have HYES : Hid ((∀ k, k < n → cntI p k n = 1) → isB p = true) := Lib.hid (fun hb => isB_iff.2 ((isO_cnt p).2 (by rw [HL.out]; exact hb)))
  clear h
  go_enter Try.func15, Try.ntmps15
  go_wp2
  go_loop [9] (fun i => ∃ k : Nat, k ≤ n ∧ i = .int .i64 (k : Int) ∧ Hid (∀ j, j < k → cntI p j n = 1)) (fun i => n - (intOf i).toNat)
  case atStart => exact ⟨0, Nat.zero_le _, rfl, Lib.hid (fun j hj => by omega)⟩
  case round =>
    obtain ⟨k, hk, rfl, H⟩ := hrel
    by_cases hlt : (k : Int) < (n : Int)
    · go_wp2
      go_loop [4, 14] (fun cv i => ∃ m : Nat, m ≤ n ∧ i = .int .i64 (m : Int) ∧ cv = .int .i64 ((cntI p k m : Nat) : Int)) (fun _ i => n - (intOf i).toNat)
      case atStart => exact ⟨0, Nat.zero_le _, rfl, rfl⟩
      case round =>
        obtain ⟨m, hm, rfl, rfl⟩ := hrel
        have hcl := cnt_le p k m
        by_cases hmn : (m : Int) < (n : Int)
        · obtain ⟨b, off, rfl, hc⟩ := HH.out.addr (by omega)
          have c1 := hc m (by omega)
          clear hc
          have hm0 : (0 : Int) ≤ (m : Int) := by omega
          have HST := Lib.hid (cnt_step p k m)
          obtain ⟨y, hy⟩ : ∃ z, p.getD m 0 = z := ⟨_, rfl⟩
          rw [hy] at c1 HST
          clear hy
          obtain ⟨cn, hcn⟩ : ∃ z, cntI p k m = z := ⟨_, rfl⟩
          rw [hcn] at HST hcl ⊢
          clear hcn
          by_cases he : y = (k : Int)
          · have HS2 : Hid (cntI p k (m + 1) = cn + 1) := Lib.hid (by rw [HST.out, if_pos he])
            subst he
            go_wp2
            exact ⟨⟨m + 1, by omega, by go_num, by rw [HS2.out]; go_num⟩, by simp [intOf]; omega⟩
          · have HS2 : Hid (cntI p k (m + 1) = cn) := Lib.hid (by rw [HST.out, if_neg he]; rfl)
            have hne : (y == (k : Int)) = false := by rw [beq_eq_false_iff_ne]; exact he
            go_wp2
            exact ⟨⟨m + 1, by omega, by go_num, by rw [HS2.out]⟩, by simp [intOf]; omega⟩
        · obtain rfl : m = n := by omega
          by_cases h1 : cntI p k m = 1
          · have H2 : Hid (∀ j, j < k + 1 → cntI p j m = 1) := Lib.hid (fun j hj => by
              by_cases e : j = k
              · subst e; exact h1
              · exact H.out j (by omega))
            rw [h1]
            clear h1 hcl
            go_wp2
            exact ⟨⟨k + 1, by omega, by go_num, H2⟩, by simp [intOf]; omega⟩
          · have HF := Lib.hid (HNO.out k (by omega) h1)
            have hne : (((cntI p k m : Nat) : Int) != 1) = true := by rw [bne_iff_ne]; omega
            clear h1
            go_wp2
            go_ret
            rw [HF.out]; exact ⟨rfl, rfl⟩
    · obtain rfl : k = n := by omega
      have HF := Lib.hid (HYES.out H.out)
      clear H
      go_wp2
      go_ret
      rw [HF.out]; exact ⟨rfl, rfl⟩
end Go.Proofs.Ytopepchfaomdoaa
namespace Go.Proofs.Ytopepchfaomdoaa
open Go Go.RowKit Go.Bv
set_option linter.unusedVariables false
set_option maxRecDepth 100000 in
set_option maxHeartbeats 1000000 in
theorem perm_bad (a : Option Addr) (n c : Nat) (l : List Int) (w : World) (h : ZRow w a n c l) (hb : ¬ rtI l) :
    Calls Try.prog 9 #[.slice a n c] w fun e w' => e = .returned (.tuple #[.slice none 0 0, .int .i64 2]) ∧ New w w' := by
  have hm := h.most
  have HL := Lib.hid h.len_eq
  have HH := Lib.hid h
  have HB := Lib.hid hb
  clear h hb
  go_enter Try.func9, Try.ntmps9
  go_wp2
  go_loop [10] (fun i => ∃ k : Nat, k ≤ n ∧ i = .int .i64 (k : Int) ∧ Hid (rtB l k = true)) (fun i => n - (intOf i).toNat)
  case atStart => exact ⟨0, Nat.zero_le _, rfl, Lib.hid rfl⟩
  case round =>
    obtain ⟨k, hk, rfl, H⟩ := hrel
    by_cases hlt : (k : Int) < (n : Int)
    · obtain ⟨b, off, rfl, hc⟩ := HH.out.addr (by omega)
      have c1 := hc k (by omega)
      clear hc
      have hk0 : (0 : Int) ≤ (k : Int) := by omega
      have HST : Hid (rtB l (k + 1) = (rtB l k && (decide (0 ≤ l.getD k 0) && decide (l.getD k 0 ≤ (k : Int))))) := Lib.hid rfl
      obtain ⟨y, hy⟩ : ∃ z, l.getD k 0 = z := ⟨_, rfl⟩
      rw [hy] at c1 HST
      clear hy
      by_cases h1 : y < 0
      · go_wp2
        go_ret2
        exact ⟨rfl, New.refl _⟩
      by_cases h2 : (k : Int) < y
      · go_wp2
        go_ret2
        exact ⟨rfl, New.refl _⟩
      have h1' : 0 ≤ y := by omega
      have h2' : y ≤ (k : Int) := by omega
      go_wp2
      exact ⟨⟨k + 1, by omega, by go_num, Lib.hid (by rw [HST.out, H.out, decide_eq_true h1', decide_eq_true h2']; rfl)⟩, by simp [intOf]; omega⟩
    · obtain rfl : k = n := by omega
      exact absurd (rtB_iff.1 (HL.out ▸ H.out)) HB.out
set_option maxRecDepth 100000 in
set_option maxHeartbeats 4000000 in
theorem perm_ok (a : Option Addr) (n c : Nat) (l : List Int) (w : World) (h : ZRow w a n c l) (hl : rtI l) (hn : n ≤ 1000000) :
    Calls Try.prog 9 #[.slice a n c] w fun e w' => ∃ g, e = .returned (.tuple #[.slice (some ⟨g, 0, none⟩) (n : Nat) n, .int .i64 0]) ∧ w'.ownsRow w.heap.size 3 1 (.slice (some ⟨g, 0, none⟩) n n) n ((pmI l).map fun x => .int .i64 x) ∧ New w w' := by
  have HL := Lib.hid h.len_eq
  have HH := Lib.hid h
  have HR := Lib.hid hl
  have HF := Lib.hid (rtI_F hl)
  have HS := Lib.hid (fun w => sorted_40 n w hn)
  clear h hl
  go_enter Try.func9, Try.ntmps9
  go_wp2_with fail
  go_loop [10] (fun i => ∃ k : Nat, k ≤ n ∧ i = .int .i64 (k : Int)) (fun i => n - (intOf i).toNat)
  case atStart => exact ⟨0, Nat.zero_le _, rfl⟩
  case round =>
    obtain ⟨k, hk, rfl⟩ := hrel
    by_cases hlt : (k : Int) < (n : Int)
    · obtain ⟨b, off, rfl, hc⟩ := HH.out.addr (by omega)
      have c1 := hc k (by omega)
      clear hc
      have hk0 : (0 : Int) ≤ (k : Int) := by omega
      obtain ⟨h1, h2⟩ := HR.out k (by rw [HL.out]; omega)
      obtain ⟨y, hy⟩ : ∃ z, l.getD k 0 = z := ⟨_, rfl⟩
      rw [hy] at c1 h1 h2
      clear hy
      have h1' : ¬ y < 0 := by omega
      have h2' : ¬ (k : Int) < y := by omega
      go_wp2
      exact ⟨⟨k + 1, by omega, by go_num⟩, by simp [intOf]; omega⟩
    · obtain rfl : k = n := by omega
      go_wp2_with fail
      refine (HS.out _).mono ?_
      rintro e w9 ⟨g, rfl, how, hnew⟩
      have HO := Lib.hid how
      have HN := Lib.hid hnew
      clear how hnew
      rcases k with _ | m
      · have HE : Hid (liI (fun x => x) 0 = pmI l) := Lib.hid (by
          have : (pmI l).length = 0 := by rw [pmI_len, HL.out]
          rw [List.eq_nil_of_length_eq_zero this]; rfl)
        rw [HE.out] at HO
        go_wp2_with fail
        go_loop [7] (fun i => i = .int .i64 (-1)) (fun _ => 0)
        case atStart => rfl
        case round =>
          subst hrel
          go_wp2
          go_ret2
          exact ⟨g, rfl, HO.out, HN.out⟩
      · have hgb : w.heap.size ≤ g := own_base HO.out g rfl
        have hw1 : (((m + 1 : Nat) : Int) - 1) = (m : Int) := by omega
        have HE : Hid (liI (stF (fnI l) (m + 1) m) (m + 1) = pmI l) := Lib.hid (by
          have h1 := st_one HF.out (by rw [HL.out]; omega)
          unfold pmI
          rw [HL.out] at h1 ⊢
          rw [h1, Nat.add_sub_cancel])
        go_wp2_with fail
        go_loopw [7] (fun iv wr => ∃ j : Nat, j ≤ m ∧ iv = .int .i64 (j : Int) ∧ wr.ownsRow w.heap.size 3 1 (.slice (some ⟨g, 0, none⟩) (m + 1 : Nat) (m + 1)) (m + 1) ((liI (stF (fnI l) (m + 1) (m - j)) (m + 1)).map fun x => .int .i64 x) ∧ New w wr) (fun iv _ => (intOf iv).toNat)
        case atStart => exact ⟨m, Nat.le_refl _, rfl, by rw [Nat.sub_self]; exact HO.out, HN.out⟩
        case round =>
          obtain ⟨j, hj, rfl, hown, hnew⟩ := hrel
          have HO2 := Lib.hid hown
          have HN2 := Lib.hid hnew
          obtain ⟨wq, hwq⟩ : ∃ z, z = wr := ⟨_, rfl⟩
          rw [← hwq] at HO2 HN2 ⊢
          clear hown hnew hwq
          rcases j with _ | j
          · rw [Nat.sub_zero, HE.out] at HO2
            go_wp2_with fail
            go_ret2
            exact ⟨g, rfl, HO2.out, HN2.out⟩
          · have hj0 : (0 : Int) ≤ ((j + 1 : Nat) : Int) := by omega
            have hjp : (0 : Int) < ((j + 1 : Nat) : Int) := by omega
            have hjm : ((j + 1 : Nat) : Int) < ((m + 1 : Nat) : Int) := by omega
            obtain ⟨b, off, rfl, hc⟩ := (HH.out.stay HN2.out).addr (by omega)
            have c1 := hc (j + 1) (by omega)
            clear hc
            have hcl := HF.out (j + 1) (by rw [HL.out]; omega)
            have hci : l.getD (j + 1) 0 = ((fnI l (j + 1) : Nat) : Int) := by
              have := HR.out (j + 1) (by rw [HL.out]; omega)
              unfold fnI; omega
            rw [hci] at c1
            have HST : Hid (stF (fnI l) (m + 1) (m - j) = sw (stF (fnI l) (m + 1) (m - (j + 1))) (j + 1) (fnI l (j + 1))) := Lib.hid (by
              rw [show m - j = (m - (j + 1)) + 1 by omega]
              show sw _ (m + 1 - 1 - (m - (j + 1))) _ = _
              rw [show m + 1 - 1 - (m - (j + 1)) = j + 1 by omega])
            obtain ⟨f, hf⟩ : ∃ f, stF (fnI l) (m + 1) (m - (j + 1)) = f := ⟨_, rfl⟩
            rw [hf] at HO2 HST
            clear hf hci
            obtain ⟨q, hq⟩ : ∃ q, fnI l (j + 1) = q := ⟨_, rfl⟩
            rw [hq] at c1 hcl HST
            clear hq
            obtain ⟨hci, hfi⟩ := ow_int HO2.out (k := j + 1) (by omega)
            obtain ⟨hcq, hfq⟩ := ow_int HO2.out (k := q) (by omega)
            rw [liI_get f (show j + 1 < m + 1 by omega)] at hci
            rw [liI_get f (show q < m + 1 by omega)] at hcq
            have hq0 : (0 : Int) ≤ (q : Int) := by omega
            have hqm : (q : Int) < ((m + 1 : Nat) : Int) := by omega
            obtain ⟨hs1, hs2⟩ := ow_cell (ow_set HO2.out (j + 1) (.int .i64 (f q))) (k := q) (u := .int .i64 ((if q = j + 1 then f q else f q : Nat) : Int)) (by
              rw [← List.map_set, liI_set f (f q) (show j + 1 < m + 1 by omega), List.getElem?_map]
              have h1 := liI_get (fun x => if x = j + 1 then f q else f x) (show q < m + 1 by omega)
              rw [List.getD_eq_getElem?_getD, List.getElem?_eq_getElem (by rw [liI_len]; omega)] at h1
              rw [List.getElem?_eq_getElem (by rw [liI_len]; omega)]
              simp at h1 ⊢
              exact h1)
            have HO3 : Hid (((wq.setCell ⟨g, j + 1, none⟩ (.int .i64 (f q))).setCell ⟨g, q, none⟩ (.int .i64 (f (j + 1)))).ownsRow w.heap.size 3 1 (.slice (some ⟨g, 0, none⟩) (m + 1 : Nat) (m + 1)) (m + 1) ((liI (stF (fnI l) (m + 1) (m - j)) (m + 1)).map fun x => .int .i64 x)) := Lib.hid (by
              rw [HST.out, ← liI_sw f (show j + 1 < m + 1 by omega) (show q < m + 1 by omega), List.map_set, List.map_set]
              exact ow_set (ow_set HO2.out _ _) _ _)
            have HN3 : Hid (New w ((wq.setCell ⟨g, j + 1, none⟩ (.int .i64 (f q))).setCell ⟨g, q, none⟩ (.int .i64 (f (j + 1))))) := Lib.hid ((HN2.out.setCell hgb _).setCell hgb _)
            go_wp2_with fail
            go_region
            have HO4 := Lib.hid (ow_new HO3.out (New.refl _).drew)
            have HN4 := Lib.hid (New.drew HN3.out)
            clear HO3 HN3 hs1 hs2 c1 hci hcq hfi hfq
            obtain ⟨W2, hW2⟩ : ∃ z, ((wq.setCell ⟨g, j + 1, none⟩ (.int .i64 (f q))).setCell ⟨g, q, none⟩ (.int .i64 (f (j + 1)))).drew = z := ⟨_, rfl⟩
            rw [hW2] at HO4 HN4 ⊢
            clear hW2
            go_wp2
            exact ⟨⟨j, by omega, by go_num, HO4.out, HN4.out⟩, by simp [intOf]⟩
theorem st_put {c : Nat → Nat} {n k : Nat} (hc : rtF c n) (hk : k < n) : stF c n n (n - 1 - k) = stF c n k (c (n - 1 - k)) := by
  have h3 := st_stay hc (k := k + 1) (x := n - 1 - k) (by omega) (by omega) (n - (k + 1)) (by omega)
  rw [show k + 1 + (n - (k + 1)) = n by omega] at h3
  rw [h3]
  show sw _ _ _ _ = _
  unfold sw
  by_cases e1 : n - 1 - k = c (n - 1 - k)
  · rw [if_pos e1]; exact congrArg _ e1
  · rw [if_neg e1, if_pos rfl]
theorem liI_take (f : Nat → Nat) (j : Nat) : (liI f (j + 1)).take j = liI f j := by
  rw [liI_succ, List.take_left' (liI_len f j)]
theorem row_next (f : Nat → Nat) {j q : Nat} (hq : q ≤ j) : ((liI f (j + 1)).set q (f j : Int)).take j = liI (sw f j q) j := by
  rw [liI_set f (f j) (show q < j + 1 by omega), liI_take]
  apply liI_ext
  intro x hx
  unfold sw
  by_cases e : x = q
  · rw [if_pos e, if_pos e]
  · rw [if_neg e, if_neg e, if_neg (by omega)]
theorem ow_cut {w : World} {base g n cap m : Nat} {e : TypeId} {xs : List Value} (h : w.ownsRow base e 1 (.slice (some ⟨g, 0, none⟩) n cap) n xs) (hm : m ≤ n) : w.ownsRow base e 1 (.slice (some ⟨g, 0, none⟩) m cap) m (xs.take m) := by
  obtain ⟨hl, h | ⟨g', cap', cur, hv, hb, hc, h1, h2, h3, h4⟩⟩ := h
  · cases h.1
  · injection hv with e1 e2 e3
    cases e1; subst e3
    refine ⟨by rw [List.length_take]; omega, Or.inr ⟨g, cap, cur, rfl, hb, hc, by omega, h2, h3, ?_⟩⟩
    rw [← h4, List.take_take]; congr 1; omega
theorem in64_li (f : Nat → Nat) {n : Nat} (h : ∀ x, x < n → f x < 9223372036854775807) : ∀ z ∈ liI f n, In64 z := by
  intro z hz
  unfold liI at hz
  obtain ⟨x, hx, rfl⟩ := List.mem_map.1 hz
  have := h x (List.mem_range.1 hx)
  unfold In64; omega
theorem nil_zrow (w : World) : ZRow w none 0 0 [] := ⟨rfl, Nat.le_refl _, by omega, by omega, (fun _ => ⟨rfl, rfl⟩), (fun b off e => by cases e), (fun x e => by cases e), (fun x e => by cases e), (fun x e => by cases e)⟩
/-- what is taken out, the last place first -/
def bkF (l : List Int) (n : Nat) : Nat → Nat := fun t => stF (fnI l) n n (n - 1 - t)
theorem pm_take (l : List Int) (k : Nat) (h : k < l.length) : (pmI l).take (k + 1) = (pmI l).take k ++ [(bkF l l.length (l.length - 1 - k) : Int)] := by
  rw [List.take_add_one, List.getElem?_eq_getElem (by rw [pmI_len]; exact h)]
  congr 1
  have h1 := liI_get (stF (fnI l) l.length l.length) h
  rw [List.getD_eq_getElem?_getD, List.getElem?_eq_getElem (by rw [liI_len]; exact h)] at h1
  show [_] = [_]
  congr 1
  unfold bkF
  rw [show l.length - 1 - (l.length - 1 - k) = k by omega]
  exact h1
def pmT (l : List Int) (k : Nat) : List Int := (pmI l).take k
set_option maxRecDepth 100000 in
set_option maxHeartbeats 4000000 in
theorem permr_40 (a : Option Addr) (n c : Nat) (l : List Int) (w : World) (h : ZRow w a n c l) (hl : rtI l) (hn : n ≤ 1000000) :
    Calls Try.prog 12 #[.slice a n c] w fun e w' => ∃ a' c', e = .returned (.slice a' (n : Nat) c') ∧ ZRow w' a' n c' (pmI l) ∧ New w w' := by
  obtain ⟨i0, hi, hz0, hz1, hz2⟩ := info_parts info_int40
  have HL := Lib.hid h.len_eq
  have HH := Lib.hid h
  have HR := Lib.hid hl
  have HF := Lib.hid (rtI_F hl)
  rw [HL.out] at HF
  have HS := Lib.hid (fun w => row_ref40 n w hn)
  clear h hl
  go_enter Try.func12, Try.ntmps12
  go_wp2_with fail
  refine (HS.out _).mono ?_
  rintro e w9 ⟨v, rfl, how, hnew⟩
  have HO := Lib.hid how
  have HN := Lib.hid hnew
  clear how hnew
  rcases n with _ | m
  · have hnil : pmI l = [] := List.eq_nil_of_length_eq_zero (by rw [pmI_len, HL.out])
    go_wp2_with fail
    go_loop [4, 5] (fun b i => b = .slice none 0 0 ∧ i = .int .i64 (-1)) (fun _ _ => 0)
    case atStart => exact ⟨rfl, rfl⟩
    case round =>
      obtain ⟨rfl, rfl⟩ := hrel
      go_wp2_with fail
      go_loop [7, 8] (fun o i => o = .slice none 0 0 ∧ i = .int .i64 (-1)) (fun _ _ => 0)
      case atStart => exact ⟨rfl, rfl⟩
      case round =>
        obtain ⟨rfl, rfl⟩ := hrel
        go_wp2
        go_ret
        exact ⟨none, 0, rfl, by first | exact nil_zrow _ | (rw [hnil]; exact nil_zrow _), HN.out⟩
  · obtain ⟨g, cap, rfl, hgb, hg9, hnc, hcap⟩ := ow_shape HO.out (by omega)
    have hw1 : (((m + 1 : Nat) : Int) - 1) = (m : Int) := by omega
    go_wp2_with fail
    go_loopw [3, 4, 5] (fun rv bv iv wr => ∃ (r : Nat) (z : Int), r ≤ m + 1 ∧ iv = .int .i64 z ∧ Hid (z = (r : Int) - 1) ∧ rv = .slice (some ⟨g, 0, none⟩) r cap ∧ wr.ownsRow w.heap.size 3 1 (.slice (some ⟨g, 0, none⟩) r cap) r ((liI (stF (fnI l) (m + 1) (m + 1 - r)) r).map fun x => .int .i64 x) ∧ wr.ownsRow w9.heap.size 3 1 bv (m + 1 - r) ((liI (bkF l (m + 1)) (m + 1 - r)).map fun x => .int .i64 x) ∧ New w wr ∧ Hid (w9.heap.size ≤ wr.heap.size)) (fun _ _ iv _ => (intOf iv + 1).toNat)
    case atStart => exact ⟨m + 1, _, Nat.le_refl _, rfl, Lib.hid (by omega), rfl, by rw [Nat.sub_self]; exact HO.out, by rw [Nat.sub_self]; exact World.ownsRow_nil _ _ _ 1, HN.out, Lib.hid (Nat.le_refl _)⟩
    case round =>
      obtain ⟨r, z, hr, rfl, HZ, rfl, hrow, hbk, hnew, HSZ⟩ := hrel
      have HRW := Lib.hid hrow
      have HBK := Lib.hid hbk
      have HN2 := Lib.hid hnew
      obtain ⟨wq, hwq⟩ : ∃ z, z = wr := ⟨_, rfl⟩
      rw [← hwq] at HRW HBK HN2 HSZ ⊢
      clear hrow hbk hnew hwq
      rcases r with _ | j
      · obtain rfl : z = -1 := by have := HZ.out; omega
        rw [Nat.sub_zero] at HBK
        obtain ⟨ab, cb, rfl, hzb⟩ := ZRow.of_owns HBK.out (by omega) (in64_li _ (fun x hx => by
          have := st_lt HF.out (m + 1) (Nat.le_refl _) (m + 1 - 1 - x) (by omega)
          unfold bkF; omega))
        have HZB := Lib.hid hzb
        clear hzb HBK HRW
        have HPT : Hid (∀ k, k < m + 1 → pmT l (k + 1) = pmT l k ++ [(bkF l (m + 1) (m - k) : Int)]) := Lib.hid (fun k hk => by
          have := pm_take l k (by rw [HL.out]; exact hk)
          rw [HL.out, Nat.add_sub_cancel] at this; exact this)
        have HBG : Hid (∀ k, k ≤ m → (liI (bkF l (m + 1)) (m + 1)).getD (m - k) 0 = (bkF l (m + 1) (m - k) : Int)) := Lib.hid (fun k hk => liI_get _ (by omega))
        have HPA : Hid (pmT l (m + 1) = pmI l) := Lib.hid (List.take_of_length_le (by rw [pmI_len, HL.out]; exact Nat.le_refl _))
        have HIN : Hid (∀ z ∈ pmI l, In64 z) := Lib.hid (by
          unfold pmI
          rw [HL.out]
          exact in64_li _ (fun x hx => by have := st_lt HF.out (m + 1) (Nat.le_refl _) x hx; omega))
        go_wp2_with fail
        go_loopw [7, 8] (fun ov iv wr => ∃ (k : Nat) (z : Int), k ≤ m + 1 ∧ iv = .int .i64 z ∧ Hid (z = (m : Int) - (k : Int)) ∧ wr.ownsRow wq.heap.size 3 1 ov k ((pmT l k).map fun x => .int .i64 x) ∧ New wq wr) (fun _ iv _ => (intOf iv + 1).toNat)
        case atStart => exact ⟨0, _, Nat.zero_le _, rfl, Lib.hid (by omega), World.ownsRow_nil _ _ _ 1, New.refl _⟩
        case round =>
          obtain ⟨k, z, hk, rfl, HZ2, hown, hnew⟩ := hrel
          have HO2 := Lib.hid hown
          have HN3 := Lib.hid hnew
          obtain ⟨wp, hwp⟩ : ∃ z, z = wr := ⟨_, rfl⟩
          rw [← hwp] at HO2 HN3 ⊢
          clear hown hnew hwp
          by_cases hke : k = m + 1
          · obtain rfl : z = -1 := by have := HZ2.out; omega
            subst hke
            rw [HPA.out] at HO2
            obtain ⟨ar, cr, rfl, hzr⟩ := ZRow.of_owns HO2.out (by omega) HIN.out
            have HZR := Lib.hid hzr
            clear hzr HO2
            go_wp2
            go_ret
            exact ⟨ar, cr, rfl, HZR.out, HN2.out.trans HN3.out⟩
          · obtain ⟨i, hik⟩ : ∃ i, m - k = i := ⟨_, rfl⟩
            obtain rfl : z = (i : Int) := by have := HZ2.out; omega
            have hi0 : (0 : Int) ≤ (i : Int) := by omega
            have him : (i : Int) < ((m + 1 : Nat) : Int) := by omega
            obtain ⟨b2, off2, rfl, hc2⟩ := (HZB.out.stay HN3.out).addr (by omega)
            have c2 := hc2 i (by omega)
            clear hc2
            have hbg := HBG.out k (by omega)
            have hpt := HPT.out k (by omega)
            rw [hik] at hbg hpt
            rw [hbg] at c2
            have HSS := Lib.hid hpt
            clear hbg hpt
            obtain ⟨y, hy⟩ : ∃ y, bkF l (m + 1) i = y := ⟨_, rfl⟩
            rw [hy] at c2 HSS
            clear hy
            have hown := HO2.out
            have hnew := HN3.out
            go_wp2_with (at_builtin; refine wpList_append_own _ rfl _ _ 22 rfl wq.heap.size 3 i0 (.int .i64 0) 1 8 Try.underlying22 hi hz0 hz1 hz2 rfl (by decide) _ k _ rfl (hown.alloc _) ⟨wp.heap.size, 0, none⟩ 1 1 [.int .i64 (y : Nat)] rfl rfl ?c1 ?c2 ?c3 ?c4 ?c5 ?_)
            try (case c1 => exact one_cell wp _ _)
            try (case c2 => first | rfl | (intro u hu; simp at hu; subst hu; rfl))
            try (case c3 => first | (unfold maxLen; omega) | omega)
            try (case c4 => omega)
            try (case c5 => first | (simp; have := hnew.le; omega) | (have := hnew.le; omega))
            intro v' w1 how hgr _
            have HO4 : Hid (w1.ownsRow wq.heap.size 3 1 v' (k + 1) ((pmT l (k + 1)).map fun x => .int .i64 x)) := Lib.hid (by
              rw [HSS.out, List.map_append]; exact how)
            have HN4 := Lib.hid ((hnew.alloc _).grown' hgr (own_base hown))
            clear how hgr hown hnew
            go_wp2
            exact ⟨⟨k + 1, _, by omega, rfl, Lib.hid (by omega), HO4.out, HN4.out⟩, by simp [intOf]⟩
      · obtain rfl : z = (j : Int) := by have := HZ.out; omega
        have hj0 : (0 : Int) ≤ (j : Int) := by omega
        have hjm : (j : Int) < ((m + 1 : Nat) : Int) := by omega
        obtain ⟨b, off, rfl, hc⟩ := (HH.out.stay HN2.out).addr (by omega)
        have c1 := hc j (by omega)
        clear hc
        have hcl := HF.out j (by omega)
        have hci : l.getD j 0 = ((fnI l j : Nat) : Int) := by
          have := HR.out j (by rw [HL.out]; omega)
          unfold fnI; omega
        rw [hci] at c1
        have hst : stF (fnI l) (m + 1) (m + 1 - j) = sw (stF (fnI l) (m + 1) (m + 1 - (j + 1))) j (fnI l j) := by
          rw [show m + 1 - j = (m + 1 - (j + 1)) + 1 by omega]
          show sw _ (m + 1 - 1 - (m + 1 - (j + 1))) _ = _
          rw [show m + 1 - 1 - (m + 1 - (j + 1)) = j by omega]
        have hbp : bkF l (m + 1) (m + 1 - (j + 1)) = stF (fnI l) (m + 1) (m + 1 - (j + 1)) (fnI l j) := by
          unfold bkF
          have h1 := st_put HF.out (k := m + 1 - (j + 1)) (by omega)
          rw [h1, show m + 1 - 1 - (m + 1 - (j + 1)) = j by omega]
        have hbs : liI (bkF l (m + 1)) (m + 1 - j) = liI (bkF l (m + 1)) (m + 1 - (j + 1)) ++ [((stF (fnI l) (m + 1) (m + 1 - (j + 1)) (fnI l j) : Nat) : Int)] := by
          rw [show m + 1 - j = (m + 1 - (j + 1)) + 1 by omega, liI_succ, hbp]
        obtain ⟨f, hf⟩ : ∃ f, stF (fnI l) (m + 1) (m + 1 - (j + 1)) = f := ⟨_, rfl⟩
        rw [hf] at HRW hst hbs
        obtain ⟨q, hq⟩ : ∃ q, fnI l j = q := ⟨_, rfl⟩
        rw [hq] at c1 hcl hst hbs
        have HST := Lib.hid hst
        have HBS := Lib.hid hbs
        clear hf hci hq hst hbs hbp
        obtain ⟨bl, hbl⟩ : ∃ z, liI (bkF l (m + 1)) (m + 1 - (j + 1)) = z := ⟨_, rfl⟩
        rw [hbl] at HBK HBS
        clear hbl
        obtain ⟨bn, hbn⟩ : ∃ z, m + 1 - (j + 1) = z := ⟨_, rfl⟩
        have hbn2 : m + 1 - j = bn + 1 := by omega
        rw [hbn] at HBK
        obtain ⟨hci, hfi⟩ := ow_int HRW.out (k := j) (by omega)
        obtain ⟨hcq, hfq⟩ := ow_int HRW.out (k := q) (by omega)
        rw [liI_get f (show j < j + 1 by omega)] at hci
        rw [liI_get f (show q < j + 1 by omega)] at hcq
        have hq0 : (0 : Int) ≤ (q : Int) := by omega
        have hqj : (q : Int) < ((j + 1 : Nat) : Int) := by omega
        have hbk := HBK.out
        have hrow := HRW.out
        have hnew := HN2.out
        have hne : (Value.slice (some ⟨g, 0, none⟩) (j + 1 : Nat) cap).ownBlock ≠ u4.ownBlock := fun e' => by
          have h1 := own_base hbk g (by rw [← e']; rfl)
          omega
        by_cases hj0' : j = 0
        · subst hj0'
          obtain rfl : q = 0 := by omega
          rw [Nat.add_zero] at c1
          have c1' : wq.cell? ⟨b, off, none⟩ = some (.int .i64 0) := c1
          clear c1
          have c1 := c1'
          go_wp2_with (at_builtin; refine wpList_append_own _ rfl _ _ 22 rfl w9.heap.size 3 i0 (.int .i64 0) 1 8 Try.underlying22 hi hz0 hz1 hz2 rfl (by decide) _ bn _ rfl (hbk.alloc _) ⟨wq.heap.size, 0, none⟩ 1 1 [.int .i64 (f 0 : Nat)] rfl rfl ?e1 ?e2 ?e3 ?e4 ?e5 ?_)
          try (case e1 => exact one_cell wq _ _)
          try (case e2 => first | rfl | (intro u hu; simp at hu; subst hu; rfl))
          try (case e3 => first | (unfold maxLen; omega) | omega)
          try (case e4 => omega)
          try (case e5 => first | (simp; have := HSZ.out; omega) | (have := HSZ.out; omega))
          intro v' w1 how hgr _
          have hrow1 := (hrow.alloc (.cells #[.int .i64 (f 0 : Nat)] 3)).kept hgr (.inr hne)
          have hnew1 := (hnew.alloc (.cells #[.int .i64 (f 0 : Nat)] 3)).grown' hgr (fun k hk => by
            have h1 := own_base hbk k hk
            have h2 := HN.out.le
            omega)
          have hsz1 : w9.heap.size ≤ w1.heap.size := by
            have h1 := hgr.size
            have h2 := HSZ.out
            simp at h1
            omega
          have HB2 : Hid (w1.ownsRow w9.heap.size 3 1 v' (bn + 1) ((liI (bkF l (m + 1)) (m + 1 - 0)).map fun x => .int .i64 x)) := Lib.hid (by
            rw [HBS.out, List.map_append]; exact how)
          obtain ⟨hci1, hfi1⟩ := ow_int hrow1 (k := 0) (by omega)
          obtain ⟨hcq1, hfq1⟩ := ow_int hrow1 (k := 0) (by omega)
          rw [liI_get f (show 0 < 0 + 1 by omega)] at hci1
          rw [liI_get f (show 0 < 0 + 1 by omega)] at hcq1
          have HQ2 : Hid ((w1.setCell ⟨g, 0, none⟩ (.int .i64 (f 0 : Nat))).ownsRow w.heap.size 3 1 (.slice (some ⟨g, 0, none⟩) 0 cap) 0 ((liI (stF (fnI l) (m + 1) (m + 1 - 0)) 0).map fun x => .int .i64 x)) := Lib.hid (by
            have h1 := ow_cut (ow_set hrow1 0 (.int .i64 (f 0 : Nat))) (show 0 ≤ 0 + 1 by omega)
            rw [← List.map_set, ← List.map_take, row_next f hcl, ← HST.out] at h1
            exact h1)
          have HB3 : Hid ((w1.setCell ⟨g, 0, none⟩ (.int .i64 (f 0 : Nat))).ownsRow w9.heap.size 3 1 v' (m + 1 - 0) ((liI (bkF l (m + 1)) (m + 1 - 0)).map fun x => .int .i64 x)) := Lib.hid (by
            have h1 := ow_far HB2.out (a := ⟨g, 0, none⟩) (fun e' => by
              have := own_base HB2.out g e'
              omega) (.int .i64 (f 0 : Nat))
            rw [hbn2] at h1 ⊢
            exact h1)
          have HN5 : Hid (New w (w1.setCell ⟨g, 0, none⟩ (.int .i64 (f 0 : Nat)))) := Lib.hid (hnew1.setCell hgb _)
          have HS5 : Hid (w9.heap.size ≤ (w1.setCell ⟨g, 0, none⟩ (.int .i64 (f 0 : Nat))).heap.size) := Lib.hid (by simpa using hsz1)
          have hc0 : ¬ cap = 0 := by omega
          have hjc : (0 : Int) ≤ (cap : Int) := by have := ow_shape HRW.out (by omega); obtain ⟨_, _, h1, _, _, h2, _⟩ := this; cases h1; omega
          clear how hgr hrow hnew hbk hrow1 hnew1 hsz1 HB2 c1 hci hfi hcq hfq hne HST HBS
          go_wp2
          exact ⟨⟨0, _, by omega, rfl, Lib.hid (by omega), rfl, HQ2.out, HB3.out, HN5.out, HS5⟩, by simp [intOf]⟩
        · have hjn : ((j : Int) == 0) = false := by rw [beq_eq_false_iff_ne]; omega
          go_wp2_with (at_builtin; refine wpList_append_own _ rfl _ _ 22 rfl w9.heap.size 3 i0 (.int .i64 0) 1 8 Try.underlying22 hi hz0 hz1 hz2 rfl (by decide) _ bn _ rfl (hbk.alloc _) ⟨wq.heap.size, 0, none⟩ 1 1 [.int .i64 (f q : Nat)] rfl rfl ?d1 ?d2 ?d3 ?d4 ?d5 ?_)
          try (case d1 => exact one_cell wq _ _)
          try (case d2 => first | rfl | (intro u hu; simp at hu; subst hu; rfl))
          try (case d3 => first | (unfold maxLen; omega) | omega)
          try (case d4 => omega)
          try (case d5 => first | (simp; have := HSZ.out; omega) | (have := HSZ.out; omega))
          intro v' w1 how hgr _
          have hrow1 := (hrow.alloc (.cells #[.int .i64 (f q : Nat)] 3)).kept hgr (.inr hne)
          have hnew1 := (hnew.alloc (.cells #[.int .i64 (f q : Nat)] 3)).grown' hgr (fun k hk => by
            have h1 := own_base hbk k hk
            have h2 := HN.out.le
            omega)
          have hsz1 : w9.heap.size ≤ w1.heap.size := by
            have h1 := hgr.size
            have h2 := HSZ.out
            simp at h1
            omega
          have HB2 : Hid (w1.ownsRow w9.heap.size 3 1 v' (bn + 1) ((liI (bkF l (m + 1)) (m + 1 - j)).map fun x => .int .i64 x)) := Lib.hid (by
            rw [HBS.out, List.map_append]; exact how)
          obtain ⟨hci1, hfi1⟩ := ow_int hrow1 (k := j) (by omega)
          obtain ⟨hcq1, hfq1⟩ := ow_int hrow1 (k := q) (by omega)
          rw [liI_get f (show j < j + 1 by omega)] at hci1
          rw [liI_get f (show q < j + 1 by omega)] at hcq1
          have HQ2 : Hid ((w1.setCell ⟨g, q, none⟩ (.int .i64 (f j : Nat))).ownsRow w.heap.size 3 1 (.slice (some ⟨g, 0, none⟩) j cap) j ((liI (stF (fnI l) (m + 1) (m + 1 - j)) j).map fun x => .int .i64 x)) := Lib.hid (by
            have h1 := ow_cut (ow_set hrow1 q (.int .i64 (f j : Nat))) (show j ≤ j + 1 by omega)
            rw [← List.map_set, ← List.map_take, row_next f hcl, ← HST.out] at h1
            exact h1)
          have HB3 : Hid ((w1.setCell ⟨g, q, none⟩ (.int .i64 (f j : Nat))).ownsRow w9.heap.size 3 1 v' (m + 1 - j) ((liI (bkF l (m + 1)) (m + 1 - j)).map fun x => .int .i64 x)) := Lib.hid (by
            have h1 := ow_far HB2.out (a := ⟨g, q, none⟩) (fun e' => by
              have := own_base HB2.out g e'
              omega) (.int .i64 (f j : Nat))
            rw [hbn2] at h1 ⊢
            exact h1)
          have HN5 : Hid (New w (w1.setCell ⟨g, q, none⟩ (.int .i64 (f j : Nat)))) := Lib.hid (hnew1.setCell hgb _)
          have HS5 : Hid (w9.heap.size ≤ (w1.setCell ⟨g, q, none⟩ (.int .i64 (f j : Nat))).heap.size) := Lib.hid (by simpa using hsz1)
          have hc0 : ¬ cap = 0 := by omega
          have hjc : (j : Int) ≤ (cap : Int) := by have := ow_shape HRW.out (by omega); obtain ⟨_, _, h1, _, _, h2, _⟩ := this; cases h1; omega
          clear how hgr hrow hnew hbk hrow1 hnew1 hsz1 HB2 c1 hci hfi hcq hfq hne HST HBS
          go_wp2
          exact ⟨⟨j, _, by omega, rfl, Lib.hid (by omega), rfl, HQ2.out, HB3.out, HN5.out, HS5⟩, by simp [intOf]⟩
end Go.Proofs.Ytopepchfaomdoaa
