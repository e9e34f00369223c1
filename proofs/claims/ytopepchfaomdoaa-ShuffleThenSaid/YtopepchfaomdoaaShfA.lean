/- shuffle: rows, clones; which lists are choices, which are orders. -/
import Derived.Test.YtopepchfaomdoaaShfM
import Derived.Test.YtopepchfaomdoaaOwnS
import Derived.Test.YtopepchfaomdoaaTabB
namespace Go.Proofs.Ytopepchfaomdoaa
open Go Go.RowKit Go.Bv
set_option linter.unusedVariables false
theorem info_int40 : (Try.prog.info? 3).map (fun i => (i.zero, i.size, i.bytes)) = some (some (.int .i64 0), 1, 8) := by kernel_rfl
theorem info_bool40 : (Try.prog.info? 4).map (fun i => (i.zero, i.size, i.bytes)) = some (some (.bool false), 1, 1) := by kernel_rfl
theorem one_cell (w : World) (x : Value) (t : TypeId) : ∀ j u, [x][j]? = some u → (w.alloc (.cells #[x] t)).cell? ((⟨w.heap.size, 0, none⟩ : Addr).add j) = some u := cell_one_new w x t
theorem liI_succ (f : Nat → Nat) (n : Nat) : liI f (n + 1) = liI f n ++ [(f n : Int)] := by unfold liI; rw [List.range_succ, List.map_append]; rfl
set_option maxHeartbeats 1000000 in
theorem row_ref40 (n : Nat) (w : World) (hn : n ≤ 1000000) :
    Calls Try.prog 18 #[.int .i64 (n : Int)] w fun e w' => ∃ v, e = .returned v ∧ w'.ownsRow w.heap.size 3 1 v n ((liI (fun x => x) n).map fun x => .int .i64 x) ∧ New w w' := by
  obtain ⟨i0, hi, hz0, hz1, hz2⟩ := info_parts info_int40
  go_enter Try.func18, Try.ntmps18
  go_wp2
  go_loopw [3, 4] (fun v iv wr => ∃ k : Nat, k ≤ n ∧ iv = .int .i64 (k : Int) ∧ wr.ownsRow w.heap.size 3 1 v k ((liI (fun x => x) k).map fun x => .int .i64 x) ∧ New w wr) (fun _ iv _ => n - (intOf iv).toNat)
  case atStart => exact ⟨0, Nat.zero_le _, rfl, World.ownsRow_nil w _ _ 1, New.refl w⟩
  case round =>
    obtain ⟨k, hk, rfl, hown, hnew⟩ := hrel
    by_cases hlt : (k : Int) < (n : Int)
    · obtain ⟨wq, hwq⟩ : ∃ z, z = wr := ⟨_, rfl⟩
      rw [← hwq] at hown hnew ⊢
      clear hwq
      have HL := Lib.hid (liI_succ (fun x => x) k)
      go_wp2_with (at_builtin; refine wpList_append_own _ rfl _ _ 22 rfl w.heap.size 3 i0 (.int .i64 0) 1 8 Try.underlying22 hi hz0 hz1 hz2 rfl (by decide) _ k _ rfl (hown.alloc _) ⟨wq.heap.size, 0, none⟩ 1 1 [.int .i64 (k : Int)] rfl rfl ?c1 ?c2 ?c3 ?c4 ?c5 ?_)
      try (case c1 => exact one_cell wq _ _)
      try (case c2 => first | rfl | (intro u hu; simp at hu; subst hu; rfl))
      try (case c3 => first | (unfold maxLen; omega) | omega)
      try (case c4 => omega)
      try (case c5 => first | (simp; have := hnew.le; omega) | (have := hnew.le; omega))
      intro v' w1 how hgr _
      have HO2 : Hid (w1.ownsRow w.heap.size 3 1 v' (k + 1) ((liI (fun x => x) (k + 1)).map fun x => .int .i64 x)) := Lib.hid (by
        rw [HL.out, List.map_append]; exact how)
      have HN1 := Lib.hid ((hnew.alloc _).grown' hgr (own_base hown))
      clear how hgr hown hnew
      go_wp2
      exact ⟨⟨k + 1, by omega, by go_num, HO2.out, HN1.out⟩, by simp [intOf]; omega⟩
    · obtain rfl : k = n := by omega
      go_wp2
      go_ret
      exact ⟨_, rfl, hown, hnew⟩
/-- the first k numbers in their order, zeros behind them -/
def sqI (n k : Nat) : List Int := liI (fun x => if x < k then x else 0) n
theorem sqI_zero (n : Nat) : (List.replicate n (Value.int .i64 0)) = (sqI n 0).map fun x => .int .i64 x := by
  unfold sqI liI
  apply List.ext_getElem?
  intro i
  rw [List.getElem?_replicate, List.getElem?_map, List.getElem?_map]
  by_cases h : i < n
  · rw [if_pos h, List.getElem?_range h]; simp
  · rw [if_neg h, List.getElem?_eq_none (by simp; omega)]; rfl
theorem sqI_all (n : Nat) : sqI n n = liI (fun x => x) n := liI_ext fun x hx => by rw [if_pos hx]
theorem sqI_set (n k : Nat) (h : k < n) : (sqI n k).set k (k : Int) = sqI n (k + 1) := by
  unfold sqI
  rw [liI_set _ k h]
  apply liI_ext
  intro x _
  by_cases e : x = k
  · rw [if_pos e, if_pos (by omega), e]
  · rw [if_neg e]
    by_cases e2 : x < k
    · rw [if_pos e2, if_pos (by omega)]
    · rw [if_neg e2, if_neg (by omega)]
theorem make_int (n : Nat) (hn : n ≤ 1000000) (t : Int) (w : World) (ht : t = ((n : Nat) : Int)) : (Instr.makeSlice 22 (.int .i64 t) (.int .i64 t)).run Try.prog w = .ok (.slice (some ⟨w.heap.size, 0, none⟩) n n) (w.alloc (.cells (madeCells #[.int .i64 0] n) 3)) := by
  obtain ⟨i0, hi, hz0, hz1, hz2⟩ := info_parts info_int40
  subst ht
  exact run_make_row (P := Try.prog) 22 3 i0 (.int .i64 0) Try.underlying22 hi hz0 hz1 rfl .i64 .i64 n (by rw [hz2]; omega) (by omega) w
set_option maxRecDepth 100000 in
set_option maxHeartbeats 2000000 in
theorem sorted_40 (n : Nat) (w : World) (hn : n ≤ 1000000) :
    Calls Try.prog 28 #[.int .i64 (n : Int)] w fun e w' => ∃ g, e = .returned (.slice (some ⟨g, 0, none⟩) (n : Nat) n) ∧ w'.ownsRow w.heap.size 3 1 (.slice (some ⟨g, 0, none⟩) n n) n ((liI (fun x => x) n).map fun x => .int .i64 x) ∧ New w w' := by
  obtain ⟨i0, hi, hz0, hz1, hz2⟩ := info_parts info_int40
  have HMK := Lib.hid (make_int n hn)
  go_enter Try.func28, Try.ntmps28
  go_wp2_with fail
  rw [HMK.out _ _ rfl]
  go_wp2_with fail
  go_loopw [9] (fun iv wr => ∃ k : Nat, k ≤ n ∧ iv = .int .i64 (k : Int) ∧ wr.ownsRow w.heap.size 3 1 (.slice (some ⟨w.heap.size, 0, none⟩) n n) n ((sqI n k).map fun x => .int .i64 x) ∧ New w wr) (fun iv _ => n - (intOf iv).toNat)
  case atStart => exact ⟨0, Nat.zero_le _, rfl, ow_made w _ _ _ n _ (Nat.le_refl _) (by omega) (by rw [made_toList, sqI_zero]) (by rw [List.length_map, sqI, liI_len]), (New.refl w).alloc _⟩
  case round =>
    obtain ⟨k, hk, rfl, hown, hnew⟩ := hrel
    by_cases hlt : (k : Int) < (n : Int)
    · have hk0 : (0 : Int) ≤ (k : Int) := by omega
      obtain ⟨hc1, hf1⟩ := ow_int hown (k := k) (by omega)
      have HO2 : Hid ((wr.setCell ⟨w.heap.size, k, none⟩ (.int .i64 (k : Int))).ownsRow w.heap.size 3 1 (.slice (some ⟨w.heap.size, 0, none⟩) n n) n ((sqI n (k + 1)).map fun x => .int .i64 x)) := Lib.hid (by
        rw [← sqI_set n k (by omega), List.map_set]; exact ow_set hown k _)
      have HN2 : Hid (New w (wr.setCell ⟨w.heap.size, k, none⟩ (.int .i64 (k : Int)))) := Lib.hid (hnew.setCell (Nat.le_refl _) _)
      clear hown hnew
      go_wp2
      exact ⟨⟨k + 1, by omega, by go_num, HO2.out, HN2.out⟩, by simp [intOf]; omega⟩
    · obtain rfl : k = n := by omega
      rw [sqI_all] at hown
      go_wp2
      go_ret
      exact ⟨_, rfl, hown, hnew⟩
theorem clone_z (a : Option Addr) (len cap : Nat) (l : List Int) (w : World) (h : ZRow w a len cap l) :
    Calls Try.prog 29 #[.slice a len cap] w fun e w' => ∃ v, e = .returned v ∧ w'.ownsRow w.heap.size 3 1 v len (l.map fun x => .int .i64 x) ∧ New w w' := by
  obtain ⟨i0, hi, hz0, hz1, hz2⟩ := info_parts info_int40
  have hq : ∀ (w : World) (a : Option Addr) (n c n' c' : Nat), (binOp .eql 22 (.slice a n c) (.slice none n' c')).run Try.prog w = .ok (.bool a.isNone) w := fun w a n c n' c' => Lib.run_eql_slice_nil w _ _ a n c n' c' Try.underlying22
  cases a with
  | none =>
    obtain ⟨rfl, rfl⟩ := h.none rfl
    obtain rfl : l = [] := List.eq_nil_of_length_eq_zero h.len_eq
    go_enter Try.func29, Try.ntmps29
    go_wp2
    go_ret
    exact ⟨_, rfl, World.ownsRow_nil w _ _ 1, New.refl w⟩
  | some x =>
    have H := Lib.hid h
    clear h
    go_enter Try.func29, Try.ntmps29
    go_wp2_with (at_builtin; refine wpList_append_own _ rfl _ _ 22 rfl w.heap.size 3 i0 (.int .i64 0) 1 8 Try.underlying22 hi hz0 hz1 hz2 rfl (by decide) _ 0 [] rfl (World.ownsRow_made w #[] 0 (Nat.le_refl _) (Nat.zero_le _) (by simp)) x len cap (l.map fun x => .int .i64 x) rfl ?c1 ?c2 ?c3 ?c4 ?c5 ?c6 ?_)
    case c1 => rw [List.length_map, H.out.len_eq]; omega
    case c2 => intro j u hj; exact Lib.cell?_alloc_some _ (H.out.olds x rfl j u hj)
    case c3 => intro u hu; rw [List.mem_map] at hu; obtain ⟨y, _, rfl⟩ := hu; rfl
    case c4 => have := H.out.most; unfold maxLen; omega
    case c5 => have := H.out.most; omega
    case c6 => simp
    intro v' w1 how hgr _
    have how2 : w1.ownsRow w.heap.size 3 1 v' len (l.map fun x => .int .i64 x) := by simpa using how
    have hn1 : New w w1 := ((New.refl w).alloc _).grown' hgr (fun k hk => by simp [Value.ownBlock] at hk; omega)
    clear how hgr
    go_wp2
    go_ret
    exact ⟨_, rfl, how2, hn1⟩
/-- whether the first k may be choices -/
def rtB (c : List Int) : Nat → Bool
  | 0 => true
  | k + 1 => rtB c k && (decide (0 ≤ c.getD k 0) && decide (c.getD k 0 ≤ (k : Int)))
theorem rtB_iff {c : List Int} : ∀ {k}, rtB c k = true ↔ ∀ i, i < k → 0 ≤ c.getD i 0 ∧ c.getD i 0 ≤ (i : Int)
  | 0 => ⟨fun _ i h => by omega, fun _ => rfl⟩
  | k + 1 => by
    show (rtB c k && (decide (0 ≤ c.getD k 0) && decide (c.getD k 0 ≤ (k : Int)))) = true ↔ _
    rw [Bool.and_eq_true, Bool.and_eq_true, decide_eq_true_eq, decide_eq_true_eq, rtB_iff (k := k)]
    constructor
    · rintro ⟨h1, h2⟩ i hi
      by_cases e : i = k
      · subst e; exact h2
      · exact h1 i (by omega)
    · intro h
      exact ⟨fun i hi => h i (by omega), h k (by omega)⟩
theorem rtB_no {c : List Int} {n k : Nat} (hk : k < n) (h : c.getD k 0 < 0 ∨ (k : Int) < c.getD k 0) : rtB c n = false := by
  rw [← Bool.not_eq_true, rtB_iff]
  intro h2
  have := h2 k hk
  omega
def rightB (c : List Int) : Bool := rtB c c.length
theorem rightB_iff {c : List Int} : rightB c = true ↔ rtI c := rtB_iff
set_option maxHeartbeats 1000000 in
theorem right_40 (a : Option Addr) (n c : Nat) (l : List Int) (w : World) (h : ZRow w a n c l) :
    Calls Try.prog 10 #[.slice a n c] w fun e w' => e = .returned (.bool (rightB l)) ∧ w' = w := by
  have hm := h.most
  have HL := Lib.hid h.len_eq
  have HH := Lib.hid h
  have HB : Hid (rightB l = rtB l n) := Lib.hid (by unfold rightB; rw [HL.out])
  clear h
  go_enter Try.func10, Try.ntmps10
  go_wp2
  go_loop [7] (fun i => ∃ k : Nat, k ≤ n ∧ i = .int .i64 (k : Int) ∧ Hid (rtB l k = true)) (fun i => n - (intOf i).toNat)
  case atStart => exact ⟨0, Nat.zero_le _, rfl, Lib.hid rfl⟩
  case round =>
    obtain ⟨k, hk, rfl, H⟩ := hrel
    by_cases hlt : (k : Int) < (n : Int)
    · obtain ⟨b, off, rfl, hc⟩ := HH.out.addr (by omega)
      have c1 := hc k (by omega)
      clear hc
      have hk0 : (0 : Int) ≤ (k : Int) := by omega
      have HNO := Lib.hid (fun h => rtB_no (c := l) (n := n) (k := k) (by omega) h)
      have HST : Hid (rtB l (k + 1) = (rtB l k && (decide (0 ≤ l.getD k 0) && decide (l.getD k 0 ≤ (k : Int))))) := Lib.hid rfl
      obtain ⟨y, hy⟩ : ∃ z, l.getD k 0 = z := ⟨_, rfl⟩
      rw [hy] at c1 HNO HST
      clear hy
      by_cases h1 : y < 0
      · go_wp2
        go_ret
        rw [HB.out, HNO.out (.inl h1)]; exact ⟨rfl, rfl⟩
      by_cases h2 : (k : Int) < y
      · go_wp2
        go_ret
        rw [HB.out, HNO.out (.inr h2)]; exact ⟨rfl, rfl⟩
      have h1' : 0 ≤ y := by omega
      have h2' : y ≤ (k : Int) := by omega
      go_wp2
      exact ⟨⟨k + 1, by omega, by go_num, Lib.hid (by rw [HST.out, H.out, decide_eq_true h1', decide_eq_true h2']; rfl)⟩, by simp [intOf]; omega⟩
    · obtain rfl : k = n := by omega
      go_wp2
      go_ret
      rw [HB.out, H.out]; exact ⟨rfl, rfl⟩
end Go.Proofs.Ytopepchfaomdoaa
