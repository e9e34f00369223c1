import Derived.Test.YtoplabhoedloeaaGreatDrvG
import Derived.Test.YtoplabhoedloeaaGreatZRow
import Derived.WalkMore
/- Layer 45: Parts. -/
namespace Go.Drv
open Go Go.RowKit Go.Bv
set_option linter.unusedVariables false
/-- the two boxes of Parts: the parts so far, what is wrong -/
def PI (TS TR TE : TypeId) (B : Nat) (pre : List (List UInt8)) (e : Int) (W : World) : Prop :=
  ∃ v, W.heap[B]? = some (.cells #[v] TS (0, 0)) ∧ W.ownsRow (B + 2) TR 1 v pre.length (pre.map fun x => Value.string (bs x)) ∧ W.heap[B + 1]? = some (.cells #[.int .i64 e] TE (0, 0))
theorem own_not {w w' : World} {base : Nat} {t : TypeId} {v : Value} {n : Nat} {xs : List Value} {row : Option Nat} (h : w.ownsRow base t 1 v n xs) (hg : w.grownBy w' row) (hr : ∀ r, row = some r → ∃ o : Obj, w.heap[r]? = some o ∧ o.isCells = false) : w'.ownsRow base t 1 v n xs := by
  obtain ⟨hl, h⟩ := h
  refine ⟨hl, ?_⟩
  rcases h with h | ⟨g, cap, cur, hv, hb', hc, h2⟩
  · exact Or.inl h
  · exact Or.inr ⟨g, cap, cur, hv, hb', (grownBy_keeps_cells hg hr hc rfl).trans hc, h2⟩
theorem own_other {w w' : World} {base : Nat} {t : TypeId} {v : Value} {n : Nat} {xs : List Value} (h : w.ownsRow base t 1 v n xs) (hk : ∀ k, base ≤ k → k < w.heap.size → w'.heap[k]? = w.heap[k]?) : w'.ownsRow base t 1 v n xs := by
  obtain ⟨hl, h⟩ := h
  refine ⟨hl, ?_⟩
  rcases h with h | ⟨g, cap, cur, hv, hb', hc, h2⟩
  · exact Or.inl h
  · exact Or.inr ⟨g, cap, cur, hv, hb', (hk g hb' (lt_of_block hc)).trans hc, h2⟩
theorem PI.not {TS TR TE : TypeId} {B : Nat} {pre : List (List UInt8)} {e : Int} {W W' : World} {row : Option Nat} (h : PI TS TR TE B pre e W) (hg : W.grownBy W' row) (hr : ∀ r, row = some r → ∃ o : Obj, W.heap[r]? = some o ∧ o.isCells = false) : PI TS TR TE B pre e W' := by
  obtain ⟨v, h1, h2, h3⟩ := h
  exact ⟨v, (grownBy_keeps_cells hg hr h1 rfl).trans h1, own_not h2 hg hr, (grownBy_keeps_cells hg hr h3 rfl).trans h3⟩
theorem fst_snoc (pre : List (List UInt8)) (x : List UInt8) (h : fstE pre = 0) : fstE (pre ++ [x]) = labE x := by
  rw [fst_app, if_pos h]
  show (if labE x = 0 then 0 else labE x) = labE x
  by_cases e : labE x = 0
  · rw [if_pos e, e]
  · rw [if_neg e]
theorem own_slice {w : World} {base : Nat} {t : TypeId} {v : Value} {n : Nat} {xs : List Value} (h : w.ownsRow base t 1 v n xs) : ∃ a cap, v = .slice a n cap := by
  obtain ⟨hl, h⟩ := h
  rcases h with ⟨rfl, rfl⟩ | ⟨g, cap, cur, hv, hb', hc, h2⟩
  · exact ⟨_, _, rfl⟩
  · exact ⟨_, _, hv⟩
theorem own_low {w : World} {base base' : Nat} {t : TypeId} {v : Value} {n : Nat} {xs : List Value} (h : w.ownsRow base t 1 v n xs) (hb : base' ≤ base) : w.ownsRow base' t 1 v n xs := by
  obtain ⟨hl, h⟩ := h
  refine ⟨hl, ?_⟩
  rcases h with h | ⟨g, cap, cur, hv, hb', hc, h2⟩
  · exact Or.inl h
  · exact Or.inr ⟨g, cap, cur, hv, by omega, hc, h2⟩
theorem three_new (w : World) (o1 o2 o3 : Obj) : (((w.alloc o1).alloc o2).alloc o3).heap[w.heap.size]? = some o1 ∧ (((w.alloc o1).alloc o2).alloc o3).heap[w.heap.size + 1]? = some o2 ∧ (((w.alloc o1).alloc o2).alloc o3).heap[w.heap.size + 1 + 1]? = some o3 ∧ New w (((w.alloc o1).alloc o2).alloc o3) ∧ (((w.alloc o1).alloc o2).alloc o3).heap.size = w.heap.size + 3 := by
  have hs1 : (w.alloc o1).heap.size = w.heap.size + 1 := by simp
  have hs2 : ((w.alloc o1).alloc o2).heap.size = w.heap.size + 1 + 1 := by simp
  have hn2 := (New.refl (w.alloc o1)).alloc o2
  have hn3 := (New.refl ((w.alloc o1).alloc o2)).alloc o3
  have hb1 := World.alloc_heap_new w o1
  have hb2 := World.alloc_heap_new (w.alloc o1) o2
  have hb3 := World.alloc_heap_new ((w.alloc o1).alloc o2) o3
  rw [hs1] at hb2
  rw [hs2] at hb3
  exact ⟨(hn3.block _ (by rw [hs2]; omega)).trans ((hn2.block _ (by rw [hs1]; omega)).trans hb1), (hn3.block _ (by rw [hs2]; omega)).trans hb2, hb3, (((New.refl w).alloc _).alloc _).alloc _, by simp⟩
theorem set_b1 {TS TR TE : TypeId} {B n : Nat} {v : Value} {xs : List Value} {W : World} (e e2 : Int) (hb0 : W.heap[B]? = some (.cells #[v] TS (0, 0))) (hown : W.ownsRow (B + 2) TR 1 v n xs) (hb1 : W.heap[B + 1]? = some (.cells #[.int .i64 e] TE (0, 0))) :
    (W.setCell ⟨B + 1, 0, none⟩ (.int .i64 e2)).heap[B]? = some (.cells #[v] TS (0, 0)) ∧ (W.setCell ⟨B + 1, 0, none⟩ (.int .i64 e2)).ownsRow (B + 2) TR 1 v n xs ∧ (W.setCell ⟨B + 1, 0, none⟩ (.int .i64 e2)).heap[B + 1]? = some (.cells #[.int .i64 e2] TE (0, 0)) ∧ KeepsOthers W (W.setCell ⟨B + 1, 0, none⟩ (.int .i64 e2)) ∧ Below B W (W.setCell ⟨B + 1, 0, none⟩ (.int .i64 e2)) := by
  refine ⟨(heap_setCell_other W ⟨B + 1, 0, none⟩ B _ (by show B ≠ B + 1; omega)).trans hb0, own_other hown (fun k hk _ => heap_setCell_other W ⟨B + 1, 0, none⟩ k _ (by show k ≠ B + 1; omega)), heap_setCell_same W (B + 1) 0 _ _ _ hb1, KeepsOthers.setCell _ _ _, (Below.refl B W).setCell (p := ⟨B + 1, 0, none⟩) (Nat.le_succ _) _⟩
theorem app_b0 {TS TR TE : TypeId} {B n m : Nat} {v v' : Value} {xs ys : List Value} {W w1 : World} {e : Int} {o : Obj} (hb0 : W.heap[B]? = some (.cells #[v] TS (0, 0))) (hown : W.ownsRow (B + 2) TR 1 v n xs) (hb1 : W.heap[B + 1]? = some (.cells #[.int .i64 e] TE (0, 0)))
    (hgr : (W.alloc o).grownBy w1 v.ownBlock) (how : w1.ownsRow (B + 2) TR 1 v' m ys) :
    w1.heap[B]? = some (.cells #[v] TS (0, 0)) ∧ (w1.setCell ⟨B, 0, none⟩ v').heap[B]? = some (.cells #[v'] TS (0, 0)) ∧ (w1.setCell ⟨B, 0, none⟩ v').ownsRow (B + 2) TR 1 v' m ys ∧ (w1.setCell ⟨B, 0, none⟩ v').heap[B + 1]? = some (.cells #[.int .i64 e] TE (0, 0)) ∧ KeepsOthers W (w1.setCell ⟨B, 0, none⟩ v') ∧ Below B W (w1.setCell ⟨B, 0, none⟩ v') := by
  have hn : New W (W.alloc o) := (New.refl W).alloc _
  have hB := lt_of_block hb0
  have hB1 := lt_of_block hb1
  have hlt : ∀ k, v.ownBlock = some k → B + 2 ≤ k ∧ k < W.heap.size := hown.lt
  have hsz : (W.alloc o).heap.size = W.heap.size + 1 := by simp
  have c0 : w1.heap[B]? = some (.cells #[v] TS (0, 0)) := by
    rw [hgr.block B (by omega) (fun e0 => by have := (hlt B e0.symm).1; omega), hn.block B hB, hb0]
  have c1 : w1.heap[B + 1]? = some (.cells #[.int .i64 e] TE (0, 0)) := by
    rw [hgr.block (B + 1) (by omega) (fun e0 => by have := (hlt (B + 1) e0.symm).1; omega), hn.block (B + 1) hB1, hb1]
  refine ⟨c0, heap_setCell_same w1 B 0 _ _ _ c0, own_other how (fun k hk _ => heap_setCell_other w1 ⟨B, 0, none⟩ k _ (by show k ≠ B; omega)), (heap_setCell_other w1 ⟨B, 0, none⟩ (B + 1) _ (by show B + 1 ≠ B; omega)).trans c1, ?_, ?_⟩
  · refine (KeepsOthers.alloc W o).trans ((KeepsOthers.of_grownBy hgr ?_).trans (KeepsOthers.setCell _ _ _))
    intro j ob hj ho
    obtain ⟨hl, h⟩ := hown
    rcases h with ⟨rfl, _⟩ | ⟨g, cap, cur, rfl, hb', hc, h2⟩
    · cases hj
    · have hjg : g = j := by
        have : some g = some j := hj
        exact Option.some.inj this
      subst hjg
      rw [hn.block g (lt_of_block hc), hc] at ho
      cases ho
      rfl
  · refine Below.setCell (p := ⟨B, 0, none⟩) ?_ (Nat.le_refl _) _
    have h1 : Below B W (W.alloc o) := (Below.refl B W).alloc (by omega) _
    exact h1.grown hgr (by omega) (fun k e0 => by have := (hlt k e0).1; omega)
/-- what Parts answers -/
def PtP (TR : TypeId) (w : World) (l : List UInt8) (e : Ending) (w' : World) : Prop :=
  ((ptE (pts l) ≠ 0 ∧ e = .returned (.tuple #[.slice none 0 0, .int .i64 (ptE (pts l))])) ∨
   (ptE (pts l) = 0 ∧ ∃ v, e = .returned (.tuple #[v, .int .i64 0]) ∧ w'.ownsRow w.heap.size TR 1 v (pts l).length ((pts l).map fun x => Value.string (bs x)))) ∧ New w w'
end Go.Drv
namespace Go.Proofs.YtoplabhoedloeaaGreat
open Go Go.RowKit Go.Bv Go.Shelf Go.Drv
attribute [local go_sem] Oper.semAt_some
set_option linter.unusedVariables false
theorem info_str : (Tryz.prog.info? 9).map (fun i => (i.zero, i.size, i.bytes)) = some (some (.string ⟨#[]⟩), 1, 16) := by kernel_rfl
set_option maxRecDepth 100000 in
set_option maxHeartbeats 4000000 in
theorem parts_q (l : List UInt8) (hlim : l.length ≤ 1000000) (w : World) (hx : MaxL w) :
    Calls Tryz.prog 12 #[.string (bs l)] w fun e w' => PtP 9 w l e w' := by
  have HE := Lib.hid (fun w => each_q l w)
  obtain ⟨i0, hi, hz0, hz1, hz2⟩ := info_parts info_str
  refine (callsIn_wide (n := 9)).1 ?_
  refine callsIn_of_wp_marks Tryz.func12 rfl trivial ?_ rfl
  simp only [Tryz.ntmps12, List.size_toArray, List.length_cons, List.length_nil, Nat.reduceAdd, Nat.reduceSub, Array.replicate_succ, Array.replicate_zero, List.push_toArray, List.append_toArray, List.nil_append, List.cons_append]
  gi_wp2
  refine wpIn_wide.2 (wp_scope_straight ((wpIn_wide (n := 9)).1 ?_))
  gi_wp2
  refine wpIn_label ?_
  gi_wp2
  refine ⟨trivial, ?_⟩
  refine (callsIn_wide.2 (HE.out _)).mono ?_
  rintro e w' ⟨rfl, hw⟩
  replace hw := hw.symm
  subst hw
  gi_wp2
  obtain ⟨hA, hB, hC, hN, hs3⟩ := three_new w (.cells #[.slice none 0 0] 41) (.cells #[.int .i64 0] 29) (.cells #[.string (bs l)] 9)
  generalize ((w.alloc (.cells #[.slice none 0 0] 41)).alloc (.cells #[.int .i64 0] 29)).alloc (.cells #[.string (bs l)] 9) = w3 at *
  have HP0 : Hid (PI 41 9 29 w.heap.size [] 0 w3) := Lib.hid ⟨_, hA, World.ownsRow_nil _ _ _ _, hB⟩
  refine wpIn_rangeFunc_ownF (F := Fence.wide) (n := 9) rfl (by omega) (gf := 30) (lb := #[.pointer (some ⟨w.heap.size + 1 + 1, 0, none⟩)]) rfl trivial (enters_of Tryz.func30 (by kernel_rfl) rfl)
    (each_any 8 (w.heap.size + 1 + 1) l w w3 (by omega) hN hC hlim hx) belowK_t (belowK_b (by rw [hs3]; omega)) (Below.refl _ _) (fun _ => rfl)
    (fun pre W => (PI 41 9 29 w.heap.size pre 0 W ∧ fstE pre = 0) ∧ Below w.heap.size w W)
    (fun c pre W => ((∃ p0, PI 41 9 29 w.heap.size p0 (fstE pre) W) ∧ fstE pre ≠ 0 ∧ c = Code.exit 0) ∧ Below w.heap.size w W)
    (OwnFrom.and (Own.from (fun s A B row hs hg hr => ⟨hs.1.not hg hr, hs.2⟩) _) (ownFrom_below (Nat.le_refl _) (by rw [hs3]; omega)))
    (fun c => OwnFrom.and (Own.from (fun s A B row hs hg hr => ⟨⟨hs.1.choose, hs.1.choose_spec.not hg hr⟩, hs.2⟩) _) (ownFrom_below (Nat.le_refl _) (by rw [hs3]; omega)))
    ⟨⟨HP0.out, rfl⟩, hN⟩
    (fun y => { tmps := #[.string (bs l), undef, .slice none 0 0, .int .i64 0, .pointer (some ⟨w.heap.size, 0, none⟩), .pointer (some ⟨w.heap.size + 1, 0, none⟩), .string (bs y), .string (bs l), .func (.func 30) #[] #[.pointer (some ⟨w.heap.size + 1 + 1, 0, none⟩)], .string (bs y), undef, undef, undef, undef, undef, undef, undef, undef, undef, undef, undef, undef, undef, undef, undef], defers := [] }) ?assign ?body ?done ?stop
  case assign =>
    intro l y W K hK
    gi_wp2
    exact hK
  case body =>
    rintro rl pre y W ⟨⟨⟨v, hb0, hown, hb1⟩, hf0⟩, hbw⟩ hpl
    have HA := Lib.hid (label_q y W)
    have HFS := Lib.hid (fst_snoc pre y hf0)
    have x0 := cell_of_row _ _ 0 _ _ _ hb0
    have x1 := cell_of_row _ _ 0 _ _ _ hb1
    have f1 := frozen_of_row _ _ 0 _ _ hb1
    obtain ⟨e0, he0⟩ : ∃ z, labE y = z := ⟨_, rfl⟩
    rw [he0] at HA HFS
    have HS := Lib.hid (set_b1 0 e0 hb0 hown hb1)
    have HBW := Lib.hid hbw
    have y1 := cell_of_row _ _ 0 _ _ _ HS.out.2.2.1
    clear he0 hf0 hbw hb0 hb1 hown
    by_cases e00 : e0 = 0
    · subst e00
      have y0 := cell_of_row _ _ 0 _ _ _ HS.out.1
      have hpl2 : pre.length ≤ 1000000 := by omega
      gi_wp2
      refine ⟨trivial, ?_⟩
      refine (CallsIn.inRound rl (callsIn_wide.2 HA.out)).mono ?_
      rintro e W1 ⟨rfl, hw⟩
      replace hw := hw.symm
      subst hw
      clear HA
      gi_wp2_with (gi_at_builtin; refine wpListIn_append_own _ rfl _ _ 41 rfl (w.heap.size + 2) 9 i0 (.string ⟨#[]⟩) 1 16 Tryz.underlying41 hi hz0 hz1 hz2 rfl (by decide) v pre.length (pre.map fun x => Value.string (bs x)) rfl (HS.out.2.1.alloc _) ⟨W.heap.size, 0, none⟩ 1 1 [.string (bs y)] rfl rfl ?c1 ?c2 ?c3 ?c4 ?c5 ?_)
      case c1 => intro j u hj; have hq := new_cells (W.setCell ⟨w.heap.size + 1, 0, none⟩ (.int .i64 0)) #[.string (bs y)] 9 j u hj; simpa using hq
      case c2 => intro u hu; simp at hu; subst hu; rfl
      case c3 => unfold maxLen; omega
      case c4 => omega
      case c5 => have := lt_of_block HS.out.2.2.1; simp at this ⊢; omega
      intro v' w1 how hgr _
      have how2 : w1.ownsRow (w.heap.size + 2) 9 1 v' (pre.length + 1) ((pre ++ [y]).map fun x => Value.string (bs x)) := by
        rw [List.map_append]; exact how
      obtain ⟨a2, c2, rfl⟩ := own_slice how2
      have HF := Lib.hid (app_b0 HS.out.1 HS.out.2.1 HS.out.2.2.1 hgr how2)
      have z0 := cell_of_row _ _ 0 _ _ _ HF.out.1
      have zf := frozen_of_row _ _ 0 _ _ HF.out.1
      clear how how2 hgr
      gi_wp2
      exact ⟨HS.out.2.2.2.1.trans HF.out.2.2.2.2.1, (HS.out.2.2.2.2.trans HF.out.2.2.2.2.2), ⟨⟨_, HF.out.2.1, by rw [show (pre ++ [y]).length = pre.length + 1 by simp]; exact HF.out.2.2.1, HF.out.2.2.2.1⟩, HFS.out⟩, HBW.out.trans (HS.out.2.2.2.2.trans HF.out.2.2.2.2.2)⟩
    · have hd : (e0 != 0) = true := by rw [bne_iff_ne]; exact e00
      gi_wp2
      refine ⟨trivial, ?_⟩
      refine (CallsIn.inRound rl (callsIn_wide.2 HA.out)).mono ?_
      rintro e W1 ⟨rfl, hw⟩
      replace hw := hw.symm
      subst hw
      clear HA
      gi_wp2
      exact ⟨HS.out.2.2.2.1, ⟨⟨pre, v, HS.out.1, HS.out.2.1, by rw [HFS.out]; exact HS.out.2.2.1⟩, by rw [HFS.out]; exact e00, rfl⟩, HBW.out.trans HS.out.2.2.2.2⟩
  case done =>
    rintro D ys W hD rfl ⟨⟨⟨v, hb0, hown, hb1⟩, hf0⟩, hbw⟩ hK
    have x0 := cell_of_row _ _ 0 _ _ _ hb0
    have x1 := cell_of_row _ _ 0 _ _ _ hb1
    obtain ⟨a, cap, rfl⟩ := own_slice hown
    have HO := Lib.hid (own_low hown (show w.heap.size ≤ w.heap.size + 2 by omega))
    have HBW := Lib.hid hbw
    clear hb0 hb1 hown hbw
    by_cases h16 : (16 : Int) < ((pts l).length : Int)
    · have hpt : ptE (pts l) = 9 := by unfold ptE; rw [if_neg (by rw [hf0]; decide), if_pos (by omega)]
      have HPT := Lib.hid hpt
      clear hpt hf0
      gi_wp2
      refine ⟨by simp, .inl ⟨_, _, rfl, run_takeDeferred hK, ?_⟩⟩
      refine ⟨_, results_tmp2 rfl _ _ _, ?_⟩
      exact ⟨Or.inl ⟨by rw [HPT.out]; decide, by rw [HPT.out]; rfl⟩, HBW.out.trans (belowK_b (Nat.le_refl _) W D _ _ (by omega) hK rfl rfl)⟩
    · have hpt : ptE (pts l) = 0 := by unfold ptE; rw [if_neg (by rw [hf0]; decide), if_neg (by omega)]
      have HPT := Lib.hid hpt
      clear hpt hf0
      gi_wp2
      refine ⟨by simp, .inl ⟨_, _, rfl, run_takeDeferred hK, ?_⟩⟩
      refine ⟨_, results_tmp2 rfl _ _ _, ?_⟩
      have hb := belowK_b (n₀ := w.heap.size) (Nat.le_refl _) W D
      exact ⟨Or.inr ⟨HPT.out, _, rfl, own_not HO.out (grownBy_putObj' W D _) (fun r e => by cases e; exact ⟨_, hK, rfl⟩)⟩, HBW.out.trans (belowK_b (Nat.le_refl _) W D _ _ (by omega) hK rfl rfl)⟩
  case stop =>
    rintro D c pre W hD ⟨rest, hSp⟩ ⟨⟨⟨p0, v, hb0, hown, hb1⟩, hne, rfl⟩, hbw⟩ hK
    have x1 := cell_of_row _ _ 0 _ _ _ hb1
    have hpt : ptE (pts l) = fstE pre := by
      unfold ptE
      rw [hSp, fst_app, if_neg hne, if_pos hne]
    have hd : (fstE pre != 0) = true := by rw [bne_iff_ne]; exact hne
    have HBW := Lib.hid hbw
    have HPT := Lib.hid hpt
    have HNE := Lib.hid hne
    clear hpt hne hb0 hown hb1 hbw hSp
    generalize fstE pre = e0 at *
    gi_wp2
    gi_quiet (fail)
    gi_wp2
    refine ⟨by simp, .inl ⟨_, _, rfl, run_takeDeferred hK, ?_⟩⟩
    refine ⟨_, results_tmp2 rfl _ _ _, ?_⟩
    exact ⟨Or.inl ⟨by rw [HPT.out]; exact HNE.out, by rw [HPT.out]; rfl⟩, (HBW.out.trans (bel_dn _ W _)).trans (belowK_b (Nat.le_refl _) (W.drewN _) D _ _ (by omega) hK rfl rfl)⟩
end Go.Proofs.YtoplabhoedloeaaGreat
