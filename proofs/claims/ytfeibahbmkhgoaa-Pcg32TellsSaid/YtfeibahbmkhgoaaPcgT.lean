/- Contracts of pcg32.Told, pcg32.Back and of the document's own Out and Told. -/
import Derived.Test.YtfeibahbmkhgoaaPcgB
import Derived.Test.YtfeibahbmkhgoaaMixB
import Derived.Test.YtfeibahbmkhgoaaWords
import Derived.Deep.OwnRows
namespace Go.Proofs.Ytfeibahbmkhgoaa
open Go.RowKit Go.Bv
set_option linter.unusedVariables false
theorem info_u32 : (Try.prog.info? 23).map (fun i => (i.zero, i.size, i.bytes)) = some (some (.int .u32 0), 1, 4) := by kernel_rfl
theorem info_u64 : (Try.prog.info? 22).map (fun i => (i.zero, i.size, i.bytes)) = some (some (.int .u64 0), 1, 8) := by kernel_rfl
/-- what so many states tell -/
def told13 (inc s : BitVec 64) (m : Nat) : List (BitVec 32) := (List.range m).map fun i => out13 (adv13 inc i s)
theorem told13_len (inc s : BitVec 64) (m : Nat) : (told13 inc s m).length = m := by simp [told13]
theorem told13_at (inc s : BitVec 64) (m i : Nat) (h : i < m) : (told13 inc s m).getD i 0 = out13 (adv13 inc i s) := by
  unfold told13; rw [List.getD_eq_getElem?_getD, List.getElem?_map, List.getElem?_range h]; rfl
set_option maxHeartbeats 1000000 in
theorem told_at (s inc : Int) (n : Int) (m : Nat) (hm : m ≤ 4096) (hnm : (n < 0 ∧ m = 0) ∨ n = (m : Int)) (hs : 0 ≤ s ∧ s < 18446744073709551616) (hi : 0 ≤ inc ∧ inc < 18446744073709551616) (W w : World) (hg : New W w) :
    Calls Try.prog 37 #[.int .u64 s, .int .u64 inc, .int .i64 n] w fun e w' =>
      ∃ a cap, e = .returned (.slice a m cap) ∧ DRow w' a m cap (told13 (BitVec.ofInt 64 inc) (BitVec.ofInt 64 s) m) ∧ New w w' ∧ New W w' := by
  obtain ⟨s, rfl⟩ := ex64 s hs
  obtain ⟨inc, rfl⟩ := ex64 inc hi
  obtain ⟨i0, hi, hz0, hz1, hz2⟩ := info_parts info_u32
  have hmk := run_make_row (P := Try.prog) 39 23 i0 (.int .u32 0) Try.underlying39 hi hz0 hz1 rfl .i64 .i64 m (by rw [hz2]; omega) (by omega) w
  have hmade : (madeCells #[Value.int .u32 0] m).size = m ∧ ∀ j, j < m → (madeCells #[Value.int .u32 0] m)[j]? = some (.int .u32 (W32 (if j < 0 then out13 (adv13 (BitVec.ofInt 64 (W64 inc)) j (BitVec.ofInt 64 (W64 s))) else 0#32))) := by
    refine ⟨size_madeCells _ _, fun j hj => ?_⟩
    rw [if_neg (by omega), ← Array.getElem?_toList, toList_madeCells_one, List.getElem?_replicate, if_pos hj]
    rfl
  have HM := Lib.hid hmade
  clear hmade
  have hs0 := hm
  rcases hnm with ⟨hn, rfl⟩ | rfl
  · have hmk0 : (Instr.makeSlice 39 (.int .i64 0) (.int .i64 0)).run Try.prog w = .ok (.slice (some ⟨w.heap.size, 0, none⟩) 0 0) (w.alloc (.cells (madeCells #[.int .u32 0] 0) 23)) := hmk
    clear hmk
    have hn2 : ¬ (0 : Int) < n := by omega
    go_enter Try.func37, Try.ntmps37
    go_wp2
    go_loopw [15] (fun i wr => i = .int .i64 0 ∧ wr = w.alloc (.cells (madeCells #[.int .u32 0] 0) 23)) (fun i _ => 0)
    case atStart => exact ⟨rfl, rfl⟩
    case round =>
      obtain ⟨rfl, rfl⟩ := hrel
      go_wp2
      go_ret
      exact ⟨_, _, rfl, ⟨by simp [told13], by omega, by omega, by omega, (fun e => by cases e), (fun b off e i h => by omega), (fun x e h => by omega), (fun x e h => by omega)⟩, New.alloc (New.refl w) _, hg.alloc _⟩
  · have h4096 : ¬ (4096 : Int) < m := by omega
    have h0 : ¬ (m : Int) < 0 := by omega
    go_enter Try.func37, Try.ntmps37
    go_wp2
    go_loopw [0, 15] (fun sv i wr => ∃ (k : Nat) (cs : Array Value), k ≤ m ∧ i = .int .i64 k ∧ sv = .int .u64 (W64 (adv13 inc k s)) ∧ wr = w.alloc (.cells cs 23) ∧ Hid (cs.size = m ∧ ∀ j, j < m → cs[j]? = some (.int .u32 (W32 (if j < k then out13 (adv13 inc j s) else 0#32))))) (fun _ i _ => m - (intOf i).toNat)
    case atStart => exact ⟨0, _, by omega, rfl, rfl, rfl, by rw [ofInt_W64, ofInt_W64] at HM; exact HM⟩
    case round =>
      obtain ⟨k, cs, hk, rfl, rfl, rfl, H⟩ := hrel
      by_cases hlt : (k : Int) < m
      · have hcell : (w.alloc (.cells cs 23)).cell? ⟨w.heap.size, k, none⟩ = some (.int .u32 (W32 (if k < k then out13 (adv13 inc k s) else 0#32))) := by
          rw [World.cell?_alloc_new]; exact H.out.2 k (by omega)
        go_wp2_with (first | (go_at_call 40; refine (out_any _ (b64 _) _).mono ?_; rintro e w' ⟨rfl, rfl⟩) | (go_at_call 38; refine (step_any _ _ _).mono ?_; rintro e w' ⟨rfl, rfl⟩))
        refine ⟨⟨k + 1, _, by omega, by go_num, ?_, rfl, Lib.hid ⟨by rw [Array.size_setIfInBounds]; exact H.out.1, ?_⟩⟩, by simp [intOf]; omega⟩
        · rw [adv13_add]; rfl
        · intro j hj
          have hs := H.out.1
          rw [Array.getElem?_setIfInBounds]
          by_cases e : k = j
          · subst e
            rw [if_pos rfl, if_pos (by omega), if_pos (by omega)]
          · rw [if_neg e, H.out.2 j hj]
            refine congrArg (fun d => some (Value.int .u32 (W32 d))) ?_
            by_cases e2 : j < k
            · rw [if_pos e2, if_pos (by omega)]
            · rw [if_neg e2, if_neg (by omega)]
      · obtain rfl : k = m := by omega
        go_wp2
        go_ret
        refine ⟨_, _, rfl, ⟨told13_len _ _ _, Nat.le_refl _, by omega, by omega, (fun e => by cases e), ?_, ?_, ?_⟩, New.alloc (New.refl w) _, hg.alloc _⟩
        · intro b off e i hi
          cases e
          rw [Nat.zero_add, World.cell?_alloc_new, H.out.2 i hi, if_pos hi, told13_at _ _ _ _ hi]
        · intro x e h; cases e; rfl
        · intro x e h; cases e; simp
set_option maxHeartbeats 400000 in
theorem back_any (s inc : Int) (hs : 0 ≤ s ∧ s < 18446744073709551616) (w : World) :
    Calls Try.prog 42 #[.int .u64 s, .int .u64 inc] w fun e w' => e = .returned (.int .u64 (W64 ((BitVec.ofInt 64 s - (BitVec.ofInt 64 inc ||| 1#64)) * oddInv T13))) ∧ w' = w := by
  obtain ⟨s, rfl⟩ := ex64 s hs
  have ho : BitVec.ofInt 64 (6364136223846793005 : Int) &&& 1#64 ≠ 0#64 := by decide +kernel
  go_enter Try.func42, Try.ntmps42
  go_wp2_with (first | (go_at_call 84; refine (odd_any _ _).mono ?_; rintro e w' ⟨rfl, rfl⟩) | (go_at_call 83; refine (odd_yes _ (by omega) ho _).mono ?_; rintro e w' ⟨rfl, rfl⟩))
  go_ret
  refine ⟨ret64 ?_, rfl⟩
  rw [ofInt_W64]; unfold T13; rfl
theorem T13_inv : T13 * oddInv T13 = 1#64 := by decide +kernel
theorem back_step (s inc : BitVec 64) : step13 ((s - (inc ||| 1#64)) * oddInv T13) inc = s := by
  have h := T13_inv
  unfold step13
  generalize inc ||| 1#64 = c
  generalize oddInv T13 = v at *
  generalize T13 = t at *
  grind
theorem step_back (s inc : BitVec 64) : (step13 s inc - (inc ||| 1#64)) * oddInv T13 = s := by
  have h := T13_inv
  unfold step13
  generalize inc ||| 1#64 = c
  generalize oddInv T13 = v at *
  generalize T13 = t at *
  grind
theorem out_rot (s : BitVec 64) : ((s / 262144#64 ^^^ s) / 134217728#64 % 4294967296#64).setWidth 32 = ((s >>> 18 ^^^ s) >>> 27).setWidth 32 := by
  rw [div_shr s 18 (by omega)]
  rw [div_shr _ 27 (by omega)]
  apply BitVec.eq_of_getLsbD_eq
  intro i hi
  have := mod_low ((s >>> 18 ^^^ s) >>> 27) 32 (by omega) i
  rw [BitVec.getLsbD_setWidth, BitVec.getLsbD_setWidth]
  simp only [decide_eq_true hi, Bool.true_and] at this ⊢
  exact this
set_option maxHeartbeats 400000 in
theorem out_ref (s : Int) (hs : 0 ≤ s ∧ s < 18446744073709551616) (w : World) :
    Calls Try.prog 41 #[.int .u64 s] w fun e w' => e = .returned (.int .u32 (W32 (out13 (BitVec.ofInt 64 s)))) ∧ w' = w := by
  obtain ⟨x, rfl⟩ := ex64 s hs
  rw [ofInt_W64]
  go_enter Try.func41, Try.ntmps41
  have hy : W64 (x / 576460752303423488#64) = W32 ((x >>> 59).setWidth 32) ∧ 0 ≤ W32 ((x >>> 59).setWidth 32) ∧ W32 ((x >>> 59).setWidth 32) < 32 := by
    have h1 : (x >>> 59).toNat < 32 := by rw [BitVec.toNat_ushiftRight, Nat.shiftRight_eq_div_pow]; have := x.isLt; omega
    rw [w32_small _ (by omega), div_shr x 59 (by omega)]
    unfold W64
    omega
  have HY := Lib.hid hy
  clear hy
  go_wp2_with (go_at_call 87; refine (rot32_ref _ (b32 _) _ (by unfold wrap64; omega) _).mono ?_; rintro e w' ⟨rfl, rfl⟩)
  go_ret
  refine ⟨ret32 ?_, rfl⟩
  rw [out_rot, HY.out.1]
  obtain ⟨_, hy0, hy1⟩ := HY.out
  unfold out13
  congr 2
  unfold wrap64
  omega
/-- as words of 64 bits -/
def told64 (inc s : BitVec 64) (m : Nat) : List (BitVec 64) := (told13 inc s m).map (fun x => x.setWidth 64)
theorem told64_succ (inc s : BitVec 64) (m : Nat) : told64 inc s (m + 1) = told64 inc s m ++ [(out13 (adv13 inc m s)).setWidth 64] := by
  simp [told64, told13, List.range_succ]
theorem told64_len (inc s : BitVec 64) (m : Nat) : (told64 inc s m).length = m := by simp [told64, told13_len]
theorem new_cells (w : World) (cs : Array Value) (t : TypeId) : ∀ j u, cs.toList[j]? = some u → (w.alloc (.cells cs t)).cell? ((⟨w.heap.size, 0, none⟩ : Addr).add j) = some u := by
  intro j u h
  rw [add_plain, Nat.zero_add, World.cell?_alloc_new]
  simpa using h
set_option maxHeartbeats 1000000 in
theorem told_ref (s inc : Int) (n : Int) (m : Nat) (hm : m ≤ 4096) (hnm : (n < 0 ∧ m = 0) ∨ n = (m : Int)) (hs : 0 ≤ s ∧ s < 18446744073709551616) (hi : 0 ≤ inc ∧ inc < 18446744073709551616) (W w : World) (hg : New W w) :
    Calls Try.prog 43 #[.int .u64 s, .int .u64 inc, .int .i64 n] w fun e w' =>
      ∃ a cap, e = .returned (.slice a m cap) ∧ QRow w' a m cap (told64 (BitVec.ofInt 64 inc) (BitVec.ofInt 64 s) m) ∧ New W w' := by
  obtain ⟨s, rfl⟩ := ex64 s hs
  obtain ⟨inc, rfl⟩ := ex64 inc hi
  obtain ⟨i0, hi, hz0, hz1, hz2⟩ := info_parts info_u64
  rw [ofInt_W64, ofInt_W64]
  go_enter Try.func43, Try.ntmps43
  go_wp2
  go_loopw [0, 7, 8] (fun t v i wr => ∃ k : Nat, k ≤ m ∧ i = .int .i64 k ∧ t = .int .u64 (W64 (adv13 inc k s)) ∧ wr.ownsRow w.heap.size 22 1 v k ((told64 inc s k).map fun y => .int .u64 (W64 y)) ∧ New w wr) (fun _ _ i _ => m - (intOf i).toNat)
  case atStart => exact ⟨0, by omega, rfl, rfl, World.ownsRow_nil w _ _ 1, New.refl w⟩
  case round =>
    obtain ⟨k, hk, rfl, rfl, hown, hnew⟩ := hrel
    by_cases hlt : (k : Int) < n
    · go_wp2_with fail
      refine (out_ref _ (b64 _) _).mono ?_
      rintro e w' ⟨rfl, rfl⟩
      rw [ofInt_W64]
      go_wp2_with (at_builtin; refine wpList_append_own _ rfl _ _ 34 rfl w.heap.size 22 i0 (.int .u64 0) 1 8 Try.underlying34 hi hz0 hz1 hz2 rfl (by decide) _ k _ rfl (hown.alloc _) ⟨w'.heap.size, 0, none⟩ 1 1 [.int .u64 (W64 ((out13 (adv13 inc k s)).setWidth 64))] rfl rfl ?c1 ?c2 ?c3 ?c4 ?c5 ?_)
      case c1 => exact new_cells w' _ _
      case c2 => intro u hu; simp at hu; subst hu; rfl
      case c3 => unfold maxLen; omega
      case c4 => omega
      case c5 => simp; have := hnew.le; omega
      intro v' w1 how hgr _
      have how2 : w1.ownsRow w.heap.size 22 1 v' (k + 1) ((told64 inc s (k + 1)).map fun y => .int .u64 (W64 y)) := by
        rw [told64_succ, List.map_append]; exact how
      have hn1 : New w w1 := (hnew.alloc _).grown' hgr (own_base hown)
      clear how hgr
      go_wp2_with (go_at_call 39; refine (step_ref _ _ (b64 _) (b64 _) _).mono ?_; rintro e w' ⟨rfl, rfl⟩)
      exact ⟨⟨k + 1, by omega, by go_num, by rw [adv13_add]; rfl, how2, hn1⟩, by simp [intOf]; omega⟩
    · obtain rfl : k = m := by omega
      obtain ⟨a', cap', rfl, hrow⟩ := QRow.of_owns hown (by omega)
      go_wp2
      go_ret
      exact ⟨a', cap', rfl, hrow, hg.trans hnew⟩
set_option maxHeartbeats 1000000 in
theorem Pcg32Tells_walk (W : World) (a0 : Int) (w0 : (Lit.int .u64 a0).wf = true) (a1 : Int) (w1 : (Lit.int .u64 a1).wf = true) (a2 : Int) (w2 : (Lit.int .i64 a2).wf = true) :
    Calls Try.prog 9 #[.int .u64 a0, .int .u64 a1, .int .i64 a2] W fun e w' => e = .returned (.bool true) ∧ Below W.heap.size W w' := by
  obtain ⟨s, rfl⟩ := wf64 w0
  obtain ⟨inc, rfl⟩ := wf64 w1
  have hn := wfi64 w2
  clear w0 w1 w2
  obtain ⟨i0, hi, hz0, hz1, hz2⟩ := info_parts info_u64
  by_cases hbig : (300 : Int) < a2
  · go_enter Try.func9, Try.ntmps9
    go_wp2_with (go_at_call 36; refine (awake13 _).mono ?_; rintro e w' ⟨rfl, rfl⟩)
    go_ret
    exact ⟨rfl, Below.refl _ _⟩
  · have hm : ∃ m : Nat, m ≤ 300 ∧ ((a2 < 0 ∧ m = 0) ∨ a2 = (m : Int)) := by
      by_cases h : a2 < 0
      · exact ⟨0, by omega, Or.inl ⟨h, rfl⟩⟩
      · exact ⟨a2.toNat, by omega, Or.inr (by omega)⟩
    obtain ⟨m, hm, hnm⟩ := hm
    have HNM := Lib.hid hnm
    clear hnm
    go_enter Try.func9, Try.ntmps9
    go_wp2_with (go_at_call 36; refine (awake13 _).mono ?_; rintro e w' ⟨rfl, rfl⟩)
    refine (told_at _ _ _ m (by omega) HNM.out (b64 _) (b64 _) w' w' (New.refl _)).mono ?_
    rintro e w1 ⟨a, cap, rfl, hrow, hn1, _⟩
    rw [ofInt_W64, ofInt_W64] at hrow
    go_wp2
    go_loopw [7, 19] (fun v i wr => ∃ k : Nat, k ≤ m ∧ i = .int .i64 k ∧ wr.ownsRow w1.heap.size 22 1 v k ((told64 inc s k).map fun y => .int .u64 (W64 y)) ∧ New w1 wr) (fun _ i _ => m - (intOf i).toNat)
    case atStart => exact ⟨0, by omega, rfl, World.ownsRow_nil w1 _ _ 1, New.refl w1⟩
    case round =>
      obtain ⟨k, hk, rfl, hown, hnew⟩ := hrel
      by_cases hlt : (k : Int) < m
      · obtain ⟨b1, o1, rfl, hc1⟩ := (hrow.stay hnew).addr (by omega)
        have c1 := hc1 k (by omega)
        rw [told13_at _ _ _ _ (by omega)] at c1
        clear hc1
        go_wp2_with (at_builtin; refine wpList_append_own _ rfl _ _ 34 rfl w1.heap.size 22 i0 (.int .u64 0) 1 8 Try.underlying34 hi hz0 hz1 hz2 rfl (by decide) _ k _ rfl (hown.alloc _) ⟨wr.heap.size, 0, none⟩ 1 1 [.int .u64 (W64 ((out13 (adv13 inc k s)).setWidth 64))] rfl rfl ?c1 ?c2 ?c3 ?c4 ?c5 ?_)
        case c1 => exact new_cells wr _ _
        case c2 => intro u hu; simp at hu; subst hu; rfl
        case c3 => unfold maxLen; omega
        case c4 => omega
        case c5 => simp; have := hnew.le; omega
        intro v' w2 how hgr _
        have how2 : w2.ownsRow w1.heap.size 22 1 v' (k + 1) ((told64 inc s (k + 1)).map fun y => .int .u64 (W64 y)) := by
          rw [told64_succ, List.map_append]; exact how
        have hn2 : New w1 w2 := (hnew.alloc _).grown' hgr (own_base hown)
        clear how hgr
        go_wp2
        exact ⟨⟨k + 1, by omega, by go_num, how2, hn2⟩, by simp [intOf]; omega⟩
      · obtain rfl : k = m := by omega
        obtain ⟨a', cap', rfl, hrow1⟩ := QRow.of_owns hown (by omega)
        have hb1 : (step13 ((s - (inc ||| 1#64)) * oddInv T13) inc == s) = true := by rw [beq_iff_eq]; exact back_step s inc
        have hb2 : ((step13 s inc - (inc ||| 1#64)) * oddInv T13 == s) = true := by rw [beq_iff_eq]; exact step_back s inc
        go_wp2_with (first | (go_at_call 38; refine (step_any _ _ _).mono ?_; rintro e w' ⟨rfl, rfl⟩) | (go_at_call 39; refine (step_ref _ _ (b64 _) (b64 _) _).mono ?_; rintro e w' ⟨rfl, rfl⟩) | (go_at_call 40; refine (out_any _ (b64 _) _).mono ?_; rintro e w' ⟨rfl, rfl⟩) | (go_at_call 41; refine (out_ref _ (b64 _) _).mono ?_; rintro e w' ⟨rfl, rfl⟩) | (go_at_call 42; refine (back_any _ _ (b64 _) _).mono ?_; rintro e w' ⟨rfl, rfl⟩))
        refine (told_ref _ _ _ k (by omega) HNM.out (b64 _) (b64 _) w' w' (New.refl _)).mono ?_
        rintro e w2 ⟨a2, c2, rfl, hrow2, hn2⟩
        rw [ofInt_W64, ofInt_W64] at hrow2
        go_wp2_with (go_at_call 30; refine (words_ref _ _ _ _ _ _ _ _ w' w2 (hrow1.stay hn2) hrow2 hn2).mono ?_; rintro e w3 ⟨rfl, hn4, hn3⟩; rw [beq_self_eq_true])
        go_ret
        exact ⟨rfl, (hn1.trans hnew).trans hn3⟩
end Go.Proofs.Ytfeibahbmkhgoaa
