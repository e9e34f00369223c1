/- Contracts of slices.Clone, slices.Grow and slices.Concat at slices of bytes: a fresh slice with the same bytes. -/
import Derived.Test.YtnapogamcohfaaaBoth
import Derived.Test.YtnapogamcohfaaaBut
import Derived.Lib.AppendZerosOnto
import Derived.Lib.SliceRun
import Derived.Deep.OwnRows
import Derived.Deep.AppendLies
namespace Go.Proofs.Ytnapogamcohfaaa
open Go.RowKit Go.Bv
set_option linter.unusedVariables false
/-- a fresh row of bytes -/
theorem own_row {w : World} {base : Nat} {v : Value} {n : Nat} {l : List (BitVec 8)} (h : w.ownsRow base 5 1 v n (l.map fun x => .int .u8 (W8 x))) (hn : n ≤ 140737488355328) :
    ∃ a cap, v = .slice a n cap ∧ BRow w a n cap l ∧ ∀ x, a = some x → base ≤ x.block := by
  obtain ⟨a, cap, rfl, hr⟩ := BRow.of_owns h hn
  refine ⟨a, cap, rfl, hr, fun x e => ?_⟩
  subst e
  exact own_base h _ rfl
set_option maxHeartbeats 1000000 in
theorem clone_b (a : Option Addr) (len cap : Nat) (l : List (BitVec 8)) (w : World) (h : BRow w a len cap l) :
    Calls Try.prog 44 #[.slice a len cap] w fun e w' => ∃ a' cap', e = .returned (.slice a' len cap') ∧ BRow w' a' len cap' l ∧ (∀ x, a' = some x → w.heap.size ≤ x.block) ∧ New w w' := by
  obtain ⟨i0, hi, hz0, hz1, hz2⟩ := info_parts info_u8
  have hq : ∀ (w : World) (a : Option Addr) (n c n' c' : Nat), (binOp .eql 23 (.slice a n c) (.slice none n' c')).run Try.prog w = .ok (.bool a.isNone) w := fun w a n c n' c' => Lib.run_eql_slice_nil w _ _ a n c n' c' Try.underlying23
  cases a with
  | none =>
    obtain ⟨rfl, rfl⟩ := h.none rfl
    obtain rfl : l = [] := List.eq_nil_of_length_eq_zero h.len_eq
    go_enter Try.func44, Try.ntmps44
    go_wp2
    go_ret
    exact ⟨_, _, rfl, h, (fun x e => by cases e), New.refl w⟩
  | some x =>
    have H := Lib.hid h
    clear h
    go_enter Try.func44, Try.ntmps44
    go_wp2_with (at_builtin; refine wpList_append_own _ rfl _ _ 23 rfl w.heap.size 5 i0 (.int .u8 0) 1 1 Try.underlying23 hi hz0 hz1 hz2 rfl (by decide) _ 0 [] rfl (World.ownsRow_made w #[] 0 (Nat.le_refl _) (Nat.zero_le _) (by simp)) x len cap (l.map fun x => .int .u8 (W8 x)) rfl ?c1 ?c2 ?c3 ?c4 ?c5 ?c6 ?_)
    case c1 => rw [List.length_map, H.out.len_eq]; omega
    case c2 => intro j u hj; exact Lib.cell?_alloc_some _ (H.out.olds x rfl j u hj)
    case c3 => intro u hu; rw [List.mem_map] at hu; obtain ⟨y, _, rfl⟩ := hu; rfl
    case c4 => have := H.out.most; unfold maxLen; omega
    case c5 => have := H.out.most; omega
    case c6 => simp
    intro v' w1 how hgr _
    have how2 : w1.ownsRow w.heap.size 5 1 v' len (l.map fun x => .int .u8 (W8 x)) := by simpa using how
    have hn1 : New w w1 := ((New.refl w).alloc _).grown' hgr (fun k hk => by simp [Value.ownBlock] at hk; omega)
    obtain ⟨a', cap', rfl, hr, hf⟩ := own_row how2 H.out.most
    clear how how2 hgr
    go_wp2
    go_ret
    exact ⟨_, _, rfl, hr, hf, hn1⟩
theorem grow_none (w : World) : Calls Try.prog 67 #[.slice none 0 0, .int .i64 0] w fun e w' => e = .returned (.slice none 0 0) ∧ w' = w := by
  go_enter Try.func67, Try.ntmps67
  go_wp2
  go_ret
  exact ⟨rfl, rfl⟩
set_option maxHeartbeats 1000000 in
theorem grow_some (n : Nat) (w : World) (h0 : 0 < n) (hn : n ≤ 140737488355328) : Calls Try.prog 67 #[.slice none 0 0, .int .i64 n] w fun e w' =>
    ∃ v, e = .returned v ∧ w'.ownsRow w.heap.size 5 1 v 0 [] ∧ New w w' := by
  obtain ⟨i0, hi, hz0, hz1, hz2⟩ := info_parts info_u8
  have h1 : ¬ ((n : Int) < 0) := by omega
  have h3 : wrap64 (n : Int) = (n : Int) := by unfold wrap64; omega
  have h4 : (n : Int) > 0 := by omega
  have hold : (Builtin.firstCells i0.size 0 (.slice none 0 0)).run Try.prog w.drew = .ok ([] : List Value).toArray w.drew := run_firstCells_none w.drew i0.size 0 0 0
  have hrz : ∀ ty, (Builtin.append_ #[23, 3] ty #[.slice none 0 0, .int .i64 (n : Int)]).run Try.prog w =
      .ok (.slice (some ⟨w.heap.size, 0, none⟩) n (grownCap w n 0 5)) (w.drew.alloc (.cells (([] : List Value).toArray ++ Builtin.zeroCells (Value.int .u8 0).cells n ++ Builtin.zeroCells (Value.int .u8 0).cells (grownCap w n 0 5 - n)) 5)) := fun ty => by
    have h := Lib.run_append_grow_zeros w 23 3 ty 5 i0 (.int .u8 0) .i64 .i64 Try.underlying23 Try.underlying3 hi hz0 none 0 0 [] hold n h0 (by rw [hz1]; decide) (by omega) (by omega) (by rw [hz2]; omega)
      (by rw [Nat.zero_add]; exact growslice_fits (by omega) (by rw [hz2]; omega))
    rw [Nat.zero_add] at h
    exact h
  have hGn : n ≤ grownCap w n 0 5 := grownCap_ge w _ _ _
  have hGm : grownCap w n 0 5 ≤ maxLen := grownCap_le_maxLen w n 0 5 (by unfold maxLen; omega)
  obtain ⟨G, hG⟩ : ∃ G, G = grownCap w n 0 5 := ⟨_, rfl⟩
  rw [← hG] at hrz hGn hGm
  have HGM := Lib.hid hGm
  have hG63 : G ≤ 9223372036854775807 := by unfold maxLen at hGm; omega
  obtain ⟨cs, hcs⟩ : ∃ cs, cs = (([] : List Value).toArray ++ Builtin.zeroCells (Value.int .u8 0).cells n ++ Builtin.zeroCells (Value.int .u8 0).cells (G - n)) := ⟨_, rfl⟩
  have hsz : cs.size = G * 1 := by
    rw [hcs]; simp only [Array.size_append, size_zeroCells]
    simp [Value.cells]; omega
  rw [← hcs] at hrz
  have HS := Lib.hid hsz
  clear hold hG hcs hsz hGm
  go_enter Try.func67, Try.ntmps67
  go_wp2_with (at_builtin; refine Lib.wpList_append_run _ rfl _ _ _ _ rfl _ _ rfl rfl _ _ (hrz _) ?_)
  go_ret
  refine ⟨_, rfl, ?_, (New.refl w).drew.alloc _⟩
  refine ⟨by simp, Or.inr ⟨w.heap.size, G, cs, rfl, Nat.le_refl _, ?_, Nat.zero_le _, HGM.out, HS.out, by simp⟩⟩
  exact heap_alloc_new w.drew _
theorem grow_any (n : Nat) (w : World) (hn : n ≤ 140737488355328) : Calls Try.prog 67 #[.slice none 0 0, .int .i64 n] w fun e w' =>
    ∃ v, e = .returned v ∧ w'.ownsRow w.heap.size 5 1 v 0 [] ∧ New w w' := by
  by_cases h0 : n = 0
  · subst h0
    refine (grow_none w).mono ?_
    rintro e w' ⟨rfl, rfl⟩
    exact ⟨_, rfl, World.ownsRow_nil _ _ _ 1, New.refl _⟩
  · exact grow_some n w (by omega) hn
set_option maxRecDepth 100000 in
set_option maxHeartbeats 2000000 in
theorem concat_b (g : Nat) (a b : Option Addr) (na ca nb cb : Nat) (la lb : List (BitVec 8)) (w : World) (hg : w.heap[g]? = some (.cells #[.slice a na ca, .slice b nb cb] 23 (0, 0))) (ha : BRow w a na ca la) (hb : BRow w b nb cb lb) (hs : na + nb ≤ 140737488355328) :
    Calls Try.prog 52 #[.slice (some ⟨g, 0, none⟩) 2 2] w fun e w' => ∃ r cap, e = .returned (.slice r (na + nb) cap) ∧ BRow w' r (na + nb) cap (la ++ lb) ∧ (∀ x, r = some x → w.heap.size ≤ x.block) ∧ New w w' := by
  obtain ⟨i0, hi, hz0, hz1, hz2⟩ := info_parts info_u8
  obtain ⟨t, ht⟩ : ∃ t, na + nb = t := ⟨_, rfl⟩
  have hw1 : IntKind.i64.wrap ((na : Int)) = (na : Int) := by rw [IntKind.wrap_i64]; omega
  have hw2 : IntKind.i64.wrap ((na : Int) + (nb : Int)) = (t : Int) := by rw [IntKind.wrap_i64]; omega
  have hw3 : wrap64 ((na : Int)) = (na : Int) := by unfold wrap64; omega
  have hw4 : wrap64 ((na : Int) + (nb : Int)) = (t : Int) := by unfold wrap64; omega
  have hp1 : ¬ ((na : Int) < 0) := by omega
  have hp2 : ¬ ((t : Int) < 0) := by omega
  have k0 := cell_of_row _ _ 0 _ _ _ hg
  have k1 := cell_of_row _ _ 1 _ _ _ hg
  have HGR := Lib.hid (grow_any t w (by omega))
  have HG := Lib.hid hg
  have HA := Lib.hid ha
  have HB := Lib.hid hb
  have HL := Lib.hid hs
  have HT := Lib.hid ht
  clear hg ha hb hs ht
  go_enter Try.func52, Try.ntmps52
  go_wp2
  go_loop [3, 11] (fun s i => (i = .int .i64 0 ∧ s = .int .i64 0) ∨ (i = .int .i64 1 ∧ s = .int .i64 (na : Int)) ∨ (i = .int .i64 2 ∧ s = .int .i64 (t : Int))) (fun _ i => 2 - (intOf i).toNat)
  case atStart => exact .inl ⟨rfl, rfl⟩
  case round =>
    rcases hrel with ⟨rfl, rfl⟩ | ⟨rfl, rfl⟩ | ⟨rfl, rfl⟩
    · go_wp2
      exact ⟨.inr (.inl ⟨rfl, rfl⟩), by simp [intOf]⟩
    · go_wp2
      exact ⟨.inr (.inr ⟨rfl, rfl⟩), by simp [intOf]⟩
    · go_wp2_with fail
      refine (HGR.out).mono ?_
      rintro e w1 ⟨v0, rfl, hown0, hn0⟩
      have HN0 := Lib.hid hn0
      have HO := Lib.hid hown0
      clear hown0 hn0 k0 k1
      go_wp2_with fail
      go_loopw [6, 27] (fun v i wr => New w wr ∧ ((i = .int .i64 0 ∧ wr.ownsRow w.heap.size 5 1 v 0 []) ∨ (i = .int .i64 1 ∧ wr.ownsRow w.heap.size 5 1 v na (la.map fun y => .int .u8 (W8 y))) ∨ (i = .int .i64 2 ∧ wr.ownsRow w.heap.size 5 1 v (na + nb) ((la ++ lb).map fun y => .int .u8 (W8 y))))) (fun _ i _ => 2 - (intOf i).toNat)
      case atStart => exact ⟨HN0.out, .inl ⟨rfl, HO.out⟩⟩
      case round =>
        obtain ⟨hn, hrel⟩ := hrel
        have HN := Lib.hid hn
        have hg2 := (hn.block _ (lt_of_block HG.out)).trans HG.out
        have k0 := cell_of_row _ _ 0 _ _ _ hg2
        have k1 := cell_of_row _ _ 1 _ _ _ hg2
        clear hg2 hn
        rcases hrel with ⟨rfl, hown⟩ | ⟨rfl, hown⟩ | ⟨rfl, hown⟩
        · have HOW := Lib.hid hown
          clear hown
          cases a with
          | none =>
            obtain ⟨rfl, rfl, rfl⟩ := brow_nil HA.out
            go_wp2_with (at_builtin; refine wpList_append_own_none rfl _ _ 23 rfl w.heap.size 5 i0 1 Try.underlying23 hi _ 0 [] rfl HOW.out rfl ?_)
            exact ⟨⟨HN.out, .inr (.inl ⟨rfl, HOW.out⟩)⟩, by simp [intOf]⟩
          | some x =>
            go_wp2_with (at_builtin; refine wpList_append_own _ rfl _ _ 23 rfl w.heap.size 5 i0 (.int .u8 0) 1 1 Try.underlying23 hi hz0 hz1 hz2 rfl (by decide) _ 0 [] rfl HOW.out x na ca (la.map fun y => .int .u8 (W8 y)) rfl (row_len HA.out) ((HA.out.stay HN.out).olds x rfl) (row_one la) (by have := HL.out; unfold maxLen; omega) (by have := HL.out; omega) HN.out.le ?_; intro v2 w2 how2 hgr2 _)
            have hn2 : New w w2 := HN.out.grown' hgr2 (own_base HOW.out)
            have how3 : w2.ownsRow w.heap.size 5 1 v2 na (la.map fun y => .int .u8 (W8 y)) := by simpa using how2
            clear how2 hgr2
            go_wp2
            exact ⟨⟨hn2, .inr (.inl ⟨rfl, how3⟩)⟩, by simp [intOf]⟩
        · have HOW := Lib.hid hown
          clear hown
          cases b with
          | none =>
            obtain ⟨rfl, rfl, rfl⟩ := brow_nil HB.out
            go_wp2_with (at_builtin; refine wpList_append_own_none rfl _ _ 23 rfl w.heap.size 5 i0 1 Try.underlying23 hi _ _ _ rfl HOW.out rfl ?_)
            exact ⟨⟨HN.out, .inr (.inr ⟨rfl, by simpa using HOW.out⟩)⟩, by simp [intOf]⟩
          | some x =>
            go_wp2_with (at_builtin; refine wpList_append_own _ rfl _ _ 23 rfl w.heap.size 5 i0 (.int .u8 0) 1 1 Try.underlying23 hi hz0 hz1 hz2 rfl (by decide) _ _ _ rfl HOW.out x nb cb (lb.map fun y => .int .u8 (W8 y)) rfl (row_len HB.out) ((HB.out.stay HN.out).olds x rfl) (row_one lb) (by have := HL.out; unfold maxLen; omega) (by have := HL.out; omega) HN.out.le ?_; intro v2 w2 how2 hgr2 _)
            have hn2 : New w w2 := HN.out.grown' hgr2 (own_base HOW.out)
            have how3 : w2.ownsRow w.heap.size 5 1 v2 (na + nb) ((la ++ lb).map fun y => .int .u8 (W8 y)) := by rw [List.map_append]; exact how2
            clear how2 hgr2
            go_wp2
            exact ⟨⟨hn2, .inr (.inr ⟨rfl, how3⟩)⟩, by simp [intOf]⟩
        · obtain ⟨r, cap, rfl, hr, hf⟩ := own_row hown HL.out
          clear hown
          go_wp2
          go_ret
          exact ⟨r, cap, rfl, hr, hf, HN.out⟩
end Go.Proofs.Ytnapogamcohfaaa
