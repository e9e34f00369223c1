/- Contracts of layer 38: Loss, Takes, Rank. · Contracts of layer 38: Rank. · Contract of layer 38: Take: the first word that is taken. · Layer 38: the law's own check that the program is there; the law LemireHalf. -/
import Derived.Test.YtdjlbpgjbgepdaaGreatTapQ
import Derived.Test.YtdjlbpgjbgepdaaGreatWidA
import Derived.Deep.RegionHeld3
namespace Go.Bv
open Go Go.RowKit
/-- how many words are not taken for a limit -/
def lossN (n : BitVec 64) : BitVec 64 := md 18446744073709551616 n
/-- whether a word is taken for a limit that is not 0 -/
def takN (x n : BitVec 64) : Bool := decide (W64 (lossN n) ≤ W64 (x * n))
theorem two_one : two 1#64 0#64 = 18446744073709551616 := by unfold two; rfl
end Go.Bv
namespace Go.Proofs.YtdjlbpgjbgepdaaGreat
open Go.RowKit Go.Bv
set_option linter.unusedVariables false
theorem div_one (n : BitVec 64) (w : World) : Calls Tryz.prog 78 #[.agg #[.int .u64 1, .int .u64 0], .int .u64 (W64 n)] w fun e w' =>
    (∃ q1 q0, e = .returned (.tuple #[.agg #[.int .u64 q1, .int .u64 q0], .int .u64 (W64 (lossN n))])) ∧ New w w' := by
  by_cases h : n = 0#64
  · subst h
    have hd := wdiv_zero 1#64 0#64 w
    rw [show W64 1#64 = 1 by decide, show W64 0#64 = 0 by decide] at hd
    rw [show W64 0#64 = 0 by decide]
    refine hd.mono ?_
    rintro e w' ⟨rfl, hn⟩
    exact ⟨⟨_, _, rfl⟩, hn⟩
  · have hd := wdiv_any 1#64 0#64 n h w
    rw [show W64 1#64 = 1 by decide, show W64 0#64 = 0 by decide, two_one] at hd
    refine hd.mono ?_
    rintro e w' ⟨rfl, hn⟩
    exact ⟨⟨_, _, rfl⟩, hn⟩
set_option maxHeartbeats 1000000 in
theorem loss_l (n : BitVec 64) (w : World) : Calls Tryz.prog 79 #[.int .u64 (W64 n)] w fun e w' => e = .returned (.int .u64 (W64 (lossN n))) ∧ New w w' := by
  have HD := Lib.hid (div_one n)
  generalize lossN n = x at *
  go_enter Tryz.func79, Tryz.ntmps79
  go_wp2_with fail
  refine (HD.out _).mono ?_
  rintro e w1 ⟨⟨q1, q0, rfl⟩, hn⟩
  have HN := Lib.hid hn
  clear hn
  go_wp2
  go_ret
  exact ⟨rfl, HN.out.alloc _⟩
set_option maxHeartbeats 1000000 in
theorem takes_l (x n : BitVec 64) (hn0 : ¬ n = 0#64) (w : World) : Calls Tryz.prog 74 #[.int .u64 (W64 x), .int .u64 (W64 n)] w fun e w' => e = .returned (.bool (takN x n)) ∧ New w w' := by
  have HL := Lib.hid (loss_l n)
  have hpos : decide (0 < W64 n) = true := by
    have := pos_of_ne hn0
    unfold W64; rw [decide_eq_true_eq]; omega
  unfold takN
  generalize lossN n = y at *
  clear hn0
  go_enter Tryz.func74, Tryz.ntmps74
  go_wp2_with fail
  refine (HL.out _).mono ?_
  rintro e w1 ⟨rfl, hn⟩
  have HN := Lib.hid hn
  clear hn
  go_wp2
  go_ret
  exact ⟨rfl, HN.out⟩
end Go.Proofs.YtdjlbpgjbgepdaaGreat
namespace Go.Bv
open Go Go.RowKit
/-- what a word tells -/
def telN (x n : BitVec 64) : BitVec 64 := hiN (x.toNat * n.toNat)
/-- its rank -/
def rnkN (x n : BitVec 64) : BitVec 64 := (loN (x.toNat * n.toNat) - lossN n) / n
end Go.Bv
namespace Go.Proofs.YtdjlbpgjbgepdaaGreat
open Go.RowKit Go.Bv
set_option linter.unusedVariables false
set_option maxHeartbeats 1000000 in
theorem rank_l (x n : BitVec 64) (hn0 : ¬ n = 0#64) (ht : takN x n = true) (w : World) : Calls Tryz.prog 75 #[.int .u64 (W64 x), .int .u64 (W64 n)] w fun e w' => e = .returned (.tuple #[.int .u64 (W64 (telN x n)), .int .u64 (W64 (rnkN x n)), .int .i64 0]) ∧ New w w' := by
  have HL := Lib.hid (loss_l n)
  have HM := Lib.hid (wmul_any x n)
  have HTK := Lib.hid (takes_l x n hn0)
  rw [ht] at HTK
  have hpos := pos_of_ne hn0
  have hz : decide (W64 n = 0) = false := by
    unfold W64; rw [decide_eq_false_iff_not]; omega
  have hz2 : (W64 n == 0) = false := by
    rw [beq_eq_false_iff_ne]; unfold W64; omega
  have hz4 : ¬ W64 n = 0 := by unfold W64; omega
  have hz3 : (n == 0#64) = false := beq_false_of_ne hn0
  unfold telN rnkN
  generalize hiN (x.toNat * n.toNat) = p1 at *
  generalize loN (x.toNat * n.toNat) = p0 at *
  generalize lossN n = y at *
  clear ht
  go_enter Tryz.func75, Tryz.ntmps75
  go_wp2_with fail
  refine (HTK.out _).mono ?_
  rintro e w1 ⟨rfl, hn1⟩
  have HN1 := Lib.hid hn1
  clear hn1
  go_wp2_with fail
  refine (HM.out _).mono ?_
  rintro e w2 ⟨rfl, hn2⟩
  have HN2 := Lib.hid ((HN1.out.trans hn2).alloc (.cells #[.int .u64 (W64 p1), .int .u64 (W64 p0)] 119))
  have hb := heap_alloc_new w2 (.cells #[.int .u64 (W64 p1), .int .u64 (W64 p0)] 119)
  clear hn2
  go_wp2_with fail
  generalize w2.alloc (.cells #[.int .u64 (W64 p1), .int .u64 (W64 p0)] 119) = w3 at *
  generalize w2.heap.size = bb at *
  have SK : Hid (∀ w', New w3 w' → New w3 w' ∧ w'.cell? ⟨bb, 0, none⟩ = some (.int .u64 (W64 p1)) ∧ w'.cell? ⟨bb, 1, none⟩ = some (.int .u64 (W64 p0))) := Lib.hid (fun w' hn => by
    have h := (hn.block _ (lt_of_block hb)).trans hb
    exact ⟨hn, cell_of_row _ _ 0 _ _ _ h, cell_of_row _ _ 1 _ _ _ h⟩)
  obtain ⟨_, c0, c1⟩ := SK.out w3 (New.refl _)
  clear hb
  go_cut [4, 5, 6] (fun u v e wx => u = .int .u64 (W64 p1) ∧ v = .int .u64 (W64 ((p0 - y) / n)) ∧ e = .int .i64 0 ∧ New w3 wx)
  case first =>
    go_region_held3 (fun w' => New w3 w' ∧ w'.cell? ⟨bb, 0, none⟩ = some (.int .u64 (W64 p1)) ∧ w'.cell? ⟨bb, 1, none⟩ = some (.int .u64 (W64 p0)))
      ((refine SK.out _ ?_; first | with_reducible assumption | with_reducible exact (New.refl _).drew | with_reducible exact New.drew (by assumption)))
      (first
      | (go_at_call 79
         refine (HL.out _).mono ?_
         rintro e w4 ⟨rfl, hn4⟩
         have hn5 : New w3 w4 := (New.refl w3).drew.trans hn4
         clear hn4))
    go_wp2_with fail
    go_meet
    case rel => exact ⟨rfl, rfl, rfl, hn5⟩
  case rest =>
    obtain ⟨rfl, rfl, rfl, hn⟩ := hcut
    have HN := Lib.hid (HN2.out.trans hn)
    clear hn SK c0 c1
    go_wp2
    go_returns
    exact ⟨rfl, HN.out⟩
end Go.Proofs.YtdjlbpgjbgepdaaGreat
namespace Go.Proofs.YtdjlbpgjbgepdaaGreat
open Go.RowKit Go.Bv
set_option linter.unusedVariables false
/-- of w nothing has changed in w' but the tape b, of which j words are taken -/
def After (w w' : World) (b g0 : Nat) (l : List (BitVec 64)) (j : Nat) : Prop := ∃ g, Tape w' b g l j ∧ But2 b g0 w w' ∧ (g = g0 ∨ w.heap.size ≤ g)
set_option maxHeartbeats 1000000 in
theorem take_l (b g0 : Nat) (l : List (BitVec 64)) (k : Nat) (n : BitVec 64) (hn0 : ¬ n = 0#64) (w : World) (ht : Tape w b g0 l k) :
    Calls Tryz.prog 44 #[.pointer (some ⟨b, 0, none⟩), .int .u64 (W64 n)] w fun e w' =>
      (∃ j, k ≤ j ∧ j < l.length ∧ (∀ i, k ≤ i → i < j → takN (l.getD i 0) n = false) ∧ takN (l.getD j 0) n = true ∧ e = .returned (.tuple #[.agg #[.int .u64 (W64 (telN (l.getD j 0) n)), .int .u64 (W64 (rnkN (l.getD j 0) n)), .int .i64 ((j + 1 - k : Nat) : Int)], .int .i64 0]) ∧ After w w' b g0 l (j + 1)) ∨
      ((∀ i, k ≤ i → i < l.length → takN (l.getD i 0) n = false) ∧ e = .returned (.tuple #[.agg #[.int .u64 0, .int .u64 0, .int .i64 0], .int .i64 7]) ∧ After w w' b g0 l l.length) := by
  have hlt := ht.lt
  have hz2 : (W64 n == 0) = false := by
    have := pos_of_ne hn0
    rw [beq_eq_false_iff_ne]; unfold W64; omega
  have hz3 : (n == 0#64) = false := beq_false_of_ne hn0
  have hkl : k ≤ l.length := by obtain ⟨c, v, a, cap, h⟩ := ht; exact h.le
  have hmost : l.length ≤ 17592186044416 := by obtain ⟨c, v, a, cap, h⟩ := ht; exact h.words.most
  have hr := heap_alloc_new w (.cells #[.int .u64 0, .int .u64 0, .int .i64 0] 53)
  have hnw := (New.refl w).alloc (.cells #[.int .u64 0, .int .u64 0, .int .i64 0] 53)
  have HT0 := Lib.hid (ht.stay hnw)
  have HR0 := Lib.hid hr
  have HN0 := Lib.hid hnw
  have HH0 := Lib.hid hn0
  clear ht hr hnw hn0
  go_enter Tryz.func44, Tryz.ntmps44
  go_wp2_with fail
  go_step3
  go_wp2_with fail
  go_step3
  go_wp2_with fail
  have hsz : (w.alloc (.cells #[.int .u64 0, .int .u64 0, .int .i64 0] 53)).heap.size = w.heap.size + 1 := by simp
  generalize w.alloc (.cells #[.int .u64 0, .int .u64 0, .int .i64 0] 53) = w0 at *
  go_loopw [6] (fun u wr => ∃ j g : Nat, k ≤ j ∧ j ≤ l.length ∧ u = .int .i64 ((j - k : Nat) : Int) ∧ Tape wr b g l j ∧ But2 b g0 w0 wr ∧ (g = g0 ∨ w0.heap.size ≤ g) ∧ Hid (∀ i, k ≤ i → i < j → takN (l.getD i 0) n = false)) (fun u _ => l.length - k - (intOf u).toNat)
  case atStart => exact ⟨k, g0, Nat.le_refl _, hkl, by rw [Nat.sub_self]; rfl, HT0.out, But2.refl _ _ _, Or.inl rfl, Lib.hid (fun i h1 h2 => by omega)⟩
  case round =>
    obtain ⟨j, g, hkj, hj, rfl, htape, hbut, hgg, HNO⟩ := hrel
    have hrg : ∀ g', (g' = g ∨ wr.heap.size ≤ g') → (g' = g0 ∨ w0.heap.size ≤ g') := by
      intro g' h; have := hbut.size; rcases h with e | e
      · rw [e]; exact hgg
      · right; omega
    have HRG := Lib.hid hrg
    have HB := Lib.hid hbut
    have HGG := Lib.hid hgg
    have HTP := Lib.hid htape
    clear hbut hgg htape hrg HT0
    obtain ⟨u, hu⟩ : ∃ u : Nat, j - k = u := ⟨_, rfl⟩
    rw [hu]
    by_cases hjl : j = l.length
    · subst hjl
      go_wp2_with fail
      refine (next_none b g l wr HTP.out).mono ?_
      rintro e w2 ⟨rfl, rfl⟩
      have hrr := (HB.out.block w.heap.size (by omega) (by omega) (by omega)).trans HR0.out
      have r0 := cell_of_row _ _ 0 _ _ _ hrr
      have r1 := cell_of_row _ _ 1 _ _ _ hrr
      have r2 := cell_of_row _ _ 2 _ _ _ hrr
      have rf : ∀ i, w2.frozen? ⟨w.heap.size, i, none⟩ = false := fun i => frozen_of_row _ _ _ _ _ hrr
      clear hrr
      go_wp2
      rw [Exit.noGoto_ret]
      refine bodyPost_ret (by simp [results, Tryz.results44, go_sem, r0, r1, r2]; try rfl) rfl ?_
      refine Or.inr ⟨HNO.out, rfl, g, ?_, ?_, ?_⟩
      · exact ((HTP.out.put (by omega) (by rcases HGG.out with e | e <;> omega) 0 _).put (by omega) (by rcases HGG.out with e | e <;> omega) 1 _).put (by omega) (by rcases HGG.out with e | e <;> omega) 2 _
      · exact ((((But2.of_new HN0.out).trans HB.out).fresh (Nat.le_refl _) _).fresh (Nat.le_refl _) _).fresh (Nat.le_refl _) _
      · rcases HGG.out with e | e
        · exact Or.inl e
        · right; omega
    · have HNX := Lib.hid (next_some b g l j (by omega) wr HTP.out)
      have HTK := Lib.hid (takes_l (l.getD j 0) n HH0.out)
      have HRK := Lib.hid (rank_l (l.getD j 0) n HH0.out)
      have HZT := Lib.hid (show l.getD j 0 = l.getD j 0 from rfl)
      have hub : u ≤ 17592186044416 := by omega
      obtain ⟨z, hz⟩ : ∃ z, l.getD j 0 = z := ⟨_, rfl⟩
      rw [hz] at HNX HTK HRK
      have HZ := Lib.hid hz
      clear hz HZT
      go_wp2_with fail
      refine HNX.out.mono ?_
      rintro e w2 ⟨rfl, g2, ht2, hbut2, hg2⟩
      have HT2 := Lib.hid ht2
      have HG2 := Lib.hid (HRG.out g2 hg2)
      have HB2 := Lib.hid (But2.step HB.out HGG.out hbut2)
      clear ht2 hg2 hbut2
      go_wp2_with fail
      refine (HTK.out _).mono ?_
      rintro e w3 ⟨rfl, hn3⟩
      have HT3 := Lib.hid (HT2.out.stay hn3)
      have HB3 := Lib.hid (HB2.out.then hn3)
      clear hn3
      rcases htk : takN z n
      · have HNO2 : Hid (∀ i, k ≤ i → i < j + 1 → takN (l.getD i 0) n = false) := Lib.hid (fun i h1 h2 => by
          by_cases e : i = j
          · subst e; rw [HZ.out]; exact htk
          · exact HNO.out i h1 (by omega))
        clear htk
        go_wp2
        refine ⟨⟨j + 1, g2, by omega, by omega, by rw [show j + 1 - k = u + 1 by omega]; go_num, HT3.out, HB3.out, HG2.out, HNO2⟩, by simp [intOf]; omega⟩
      · have HTT := Lib.hid htk
        have HRK2 := Lib.hid (HRK.out htk)
        clear htk HRK
        go_wp2_with fail
        refine (HRK2.out _).mono ?_
        rintro e w4 ⟨rfl, hn4⟩
        have HT4 := Lib.hid (HT3.out.stay hn4)
        have HB4 := Lib.hid (HB3.out.then hn4)
        clear hn4
        have hrr := (HB4.out.block w.heap.size (by omega) (by omega) (by omega)).trans HR0.out
        have r0 := cell_of_row _ _ 0 _ _ _ hrr
        have r1 := cell_of_row _ _ 1 _ _ _ hrr
        have r2 := cell_of_row _ _ 2 _ _ _ hrr
        have rf : ∀ i, w4.frozen? ⟨w.heap.size, i, none⟩ = false := fun i => frozen_of_row _ _ _ _ _ hrr
        have hbr : b < w.heap.size := hlt.1
        have hgr : w.heap.size ≠ g2 := by rcases HG2.out with e | e <;> omega
        clear hrr
        go_wp2
        rw [Exit.noGoto_ret]
        refine bodyPost_ret (by simp [results, Tryz.results44, go_sem, r0, r1, r2]; try rfl) rfl ?_
        refine Or.inl ⟨j, hkj, by omega, HNO.out, by rw [HZ.out]; exact HTT.out, by rw [HZ.out, show j + 1 - k = u + 1 by omega]; rfl, g2, ?_, ?_, ?_⟩
        · exact ((HT4.out.put hbr hgr 0 _).put hbr hgr 1 _).put hbr hgr 2 _
        · exact ((((But2.of_new HN0.out).trans HB4.out).fresh (Nat.le_refl _) _).fresh (Nat.le_refl _) _).fresh (Nat.le_refl _) _
        · rcases HG2.out with e | e
          · exact Or.inl e
          · right; omega
end Go.Proofs.YtdjlbpgjbgepdaaGreat
namespace Go.Bv
open Go Go.RowKit
theorem tak_a : takN 9223372036854775808#64 10#64 = false := by decide
theorem tak_b : takN 9223372036854775809#64 10#64 = true := by decide
theorem tel_b : W64 (telN 9223372036854775809#64 10#64) = 5 := by decide
theorem loss_10 : W64 (lossN 10#64) = 6 := by decide
theorem loss_lt (n : BitVec 64) (h : ¬ n = 0#64) : W64 (lossN n) < W64 n := by
  have := md_lt (N := 18446744073709551616) h
  unfold lossN W64; omega
theorem loss_half (n : BitVec 64) (h : ¬ n = 0#64) : W64 (lossN n) < 9223372036854775808 := by
  have h1 := md_nat (N := 18446744073709551616) h
  have h0 := pos_of_ne h
  have hl := Nat.mod_lt 18446744073709551616 h0
  unfold lossN W64
  rw [h1]
  rcases Nat.lt_or_ge n.toNat 9223372036854775809 with h2 | h2
  · omega
  · have hlt := n.isLt
    have h3 : 18446744073709551616 % n.toNat = 18446744073709551616 - n.toNat := by
      rw [Nat.mod_eq_sub_mod (by omega), Nat.mod_eq_of_lt (by omega)]
    omega
end Go.Bv
namespace Go.Proofs.YtdjlbpgjbgepdaaGreat
open Go.RowKit Go.Bv
set_option linter.unusedVariables false
theorem two_row (w : World) (x y : BitVec 64) : QRow (w.alloc (.cells #[.int .u64 (W64 x), .int .u64 (W64 y)] 23)) (some ⟨w.heap.size, 0, none⟩) 2 2 [x, y] where
  len_eq := rfl
  le := Nat.le_refl _
  most := by omega
  room := by omega
  none := fun e => by cases e
  cell := fun b off e i hi => by
    cases e
    match i, hi with
    | 0, _ => exact cell_of_row _ _ 0 _ _ _ (heap_alloc_new w _)
    | 1, _ => exact cell_of_row _ _ 1 _ _ _ (heap_alloc_new w _)
  spot := fun x e h0 => by cases e; rfl
  old := fun x e h0 => by cases e; simp
end Go.Proofs.YtdjlbpgjbgepdaaGreat
