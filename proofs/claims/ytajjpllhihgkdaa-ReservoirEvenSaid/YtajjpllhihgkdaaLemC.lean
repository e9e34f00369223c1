/- Contract of layer 38: Take: the first word that is taken. -/
import Derived.Test.YtajjpllhihgkdaaLemB
import Derived.Test.YtajjpllhihgkdaaTapH
namespace Go.Proofs.Ytajjpllhihgkdaa
open Go.RowKit Go.Bv
set_option linter.unusedVariables false
/-- of w nothing has changed in w' but the tape b, of which j words are taken -/
def After (w w' : World) (b g0 : Nat) (l : List (BitVec 64)) (j : Nat) : Prop := ∃ g, Tape w' b g l j ∧ But2 b g0 w w' ∧ (g = g0 ∨ w.heap.size ≤ g)
set_option maxHeartbeats 1000000 in
theorem take_l (b g0 : Nat) (l : List (BitVec 64)) (k : Nat) (n : BitVec 64) (hn0 : ¬ n = 0#64) (w : World) (ht : Tape w b g0 l k) :
    Calls Try.prog 54 #[.pointer (some ⟨b, 0, none⟩), .int .u64 (W64 n)] w fun e w' =>
      (∃ j, k ≤ j ∧ j < l.length ∧ (∀ i, k ≤ i → i < j → takN (l.getD i 0) n = false) ∧ takN (l.getD j 0) n = true ∧ e = .returned (.tuple #[.agg #[.int .u64 (W64 (telN (l.getD j 0) n)), .int .u64 (W64 (rnkN (l.getD j 0) n)), .int .i64 ((j + 1 - k : Nat) : Int)], .int .i64 0]) ∧ After w w' b g0 l (j + 1)) ∨
      ((∀ i, k ≤ i → i < l.length → takN (l.getD i 0) n = false) ∧ e = .returned (.tuple #[.agg #[.int .u64 0, .int .u64 0, .int .i64 0], .int .i64 7]) ∧ After w w' b g0 l l.length) := by
  have hlt := ht.lt
  have hz2 : (W64 n == 0) = false := by
    have := pos_of_ne hn0
    rw [beq_eq_false_iff_ne]; unfold W64; omega
  have hz3 : (n == 0#64) = false := beq_false_of_ne hn0
  have hkl : k ≤ l.length := by obtain ⟨c, v, a, cap, h⟩ := ht; exact h.le
  have hmost : l.length ≤ 17592186044416 := by obtain ⟨c, v, a, cap, h⟩ := ht; exact h.words.most
  have hr := heap_alloc_new w (.cells #[.int .u64 0, .int .u64 0, .int .i64 0] 73)
  have hnw := (New.refl w).alloc (.cells #[.int .u64 0, .int .u64 0, .int .i64 0] 73)
  have HT0 := Lib.hid (ht.stay hnw)
  have HR0 := Lib.hid hr
  have HN0 := Lib.hid hnw
  have HH0 := Lib.hid hn0
  clear ht hr hnw hn0
  go_enter Try.func54, Try.ntmps54
  go_wp2_with fail
  go_step3
  go_wp2_with fail
  go_step3
  go_wp2_with fail
  have hsz : (w.alloc (.cells #[.int .u64 0, .int .u64 0, .int .i64 0] 73)).heap.size = w.heap.size + 1 := by simp
  generalize w.alloc (.cells #[.int .u64 0, .int .u64 0, .int .i64 0] 73) = w0 at *
  go_loopw [6] (fun u wr => ∃ j g : Nat, k ≤ j ∧ j ≤ l.length ∧ u = .int .i64 ((j - k : Nat) : Int) ∧ Tape wr b g l j ∧ But2 b g0 w0 wr ∧ (g = g0 ∨ w0.heap.size ≤ g) ∧ Hid (∀ i, k ≤ i → i < j → takN (l.getD i 0) n = false)) (fun u _ => l.length - k - (intOf u).toNat)
  case atStart => exact ⟨k, g0, Nat.le_refl _, hkl, by rw [Nat.sub_self]; rfl, HT0.out, But2.refl _ _ _, Or.inl rfl, Lib.hid (fun i h1 h2 => by omega)⟩
  case round =>
    obtain ⟨j, g, hkj, hj, rfl, htape, hbut, hgg, HNO⟩ := hrel
    have hrg : ∀ g', (g' = g ∨ wr.heap.size ≤ g') → (g' = g0 ∨ w0.heap.size ≤ g') := by
      intro g' h; have := hbut.size; rcases h with e | e
      · rw [e]; exact hgg
      · right; omega
    have HRG := Lib.hid hrg
    have HB := Lib.hid hbut
    have HGG := Lib.hid hgg
    have HTP := Lib.hid htape
    clear hbut hgg htape hrg HT0
    obtain ⟨u, hu⟩ : ∃ u : Nat, j - k = u := ⟨_, rfl⟩
    rw [hu]
    by_cases hjl : j = l.length
    · subst hjl
      go_wp2_with fail
      refine (next_none b g l wr HTP.out).mono ?_
      rintro e w2 ⟨rfl, rfl⟩
      have hrr := (HB.out.block w.heap.size (by omega) (by omega) (by omega)).trans HR0.out
      have r0 := cell_of_row _ _ 0 _ _ _ hrr
      have r1 := cell_of_row _ _ 1 _ _ _ hrr
      have r2 := cell_of_row _ _ 2 _ _ _ hrr
      have rf : ∀ i, w2.frozen? ⟨w.heap.size, i, none⟩ = false := fun i => frozen_of_row _ _ _ _ _ hrr
      clear hrr
      go_wp2
      rw [Exit.noGoto_ret]
      refine bodyPost_ret (by simp [results, Try.results54, go_sem, r0, r1, r2]; try rfl) rfl ?_
      refine Or.inr ⟨HNO.out, rfl, g, ?_, ?_, ?_⟩
      · exact ((HTP.out.put (by omega) (by rcases HGG.out with e | e <;> omega) 0 _).put (by omega) (by rcases HGG.out with e | e <;> omega) 1 _).put (by omega) (by rcases HGG.out with e | e <;> omega) 2 _
      · exact ((((But2.of_new HN0.out).trans HB.out).fresh (Nat.le_refl _) _).fresh (Nat.le_refl _) _).fresh (Nat.le_refl _) _
      · rcases HGG.out with e | e
        · exact Or.inl e
        · right; omega
    · have HNX := Lib.hid (next_some b g l j (by omega) wr HTP.out)
      have HTK := Lib.hid (takes_l (l.getD j 0) n HH0.out)
      have HRK := Lib.hid (rank_l (l.getD j 0) n HH0.out)
      have HZT := Lib.hid (show l.getD j 0 = l.getD j 0 from rfl)
      have hub : u ≤ 17592186044416 := by omega
      obtain ⟨z, hz⟩ : ∃ z, l.getD j 0 = z := ⟨_, rfl⟩
      rw [hz] at HNX HTK HRK
      have HZ := Lib.hid hz
      clear hz HZT
      go_wp2_with fail
      refine HNX.out.mono ?_
      rintro e w2 ⟨rfl, g2, ht2, hbut2, hg2⟩
      have HT2 := Lib.hid ht2
      have HG2 := Lib.hid (HRG.out g2 hg2)
      have HB2 := Lib.hid (But2.step HB.out HGG.out hbut2)
      clear ht2 hg2 hbut2
      go_wp2_with fail
      refine (HTK.out _).mono ?_
      rintro e w3 ⟨rfl, hn3⟩
      have HT3 := Lib.hid (HT2.out.stay hn3)
      have HB3 := Lib.hid (HB2.out.then hn3)
      clear hn3
      rcases htk : takN z n
      · have HNO2 : Hid (∀ i, k ≤ i → i < j + 1 → takN (l.getD i 0) n = false) := Lib.hid (fun i h1 h2 => by
          by_cases e : i = j
          · subst e; rw [HZ.out]; exact htk
          · exact HNO.out i h1 (by omega))
        clear htk
        go_wp2
        refine ⟨⟨j + 1, g2, by omega, by omega, by rw [show j + 1 - k = u + 1 by omega]; go_num, HT3.out, HB3.out, HG2.out, HNO2⟩, by simp [intOf]; omega⟩
      · have HTT := Lib.hid htk
        have HRK2 := Lib.hid (HRK.out htk)
        clear htk HRK
        go_wp2_with fail
        refine (HRK2.out _).mono ?_
        rintro e w4 ⟨rfl, hn4⟩
        have HT4 := Lib.hid (HT3.out.stay hn4)
        have HB4 := Lib.hid (HB3.out.then hn4)
        clear hn4
        have hrr := (HB4.out.block w.heap.size (by omega) (by omega) (by omega)).trans HR0.out
        have r0 := cell_of_row _ _ 0 _ _ _ hrr
        have r1 := cell_of_row _ _ 1 _ _ _ hrr
        have r2 := cell_of_row _ _ 2 _ _ _ hrr
        have rf : ∀ i, w4.frozen? ⟨w.heap.size, i, none⟩ = false := fun i => frozen_of_row _ _ _ _ _ hrr
        have hbr : b < w.heap.size := hlt.1
        have hgr : w.heap.size ≠ g2 := by rcases HG2.out with e | e <;> omega
        clear hrr
        go_wp2
        rw [Exit.noGoto_ret]
        refine bodyPost_ret (by simp [results, Try.results54, go_sem, r0, r1, r2]; try rfl) rfl ?_
        refine Or.inl ⟨j, hkj, by omega, HNO.out, by rw [HZ.out]; exact HTT.out, by rw [HZ.out, show j + 1 - k = u + 1 by omega]; rfl, g2, ?_, ?_, ?_⟩
        · exact ((HT4.out.put hbr hgr 0 _).put hbr hgr 1 _).put hbr hgr 2 _
        · exact ((((But2.of_new HN0.out).trans HB4.out).fresh (Nat.le_refl _) _).fresh (Nat.le_refl _) _).fresh (Nat.le_refl _) _
        · rcases HG2.out with e | e
          · exact Or.inl e
          · right; omega
end Go.Proofs.Ytajjpllhihgkdaa
