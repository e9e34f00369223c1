/- Layer 45: DeriveJoins. -/
import Derived.Test.YtoplabhoedloeaaDrvX
namespace Go.Drv
open Go Go.RowKit Go.Bv
set_option linter.unusedVariables false
def jn (a b : List UInt8) : List UInt8 := if a = [] ∨ b = [] then a ++ b else a ++ 47 :: b
theorem pts_jn (a b : List UInt8) : pts (jn a b) = pts a ++ pts b := by
  unfold jn
  by_cases ha : a = []
  · subst ha
    rw [if_pos (Or.inl rfl)]
    rfl
  · by_cases hb : b = []
    · subst hb
      rw [if_pos (Or.inr rfl), List.append_nil]
      show pts a = pts a ++ []
      rw [List.append_nil]
    · rw [if_neg (by rintro (h | h); exact ha h; exact hb h)]
      exact pts_join ha hb
theorem jn_len (a b : List UInt8) : (jn a b).length ≤ a.length + b.length + 1 := by
  unfold jn
  by_cases h : a = [] ∨ b = []
  · rw [if_pos h]; simp
  · rw [if_neg h]; simp; omega
theorem ptE_ne {ps : List (List UInt8)} : ptE ps ≠ 0 ↔ fstE ps ≠ 0 ∨ 16 < ps.length := by
  unfold ptE
  by_cases h : fstE ps = 0
  · rw [if_neg (by rw [h]; decide)]
    by_cases h2 : 16 < ps.length
    · rw [if_pos h2]; exact ⟨fun _ => Or.inr h2, fun _ => by decide⟩
    · rw [if_neg h2]; exact ⟨fun h3 => absurd rfl h3, fun h3 => by rcases h3 with h3 | h3; exact absurd h h3; exact absurd h3 h2⟩
  · rw [if_pos h]; exact ⟨fun _ => Or.inl h, fun _ => h⟩
theorem jn_bad (a b : List UInt8) (h : ptE (pts a) ≠ 0 ∨ ptE (pts b) ≠ 0 ∨ 16 < (lbs a).length + (lbs b).length) : ptE (pts (jn a b)) ≠ 0 := by
  rw [ptE_ne, pts_jn, fst_app, List.length_append]
  by_cases ea : ptE (pts a) = 0
  · have fa : fstE (pts a) = 0 := by
      by_cases e : fstE (pts a) = 0
      · exact e
      · exact absurd ea (ptE_ne.2 (Or.inl e))
    rw [if_pos fa]
    by_cases eb : ptE (pts b) = 0
    · rcases h with h | h | h
      · exact absurd ea h
      · exact absurd eb h
      · unfold lbs at h
        rw [if_pos ea, if_pos eb] at h
        exact Or.inr h
    · rcases ptE_ne.1 eb with h2 | h2
      · exact Or.inl h2
      · exact Or.inr (by omega)
  · rcases ptE_ne.1 ea with h2 | h2
    · rw [if_neg h2]; exact Or.inl h2
    · exact Or.inr (by omega)
theorem jn_good (a b : List UInt8) (ea : ptE (pts a) = 0) (eb : ptE (pts b) = 0) (h : ¬ 16 < (lbs a).length + (lbs b).length) : ptE (pts (jn a b)) = 0 := by
  have fz : ∀ l : List UInt8, ptE (pts l) = 0 → fstE (pts l) = 0 := fun l el => by
    by_cases e : fstE (pts l) = 0
    · exact e
    · exact absurd el (ptE_ne.2 (Or.inl e))
  unfold lbs at h
  rw [if_pos ea, if_pos eb] at h
  unfold ptE
  rw [pts_jn, fst_app, if_pos (fz a ea), fz b eb, List.length_append, if_neg (by decide), if_neg h]
end Go.Drv
namespace Go.Proofs.Ytoplabhoedloeaa
open Go Go.RowKit Go.Bv Go.Drv
set_option linter.unusedVariables false
set_option maxRecDepth 100000
theorem pathE_good (k : BitVec 64 × BitVec 64) (a b : List UInt8) (ea : ptE (pts a) = 0) (eb : ptE (pts b) = 0) (ej : ptE (pts (jn a b)) = 0) : pathE k (jn a b) = pathE (pathE k a) b := by
  unfold pathE
  rw [if_pos ea, if_pos eb, if_pos ej, pts_jn]
  unfold kidL
  rw [List.foldl_append]
theorem pathE_bad (k : BitVec 64 × BitVec 64) (l : List UInt8) (h : ptE (pts l) ≠ 0) : pathE k l = (0#64, 0#64) := by
  unfold pathE; rw [if_neg h]
set_option maxHeartbeats 4000000 in
theorem joins_45 (k : BitVec 64 × BitVec 64) (a b : List UInt8) (w : World) (hx : MaxL w) :
    Calls Try.prog 5 #[.agg #[.int .u64 (W64 k.1), .int .u64 (W64 k.2)], .string (bs a), .string (bs b)] w fun e w' => e = .returned (.bool true) ∧ New w w' := by
  have HAW := Lib.hid (fun (w' : World) (hn : New w w') => awake_q w' (hx.stay hn))
  have hsa := bs_size a
  have hsb := bs_size b
  obtain ⟨hb1, hn1⟩ := three_b w (.int .u64 (W64 k.1)) (.int .u64 (W64 k.2)) 24
  by_cases hla : 300 < a.length
  · have hd : decide ((300 : Int) < ((bs a).size : Int)) = true := decide_eq_true (by omega)
    clear hx hsa hsb
    go_enter Try.func5, Try.ntmps5
    go_wp2_with fail
    refine (HAW.out _ hn1).mono ?_
    rintro e w2 ⟨rfl, hn2⟩
    go_wp2
    go_ret
    exact ⟨rfl, hn1.trans hn2⟩
  have hda : decide ((300 : Int) < ((bs a).size : Int)) = false := decide_eq_false (by omega)
  by_cases hlb : 300 < b.length
  · have hd : decide ((300 : Int) < ((bs b).size : Int)) = true := decide_eq_true (by omega)
    clear hx hsa hsb
    go_enter Try.func5, Try.ntmps5
    go_wp2_with fail
    refine (HAW.out _ hn1).mono ?_
    rintro e w2 ⟨rfl, hn2⟩
    go_wp2
    go_ret
    exact ⟨rfl, hn1.trans hn2⟩
  have hdb : decide ((300 : Int) < ((bs b).size : Int)) = false := decide_eq_false (by omega)
  have hjl := jn_len a b
  have HJ : Hid (∀ w, Calls Try.prog 18 #[.string (bs a), .string (bs b)] w fun e w' => e = .returned (.string (bs (jn a b))) ∧ w' = w) := Lib.hid (fun w => join_q a b (by omega) w)
  have HPJ := Lib.hid (fun (w' : World) (hn : New w w') => path_any k (jn a b) (by omega) w' (hx.stay hn))
  have HPA := Lib.hid (fun w' => pathr_any k a (by omega) w')
  have HPB := Lib.hid (fun w' => pathr_any (pathE k a) b (by omega) w')
  have HQA := Lib.hid (fun w => (partsr_q a (by omega) w).mono fun _ _ h => h.row)
  have HQB := Lib.hid (fun w => (partsr_q b (by omega) w).mono fun _ _ h => h.row)
  have hna := lbs_len a
  have hnb := lbs_len b
  have HG := Lib.hid (jn_good a b)
  have HB := Lib.hid (jn_bad a b)
  have HEG := Lib.hid (pathE_good k a b)
  have HEB := Lib.hid (pathE_bad k (jn a b))
  have hna2 : (lbs a).length ≤ 301 := by omega
  have hnb2 : (lbs b).length ≤ 301 := by omega
  clear hx hsa hsb hjl hna hnb hla hlb
  obtain ⟨j, hj⟩ : ∃ z, jn a b = z := ⟨_, rfl⟩
  rw [hj] at HJ HPJ HG HB HEG HEB
  clear hj
  obtain ⟨xa, hxa⟩ : ∃ z, ptE (pts a) = z := ⟨_, rfl⟩
  rw [hxa] at HPA HQA HG HB HEG
  clear hxa
  obtain ⟨xb, hxb⟩ : ∃ z, ptE (pts b) = z := ⟨_, rfl⟩
  rw [hxb] at HPB HQB HG HB HEG
  clear hxb
  obtain ⟨xj, hxj⟩ : ∃ z, ptE (pts j) = z := ⟨_, rfl⟩
  rw [hxj] at HPJ HG HB HEG HEB
  clear hxj
  obtain ⟨cj, hcj⟩ : ∃ z, pathE k j = z := ⟨_, rfl⟩
  rw [hcj] at HPJ HEG HEB
  clear hcj
  obtain ⟨cb, hcb⟩ : ∃ z, pathE (pathE k a) b = z := ⟨_, rfl⟩
  rw [hcb] at HPB HEG
  clear hcb
  obtain ⟨ca, hca⟩ : ∃ z, pathE k a = z := ⟨_, rfl⟩
  rw [hca] at HPA HPB
  clear hca
  obtain ⟨na, hna⟩ : ∃ z, (lbs a).length = z := ⟨_, rfl⟩
  rw [hna] at HQA HG HB hna2
  obtain ⟨nb, hnb⟩ : ∃ z, (lbs b).length = z := ⟨_, rfl⟩
  rw [hnb] at HQB HG HB hnb2
  clear hna hnb
  go_enter Try.func5, Try.ntmps5
  go_wp2_with fail
  obtain ⟨b1, hb1e⟩ : ∃ b, w.heap.size = b := ⟨_, rfl⟩
  rw [hb1e] at hb1
  rw [hb1e]
  generalize w.alloc (.cells #[.int .u64 (W64 k.1), .int .u64 (W64 k.2)] 24) = w1 at *
  refine (HAW.out _ hn1).mono ?_
  rintro e w2 ⟨rfl, hn2⟩
  have kb := (hn2.block _ (lt_of_block hb1)).trans hb1
  have hn3 := hn1.trans hn2
  clear hb1 hn1 hn2 hb1e HAW
  have k0 := cell_of_row _ _ 0 _ _ _ kb
  have k1 := cell_of_row _ _ 1 _ _ _ kb
  go_wp2_with fail
  refine (HJ.out _).mono ?_
  rintro e w9 ⟨rfl, hw⟩
  replace hw := hw.symm
  subst hw
  go_wp2_with fail
  refine (HPJ.out _ hn3).mono ?_
  rintro e w3 ⟨rfl, hn4⟩
  obtain ⟨jb, hm1⟩ := three_b w3 (.int .u64 (W64 cj.1)) (.int .u64 (W64 cj.2)) 24
  have hn5 := hn4.trans hm1
  replace kb := (hn5.block _ (lt_of_block kb)).trans kb
  replace hn3 := hn3.trans hn5
  clear hn4 hm1 hn5 k0 k1 HJ HPJ
  have k0 := cell_of_row _ _ 0 _ _ _ kb
  have k1 := cell_of_row _ _ 1 _ _ _ kb
  go_wp2_with fail
  obtain ⟨b2, hb2e⟩ : ∃ b, w3.heap.size = b := ⟨_, rfl⟩
  rw [hb2e] at jb
  rw [hb2e]
  generalize w3.alloc (.cells #[.int .u64 (W64 cj.1), .int .u64 (W64 cj.2)] 24) = w4 at *
  clear hb2e
  refine (HPA.out _).mono ?_
  rintro e w5 ⟨rfl, hn4⟩
  obtain ⟨ab, hm1⟩ := three_b w5 (.int .u64 (W64 ca.1)) (.int .u64 (W64 ca.2)) 24
  have hn5 := hn4.trans hm1
  replace kb := (hn5.block _ (lt_of_block kb)).trans kb
  replace jb := (hn5.block _ (lt_of_block jb)).trans jb
  replace hn3 := hn3.trans hn5
  clear hn4 hm1 hn5 k0 k1 HPA
  have a0 := cell_of_row _ _ 0 _ _ _ ab
  have a1 := cell_of_row _ _ 1 _ _ _ ab
  go_wp2_with fail
  obtain ⟨b3, hb3e⟩ : ∃ b, w5.heap.size = b := ⟨_, rfl⟩
  rw [hb3e] at ab
  rw [hb3e]
  generalize w5.alloc (.cells #[.int .u64 (W64 ca.1), .int .u64 (W64 ca.2)] 24) = w6 at *
  clear hb3e a0 a1
  refine (HPB.out _).mono ?_
  rintro e w7 ⟨rfl, hn4⟩
  obtain ⟨bb, hm1⟩ := three_b w7 (.int .u64 (W64 cb.1)) (.int .u64 (W64 cb.2)) 24
  have hn5 := hn4.trans hm1
  replace jb := (hn5.block _ (lt_of_block jb)).trans jb
  replace hn3 := hn3.trans hn5
  clear hn4 hm1 hn5 HPB kb ab
  go_wp2_with fail
  obtain ⟨b4, hb4e⟩ : ∃ b, w7.heap.size = b := ⟨_, rfl⟩
  rw [hb4e] at bb
  rw [hb4e]
  generalize w7.alloc (.cells #[.int .u64 (W64 cb.1), .int .u64 (W64 cb.2)] 24) = w8 at *
  clear hb4e
  refine (HQA.out _).mono ?_
  rintro e w9 ⟨ra, c1, rfl, hc1, _, hn5⟩
  replace jb := (hn5.block _ (lt_of_block jb)).trans jb
  replace bb := (hn5.block _ (lt_of_block bb)).trans bb
  replace hn3 := hn3.trans hn5
  clear hn5 HQA
  go_wp2_with fail
  refine (HQB.out _).mono ?_
  rintro e w10 ⟨rb, c2, rfl, hc2, _, hn5⟩
  replace jb := (hn5.block _ (lt_of_block jb)).trans jb
  replace bb := (hn5.block _ (lt_of_block bb)).trans bb
  replace hn3 := hn3.trans hn5
  clear hn5 HQB
  by_cases ea : xa = 0
  · by_cases eb : xb = 0
    · by_cases h16 : (16 : Int) < (na : Int) + (nb : Int)
      · have hj0 := HB.out (Or.inr (Or.inr (by omega)))
        obtain rfl := HEB.out hj0
        have hd : (xj != 0) = true := by rw [bne_iff_ne]; exact hj0
        have hw0 : W64 0#64 = 0 := rfl
        have j0 := cell_of_row _ _ 0 _ _ _ jb
        have j1 := cell_of_row _ _ 1 _ _ _ jb
        subst ea
        subst eb
        clear jb bb HB HEB HG HEG
        go_wp2
        go_ret
        exact ⟨rfl, hn3⟩
      · have hj0 := HG.out ea eb (by omega)
        have hcc := HEG.out ea eb hj0
        have j0 := cell_of_row _ _ 0 _ _ _ jb
        have j1 := cell_of_row _ _ 1 _ _ _ jb
        have q0 := cell_of_row _ _ 0 _ _ _ bb
        have q1 := cell_of_row _ _ 1 _ _ _ bb
        subst ea
        subst eb
        subst hj0
        subst hcc
        clear jb bb HB HEB HG HEG
        go_wp2
        go_ret
        exact ⟨rfl, hn3⟩
    · have hj0 := HB.out (Or.inr (Or.inl eb))
      obtain rfl := HEB.out hj0
      have hd : (xj != 0) = true := by rw [bne_iff_ne]; exact hj0
      have hd2 : (xb != 0) = true := by rw [bne_iff_ne]; exact eb
      have hw0 : W64 0#64 = 0 := rfl
      have j0 := cell_of_row _ _ 0 _ _ _ jb
      have j1 := cell_of_row _ _ 1 _ _ _ jb
      subst ea
      clear jb bb HB HEB HG HEG
      go_wp2
      go_ret
      exact ⟨rfl, hn3⟩
  · have hj0 := HB.out (Or.inl ea)
    obtain rfl := HEB.out hj0
    have hd : (xj != 0) = true := by rw [bne_iff_ne]; exact hj0
    have hd2 : (xa != 0) = true := by rw [bne_iff_ne]; exact ea
    have hw0 : W64 0#64 = 0 := rfl
    have j0 := cell_of_row _ _ 0 _ _ _ jb
    have j1 := cell_of_row _ _ 1 _ _ _ jb
    clear jb bb HB HEB HG HEG
    go_wp2
    go_ret
    exact ⟨rfl, hn3⟩
end Go.Proofs.Ytoplabhoedloeaa
