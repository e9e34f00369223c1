import Derived.Test.YtebcfbcfipmahaaGreatZ3FamL
import Derived.Test.YtebcfbcfipmahaaGreatZ3PolM
section
/- Plain lemmas: through.Shift's words. -/
namespace Go.Proofs.YtebcfbcfipmahaaGreat
open Go Go.RowKit Go.Bv
set_option linter.unusedVariables false
/-- what the values lack of the targets -/
def df (c xs ys : List (BitVec 64)) : List (BitVec 64) := (List.range xs.length).map fun i => sb (ys.getD i 0) ((vals c xs).getD i 0)
theorem df_len (c xs ys : List (BitVec 64)) : (df c xs ys).length = xs.length := by unfold df; simp
theorem df_get (c xs ys : List (BitVec 64)) (i : Nat) (h : i < xs.length) : (df c xs ys).getD i 0 = sb (ys.getD i 0) ((vals c xs).getD i 0) := map_range_get _ _ _ h
/-- the seed shifted -/
def sh (c xs ys : List (BitVec 64)) : List (BitVec 64) := (List.range c.length).map fun i => if i < xs.length then mp ((c.getD i 0).toNat + ((thr xs (df c xs ys)).getD i 0).toNat) else c.getD i 0
theorem sh_len (c xs ys : List (BitVec 64)) : (sh c xs ys).length = c.length := by unfold sh; simp
theorem sh_get (c xs ys : List (BitVec 64)) (i : Nat) (h : i < c.length) : (sh c xs ys).getD i 0 = if i < xs.length then mp ((c.getD i 0).toNat + ((thr xs (df c xs ys)).getD i 0).toNat) else c.getD i 0 := map_range_get _ _ _ h
/-- what Shift says -/
def shE (c xs ys : List (BitVec 64)) : Int := if chkC c ≠ 0 then chkC c else if chkT xs ys ≠ 0 then chkT xs ys else if c.length < xs.length then 1 else 0
theorem chkC_parts {c : List (BitVec 64)} (h : chkC c = 0) : 1 ≤ c.length ∧ c.length ≤ 64 ∧ ∀ j, j < c.length → (c.getD j 0).toNat < PP := by
  unfold chkC at h
  by_cases h1 : c.length < 1 ∨ 64 < c.length
  · rw [if_pos h1] at h; exact absurd h (by decide)
  · rw [if_neg h1] at h
    by_cases h2 : ∀ j, j < c.length → (c.getD j 0).toNat < PP
    · exact ⟨by omega, by omega, h2⟩
    · rw [if_neg h2] at h; exact absurd h (by decide)
theorem shE_parts {c xs ys : List (BitVec 64)} (h : shE c xs ys = 0) : chkC c = 0 ∧ chkT xs ys = 0 ∧ xs.length ≤ c.length := by
  unfold shE at h
  by_cases h1 : chkC c = 0
  · rw [if_neg (by simp [h1])] at h
    by_cases h2 : chkT xs ys = 0
    · rw [if_neg (by simp [h2])] at h
      by_cases h3 : c.length < xs.length
      · rw [if_pos h3] at h; exact absurd h (by decide)
      · exact ⟨h1, h2, by omega⟩
    · rw [if_pos h2] at h; exact absurd h h2
  · rw [if_pos h1] at h; exact absurd h h1
theorem df_chk {c xs ys : List (BitVec 64)} (h : chkT xs ys = 0) : chkT xs (df c xs ys) = 0 := by
  obtain ⟨h1, h2, h3, h4, h5, h6⟩ := chk_parts h
  refine chk_make h1 h2 (by rw [df_len]) h4 (blw_yes (fun j hj => ?_)) h6
  rw [df_len] at hj
  rw [df_get _ _ _ _ hj]; exact mp_lt _
theorem pvF_add (f g : Nat → FF) (z : FF) : ∀ n, pvF (fun i => f i + g i) z n = pvF f z n + pvF g z n
  | 0 => by show (0 : FF) = 0 + 0; grind
  | n + 1 => by
    show pvF (fun i => f i + g i) z n + (f n + g n) * pwF z n = (pvF f z n + f n * pwF z n) + (pvF g z n + g n * pwF z n)
    rw [pvF_add f g z n]; grind
theorem pvF_ext {f g : Nat → FF} (z : FF) : ∀ n, (∀ i, i < n → f i = g i) → pvF f z n = pvF g z n
  | 0, _ => rfl
  | n + 1, h => by
    show pvF f z n + f n * pwF z n = pvF g z n + g n * pwF z n
    rw [pvF_ext z n (fun i hi => h i (by omega)), h n (by omega)]
theorem sh_lt {c xs ys : List (BitVec 64)} (h : chkC c = 0) (i : Nat) (hi : i < c.length) : ((sh c xs ys).getD i 0).toNat < PP := by
  rw [sh_get _ _ _ _ hi]
  by_cases e : i < xs.length
  · rw [if_pos e]; exact mp_lt _
  · rw [if_neg e]; exact (chkC_parts h).2.2 i hi
theorem XF_sh {c xs ys : List (BitVec 64)} (i : Nat) (hi : i < c.length) : XF (sh c xs ys) i = XF c i + XF (thr xs (df c xs ys)) i := by
  show fw ((sh c xs ys).getD i 0) = _
  rw [sh_get _ _ _ _ hi]
  by_cases e : i < xs.length
  · rw [if_pos e, fw_mp, ff_add]; rfl
  · rw [if_neg e]
    have h1 : XF (thr xs (df c xs ys)) i = 0 := by
      show fw ((thr xs (df c xs ys)).getD i 0) = 0
      rw [getD_far _ _ (by rw [thr_len]; omega)]; rfl
    rw [h1]
    show XF c i = XF c i + 0
    grind
theorem sh_value {c xs ys : List (BitVec 64)} (h : shE c xs ys = 0) (i : Nat) (hi : i < xs.length) : ff (nv (sh c xs ys) (xs.getD i 0)) = XF ys i := by
  obtain ⟨h1, h2, h3⟩ := shE_parts h
  obtain ⟨_, _, h5, h6, h7, h8⟩ := chk_parts h2
  have hX := good_X h6 h8
  have e1 := nv_pv (sh c xs ys) (xs.getD i 0) c.length (by rw [sh_len]; exact Nat.le_refl _)
  rw [pvF_ext _ _ (fun k hk => XF_sh k hk), pvF_add] at e1
  have e2 := nv_pv c (xs.getD i 0) c.length (Nat.le_refl _)
  have e3 := nv_pv (thr xs (df c xs ys)) (xs.getD i 0) c.length (by rw [thr_len]; exact h3)
  have e4 := thr_value (ys := df c xs ys) hX i hi
  have e5 : XF (df c xs ys) i = XF ys i - ff (nv c (xs.getD i 0)) := by
    show fw ((df c xs ys).getD i 0) = _
    rw [df_get _ _ _ _ hi, fw_sb, vals_get _ _ _ hi, fw_mp]; rfl
  rw [e1, ← e2, ← e3, e4, e5]
  generalize ff (nv c (xs.getD i 0)) = u
  generalize XF ys i = v
  grind
theorem sh_points {c xs ys : List (BitVec 64)} (h : shE c xs ys = 0) : vals (sh c xs ys) xs = ys := by
  obtain ⟨h1, h2, h3⟩ := shE_parts h
  obtain ⟨_, _, h5, h6, h7, h8⟩ := chk_parts h2
  refine list_of_get (by rw [vals_len, h5]) (fun i hi => ?_)
  rw [vals_len] at hi
  rw [vals_get _ _ _ hi]
  exact ff_word (blw_out h7 i (by omega)) (sh_value h i hi)
theorem sh_again {c xs ys : List (BitVec 64)} (h : shE c xs ys = 0) : shE (sh c xs ys) xs (vals c xs) = 0 := by
  obtain ⟨h1, h2, h3⟩ := shE_parts h
  obtain ⟨a1, a2, h5, h6, h7, h8⟩ := chk_parts h2
  obtain ⟨b1, b2, b3⟩ := chkC_parts h1
  have g1 : chkC (sh c xs ys) = 0 := by
    unfold chkC
    rw [if_neg (by rw [sh_len]; omega), if_pos (fun j hj => by rw [sh_len] at hj; exact sh_lt h1 j hj)]
  have g2 : chkT xs (vals c xs) = 0 := chk_make a1 a2 (by rw [vals_len]) h6 (vals_blw _ _) h8
  unfold shE
  rw [if_neg (by simp [g1]), if_neg (by simp [g2]), if_neg (by rw [sh_len]; omega)]
theorem sh_back {c xs ys : List (BitVec 64)} (h : shE c xs ys = 0) : sh (sh c xs ys) xs (vals c xs) = c := by
  obtain ⟨h1, h2, h3⟩ := shE_parts h
  obtain ⟨_, _, h5, h6, h7, h8⟩ := chk_parts h2
  have hX := good_X h6 h8
  have hd : ∀ k, k < xs.length → XF (thr xs (df c xs ys)) k + XF (thr xs (df (sh c xs ys) xs (vals c xs))) k = 0 := by
    refine roots_none xs.length (fun k => XF (thr xs (df c xs ys)) k + XF (thr xs (df (sh c xs ys) xs (vals c xs))) k) (XF xs) hX (fun i hi => ?_)
    rw [pvF_add]
    have e1 := thr_value (ys := df c xs ys) hX i hi
    have e2 := thr_value (ys := df (sh c xs ys) xs (vals c xs)) hX i hi
    rw [nv_pv _ _ xs.length (by rw [thr_len]; exact Nat.le_refl _)] at e1 e2
    have e3 : XF (df c xs ys) i = XF ys i - XF (vals c xs) i := by
      show fw ((df c xs ys).getD i 0) = _
      rw [df_get _ _ _ _ hi, fw_sb]; rfl
    have e4 : XF (df (sh c xs ys) xs (vals c xs)) i = XF (vals c xs) i - XF ys i := by
      show fw ((df (sh c xs ys) xs (vals c xs)).getD i 0) = _
      rw [df_get _ _ _ _ hi, fw_sb, sh_points h]; rfl
    show pvF (XF (thr xs (df c xs ys))) (fw (xs.getD i 0)) xs.length + pvF (XF (thr xs (df (sh c xs ys) xs (vals c xs)))) (fw (xs.getD i 0)) xs.length = 0
    rw [e1, e2, e3, e4]
    generalize XF ys i = u
    generalize XF (vals c xs) i = v
    grind
  refine list_of_get (by rw [sh_len, sh_len]) (fun i hi => ?_)
  rw [sh_len, sh_len] at hi
  rw [sh_get _ _ _ _ (by rw [sh_len]; exact hi)]
  by_cases e : i < xs.length
  · rw [if_pos e]
    refine fw_inj (mp_lt _) ((chkC_parts h1).2.2 i hi) ?_
    rw [fw_mp, ff_add]
    show XF (sh c xs ys) i + XF (thr xs (df (sh c xs ys) xs (vals c xs))) i = XF c i
    rw [XF_sh i hi]
    have e1 := hd i e
    generalize XF c i = p at *
    generalize XF (thr xs (df c xs ys)) i = q at *
    generalize XF (thr xs (df (sh c xs ys) xs (vals c xs))) i = r at *
    grind
  · rw [if_neg e, sh_get _ _ _ _ hi, if_neg e]
end Go.Proofs.YtebcfbcfipmahaaGreat
end
section
/- The walk of the statement TwistShifts: for all seeds, all numbers of bits, all keys, all targets. -/
namespace Go.Proofs.YtebcfbcfipmahaaGreat
open Go Go.RowKit Go.Bv Go.Tab
set_option linter.unusedVariables false
set_option maxRecDepth 100000
/-- keys and targets that may be, of a seed that is right -/
structure GoodT (l : List (BitVec 64)) (bits : Int) (xl yl : List (BitVec 64)) : Prop where
  len : l.length = 240
  b1 : 1 ≤ bits
  b2 : bits ≤ 64
  tg : tgE bits.toNat xl yl = 0
theorem goodT_of {l : List (BitVec 64)} {bits : Int} {xl yl : List (BitVec 64)} (h : csN bits l.length 240 xl yl = 0) : GoodT l bits xl yl := by
  unfold csN at h
  by_cases e : chk bits l.length 240 = 0
  · rw [if_neg (by rw [e]; simp)] at h
    obtain ⟨b1, b2, b3⟩ := chk_good e
    exact ⟨by omega, b1, b2, h⟩
  · rw [if_pos e] at h; exact absurd h e
theorem csT_of {l : List (BitVec 64)} {bits : Int} {xl yl : List (BitVec 64)} (h : GoodT l bits xl yl) : chk bits l.length 240 = 0 ∧ csN bits l.length 240 xl yl = 0 := by
  have e : chk bits l.length 240 = 0 := by
    have h1 := h.len; have h2 := h.b1; have h3 := h.b2
    unfold chk
    rw [if_neg (by omega), if_neg (by omega)]
  refine ⟨e, ?_⟩
  unfold csN
  rw [if_neg (by rw [e]; simp), h.tg]
theorem GoodT.sub {l : List (BitVec 64)} {bits : Int} {xl yl : List (BitVec 64)} (h : GoodT l bits xl yl) : Good (l.take 128) bits (tuL l xl) yl := ⟨by rw [List.length_take, h.len]; rfl, h.b1, h.b2, tuL_tg h.tg⟩
theorem goodT_ev {l : List (BitVec 64)} {bits : Int} {xl yl : List (BitVec 64)} (h : GoodT l bits xl yl) {i : Nat} (hi : i < xl.length) : evE bits l.length 240 (xl.getD i 0) = 0 ∧ teV l bits (xl.getD i 0) = evV (l.take 128) bits 128 ((tuL l xl).getD i 0) := by
  have e : evE bits l.length 240 (xl.getD i 0) = 0 := by
    unfold evE
    rw [if_neg (by rw [(csT_of h).1]; simp), if_pos (small_of ((tg_zero h.tg).2.2.2.1 i hi).1)]
  exact ⟨e, by unfold teV; rw [if_pos e, tuL_at l xl i hi]⟩
theorem twL_parts {l : List (BitVec 64)} {bits : Int} {xl yl : List (BitVec 64)} (h : l.length = 240) : (twL l bits xl yl).length = l.length ∧ (twL l bits xl yl).take 128 = shL (l.take 128) bits (tuL l xl) yl ∧ ((twL l bits xl yl).drop 128).take 112 = (l.drop 128).take 112 := by
  have h1 : (shL (l.take 128) bits (tuL l xl) yl).length = 128 := by rw [shL_len, List.length_take, h]; rfl
  have h2 : ((l.drop 128).take 112).length = 112 := by rw [List.length_take, List.length_drop, h]; rfl
  unfold twL
  refine ⟨by rw [List.length_append, h1, h2, h], ?_, ?_⟩
  · rw [List.take_append_of_le_length (by omega), List.take_of_length_le (by omega)]
  · rw [List.drop_append_of_le_length (by omega), List.drop_of_length_le (by omega), List.nil_append, List.take_of_length_le (by omega)]
theorem twL_len (l : List (BitVec 64)) (bits : Int) (xl yl : List (BitVec 64)) (h : l.length = 240) : (twL l bits xl yl).length = l.length := (twL_parts h).1
theorem twx_part {l m : List (BitVec 64)} (h : (m.drop 128).take 112 = (l.drop 128).take 112) (x : BitVec 64) : ∀ k, k ≤ 7 → twx m x k = twx l x k
  | 0, _ => rfl
  | k + 1, hk => by
    show twx m x k ^^^ m.getD (128 + 16 * k + (lat x k).toNat) 0 = twx l x k ^^^ l.getD (128 + 16 * k + (lat x k).toNat) 0
    have := lat_lt x k
    rw [twx_part h x k (by omega), Nat.add_assoc, ← getD_part m 128 112 _ (by omega), ← getD_part l 128 112 _ (by omega), h]
theorem twL_turn {l : List (BitVec 64)} {bits : Int} {xl yl : List (BitVec 64)} (h : l.length = 240) (x : BitVec 64) : turnV (twL l bits xl yl) x = turnV l x := by
  unfold turnV
  rw [twx_part (twL_parts h).2.2 x 7 (by omega)]
theorem twL_tu {l : List (BitVec 64)} {bits : Int} {xl yl : List (BitVec 64)} (h : l.length = 240) : tuL (twL l bits xl yl) xl = tuL l xl := by
  unfold tuL
  exact List.map_congr_left fun i _ => twL_turn h _
theorem twL_good {l : List (BitVec 64)} {bits : Int} {xl yl zl : List (BitVec 64)} (h : GoodT l bits xl yl) (hz : tgE bits.toNat xl zl = 0) : GoodT (twL l bits xl yl) bits xl zl := ⟨by rw [twL_len _ _ _ _ h.len]; exact h.len, h.b1, h.b2, hz⟩
theorem twL_ev {l : List (BitVec 64)} {bits : Int} {xl yl : List (BitVec 64)} (h : GoodT l bits xl yl) {i : Nat} (hi : i < xl.length) : teV (twL l bits xl yl) bits (xl.getD i 0) = yl.getD i 0 := by
  rw [(goodT_ev (twL_good h h.tg) hi).2, (twL_parts h.len).2.1, twL_tu h.len]
  exact shL_ev h.sub (by rw [tuL_len]; exact hi)
/-- what the keys were brought to -/
def waT (l : List (BitVec 64)) (bits : Int) (xl : List (BitVec 64)) : List (BitVec 64) := (List.range xl.length).map fun i => teV l bits (xl.getD i 0)
theorem waT_was {l : List (BitVec 64)} {bits : Int} {xl yl : List (BitVec 64)} (h : GoodT l bits xl yl) : waT l bits xl = wasL (l.take 128) bits (tuL l xl) := by
  unfold waT wasL
  rw [tuL_len]
  exact List.map_congr_left fun i hi => (goodT_ev h (List.mem_range.1 hi)).2
theorem waT_tg {l : List (BitVec 64)} {bits : Int} {xl yl : List (BitVec 64)} (h : GoodT l bits xl yl) : tgE bits.toNat xl (waT l bits xl) = 0 := by
  obtain ⟨t1, t2, t3, t4, t5⟩ := tg_zero h.tg
  have hw := was_tg h.sub
  rw [← waT_was h] at hw
  obtain ⟨u1, u2, u3, u4, u5⟩ := tg_zero hw
  rw [tuL_len] at u3 u4
  refine tg_ok (by omega) (fun j hj => ?_) (fun j hj => same2_no fun k hk => t5 k j (by omega) hj (by omega))
  unfold bad2
  rw [(u4 j hj).2, (t4 j hj).1]
  rfl
theorem twL_back {l : List (BitVec 64)} {bits : Int} {xl yl : List (BitVec 64)} (h : GoodT l bits xl yl) : twL (twL l bits xl yl) bits xl (waT l bits xl) = l := by
  show shL ((twL l bits xl yl).take 128) bits (tuL (twL l bits xl yl) xl) (waT l bits xl) ++ ((twL l bits xl yl).drop 128).take 112 = l
  rw [(twL_parts h.len).2.1, (twL_parts h.len).2.2, twL_tu h.len, waT_was h, shL_back h.sub, List.take_of_length_le (l := l.drop 128) (by rw [List.length_drop, h.len]; omega), List.take_append_drop]
end Go.Proofs.YtebcfbcfipmahaaGreat
end
