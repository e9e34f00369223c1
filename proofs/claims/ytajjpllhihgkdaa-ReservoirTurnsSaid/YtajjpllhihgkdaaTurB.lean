/- The law ReservoirTurns. -/
import Derived.Test.YtajjpllhihgkdaaTurA
import Derived.Test.YtajjpllhihgkdaaSetA
namespace Go.Proofs.Ytajjpllhihgkdaa
open Go Go.RowKit Go.Bv
set_option linter.unusedVariables false
/-- where a number stands, so far -/
def uvF (p : List Int) : Nat → Nat → Nat
  | 0, x => x
  | j + 1, x => if p.getD j 0 = (x : Int) then j else uvF p j x
theorem uv_ls {p : List Int} {x : Nat} : ∀ {j}, (∃ i, i < j ∧ p.getD i 0 = (x : Int)) → uvF p j x = lsF p x j
  | 0, ⟨i, h, _⟩ => by omega
  | j + 1, ⟨i, h, he⟩ => by
    show (if p.getD j 0 = (x : Int) then j else uvF p j x) = (if p.getD j 0 = (x : Int) then j else lsF p x j)
    by_cases e : p.getD j 0 = (x : Int)
    · rw [if_pos e, if_pos e]
    · rw [if_neg e, if_neg e]
      refine uv_ls ⟨i, ?_, he⟩
      by_cases e2 : i = j
      · subst e2; exact absurd he e
      · omega
theorem uv_bk {p : List Int} (h : isO p) : liI (uvF p p.length) p.length = bkI p := by
  unfold bkI
  exact liI_ext (fun x hx => uv_ls (isO_on h hx))
theorem uv_set (p : List Int) {n j P : Nat} (hP : P < n) (he : p.getD j 0 = (P : Int)) : (liI (uvF p j) n).set P (j : Int) = liI (uvF p (j + 1)) n := by
  rw [liI_set _ _ hP]
  apply liI_ext
  intro x hx
  show (if x = P then j else uvF p j x) = (if p.getD j 0 = (x : Int) then j else uvF p j x)
  by_cases e : x = P
  · rw [if_pos e, if_pos (by rw [he, e])]
  · rw [if_neg e, if_neg (by rw [he]; omega)]
theorem bk_inv {p : List Int} (h : isO p) {x : Nat} (hx : x < p.length) : fnI (bkI p) (fnI p x) = x := by
  have ho := fnI_or h
  have h1 := ho.1 x hx
  unfold bkI
  rw [fnI_li _ h1]
  obtain ⟨h2, h3⟩ := ls_or h h1
  refine ho.2 _ _ h2 hx ?_
  show ((p.getD (lsF p (fnI p x) p.length) 0)).toNat = fnI p x
  rw [h3]
  rfl
set_option maxRecDepth 100000 in
set_option maxHeartbeats 8000000 in
theorem ReservoirTurns_walk (W : World) (a0 : Int) (w0 : (Lit.int .i64 a0).wf = true) (a1 : Int) (w1 : (Lit.int .i64 a1).wf = true) (a2 : Option Addr) (n2 m2 : Nat) (z2 : List Int) (w2 : IRow .i64 W a2 n2 m2 z2) (r2 : m2 * 8 ≤ 140737488351232) (a3 : Option Addr) (n3 m3 : Nat) (z3 : List Int) (w3 : IRow .i64 W a3 n3 m3 z3) (r3 : m3 * 8 ≤ 140737488351232) :
    Calls Try.prog 6 #[.int .i64 a0, .int .i64 a1, .slice a2 n2 m2, .slice a3 n3 m3] W fun e w' => e = .returned (.bool true) ∧ Below W.heap.size W w' := by
  obtain ⟨i0, hi, hz0, hz1, hz2⟩ := info_parts info_int40
  obtain ⟨d, hd⟩ := w2.ints r2
  obtain ⟨p, hp⟩ := w3.ints r3
  have H2 := Lib.hid hd
  have H3 := Lib.hid hp
  have HL2 := Lib.hid hd.len_eq
  have HL3 := Lib.hid hp.len_eq
  clear w2 w3 r2 r3 hp hd
  have hn0 := wfi64 w0
  have hn1 := wfi64 w1
  clear w0 w1
  have HA := Lib.hid awake42
  go_enter Try.func6, Try.ntmps6
  go_wp2_with fail
  refine (HA.out _).mono ?_
  rintro e wA ⟨rfl, hn⟩
  replace H2 := Lib.hid (H2.out.stay hn)
  replace H3 := Lib.hid (H3.out.stay hn)
  have HN := Lib.hid hn
  clear hn HA
  by_cases g0 : 60 < a0 ∧ a0 ≤ 256
  · obtain ⟨ga, gb⟩ := g0
    go_wp2
    go_ret
    exact ⟨rfl, HN.out⟩
  have e0 : ¬ 60 < a0 ∨ (60 < a0 ∧ ¬ a0 ≤ 256) := by omega
  have HCR := Lib.hid (fun w => checkr_42 a0 a1 w)
  by_cases hk : ckE a0 a1 = 0
  case neg =>
    have HU := Lib.hid (fun w => turn_err a0 a1 a2 a3 n2 m2 n3 m3 w hk)
    obtain ⟨z, hz⟩ : ∃ z, ckE a0 a1 = z := ⟨_, rfl⟩
    rw [hz] at HCR HU hk
    have hz2 : (z == 0) = false := by rw [beq_eq_false_iff_ne]; exact hk
    have hz3 : (z != 0) = true := by simpa using hk
    have hz4 : (z == z) = true := by simp
    clear hz
    rcases e0 with e0 | ⟨e0, e0'⟩
    all_goals (
      go_wp2_with fail
      refine (HU.out _).mono ?_
      rintro e wN ⟨rfl, hn⟩
      replace HN := Lib.hid (HN.out.trans hn)
      clear hn
      go_wp2_with fail
      refine (HCR.out _).mono ?_
      rintro e w' ⟨rfl, hw⟩
      replace hw := hw.symm
      subst hw
      go_wp2
      go_ret
      exact ⟨rfl, HN.out⟩)
  have hk2 : 0 ≤ a0 ∧ 0 ≤ a1 ∧ a1 ≤ a0 ∧ a0 ≤ 256 := by
    unfold ckE at hk
    by_cases h1 : a0 < 0 ∨ a1 < 0 ∨ a0 < a1
    · rw [if_pos h1] at hk; omega
    · rw [if_neg h1] at hk
      by_cases h2 : 256 < a0
      · rw [if_pos h2] at hk; omega
      · omega
  have e0' : ¬ 60 < a0 := by omega
  rw [hk] at HCR
  obtain ⟨n, rfl⟩ : ∃ n : Nat, a0 = (n : Int) := ⟨a0.toNat, by omega⟩
  obtain ⟨k, rfl⟩ : ∃ k : Nat, a1 = (k : Int) := ⟨a1.toNat, by omega⟩
  have hkn : k ≤ n := by omega
  have hn256 : n ≤ 256 := by omega
  clear hk g0 e0 hk2
  have HR2 := Lib.hid (fun w (h : ZRow w a2 n2 m2 d) => right_42 n k hkn (by omega) a2 n2 m2 d w h)
  by_cases hrd : rdI n k d
  case neg =>
    have HU := Lib.hid (fun w (h : ZRow w a2 n2 m2 d) => turn_bad n k hkn hn256 a2 a3 n2 m2 n3 m3 d w h (rdB_no hrd))
    rw [rdB_no hrd] at HR2
    clear hrd
    go_wp2_with fail
    refine (HU.out _ H2.out).mono ?_
    rintro e wN ⟨rfl, hn⟩
    replace H2 := Lib.hid (H2.out.stay hn)
    replace HN := Lib.hid (HN.out.trans hn)
    clear hn
    go_wp2_with fail
    refine (HCR.out _).mono ?_
    rintro e w' ⟨rfl, hw⟩
    replace hw := hw.symm
    subst hw
    go_wp2_with fail
    refine (HR2.out _ H2.out).mono ?_
    rintro e w' ⟨rfl, hw⟩
    replace hw := hw.symm
    subst hw
    go_wp2
    go_ret
    exact ⟨rfl, HN.out⟩
  rw [rdB_iff.2 hrd] at HR2
  by_cases hm : n3 = n
  case neg =>
    have HU := Lib.hid (fun w (h : ZRow w a2 n2 m2 d) (h2 : ZRow w a3 n3 m3 p) => turn_bad2 n k hkn hn256 a2 a3 n2 m2 n3 m3 d p w h hrd h2 (fun h2 => hm h2.1))
    have hb : ((n3 : Int) != (n : Int)) = true := by simp; omega
    clear hm hrd
    go_wp2_with fail
    refine (HU.out _ H2.out H3.out).mono ?_
    rintro e wN ⟨rfl, hn⟩
    replace H2 := Lib.hid (H2.out.stay hn)
    replace HN := Lib.hid (HN.out.trans hn)
    clear hn
    go_wp2_with fail
    refine (HCR.out _).mono ?_
    rintro e w' ⟨rfl, hw⟩
    replace hw := hw.symm
    subst hw
    go_wp2_with fail
    refine (HR2.out _ H2.out).mono ?_
    rintro e w' ⟨rfl, hw⟩
    replace hw := hw.symm
    subst hw
    go_wp2
    go_ret
    exact ⟨rfl, HN.out⟩
  subst hm
  have hb : ((n3 : Int) != (n3 : Int)) = false := by simp
  have HIS := Lib.hid (fun w (h : ZRow w a3 n3 m3 p) => isr_40 a3 n3 m3 p w h (by omega))
  by_cases hor : isO p
  case neg =>
    have HU := Lib.hid (fun w (h : ZRow w a2 n2 m2 d) (h2 : ZRow w a3 n3 m3 p) => turn_bad2 n3 k hkn hn256 a2 a3 n2 m2 n3 m3 d p w h hrd h2 (fun h2 => hor h2.2))
    rw [isB_no hor] at HIS
    clear hor hrd
    go_wp2_with fail
    refine (HU.out _ H2.out H3.out).mono ?_
    rintro e wN ⟨rfl, hn⟩
    replace H2 := Lib.hid (H2.out.stay hn)
    replace H3 := Lib.hid (H3.out.stay hn)
    replace HN := Lib.hid (HN.out.trans hn)
    clear hn
    go_wp2_with fail
    refine (HCR.out _).mono ?_
    rintro e w' ⟨rfl, hw⟩
    replace hw := hw.symm
    subst hw
    go_wp2_with fail
    refine (HR2.out _ H2.out).mono ?_
    rintro e w' ⟨rfl, hw⟩
    replace hw := hw.symm
    subst hw
    go_wp2_with fail
    refine (HIS.out _ H3.out).mono ?_
    rintro e w' ⟨rfl, hw⟩
    replace hw := hw.symm
    subst hw
    go_wp2
    go_ret
    exact ⟨rfl, HN.out⟩
  have HU := Lib.hid (fun w (h : ZRow w a2 n2 m2 d) (h2 : ZRow w a3 n3 m3 p) => turn_q n3 k hkn hn256 a2 a3 n2 m2 m3 d p w h hrd h2 hor)
  rw [isB_iff.2 hor] at HIS
  obtain ⟨K, hK⟩ : ∃ K, n3 - k = K := ⟨_, rfl⟩
  have hod := odI_or hkn hrd
  have hqo := th_or hor hod (by rw [odI_len, HL3.out])
  have hqn : (thI p (odI n3 k d)).length = n3 := by rw [thI_len, HL3.out]
  have hcr := tu_rd hqo hqn hkn
  have hbk := bkI_or hor
  have hbn : (bkI p).length = n3 := by rw [bkI_len, HL3.out]
  have hback := tu_back (r := bkI p) hkn hor HL3.out hbk hbn (fun x hx => bk_inv hor (by rw [HL3.out]; exact hx)) hrd
  have hset := tu_set hqo hqn hkn
  have hmv : ∀ x, x < k → fnI (thI p (odI n3 k d)) x = fnI p (oS k (fnI d) (n3 - k) x) := fun x hx => by
    rw [th_fn HL3.out (by omega)]
    unfold odI
    rw [fnI_li _ (by omega)]
  have hdF := rdI_F hrd
  have hsn := sl_ne hkn hcr
  have htn := or_take hqo hqn hkn
  have hqF := fnI_or hqo
  rw [hqn] at hqF
  obtain ⟨q, hqq⟩ : ∃ q, thI p (odI n3 k d) = q := ⟨_, rfl⟩
  rw [hqq] at HU hcr hback hset hmv hsn htn hqF
  have HRC := Lib.hid (fun w a c (h : ZRow w a K c (tuI n3 k q)) => right_42 n3 k hkn (by omega) a K c _ w h)
  rw [rdB_iff.2 hcr] at HRC
  have HSD := Lib.hid (fun w (h : ZRow w a2 n2 m2 d) => slotsr_42 n3 k hkn hn256 a2 n2 m2 d w h hrd)
  have HSC := Lib.hid (fun w a c (h : ZRow w a K c (tuI n3 k q)) => slotsr_42 n3 k hkn hn256 a K c _ w h hcr)
  have HTB := Lib.hid (fun w a c b cb (h : ZRow w a K c (tuI n3 k q)) (h2 : ZRow w b n3 cb (bkI p)) => turn_q n3 k hkn hn256 a b K c cb _ _ w h hcr h2 hbk)
  rw [hback] at HTB
  rw [hK] at HU HTB
  have HS1 := Lib.hid (fun w a c (h : ZRow w a k c (slI n3 k (tuI n3 k q))) => setr_41 a k c _ w h hsn (by omega))
  have HS2 := Lib.hid (fun w a c (h : ZRow w a k c (liI (fnI q) k)) => setr_41 a k c _ w h htn (by omega))
  rw [hset] at HS1
  have HRW := Lib.hid (fun w => row_ref40 n3 w (by omega))
  have HMV : Hid (∀ x, x < k → ∃ y : Nat, (slI n3 k d).getD x 0 = (y : Int) ∧ y < n3 ∧ p.getD y 0 = ((fnI q x : Nat) : Int)) := Lib.hid (fun x hx => by
    have hy := oS_lt hdF (n3 - k) (Nat.le_refl _) n3 (by omega) x (by omega)
    refine ⟨oS k (fnI d) (n3 - k) x, ?_, hy, ?_⟩
    · unfold slI; exact liI_get _ hx
    · rw [hmv x hx]
      have h9 := (hor.1 _ (by rw [HL3.out]; exact hy)).1
      show p.getD (oS k (fnI d) (n3 - k) x) 0 = (((p.getD (oS k (fnI d) (n3 - k) x) 0).toNat : Nat) : Int)
      omega)
  have HPO : Hid (∀ j, j < n3 → ∃ P : Nat, p.getD j 0 = (P : Int) ∧ P < n3) := Lib.hid (fun j hj => by
    have h9 := hor.1 j (by rw [HL3.out]; exact hj)
    rw [HL3.out] at h9
    exact ⟨(p.getD j 0).toNat, by omega, by omega⟩)
  have HQL : Hid (∀ x, x < k → fnI q x < n3) := Lib.hid (fun x hx => hqF.1 x (by omega))
  have HBKE : Hid (liI (uvF p n3) n3 = bkI p) := Lib.hid (by have := uv_bk hor; rwa [HL3.out] at this)
  have HBIN : Hid (∀ z ∈ bkI p, In64 z) := Lib.hid (by
    unfold bkI
    exact in64_li _ (fun x hx => by have h8 := ls_le p x p.length; have h9 := HL3.out; omega))
  clear hrd hor hod hqo hqn hcr hbk hbn hback hset hmv hdF hsn htn hqF hqq hK
  go_wp2_with fail
  refine (HU.out _ H2.out H3.out).mono ?_
  rintro e wN ⟨a5, c5, rfl, hz5, hn⟩
  replace H2 := Lib.hid (H2.out.stay hn)
  replace H3 := Lib.hid (H3.out.stay hn)
  replace HN := Lib.hid (HN.out.trans hn)
  have HQ5 := Lib.hid hz5
  clear hz5
  clear hn
  go_wp2_with fail
  refine (HCR.out _).mono ?_
  rintro e w' ⟨rfl, hw⟩
  replace hw := hw.symm
  subst hw
  go_wp2_with fail
  refine (HR2.out _ H2.out).mono ?_
  rintro e w' ⟨rfl, hw⟩
  replace hw := hw.symm
  subst hw
  go_wp2_with fail
  refine (HIS.out _ H3.out).mono ?_
  rintro e w' ⟨rfl, hw⟩
  replace hw := hw.symm
  subst hw
  go_wp2_with fail
  refine (HRC.out _ _ _ HQ5.out).mono ?_
  rintro e w' ⟨rfl, hw⟩
  replace hw := hw.symm
  subst hw
  go_wp2_with fail
  refine (HSD.out _ H2.out).mono ?_
  rintro e wN ⟨a6, c6, rfl, hz6, hn⟩
  replace H2 := Lib.hid (H2.out.stay hn)
  replace H3 := Lib.hid (H3.out.stay hn)
  replace HQ5 := Lib.hid (HQ5.out.stay hn)
  replace HN := Lib.hid (HN.out.trans hn)
  have HQ6 := Lib.hid hz6
  clear hz6
  clear hn
  have HSZ : Hid (W.heap.size ≤ wN.heap.size) := Lib.hid HN.out.size
  obtain ⟨wS, hwS⟩ : ∃ z, z = wN := ⟨_, rfl⟩
  rw [← hwS] at H2 H3 HQ5 HQ6 HN HSZ ⊢
  clear hwS
  go_wp2_with fail
  go_loopw [12, 83] (fun v iv wr => ∃ j : Nat, j ≤ k ∧ iv = .int .i64 (j : Int) ∧ wr.ownsRow wS.heap.size 3 1 v j ((liI (fnI q) j).map fun x => .int .i64 x) ∧ New wS wr) (fun _ iv _ => k - (intOf iv).toNat)
  case atStart => exact ⟨0, Nat.zero_le _, rfl, World.ownsRow_nil _ _ _ 1, New.refl _⟩
  case round =>
    obtain ⟨j, hj, rfl, hown, hnew⟩ := hrel
    obtain ⟨wq, hwq⟩ : ∃ z, z = wr := ⟨_, rfl⟩
    rw [← hwq] at hown hnew ⊢
    clear hwq
    by_cases hlt : (j : Int) < (k : Int)
    · have hj0 : (0 : Int) ≤ (j : Int) := by omega
      obtain ⟨y, hy1, hy2, hy3⟩ := HMV.out j (by omega)
      obtain ⟨b6, o6, rfl, hc6⟩ := (HQ6.out.stay hnew).addr (by omega)
      have c6 := hc6 j (by omega)
      rw [hy1] at c6
      obtain ⟨b3, o3, rfl, hc3⟩ := (H3.out.stay hnew).addr (by omega)
      have c3 := hc3 y hy2
      rw [hy3] at c3
      have hy0 : (0 : Int) ≤ (y : Int) := by omega
      have hyn : (y : Int) < (n3 : Int) := by omega
      have HLS := Lib.hid (liI_succ (fnI q) j)
      obtain ⟨x, hx⟩ : ∃ x, fnI q j = x := ⟨_, rfl⟩
      rw [hx] at c3 HLS
      have hj256 : j ≤ 256 := by omega
      clear hc6 hc3 hy1 hy3 hx hy2
      go_wp2_with (at_builtin; refine wpList_append_own _ rfl _ _ 22 rfl wS.heap.size 3 i0 (.int .i64 0) 1 8 Try.underlying22 hi hz0 hz1 hz2 rfl (by decide) _ j _ rfl (hown.alloc _) ⟨wq.heap.size, 0, none⟩ 1 1 [.int .i64 (x : Int)] rfl rfl ?c1 ?c2 ?c3 ?c4 ?c5 ?_)
      try (case c1 => exact one_cell wq _ _)
      try (case c2 => first | rfl | (intro u hu; simp at hu; subst hu; rfl))
      try (case c3 => first | (unfold maxLen; omega) | omega)
      try (case c4 => omega)
      try (case c5 => first | (simp; have := hnew.le; omega) | (have := hnew.le; omega))
      intro v' w9 how hgr _
      have HO2 : Hid (w9.ownsRow wS.heap.size 3 1 v' (j + 1) ((liI (fnI q) (j + 1)).map fun x => .int .i64 x)) := Lib.hid (by
        rw [HLS.out, List.map_append]; exact how)
      have HN1 := Lib.hid ((hnew.alloc _).grown' hgr (own_base hown))
      clear how hgr hown hnew
      go_wp2
      exact ⟨⟨j + 1, by omega, by go_num, HO2.out, HN1.out⟩, by simp [intOf]; omega⟩
    · obtain rfl : j = k := by omega
      obtain ⟨a8, c8, rfl, hz8⟩ := ZRow.of_owns hown (by omega) (in64_li _ (fun x hx => by have := HQL.out x hx; omega))
      have HQ8 := Lib.hid hz8
      replace H2 := Lib.hid (H2.out.stay hnew)
      replace H3 := Lib.hid (H3.out.stay hnew)
      replace HQ5 := Lib.hid (HQ5.out.stay hnew)
      replace HN := Lib.hid (HN.out.trans hnew)
      clear hown hz8 hnew HQ6 HMV HQL
      go_wp2_with fail
      refine (HRW.out _).mono ?_
      rintro e wR ⟨v, rfl, how, hnR⟩
      obtain ⟨pr, cr, rfl⟩ := own_form how
      have HO := Lib.hid how
      have HNR := Lib.hid hnR
      clear how hnR HRW
      go_wp2_with fail
      go_loopw [99] (fun iv wr => ∃ i : Nat, i ≤ n3 ∧ iv = .int .i64 (i : Int) ∧ wr.ownsRow wq.heap.size 3 1 (.slice pr (n3 : Nat) cr) n3 ((liI (uvF p i) n3).map fun x => .int .i64 x) ∧ New wq wr) (fun iv _ => n3 - (intOf iv).toNat)
      case atStart => exact ⟨0, Nat.zero_le _, rfl, HO.out, HNR.out⟩
      case round =>
        clear HO HNR
        obtain ⟨i, hi9, rfl, hown, hnew⟩ := hrel
        by_cases hlt2 : (i : Int) < (n3 : Int)
        · have hi0 : (0 : Int) ≤ (i : Int) := by omega
          obtain ⟨P, hP1, hP2⟩ := HPO.out i (by omega)
          obtain ⟨b3, o3, rfl, hc3⟩ := (H3.out.stay hnew).addr (by omega)
          have c3 := hc3 i (by omega)
          rw [hP1] at c3
          have HS := Lib.hid (uv_set p hP2 hP1)
          obtain ⟨g, cap, he, hg, hgs, hgc, hgc2⟩ := ow_shape hown (by omega)
          cases he
          obtain ⟨d1, e1⟩ := ow_int hown (k := P) hP2
          have hP0 : (0 : Int) ≤ (P : Int) := by omega
          have hPn : (P : Int) < (n3 : Int) := by omega
          have HO2 : Hid ((wr.setCell ⟨g, P, none⟩ (.int .i64 (i : Nat))).ownsRow wq.heap.size 3 1 (.slice (some ⟨g, 0, none⟩) (n3 : Nat) cr) n3 ((liI (uvF p (i + 1)) n3).map fun x => .int .i64 x)) := Lib.hid (by
            rw [← HS.out, List.map_set]; exact ow_set hown P _)
          have HN2 : Hid (New wq (wr.setCell ⟨g, P, none⟩ (.int .i64 (i : Nat)))) := Lib.hid (hnew.setCell (p := ⟨g, P, none⟩) hg _)
          clear hown hnew hc3 hgs
          go_wp2
          exact ⟨⟨i + 1, by omega, by go_num, HO2.out, HN2.out⟩, by simp [intOf]; omega⟩
        · obtain rfl : i = n3 := by omega
          rw [HBKE.out] at hown
          obtain ⟨a9, c9, he, hz9⟩ := ZRow.of_owns hown (by omega) HBIN.out
          cases he
          have HQ9 := Lib.hid hz9
          replace H2 := Lib.hid (H2.out.stay hnew)
          replace HQ5 := Lib.hid (HQ5.out.stay hnew)
          replace HQ8 := Lib.hid (HQ8.out.stay hnew)
          replace HN := Lib.hid (HN.out.trans hnew)
          clear hown hz9 hnew HBKE HBIN HPO
          go_wp2_with fail
          refine (HTB.out _ _ _ _ _ HQ5.out HQ9.out).mono ?_
          rintro e wN ⟨b5, e5, rfl, hz5, hn⟩
          replace H2 := Lib.hid (H2.out.stay hn)
          replace HQ5 := Lib.hid (HQ5.out.stay hn)
          replace HQ8 := Lib.hid (HQ8.out.stay hn)
          replace HN := Lib.hid (HN.out.trans hn)
          have HP5 := Lib.hid hz5
          clear hz5
          clear hn
          go_wp2_with fail
          refine (HSC.out _ _ _ HQ5.out).mono ?_
          rintro e wN ⟨b6, e6, rfl, hz6, hn⟩
          replace H2 := Lib.hid (H2.out.stay hn)
          replace HQ8 := Lib.hid (HQ8.out.stay hn)
          replace HP5 := Lib.hid (HP5.out.stay hn)
          replace HN := Lib.hid (HN.out.trans hn)
          have HP6 := Lib.hid hz6
          clear hz6
          clear hn
          go_wp2_with fail
          refine (HS1.out _ _ _ HP6.out).mono ?_
          rintro e wN ⟨b7, e7, rfl, hz7, hn⟩
          replace H2 := Lib.hid (H2.out.stay hn)
          replace HQ8 := Lib.hid (HQ8.out.stay hn)
          replace HP5 := Lib.hid (HP5.out.stay hn)
          replace HN := Lib.hid (HN.out.trans hn)
          have HP7 := Lib.hid hz7
          clear hz7
          clear hn
          go_wp2_with fail
          refine (HS2.out _ _ _ HQ8.out).mono ?_
          rintro e wN ⟨b8, e8, rfl, hz8, hn⟩
          replace H2 := Lib.hid (H2.out.stay hn)
          replace HP5 := Lib.hid (HP5.out.stay hn)
          replace HP7 := Lib.hid (HP7.out.stay hn)
          replace HN := Lib.hid (HN.out.trans hn)
          have HP8 := Lib.hid hz8
          clear hz8
          clear hn
          go_wp2_with fail
          refine (ints_ref _ _ _ _ _ _ _ _ _ HP7.out HP8.out).mono ?_
          rintro e wN ⟨rfl, hn⟩
          replace H2 := Lib.hid (H2.out.stay hn)
          replace HP5 := Lib.hid (HP5.out.stay hn)
          replace HN := Lib.hid (HN.out.trans hn)
          clear hn
          rw [beq_self_eq_true]
          have hn2 : n2 = K := by have h1 := HP5.out.len_eq; have h2 := H2.out.len_eq; omega
          subst hn2
          go_wp2_with fail
          refine (ints_ref _ _ _ _ _ _ _ _ _ HP5.out H2.out).mono ?_
          rintro e wN ⟨rfl, hn⟩
          replace HN := Lib.hid (HN.out.trans hn)
          clear hn
          rw [beq_self_eq_true]
          go_wp2
          go_ret
          exact ⟨rfl, HN.out⟩
end Go.Proofs.Ytajjpllhihgkdaa
