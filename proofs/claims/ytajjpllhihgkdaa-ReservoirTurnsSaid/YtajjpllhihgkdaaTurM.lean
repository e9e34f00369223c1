/- Plain lemmas: decisions turned by an order. -/
import Derived.Test.YtajjpllhihgkdaaResG
import Derived.Test.YtajjpllhihgkdaaSetA
import Derived.Test.YtajjpllhihgkdaaShfF
namespace Go.Bv
open Go Go.RowKit
set_option linter.unusedVariables false
/-- decisions behind another first row -/
theorem fr_oS {F : Nat → Nat} {k m : Nat} {t : Nat → Nat} (hF : onF F k (k + m)) (ht : rtD k m t) : ∀ j, j ≤ m → ∀ x, x < k + m → frS F k t j x = oS k (fun i => F (t i)) j (F x)
  | 0, _, x, _ => rfl
  | j + 1, hj, x, hx => by
    have ih := fr_oS hF ht j (by omega)
    have h1 := ht j (by omega)
    have hinj : ∀ x y, x < k + m → y < k + m → F x = F y → x = y := fun x y hx hy he => by
      by_cases e1 : x < k
      · by_cases e2 : y < k
        · exact hF.2.1 x y e1 e2 he
        · have h3 := hF.1 x e1; have h4 := hF.2.2 y (by omega) hy; omega
      · by_cases e2 : y < k
        · have h3 := hF.1 y e2; have h4 := hF.2.2 x (by omega) hx; omega
        · have h3 := hF.2.2 x (by omega) hx; have h4 := hF.2.2 y (by omega) hy; omega
    have hi := hF.2.2 (k + j) (by omega) (by omega)
    show sw (frS F k t j) (k + j) (t j) x = sw (oS k (fun i => F (t i)) j) (k + j) (F (t j)) (F x)
    unfold sw
    by_cases e1 : x = t j
    · rw [if_pos e1, if_pos (by rw [e1]), ih (k + j) (by omega), hi]
    · rw [if_neg e1, if_neg (fun e => e1 (hinj x (t j) hx (by omega) e))]
      by_cases e2 : x = k + j
      · rw [if_pos e2, if_pos (by rw [e2, hi]), ih (t j) (by omega)]
      · rw [if_neg e2, if_neg (fun e => e2 (hinj x (k + j) hx (by omega) (by rw [e, hi]))), ih x hx]
theorem frS_inj {f : Nat → Nat} {k m n : Nat} {d : Nat → Nat} (hf : ∀ x y, x < n → y < n → f x = f y → x = y) (h : rtD k m d) : ∀ j, j ≤ m → k + j ≤ n → ∀ x y, x < n → y < n → frS f k d j x = frS f k d j y → x = y
  | 0, _, _, x, y, hx, hy, he => hf x y hx hy he
  | j + 1, hj, hn, x, y, hx, hy, he => sw_inj (i := k + j) (j := d j) (by omega) (by have := h j (by omega); omega) (frS_inj hf h j (by omega) (by omega)) x y hx hy he
/-- undone, the first row and the decisions come back -/
theorem un_fr {f : Nat → Nat} {n k : Nat} {d : Nat → Nat} (hk : k ≤ n) (hhi : ∀ x, k ≤ x → x < n → f x = x) (hinj : ∀ x y, x < n → y < n → f x = f y → x = y) (h : rtD k (n - k) d) : ∀ t, t ≤ n - k → unF (frS f k d (n - k)) n t = frS f k d (n - k - t)
  | 0, _ => rfl
  | t + 1, ht => by
    show sw (unF (frS f k d (n - k)) n t) (n - 1 - t) (ixF (unF (frS f k d (n - k)) n t) (n - 1 - t) (n - t)) = _
    rw [un_fr hk hhi hinj h t (by omega)]
    obtain ⟨j, hj⟩ : ∃ j, n - k - (t + 1) = j := ⟨_, rfl⟩
    rw [show n - k - t = j + 1 by omega, hj, show n - 1 - t = k + j by omega, show n - t = k + j + 1 by omega]
    have hd := h j (by omega)
    have hx : ixF (frS f k d (j + 1)) (k + j) (k + j + 1) = d j := by
      refine ixF_one (by omega) ?_ (fun x y a b => frS_inj hinj h (j + 1) (by omega) (by omega) x y (by omega) (by omega))
      show sw (frS f k d j) (k + j) (d j) (d j) = _
      unfold sw
      rw [if_pos rfl]
      exact frS_high hhi h j (by omega) _ (Nat.le_refl _) (by omega)
    rw [hx]
    exact sw_sw _ _ _
theorem unD_fr {f : Nat → Nat} {n k : Nat} {d : Nat → Nat} (hk : k ≤ n) (hhi : ∀ x, k ≤ x → x < n → f x = x) (hinj : ∀ x y, x < n → y < n → f x = f y → x = y) (h : rtD k (n - k) d) {i : Nat} (hi : i < n - k) : unD (frS f k d (n - k)) n k i = d i := by
  unfold unD
  rw [un_fr hk hhi hinj h _ (by omega), show n - k - (n - 1 - (k + i)) = i + 1 by omega]
  have hd := h i hi
  refine ixF_one (by omega) ?_ (fun x y a b => frS_inj hinj h (i + 1) (by omega) (by omega) x y (by omega) (by omega))
  show sw (frS f k d i) (k + i) (d i) (d i) = _
  unfold sw
  rw [if_pos rfl]
  exact frS_high hhi h i (by omega) _ (Nat.le_refl _) (by omega)
theorem onF_inj {F : Nat → Nat} {k n : Nat} (hF : onF F k n) : ∀ x y, x < n → y < n → F x = F y → x = y := fun x y hx hy he => by
  by_cases e1 : x < k
  · by_cases e2 : y < k
    · exact hF.2.1 x y e1 e2 he
    · have h3 := hF.1 x e1; have h4 := hF.2.2 y (by omega) hy; omega
  · by_cases e2 : y < k
    · have h3 := hF.1 y e2; have h4 := hF.2.2 x (by omega) hx; omega
    · have h3 := hF.2.2 x (by omega) hx; have h4 := hF.2.2 y (by omega) hy; omega
/-- the other way round -/
def ivF (F : Nat → Nat) (k : Nat) (x : Nat) : Nat := if x < k then ixF F x k else x
theorem ivF_r {F : Nat → Nat} {k n : Nat} (hF : onF F k n) (hk : k ≤ n) {x : Nat} (hx : x < n) : F (ivF F k x) = x := by
  unfold ivF
  by_cases e : x < k
  · rw [if_pos e]
    obtain ⟨j, hj, he⟩ := onF_has hF e
    exact ixF_at (ixF_some hj he)
  · rw [if_neg e]; exact hF.2.2 x (by omega) hx
theorem ivF_lt {F : Nat → Nat} {k n : Nat} (hF : onF F k n) {x : Nat} (hx : x < k) : ivF F k x < k := by
  unfold ivF
  rw [if_pos hx]
  obtain ⟨j, hj, he⟩ := onF_has hF hx
  exact ixF_some hj he
theorem ivF_l {F : Nat → Nat} {k n : Nat} (hF : onF F k n) (hk : k ≤ n) {x : Nat} (hx : x < n) : ivF F k (F x) = x := by
  have h1 : F x < n := by
    by_cases e : x < k
    · have := hF.1 x e; omega
    · rw [hF.2.2 x (by omega) hx]; exact hx
  have h2 : ivF F k (F x) < n := by
    by_cases e : F x < k
    · have := ivF_lt hF e; omega
    · unfold ivF; rw [if_neg e]; exact h1
  exact onF_inj hF _ _ h2 hx (ivF_r hF hk h1)
theorem ivF_on {F : Nat → Nat} {k n : Nat} (hF : onF F k n) (hk : k ≤ n) : onF (ivF F k) k n :=
  ⟨fun x hx => ivF_lt hF hx, fun x y hx hy he => by
    have h1 := ivF_r hF hk (x := x) (by omega)
    have h2 := ivF_r hF hk (x := y) (by omega)
    rw [← h1, ← h2, he], fun x hx hn => by unfold ivF; rw [if_neg (by omega)]⟩
end Go.Bv
namespace Go.Proofs.Ytajjpllhihgkdaa
open Go Go.RowKit Go.Bv
set_option linter.unusedVariables false
theorem msI_eq {l m : List Int} (hl : ∀ j k, j < k → k < l.length → l.getD j 0 ≠ l.getD k 0) (hm : ∀ j k, j < k → k < m.length → m.getD j 0 ≠ m.getD k 0) (h : ∀ x, x ∈ l ↔ x ∈ m) : msI l = msI m := by
  have hp : l.Perm m := (List.perm_ext_iff_of_nodup (nodup_iff.2 hl) (nodup_iff.2 hm)).2 h
  have hq : (msI l).Perm (msI m) := (List.mergeSort_perm l _).trans (hp.trans (List.mergeSort_perm m _).symm)
  have h1 := List.pairwise_mergeSort (le := fun x y : Int => decide (x ≤ y)) (by intro a b c h1 h2; simp at *; omega) (by intro a b; simp; omega) l
  have h2 := List.pairwise_mergeSort (le := fun x y : Int => decide (x ≤ y)) (by intro a b c h1 h2; simp at *; omega) (by intro a b; simp; omega) m
  exact List.Perm.eq_of_pairwise (le := fun a b => decide (a ≤ b) = true) (fun a b _ _ h3 h4 => by simp at h3 h4; omega) h1 h2 hq
/-- decisions turned: of a row that an order has moved -/
def tuI (n k : Nat) (q : List Int) : List Int := liI (fun i => if unD (fnI q) n k i < k then unF (fnI q) n (n - k) (unD (fnI q) n k i) else unD (fnI q) n k i) (n - k)
theorem tuI_len (n k : Nat) (q : List Int) : (tuI n k q).length = n - k := liI_len _ _
theorem tu_F {n k : Nat} {q : List Int} (hq : isO q) (hn : q.length = n) (hk : k ≤ n) : onF (unF (fnI q) n (n - k)) k n := by
  have h := unF_on (n := n) (by have := fnI_or hq; rwa [hn] at this) (n - k) (by omega)
  rwa [show n - (n - k) = k by omega] at h
theorem tu_at {n k : Nat} {q : List Int} (hq : isO q) (hn : q.length = n) (hk : k ≤ n) {i : Nat} (hi : i < n - k) : fnI (tuI n k q) i = unF (fnI q) n (n - k) (unD (fnI q) n k i) := by
  have hF := tu_F hq hn hk
  have ht := unD_rt (k := k) (n := n) (by have := fnI_or hq; rwa [hn] at this) i hi
  unfold tuI
  rw [fnI_li _ hi]
  by_cases e : unD (fnI q) n k i < k
  · rw [if_pos e]
  · rw [if_neg e]; exact (hF.2.2 _ (by omega) (by omega)).symm
theorem tu_rd {n k : Nat} {q : List Int} (hq : isO q) (hn : q.length = n) (hk : k ≤ n) : rdI n k (tuI n k q) := by
  refine ⟨tuI_len _ _ _, fun i hi => ?_⟩
  have hF := tu_F hq hn hk
  have ht := unD_rt (k := k) (n := n) (by have := fnI_or hq; rwa [hn] at this) i hi
  unfold tuI
  rw [liI_get _ hi]
  by_cases e : unD (fnI q) n k i < k
  · rw [if_pos e]; have := hF.1 _ e; omega
  · rw [if_neg e]; omega
theorem oS_congr (k : Nat) {d e : Nat → Nat} (m : Nat) (h : ∀ i, i < m → d i = e i) : oS k d m = oS k e m := by
  rw [oS_fr, oS_fr]; exact frS_congr _ k m h
/-- the row that was moved, by the turned decisions -/
theorem tu_row {n k : Nat} {q : List Int} (hq : isO q) (hn : q.length = n) (hk : k ≤ n) {x : Nat} (hx : x < n) : fnI q x = oS k (fnI (tuI n k q)) (n - k) (unF (fnI q) n (n - k) x) := by
  have hF := tu_F hq hn hk
  have ho : orF (fnI q) n := by have := fnI_or hq; rwa [hn] at this
  have ht := unD_rt (k := k) ho
  have h1 := fr_un (p := fnI q) hk (n - k) (Nat.le_refl _)
  rw [Nat.sub_self] at h1
  have h2 := fr_oS (F := unF (fnI q) n (n - k)) (k := k) (m := n - k) (t := unD (fnI q) n k) (by rw [show k + (n - k) = n by omega]; exact hF) ht (n - k) (Nat.le_refl _) x (by omega)
  rw [h1] at h2
  rw [oS_congr k (n - k) (e := fun i => unF (fnI q) n (n - k) (unD (fnI q) n k i)) (fun i hi => tu_at hq hn hk hi)]
  exact h2
theorem th_fn {p q : List Int} {n : Nat} (hp : p.length = n) {x : Nat} (hx : x < n) : fnI (thI p q) x = fnI p (fnI q x) := by
  unfold thI
  rw [hp]
  exact fnI_li _ hx
theorem th_or {p q : List Int} (hp : isO p) (hq : isO q) (hl : p.length = q.length) : isO (thI p q) := by
  have h1 := fnI_or hp
  have h2 := fnI_or hq
  rw [← hl] at h2
  unfold isO thI
  rw [liI_len]
  refine ⟨fun j hj => ?_, fun j k hj hk he => ?_⟩
  · rw [liI_get _ hj]; have := h1.1 _ (h2.1 j hj); omega
  · rw [liI_get _ (by omega), liI_get _ hk] at he
    have := h2.2 j k (by omega) hk (h1.2 _ _ (h2.1 j (by omega)) (h2.1 k hk) (by omega))
    omega
/-- of the first places -/
theorem or_take {q : List Int} {n k : Nat} (hq : isO q) (hn : q.length = n) (hk : k ≤ n) : ∀ a b, a < b → b < (liI (fnI q) k).length → (liI (fnI q) k).getD a 0 ≠ (liI (fnI q) k).getD b 0 := by
  intro a b hab hb he
  rw [liI_len] at hb
  rw [liI_get _ (by omega), liI_get _ hb] at he
  have h := (fnI_or hq).2 a b (by omega) (by omega) (by omega)
  omega
theorem sl_ne {n k : Nat} {d : List Int} (hk : k ≤ n) (h : rdI n k d) : ∀ a b, a < b → b < (slI n k d).length → (slI n k d).getD a 0 ≠ (slI n k d).getD b 0 := by
  intro a b hab hb he
  rw [slI_len] at hb
  unfold slI at he
  rw [liI_get _ (by omega), liI_get _ hb] at he
  have := oS_inj (rdI_F h) (n - k) (Nat.le_refl _) n (by omega) a b (by omega) (by omega) (by omega)
  omega
/-- the slots, as a set, are those that the order brings there -/
theorem tu_set {n k : Nat} {q : List Int} (hq : isO q) (hn : q.length = n) (hk : k ≤ n) : msI (slI n k (tuI n k q)) = msI (liI (fnI q) k) := by
  have hF := tu_F hq hn hk
  refine msI_eq (sl_ne hk (tu_rd hq hn hk)) (or_take hq hn hk) (fun x => ?_)
  rw [mem_at, mem_at, slI_len, liI_len]
  constructor
  · rintro ⟨y, hy, he⟩
    refine ⟨ivF (unF (fnI q) n (n - k)) k y, ivF_lt hF hy, ?_⟩
    have hl := ivF_lt hF hy
    rw [liI_get _ hl, tu_row hq hn hk (show ivF _ k y < n by omega), ivF_r hF hk (by omega)]
    unfold slI at he
    rw [liI_get _ hy] at he
    exact he
  · rintro ⟨y, hy, he⟩
    refine ⟨unF (fnI q) n (n - k) y, hF.1 y hy, ?_⟩
    unfold slI
    rw [liI_get _ (hF.1 y hy), ← tu_row hq hn hk (by omega)]
    rw [liI_get _ hy] at he
    exact he
/-- turned back -/
theorem tu_back {n k : Nat} {p r d : List Int} (hk : k ≤ n) (hp : isO p) (hpn : p.length = n) (hr : isO r) (hrn : r.length = n) (hinv : ∀ x, x < n → fnI r (fnI p x) = x) (hd : rdI n k d) :
    tuI n k (thI r (odI n k (tuI n k (thI p (odI n k d))))) = d := by
  have ho := odI_or hk hd
  have hq := th_or hp ho (by rw [odI_len, hpn])
  have hqn : (thI p (odI n k d)).length = n := by rw [thI_len, hpn]
  obtain ⟨q, hqq⟩ : ∃ q, thI p (odI n k d) = q := ⟨_, rfl⟩
  have hfq : ∀ x, x < n → fnI q x = fnI p (oS k (fnI d) (n - k) x) := fun x hx => by
    rw [← hqq, th_fn hpn hx]
    unfold odI
    rw [fnI_li _ hx]
  rw [hqq] at hq hqn ⊢
  have hF := tu_F hq hqn hk
  have hc := tu_rd hq hqn hk
  have hrow := fun x (hx : x < n) => tu_row hq hqn hk hx
  obtain ⟨F, hFF⟩ : ∃ F, unF (fnI q) n (n - k) = F := ⟨_, rfl⟩
  rw [hFF] at hF hrow
  have hG := ivF_on hF hk
  have ho2 := odI_or hk hc
  have hq2 := th_or hr ho2 (by rw [odI_len, hrn])
  have hq2n : (thI r (odI n k (tuI n k q))).length = n := by rw [thI_len, hrn]
  have hdF := rdI_F hd
  have hGlt : ∀ x, x < n → ivF F k x < n := fun x hx => by
    by_cases e : x < k
    · have := ivF_lt hF e; omega
    · unfold ivF; rw [if_neg e]; exact hx
  have hf2 : ∀ y, y < n → fnI (thI r (odI n k (tuI n k q))) y = oS k (fnI d) (n - k) (ivF F k y) := fun y hy => by
    rw [th_fn hrn hy]
    unfold odI
    rw [fnI_li _ hy]
    have h1 := hrow (ivF F k y) (hGlt y hy)
    rw [ivF_r hF hk hy] at h1
    rw [← h1, hfq _ (hGlt y hy)]
    exact hinv _ (oS_lt hdF (n - k) (Nat.le_refl _) n (by omega) _ (hGlt y hy))
  have ht : rtD k (n - k) (fun i => F (fnI d i)) := fun i hi => by
    have h1 := hdF i hi
    show F (fnI d i) ≤ k + i
    by_cases e : fnI d i < k
    · have := hF.1 _ e; omega
    · rw [hF.2.2 _ (by omega) (by omega)]; exact h1
  have hfr : ∀ x, x < n → fnI (thI r (odI n k (tuI n k q))) x = frS (ivF F k) k (fun i => F (fnI d i)) (n - k) x := fun x hx => by
    have h1 := fr_oS (F := ivF F k) (k := k) (m := n - k) (t := fun i => F (fnI d i)) (by rw [show k + (n - k) = n by omega]; exact hG) ht (n - k) (Nat.le_refl _) x (by omega)
    rw [h1, hf2 x hx, oS_congr k (n - k) (d := fun i => ivF F k (F (fnI d i))) (e := fnI d) (fun i hi => ivF_l hF hk (by have := hdF i hi; omega))]
  have hor2 : orF (fnI (thI r (odI n k (tuI n k q)))) n := by have := fnI_or hq2; rwa [hq2n] at this
  have hinjG := onF_inj hG
  have hdl := li_fn (p := d) (fun j hj => (hd.2 j (by rw [← hd.1]; exact hj)).1)
  rw [hd.1] at hdl
  obtain ⟨q2, hq22⟩ : ∃ q2, thI r (odI n k (tuI n k q)) = q2 := ⟨_, rfl⟩
  rw [hq22] at hfr hor2 ⊢
  unfold tuI
  refine (liI_ext fun i hi => ?_).trans hdl
  have hD : unD (fnI q2) n k i = F (fnI d i) := by
    rw [unD_congr hor2 hfr (by omega)]
    exact unD_fr hk hG.2.2 hinjG ht hi
  have hi1 := hdF i hi
  rw [hD]
  by_cases e : F (fnI d i) < k
  · rw [if_pos e, unF_congr hor2 hfr (n - k) (by omega) _ (by omega), un_fr hk hG.2.2 hinjG ht (n - k) (Nat.le_refl _), Nat.sub_self]
    exact ivF_l hF hk (by omega)
  · rw [if_neg e]
    by_cases e2 : fnI d i < k
    · exact absurd (hF.1 _ e2) e
    · exact hF.2.2 _ (by omega) (by omega)
end Go.Proofs.Ytajjpllhihgkdaa
