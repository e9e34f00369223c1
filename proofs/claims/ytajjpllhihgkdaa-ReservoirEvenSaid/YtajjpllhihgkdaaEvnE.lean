import Derived.Test.YtajjpllhihgkdaaEvnD
import Derived.Test.YtajjpllhihgkdaaEvnA
import Derived.Test.YtajjpllhihgkdaaSetA
/- shuffle.Then, shuffle.Back. -/
namespace Go.Proofs.Ytajjpllhihgkdaa
open Go Go.RowKit Go.Bv
set_option linter.unusedVariables false
/-- one order behind another one -/
def thI (p q : List Int) : List Int := liI (fun t => fnI p (fnI q t)) p.length
def thB (p q : List Int) : Bool := decide (p.length = q.length) && (isB p && isB q)
def thR (p q : List Int) : List Int := if thB p q then thI p q else []
theorem thI_len (p q : List Int) : (thI p q).length = p.length := liI_len _ _
/-- the last place among the first k where x stands -/
def lsF (p : List Int) (x : Nat) : Nat → Nat
  | 0 => 0
  | k + 1 => if p.getD k 0 = (x : Int) then k else lsF p x k
theorem ls_at {p : List Int} {x : Nat} : ∀ {k}, (∃ j, j < k ∧ p.getD j 0 = (x : Int)) → lsF p x k < k ∧ p.getD (lsF p x k) 0 = (x : Int)
  | 0, ⟨j, h, _⟩ => by omega
  | k + 1, ⟨j, h1, h2⟩ => by
    show (if p.getD k 0 = (x : Int) then k else lsF p x k) < k + 1 ∧ p.getD (if p.getD k 0 = (x : Int) then k else lsF p x k) 0 = (x : Int)
    by_cases e : p.getD k 0 = (x : Int)
    · rw [if_pos e]; exact ⟨by omega, e⟩
    · rw [if_neg e]
      have hjk : j ≠ k := fun h => e (h ▸ h2)
      have h3 := ls_at (k := k) ⟨j, by omega, h2⟩
      exact ⟨by omega, h3.2⟩
theorem ls_le (p : List Int) (x : Nat) : ∀ k, lsF p x k ≤ k
  | 0 => Nat.le_refl _
  | k + 1 => by
    have := ls_le p x k
    show (if p.getD k 0 = (x : Int) then k else lsF p x k) ≤ k + 1
    split <;> omega
theorem ls_or {p : List Int} (h : isO p) {x : Nat} (hx : x < p.length) : lsF p x p.length < p.length ∧ p.getD (lsF p x p.length) 0 = (x : Int) := ls_at (isO_on h hx)
theorem ls_set (p : List Int) {n k P : Nat} (hP : P < n) (he : p.getD k 0 = (P : Int)) : (liI (fun x => lsF p x k) n).set P (k : Int) = liI (fun x => lsF p x (k + 1)) n := by
  rw [liI_set _ k hP]
  apply liI_ext
  intro x _
  show _ = if p.getD k 0 = (x : Int) then k else lsF p x k
  by_cases e : x = P
  · subst e; rw [if_pos rfl, if_pos he]
  · rw [if_neg e, if_neg (by rw [he]; omega)]
/-- the order that undoes one -/
def bkI (p : List Int) : List Int := liI (fun x => lsF p x p.length) p.length
theorem bkI_len (p : List Int) : (bkI p).length = p.length := liI_len _ _
def bkR (p : List Int) : List Int := if isB p then bkI p else []
theorem bkI_or {p : List Int} (h : isO p) : isO (bkI p) := by
  refine ⟨fun j hj => ?_, fun j k hjk hk he => ?_⟩
  · rw [bkI_len] at hj ⊢
    unfold bkI
    rw [liI_get _ hj]
    have := (ls_or h hj).1
    omega
  · rw [bkI_len] at hk
    unfold bkI at he
    rw [liI_get _ hk, liI_get _ (by omega)] at he
    have h1 := (ls_or h (show j < p.length by omega)).2
    have h2 := (ls_or h hk).2
    have h3 : lsF p j p.length = lsF p k p.length := by omega
    rw [h3, h2] at h1
    omega
theorem th_bk {p : List Int} (h : isO p) : thI p (bkI p) = liI (fun x => x) p.length := by
  apply liI_ext
  intro x hx
  show fnI p (fnI (bkI p) x) = x
  unfold bkI
  rw [fnI_li _ hx]
  have := (ls_or h hx).2
  unfold fnI; omega
theorem thB_bk {p : List Int} (h : isO p) : thB p (bkI p) = true := by
  unfold thB
  rw [bkI_len, isB_iff.2 h, isB_iff.2 (bkI_or h)]; simp
/-- the first k replaced -/
def thP (p q : List Int) (n k : Nat) : List Int := liI (fun x => if x < k then fnI p (fnI q x) else fnI q x) n
theorem thP_set (p q : List Int) {n k : Nat} (h : k < n) : (thP p q n k).set k ((fnI p (fnI q k) : Nat) : Int) = thP p q n (k + 1) := by
  unfold thP
  rw [liI_set _ _ h]
  apply liI_ext
  intro x _
  by_cases e : x = k
  · subst e; rw [if_pos rfl, if_pos (by omega)]
  · rw [if_neg e]
    by_cases e2 : x < k
    · rw [if_pos e2, if_pos (by omega)]
    · rw [if_neg e2, if_neg (by omega)]
set_option maxRecDepth 100000 in
set_option maxHeartbeats 4000000 in
theorem then_40 (a b : Option Addr) (na ca nb cb : Nat) (p q : List Int) (w : World) (ha : ZRow w a na ca p) (hb : ZRow w b nb cb q) (hna : na ≤ 1000000) (hnb : nb ≤ 1000000) :
    Calls Try.prog 46 #[.slice a na ca, .slice b nb cb] w fun e w' => ∃ a' c', e = .returned (.slice a' ((thR p q).length : Nat) c') ∧ ZRow w' a' (thR p q).length c' (thR p q) ∧ New w w' := by
  have HLA := Lib.hid ha.len_eq
  have HLB := Lib.hid hb.len_eq
  have hma := ha.most
  have hmb := hb.most
  have HA := Lib.hid ha
  have HB := Lib.hid hb
  have HNO : Hid (thB p q = false → ∀ w', New w w' → ∃ a' c', Ending.returned (.slice none 0 0) = .returned (.slice a' ((thR p q).length : Nat) c') ∧ ZRow w' a' (thR p q).length c' (thR p q) ∧ New w w') := Lib.hid (fun h w' hn => by
    have e : thR p q = [] := by unfold thR; rw [h]; rfl
    rw [e]
    exact ⟨none, 0, rfl, nil_zrow w', hn⟩)
  clear ha hb
  by_cases hl : na = nb
  · subst hl
    have HIA := Lib.hid (is_40 a na ca p w HA.out hna)
    have HIB := Lib.hid (fun w' (h : ZRow w' b na cb q) => is_40 b na cb q w' h hna)
    rcases hp : isB p with _ | _
    · have HF : Hid (thB p q = false) := Lib.hid (by unfold thB; rw [hp]; simp)
      rw [hp] at HIA
      clear hp HIB
      go_enter Try.func46, Try.ntmps46
      go_wp2_with fail
      refine (HIA.out).mono ?_
      rintro e w9 ⟨rfl, hn⟩
      have HN := Lib.hid hn
      clear hn HIA
      go_wp2
      go_ret
      exact HNO.out HF.out _ HN.out
    · rw [hp] at HIA
      rcases hq : isB q with _ | _
      · have HF : Hid (thB p q = false) := Lib.hid (by unfold thB; rw [hq]; simp)
        rw [hq] at HIB
        clear hp hq
        go_enter Try.func46, Try.ntmps46
        go_wp2_with fail
        refine (HIA.out).mono ?_
        rintro e w9 ⟨rfl, hn⟩
        have HN := Lib.hid hn
        clear hn HIA
        go_wp2_with fail
        refine (HIB.out _ (HB.out.stay HN.out)).mono ?_
        rintro e w8 ⟨rfl, hn⟩
        replace HN := Lib.hid (HN.out.trans hn)
        clear hn HIB
        go_wp2
        go_ret
        exact HNO.out HF.out _ HN.out
      · have hT : thB p q = true := by unfold thB; rw [hp, hq, HLA.out, HLB.out]; simp
        have HR : Hid (thR p q = thP p q na na) := Lib.hid (by
          unfold thR thI thP
          rw [hT, if_pos rfl, HLA.out]
          exact liI_ext (fun x hx => by rw [if_pos hx]))
        have HOP := Lib.hid (isB_iff.1 hp)
        have HOQ := Lib.hid (isB_iff.1 hq)
        rw [hq] at HIB
        have HQ0 : Hid (q = thP p q na 0) := Lib.hid (by
          have h1 := li_fn (p := q) (fun j hj => (HOQ.out.1 j hj).1)
          rw [HLB.out] at h1
          refine h1.symm.trans ?_
          unfold thP
          exact liI_ext (fun x _ => by rw [if_neg (by omega)]))
        have HFQ := Lib.hid (fnI_or HOQ.out)
        have HFP := Lib.hid (fnI_or HOP.out)
        rw [HLB.out] at HFQ
        rw [HLA.out] at HFP
        have HIN : Hid (∀ z ∈ thP p q na na, In64 z) := Lib.hid (in64_li _ (fun x hx => by
          rw [if_pos hx]
          have := HFP.out.1 _ (HFQ.out.1 x hx); omega))
        clear hT hp hq
        rcases na with _ | m
        · go_enter Try.func46, Try.ntmps46
          go_wp2_with fail
          refine (HIA.out).mono ?_
          rintro e w9 ⟨rfl, hn⟩
          have HN := Lib.hid hn
          clear hn HIA
          go_wp2_with fail
          refine (HIB.out _ (HB.out.stay HN.out)).mono ?_
          rintro e w8 ⟨rfl, hn⟩
          replace HN := Lib.hid (HN.out.trans hn)
          clear hn HIB
          go_wp2_with fail
          refine (clone_z _ _ _ _ _ (HB.out.stay HN.out)).mono ?_
          rintro e w7 ⟨v, rfl, how, hn⟩
          replace HN := Lib.hid (HN.out.trans hn)
          obtain ⟨ar, cr, rfl, hz⟩ := ZRow.of_owns how (by omega) HB.out.wf
          have HRQ : Hid (thR p q = q) := Lib.hid (by
            rw [HR.out, List.eq_nil_of_length_eq_zero HLB.out]; rfl)
          rw [← HRQ.out] at hz
          have HZ := Lib.hid hz
          have HLR : Hid ((thR p q).length = 0) := Lib.hid hz.len_eq
          clear hz how hn
          go_wp2_with fail
          go_loop [27] (fun i => i = .int .i64 0) (fun _ => 0)
          case atStart => rfl
          case round =>
            subst hrel
            go_wp2
            go_ret
            rw [HLR.out]
            exact ⟨_, _, rfl, HZ.out, HN.out⟩
        · go_enter Try.func46, Try.ntmps46
          go_wp2_with fail
          refine (HIA.out).mono ?_
          rintro e w9 ⟨rfl, hn⟩
          have HN := Lib.hid hn
          clear hn HIA
          go_wp2_with fail
          refine (HIB.out _ (HB.out.stay HN.out)).mono ?_
          rintro e w8 ⟨rfl, hn⟩
          replace HN := Lib.hid (HN.out.trans hn)
          clear hn HIB
          go_wp2_with fail
          refine (clone_z _ _ _ _ _ (HB.out.stay HN.out)).mono ?_
          rintro e w7 ⟨v, rfl, how, hn⟩
          obtain ⟨g, cap, rfl, hgb, _, hcap1, _⟩ := ow_shape how (by omega)
          have hgw : w.heap.size ≤ g := Nat.le_trans HN.out.le hgb
          rw [HQ0.out] at how
          have HO := Lib.hid (ow_base how (Nat.le_of_eq rfl))
          replace HN := Lib.hid (HN.out.trans hn)
          clear how hn
          go_wp2_with fail
          go_loopw [27] (fun iv wr => ∃ k : Nat, k ≤ m + 1 ∧ iv = .int .i64 (k : Int) ∧ wr.ownsRow w8.heap.size 3 1 (.slice (some ⟨g, 0, none⟩) (m + 1 : Nat) cap) (m + 1) ((thP p q (m + 1) k).map fun x => .int .i64 x) ∧ New w wr) (fun iv _ => m + 1 - (intOf iv).toNat)
          case atStart => exact ⟨0, Nat.zero_le _, rfl, HO.out, HN.out⟩
          case round =>
            clear HO HN
            obtain ⟨k, hk, rfl, hown, hnew⟩ := hrel
            have HO := Lib.hid hown
            have HN := Lib.hid hnew
            obtain ⟨wq, hwq⟩ : ∃ z, z = wr := ⟨_, rfl⟩
            rw [← hwq] at HO HN ⊢
            clear hown hnew hwq
            by_cases hlt : (k : Int) < ((m + 1 : Nat) : Int)
            · have hk0 : (0 : Int) ≤ (k : Int) := by omega
              obtain ⟨c1, f1⟩ := ow_int HO.out (k := k) (by omega)
              have hg1 : (thP p q (m + 1) k).getD k 0 = ((fnI q k : Nat) : Int) := by
                unfold thP; rw [liI_get _ (by omega), if_neg (by omega)]
              rw [hg1] at c1
              have hqk := HFQ.out.1 k (by omega)
              have hpq := HOP.out.1 (fnI q k) (by rw [HLA.out]; exact hqk)
              obtain ⟨b2, off2, rfl, hc2⟩ := (HA.out.stay HN.out).addr (by omega)
              have c2 := hc2 (fnI q k) hqk
              have hpe : p.getD (fnI q k) 0 = ((fnI p (fnI q k) : Nat) : Int) := by unfold fnI at hpq ⊢; omega
              rw [hpe] at c2
              have HSS := Lib.hid (thP_set p q (n := m + 1) (k := k) (by omega))
              obtain ⟨y, hy⟩ : ∃ z, fnI p (fnI q k) = z := ⟨_, rfl⟩
              rw [hy] at c2 HSS
              obtain ⟨x, hx⟩ : ∃ z, fnI q k = z := ⟨_, rfl⟩
              rw [hx] at c1 c2 hqk
              have hx0 : (0 : Int) ≤ (x : Int) := by omega
              have hxm : (x : Int) < ((m + 1 : Nat) : Int) := by omega
              have HO2 : Hid ((wq.setCell ⟨g, k, none⟩ (.int .i64 (y : Nat))).ownsRow w8.heap.size 3 1 (.slice (some ⟨g, 0, none⟩) (m + 1 : Nat) cap) (m + 1) ((thP p q (m + 1) (k + 1)).map fun x => .int .i64 x)) := Lib.hid (by
                rw [← HSS.out, List.map_set]; exact ow_set HO.out k _)
              have HN2 : Hid (New w (wq.setCell ⟨g, k, none⟩ (.int .i64 (y : Nat)))) := Lib.hid (HN.out.setCell hgw _)
              clear hg1 hpq hpe hy hx hc2 HSS
              go_wp2
              exact ⟨⟨k + 1, by omega, by go_num, HO2.out, HN2.out⟩, by simp [intOf]; omega⟩
            · obtain rfl : k = m + 1 := by omega
              obtain ⟨ar, cr, he, hz⟩ := ZRow.of_owns HO.out (by omega) HIN.out
              cases he
              rw [← HR.out] at hz
              have HZ := Lib.hid hz
              have HLR : Hid ((thR p q).length = m + 1) := Lib.hid hz.len_eq
              clear hz
              go_wp2
              go_ret
              rw [HLR.out]
              exact ⟨_, _, rfl, HZ.out, HN.out⟩
  · have HF : Hid (thB p q = false) := Lib.hid (by unfold thB; rw [decide_eq_false (by rw [HLA.out, HLB.out]; exact hl)]; rfl)
    have hne : ((na : Int) != (nb : Int)) = true := by rw [bne_iff_ne]; omega
    go_enter Try.func46, Try.ntmps46
    go_wp2
    go_ret
    exact HNO.out HF.out _ (New.refl _)
end Go.Proofs.Ytajjpllhihgkdaa
/- Plain lemmas: decisions turned by an order. -/
namespace Go.Bv
open Go Go.RowKit
set_option linter.unusedVariables false
/-- decisions behind another first row -/
theorem fr_oS {F : Nat → Nat} {k m : Nat} {t : Nat → Nat} (hF : onF F k (k + m)) (ht : rtD k m t) : ∀ j, j ≤ m → ∀ x, x < k + m → frS F k t j x = oS k (fun i => F (t i)) j (F x)
  | 0, _, x, _ => rfl
  | j + 1, hj, x, hx => by
    have ih := fr_oS hF ht j (by omega)
    have h1 := ht j (by omega)
    have hinj : ∀ x y, x < k + m → y < k + m → F x = F y → x = y := fun x y hx hy he => by
      by_cases e1 : x < k
      · by_cases e2 : y < k
        · exact hF.2.1 x y e1 e2 he
        · have h3 := hF.1 x e1; have h4 := hF.2.2 y (by omega) hy; omega
      · by_cases e2 : y < k
        · have h3 := hF.1 y e2; have h4 := hF.2.2 x (by omega) hx; omega
        · have h3 := hF.2.2 x (by omega) hx; have h4 := hF.2.2 y (by omega) hy; omega
    have hi := hF.2.2 (k + j) (by omega) (by omega)
    show sw (frS F k t j) (k + j) (t j) x = sw (oS k (fun i => F (t i)) j) (k + j) (F (t j)) (F x)
    unfold sw
    by_cases e1 : x = t j
    · rw [if_pos e1, if_pos (by rw [e1]), ih (k + j) (by omega), hi]
    · rw [if_neg e1, if_neg (fun e => e1 (hinj x (t j) hx (by omega) e))]
      by_cases e2 : x = k + j
      · rw [if_pos e2, if_pos (by rw [e2, hi]), ih (t j) (by omega)]
      · rw [if_neg e2, if_neg (fun e => e2 (hinj x (k + j) hx (by omega) (by rw [e, hi]))), ih x hx]
theorem frS_inj {f : Nat → Nat} {k m n : Nat} {d : Nat → Nat} (hf : ∀ x y, x < n → y < n → f x = f y → x = y) (h : rtD k m d) : ∀ j, j ≤ m → k + j ≤ n → ∀ x y, x < n → y < n → frS f k d j x = frS f k d j y → x = y
  | 0, _, _, x, y, hx, hy, he => hf x y hx hy he
  | j + 1, hj, hn, x, y, hx, hy, he => sw_inj (i := k + j) (j := d j) (by omega) (by have := h j (by omega); omega) (frS_inj hf h j (by omega) (by omega)) x y hx hy he
/-- undone, the first row and the decisions come back -/
theorem un_fr {f : Nat → Nat} {n k : Nat} {d : Nat → Nat} (hk : k ≤ n) (hhi : ∀ x, k ≤ x → x < n → f x = x) (hinj : ∀ x y, x < n → y < n → f x = f y → x = y) (h : rtD k (n - k) d) : ∀ t, t ≤ n - k → unF (frS f k d (n - k)) n t = frS f k d (n - k - t)
  | 0, _ => rfl
  | t + 1, ht => by
    show sw (unF (frS f k d (n - k)) n t) (n - 1 - t) (ixF (unF (frS f k d (n - k)) n t) (n - 1 - t) (n - t)) = _
    rw [un_fr hk hhi hinj h t (by omega)]
    obtain ⟨j, hj⟩ : ∃ j, n - k - (t + 1) = j := ⟨_, rfl⟩
    rw [show n - k - t = j + 1 by omega, hj, show n - 1 - t = k + j by omega, show n - t = k + j + 1 by omega]
    have hd := h j (by omega)
    have hx : ixF (frS f k d (j + 1)) (k + j) (k + j + 1) = d j := by
      refine ixF_one (by omega) ?_ (fun x y a b => frS_inj hinj h (j + 1) (by omega) (by omega) x y (by omega) (by omega))
      show sw (frS f k d j) (k + j) (d j) (d j) = _
      unfold sw
      rw [if_pos rfl]
      exact frS_high hhi h j (by omega) _ (Nat.le_refl _) (by omega)
    rw [hx]
    exact sw_sw _ _ _
theorem unD_fr {f : Nat → Nat} {n k : Nat} {d : Nat → Nat} (hk : k ≤ n) (hhi : ∀ x, k ≤ x → x < n → f x = x) (hinj : ∀ x y, x < n → y < n → f x = f y → x = y) (h : rtD k (n - k) d) {i : Nat} (hi : i < n - k) : unD (frS f k d (n - k)) n k i = d i := by
  unfold unD
  rw [un_fr hk hhi hinj h _ (by omega), show n - k - (n - 1 - (k + i)) = i + 1 by omega]
  have hd := h i hi
  refine ixF_one (by omega) ?_ (fun x y a b => frS_inj hinj h (i + 1) (by omega) (by omega) x y (by omega) (by omega))
  show sw (frS f k d i) (k + i) (d i) (d i) = _
  unfold sw
  rw [if_pos rfl]
  exact frS_high hhi h i (by omega) _ (Nat.le_refl _) (by omega)
theorem onF_inj {F : Nat → Nat} {k n : Nat} (hF : onF F k n) : ∀ x y, x < n → y < n → F x = F y → x = y := fun x y hx hy he => by
  by_cases e1 : x < k
  · by_cases e2 : y < k
    · exact hF.2.1 x y e1 e2 he
    · have h3 := hF.1 x e1; have h4 := hF.2.2 y (by omega) hy; omega
  · by_cases e2 : y < k
    · have h3 := hF.1 y e2; have h4 := hF.2.2 x (by omega) hx; omega
    · have h3 := hF.2.2 x (by omega) hx; have h4 := hF.2.2 y (by omega) hy; omega
/-- the other way round -/
def ivF (F : Nat → Nat) (k : Nat) (x : Nat) : Nat := if x < k then ixF F x k else x
theorem ivF_r {F : Nat → Nat} {k n : Nat} (hF : onF F k n) (hk : k ≤ n) {x : Nat} (hx : x < n) : F (ivF F k x) = x := by
  unfold ivF
  by_cases e : x < k
  · rw [if_pos e]
    obtain ⟨j, hj, he⟩ := onF_has hF e
    exact ixF_at (ixF_some hj he)
  · rw [if_neg e]; exact hF.2.2 x (by omega) hx
theorem ivF_lt {F : Nat → Nat} {k n : Nat} (hF : onF F k n) {x : Nat} (hx : x < k) : ivF F k x < k := by
  unfold ivF
  rw [if_pos hx]
  obtain ⟨j, hj, he⟩ := onF_has hF hx
  exact ixF_some hj he
theorem ivF_l {F : Nat → Nat} {k n : Nat} (hF : onF F k n) (hk : k ≤ n) {x : Nat} (hx : x < n) : ivF F k (F x) = x := by
  have h1 : F x < n := by
    by_cases e : x < k
    · have := hF.1 x e; omega
    · rw [hF.2.2 x (by omega) hx]; exact hx
  have h2 : ivF F k (F x) < n := by
    by_cases e : F x < k
    · have := ivF_lt hF e; omega
    · unfold ivF; rw [if_neg e]; exact h1
  exact onF_inj hF _ _ h2 hx (ivF_r hF hk h1)
theorem ivF_on {F : Nat → Nat} {k n : Nat} (hF : onF F k n) (hk : k ≤ n) : onF (ivF F k) k n :=
  ⟨fun x hx => ivF_lt hF hx, fun x y hx hy he => by
    have h1 := ivF_r hF hk (x := x) (by omega)
    have h2 := ivF_r hF hk (x := y) (by omega)
    rw [← h1, ← h2, he], fun x hx hn => by unfold ivF; rw [if_neg (by omega)]⟩
end Go.Bv
namespace Go.Proofs.Ytajjpllhihgkdaa
open Go Go.RowKit Go.Bv
set_option linter.unusedVariables false
theorem msI_eq {l m : List Int} (hl : ∀ j k, j < k → k < l.length → l.getD j 0 ≠ l.getD k 0) (hm : ∀ j k, j < k → k < m.length → m.getD j 0 ≠ m.getD k 0) (h : ∀ x, x ∈ l ↔ x ∈ m) : msI l = msI m := by
  have hp : l.Perm m := (List.perm_ext_iff_of_nodup (nodup_iff.2 hl) (nodup_iff.2 hm)).2 h
  have hq : (msI l).Perm (msI m) := (List.mergeSort_perm l _).trans (hp.trans (List.mergeSort_perm m _).symm)
  have h1 := List.pairwise_mergeSort (le := fun x y : Int => decide (x ≤ y)) (by intro a b c h1 h2; simp at *; omega) (by intro a b; simp; omega) l
  have h2 := List.pairwise_mergeSort (le := fun x y : Int => decide (x ≤ y)) (by intro a b c h1 h2; simp at *; omega) (by intro a b; simp; omega) m
  exact List.Perm.eq_of_pairwise (le := fun a b => decide (a ≤ b) = true) (fun a b _ _ h3 h4 => by simp at h3 h4; omega) h1 h2 hq
/-- decisions turned: of a row that an order has moved -/
def tuI (n k : Nat) (q : List Int) : List Int := liI (fun i => if unD (fnI q) n k i < k then unF (fnI q) n (n - k) (unD (fnI q) n k i) else unD (fnI q) n k i) (n - k)
theorem tuI_len (n k : Nat) (q : List Int) : (tuI n k q).length = n - k := liI_len _ _
theorem tu_F {n k : Nat} {q : List Int} (hq : isO q) (hn : q.length = n) (hk : k ≤ n) : onF (unF (fnI q) n (n - k)) k n := by
  have h := unF_on (n := n) (by have := fnI_or hq; rwa [hn] at this) (n - k) (by omega)
  rwa [show n - (n - k) = k by omega] at h
theorem tu_at {n k : Nat} {q : List Int} (hq : isO q) (hn : q.length = n) (hk : k ≤ n) {i : Nat} (hi : i < n - k) : fnI (tuI n k q) i = unF (fnI q) n (n - k) (unD (fnI q) n k i) := by
  have hF := tu_F hq hn hk
  have ht := unD_rt (k := k) (n := n) (by have := fnI_or hq; rwa [hn] at this) i hi
  unfold tuI
  rw [fnI_li _ hi]
  by_cases e : unD (fnI q) n k i < k
  · rw [if_pos e]
  · rw [if_neg e]; exact (hF.2.2 _ (by omega) (by omega)).symm
theorem tu_rd {n k : Nat} {q : List Int} (hq : isO q) (hn : q.length = n) (hk : k ≤ n) : rdI n k (tuI n k q) := by
  refine ⟨tuI_len _ _ _, fun i hi => ?_⟩
  have hF := tu_F hq hn hk
  have ht := unD_rt (k := k) (n := n) (by have := fnI_or hq; rwa [hn] at this) i hi
  unfold tuI
  rw [liI_get _ hi]
  by_cases e : unD (fnI q) n k i < k
  · rw [if_pos e]; have := hF.1 _ e; omega
  · rw [if_neg e]; omega
theorem oS_congr (k : Nat) {d e : Nat → Nat} (m : Nat) (h : ∀ i, i < m → d i = e i) : oS k d m = oS k e m := by
  rw [oS_fr, oS_fr]; exact frS_congr _ k m h
/-- the row that was moved, by the turned decisions -/
theorem tu_row {n k : Nat} {q : List Int} (hq : isO q) (hn : q.length = n) (hk : k ≤ n) {x : Nat} (hx : x < n) : fnI q x = oS k (fnI (tuI n k q)) (n - k) (unF (fnI q) n (n - k) x) := by
  have hF := tu_F hq hn hk
  have ho : orF (fnI q) n := by have := fnI_or hq; rwa [hn] at this
  have ht := unD_rt (k := k) ho
  have h1 := fr_un (p := fnI q) hk (n - k) (Nat.le_refl _)
  rw [Nat.sub_self] at h1
  have h2 := fr_oS (F := unF (fnI q) n (n - k)) (k := k) (m := n - k) (t := unD (fnI q) n k) (by rw [show k + (n - k) = n by omega]; exact hF) ht (n - k) (Nat.le_refl _) x (by omega)
  rw [h1] at h2
  rw [oS_congr k (n - k) (e := fun i => unF (fnI q) n (n - k) (unD (fnI q) n k i)) (fun i hi => tu_at hq hn hk hi)]
  exact h2
theorem th_fn {p q : List Int} {n : Nat} (hp : p.length = n) {x : Nat} (hx : x < n) : fnI (thI p q) x = fnI p (fnI q x) := by
  unfold thI
  rw [hp]
  exact fnI_li _ hx
theorem th_or {p q : List Int} (hp : isO p) (hq : isO q) (hl : p.length = q.length) : isO (thI p q) := by
  have h1 := fnI_or hp
  have h2 := fnI_or hq
  rw [← hl] at h2
  unfold isO thI
  rw [liI_len]
  refine ⟨fun j hj => ?_, fun j k hj hk he => ?_⟩
  · rw [liI_get _ hj]; have := h1.1 _ (h2.1 j hj); omega
  · rw [liI_get _ (by omega), liI_get _ hk] at he
    have := h2.2 j k (by omega) hk (h1.2 _ _ (h2.1 j (by omega)) (h2.1 k hk) (by omega))
    omega
/-- of the first places -/
theorem or_take {q : List Int} {n k : Nat} (hq : isO q) (hn : q.length = n) (hk : k ≤ n) : ∀ a b, a < b → b < (liI (fnI q) k).length → (liI (fnI q) k).getD a 0 ≠ (liI (fnI q) k).getD b 0 := by
  intro a b hab hb he
  rw [liI_len] at hb
  rw [liI_get _ (by omega), liI_get _ hb] at he
  have h := (fnI_or hq).2 a b (by omega) (by omega) (by omega)
  omega
theorem sl_ne {n k : Nat} {d : List Int} (hk : k ≤ n) (h : rdI n k d) : ∀ a b, a < b → b < (slI n k d).length → (slI n k d).getD a 0 ≠ (slI n k d).getD b 0 := by
  intro a b hab hb he
  rw [slI_len] at hb
  unfold slI at he
  rw [liI_get _ (by omega), liI_get _ hb] at he
  have := oS_inj (rdI_F h) (n - k) (Nat.le_refl _) n (by omega) a b (by omega) (by omega) (by omega)
  omega
/-- the slots, as a set, are those that the order brings there -/
theorem tu_set {n k : Nat} {q : List Int} (hq : isO q) (hn : q.length = n) (hk : k ≤ n) : msI (slI n k (tuI n k q)) = msI (liI (fnI q) k) := by
  have hF := tu_F hq hn hk
  refine msI_eq (sl_ne hk (tu_rd hq hn hk)) (or_take hq hn hk) (fun x => ?_)
  rw [mem_at, mem_at, slI_len, liI_len]
  constructor
  · rintro ⟨y, hy, he⟩
    refine ⟨ivF (unF (fnI q) n (n - k)) k y, ivF_lt hF hy, ?_⟩
    have hl := ivF_lt hF hy
    rw [liI_get _ hl, tu_row hq hn hk (show ivF _ k y < n by omega), ivF_r hF hk (by omega)]
    unfold slI at he
    rw [liI_get _ hy] at he
    exact he
  · rintro ⟨y, hy, he⟩
    refine ⟨unF (fnI q) n (n - k) y, hF.1 y hy, ?_⟩
    unfold slI
    rw [liI_get _ (hF.1 y hy), ← tu_row hq hn hk (by omega)]
    rw [liI_get _ hy] at he
    exact he
/-- turned back -/
theorem tu_back {n k : Nat} {p r d : List Int} (hk : k ≤ n) (hp : isO p) (hpn : p.length = n) (hr : isO r) (hrn : r.length = n) (hinv : ∀ x, x < n → fnI r (fnI p x) = x) (hd : rdI n k d) :
    tuI n k (thI r (odI n k (tuI n k (thI p (odI n k d))))) = d := by
  have ho := odI_or hk hd
  have hq := th_or hp ho (by rw [odI_len, hpn])
  have hqn : (thI p (odI n k d)).length = n := by rw [thI_len, hpn]
  obtain ⟨q, hqq⟩ : ∃ q, thI p (odI n k d) = q := ⟨_, rfl⟩
  have hfq : ∀ x, x < n → fnI q x = fnI p (oS k (fnI d) (n - k) x) := fun x hx => by
    rw [← hqq, th_fn hpn hx]
    unfold odI
    rw [fnI_li _ hx]
  rw [hqq] at hq hqn ⊢
  have hF := tu_F hq hqn hk
  have hc := tu_rd hq hqn hk
  have hrow := fun x (hx : x < n) => tu_row hq hqn hk hx
  obtain ⟨F, hFF⟩ : ∃ F, unF (fnI q) n (n - k) = F := ⟨_, rfl⟩
  rw [hFF] at hF hrow
  have hG := ivF_on hF hk
  have ho2 := odI_or hk hc
  have hq2 := th_or hr ho2 (by rw [odI_len, hrn])
  have hq2n : (thI r (odI n k (tuI n k q))).length = n := by rw [thI_len, hrn]
  have hdF := rdI_F hd
  have hGlt : ∀ x, x < n → ivF F k x < n := fun x hx => by
    by_cases e : x < k
    · have := ivF_lt hF e; omega
    · unfold ivF; rw [if_neg e]; exact hx
  have hf2 : ∀ y, y < n → fnI (thI r (odI n k (tuI n k q))) y = oS k (fnI d) (n - k) (ivF F k y) := fun y hy => by
    rw [th_fn hrn hy]
    unfold odI
    rw [fnI_li _ hy]
    have h1 := hrow (ivF F k y) (hGlt y hy)
    rw [ivF_r hF hk hy] at h1
    rw [← h1, hfq _ (hGlt y hy)]
    exact hinv _ (oS_lt hdF (n - k) (Nat.le_refl _) n (by omega) _ (hGlt y hy))
  have ht : rtD k (n - k) (fun i => F (fnI d i)) := fun i hi => by
    have h1 := hdF i hi
    show F (fnI d i) ≤ k + i
    by_cases e : fnI d i < k
    · have := hF.1 _ e; omega
    · rw [hF.2.2 _ (by omega) (by omega)]; exact h1
  have hfr : ∀ x, x < n → fnI (thI r (odI n k (tuI n k q))) x = frS (ivF F k) k (fun i => F (fnI d i)) (n - k) x := fun x hx => by
    have h1 := fr_oS (F := ivF F k) (k := k) (m := n - k) (t := fun i => F (fnI d i)) (by rw [show k + (n - k) = n by omega]; exact hG) ht (n - k) (Nat.le_refl _) x (by omega)
    rw [h1, hf2 x hx, oS_congr k (n - k) (d := fun i => ivF F k (F (fnI d i))) (e := fnI d) (fun i hi => ivF_l hF hk (by have := hdF i hi; omega))]
  have hor2 : orF (fnI (thI r (odI n k (tuI n k q)))) n := by have := fnI_or hq2; rwa [hq2n] at this
  have hinjG := onF_inj hG
  have hdl := li_fn (p := d) (fun j hj => (hd.2 j (by rw [← hd.1]; exact hj)).1)
  rw [hd.1] at hdl
  obtain ⟨q2, hq22⟩ : ∃ q2, thI r (odI n k (tuI n k q)) = q2 := ⟨_, rfl⟩
  rw [hq22] at hfr hor2 ⊢
  unfold tuI
  refine (liI_ext fun i hi => ?_).trans hdl
  have hD : unD (fnI q2) n k i = F (fnI d i) := by
    rw [unD_congr hor2 hfr (by omega)]
    exact unD_fr hk hG.2.2 hinjG ht hi
  have hi1 := hdF i hi
  rw [hD]
  by_cases e : F (fnI d i) < k
  · rw [if_pos e, unF_congr hor2 hfr (n - k) (by omega) _ (by omega), un_fr hk hG.2.2 hinjG ht (n - k) (Nat.le_refl _), Nat.sub_self]
    exact ivF_l hF hk (by omega)
  · rw [if_neg e]
    by_cases e2 : fnI d i < k
    · exact absurd (hF.1 _ e2) e
    · exact hF.2.2 _ (by omega) (by omega)
end Go.Proofs.Ytajjpllhihgkdaa
/- shuffle.Back. -/
namespace Go.Proofs.Ytajjpllhihgkdaa
open Go Go.RowKit Go.Bv
set_option linter.unusedVariables false
def lsL (p : List Int) (n k : Nat) : List Int := liI (fun x => lsF p x k) n
theorem lsL_len (p : List Int) (n k : Nat) : (lsL p n k).length = n := liI_len _ _
theorem lsL_zero (p : List Int) (n : Nat) : lsL p n 0 = liI (fun _ => 0) n := rfl
/-- the first k places told -/
def bkL (p : List Int) (n k : Nat) : List Int := liI (fun x => if x < k then lsF p x n else 0) n
theorem bkL_zero (p : List Int) (n : Nat) : bkL p n 0 = liI (fun _ => 0) n := liI_ext (fun x _ => by rw [if_neg (by omega)])
theorem bkL_set (p : List Int) {n k : Nat} (h : k < n) : (bkL p n k).set k ((lsF p k n : Nat) : Int) = bkL p n (k + 1) := by
  unfold bkL
  rw [liI_set _ _ h]
  apply liI_ext
  intro x _
  by_cases e : x = k
  · subst e; rw [if_pos rfl, if_pos (by omega)]
  · rw [if_neg e]
    by_cases e2 : x < k
    · rw [if_pos e2, if_pos (by omega)]
    · rw [if_neg e2, if_neg (by omega)]
end Go.Proofs.Ytajjpllhihgkdaa
/- The law ShuffleThen. -/
namespace Go.Proofs.Ytajjpllhihgkdaa
open Go Go.RowKit Go.Bv
set_option linter.unusedVariables false
theorem thR_no {p q : List Int} (h : ¬ (p.length = q.length ∧ isO p ∧ isO q)) : thR p q = [] := by
  have : thB p q = false := by
    rw [← Bool.not_eq_true]
    intro h2
    unfold thB at h2
    rw [Bool.and_eq_true, Bool.and_eq_true, decide_eq_true_eq, isB_iff, isB_iff] at h2
    exact h h2
  unfold thR; rw [this]; rfl
theorem thR_yes {p q : List Int} (h : p.length = q.length) (hp : isO p) (hq : isO q) : thR p q = thI p q := by
  unfold thR thB
  rw [decide_eq_true h, isB_iff.2 hp, isB_iff.2 hq]; rfl
theorem bkR_no {p : List Int} (h : ¬ isO p) : bkR p = [] := by unfold bkR; rw [isB_no h]; rfl
theorem bkR_yes {p : List Int} (h : isO p) : bkR p = bkI p := by unfold bkR; rw [isB_iff.2 h]; rfl
theorem thI_at {p q : List Int} (hp : isO p) (hq : isO q) (hl : p.length = q.length) {j : Nat} (hj : j < p.length) : ∃ x : Nat, q.getD j 0 = (x : Int) ∧ x < p.length ∧ (thI p q).getD j 0 = p.getD x 0 := by
  have h1 := hq.1 j (by omega)
  refine ⟨fnI q j, by unfold fnI; omega, by unfold fnI; omega, ?_⟩
  have h2 := hp.1 (fnI q j) (by unfold fnI; omega)
  unfold thI
  rw [liI_get _ hj]
  show ((fnI p (fnI q j) : Nat) : Int) = _
  have e : fnI p (fnI q j) = (p.getD (fnI q j) 0).toNat := rfl
  rw [e]; omega
end Go.Proofs.Ytajjpllhihgkdaa
/- reservoir.Turn. -/
namespace Go.Proofs.Ytajjpllhihgkdaa
open Go Go.RowKit Go.Bv
set_option linter.unusedVariables false
theorem turn_err (n k : Int) (a b : Option Addr) (m c m2 c2 : Nat) (w : World) (h : ¬ ckE n k = 0) :
    Calls Try.prog 26 #[.int .i64 n, .int .i64 k, .slice a m c, .slice b m2 c2] w fun e w' => e = .returned (.tuple #[.slice none 0 0, .int .i64 (ckE n k)]) ∧ New w w' := by
  have HC := Lib.hid (order_err n k a m c w h)
  obtain ⟨z, hz⟩ : ∃ z, ckE n k = z := ⟨_, rfl⟩
  rw [hz] at HC h ⊢
  clear hz
  have hb : (z != 0) = true := by simpa using h
  go_enter Try.func26, Try.ntmps26
  go_wp2_with fail
  refine HC.out.mono ?_
  rintro e w9 ⟨rfl, hn⟩
  have HN := Lib.hid hn
  clear hn
  go_wp2
  go_ret2
  exact ⟨rfl, HN.out⟩
theorem turn_bad (n k : Nat) (hk : k ≤ n) (hn : n ≤ 256) (a b : Option Addr) (m c m2 c2 : Nat) (d : List Int) (w : World) (h : ZRow w a m c d) (hb : rdB n k d = false) :
    Calls Try.prog 26 #[.int .i64 (n : Int), .int .i64 (k : Int), .slice a m c, .slice b m2 c2] w fun e w' => e = .returned (.tuple #[.slice none 0 0, .int .i64 2]) ∧ New w w' := by
  have HC := Lib.hid (order_bad n k hk hn a m c d w h hb)
  clear h hb
  go_enter Try.func26, Try.ntmps26
  go_wp2_with fail
  refine HC.out.mono ?_
  rintro e w9 ⟨rfl, hn⟩
  have HN := Lib.hid hn
  clear hn
  go_wp2
  go_ret2
  exact ⟨rfl, HN.out⟩
theorem turn_bad2 (n k : Nat) (hk : k ≤ n) (hn : n ≤ 256) (a b : Option Addr) (m c m2 c2 : Nat) (d p : List Int) (w : World) (h : ZRow w a m c d) (hd : rdI n k d) (h2 : ZRow w b m2 c2 p) (hb : ¬ (m2 = n ∧ isO p)) :
    Calls Try.prog 26 #[.int .i64 (n : Int), .int .i64 (k : Int), .slice a m c, .slice b m2 c2] w fun e w' => e = .returned (.tuple #[.slice none 0 0, .int .i64 2]) ∧ New w w' := by
  have HC := Lib.hid (order_q n k hk hn a m c d w h hd)
  by_cases hm : m2 = n
  · subst hm
    have HI := Lib.hid (fun w' (hn' : New w w') => is_40 b m2 c2 p w' (h2.stay hn') (by omega))
    rw [isB_no (fun h3 => hb ⟨rfl, h3⟩)] at HI
    have hb2 : ((m2 : Int) != (m2 : Int)) = false := by simp
    clear h h2 hb hd
    go_enter Try.func26, Try.ntmps26
    go_wp2_with fail
    refine HC.out.mono ?_
    rintro e w9 ⟨a9, c9, rfl, hz, hn9⟩
    have HN := Lib.hid hn9
    replace HI := Lib.hid (HI.out _ hn9)
    clear hn9 hz
    go_wp2_with fail
    refine HI.out.mono ?_
    rintro e w8 ⟨rfl, hn8⟩
    replace HN := Lib.hid (HN.out.trans hn8)
    clear hn8
    go_wp2
    go_ret2
    exact ⟨rfl, HN.out⟩
  · have hb2 : ((m2 : Int) != (n : Int)) = true := by simp; omega
    clear h h2 hb hd
    go_enter Try.func26, Try.ntmps26
    go_wp2_with fail
    refine HC.out.mono ?_
    rintro e w9 ⟨a9, c9, rfl, hz, hn9⟩
    have HN := Lib.hid hn9
    clear hn9 hz
    go_wp2
    go_ret2
    exact ⟨rfl, HN.out⟩
/-- the decisions turned so far -/
def tuP (n k : Nat) (q : List Int) (j : Nat) : List Int := liI (fun i => if i < j then (if unD (fnI q) n k i < k then unF (fnI q) n (n - k) (unD (fnI q) n k i) else unD (fnI q) n k i) else unD (fnI q) n k i) (n - k)
theorem tuP_zero (n k : Nat) (q : List Int) : tuP n k q 0 = udI n k q := liI_ext (fun x _ => if_neg (by omega))
theorem tuP_all (n k : Nat) (q : List Int) : tuP n k q (n - k) = tuI n k q := liI_ext (fun x hx => if_pos hx)
theorem tuP_yes {n k : Nat} {q : List Int} {j : Nat} (hj : j < n - k) (h : unD (fnI q) n k j < k) : (tuP n k q j).set j ((unF (fnI q) n (n - k) (unD (fnI q) n k j) : Nat) : Int) = tuP n k q (j + 1) := by
  unfold tuP
  rw [liI_set _ _ hj]
  apply liI_ext
  intro x hx
  by_cases e : x = j
  · subst e; rw [if_pos rfl, if_pos (by omega), if_pos h]
  · rw [if_neg e]
    by_cases e2 : x < j
    · rw [if_pos e2, if_pos (show x < j + 1 by omega)]
    · rw [if_neg e2, if_neg (show ¬ x < j + 1 by omega)]
theorem tuP_no {n k : Nat} {q : List Int} {j : Nat} (h : ¬ unD (fnI q) n k j < k) : tuP n k q j = tuP n k q (j + 1) := liI_ext (fun x hx => by
  by_cases e : x = j
  · subst e; rw [if_neg (by omega), if_pos (by omega), if_neg h]
  · by_cases e2 : x < j
    · rw [if_pos e2, if_pos (show x < j + 1 by omega)]
    · rw [if_neg e2, if_neg (show ¬ x < j + 1 by omega)])
set_option maxRecDepth 100000 in
set_option maxHeartbeats 4000000 in
theorem turn_q (n k : Nat) (hk : k ≤ n) (hn : n ≤ 256) (a b : Option Addr) (m c c2 : Nat) (d p : List Int) (w : World) (h : ZRow w a m c d) (hd : rdI n k d) (h2 : ZRow w b n c2 p) (hp : isO p) :
    Calls Try.prog 26 #[.int .i64 (n : Int), .int .i64 (k : Int), .slice a m c, .slice b n c2] w fun e w' => ∃ a' c', e = .returned (.tuple #[.slice a' (n - k : Nat) c', .int .i64 0]) ∧ ZRow w' a' (n - k) c' (tuI n k (thI p (odI n k d))) ∧ New w w' := by
  have hpn := h2.len_eq
  have hod := odI_or hk hd
  have hq := th_or hp hod (by rw [odI_len, hpn])
  have hqn : (thI p (odI n k d)).length = n := by rw [thI_len, hpn]
  have HC := Lib.hid (order_q n k hk hn a m c d w h hd)
  have HI := Lib.hid (fun w' (hn' : New w w') => is_40 b n c2 p w' (h2.stay hn') (by omega))
  rw [isB_iff.2 hp] at HI
  have hb2 : ((n : Int) != (n : Int)) = false := by simp
  have HTH := Lib.hid (fun w' a9 c9 (hn' : New w w') (hz : ZRow w' a9 n c9 (odI n k d)) => then_40 b a9 n c2 n c9 p (odI n k d) w' (h2.stay hn') hz (by omega) (by omega))
  rw [thR_yes (by rw [odI_len, hpn]) hp hod, hqn] at HTH
  obtain ⟨q, hqq⟩ : ∃ q, thI p (odI n k d) = q := ⟨_, rfl⟩
  rw [hqq] at HTH hq hqn ⊢
  have HUN := Lib.hid (fun w' a9 c9 (hz : ZRow w' a9 n c9 q) => undo_qo n k hk hn a9 c9 q w' hz hq)
  have hF := tu_F hq hqn hk
  have HF1 : Hid (∀ x, x < k → unF (fnI q) n (n - k) x < k) := Lib.hid hF.1
  obtain ⟨K, hK⟩ : ∃ K, n - k = K := ⟨_, rfl⟩
  have HUD : Hid (∀ i, i < K → unD (fnI q) n k i ≤ k + i) := Lib.hid (fun i hi => unD_rt (k := k) (n := n) (by have := fnI_or hq; rwa [hqn] at this) i (by omega))
  have HKK := Lib.hid hK
  rw [hK] at HUN ⊢
  have hkK : k + K ≤ 256 := by omega
  clear h h2 hd hp hpn hod hq hqn hqq hF hK
  go_enter Try.func26, Try.ntmps26
  go_wp2_with fail
  refine HC.out.mono ?_
  rintro e w9 ⟨a9, c9, rfl, hz9, hn9⟩
  have HN := Lib.hid hn9
  have HZ9 := Lib.hid hz9
  clear hn9 hz9 HC
  go_wp2_with fail
  refine (HI.out _ HN.out).mono ?_
  rintro e w8 ⟨rfl, hn8⟩
  replace HN := Lib.hid (HN.out.trans hn8)
  replace HZ9 := Lib.hid (HZ9.out.stay hn8)
  clear hn8 HI
  go_wp2_with fail
  refine (HTH.out _ _ _ HN.out HZ9.out).mono ?_
  rintro e w7 ⟨a7, c7, rfl, hz7, hn7⟩
  replace HN := Lib.hid (HN.out.trans hn7)
  have HZ7 := Lib.hid hz7
  clear hn7 hz7 HTH HZ9
  go_wp2_with fail
  refine (HUN.out _ _ _ HZ7.out).mono ?_
  rintro e w6 ⟨g2, a2, c6, B2, rfl, h1, h2, h3, h4, h5, hn6⟩
  have HO1 := Lib.hid (ow_base h1 HN.out.le)
  have HO2 := Lib.hid h4
  have HG : Hid (g2 < B2) := Lib.hid h3
  replace HN := Lib.hid (HN.out.trans hn6)
  clear h1 h2 h3 h4 h5 hn6 HUN HZ7
  go_wp2_with fail
  go_loopw [50] (fun iv wr => ∃ j : Nat, j ≤ K ∧ iv = .int .i64 (j : Int) ∧ wr.ownsRow w.heap.size 3 1 (.slice (some ⟨g2, 0, none⟩) K K) K ((tuP n k q j).map fun x => .int .i64 x) ∧ wr.ownsRow B2 3 1 (.slice a2 (k : Nat) c6) k ((ufI n k q).map fun x => .int .i64 x) ∧ New w wr) (fun iv _ => K - (intOf iv).toNat)
  case atStart => exact ⟨0, Nat.zero_le _, rfl, by rw [tuP_zero]; exact HO1.out, HO2.out, HN.out⟩
  case round =>
    clear HO1 HO2 HN
    obtain ⟨j, hj, rfl, h1, h2, hnew⟩ := hrel
    by_cases hlt : (j : Int) < (K : Int)
    · have hj0 : (0 : Int) ≤ (j : Int) := by omega
      have hjn : j < n - k := by have := HKK.out; omega
      obtain ⟨d1, e1⟩ := ow_int h1 (k := j) (by omega)
      have hgd : (tuP n k q j).getD j 0 = ((unD (fnI q) n k j : Nat) : Int) := by
        unfold tuP
        rw [liI_get _ hjn, if_neg (by omega)]
      rw [hgd] at d1
      have hud := HUD.out j (by omega)
      by_cases hc : unD (fnI q) n k j < k
      · have HS := Lib.hid (tuP_yes hjn hc)
        have hx := HF1.out _ hc
        obtain ⟨g, cap, he, hg, hgs, hgc, hgc2⟩ := ow_shape h2 (by omega)
        cases he
        obtain ⟨d2, e2⟩ := ow_int h2 (k := unD (fnI q) n k j) hc
        have hgd2 : (ufI n k q).getD (unD (fnI q) n k j) 0 = ((unF (fnI q) n (n - k) (unD (fnI q) n k j) : Nat) : Int) := by
          unfold ufI
          rw [liI_get _ hc]
        rw [hgd2] at d2
        have hne : ¬ g = g2 := by have := HG.out; omega
        obtain ⟨x, hxx⟩ : ∃ x, unF (fnI q) n (n - k) (unD (fnI q) n k j) = x := ⟨_, rfl⟩
        rw [hxx] at HS d2 hx
        obtain ⟨y, hyy⟩ : ∃ y, unD (fnI q) n k j = y := ⟨_, rfl⟩
        rw [hyy] at d1 d2 e2 hc hud
        have hgw := (ow_in h1).1
        have hv : (Value.slice (some ⟨g, 0, none⟩) (k : Nat) c6).ownBlock ≠ some g2 := by simp [Value.ownBlock]; exact hne
        have HR1 : Hid ((wr.setCell ⟨g2, j, none⟩ (.int .i64 (x : Nat))).ownsRow w.heap.size 3 1 (.slice (some ⟨g2, 0, none⟩) K K) K ((tuP n k q (j + 1)).map fun x => .int .i64 x)) := Lib.hid (by
          rw [← HS.out, List.map_set]; exact ow_set h1 j _)
        have HR2 := Lib.hid (ow_far h2 (a := ⟨g2, j, none⟩) hv (.int .i64 (x : Nat)))
        have HNN : Hid (New w (wr.setCell ⟨g2, j, none⟩ (.int .i64 (x : Nat)))) := Lib.hid (hnew.setCell (p := ⟨g2, j, none⟩) hgw _)
        have hy0 : (0 : Int) ≤ (y : Int) := by omega
        have hyk : (y : Int) < (k : Int) := by omega
        clear h1 h2 hnew hgd hgd2 hxx hyy hgs HS hjn
        go_wp2
        exact ⟨⟨j + 1, by omega, by go_num, HR1.out, HR2.out, HNN.out⟩, by simp [intOf]; omega⟩
      · have HS := Lib.hid (tuP_no (n := n) (j := j) hc)
        rw [HS.out] at h1
        obtain ⟨y, hyy⟩ : ∃ y, unD (fnI q) n k j = y := ⟨_, rfl⟩
        rw [hyy] at d1 hc hud
        have hyk : ¬ (y : Int) < (k : Int) := by omega
        clear hgd hyy hjn HS
        go_wp2
        exact ⟨⟨j + 1, by omega, by go_num, h1, h2, hnew⟩, by simp [intOf]; omega⟩
    · obtain rfl : j = K := by omega
      have hta : tuP n k q j = tuI n k q := by rw [← HKK.out]; exact tuP_all _ _ _
      rw [hta] at h1
      obtain ⟨a', c', he, hz⟩ := ZRow.of_owns h1 (by omega) (by
        rw [← hta]
        unfold tuP
        rw [HKK.out]
        exact in64_li _ (fun x hx => by
          have h8 := HUD.out x hx
          by_cases e1 : x < j
          · rw [if_pos e1]
            by_cases e2 : unD (fnI q) n k x < k
            · rw [if_pos e2]
              have h9 := HF1.out _ e2
              rw [HKK.out] at h9
              omega
            · rw [if_neg e2]; omega
          · omega))
      cases he
      have HZ := Lib.hid hz
      have HN := Lib.hid hnew
      clear h1 h2 hnew hz hta
      go_wp2
      go_ret2
      exact ⟨_, _, rfl, HZ.out, HN.out⟩
end Go.Proofs.Ytajjpllhihgkdaa
