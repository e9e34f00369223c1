/- shuffle.Then, shuffle.Back. -/
import Derived.Test.YtajjpllhihgkdaaShfE
namespace Go.Proofs.Ytajjpllhihgkdaa
open Go Go.RowKit Go.Bv
set_option linter.unusedVariables false
/-- one order behind another one -/
def thI (p q : List Int) : List Int := liI (fun t => fnI p (fnI q t)) p.length
def thB (p q : List Int) : Bool := decide (p.length = q.length) && (isB p && isB q)
def thR (p q : List Int) : List Int := if thB p q then thI p q else []
theorem thI_len (p q : List Int) : (thI p q).length = p.length := liI_len _ _
/-- the last place among the first k where x stands -/
def lsF (p : List Int) (x : Nat) : Nat → Nat
  | 0 => 0
  | k + 1 => if p.getD k 0 = (x : Int) then k else lsF p x k
theorem ls_at {p : List Int} {x : Nat} : ∀ {k}, (∃ j, j < k ∧ p.getD j 0 = (x : Int)) → lsF p x k < k ∧ p.getD (lsF p x k) 0 = (x : Int)
  | 0, ⟨j, h, _⟩ => by omega
  | k + 1, ⟨j, h1, h2⟩ => by
    show (if p.getD k 0 = (x : Int) then k else lsF p x k) < k + 1 ∧ p.getD (if p.getD k 0 = (x : Int) then k else lsF p x k) 0 = (x : Int)
    by_cases e : p.getD k 0 = (x : Int)
    · rw [if_pos e]; exact ⟨by omega, e⟩
    · rw [if_neg e]
      have hjk : j ≠ k := fun h => e (h ▸ h2)
      have h3 := ls_at (k := k) ⟨j, by omega, h2⟩
      exact ⟨by omega, h3.2⟩
theorem ls_le (p : List Int) (x : Nat) : ∀ k, lsF p x k ≤ k
  | 0 => Nat.le_refl _
  | k + 1 => by
    have := ls_le p x k
    show (if p.getD k 0 = (x : Int) then k else lsF p x k) ≤ k + 1
    split <;> omega
theorem ls_or {p : List Int} (h : isO p) {x : Nat} (hx : x < p.length) : lsF p x p.length < p.length ∧ p.getD (lsF p x p.length) 0 = (x : Int) := ls_at (isO_on h hx)
theorem ls_set (p : List Int) {n k P : Nat} (hP : P < n) (he : p.getD k 0 = (P : Int)) : (liI (fun x => lsF p x k) n).set P (k : Int) = liI (fun x => lsF p x (k + 1)) n := by
  rw [liI_set _ k hP]
  apply liI_ext
  intro x _
  show _ = if p.getD k 0 = (x : Int) then k else lsF p x k
  by_cases e : x = P
  · subst e; rw [if_pos rfl, if_pos he]
  · rw [if_neg e, if_neg (by rw [he]; omega)]
/-- the order that undoes one -/
def bkI (p : List Int) : List Int := liI (fun x => lsF p x p.length) p.length
theorem bkI_len (p : List Int) : (bkI p).length = p.length := liI_len _ _
def bkR (p : List Int) : List Int := if isB p then bkI p else []
theorem bkI_or {p : List Int} (h : isO p) : isO (bkI p) := by
  refine ⟨fun j hj => ?_, fun j k hjk hk he => ?_⟩
  · rw [bkI_len] at hj ⊢
    unfold bkI
    rw [liI_get _ hj]
    have := (ls_or h hj).1
    omega
  · rw [bkI_len] at hk
    unfold bkI at he
    rw [liI_get _ hk, liI_get _ (by omega)] at he
    have h1 := (ls_or h (show j < p.length by omega)).2
    have h2 := (ls_or h hk).2
    have h3 : lsF p j p.length = lsF p k p.length := by omega
    rw [h3, h2] at h1
    omega
theorem th_bk {p : List Int} (h : isO p) : thI p (bkI p) = liI (fun x => x) p.length := by
  apply liI_ext
  intro x hx
  show fnI p (fnI (bkI p) x) = x
  unfold bkI
  rw [fnI_li _ hx]
  have := (ls_or h hx).2
  unfold fnI; omega
theorem thB_bk {p : List Int} (h : isO p) : thB p (bkI p) = true := by
  unfold thB
  rw [bkI_len, isB_iff.2 h, isB_iff.2 (bkI_or h)]; simp
/-- the first k replaced -/
def thP (p q : List Int) (n k : Nat) : List Int := liI (fun x => if x < k then fnI p (fnI q x) else fnI q x) n
theorem thP_set (p q : List Int) {n k : Nat} (h : k < n) : (thP p q n k).set k ((fnI p (fnI q k) : Nat) : Int) = thP p q n (k + 1) := by
  unfold thP
  rw [liI_set _ _ h]
  apply liI_ext
  intro x _
  by_cases e : x = k
  · subst e; rw [if_pos rfl, if_pos (by omega)]
  · rw [if_neg e]
    by_cases e2 : x < k
    · rw [if_pos e2, if_pos (by omega)]
    · rw [if_neg e2, if_neg (by omega)]
set_option maxRecDepth 100000 in
set_option maxHeartbeats 4000000 in
theorem then_40 (a b : Option Addr) (na ca nb cb : Nat) (p q : List Int) (w : World) (ha : ZRow w a na ca p) (hb : ZRow w b nb cb q) (hna : na ≤ 1000000) (hnb : nb ≤ 1000000) :
    Calls Try.prog 46 #[.slice a na ca, .slice b nb cb] w fun e w' => ∃ a' c', e = .returned (.slice a' ((thR p q).length : Nat) c') ∧ ZRow w' a' (thR p q).length c' (thR p q) ∧ New w w' := by
  have HLA := Lib.hid ha.len_eq
  have HLB := Lib.hid hb.len_eq
  have hma := ha.most
  have hmb := hb.most
  have HA := Lib.hid ha
  have HB := Lib.hid hb
  have HNO : Hid (thB p q = false → ∀ w', New w w' → ∃ a' c', Ending.returned (.slice none 0 0) = .returned (.slice a' ((thR p q).length : Nat) c') ∧ ZRow w' a' (thR p q).length c' (thR p q) ∧ New w w') := Lib.hid (fun h w' hn => by
    have e : thR p q = [] := by unfold thR; rw [h]; rfl
    rw [e]
    exact ⟨none, 0, rfl, nil_zrow w', hn⟩)
  clear ha hb
  by_cases hl : na = nb
  · subst hl
    have HIA := Lib.hid (is_40 a na ca p w HA.out hna)
    have HIB := Lib.hid (fun w' (h : ZRow w' b na cb q) => is_40 b na cb q w' h hna)
    rcases hp : isB p with _ | _
    · have HF : Hid (thB p q = false) := Lib.hid (by unfold thB; rw [hp]; simp)
      rw [hp] at HIA
      clear hp HIB
      go_enter Try.func46, Try.ntmps46
      go_wp2_with fail
      refine (HIA.out).mono ?_
      rintro e w9 ⟨rfl, hn⟩
      have HN := Lib.hid hn
      clear hn HIA
      go_wp2
      go_ret
      exact HNO.out HF.out _ HN.out
    · rw [hp] at HIA
      rcases hq : isB q with _ | _
      · have HF : Hid (thB p q = false) := Lib.hid (by unfold thB; rw [hq]; simp)
        rw [hq] at HIB
        clear hp hq
        go_enter Try.func46, Try.ntmps46
        go_wp2_with fail
        refine (HIA.out).mono ?_
        rintro e w9 ⟨rfl, hn⟩
        have HN := Lib.hid hn
        clear hn HIA
        go_wp2_with fail
        refine (HIB.out _ (HB.out.stay HN.out)).mono ?_
        rintro e w8 ⟨rfl, hn⟩
        replace HN := Lib.hid (HN.out.trans hn)
        clear hn HIB
        go_wp2
        go_ret
        exact HNO.out HF.out _ HN.out
      · have hT : thB p q = true := by unfold thB; rw [hp, hq, HLA.out, HLB.out]; simp
        have HR : Hid (thR p q = thP p q na na) := Lib.hid (by
          unfold thR thI thP
          rw [hT, if_pos rfl, HLA.out]
          exact liI_ext (fun x hx => by rw [if_pos hx]))
        have HOP := Lib.hid (isB_iff.1 hp)
        have HOQ := Lib.hid (isB_iff.1 hq)
        rw [hq] at HIB
        have HQ0 : Hid (q = thP p q na 0) := Lib.hid (by
          have h1 := li_fn (p := q) (fun j hj => (HOQ.out.1 j hj).1)
          rw [HLB.out] at h1
          refine h1.symm.trans ?_
          unfold thP
          exact liI_ext (fun x _ => by rw [if_neg (by omega)]))
        have HFQ := Lib.hid (fnI_or HOQ.out)
        have HFP := Lib.hid (fnI_or HOP.out)
        rw [HLB.out] at HFQ
        rw [HLA.out] at HFP
        have HIN : Hid (∀ z ∈ thP p q na na, In64 z) := Lib.hid (in64_li _ (fun x hx => by
          rw [if_pos hx]
          have := HFP.out.1 _ (HFQ.out.1 x hx); omega))
        clear hT hp hq
        rcases na with _ | m
        · go_enter Try.func46, Try.ntmps46
          go_wp2_with fail
          refine (HIA.out).mono ?_
          rintro e w9 ⟨rfl, hn⟩
          have HN := Lib.hid hn
          clear hn HIA
          go_wp2_with fail
          refine (HIB.out _ (HB.out.stay HN.out)).mono ?_
          rintro e w8 ⟨rfl, hn⟩
          replace HN := Lib.hid (HN.out.trans hn)
          clear hn HIB
          go_wp2_with fail
          refine (clone_z _ _ _ _ _ (HB.out.stay HN.out)).mono ?_
          rintro e w7 ⟨v, rfl, how, hn⟩
          replace HN := Lib.hid (HN.out.trans hn)
          obtain ⟨ar, cr, rfl, hz⟩ := ZRow.of_owns how (by omega) HB.out.wf
          have HRQ : Hid (thR p q = q) := Lib.hid (by
            rw [HR.out, List.eq_nil_of_length_eq_zero HLB.out]; rfl)
          rw [← HRQ.out] at hz
          have HZ := Lib.hid hz
          have HLR : Hid ((thR p q).length = 0) := Lib.hid hz.len_eq
          clear hz how hn
          go_wp2_with fail
          go_loop [27] (fun i => i = .int .i64 0) (fun _ => 0)
          case atStart => rfl
          case round =>
            subst hrel
            go_wp2
            go_ret
            rw [HLR.out]
            exact ⟨_, _, rfl, HZ.out, HN.out⟩
        · go_enter Try.func46, Try.ntmps46
          go_wp2_with fail
          refine (HIA.out).mono ?_
          rintro e w9 ⟨rfl, hn⟩
          have HN := Lib.hid hn
          clear hn HIA
          go_wp2_with fail
          refine (HIB.out _ (HB.out.stay HN.out)).mono ?_
          rintro e w8 ⟨rfl, hn⟩
          replace HN := Lib.hid (HN.out.trans hn)
          clear hn HIB
          go_wp2_with fail
          refine (clone_z _ _ _ _ _ (HB.out.stay HN.out)).mono ?_
          rintro e w7 ⟨v, rfl, how, hn⟩
          obtain ⟨g, cap, rfl, hgb, _, hcap1, _⟩ := ow_shape how (by omega)
          have hgw : w.heap.size ≤ g := Nat.le_trans HN.out.le hgb
          rw [HQ0.out] at how
          have HO := Lib.hid (ow_base how (Nat.le_of_eq rfl))
          replace HN := Lib.hid (HN.out.trans hn)
          clear how hn
          go_wp2_with fail
          go_loopw [27] (fun iv wr => ∃ k : Nat, k ≤ m + 1 ∧ iv = .int .i64 (k : Int) ∧ wr.ownsRow w8.heap.size 3 1 (.slice (some ⟨g, 0, none⟩) (m + 1 : Nat) cap) (m + 1) ((thP p q (m + 1) k).map fun x => .int .i64 x) ∧ New w wr) (fun iv _ => m + 1 - (intOf iv).toNat)
          case atStart => exact ⟨0, Nat.zero_le _, rfl, HO.out, HN.out⟩
          case round =>
            clear HO HN
            obtain ⟨k, hk, rfl, hown, hnew⟩ := hrel
            have HO := Lib.hid hown
            have HN := Lib.hid hnew
            obtain ⟨wq, hwq⟩ : ∃ z, z = wr := ⟨_, rfl⟩
            rw [← hwq] at HO HN ⊢
            clear hown hnew hwq
            by_cases hlt : (k : Int) < ((m + 1 : Nat) : Int)
            · have hk0 : (0 : Int) ≤ (k : Int) := by omega
              obtain ⟨c1, f1⟩ := ow_int HO.out (k := k) (by omega)
              have hg1 : (thP p q (m + 1) k).getD k 0 = ((fnI q k : Nat) : Int) := by
                unfold thP; rw [liI_get _ (by omega), if_neg (by omega)]
              rw [hg1] at c1
              have hqk := HFQ.out.1 k (by omega)
              have hpq := HOP.out.1 (fnI q k) (by rw [HLA.out]; exact hqk)
              obtain ⟨b2, off2, rfl, hc2⟩ := (HA.out.stay HN.out).addr (by omega)
              have c2 := hc2 (fnI q k) hqk
              have hpe : p.getD (fnI q k) 0 = ((fnI p (fnI q k) : Nat) : Int) := by unfold fnI at hpq ⊢; omega
              rw [hpe] at c2
              have HSS := Lib.hid (thP_set p q (n := m + 1) (k := k) (by omega))
              obtain ⟨y, hy⟩ : ∃ z, fnI p (fnI q k) = z := ⟨_, rfl⟩
              rw [hy] at c2 HSS
              obtain ⟨x, hx⟩ : ∃ z, fnI q k = z := ⟨_, rfl⟩
              rw [hx] at c1 c2 hqk
              have hx0 : (0 : Int) ≤ (x : Int) := by omega
              have hxm : (x : Int) < ((m + 1 : Nat) : Int) := by omega
              have HO2 : Hid ((wq.setCell ⟨g, k, none⟩ (.int .i64 (y : Nat))).ownsRow w8.heap.size 3 1 (.slice (some ⟨g, 0, none⟩) (m + 1 : Nat) cap) (m + 1) ((thP p q (m + 1) (k + 1)).map fun x => .int .i64 x)) := Lib.hid (by
                rw [← HSS.out, List.map_set]; exact ow_set HO.out k _)
              have HN2 : Hid (New w (wq.setCell ⟨g, k, none⟩ (.int .i64 (y : Nat)))) := Lib.hid (HN.out.setCell hgw _)
              clear hg1 hpq hpe hy hx hc2 HSS
              go_wp2
              exact ⟨⟨k + 1, by omega, by go_num, HO2.out, HN2.out⟩, by simp [intOf]; omega⟩
            · obtain rfl : k = m + 1 := by omega
              obtain ⟨ar, cr, he, hz⟩ := ZRow.of_owns HO.out (by omega) HIN.out
              cases he
              rw [← HR.out] at hz
              have HZ := Lib.hid hz
              have HLR : Hid ((thR p q).length = m + 1) := Lib.hid hz.len_eq
              clear hz
              go_wp2
              go_ret
              rw [HLR.out]
              exact ⟨_, _, rfl, HZ.out, HN.out⟩
  · have HF : Hid (thB p q = false) := Lib.hid (by unfold thB; rw [decide_eq_false (by rw [HLA.out, HLB.out]; exact hl)]; rfl)
    have hne : ((na : Int) != (nb : Int)) = true := by rw [bne_iff_ne]; omega
    go_enter Try.func46, Try.ntmps46
    go_wp2
    go_ret
    exact HNO.out HF.out _ (New.refl _)
end Go.Proofs.Ytajjpllhihgkdaa
