/- Roots: plain lemmas; the document's own. -/
import Derived.Test.YtiboncnfepnjcaaThrN
namespace Go.Proofs.Ytiboncnfepnjcaa
open Go.RowKit Go.Bv
set_option linter.unusedVariables false
/-- the roots among the first k of l, each once -/
def rts (c l : List (BitVec 64)) : Nat → List (BitVec 64)
  | 0 => []
  | k + 1 => if cm l k ∈ rts c l k then rts c l k else if mp (nv c (cm l k)) = 0#64 then rts c l k ++ [cm l k] else rts c l k
theorem rts_in {c l : List (BitVec 64)} {k : Nat} (h : cm l k ∈ rts c l k) : rts c l (k + 1) = rts c l k := if_pos h
theorem rts_no {c l : List (BitVec 64)} {k : Nat} (h : mp (nv c (cm l k)) ≠ 0#64) : rts c l (k + 1) = rts c l k := by
  show (if _ then _ else _) = _
  by_cases e : cm l k ∈ rts c l k
  · rw [if_pos e]
  · rw [if_neg e, if_neg h]
theorem rts_new {c l : List (BitVec 64)} {k : Nat} (h : cm l k ∉ rts c l k) (h2 : mp (nv c (cm l k)) = 0#64) : rts c l (k + 1) = rts c l k ++ [cm l k] := by
  show (if _ then _ else _) = _
  rw [if_neg h, if_pos h2]
theorem rts_sub {c l : List (BitVec 64)} {k : Nat} {y : BitVec 64} (h : y ∈ rts c l k) : y ∈ rts c l (k + 1) := by
  show y ∈ (if _ then _ else _)
  split
  · exact h
  · split
    · exact List.mem_append_left _ h
    · exact h
theorem rts_len (c l : List (BitVec 64)) : ∀ k, (rts c l k).length ≤ k
  | 0 => Nat.le_refl _
  | k + 1 => by
    have h1 := rts_len c l k
    show (if _ then _ else _ : List (BitVec 64)).length ≤ k + 1
    split
    · omega
    · split
      · simp; omega
      · omega
theorem rts_mem {c l : List (BitVec 64)} {y : BitVec 64} : ∀ k, y ∈ rts c l k → mp (nv c y) = 0#64 ∧ y.toNat < PP ∧ ∃ j, j < k ∧ cm l j = y
  | 0, h => by cases h
  | k + 1, h => by
    have h' : y ∈ (if cm l k ∈ rts c l k then rts c l k else if mp (nv c (cm l k)) = 0#64 then rts c l k ++ [cm l k] else rts c l k) := h
    have old : y ∈ rts c l k → mp (nv c y) = 0#64 ∧ y.toNat < PP ∧ ∃ j, j < k + 1 ∧ cm l j = y := fun h => by
      obtain ⟨h1, h2, j, h3, h4⟩ := rts_mem k h
      exact ⟨h1, h2, j, by omega, h4⟩
    by_cases e : cm l k ∈ rts c l k
    · rw [if_pos e] at h'; exact old h'
    · rw [if_neg e] at h'
      by_cases e2 : mp (nv c (cm l k)) = 0#64
      · rw [if_pos e2, List.mem_append, List.mem_singleton] at h'
        rcases h' with h' | rfl
        · exact old h'
        · exact ⟨e2, mp_lt _, k, by omega, rfl⟩
      · rw [if_neg e2] at h'; exact old h'
theorem rts_seen {c l : List (BitVec 64)} {y : BitVec 64} : ∀ k, (∃ j, j < k ∧ cm l j = y) → mp (nv c y) = 0#64 → y ∈ rts c l k
  | 0, h, _ => by obtain ⟨j, hj, _⟩ := h; omega
  | k + 1, h, h0 => by
    obtain ⟨j, hj, hy⟩ := h
    by_cases e : j < k
    · exact rts_sub (rts_seen k ⟨j, e, hy⟩ h0)
    · obtain rfl : j = k := by omega
      by_cases e2 : cm l j ∈ rts c l j
      · rw [rts_in e2, ← hy]; exact e2
      · rw [rts_new e2 (by rw [hy]; exact h0), ← hy]; simp
theorem rts_apart (c l : List (BitVec 64)) : ∀ k, (rts c l k).Nodup
  | 0 => List.nodup_nil
  | k + 1 => by
    by_cases e : cm l k ∈ rts c l k
    · rw [rts_in e]; exact rts_apart c l k
    · by_cases e2 : mp (nv c (cm l k)) = 0#64
      · rw [rts_new e e2, List.nodup_append]
        refine ⟨rts_apart c l k, by simp, fun a ha b hb => ?_⟩
        rw [List.mem_singleton] at hb
        subst hb
        exact fun e3 => e (e3 ▸ ha)
      · rw [rts_no e2]; exact rts_apart c l k
theorem topF_top (f : Nat → BitVec 64) : ∀ n, 0 < topF f n → f (topF f n - 1) ≠ 0#64
  | 0, h => by exact absurd h (by show ¬ 0 < 0; omega)
  | n + 1, h => by
    have e : topF f (n + 1) = if f n = 0#64 then topF f n else n + 1 := rfl
    by_cases e2 : f n = 0#64
    · rw [if_pos e2] at e; rw [e] at h ⊢; exact topF_top f n h
    · rw [if_neg e2] at e; rw [e, Nat.add_sub_cancel]; exact e2
/-- a polynomial that is not 0 has fewer roots than coefficients -/
theorem rts_few (c l : List (BitVec 64)) (k : Nat) (h : 0 < (trimL c).length) : (rts c l k).length + 1 ≤ (trimL c).length := by
  rcases Nat.lt_or_ge (rts c l k).length (trimL c).length with h1 | h1
  · exact h1
  exfalso
  have hnd := rts_apart c l k
  have hmem : ∀ i, i < (trimL c).length → (rts c l k).getD i 0 ∈ rts c l k := fun i hi => by
    rw [List.getD_eq_getElem?_getD, List.getElem?_eq_getElem (by omega)]
    exact List.getElem_mem _
  have hX : ∀ i j, i < (trimL c).length → j < (trimL c).length → i ≠ j → XF (rts c l k) i - XF (rts c l k) j ≠ 0 := by
    intro i j hi hj hij e
    have e1 : XF (rts c l k) i = XF (rts c l k) j := by
      generalize XF (rts c l k) i = p at *
      generalize XF (rts c l k) j = q at *
      grind
    have e2 := fw_inj (rts_mem k (hmem i hi)).2.1 (rts_mem k (hmem j hj)).2.1 e1
    rw [List.getD_eq_getElem?_getD, List.getElem?_eq_getElem (by omega), List.getD_eq_getElem?_getD, List.getElem?_eq_getElem (by omega)] at e2
    have hpw := List.pairwise_iff_getElem.1 hnd
    rcases Nat.lt_or_gt_of_ne hij with h3 | h3
    · exact hpw i j (by omega) (by omega) h3 e2
    · exact hpw j i (by omega) (by omega) h3 e2.symm
  have h2 := roots_none (trimL c).length (XF (trimL c)) (XF (rts c l k)) hX (fun i hi => by
    have e1 := (rts_mem k (hmem i hi)).1
    have e2 := nv_trim c ((rts c l k).getD i 0)
    rw [e1] at e2
    have e3 := nv_pv (trimL c) ((rts c l k).getD i 0) (trimL c).length (Nat.le_refl _)
    rw [← fw_mp, e2] at e3
    exact e3.symm) ((trimL c).length - 1) (by omega)
  have h3 : (trimL c).length = topF (cm c) c.length := by unfold trimL; rw [trimF_len]
  have h4 := topF_top (cm c) c.length (by omega)
  rw [← h3, ← trimL_get] at h4
  refine h4 (fw_inj ?_ (by decide) ?_)
  · rw [trimL_get]; exact mp_lt _
  · exact h2
/-- how often y is among the first k -/
def ct (l : List (BitVec 64)) (y : BitVec 64) : Nat → Nat
  | 0 => 0
  | k + 1 => ct l y k + if cm l k = y then 1 else 0
theorem ct_le (l : List (BitVec 64)) (y : BitVec 64) : ∀ k, ct l y k ≤ k
  | 0 => Nat.le_refl _
  | k + 1 => by
    have := ct_le l y k
    show ct l y k + (if _ then 1 else 0) ≤ k + 1
    split <;> omega
theorem ct_seen {l : List (BitVec 64)} {y : BitVec 64} : ∀ k, 0 < ct l y k → ∃ j, j < k ∧ cm l j = y
  | 0, h => absurd h (by show ¬ 0 < 0; omega)
  | k + 1, h => by
    by_cases e : cm l k = y
    · exact ⟨k, by omega, e⟩
    · have h' : 0 < ct l y k + (if cm l k = y then 1 else 0) := h
      rw [if_neg e, Nat.add_zero] at h'
      obtain ⟨j, hj, hy⟩ := ct_seen k h'
      exact ⟨j, by omega, hy⟩
theorem ct_none {l : List (BitVec 64)} {y : BitVec 64} : ∀ k, ct l y k = 0 → ∀ j, j < k → cm l j ≠ y
  | 0, _, j, hj => by omega
  | k + 1, h, j, hj => by
    have h' : ct l y k + (if cm l k = y then 1 else 0) = 0 := h
    by_cases e : cm l k = y
    · rw [if_pos e] at h'; omega
    · by_cases e2 : j = k
      · subst e2; exact e
      · exact ct_none k (by omega) j (by omega)
theorem own_new {w w' : World} {base : Nat} {e : TypeId} {size : Nat} {v : Value} {n : Nat} {xs : List Value} (h : w.ownsRow base e size v n xs) (hn : New w w') : w'.ownsRow base e size v n xs := by
  refine ⟨h.1, ?_⟩
  rcases h.2 with h2 | ⟨g, cap, cur, hv, hb, hg, rest⟩
  · exact .inl h2
  · exact .inr ⟨g, cap, cur, hv, hb, (hn.block _ (lt_of_block hg)).trans hg, rest⟩
set_option maxRecDepth 100000 in
set_option maxHeartbeats 4000000 in
theorem rroots_q (a b : Option Addr) (na ca nb cb : Nat) (c l : List (BitVec 64)) (w : World) (ha : QRow w a na ca c) (hb : QRow w b nb cb l) :
    Calls Try.prog 31 #[.slice a na ca, .slice b nb cb] w fun e w' => ∃ a' c', e = .returned (.slice a' ((rts c l nb).length : Nat) c') ∧ QRow w' a' (rts c l nb).length c' (rts c l nb) ∧ New w w' := by
  obtain ⟨i0, hi, hz0, hz1, hz2⟩ := info_parts info_u64q
  have hma := ha.most
  have hmb := hb.most
  have HHA := Lib.hid ha
  have HHB := Lib.hid hb
  have HL := Lib.hid hb.len_eq
  clear ha hb
  go_enter Try.func31, Try.ntmps31
  go_wp2
  go_loopw [5, 13] (fun v iv wr => ∃ k : Nat, k ≤ nb ∧ iv = .int .i64 (k : Int) ∧ wr.ownsRow w.heap.size 23 1 v (rts c l k).length ((rts c l k).map fun y => .int .u64 (W64 y)) ∧ New w wr) (fun _ iv _ => nb - (intOf iv).toNat)
  case atStart => exact ⟨0, Nat.zero_le _, rfl, World.ownsRow_nil w _ _ 1, New.refl w⟩
  case round =>
    obtain ⟨k, hk, rfl, hown, hnew⟩ := hrel
    have HO := Lib.hid hown
    have HN := Lib.hid hnew
    obtain ⟨wq, hwq⟩ : ∃ z, z = wr := ⟨_, rfl⟩
    rw [← hwq] at HO HN ⊢
    clear hown hnew hwq
    have HTL := Lib.hid (rts_len c l k)
    by_cases hlt : (k : Int) < (nb : Int)
    · obtain ⟨b1, off1, rfl, hc⟩ := (HHB.out.stay HN.out).addr (by omega)
      have c1 := hc k (by omega)
      clear hc
      have hk0 : (0 : Int) ≤ (k : Int) := by omega
      have hcm : l.getD k 0 % 2305843009213693951#64 = cm l k := mod_mp _
      have HV := Lib.hid (value_q _ _ _ _ (cm l k) wq (HHA.out.stay HN.out))
      have HRI := Lib.hid (fun h => rts_in (c := c) (l := l) (k := k) h)
      have HRO := Lib.hid (fun h => rts_no (c := c) (l := l) (k := k) h)
      have HRN := Lib.hid (fun h h2 => rts_new (c := c) (l := l) (k := k) h h2)
      obtain ⟨ra, rc, rfl, hrow⟩ := QRow.of_owns HO.out (by have := HTL.out; omega)
      have HR := Lib.hid hrow
      clear hrow
      obtain ⟨x, hx⟩ : ∃ z, l.getD k 0 = z := ⟨_, rfl⟩
      rw [hx] at c1 hcm
      clear hx
      obtain ⟨y, hy⟩ : ∃ z, cm l k = z := ⟨_, rfl⟩
      rw [hy] at hcm HV HRI HRO HRN
      clear hy
      obtain ⟨s, hs⟩ : ∃ z, mp (nv c y) = z := ⟨_, rfl⟩
      rw [hs] at HV HRO HRN
      clear hs
      obtain ⟨r, hr⟩ : ∃ z, rts c l k = z := ⟨_, rfl⟩
      rw [hr] at HO HTL HRI HRO HRN HR
      rw [hr]
      clear hr
      obtain ⟨rl, hrl⟩ : ∃ z, r.length = z := ⟨_, rfl⟩
      rw [hrl] at HO HTL HR
      have HRL := Lib.hid hrl
      rw [hrl]
      clear hrl
      have hrm := HR.out.most
      go_wp2_with fail
      go_loopw [8, 19] (fun kv iv wr => ∃ i : Nat, i ≤ rl ∧ iv = .int .i64 (i : Int) ∧ kv = .bool (decide (∃ j, j < i ∧ r.getD j 0 = y)) ∧ wr = wq) (fun _ iv _ => rl - (intOf iv).toNat)
      case atStart => exact ⟨0, Nat.zero_le _, rfl, by rw [decide_eq_false (by rintro ⟨j, hj, _⟩; omega)], rfl⟩
      case round =>
        obtain ⟨i, hil, rfl, rfl, hwr⟩ := hrel
        replace hwr := hwr.symm
        subst hwr
        by_cases hlt2 : (i : Int) < (rl : Int)
        · obtain ⟨b2, off2, rfl, hc2⟩ := HR.out.addr (by omega)
          have c2 := hc2 i (by omega)
          clear hc2
          have hi0 : (0 : Int) ≤ (i : Int) := by omega
          obtain ⟨z, hz⟩ : ∃ z, r.getD i 0 = z := ⟨_, rfl⟩
          rw [hz] at c2
          have HZ := Lib.hid hz
          clear hz
          by_cases hkn : ∃ j, j < i ∧ r.getD j 0 = y
          · rw [decide_eq_true hkn]
            have HE : Hid (decide (∃ j, j < i + 1 ∧ r.getD j 0 = y) = true) := Lib.hid (decide_eq_true (by obtain ⟨j, h1, h2⟩ := hkn; exact ⟨j, by omega, h2⟩))
            clear hkn
            go_wp2
            exact ⟨⟨i + 1, by omega, by go_num, by rw [HE.out], by first | rfl | trivial⟩, by simp [intOf]; omega⟩
          · rw [decide_eq_false hkn]
            by_cases he : z = y
            · have HE : Hid (decide (∃ j, j < i + 1 ∧ r.getD j 0 = y) = true) := Lib.hid (decide_eq_true ⟨i, by omega, by rw [HZ.out]; exact he⟩)
              have heq : (z == y) = true := by rw [beq_iff_eq]; exact he
              clear hkn he
              go_wp2
              exact ⟨⟨i + 1, by omega, by go_num, by rw [HE.out], by first | rfl | trivial⟩, by simp [intOf]; omega⟩
            · have HE : Hid (decide (∃ j, j < i + 1 ∧ r.getD j 0 = y) = false) := Lib.hid (decide_eq_false (by
                rintro ⟨j, h1, h2⟩
                by_cases e : j = i
                · subst e; rw [HZ.out] at h2; exact he h2
                · exact hkn ⟨j, by omega, h2⟩))
              have heq : (z == y) = false := by rw [beq_eq_false_iff_ne]; exact he
              clear hkn he
              go_wp2
              exact ⟨⟨i + 1, by omega, by go_num, by rw [HE.out], by first | rfl | trivial⟩, by simp [intOf]; omega⟩
        · obtain rfl : i = rl := by omega
          have HIN : Hid ((∃ j, j < i ∧ r.getD j 0 = y) ↔ y ∈ r) := Lib.hid (by
            constructor
            · rintro ⟨j, h1, h2⟩
              rw [List.getD_eq_getElem?_getD, List.getElem?_eq_getElem (by rw [HRL.out]; exact h1)] at h2
              exact h2 ▸ List.getElem_mem _
            · intro h
              obtain ⟨j, h1, h2⟩ := List.getElem_of_mem h
              exact ⟨j, by rw [← HRL.out]; exact h1, by rw [List.getD_eq_getElem?_getD, List.getElem?_eq_getElem h1]; exact h2⟩)
          by_cases hkn : ∃ j, j < i ∧ r.getD j 0 = y
          · rw [decide_eq_true hkn]
            have HE := Lib.hid (HRI.out (HIN.out.1 hkn))
            clear hkn c1
            go_wp2
            refine ⟨⟨k + 1, by omega, by go_num, ?_, HN.out⟩, by simp [intOf]; omega⟩
            rw [HE.out, HRL.out]; exact HO.out
          · rw [decide_eq_false hkn]
            by_cases hs0 : s = 0#64
            · have HE := Lib.hid (HRN.out (fun h => hkn (HIN.out.2 h)) hs0)
              rw [hs0, lo_zero] at HV
              clear hkn hs0 c1
              go_wp2_with fail
              refine (HV.out).mono ?_
              rintro e w' ⟨rfl, hw⟩
              replace hw := hw.symm
              subst hw
              have hown := HO.out
              have hnew := HN.out
              go_wp2_with (at_builtin; refine wpList_append_own _ rfl _ _ 22 rfl w.heap.size 23 i0 (.int .u64 0) 1 8 Try.underlying22 hi hz0 hz1 hz2 rfl (by decide) _ i _ rfl (hown.alloc _) ⟨wq.heap.size, 0, none⟩ 1 1 [.int .u64 (W64 y)] rfl rfl ?c1 ?c2 ?c3 ?c4 ?c5 ?_)
              try (case c1 => exact new_cells_q wq _ _)
              try (case c2 => first | rfl | (intro u hu; simp at hu; subst hu; rfl))
              try (case c3 => first | (unfold maxLen; (have := HTL.out; omega)) | (have := HTL.out; omega))
              try (case c4 => (have := HTL.out; omega))
              try (case c5 => first | (simp; have := hnew.le; omega) | (have := hnew.le; omega))
              intro v' w1 how hgr _
              have HO2 : Hid (w1.ownsRow w.heap.size 23 1 v' (i + 1) ((r ++ [y]).map fun y => .int .u64 (W64 y))) := Lib.hid (by
                rw [show r ++ [y] = r ++ [y] from rfl, List.map_append]; exact how)
              have HN1 := Lib.hid ((hnew.alloc _).grown' hgr (own_base hown))
              clear how hgr hown hnew
              go_wp2
              refine ⟨⟨k + 1, by omega, by go_num, ?_, HN1.out⟩, by simp [intOf]; omega⟩
              rw [HE.out, List.length_append, HRL.out]; exact HO2.out
            · have HE := Lib.hid (HRO.out hs0)
              have hne : (s == 0#64) = false := by rw [beq_eq_false_iff_ne]; exact hs0
              clear hkn hs0 c1
              go_wp2_with fail
              refine (HV.out).mono ?_
              rintro e w' ⟨rfl, hw⟩
              replace hw := hw.symm
              subst hw
              go_wp2
              refine ⟨⟨k + 1, by omega, by go_num, ?_, HN.out⟩, by simp [intOf]; omega⟩
              rw [HE.out, HRL.out]; exact HO.out
    · obtain rfl : k = nb := by omega
      obtain ⟨a', cap', rfl, hrow⟩ := QRow.of_owns HO.out (by have := HTL.out; omega)
      have HR := Lib.hid hrow
      clear hrow HO
      go_wp2
      go_ret
      exact ⟨a', cap', rfl, HR.out, HN.out⟩
end Go.Proofs.Ytiboncnfepnjcaa
