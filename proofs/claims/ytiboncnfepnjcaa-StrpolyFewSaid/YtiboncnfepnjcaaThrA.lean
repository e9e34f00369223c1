/- through: which words are below the prime, what is wrong with points, factors; the document's own values. -/
import Derived.Test.YtiboncnfepnjcaaThrM
import Derived.Test.YtiboncnfepnjcaaPolW
namespace Go.Proofs.Ytiboncnfepnjcaa
open Go.RowKit Go.Bv
set_option linter.unusedVariables false
/-- whether all words are below the prime -/
def blw (l : List (BitVec 64)) : Bool := decide (∀ j, j < l.length → (l.getD j 0).toNat < PP)
theorem blw_yes {l : List (BitVec 64)} (h : ∀ j, j < l.length → (l.getD j 0).toNat < PP) : blw l = true := decide_eq_true h
theorem blw_no {l : List (BitVec 64)} {k : Nat} (hk : k < l.length) (h : ¬ (l.getD k 0).toNat < PP) : blw l = false := decide_eq_false (fun hh => h (hh k hk))
theorem blw_out {l : List (BitVec 64)} (h : blw l = true) : ∀ j, j < l.length → (l.getD j 0).toNat < PP := of_decide_eq_true h
/-- no two are alike -/
def unl (l : List (BitVec 64)) : Prop := ∀ i, i < l.length → ∀ k, k < i → l.getD k 0 ≠ l.getD i 0
instance (l : List (BitVec 64)) : Decidable (unl l) := by unfold unl; infer_instance
/-- what is wrong with points -/
def chkT (xs ys : List (BitVec 64)) : Int := if xs.length < 1 ∨ 64 < xs.length ∨ xs.length ≠ ys.length then 1 else if (blw xs && blw ys) = true then (if unl xs then 0 else 15) else 2
/-- the values of coefficients -/
def vals (c xs : List (BitVec 64)) : List (BitVec 64) := xs.map fun x => mp (nv c x)
theorem vals_len (c xs : List (BitVec 64)) : (vals c xs).length = xs.length := by unfold vals; simp
theorem vals_get (c xs : List (BitVec 64)) (i : Nat) (h : i < xs.length) : (vals c xs).getD i 0 = mp (nv c (xs.getD i 0)) := by
  unfold vals
  rw [List.getD_eq_getElem?_getD, List.getElem?_map, List.getElem?_eq_getElem h, List.getD_eq_getElem?_getD, List.getElem?_eq_getElem h]; rfl
theorem vals_take (c xs : List (BitVec 64)) (k : Nat) (h : k < xs.length) : vals c (xs.take (k + 1)) = vals c (xs.take k) ++ [mp (nv c (xs.getD k 0))] := by
  unfold vals
  rw [List.take_add_one, List.map_append, List.getElem?_eq_getElem h, List.getD_eq_getElem?_getD, List.getElem?_eq_getElem h]; rfl
set_option maxHeartbeats 1000000 in
theorem inf_q (a : Option Addr) (n c : Nat) (l : List (BitVec 64)) (w : World) (h : QRow w a n c l) :
    Calls Try.prog 68 #[.slice a n c] w fun e w' => e = .returned (.bool (blw l)) ∧ w' = w := by
  have hm := h.most
  have HL := Lib.hid h.len_eq
  have HH := Lib.hid h
  clear h
  go_enter Try.func68, Try.ntmps68
  go_wp2
  go_loop [7] (fun i => ∃ k : Nat, k ≤ n ∧ i = .int .i64 (k : Int) ∧ Hid (∀ j, j < k → (l.getD j 0).toNat < PP)) (fun i => n - (intOf i).toNat)
  case atStart => exact ⟨0, Nat.zero_le _, rfl, Lib.hid (fun j hj => by omega)⟩
  case round =>
    obtain ⟨k, hk, rfl, H⟩ := hrel
    by_cases hlt : (k : Int) < (n : Int)
    · obtain ⟨b, off, rfl, hc⟩ := HH.out.addr (by omega)
      have c1 := hc k (by omega)
      clear hc
      have hk0 : (0 : Int) ≤ (k : Int) := by omega
      by_cases hp : (l.getD k 0).toNat < PP
      · have HP : Hid ((l.getD k 0).toNat < PP) := Lib.hid hp
        have hg : decide (2305843009213693951 ≤ W64 (l.getD k 0)) = false := decide_eq_false (by unfold PP at hp; unfold W64; omega)
        clear hp
        obtain ⟨y, hy⟩ : ∃ z, l.getD k 0 = z := ⟨_, rfl⟩
        rw [hy] at c1 hg
        clear hy
        go_wp2
        refine ⟨⟨k + 1, by omega, by go_num, Lib.hid (fun j hj => ?_)⟩, by simp [intOf]; omega⟩
        by_cases e : j = k
        · subst e; exact HP.out
        · exact H.out j (by omega)
      · have HE : Hid (blw l = false) := Lib.hid (blw_no (by rw [HL.out]; omega) hp)
        have hg : decide (2305843009213693951 ≤ W64 (l.getD k 0)) = true := decide_eq_true (by unfold PP at hp; unfold W64; omega)
        clear hp
        obtain ⟨y, hy⟩ : ∃ z, l.getD k 0 = z := ⟨_, rfl⟩
        rw [hy] at c1 hg
        clear hy
        go_wp2
        go_ret
        rw [HE.out]; exact ⟨rfl, rfl⟩
    · obtain rfl : k = n := by omega
      have HE : Hid (blw l = true) := Lib.hid (blw_yes (by rw [HL.out]; exact H.out))
      clear H
      go_wp2
      go_ret
      rw [HE.out]; exact ⟨rfl, rfl⟩
set_option maxHeartbeats 1000000 in
theorem bel_q (a : Option Addr) (n c : Nat) (l : List (BitVec 64)) (w : World) (h : QRow w a n c l) :
    Calls Try.prog 36 #[.slice a n c] w fun e w' => e = .returned (.bool (blw l)) ∧ w' = w := by
  have hm := h.most
  have HL := Lib.hid h.len_eq
  have HH := Lib.hid h
  clear h
  go_enter Try.func36, Try.ntmps36
  go_wp2
  go_loop [7] (fun i => ∃ k : Nat, k ≤ n ∧ i = .int .i64 (k : Int) ∧ Hid (∀ j, j < k → (l.getD j 0).toNat < PP)) (fun i => n - (intOf i).toNat)
  case atStart => exact ⟨0, Nat.zero_le _, rfl, Lib.hid (fun j hj => by omega)⟩
  case round =>
    obtain ⟨k, hk, rfl, H⟩ := hrel
    by_cases hlt : (k : Int) < (n : Int)
    · obtain ⟨b, off, rfl, hc⟩ := HH.out.addr (by omega)
      have c1 := hc k (by omega)
      clear hc
      have hk0 : (0 : Int) ≤ (k : Int) := by omega
      by_cases hp : (l.getD k 0).toNat < PP
      · have HP : Hid ((l.getD k 0).toNat < PP) := Lib.hid hp
        have hg : decide (2305843009213693951 ≤ W64 (l.getD k 0)) = false := decide_eq_false (by unfold PP at hp; unfold W64; omega)
        clear hp
        obtain ⟨y, hy⟩ : ∃ z, l.getD k 0 = z := ⟨_, rfl⟩
        rw [hy] at c1 hg
        clear hy
        go_wp2
        refine ⟨⟨k + 1, by omega, by go_num, Lib.hid (fun j hj => ?_)⟩, by simp [intOf]; omega⟩
        by_cases e : j = k
        · subst e; exact HP.out
        · exact H.out j (by omega)
      · have HE : Hid (blw l = false) := Lib.hid (blw_no (by rw [HL.out]; omega) hp)
        have hg : decide (2305843009213693951 ≤ W64 (l.getD k 0)) = true := decide_eq_true (by unfold PP at hp; unfold W64; omega)
        clear hp
        obtain ⟨y, hy⟩ : ∃ z, l.getD k 0 = z := ⟨_, rfl⟩
        rw [hy] at c1 hg
        clear hy
        go_wp2
        go_ret
        rw [HE.out]; exact ⟨rfl, rfl⟩
    · obtain rfl : k = n := by omega
      have HE : Hid (blw l = true) := Lib.hid (blw_yes (by rw [HL.out]; exact H.out))
      clear H
      go_wp2
      go_ret
      rw [HE.out]; exact ⟨rfl, rfl⟩
theorem msub_p (a b : BitVec 64) (w : World) : Calls Try.prog 69 #[.int .i64 61, .int .u64 (W64 a), .int .u64 (W64 b)] w fun e w' => e = .returned (.int .u64 (W64 (sb a b))) ∧ New w w' := by
  have h := mersub_any 61 a b w
  rw [pM61, md_mp, md_mp] at h
  exact h
theorem factor_q (x : BitVec 64) (w : World) : Calls Try.prog 67 #[.int .u64 (W64 x)] w fun e w' => ∃ a, e = .returned (.slice a 2 2) ∧ QRow w' a 2 2 [sb 0#64 x, 1#64] ∧ New w w' := by
  have HS := Lib.hid (fun w => msub_p 0#64 x w)
  obtain ⟨s, hs⟩ : ∃ z, sb 0#64 x = z := ⟨_, rfl⟩
  rw [hs, lo_zero] at HS
  rw [hs]
  clear hs
  go_enter Try.func67, Try.ntmps67
  go_wp2_with fail
  refine (HS.out _).mono ?_
  rintro e w9 ⟨rfl, hn⟩
  have HQ := Lib.hid (qrow2 w9 s 1#64)
  have HN := Lib.hid (hn.alloc (.cells #[.int .u64 (W64 s), .int .u64 (W64 1#64)] 23))
  rw [show W64 1#64 = 1 by decide] at HQ HN
  clear hn HS
  go_wp2
  go_ret
  exact ⟨_, rfl, HQ.out, HN.out⟩
set_option maxRecDepth 100000 in
set_option maxHeartbeats 4000000 in
theorem rvals_q (a b : Option Addr) (na ca nb cb : Nat) (c xs : List (BitVec 64)) (w : World) (ha : QRow w a na ca c) (hb : QRow w b nb cb xs) :
    Calls Try.prog 37 #[.slice a na ca, .slice b nb cb] w fun e w' => ∃ a' c', e = .returned (.slice a' (nb : Nat) c') ∧ QRow w' a' nb c' (vals c xs) ∧ New w w' := by
  obtain ⟨i0, hi, hz0, hz1, hz2⟩ := info_parts info_u64q
  have hma := ha.most
  have hmb := hb.most
  have HHA := Lib.hid ha
  have HHB := Lib.hid hb
  have HL := Lib.hid hb.len_eq
  clear ha hb
  go_enter Try.func37, Try.ntmps37
  go_wp2
  go_loopw [5, 10] (fun v iv wr => ∃ k : Nat, k ≤ nb ∧ iv = .int .i64 (k : Int) ∧ wr.ownsRow w.heap.size 23 1 v k ((vals c (xs.take k)).map fun y => .int .u64 (W64 y)) ∧ New w wr) (fun _ iv _ => nb - (intOf iv).toNat)
  case atStart => exact ⟨0, Nat.zero_le _, rfl, World.ownsRow_nil w _ _ 1, New.refl w⟩
  case round =>
    obtain ⟨k, hk, rfl, hown, hnew⟩ := hrel
    have HO := Lib.hid hown
    have HN := Lib.hid hnew
    obtain ⟨wq, hwq⟩ : ∃ z, z = wr := ⟨_, rfl⟩
    rw [← hwq] at HO HN ⊢
    clear hown hnew hwq
    by_cases hlt : (k : Int) < (nb : Int)
    · obtain ⟨b1, off1, rfl, hc⟩ := (HHB.out.stay HN.out).addr (by omega)
      have c1 := hc k (by omega)
      clear hc
      have hk0 : (0 : Int) ≤ (k : Int) := by omega
      have HSS := Lib.hid (vals_take c xs k (by rw [HL.out]; omega))
      obtain ⟨x, hx⟩ : ∃ z, xs.getD k 0 = z := ⟨_, rfl⟩
      rw [hx] at c1 HSS
      clear hx
      have HV := Lib.hid (value_q _ _ _ _ x wq (HHA.out.stay HN.out))
      obtain ⟨s, hs⟩ : ∃ z, mp (nv c x) = z := ⟨_, rfl⟩
      rw [hs] at HV HSS
      clear hs
      go_wp2_with fail
      clear c1
      refine (HV.out).mono ?_
      rintro e w' ⟨rfl, hw⟩
      replace hw := hw.symm
      subst hw
      have hown := HO.out
      have hnew := HN.out
      go_wp2_with (at_builtin; refine wpList_append_own _ rfl _ _ 22 rfl w.heap.size 23 i0 (.int .u64 0) 1 8 Try.underlying22 hi hz0 hz1 hz2 rfl (by decide) _ k _ rfl (hown.alloc _) ⟨wq.heap.size, 0, none⟩ 1 1 [.int .u64 (W64 s)] rfl rfl ?c1 ?c2 ?c3 ?c4 ?c5 ?_)
      try (case c1 => exact new_cells_q wq _ _)
      try (case c2 => first | rfl | (intro u hu; simp at hu; subst hu; rfl))
      try (case c3 => first | (unfold maxLen; omega) | omega)
      try (case c4 => omega)
      try (case c5 => first | (simp; have := hnew.le; omega) | (have := hnew.le; omega))
      intro v' w1 how hgr _
      have HO2 : Hid (w1.ownsRow w.heap.size 23 1 v' (k + 1) ((vals c (xs.take (k + 1))).map fun y => .int .u64 (W64 y))) := Lib.hid (by
        rw [HSS.out, List.map_append]; exact how)
      have HN1 := Lib.hid ((hnew.alloc _).grown' hgr (own_base hown))
      clear how hgr hown hnew
      go_wp2
      exact ⟨⟨k + 1, by omega, by go_num, HO2.out, HN1.out⟩, by simp [intOf]; omega⟩
    · obtain rfl : k = nb := by omega
      obtain ⟨a', cap', rfl, hrow⟩ := QRow.of_owns HO.out (by omega)
      rw [List.take_of_length_le (by rw [HL.out]; exact Nat.le_refl _)] at hrow
      have HR := Lib.hid hrow
      clear hrow HO
      go_wp2
      go_ret
      exact ⟨a', cap', rfl, HR.out, HN.out⟩
end Go.Proofs.Ytiboncnfepnjcaa
