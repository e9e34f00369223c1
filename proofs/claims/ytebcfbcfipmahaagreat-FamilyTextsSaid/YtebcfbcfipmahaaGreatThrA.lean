/- through: which words are below the prime, what is wrong with points, factors; the document's own values. -/
import Derived.Test.YtebcfbcfipmahaaGreatThrM
import Derived.Test.YtebcfbcfipmahaaGreatPolW
namespace Go.Proofs.YtebcfbcfipmahaaGreat
open Go.RowKit Go.Bv
set_option linter.unusedVariables false
/-- whether all words are below the prime -/
def blw (l : List (BitVec 64)) : Bool := decide (∀ j, j < l.length → (l.getD j 0).toNat < PP)
theorem blw_yes {l : List (BitVec 64)} (h : ∀ j, j < l.length → (l.getD j 0).toNat < PP) : blw l = true := decide_eq_true h
theorem blw_no {l : List (BitVec 64)} {k : Nat} (hk : k < l.length) (h : ¬ (l.getD k 0).toNat < PP) : blw l = false := decide_eq_false (fun hh => h (hh k hk))
theorem blw_out {l : List (BitVec 64)} (h : blw l = true) : ∀ j, j < l.length → (l.getD j 0).toNat < PP := of_decide_eq_true h
/-- no two are alike -/
def unl (l : List (BitVec 64)) : Prop := ∀ i, i < l.length → ∀ k, k < i → l.getD k 0 ≠ l.getD i 0
instance (l : List (BitVec 64)) : Decidable (unl l) := by unfold unl; infer_instance
/-- what is wrong with points -/
def chkT (xs ys : List (BitVec 64)) : Int := if xs.length < 1 ∨ 64 < xs.length ∨ xs.length ≠ ys.length then 1 else if (blw xs && blw ys) = true then (if unl xs then 0 else 15) else 2
/-- the values of coefficients -/
def vals (c xs : List (BitVec 64)) : List (BitVec 64) := xs.map fun x => mp (nv c x)
theorem vals_len (c xs : List (BitVec 64)) : (vals c xs).length = xs.length := by unfold vals; simp
theorem vals_get (c xs : List (BitVec 64)) (i : Nat) (h : i < xs.length) : (vals c xs).getD i 0 = mp (nv c (xs.getD i 0)) := by
  unfold vals
  rw [List.getD_eq_getElem?_getD, List.getElem?_map, List.getElem?_eq_getElem h, List.getD_eq_getElem?_getD, List.getElem?_eq_getElem h]; rfl
theorem vals_take (c xs : List (BitVec 64)) (k : Nat) (h : k < xs.length) : vals c (xs.take (k + 1)) = vals c (xs.take k) ++ [mp (nv c (xs.getD k 0))] := by
  unfold vals
  rw [List.take_add_one, List.map_append, List.getElem?_eq_getElem h, List.getD_eq_getElem?_getD, List.getElem?_eq_getElem h]; rfl
set_option maxHeartbeats 1000000 in
theorem inf_q (a : Option Addr) (n c : Nat) (l : List (BitVec 64)) (w : World) (h : QRow w a n c l) :
    Calls Tryz.prog 148 #[.slice a n c] w fun e w' => e = .returned (.bool (blw l)) ∧ w' = w := by
  have hm := h.most
  have HL := Lib.hid h.len_eq
  have HH := Lib.hid h
  clear h
  go_enter Tryz.func148, Tryz.ntmps148
  go_wp2
  go_loop [7] (fun i => ∃ k : Nat, k ≤ n ∧ i = .int .i64 (k : Int) ∧ Hid (∀ j, j < k → (l.getD j 0).toNat < PP)) (fun i => n - (intOf i).toNat)
  case atStart => exact ⟨0, Nat.zero_le _, rfl, Lib.hid (fun j hj => by omega)⟩
  case round =>
    obtain ⟨k, hk, rfl, H⟩ := hrel
    by_cases hlt : (k : Int) < (n : Int)
    · obtain ⟨b, off, rfl, hc⟩ := HH.out.addr (by omega)
      have c1 := hc k (by omega)
      clear hc
      have hk0 : (0 : Int) ≤ (k : Int) := by omega
      by_cases hp : (l.getD k 0).toNat < PP
      · have HP : Hid ((l.getD k 0).toNat < PP) := Lib.hid hp
        have hg : decide (2305843009213693951 ≤ W64 (l.getD k 0)) = false := decide_eq_false (by unfold PP at hp; unfold W64; omega)
        clear hp
        obtain ⟨y, hy⟩ : ∃ z, l.getD k 0 = z := ⟨_, rfl⟩
        rw [hy] at c1 hg
        clear hy
        go_wp2
        refine ⟨⟨k + 1, by omega, by go_num, Lib.hid (fun j hj => ?_)⟩, by simp [intOf]; omega⟩
        by_cases e : j = k
        · subst e; exact HP.out
        · exact H.out j (by omega)
      · have HE : Hid (blw l = false) := Lib.hid (blw_no (by rw [HL.out]; omega) hp)
        have hg : decide (2305843009213693951 ≤ W64 (l.getD k 0)) = true := decide_eq_true (by unfold PP at hp; unfold W64; omega)
        clear hp
        obtain ⟨y, hy⟩ : ∃ z, l.getD k 0 = z := ⟨_, rfl⟩
        rw [hy] at c1 hg
        clear hy
        go_wp2
        go_ret
        rw [HE.out]; exact ⟨rfl, rfl⟩
    · obtain rfl : k = n := by omega
      have HE : Hid (blw l = true) := Lib.hid (blw_yes (by rw [HL.out]; exact H.out))
      clear H
      go_wp2
      go_ret
      rw [HE.out]; exact ⟨rfl, rfl⟩
theorem msub_p (a b : BitVec 64) (w : World) : Calls Tryz.prog 121 #[.int .i64 61, .int .u64 (W64 a), .int .u64 (W64 b)] w fun e w' => e = .returned (.int .u64 (W64 (sb a b))) ∧ New w w' := by
  have h := mersub_any 61 a b w
  rw [pM61, md_mp, md_mp] at h
  exact h
theorem factor_q (x : BitVec 64) (w : World) : Calls Tryz.prog 153 #[.int .u64 (W64 x)] w fun e w' => ∃ a, e = .returned (.slice a 2 2) ∧ QRow w' a 2 2 [sb 0#64 x, 1#64] ∧ New w w' := by
  have HS := Lib.hid (fun w => msub_p 0#64 x w)
  obtain ⟨s, hs⟩ : ∃ z, sb 0#64 x = z := ⟨_, rfl⟩
  rw [hs, lo_zero] at HS
  rw [hs]
  clear hs
  go_enter Tryz.func153, Tryz.ntmps153
  go_wp2_with fail
  refine (HS.out _).mono ?_
  rintro e w9 ⟨rfl, hn⟩
  have HQ := Lib.hid (qrow2 w9 s 1#64)
  have HN := Lib.hid (hn.alloc (.cells #[.int .u64 (W64 s), .int .u64 (W64 1#64)] 31))
  rw [show W64 1#64 = 1 by decide] at HQ HN
  clear hn HS
  go_wp2
  go_ret
  exact ⟨_, rfl, HQ.out, HN.out⟩
end Go.Proofs.YtebcfbcfipmahaaGreat
