/- Layer 43: the document's Check of weights, and their sum. -/
import Derived.Test.YtbjclkjikclljaaAliW
namespace Go.Proofs.Ytbjclkjikclljaa
open Go Go.RowKit Go.Bv Go.Ali
set_option linter.unusedVariables false
set_option maxRecDepth 100000
set_option maxHeartbeats 8000000 in
theorem checkr_43 (a : Option Addr) (n c : Nat) (l : List (BitVec 64)) (w : World) (h : QRow w a n c l) :
    Calls Try.prog 10 #[.slice a n c] w fun e w' => e = .returned (.int .i64 (wE l)) ∧ New w w' := by
  have hl := h.len_eq
  have hm := h.most
  by_cases h1 : l.length < 1 ∨ 256 < l.length
  · have HE := Lib.hid (we_len h1)
    rw [hl] at h1
    have h2 : (n : Int) < 1 ∨ (¬ (n : Int) < 1 ∧ (256 : Int) < (n : Int)) := by omega
    clear h1 h hl
    rcases h2 with h2 | ⟨h2, h3⟩
    all_goals (
      go_enter Try.func10, Try.ntmps10
      go_wp2
      go_ret
      rw [HE.out]
      exact ⟨rfl, New.refl _⟩)
  · have HLE := Lib.hid h1
    have h2 : ¬ (n : Int) < 1 := by omega
    have h3 : ¬ (256 : Int) < (n : Int) := by omega
    obtain ⟨p1, o1, e1, _⟩ := h.addr (by omega)
    subst e1
    have HQ := Lib.hid h
    have HL := Lib.hid hl
    clear h1 h hl
    go_enter Try.func10, Try.ntmps10
    go_wp2
    go_loopw [3, 16] (fun sv iv wr => ∃ (k : Nat) (b : Bool), k ≤ n ∧ iv = .int .i64 (k : Int) ∧ sv = .bool b ∧ Hid (New w wr) ∧ Hid (∀ i, i < k → (l.getD i 0).toNat ≤ 4294967296) ∧ Hid ((b = false → ∀ i, i < k → (l.getD i 0).toNat = 0) ∧ (b = true → ∃ i, i < k ∧ (l.getD i 0).toNat ≠ 0))) (fun _ iv _ => n - (intOf iv).toNat)
    case atStart => exact ⟨0, false, Nat.zero_le _, rfl, rfl, Lib.hid (New.refl _), Lib.hid (fun i hi => absurd hi (by omega)), Lib.hid ⟨fun _ i hi => absurd hi (by omega), fun e => by cases e⟩⟩
    case round =>
      obtain ⟨k, b, hk, rfl, rfl, HN, HS, HB⟩ := hrel
      by_cases hlt : (k : Int) < (n : Int)
      · have hk0 : (0 : Int) ≤ (k : Int) := by omega
        have hkn : k < n := by omega
        have d1 := (HQ.out.stay HN.out).cell p1 o1 rfl k hkn
        obtain ⟨x, hx⟩ : ∃ x, l.getD k 0 = x := ⟨_, rfl⟩
        rw [hx] at d1
        have HX := Lib.hid hx
        have hd : decide (4294967296 < W64 x) = decide (4294967296 < x.toNat) := decide_eq_decide.2 (by unfold W64; omega)
        have hd0 : decide (0 < W64 x) = decide (0 < x.toNat) := decide_eq_decide.2 (by unfold W64; omega)
        clear hx
        rcases hb : decide (4294967296 < x.toNat) with _ | _
        · rw [hb] at hd
          have HS2 : Hid (∀ i, i < k + 1 → (l.getD i 0).toNat ≤ 4294967296) := Lib.hid (fun i hi => by
            by_cases e : i = k
            · subst e; rw [HX.out]; have := of_decide_eq_false hb; omega
            · exact HS.out i (by omega))
          clear hb
          rcases b with _ | _
          · rcases hb0 : decide (0 < x.toNat) with _ | _
            · rw [hb0] at hd0
              have HB2 : Hid ((false = false → ∀ i, i < k + 1 → (l.getD i 0).toNat = 0) ∧ (false = true → ∃ i, i < k + 1 ∧ (l.getD i 0).toNat ≠ 0)) := Lib.hid ⟨fun _ i hi => by
                by_cases e : i = k
                · subst e; rw [HX.out]; have := of_decide_eq_false hb0; omega
                · exact HB.out.1 rfl i (by omega), fun e => by cases e⟩
              clear hb0
              go_wp2
              exact ⟨⟨k + 1, false, by omega, by go_num, rfl, HN, HS2, HB2⟩, by simp [intOf]; omega⟩
            · rw [hb0] at hd0
              have HB2 : Hid ((true = false → ∀ i, i < k + 1 → (l.getD i 0).toNat = 0) ∧ (true = true → ∃ i, i < k + 1 ∧ (l.getD i 0).toNat ≠ 0)) := Lib.hid ⟨fun e => (by cases e), fun _ => ⟨k, by omega, by rw [HX.out]; have := of_decide_eq_true hb0; omega⟩⟩
              clear hb0
              go_wp2
              exact ⟨⟨k + 1, true, by omega, by go_num, rfl, HN, HS2, HB2⟩, by simp [intOf]; omega⟩
          · have HB2 : Hid ((true = false → ∀ i, i < k + 1 → (l.getD i 0).toNat = 0) ∧ (true = true → ∃ i, i < k + 1 ∧ (l.getD i 0).toNat ≠ 0)) := Lib.hid ⟨fun e => (by cases e), fun _ => by
              obtain ⟨i, h1, h2⟩ := HB.out.2 rfl
              exact ⟨i, by omega, h2⟩⟩
            go_wp2
            exact ⟨⟨k + 1, true, by omega, by go_num, rfl, HN, HS2, HB2⟩, by simp [intOf]; omega⟩
        · rw [hb] at hd
          have HE := Lib.hid (we_big HLE.out (i := k) (by rw [HL.out]; exact hkn) (by rw [HX.out]; exact of_decide_eq_true hb))
          clear hb
          go_wp2
          go_ret
          rw [HE.out]
          exact ⟨rfl, HN.out⟩
      · obtain rfl : k = n := by omega
        rcases b with _ | _
        · have HE := Lib.hid (we_zero HLE.out (by rw [HL.out]; exact HS.out) (by rw [HL.out]; exact HB.out.1 rfl))
          go_wp2
          go_ret
          rw [HE.out]
          exact ⟨rfl, HN.out⟩
        · have HE : Hid (wE l = 0) := Lib.hid (by
            obtain ⟨i, h1, h2⟩ := HB.out.2 rfl
            exact we_ok HLE.out (by rw [HL.out]; exact HS.out) (i := i) (by rw [HL.out]; exact h1) h2)
          go_wp2
          go_ret
          rw [HE.out]
          exact ⟨rfl, HN.out⟩
set_option maxHeartbeats 8000000 in
theorem totalr_43 (a : Option Addr) (n c : Nat) (l : List (BitVec 64)) (w : World) (h : QRow w a n c l) :
    Calls Try.prog 29 #[.slice a n c] w fun e w' => e = .returned (.int .u64 (W64 (tot l n))) ∧ w' = w := by
  have hm := h.most
  have HQ := Lib.hid h
  have HT0 : Hid (Value.int .u64 0 = .int .u64 (W64 (tot l 0))) := Lib.hid wz43
  clear h
  go_enter Try.func29, Try.ntmps29
  go_wp2
  go_loopw [3, 8] (fun tv iv wr => ∃ k : Nat, k ≤ n ∧ iv = .int .i64 (k : Int) ∧ tv = .int .u64 (W64 (tot l k)) ∧ wr = w) (fun _ iv _ => n - (intOf iv).toNat)
  case atStart => exact ⟨0, Nat.zero_le _, rfl, HT0.out, rfl⟩
  case round =>
    clear HT0
    obtain ⟨k, hk, rfl, rfl, rfl⟩ := hrel
    by_cases hlt : (k : Int) < (n : Int)
    · have hk0 : (0 : Int) ≤ (k : Int) := by omega
      have hkn : k < n := by omega
      obtain ⟨p1, o1, e1, d1⟩ := HQ.out.addr (by omega)
      subst e1
      replace d1 := d1 k hkn
      have HTK : Hid (tot l (k + 1) = tot l k + l.getD k 0) := Lib.hid rfl
      obtain ⟨x, hx⟩ : ∃ x, l.getD k 0 = x := ⟨_, rfl⟩
      rw [hx] at d1 HTK
      obtain ⟨tk, htk⟩ : ∃ tk, tot l k = tk := ⟨_, rfl⟩
      rw [htk] at HTK ⊢
      clear hx htk
      go_wp2
      exact ⟨⟨k + 1, by omega, by go_num, by rw [HTK.out], by first | rfl | trivial⟩, by simp [intOf]; omega⟩
    · obtain rfl : k = n := by omega
      go_wp2
      go_ret
      exact ⟨rfl, by first | rfl | trivial⟩
end Go.Proofs.Ytbjclkjikclljaa
