/- Layer 45: labels. -/
import Derived.Test.YtoplabhoedloeaaGreatDrvM
import Derived.Test.YtoplabhoedloeaaGreatNew
import Derived.Test.YtoplabhoedloeaaGreatProg
import Derived.Handy
namespace Go.Drv
/-- a text of bytes -/
def bs (l : List UInt8) : ByteArray := ⟨l.toArray⟩
theorem bs_size (l : List UInt8) : (bs l).size = l.length := by
  unfold bs ByteArray.size; simp
theorem bs_get (l : List UInt8) (i : Nat) (h : i < (bs l).size) : (bs l)[i]'h = l.getD i 0 := by
  have h2 : i < l.length := by rw [bs_size] at h; exact h
  rw [List.getD_eq_getElem?_getD, List.getElem?_eq_getElem h2]
  show l.toArray[i]'h = l[i]
  exact List.getElem_toArray h
theorem bs_list (l : List UInt8) : (bs l).toList = l := by
  rw [ByteArray.toList_eq]
  unfold bs
  simp
end Go.Drv
namespace Go.Proofs.YtoplabhoedloeaaGreat
open Go Go.RowKit Go.Bv Go.Drv
set_option linter.unusedVariables false
set_option maxRecDepth 100000
theorem islb_q (b : UInt8) (w : World) : Calls Tryz.prog 32 #[.int .u8 (b.toNat : Int)] w fun e w' => e = .returned (.bool (isLb b)) ∧ w' = w := by
  have HL : Hid (isLb b = ((97 ≤ b.toNat && b.toNat ≤ 122) || (48 ≤ b.toNat && b.toNat ≤ 57) || b.toNat == 45 || b.toNat == 95)) := Lib.hid rfl
  obtain ⟨c, hc⟩ : ∃ c, b.toNat = c := ⟨_, rfl⟩
  rw [hc] at HL
  have hlt : c < 256 := by rw [← hc]; exact b.toNat_lt
  rw [hc, HL.out]
  clear hc HL
  have h1 : decide ((97 : Int) ≤ (c : Int)) = decide (97 ≤ c) := decide_eq_decide.2 (by omega)
  have h2 : decide ((c : Int) ≤ 122) = decide (c ≤ 122) := decide_eq_decide.2 (by omega)
  have h3 : decide ((48 : Int) ≤ (c : Int)) = decide (48 ≤ c) := decide_eq_decide.2 (by omega)
  have h4 : decide ((c : Int) ≤ 57) = decide (c ≤ 57) := decide_eq_decide.2 (by omega)
  have h5 : ((c : Int) == 45) = (c == 45) := by rw [Bool.eq_iff_iff, beq_iff_eq, beq_iff_eq]; omega
  have h6 : ((c : Int) == 95) = (c == 95) := by rw [Bool.eq_iff_iff, beq_iff_eq, beq_iff_eq]; omega
  obtain ⟨b1, e1⟩ : ∃ z, decide (97 ≤ c) = z := ⟨_, rfl⟩
  obtain ⟨b2, e2⟩ : ∃ z, decide (c ≤ 122) = z := ⟨_, rfl⟩
  obtain ⟨b3, e3⟩ : ∃ z, decide (48 ≤ c) = z := ⟨_, rfl⟩
  obtain ⟨b4, e4⟩ : ∃ z, decide (c ≤ 57) = z := ⟨_, rfl⟩
  obtain ⟨b5, e5⟩ : ∃ z, (c == 45) = z := ⟨_, rfl⟩
  obtain ⟨b6, e6⟩ : ∃ z, (c == 95) = z := ⟨_, rfl⟩
  rw [e1] at h1
  rw [e2] at h2
  rw [e3] at h3
  rw [e4] at h4
  rw [e5] at h5
  rw [e6] at h6
  rw [e1, e2, e3, e4, e5, e6]
  clear e1 e2 e3 e4 e5 e6 hlt
  rcases b1 with _ | _ <;> rcases b2 with _ | _ <;> rcases b3 with _ | _ <;> rcases b4 with _ | _ <;> rcases b5 with _ | _ <;> rcases b6 with _ | _
  all_goals (
    go_enter Tryz.func32, Tryz.ntmps32
    go_wp2
    go_ret
    exact ⟨rfl, rfl⟩)
set_option maxHeartbeats 4000000 in
theorem label_q (l : List UInt8) (w : World) : Calls Tryz.prog 20 #[.string (bs l)] w fun e w' => e = .returned (.int .i64 (labE l)) ∧ w' = w := by
  have hz := bs_size l
  by_cases h1 : l.length = 0
  · have HE : Hid (labE l = 3) := Lib.hid (by unfold labE; rw [if_pos h1])
    rw [HE.out]
    have hl : l = [] := List.eq_nil_of_length_eq_zero h1
    subst hl
    have hb : bs [] = ⟨#[]⟩ := rfl
    rw [hb]
    clear hz h1 HE
    go_enter Tryz.func20, Tryz.ntmps20
    go_wp2
    go_ret
    exact ⟨rfl, rfl⟩
  · have hne : (bs l).toList.isEmpty = false := by
      rw [bs_list]
      cases l with
      | nil => exact absurd rfl h1
      | cons x y => rfl
    by_cases h2 : 64 < l.length
    · have HE : Hid (labE l = 4) := Lib.hid (by unfold labE; rw [if_neg h1, if_pos h2])
      rw [HE.out]
      have hd : (64 : Int) < ((bs l).size : Int) := by omega
      clear HE
      go_enter Tryz.func20, Tryz.ntmps20
      go_wp2
      go_ret
      exact ⟨rfl, rfl⟩
    · have hd : ¬ (64 : Int) < ((bs l).size : Int) := by omega
      have HE : Hid (labE l = if l.all isLb then 0 else 5) := Lib.hid (by unfold labE; rw [if_neg h1, if_neg h2])
      obtain ⟨n, hn⟩ : ∃ n, l.length = n := ⟨_, rfl⟩
      rw [hn] at hz h1 h2
      have HLN := Lib.hid hn
      have hn64 : n ≤ 64 := by omega
      clear hn h2
      go_enter Tryz.func20, Tryz.ntmps20
      go_wp2
      go_loopw [11] (fun iv wr => ∃ k : Nat, k ≤ n ∧ iv = .int .i64 (k : Int) ∧ wr = w ∧ Hid (∀ i, i < k → isLb (l.getD i 0) = true)) (fun iv _ => n - (intOf iv).toNat)
      case atStart => exact ⟨0, Nat.zero_le _, rfl, rfl, Lib.hid (fun i hi => absurd hi (by omega))⟩
      case round =>
        obtain ⟨k, hk, rfl, rfl, HS⟩ := hrel
        by_cases hlt : (k : Int) < (n : Int)
        · have hk0 : (0 : Int) ≤ (k : Int) := by omega
          have hkn : k < n := by omega
          have hks : k < (bs l).size := by omega
          have hget := bs_get l k
          obtain ⟨c, hc⟩ : ∃ c, l.getD k 0 = c := ⟨_, rfl⟩
          rw [hc] at hget
          have HC := Lib.hid hc
          clear hc
          have HQ := Lib.hid (islb_q c wr)
          rcases hb : isLb c with _ | _
          · rw [hb] at HQ
            have HA : Hid (labE l = 5) := Lib.hid (by
              rw [HE.out]
              have : l.all isLb = false := by
                rw [List.all_eq_false]
                refine ⟨c, ?_, by rw [hb]; decide⟩
                rw [← HC.out, List.getD_eq_getElem?_getD, List.getElem?_eq_getElem (by rw [HLN.out]; exact hkn)]
                exact List.getElem_mem _
              rw [this]; rfl)
            clear hb
            go_wp2_with fail
            refine HQ.out.mono ?_
            rintro e w2 ⟨rfl, rfl⟩
            go_wp2
            go_ret
            rw [HA.out]
            exact ⟨rfl, rfl⟩
          · rw [hb] at HQ
            have HS2 : Hid (∀ i, i < k + 1 → isLb (l.getD i 0) = true) := Lib.hid (fun i hi => by
              by_cases e : i = k
              · subst e; rw [HC.out]; exact hb
              · exact HS.out i (by omega))
            clear hb
            go_wp2_with fail
            refine HQ.out.mono ?_
            rintro e w2 ⟨rfl, rfl⟩
            go_wp2
            exact ⟨⟨k + 1, by omega, by go_num, by first | rfl | trivial, HS2⟩, by simp [intOf]; omega⟩
        · obtain rfl : k = n := by omega
          have HA : Hid (labE l = 0) := Lib.hid (by
            rw [HE.out]
            have : l.all isLb = true := by
              rw [List.all_eq_true]
              intro x hx
              obtain ⟨i, hi, rfl⟩ := List.mem_iff_getElem.1 hx
              have := HS.out i (by rw [← HLN.out]; exact hi)
              rw [List.getD_eq_getElem?_getD, List.getElem?_eq_getElem hi] at this
              exact this
            rw [this]; rfl)
          go_wp2
          go_ret
          rw [HA.out]
          exact ⟨rfl, rfl⟩
theorem islb_not (c : UInt8) : isLb c = !((decide (c.toNat < 97) || decide (122 < c.toNat)) && (decide (c.toNat < 48) || decide (57 < c.toNat)) && (c.toNat != 45) && (c.toNat != 95)) := by
  unfold isLb
  rw [Bool.eq_iff_iff]
  simp only [Bool.or_eq_true, Bool.and_eq_true, decide_eq_true_eq, beq_iff_eq, Bool.not_eq_true', Bool.and_eq_false_iff, Bool.or_eq_false_iff, decide_eq_false_iff_not, bne_eq_false_iff_eq]
  omega
end Go.Proofs.YtoplabhoedloeaaGreat
