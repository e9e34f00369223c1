/- Contracts of load.Unhex and of the document's own Unhex: for every string. -/
import Derived.Test.YtjmnhooenampkaaGreatDoorHexB
namespace Go.Bv
/-- the number of a digit's letter -/
def hv (c : Nat) : Option Nat := if 48 ≤ c ∧ c ≤ 57 then some (c - 48) else if 97 ≤ c ∧ c ≤ 102 then some (c - 87) else none
/-- the number of the first k digits, if they are digits -/
def uhTo (s : ByteArray) : Nat → Option (BitVec 64)
  | 0 => some 0#64
  | k + 1 => (uhTo s k).bind fun n => (hv (s.data.toList.getD k 0).toNat).map fun d => n * 16#64 + BitVec.ofNat 64 d
def unhex (s : ByteArray) : Option (BitVec 64) := if s.size = 16 then uhTo s 16 else none
theorem uhTo_stop (s : ByteArray) (k j : Nat) (hkj : k ≤ j) (h : uhTo s k = none) : uhTo s j = none := by
  induction j with
  | zero => obtain rfl : k = 0 := by omega
            exact h
  | succ j ih =>
    by_cases e : k = j + 1
    · subst e; exact h
    · simp only [uhTo]; rw [ih (by omega)]; rfl
theorem uhTo_go (s : ByteArray) (k : Nat) (n : BitVec 64) (d : Nat) (h : uhTo s k = some n) (hd : hv (s.data.toList.getD k 0).toNat = some d) : uhTo s (k + 1) = some (n * 16#64 + BitVec.ofNat 64 d) := by
  simp only [uhTo]; rw [h, hd]; rfl
theorem uhTo_bad (s : ByteArray) (k : Nat) (hd : hv (s.data.toList.getD k 0).toNat = none) : uhTo s (k + 1) = none := by
  simp only [uhTo]; rw [hd]; cases uhTo s k <;> rfl
theorem unhex_bad (s : ByteArray) (k : Nat) (hk : k < 16) (hs : s.size = 16) (hd : hv (s.data.toList.getD k 0).toNat = none) : unhex s = none := by
  rw [unhex, if_pos hs]; exact uhTo_stop s (k + 1) 16 (by omega) (uhTo_bad s k hd)
theorem byte_getD (s : ByteArray) (k : Nat) (h : k < s.size) : s.data.toList.getD k 0 = s[k] := by
  rw [List.getD_eq_getElem?_getD, List.getElem?_eq_getElem (by simpa using h)]; rfl
theorem hv_lt {c d : Nat} (h : hv c = some d) : d < 16 := by
  unfold hv at h; split at h
  · cases h; omega
  · split at h
    · cases h; omega
    · cases h
theorem put_digit (n : BitVec 64) (d : Nat) (h : d < 16) : n <<< 4 ||| BitVec.ofNat 64 d = n * 16#64 + BitVec.ofNat 64 d := by
  have e : n * 16#64 = n <<< 4 := by apply BitVec.eq_of_toNat_eq; simp [BitVec.toNat_mul, BitVec.toNat_shiftLeft, Nat.shiftLeft_eq]
  rw [e, BitVec.add_eq_or_of_and_eq_zero]
  apply BitVec.eq_of_getLsbD_eq
  intro i hi
  simp only [BitVec.getLsbD_and, BitVec.getLsbD_shiftLeft, BitVec.getLsbD_ofNat, hi, decide_true, Bool.true_and]
  by_cases h2 : i < 4
  · simp [h2]
  · rw [Nat.testBit_lt_two_pow (Nat.lt_of_lt_of_le h (by calc 16 = 2 ^ 4 := rfl
                                                          _ ≤ 2 ^ i := Nat.pow_le_pow_right (by omega) (by omega)))]; simp
end Go.Bv
namespace Go.Proofs.YtjmnhooenampkaaGreatDoor
open Go.RowKit Go.Bv
set_option linter.unusedVariables false
theorem ret_word {c d : Nat} (k : Nat) (hd : d < 256) (e : (BitVec.ofNat 8 c - BitVec.ofNat 8 k).toNat = d) : W64 (BitVec.setWidth 64 (BitVec.ofNat 8 c - BitVec.ofNat 8 k)) = W64 (BitVec.ofNat 64 d) := by
  congr 1; apply BitVec.eq_of_toNat_eq; rw [BitVec.toNat_setWidth, e, BitVec.toNat_ofNat]
set_option maxHeartbeats 400000 in
theorem value_yes (c d : Nat) (hc : c < 256) (hd : hv c = some d) (w : World) :
    Calls Tryz.prog 60 #[.int .u8 c] w fun e w' => e = .returned (.tuple #[.int .u64 (W64 (BitVec.ofNat 64 d)), .bool true]) ∧ w' = w := by
  unfold hv at hd
  split at hd
  · rename_i h
    obtain ⟨a, b⟩ := h
    have e : W64 (BitVec.setWidth 64 (BitVec.ofNat 8 c - 48#8)) = W64 (BitVec.ofNat 64 d) := by
      cases hd; exact ret_word 48 (by omega) (by rw [BitVec.toNat_sub]; simp only [BitVec.toNat_ofNat]; omega)
    have E := Lib.hid e
    clear e hd
    go_enter Tryz.func60, Tryz.ntmps60
    go_wp2
    go_ret2
    refine ⟨?_, rfl⟩
    rw [← E.out]; rfl
  · rename_i h
    split at hd
    · rename_i h2
      obtain ⟨a, b⟩ := h2
      have e : W64 (BitVec.setWidth 64 (BitVec.ofNat 8 c - 97#8) + 10#64) = W64 (BitVec.ofNat 64 d) := by
        cases hd
        congr 1
        apply BitVec.eq_of_toNat_eq
        rw [BitVec.toNat_add, BitVec.toNat_setWidth, BitVec.toNat_sub]; simp only [BitVec.toNat_ofNat]; omega
      have E := Lib.hid e
      clear e hd h
      go_enter Tryz.func60, Tryz.ntmps60
      go_wp2
      go_ret2
      refine ⟨?_, rfl⟩
      rw [← E.out]; rfl
    · cases hd
set_option maxHeartbeats 400000 in
theorem value_no (c : Nat) (hc : c < 256) (hd : hv c = none) (w : World) :
    Calls Tryz.prog 60 #[.int .u8 c] w fun e w' => e = .returned (.tuple #[.int .u64 0, .bool false]) ∧ w' = w := by
  have h : c < 48 ∨ (57 < c ∧ c < 97) ∨ 102 < c := by
    unfold hv at hd; split at hd
    · cases hd
    · split at hd
      · cases hd
      · omega
  clear hd
  rcases h with h | ⟨h, h2⟩ | h
  all_goals
    go_enter Tryz.func60, Tryz.ntmps60
    go_wp2
    go_ret2
    exact ⟨rfl, rfl⟩
theorem hv_cases (c : Nat) : hv c = none ∨ ∃ d, hv c = some d := by cases h : hv c with | none => exact .inl rfl | some d => exact .inr ⟨d, rfl⟩
set_option maxHeartbeats 400000 in
theorem unhex_any (s : ByteArray) (hs : s.size ≤ 9223372036854775807) (w : World) :
    Calls Tryz.prog 44 #[.string s] w fun e w' => e = .returned (.tuple #[.int .u64 (W64 ((unhex s).getD 0#64)), .bool (unhex s).isSome]) ∧ w' = w := by
  by_cases hl : s.size = 16
  · have Hl := Lib.hid hl
    have hl2 : ((s.size : Int) != 16) = false := by rw [bne_eq_false_iff_eq]; omega
    clear hl
    go_enter Tryz.func44, Tryz.ntmps44
    go_wp2
    go_loop [4, 11] (fun t i => ∃ (k : Nat) (n : BitVec 64), k ≤ 16 ∧ i = .int .i64 k ∧ t = .int .u64 (W64 n) ∧ Hid (uhTo s k = some n)) (fun _ i => 16 - (intOf i).toNat)
    case atStart => exact ⟨0, 0#64, by omega, rfl, rfl, Lib.hid rfl⟩
    case round =>
      obtain ⟨k, n, hk, rfl, rfl, H⟩ := hrel
      by_cases hlt : (k : Int) < 16
      · have hin : k < s.size := by have := Hl.out; omega
        have hb := s[k].toNat_lt
        go_wp2_with (fail)
        rcases hv_cases s[k].toNat with hd | ⟨d, hd⟩
        · refine (value_no _ hb hd _).mono ?_
          rintro e w' ⟨rfl, rfl⟩
          have hbad : unhex s = none := unhex_bad s k (by omega) Hl.out (by rw [byte_getD s k hin]; exact hd)
          have HB := Lib.hid hbad
          clear hd hbad
          go_wp2
          go_ret2
          refine ⟨?_, rfl⟩
          rw [HB.out]; rfl
        · refine (value_yes _ d hb hd _).mono ?_
          rintro e w' ⟨rfl, rfl⟩
          have hgo := uhTo_go s k n d H.out (by rw [byte_getD s k hin]; exact hd)
          have hp := put_digit n d (hv_lt hd)
          have HG := Lib.hid hgo
          have HP := Lib.hid hp
          clear hd hgo hp
          go_wp2
          exact ⟨⟨k + 1, _, by omega, by go_num, rfl, Lib.hid (by rw [HP.out]; exact HG.out)⟩, by simp [intOf]; omega⟩
      · obtain rfl : k = 16 := by omega
        go_wp2
        go_ret2
        refine ⟨?_, rfl⟩
        rw [unhex, if_pos Hl.out, H.out]; rfl
  · have hl2 : ((s.size : Int) != 16) = true := by rw [bne_iff_ne]; omega
    have Hl := Lib.hid hl
    clear hl
    go_enter Tryz.func44, Tryz.ntmps44
    go_wp2
    go_ret2
    refine ⟨?_, rfl⟩
    rw [unhex, if_neg Hl.out]; rfl
theorem sub_word (c k d : Nat) (hk : k ≤ c) (hc : c < 256) (hd : d = c - k) : BitVec.ofNat 64 c - BitVec.ofNat 64 k = BitVec.ofNat 64 d := by
  apply BitVec.eq_of_toNat_eq
  rw [BitVec.toNat_sub]; simp only [BitVec.toNat_ofNat]; omega
theorem not99 (c k : Nat) (hk : k ≤ c) (hc : c < 256) (h : c - k < 99) : (BitVec.ofNat 64 c - BitVec.ofNat 64 k == 99#64) = false := by
  rw [sub_word c k _ hk hc rfl, beq_eq_false_iff_ne]
  intro e
  have := congrArg BitVec.toNat e
  simp only [BitVec.toNat_ofNat] at this
  omega
theorem u8_word (c : Nat) (hc : c < 256) : W64 (BitVec.ofNat 64 c) = c := W64_lit c (by omega)
set_option maxHeartbeats 1000000 in
theorem unhex_ref (s : ByteArray) (hs : s.size ≤ 9223372036854775807) (w : World) :
    Calls Tryz.prog 27 #[.string s] w fun e w' => e = .returned (.tuple #[.int .u64 (W64 ((unhex s).getD 0#64)), .bool (unhex s).isSome]) ∧ w' = w := by
  by_cases hl : s.size = 16
  · have Hl := Lib.hid hl
    have hl2 : ((s.size : Int) != 16) = false := by rw [bne_eq_false_iff_eq]; omega
    clear hl
    go_enter Tryz.func27, Tryz.ntmps27
    go_wp2
    go_loop [4, 5, 6] (fun t i _ => ∃ (k : Nat) (n : BitVec 64), k ≤ 16 ∧ i = .int .i64 k ∧ t = .int .u64 (W64 n) ∧ Hid (uhTo s k = some n)) (fun _ i _ => 16 - (intOf i).toNat)
    case atStart => exact ⟨0, 0#64, by omega, rfl, rfl, Lib.hid rfl⟩
    case round =>
      obtain ⟨k, n, hk, rfl, rfl, H⟩ := hrel
      by_cases hlt : (k : Int) < 16
      · have hin : k < s.size := by have := Hl.out; omega
        have hb := s[k].toNat_lt
        rcases hv_cases s[k].toNat with hd | ⟨d, hd⟩
        · have hbad : unhex s = none := unhex_bad s k (by omega) Hl.out (by rw [byte_getD s k hin]; exact hd)
          have HB := Lib.hid hbad
          have h : s[k].toNat < 48 ∨ (57 < s[k].toNat ∧ s[k].toNat < 97) ∨ 102 < s[k].toNat := by
            unfold hv at hd; split at hd
            · cases hd
            · split at hd
              · cases hd
              · omega
          clear hd hbad
          rcases h with h | ⟨h, h2⟩ | h
          all_goals
            go_wp2
            go_ret2
            refine ⟨?_, rfl⟩
            rw [HB.out]; rfl
        · have hgo := uhTo_go s k n d H.out (by rw [byte_getD s k hin]; exact hd)
          have HG := Lib.hid hgo
          have h : (48 ≤ s[k].toNat ∧ s[k].toNat ≤ 57 ∧ d = s[k].toNat - 48) ∨ (97 ≤ s[k].toNat ∧ s[k].toNat ≤ 102 ∧ d = s[k].toNat - 87) := by
            unfold hv at hd; split at hd
            · cases hd; omega
            · split at hd
              · cases hd; omega
              · cases hd
          clear hd hgo
          rcases h with ⟨h1, h2, h3⟩ | ⟨h1, h2, h3⟩
          · have H3 := Lib.hid h3
            clear h3
            have h99 := not99 s[k].toNat 48 h1 hb (by omega)
            have HW := Lib.hid (sub_word s[k].toNat 48 d h1 hb H3.out)
            go_wp2
            exact ⟨⟨k + 1, _, by omega, by go_num, rfl, Lib.hid (by rw [HW.out]; exact HG.out)⟩, by simp [intOf]; omega⟩
          · have H3 := Lib.hid h3
            clear h3
            have h99 := not99 s[k].toNat 87 (by omega) hb (by omega)
            have HW := Lib.hid (sub_word s[k].toNat 87 d (by omega) hb H3.out)
            go_wp2
            exact ⟨⟨k + 1, _, by omega, by go_num, rfl, Lib.hid (by rw [HW.out]; exact HG.out)⟩, by simp [intOf]; omega⟩
      · obtain rfl : k = 16 := by omega
        go_wp2
        go_ret2
        refine ⟨?_, rfl⟩
        rw [unhex, if_pos Hl.out, H.out]; rfl
  · have hl2 : ((s.size : Int) != 16) = true := by rw [bne_iff_ne]; omega
    have Hl := Lib.hid hl
    clear hl
    go_enter Tryz.func27, Tryz.ntmps27
    go_wp2
    go_ret2
    refine ⟨?_, rfl⟩
    rw [unhex, if_neg Hl.out]; rfl
end Go.Proofs.YtjmnhooenampkaaGreatDoor
