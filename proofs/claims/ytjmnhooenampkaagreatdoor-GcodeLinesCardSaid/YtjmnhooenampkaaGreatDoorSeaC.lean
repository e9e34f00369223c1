/- Layer 16: Open, and the document's own. -/
import Derived.Test.YtjmnhooenampkaaGreatDoorSeaB
import Derived.Test.YtjmnhooenampkaaGreatDoorPcs
import Derived.Laws.AppendOwnNone
namespace Go.Proofs.YtjmnhooenampkaaGreatDoor
open Go.RowKit Go.Bv
set_option linter.unusedVariables false
/-- Open: too short -/
theorem open_short (a : Option Addr) (n c : Nat) (w : World) (hm : n < 4) : Calls Tryz.prog 33 #[.slice a n c] w fun e w' => e = .returned (.tuple #[.slice none 0 0, .int .i64 3]) ∧ w' = w := by
  have hw : wrap64 ((n : Int) - 4) = (n : Int) - 4 := by unfold wrap64; omega
  go_enter Tryz.func33, Tryz.ntmps33
  go_wp2
  go_ret2
  exact ⟨rfl, rfl⟩
theorem openr_short (a : Option Addr) (n c : Nat) (w : World) (hm : n < 4) : Calls Tryz.prog 18 #[.slice a n c] w fun e w' => e = .returned (.tuple #[.slice none 0 0, .int .i64 3]) ∧ w' = w := by
  go_enter Tryz.func18, Tryz.ntmps18
  go_wp2
  go_ret2
  exact ⟨rfl, rfl⟩
theorem take_16 (l : List (BitVec 8)) (n : Nat) (h : l.length = n) (hn : 4 ≤ n) : ok16 l = ((rd l (n - 4) 4).setWidth 32 == sum16 (l.take (n - 4))) := by
  unfold ok16
  rw [h]
set_option maxRecDepth 100000 in
set_option maxHeartbeats 1000000 in
theorem open_no (b off n c : Nat) (l : List (BitVec 8)) (w : World) (h : BRow w (some ⟨b, off, none⟩) n c l) (hn : 4 ≤ n) (hok : ok16 l = false) : Calls Tryz.prog 33 #[.slice (some ⟨b, off, none⟩) n c] w fun e w' => e = .returned (.tuple #[.slice none 0 0, .int .i64 14]) ∧ New w w' := by
  have hle := h.le
  have hmo := h.most
  have hw : (n : Int) - 4 = ((n - 4 : Nat) : Int) := by omega
  have HL := Lib.hid (le32_yes b off n c (n - 4) l w h (by omega))
  have HS := Lib.hid (sum_16 (some ⟨b, off, none⟩) (n - 4) c (l.take (n - 4)) w (row_front h (by omega)))
  rw [take_16 l n h.len_eq hn] at hok
  obtain ⟨m, hm⟩ : ∃ z, n - 4 = z := ⟨_, rfl⟩
  rw [hm] at HL HS hok hw
  obtain ⟨x, hx⟩ : ∃ z, (rd l m 4).setWidth 32 = z := ⟨_, rfl⟩
  rw [hx] at HL hok
  obtain ⟨y, hy⟩ : ∃ z, sum16 (l.take m) = z := ⟨_, rfl⟩
  rw [hy] at HS hok
  have hne : (W32 x != W32 y) = true := by rw [ne_u32, bne, hok]; rfl
  have hm0 : ¬ (m : Int) < 0 := by omega
  have hm1 : (0 : Int) ≤ (m : Int) := by omega
  have hm2 : (m : Int) ≤ (c : Int) := by omega
  have HMN := Lib.hid hm
  clear h hx hy hok hm
  go_enter Tryz.func33, Tryz.ntmps33
  go_wp2_with fail
  refine HL.out.mono ?_
  rintro e w9 ⟨rfl, rfl⟩
  go_wp2_with fail
  refine HS.out.mono ?_
  rintro e w9 ⟨rfl, hn9⟩
  have HN := Lib.hid hn9
  clear hn9
  go_wp2
  go_ret2
  exact ⟨rfl, HN.out⟩
set_option maxRecDepth 100000 in
set_option maxHeartbeats 1000000 in
theorem open_yes (b off n c : Nat) (l : List (BitVec 8)) (w : World) (h : BRow w (some ⟨b, off, none⟩) n c l) (hn : 4 ≤ n) (hok : ok16 l = true) : Calls Tryz.prog 33 #[.slice (some ⟨b, off, none⟩) n c] w fun e w' => ∃ a' c', e = .returned (.tuple #[.slice a' (n - 4 : Nat) c', .int .i64 0]) ∧ BRow w' a' (n - 4) c' (l.take (n - 4)) ∧ New w w' := by
  have hle := h.le
  have hmo := h.most
  have hw : (n : Int) - 4 = ((n - 4 : Nat) : Int) := by omega
  have hrf := row_front h (show n - 4 ≤ n by omega)
  have HL := Lib.hid (le32_yes b off n c (n - 4) l w h (by omega))
  have HS := Lib.hid (sum_16 (some ⟨b, off, none⟩) (n - 4) c (l.take (n - 4)) w hrf)
  rw [take_16 l n h.len_eq hn] at hok
  obtain ⟨m, hm⟩ : ∃ z, n - 4 = z := ⟨_, rfl⟩
  rw [hm] at HL HS hok hw hrf ⊢
  obtain ⟨x, hx⟩ : ∃ z, (rd l m 4).setWidth 32 = z := ⟨_, rfl⟩
  rw [hx] at HL hok
  obtain ⟨y, hy⟩ : ∃ z, sum16 (l.take m) = z := ⟨_, rfl⟩
  rw [hy] at HS hok
  have hne : (W32 x != W32 y) = false := by rw [ne_u32, bne, hok]; rfl
  have hm0 : ¬ (m : Int) < 0 := by omega
  have hm1 : (0 : Int) ≤ (m : Int) := by omega
  have hm2 : (m : Int) ≤ (c : Int) := by omega
  have HMN := Lib.hid hm
  obtain ⟨t, ht⟩ : ∃ z, l.take m = z := ⟨_, rfl⟩
  rw [ht] at hrf ⊢
  have HRF := Lib.hid hrf
  clear h hx hy hok hm ht hrf
  go_enter Tryz.func33, Tryz.ntmps33
  go_wp2_with fail
  refine HL.out.mono ?_
  rintro e w9 ⟨rfl, rfl⟩
  go_wp2_with fail
  refine HS.out.mono ?_
  rintro e w8 ⟨rfl, hn9⟩
  have HN := Lib.hid hn9
  replace HRF := Lib.hid (HRF.out.stay hn9)
  clear hn9 HL HS
  obtain ⟨i0, hi, hz0, hz1, hz2⟩ := info_parts info_u8
  go_wp2_with (at_builtin; refine wpList_append_own _ rfl (.const (.slice none 0 0)) (.tmp 26) 22 rfl w8.heap.size 5 i0 (.int .u8 0) 1 1 Tryz.underlying22 hi hz0 hz1 hz2 rfl (by decide) _ 0 [] rfl (World.ownsRow_nil w8 _ _ 1) ⟨b, off, none⟩ m c (t.map fun y => .int .u8 (W8 y)) rfl (row_len HRF.out) (HRF.out.olds _ rfl) (row_one t) (by unfold maxLen; omega) (by omega) (Nat.le_refl _) ?_; intro v1 w1 how1 hgr1 _)
  obtain ⟨a', c', rfl, hrow⟩ := BRow.of_owns (l := t) (by simpa using how1) (by omega)
  have HN1 := Lib.hid (HN.out.grown hgr1)
  go_ret2
  exact ⟨a', c', rfl, hrow, HN1.out⟩
theorem same_ok16 (l : List (BitVec 8)) (m : Nat) (h : l.length = m + 4) : (seal16 (l.take m) == l) = ok16 l := by
  have hlm : (l.take m).length = m := by rw [List.length_take]; omega
  rw [Bool.eq_iff_iff, beq_iff_eq]
  constructor
  · intro e
    rw [← e]
    exact seal_ok _
  · intro hok
    unfold ok16 at hok
    rw [h, Nat.add_sub_cancel, beq_iff_eq] at hok
    have b1 : (rd l m 4).toNat < 256 ^ 4 := num_lt _ 4 (by omega)
    rw [show (256 : Nat) ^ 4 = 4294967296 by decide] at b1
    have e1 := num4_16 (sum16 (l.take m))
    have b2 : (num (byt ((sum16 (l.take m)).setWidth 64)) 4).toNat < 256 ^ 4 := num_lt _ 4 (by omega)
    rw [show (256 : Nat) ^ 4 = 4294967296 by decide] at b2
    have e2 : num (fun i => l.getD (m + i) 0) 4 = num (byt ((sum16 (l.take m)).setWidth 64)) 4 := by
      show rd l m 4 = _
      apply BitVec.eq_of_toNat_eq
      have h1 := congrArg BitVec.toNat (hok.trans e1.symm)
      rw [BitVec.toNat_setWidth, BitVec.toNat_setWidth] at h1
      omega
    have e3 := num_inj 4 (by omega) _ _ e2
    unfold seal16
    have e4 : bytes ((sum16 (l.take m)).setWidth 64) 4 = l.drop m := by
      apply List.ext_getElem?
      intro i
      by_cases hi : i < 4
      · have h3 := e3 i hi
        have h4 := bytes_at16 ((sum16 (l.take m)).setWidth 64) 4 i hi
        rw [← h4] at h3
        rw [List.getD_eq_getElem?_getD, List.getD_eq_getElem?_getD] at h3
        rw [List.getElem?_drop]
        have g1 : m + i < l.length := by omega
        have g2 : i < (bytes ((sum16 (l.take m)).setWidth 64) 4).length := by rw [bytes_len]; exact hi
        rw [List.getElem?_eq_getElem g1, List.getElem?_eq_getElem g2] at h3
        rw [List.getElem?_eq_getElem g1, List.getElem?_eq_getElem g2]
        simp only [Option.getD_some] at h3
        rw [h3]
      · rw [List.getElem?_eq_none (by rw [bytes_len]; omega), List.getElem?_eq_none (by rw [List.length_drop]; omega)]
    rw [e4, List.take_append_drop]
set_option maxRecDepth 100000 in
set_option maxHeartbeats 1000000 in
theorem openr_any (b off n c : Nat) (l : List (BitVec 8)) (w : World) (h : BRow w (some ⟨b, off, none⟩) n c l) (hn : 4 ≤ n) : Calls Tryz.prog 18 #[.slice (some ⟨b, off, none⟩) n c] w fun e w' => e = .returned (if ok16 l then .tuple #[.slice (some ⟨b, off, none⟩) (n - 4 : Nat) c, .int .i64 0] else .tuple #[.slice none 0 0, .int .i64 14]) ∧ New w w' := by
  have hle := h.le
  have hmo := h.most
  have hw : (n : Int) - 4 = ((n - 4 : Nat) : Int) := by omega
  have hrf := row_front h (show n - 4 ≤ n by omega)
  have HS := Lib.hid (seal_ref16 (some ⟨b, off, none⟩) (n - 4) c (l.take (n - 4)) w hrf (by omega))
  have hso := same_ok16 l (n - 4) (by rw [h.len_eq]; omega)
  have HM := Lib.hid (fun w' (hn : New w w') a' c' (hr : BRow w' a' (n - 4 + 4) c' (seal16 (l.take (n - 4)))) => same_any a' (some ⟨b, off, none⟩) (n - 4 + 4) c' n c _ l w' hr (h.stay hn))
  rw [hso] at HM
  obtain ⟨m, hm⟩ : ∃ z, n - 4 = z := ⟨_, rfl⟩
  rw [hm] at HS hw HM ⊢
  obtain ⟨sl, hs⟩ : ∃ z, seal16 (l.take m) = z := ⟨_, rfl⟩
  rw [hs] at HS HM
  have hm0 : ¬ (m : Int) < 0 := by omega
  have hm1 : (0 : Int) ≤ (m : Int) := by omega
  have hm2 : (m : Int) ≤ (c : Int) := by omega
  have hn4 : ¬ (n : Int) < 4 := by omega
  clear h hrf hso hm hs
  cases hok : ok16 l
  · rw [hok] at HM
    clear hok
    simp only [Bool.false_eq_true, if_false]
    go_enter Tryz.func18, Tryz.ntmps18
    go_wp2_with fail
    refine HS.out.mono ?_
    rintro e w8 ⟨a', c', rfl, hr, hn9⟩
    have HN := Lib.hid hn9
    have HR := Lib.hid hr
    clear hn9 hr HS hw
    go_wp2_with fail
    refine (HM.out _ HN.out _ _ HR.out).mono ?_
    rintro e w9 ⟨rfl, rfl⟩
    go_wp2
    go_ret2
    exact ⟨rfl, HN.out⟩
  · rw [hok] at HM
    clear hok
    simp only [if_true]
    go_enter Tryz.func18, Tryz.ntmps18
    go_wp2_with fail
    refine HS.out.mono ?_
    rintro e w8 ⟨a', c', rfl, hr, hn9⟩
    have HN := Lib.hid hn9
    have HR := Lib.hid hr
    clear hn9 hr HS hw
    go_wp2_with fail
    refine (HM.out _ HN.out _ _ HR.out).mono ?_
    rintro e w9 ⟨rfl, rfl⟩
    go_wp2
    go_ret2
    exact ⟨rfl, HN.out⟩
end Go.Proofs.YtjmnhooenampkaaGreatDoor
