/- The document's own answers of layer 6: Of, at, Deg, Add, Up, Mul, Words. -/
import Derived.Test.YtppmpledcaonkaaGf2C
import Derived.Test.YtppmpledcaonkaaRowB
import Derived.Test.YtppmpledcaonkaaWords
import Derived.OneCell
namespace Go.G2
set_option linter.unusedVariables false
/-- so many bits of a number -/
def bO (V n : Nat) : List Bool := (List.range n).map fun i => V.testBit i
theorem bO_len (V n : Nat) : (bO V n).length = n := by unfold bO; simp
theorem bO_get (V : Nat) {n i : Nat} (h : i < n) : (bO V n).getD i false = V.testBit i := by
  unfold bO; rw [List.getD_eq_getElem?_getD, List.getElem?_map, List.getElem?_range h]; rfl
theorem bO_succ (V n : Nat) : bO V (n + 1) = bO V n ++ [V.testBit n] := by unfold bO; rw [List.range_succ, List.map_append]; rfl
theorem vB_bO (V n : Nat) : vB (bO V n) = V % 2 ^ n := by
  apply Nat.eq_of_testBit_eq
  intro i
  rw [bit_bool, Nat.testBit_mod_two_pow]
  by_cases h : i < n
  · rw [bO_get V h]; simp [h]
  · rw [List.getD_eq_getElem?_getD, List.getElem?_eq_none (by rw [bO_len]; omega)]; simp [h]
theorem vB_bO_all {V n : Nat} (h : V < 2 ^ n) : vB (bO V n) = V := by rw [vB_bO, Nat.mod_eq_of_lt h]
theorem bO_vB (bs : List Bool) : bO (vB bs) bs.length = bs := by
  apply List.ext_getElem?
  intro i
  by_cases h : i < bs.length
  · have h1 := bO_get (vB bs) h
    rw [bit_bool, List.getD_eq_getElem?_getD, List.getD_eq_getElem?_getD, List.getElem?_eq_getElem h, List.getElem?_eq_getElem (by rw [bO_len]; exact h)] at h1
    rw [List.getElem?_eq_getElem h, List.getElem?_eq_getElem (by rw [bO_len]; exact h)]
    simpa using h1
  · rw [List.getElem?_eq_none (by rw [bO_len]; omega), List.getElem?_eq_none (by omega)]
theorem rem_one (x : BitVec 64) (k : Nat) : (x >>> k % 2#64 == 1#64) = x.getLsbD k := by
  have e : (x >>> k % 2#64).toNat = (x.getLsbD k).toNat := by
    rw [BitVec.toNat_umod, BitVec.toNat_ushiftRight, Nat.shiftRight_eq_div_pow]
    show x.toNat / 2 ^ k % 2 = (x.toNat.testBit k).toNat
    rw [Nat.testBit_eq_decide_div_mod_eq]
    rcases Nat.mod_two_eq_zero_or_one (x.toNat / 2 ^ k) with h | h <;> rw [h] <;> rfl
  cases h : x.getLsbD k
  · rw [h] at e
    rw [beq_eq_false_iff_ne]
    intro h2
    rw [h2] at e
    cases e
  · rw [h] at e
    rw [beq_iff_eq]
    exact BitVec.eq_of_toNat_eq e
end Go.G2
namespace Go.Proofs.Ytppmpledcaonkaa
open Go Go.RowKit Go.Bv Go.G2
set_option linter.unusedVariables false
theorem info_bool06 : (Try.prog.info? 4).map (fun i => (i.zero, i.size, i.bytes)) = some (some (.bool false), 1, 1) := by kernel_rfl
theorem at_r (a : Option Addr) (n c : Nat) (bs : List Bool) (i : Nat) (w : World) (h : LRow w a n c bs) :
    Calls Try.prog 59 #[.slice a n c, .int .i64 (i : Int)] w fun e w' => e = .returned (.bool ((vB bs).testBit i)) ∧ w' = w := by
  rw [bit_bool]
  have hl := h.len_eq
  have hi0 : (0 : Int) ≤ (i : Int) := by omega
  by_cases hlt : (i : Int) < (n : Int)
  · obtain ⟨b, off, rfl, hc⟩ := h.addr (by omega)
    have c1 := hc i (by omega)
    obtain ⟨x, hx⟩ : ∃ x, bs.getD i false = x := ⟨_, rfl⟩
    rw [hx] at c1 ⊢
    clear h hc hx hl
    go_enter Try.func59, Try.ntmps59
    go_wp2
    go_ret
    exact ⟨rfl, rfl⟩
  · have hz : bs.getD i false = false := by rw [List.getD_eq_getElem?_getD, List.getElem?_eq_none (by omega)]; rfl
    rw [hz]
    clear h hz hl
    go_enter Try.func59, Try.ntmps59
    go_wp2
    go_ret
    exact ⟨rfl, rfl⟩
set_option maxRecDepth 100000 in
set_option maxHeartbeats 1000000 in
theorem deg_r (a : Option Addr) (n c : Nat) (bs : List Bool) (w : World) (h : LRow w a n c bs) (hn : n ≤ 10000000) :
    Calls Try.prog 18 #[.slice a n c] w fun e w' => e = .returned (.int .i64 ((bl (vB bs) : Int) - 1)) ∧ w' = w := by
  have HH := Lib.hid h
  have HY : Hid (∀ t, t < n → bs.getD t false = true → (∀ i, t < i → i < n → bs.getD i false = false) → bl (vB bs) = t + 1) := Lib.hid (fun t ht h1 h2 => by
    refine bl_eq (by rw [bit_bool]; exact h1) (lt_bits fun i hi => ?_)
    rw [bit_bool]
    by_cases h9 : i < n
    · exact h2 i (by omega) h9
    · rw [List.getD_eq_getElem?_getD, List.getElem?_eq_none (by rw [h.len_eq]; omega)]; rfl)
  have HZ : Hid ((∀ i, i < n → bs.getD i false = false) → bl (vB bs) = 0) := Lib.hid (fun h1 => by
    have : vB bs < 2 ^ 0 := lt_bits fun i _ => by
      rw [bit_bool]
      by_cases h9 : i < n
      · exact h1 i h9
      · rw [List.getD_eq_getElem?_getD, List.getElem?_eq_none (by rw [h.len_eq]; omega)]; rfl
    have := bl_le.2 this
    omega)
  obtain ⟨B, hB⟩ : ∃ B, bl (vB bs) = B := ⟨_, rfl⟩
  rw [hB] at HY HZ ⊢
  clear h hB
  go_enter Try.func18, Try.ntmps18
  go_wp2_with fail
  go_loop [3] (fun iv => ∃ u : Nat, u ≤ n ∧ iv = .int .i64 ((u : Int) - 1) ∧ Hid (∀ i, u ≤ i → i < n → bs.getD i false = false)) (fun iv => (intOf iv + 1).toNat)
  case atStart => exact ⟨n, Nat.le_refl _, rfl, Lib.hid (fun i h1 h2 => by omega)⟩
  case round =>
    obtain ⟨u, hu, rfl, HJ⟩ := hrel
    cases u with
    | zero =>
      have HF := Lib.hid (HZ.out (fun i hi => HJ.out i (Nat.zero_le _) hi))
      go_wp2
      go_ret
      rw [HF.out]; exact ⟨rfl, rfl⟩
    | succ t =>
      have ht1 : ((t + 1 : Nat) : Int) - 1 = (t : Int) := by omega
      rw [ht1]
      have ht0 : (0 : Int) ≤ (t : Int) := by omega
      have htn : (t : Int) < (n : Int) := by omega
      obtain ⟨b, off, rfl, hc⟩ := HH.out.addr (by omega)
      have c1 := hc t (by omega)
      clear hc
      rcases hx : bs.getD t false with _ | _
      · rw [hx] at c1
        have HJ2 : Hid (∀ i, t ≤ i → i < n → bs.getD i false = false) := Lib.hid (fun i h1 h2 => by
          by_cases e : i = t
          · subst e; exact hx
          · exact HJ.out i (by omega) h2)
        clear hx
        go_wp2
        exact ⟨⟨t, by omega, rfl, HJ2⟩, by simp [intOf] <;> omega⟩
      · rw [hx] at c1
        have HF := Lib.hid (HY.out t (by omega) hx (fun i h1 h2 => HJ.out i (by omega) h2))
        have HE : Hid ((B : Int) - 1 = (t : Int)) := Lib.hid (by rw [HF.out]; omega)
        clear hx
        go_wp2
        go_ret
        rw [HE.out]; exact ⟨rfl, rfl⟩
set_option maxRecDepth 100000 in
set_option maxHeartbeats 2000000 in
theorem of_r (a : Option Addr) (n c : Nat) (l : List (BitVec 64)) (w : World) (h : QRow w a n c l) (hn : n ≤ 1000) :
    Calls Try.prog 16 #[.slice a n c] w fun e w' => ∃ a' c', e = .returned (.slice a' (64 * n : Nat) c') ∧ LRow w' a' (64 * n) c' (bO (vW l) (64 * n)) ∧ New w w' := by
  obtain ⟨i0, hi, hz0, hz1, hz2⟩ := info_parts info_bool06
  have HH := Lib.hid h
  have HB : Hid (∀ i j, j < 64 → ((l.getD i 0) >>> j % 2#64 == 1#64) = (vW l).testBit (64 * i + j)) := Lib.hid (fun i j hj => by
    rw [rem_one, bit_word, show (64 * i + j) / 64 = i by omega, show (64 * i + j) % 64 = j by omega])
  obtain ⟨V, hV⟩ : ∃ V, vW l = V := ⟨_, rfl⟩
  rw [hV] at HB ⊢
  have HS := Lib.hid (bO_succ V)
  clear h hV
  go_enter Try.func16, Try.ntmps16
  go_wp2_with fail
  go_loopw [3, 9] (fun v iv wr => ∃ i : Nat, i ≤ n ∧ iv = .int .i64 (i : Int) ∧ wr.ownsRow w.heap.size 4 1 v (64 * i) ((bO V (64 * i)).map fun x => .bool x) ∧ New w wr) (fun _ iv _ => n - (intOf iv).toNat)
  case atStart => exact ⟨0, Nat.zero_le _, rfl, World.ownsRow_nil w _ _ 1, New.refl w⟩
  case round =>
    obtain ⟨i, hi9, rfl, hown, hnew⟩ := hrel
    obtain ⟨wq, hwq⟩ : ∃ z, z = wr := ⟨_, rfl⟩
    rw [← hwq] at hown hnew ⊢
    clear hwq
    by_cases hlt : (i : Int) < (n : Int)
    · have hi0 : (0 : Int) ≤ (i : Int) := by omega
      obtain ⟨b1, off, rfl, hc⟩ := (HH.out.stay hnew).addr (by omega)
      have c1 := hc i (by omega)
      clear hc
      have HBX := Lib.hid (HB.out i)
      obtain ⟨x, hx⟩ : ∃ x, l.getD i 0 = x := ⟨_, rfl⟩
      rw [hx] at c1 HBX
      clear hx
      have HO := Lib.hid hown
      have HN := Lib.hid hnew
      clear hown hnew
      go_wp2_with fail
      clear c1
      go_loopw [3, 6] (fun v jv wr => ∃ j : Nat, j ≤ 64 ∧ jv = .int .i64 (j : Int) ∧ wr.ownsRow w.heap.size 4 1 v (64 * i + j) ((bO V (64 * i + j)).map fun x => .bool x) ∧ New w wr) (fun _ jv _ => 64 - (intOf jv).toNat)
      case atStart => exact ⟨0, by omega, rfl, HO.out, HN.out⟩
      case round =>
        clear HO HN
        obtain ⟨j, hj, rfl, hown, hnew⟩ := hrel
        obtain ⟨wz, hwz⟩ : ∃ z, z = wr := ⟨_, rfl⟩
        rw [← hwz] at hown hnew ⊢
        clear hwz
        by_cases hlt2 : (j : Int) < 64
        · have hj0 : (0 : Int) ≤ (j : Int) := by omega
          have hs : N64 (BitVec.ofNat 64 j) = j := by show (BitVec.ofNat 64 j).toNat = j; rw [BitVec.toNat_ofNat]; exact Nat.mod_eq_of_lt (by omega)
          have hb := HBX.out j (by omega)
          have HSU := Lib.hid (HS.out (64 * i + j))
          obtain ⟨q, hq⟩ : ∃ q, 64 * i + j = q := ⟨_, rfl⟩
          have hq2 : 64 * i + (j + 1) = q + 1 := by omega
          rw [hq] at hown hb HSU
          have hqb : q ≤ 100000 := by omega
          obtain ⟨y, hy⟩ : ∃ y, V.testBit q = y := ⟨_, rfl⟩
          rw [hy] at hb HSU
          have HQ2 := Lib.hid hq2
          clear hq hq2 hy
          go_wp2_with (at_builtin; refine wpList_append_own _ rfl _ _ 25 rfl w.heap.size 4 i0 (.bool false) 1 1 Try.underlying25 hi hz0 hz1 hz2 rfl (by decide) _ q _ rfl (hown.alloc _) ⟨wz.heap.size, 0, none⟩ 1 1 [.bool y] rfl rfl ?c1 ?c2 ?c3 ?c4 ?c5 ?_)
          try (case c1 => exact cell_one_new wz _ _)
          try (case c2 => first | rfl | (intro u hu; simp at hu; subst hu; rfl))
          try (case c3 => first | (unfold maxLen; omega) | omega)
          try (case c4 => omega)
          try (case c5 => first | (simp; have := hnew.le; omega) | (have := hnew.le; omega))
          intro v' w9 how hgr _
          have HN1 := Lib.hid ((hnew.alloc _).grown' hgr (own_base hown))
          have HO2 : Hid (w9.ownsRow w.heap.size 4 1 v' (64 * i + (j + 1)) ((bO V (64 * i + (j + 1))).map fun x => .bool x)) := Lib.hid (by
            rw [HQ2.out, HSU.out, List.map_append]; exact how)
          clear how hgr hown hnew
          go_wp2
          exact ⟨⟨j + 1, by omega, by go_num, HO2.out, HN1.out⟩, by simp [intOf] <;> omega⟩
        · have hj64 : j = 64 := by omega
          rw [hj64] at hown
          have HO : Hid (wz.ownsRow w.heap.size 4 1 u3 (64 * (i + 1)) ((bO V (64 * (i + 1))).map fun x => .bool x)) := Lib.hid (by
            rw [Nat.mul_add, Nat.mul_one]; exact hown)
          have HN := Lib.hid hnew
          clear hown hnew hj64
          go_wp2
          exact ⟨⟨i + 1, by omega, by go_num, HO.out, HN.out⟩, by simp [intOf] <;> omega⟩
    · have hin : i = n := by omega
      rw [hin] at hown
      obtain ⟨a', c', rfl, hz⟩ := LRow.of_owns hown (by omega)
      have HZ := Lib.hid hz
      have HN := Lib.hid hnew
      clear hown hz hnew hin
      go_wp2
      go_ret
      exact ⟨_, _, rfl, HZ.out, HN.out⟩
/-- the bits of a sum -/
theorem sum_bit {bs cs : List Bool} (i : Nat) : ((vB bs).testBit i != (vB cs).testBit i) = (vB bs ^^^ vB cs).testBit i := by
  rw [Nat.testBit_xor]
set_option maxRecDepth 100000 in
set_option maxHeartbeats 2000000 in
theorem add_r (a b : Option Addr) (n c m c2 : Nat) (bs cs : List Bool) (w : World) (h : LRow w a n c bs) (h2 : LRow w b m c2 cs) (hn : n ≤ 10000000) (hm : m ≤ 10000000) :
    Calls Try.prog 23 #[.slice a n c, .slice b m c2] w fun e w' => ∃ a' c', e = .returned (.slice a' (max n m : Nat) c') ∧ LRow w' a' (max n m) c' (bO (vB bs ^^^ vB cs) (max n m)) ∧ New w w' := by
  obtain ⟨i0, hi, hz0, hz1, hz2⟩ := info_parts info_bool06
  have HA := Lib.hid (fun i w' (hn' : New w w') => at_r a n c bs i w' (h.stay hn'))
  have HA2 := Lib.hid (fun i w' (hn' : New w w') => at_r b m c2 cs i w' (h2.stay hn'))
  have HS := Lib.hid (bO_succ (vB bs ^^^ vB cs))
  have HX := Lib.hid (fun i => sum_bit (bs := bs) (cs := cs) i)
  obtain ⟨X, hX⟩ : ∃ X, vB bs = X := ⟨_, rfl⟩
  obtain ⟨Y, hY⟩ : ∃ Y, vB cs = Y := ⟨_, rfl⟩
  rw [hX] at HA HS HX ⊢
  rw [hY] at HA2 HS HX ⊢
  obtain ⟨M, hM⟩ : ∃ M, max n m = M := ⟨_, rfl⟩
  have hMb : M ≤ 10000000 := by omega
  rw [hM]
  clear h h2 hX hY
  go_enter Try.func23, Try.ntmps23
  go_wp2_with fail
  go_loopw [5, 6] (fun v iv wr => ∃ i : Nat, i ≤ M ∧ iv = .int .i64 (i : Int) ∧ wr.ownsRow w.heap.size 4 1 v i ((bO (X ^^^ Y) i).map fun x => .bool x) ∧ New w wr) (fun _ iv _ => M - (intOf iv).toNat)
  case atStart => exact ⟨0, Nat.zero_le _, rfl, World.ownsRow_nil w _ _ 1, New.refl w⟩
  case round =>
    obtain ⟨i, hi9, rfl, hown, hnew⟩ := hrel
    obtain ⟨wq, hwq⟩ : ∃ z, z = wr := ⟨_, rfl⟩
    rw [← hwq] at hown hnew ⊢
    clear hwq
    by_cases hlt : i < M
    · have hi0 : (0 : Int) ≤ (i : Int) := by omega
      have hc : (i : Int) < (n : Int) ∨ (¬ (i : Int) < (n : Int) ∧ (i : Int) < (m : Int)) := by omega
      have HC1 := Lib.hid (HA.out i wq hnew)
      have HC2 := Lib.hid (HA2.out i wq hnew)
      have HB := Lib.hid (HX.out i)
      have HSU := Lib.hid (HS.out i)
      obtain ⟨x, hx⟩ : ∃ x, X.testBit i = x := ⟨_, rfl⟩
      obtain ⟨y, hy⟩ : ∃ y, Y.testBit i = y := ⟨_, rfl⟩
      obtain ⟨s, hs⟩ : ∃ s, (X ^^^ Y).testBit i = s := ⟨_, rfl⟩
      rw [hx] at HC1 HB
      rw [hy] at HC2 HB
      rw [hs] at HB HSU
      clear hx hy hs hM
      have hxy := HB.out
      clear HB
      rcases hc with hc | ⟨hc, hc2⟩
      · cases x
        · cases y
          · replace hxy : false = s := hxy
            subst hxy
            go_wp2_with fail
            refine HC1.out.mono ?_
            rintro e w' ⟨rfl, hw⟩
            replace hw := hw.symm
            subst hw
            go_wp2_with fail
            refine HC2.out.mono ?_
            rintro e w' ⟨rfl, hw⟩
            replace hw := hw.symm
            subst hw
            go_wp2_with (at_builtin; refine wpList_append_own _ rfl _ _ 25 rfl w.heap.size 4 i0 (.bool false) 1 1 Try.underlying25 hi hz0 hz1 hz2 rfl (by decide) _ i _ rfl (hown.alloc _) ⟨wq.heap.size, 0, none⟩ 1 1 [.bool false] rfl rfl ?c1 ?c2 ?c3 ?c4 ?c5 ?_)
            try (case c1 => exact cell_one_new wq _ _)
            try (case c2 => first | rfl | (intro u hu; simp at hu; subst hu; rfl))
            try (case c3 => first | (unfold maxLen; omega) | omega)
            try (case c4 => omega)
            try (case c5 => first | (simp; have := hnew.le; omega) | (have := hnew.le; omega))
            intro v' w9 how hgr _
            have HN1 := Lib.hid ((hnew.alloc _).grown' hgr (own_base hown))
            have HO2 : Hid (w9.ownsRow w.heap.size 4 1 v' (i + 1) ((bO (X ^^^ Y) (i + 1)).map fun x => .bool x)) := Lib.hid (by
              rw [HSU.out, List.map_append]; exact how)
            clear how hgr hown hnew
            go_wp2
            exact ⟨⟨i + 1, by omega, by go_num, HO2.out, HN1.out⟩, by simp [intOf] <;> omega⟩
          · replace hxy : true = s := hxy
            subst hxy
            go_wp2_with fail
            refine HC1.out.mono ?_
            rintro e w' ⟨rfl, hw⟩
            replace hw := hw.symm
            subst hw
            go_wp2_with fail
            refine HC2.out.mono ?_
            rintro e w' ⟨rfl, hw⟩
            replace hw := hw.symm
            subst hw
            go_wp2_with (at_builtin; refine wpList_append_own _ rfl _ _ 25 rfl w.heap.size 4 i0 (.bool false) 1 1 Try.underlying25 hi hz0 hz1 hz2 rfl (by decide) _ i _ rfl (hown.alloc _) ⟨wq.heap.size, 0, none⟩ 1 1 [.bool true] rfl rfl ?c1 ?c2 ?c3 ?c4 ?c5 ?_)
            try (case c1 => exact cell_one_new wq _ _)
            try (case c2 => first | rfl | (intro u hu; simp at hu; subst hu; rfl))
            try (case c3 => first | (unfold maxLen; omega) | omega)
            try (case c4 => omega)
            try (case c5 => first | (simp; have := hnew.le; omega) | (have := hnew.le; omega))
            intro v' w9 how hgr _
            have HN1 := Lib.hid ((hnew.alloc _).grown' hgr (own_base hown))
            have HO2 : Hid (w9.ownsRow w.heap.size 4 1 v' (i + 1) ((bO (X ^^^ Y) (i + 1)).map fun x => .bool x)) := Lib.hid (by
              rw [HSU.out, List.map_append]; exact how)
            clear how hgr hown hnew
            go_wp2
            exact ⟨⟨i + 1, by omega, by go_num, HO2.out, HN1.out⟩, by simp [intOf] <;> omega⟩
        · cases y
          · replace hxy : true = s := hxy
            subst hxy
            go_wp2_with fail
            refine HC1.out.mono ?_
            rintro e w' ⟨rfl, hw⟩
            replace hw := hw.symm
            subst hw
            go_wp2_with fail
            refine HC2.out.mono ?_
            rintro e w' ⟨rfl, hw⟩
            replace hw := hw.symm
            subst hw
            go_wp2_with (at_builtin; refine wpList_append_own _ rfl _ _ 25 rfl w.heap.size 4 i0 (.bool false) 1 1 Try.underlying25 hi hz0 hz1 hz2 rfl (by decide) _ i _ rfl (hown.alloc _) ⟨wq.heap.size, 0, none⟩ 1 1 [.bool true] rfl rfl ?c1 ?c2 ?c3 ?c4 ?c5 ?_)
            try (case c1 => exact cell_one_new wq _ _)
            try (case c2 => first | rfl | (intro u hu; simp at hu; subst hu; rfl))
            try (case c3 => first | (unfold maxLen; omega) | omega)
            try (case c4 => omega)
            try (case c5 => first | (simp; have := hnew.le; omega) | (have := hnew.le; omega))
            intro v' w9 how hgr _
            have HN1 := Lib.hid ((hnew.alloc _).grown' hgr (own_base hown))
            have HO2 : Hid (w9.ownsRow w.heap.size 4 1 v' (i + 1) ((bO (X ^^^ Y) (i + 1)).map fun x => .bool x)) := Lib.hid (by
              rw [HSU.out, List.map_append]; exact how)
            clear how hgr hown hnew
            go_wp2
            exact ⟨⟨i + 1, by omega, by go_num, HO2.out, HN1.out⟩, by simp [intOf] <;> omega⟩
          · replace hxy : false = s := hxy
            subst hxy
            go_wp2_with fail
            refine HC1.out.mono ?_
            rintro e w' ⟨rfl, hw⟩
            replace hw := hw.symm
            subst hw
            go_wp2_with fail
            refine HC2.out.mono ?_
            rintro e w' ⟨rfl, hw⟩
            replace hw := hw.symm
            subst hw
            go_wp2_with (at_builtin; refine wpList_append_own _ rfl _ _ 25 rfl w.heap.size 4 i0 (.bool false) 1 1 Try.underlying25 hi hz0 hz1 hz2 rfl (by decide) _ i _ rfl (hown.alloc _) ⟨wq.heap.size, 0, none⟩ 1 1 [.bool false] rfl rfl ?c1 ?c2 ?c3 ?c4 ?c5 ?_)
            try (case c1 => exact cell_one_new wq _ _)
            try (case c2 => first | rfl | (intro u hu; simp at hu; subst hu; rfl))
            try (case c3 => first | (unfold maxLen; omega) | omega)
            try (case c4 => omega)
            try (case c5 => first | (simp; have := hnew.le; omega) | (have := hnew.le; omega))
            intro v' w9 how hgr _
            have HN1 := Lib.hid ((hnew.alloc _).grown' hgr (own_base hown))
            have HO2 : Hid (w9.ownsRow w.heap.size 4 1 v' (i + 1) ((bO (X ^^^ Y) (i + 1)).map fun x => .bool x)) := Lib.hid (by
              rw [HSU.out, List.map_append]; exact how)
            clear how hgr hown hnew
            go_wp2
            exact ⟨⟨i + 1, by omega, by go_num, HO2.out, HN1.out⟩, by simp [intOf] <;> omega⟩
      · cases x
        · cases y
          · replace hxy : false = s := hxy
            subst hxy
            go_wp2_with fail
            refine HC1.out.mono ?_
            rintro e w' ⟨rfl, hw⟩
            replace hw := hw.symm
            subst hw
            go_wp2_with fail
            refine HC2.out.mono ?_
            rintro e w' ⟨rfl, hw⟩
            replace hw := hw.symm
            subst hw
            go_wp2_with (at_builtin; refine wpList_append_own _ rfl _ _ 25 rfl w.heap.size 4 i0 (.bool false) 1 1 Try.underlying25 hi hz0 hz1 hz2 rfl (by decide) _ i _ rfl (hown.alloc _) ⟨wq.heap.size, 0, none⟩ 1 1 [.bool false] rfl rfl ?c1 ?c2 ?c3 ?c4 ?c5 ?_)
            try (case c1 => exact cell_one_new wq _ _)
            try (case c2 => first | rfl | (intro u hu; simp at hu; subst hu; rfl))
            try (case c3 => first | (unfold maxLen; omega) | omega)
            try (case c4 => omega)
            try (case c5 => first | (simp; have := hnew.le; omega) | (have := hnew.le; omega))
            intro v' w9 how hgr _
            have HN1 := Lib.hid ((hnew.alloc _).grown' hgr (own_base hown))
            have HO2 : Hid (w9.ownsRow w.heap.size 4 1 v' (i + 1) ((bO (X ^^^ Y) (i + 1)).map fun x => .bool x)) := Lib.hid (by
              rw [HSU.out, List.map_append]; exact how)
            clear how hgr hown hnew
            go_wp2
            exact ⟨⟨i + 1, by omega, by go_num, HO2.out, HN1.out⟩, by simp [intOf] <;> omega⟩
          · replace hxy : true = s := hxy
            subst hxy
            go_wp2_with fail
            refine HC1.out.mono ?_
            rintro e w' ⟨rfl, hw⟩
            replace hw := hw.symm
            subst hw
            go_wp2_with fail
            refine HC2.out.mono ?_
            rintro e w' ⟨rfl, hw⟩
            replace hw := hw.symm
            subst hw
            go_wp2_with (at_builtin; refine wpList_append_own _ rfl _ _ 25 rfl w.heap.size 4 i0 (.bool false) 1 1 Try.underlying25 hi hz0 hz1 hz2 rfl (by decide) _ i _ rfl (hown.alloc _) ⟨wq.heap.size, 0, none⟩ 1 1 [.bool true] rfl rfl ?c1 ?c2 ?c3 ?c4 ?c5 ?_)
            try (case c1 => exact cell_one_new wq _ _)
            try (case c2 => first | rfl | (intro u hu; simp at hu; subst hu; rfl))
            try (case c3 => first | (unfold maxLen; omega) | omega)
            try (case c4 => omega)
            try (case c5 => first | (simp; have := hnew.le; omega) | (have := hnew.le; omega))
            intro v' w9 how hgr _
            have HN1 := Lib.hid ((hnew.alloc _).grown' hgr (own_base hown))
            have HO2 : Hid (w9.ownsRow w.heap.size 4 1 v' (i + 1) ((bO (X ^^^ Y) (i + 1)).map fun x => .bool x)) := Lib.hid (by
              rw [HSU.out, List.map_append]; exact how)
            clear how hgr hown hnew
            go_wp2
            exact ⟨⟨i + 1, by omega, by go_num, HO2.out, HN1.out⟩, by simp [intOf] <;> omega⟩
        · cases y
          · replace hxy : true = s := hxy
            subst hxy
            go_wp2_with fail
            refine HC1.out.mono ?_
            rintro e w' ⟨rfl, hw⟩
            replace hw := hw.symm
            subst hw
            go_wp2_with fail
            refine HC2.out.mono ?_
            rintro e w' ⟨rfl, hw⟩
            replace hw := hw.symm
            subst hw
            go_wp2_with (at_builtin; refine wpList_append_own _ rfl _ _ 25 rfl w.heap.size 4 i0 (.bool false) 1 1 Try.underlying25 hi hz0 hz1 hz2 rfl (by decide) _ i _ rfl (hown.alloc _) ⟨wq.heap.size, 0, none⟩ 1 1 [.bool true] rfl rfl ?c1 ?c2 ?c3 ?c4 ?c5 ?_)
            try (case c1 => exact cell_one_new wq _ _)
            try (case c2 => first | rfl | (intro u hu; simp at hu; subst hu; rfl))
            try (case c3 => first | (unfold maxLen; omega) | omega)
            try (case c4 => omega)
            try (case c5 => first | (simp; have := hnew.le; omega) | (have := hnew.le; omega))
            intro v' w9 how hgr _
            have HN1 := Lib.hid ((hnew.alloc _).grown' hgr (own_base hown))
            have HO2 : Hid (w9.ownsRow w.heap.size 4 1 v' (i + 1) ((bO (X ^^^ Y) (i + 1)).map fun x => .bool x)) := Lib.hid (by
              rw [HSU.out, List.map_append]; exact how)
            clear how hgr hown hnew
            go_wp2
            exact ⟨⟨i + 1, by omega, by go_num, HO2.out, HN1.out⟩, by simp [intOf] <;> omega⟩
          · replace hxy : false = s := hxy
            subst hxy
            go_wp2_with fail
            refine HC1.out.mono ?_
            rintro e w' ⟨rfl, hw⟩
            replace hw := hw.symm
            subst hw
            go_wp2_with fail
            refine HC2.out.mono ?_
            rintro e w' ⟨rfl, hw⟩
            replace hw := hw.symm
            subst hw
            go_wp2_with (at_builtin; refine wpList_append_own _ rfl _ _ 25 rfl w.heap.size 4 i0 (.bool false) 1 1 Try.underlying25 hi hz0 hz1 hz2 rfl (by decide) _ i _ rfl (hown.alloc _) ⟨wq.heap.size, 0, none⟩ 1 1 [.bool false] rfl rfl ?c1 ?c2 ?c3 ?c4 ?c5 ?_)
            try (case c1 => exact cell_one_new wq _ _)
            try (case c2 => first | rfl | (intro u hu; simp at hu; subst hu; rfl))
            try (case c3 => first | (unfold maxLen; omega) | omega)
            try (case c4 => omega)
            try (case c5 => first | (simp; have := hnew.le; omega) | (have := hnew.le; omega))
            intro v' w9 how hgr _
            have HN1 := Lib.hid ((hnew.alloc _).grown' hgr (own_base hown))
            have HO2 : Hid (w9.ownsRow w.heap.size 4 1 v' (i + 1) ((bO (X ^^^ Y) (i + 1)).map fun x => .bool x)) := Lib.hid (by
              rw [HSU.out, List.map_append]; exact how)
            clear how hgr hown hnew
            go_wp2
            exact ⟨⟨i + 1, by omega, by go_num, HO2.out, HN1.out⟩, by simp [intOf] <;> omega⟩
    · have hiM : i = M := by omega
      have hc1 : ¬ (i : Int) < (n : Int) := by omega
      have hc2 : ¬ (i : Int) < (m : Int) := by omega
      rw [hiM] at hown
      obtain ⟨a', c', rfl, hz⟩ := LRow.of_owns hown (by omega)
      have HZ := Lib.hid hz
      have HN := Lib.hid hnew
      clear hown hz hnew hiM
      go_wp2
      go_ret
      exact ⟨_, _, rfl, HZ.out, HN.out⟩
end Go.Proofs.Ytppmpledcaonkaa
