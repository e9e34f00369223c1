/- The document's own answers of layer 6: Up, Mul, Words; the law's words. -/
import Derived.Test.YtppmpledcaonkaaGf2R
import Derived.Test.YtppmpledcaonkaaGf2E
import Derived.Laws.AppendOwnNone
namespace Go.G2
set_option linter.unusedVariables false
theorem bools_eq {l m : List Bool} {n : Nat} (hl : l.length = n) (hm : m.length = n) (h : ∀ i, i < n → l.getD i false = m.getD i false) : l = m := by
  apply List.ext_getElem?
  intro i
  by_cases hi : i < n
  · have := h i hi
    rw [List.getD_eq_getElem?_getD, List.getD_eq_getElem?_getD, List.getElem?_eq_getElem (by omega), List.getElem?_eq_getElem (by omega)] at this
    rw [List.getElem?_eq_getElem (by omega), List.getElem?_eq_getElem (by omega)]
    simpa using this
  · rw [List.getElem?_eq_none (by omega), List.getElem?_eq_none (by omega)]
theorem up_bits (n : Nat) (bs : List Bool) : List.replicate n false ++ bs = bO (2 ^ n * vB bs) (n + bs.length) := by
  apply bools_eq (n := n + bs.length) (by simp) (bO_len _ _)
  intro i hi
  rw [bO_get _ hi, Nat.testBit_two_pow_mul, bit_bool, List.getD_eq_getElem?_getD]
  by_cases h : i < n
  · rw [List.getElem?_append_left (by simpa using h), List.getElem?_replicate, if_pos h]; simp [show ¬ n ≤ i by omega]
  · rw [List.getElem?_append_right (by simp; omega), List.length_replicate]; simp [show n ≤ i by omega]
theorem wL_snoc (k n : Nat) : wL (k + 1) n = wL k n ++ [BitVec.ofNat 64 (n / 2 ^ (64 * k))] := by unfold wL; rw [List.range_succ, List.map_append]; rfl
theorem wL_zero_at (V j : Nat) : wL (j + 1) (V % 2 ^ (64 * j)) = wL j (V % 2 ^ (64 * j)) ++ [0#64] := by
  rw [wL_snoc, Nat.div_eq_of_lt (Nat.mod_lt _ (Nat.two_pow_pos _))]
theorem word_bit {V i j s k : Nat} (hj : i / 64 = j) (hs : i % 64 = s) (hk : j < k) : (wL k (V % 2 ^ i)).set j ((wL k (V % 2 ^ i)).getD j 0 + 1#64 <<< s) = wL k (V % 2 ^ i ^^^ 2 ^ i) := by
  have hs64 : s < 64 := by omega
  have hi : i = 64 * j + s := by omega
  have hbit : (BitVec.ofNat 64 (V % 2 ^ i / 2 ^ (64 * j))).getLsbD s = false := by
    rw [BitVec.getLsbD_ofNat, Nat.testBit_div_two_pow, Nat.testBit_mod_two_pow]
    simp [show ¬ s + 64 * j < i by omega]
  have hx : (wL k (V % 2 ^ i)).getD j 0 + 1#64 <<< s = BitVec.ofNat 64 (V % 2 ^ i / 2 ^ (64 * j)) ^^^ 1#64 <<< s := by
    rw [wL_get hk]
    have h0 : BitVec.ofNat 64 (V % 2 ^ i / 2 ^ (64 * j)) &&& 1#64 <<< s = 0#64 := by
      apply BitVec.eq_of_getLsbD_eq
      intro t ht
      rw [BitVec.getLsbD_and, BitVec.getLsbD_shiftLeft, BitVec.getLsbD_one]
      by_cases e : t = s
      · subst e; rw [hbit]; simp
      · by_cases h2 : t < s
        · simp [h2]
        · simp [show ¬ t - s = 0 by omega]
    rw [BitVec.add_eq_or_of_and_eq_zero _ _ h0]
    apply BitVec.eq_of_getLsbD_eq
    intro t ht
    have h1 := congrArg (fun y => y.getLsbD t) h0
    simp only [BitVec.getLsbD_and, BitVec.getLsbD_zero] at h1
    rw [BitVec.getLsbD_or, BitVec.getLsbD_xor]
    generalize (BitVec.ofNat 64 (V % 2 ^ i / 2 ^ (64 * j))).getLsbD t = p at h1 ⊢
    generalize (1#64 <<< s).getLsbD t = q at h1 ⊢
    cases p <;> cases q <;> simp at h1 ⊢
  rw [hx, wL_xor hk, shl_one s hs64, ← Nat.pow_add, ← hi]
theorem mod_bit (V i : Nat) : V % 2 ^ (i + 1) = V % 2 ^ i ^^^ (if V.testBit i then 2 ^ i else 0) := by
  have := bit_step V i 1
  rw [mulG_comm, one_mulG, mulG_comm, one_mulG, Nat.mul_one] at this
  exact this
theorem tW_end (V : Nat) : wL ((bl V + 63) / 64) (V % 2 ^ bl V) = tW V := by rw [Nat.mod_eq_of_lt (lt_bl V)]; rfl
end Go.G2
namespace Go.Proofs.Ytppmpledcaonkaa
open Go Go.RowKit Go.Bv Go.G2
set_option linter.unusedVariables false
set_option maxRecDepth 100000 in
set_option maxHeartbeats 2000000 in
theorem up_r (a : Option Addr) (m c : Nat) (bs : List Bool) (n : Nat) (w : World) (h : LRow w a m c bs) (hn : n ≤ 1000000) (hm : m ≤ 1000000) :
    Calls Try.prog 36 #[.slice a m c, .int .i64 (n : Int)] w fun e w' => ∃ a' c', e = .returned (.slice a' (n + m : Nat) c') ∧ LRow w' a' (n + m) c' (bO (2 ^ n * vB bs) (n + m)) ∧ New w w' := by
  obtain ⟨i0, hi, hz0, hz1, hz2⟩ := info_parts info_bool06
  have HU : Hid (List.replicate n false ++ bs = bO (2 ^ n * vB bs) (n + m)) := Lib.hid (by rw [← h.len_eq]; exact up_bits n bs)
  have HH := Lib.hid h
  have HRS : Hid (∀ k, List.replicate (k + 1) false = List.replicate k false ++ [false]) := Lib.hid (fun k => List.replicate_succ')
  clear h
  go_enter Try.func36, Try.ntmps36
  go_wp2_with fail
  go_loopw [5, 6] (fun v iv wr => ∃ i : Nat, i ≤ n ∧ iv = .int .i64 (i : Int) ∧ wr.ownsRow w.heap.size 4 1 v i ((List.replicate i false).map fun x => .bool x) ∧ New w wr) (fun _ iv _ => n - (intOf iv).toNat)
  case atStart => exact ⟨0, Nat.zero_le _, rfl, World.ownsRow_nil w _ _ 1, New.refl w⟩
  case round =>
    obtain ⟨i, hi9, rfl, hown, hnew⟩ := hrel
    obtain ⟨wq, hwq⟩ : ∃ z, z = wr := ⟨_, rfl⟩
    rw [← hwq] at hown hnew ⊢
    clear hwq
    by_cases hlt : (i : Int) < (n : Int)
    · have hi0 : (0 : Int) ≤ (i : Int) := by omega
      go_wp2_with (at_builtin; refine wpList_append_own _ rfl _ _ 25 rfl w.heap.size 4 i0 (.bool false) 1 1 Try.underlying25 hi hz0 hz1 hz2 rfl (by decide) _ i _ rfl (hown.alloc _) ⟨wq.heap.size, 0, none⟩ 1 1 [.bool false] rfl rfl ?c1 ?c2 ?c3 ?c4 ?c5 ?_)
      try (case c1 => exact cell_one_new wq _ _)
      try (case c2 => first | rfl | (intro u hu; simp at hu; subst hu; rfl))
      try (case c3 => first | (unfold maxLen; omega) | omega)
      try (case c4 => omega)
      try (case c5 => first | (simp; have := hnew.le; omega) | (have := hnew.le; omega))
      intro v' w9 how hgr _
      have HN1 := Lib.hid ((hnew.alloc _).grown' hgr (own_base hown))
      have HO2 : Hid (w9.ownsRow w.heap.size 4 1 v' (i + 1) ((List.replicate (i + 1) false).map fun x => .bool x)) := Lib.hid (by
        rw [HRS.out, List.map_append]; first | exact how | (simp only [List.map_replicate, List.map_cons, List.map_nil]; exact how))
      clear how hgr hown hnew
      go_wp2
      exact ⟨⟨i + 1, by omega, by go_num, HO2.out, HN1.out⟩, by simp [intOf]; omega⟩
    · have hin : i = n := by omega
      rw [hin] at hown
      clear hin
      have HB := HH.out.stay hnew
      cases a with
      | none =>
        obtain ⟨rfl, rfl⟩ := HB.none rfl
        have hb0 : bs = [] := List.eq_nil_of_length_eq_zero HB.len_eq
        have HO : Hid (wq.ownsRow w.heap.size 4 1 u5 (n + 0) ((bO (2 ^ n * vB bs) (n + 0)).map fun x => .bool x)) := Lib.hid (by
          rw [← HU.out, hb0, List.append_nil]; exact hown)
        have HN := Lib.hid hnew
        have hown' := hown
        clear HB hb0 hnew
        go_wp2_with (at_builtin; refine wpList_append_own_none rfl (.tmp 15) (.tmp 16) 25 rfl w.heap.size 4 i0 1 Try.underlying25 hi _ n _ rfl hown' rfl ?_)
        clear hown hown'
        obtain ⟨a', c', rfl, hz⟩ := LRow.of_owns HO.out (by omega)
        have HZ := Lib.hid hz
        clear hz HO
        go_wp2
        go_ret
        exact ⟨_, _, rfl, HZ.out, HN.out⟩
      | some x =>
        have HBB := Lib.hid HB
        have hbl := HB.len_eq
        have hxl : (bs.map fun x => Value.bool x).length = m * 1 := by rw [List.length_map, hbl]; omega
        obtain ⟨xs, hxs⟩ : ∃ xs, (bs.map fun x => Value.bool x) = xs := ⟨_, rfl⟩
        have HXS := Lib.hid hxs
        have HOL := Lib.hid (HB.olds x rfl)
        rw [hxs] at HOL hxl
        clear HB hxs
        go_wp2_with (at_builtin; refine wpList_append_own _ rfl _ _ 25 rfl w.heap.size 4 i0 (.bool false) 1 1 Try.underlying25 hi hz0 hz1 hz2 rfl (by decide) _ n _ rfl hown x m c xs rfl ?c1 ?c2 ?c3 ?c4 ?c5 ?c6 ?_)
        try (case c1 => first | exact hxl | omega)
        case c2 => exact HOL.out
        case c3 => intro u hu; rw [← HXS.out, List.mem_map] at hu; obtain ⟨y, _, rfl⟩ := hu; rfl
        case c4 => unfold maxLen; omega
        case c5 => omega
        case c6 => exact hnew.le
        intro v' w9 how hgr _
        have HN := Lib.hid (hnew.grown' hgr (own_base hown))
        have how2 : w9.ownsRow w.heap.size 4 1 v' (n + m) ((bO (2 ^ n * vB bs) (n + m)).map fun x => .bool x) := by
          rw [← HU.out, List.map_append, HXS.out]; first | exact how | (simp only [List.map_replicate] at how ⊢; exact how)
        obtain ⟨a', c', rfl, hz⟩ := LRow.of_owns how2 (by omega)
        have HZ := Lib.hid hz
        clear hz how how2 hgr hown hnew
        go_wp2
        go_ret
        exact ⟨_, _, rfl, HZ.out, HN.out⟩
theorem nil_lrow (w : World) : LRow w none 0 0 [] := ⟨rfl, Nat.le_refl _, by omega, by omega, (fun _ => ⟨rfl, rfl⟩), (fun b off e => by cases e), (fun x e => by cases e), (fun x e => by cases e)⟩
set_option maxRecDepth 100000 in
set_option maxHeartbeats 2000000 in
theorem mul_r (a b : Option Addr) (n c m c2 : Nat) (bs cs : List Bool) (w : World) (h : LRow w a n c bs) (h2 : LRow w b m c2 cs) (hn : n ≤ 500000) (hm : m ≤ 500000) :
    Calls Try.prog 25 #[.slice a n c, .slice b m c2] w fun e w' => ∃ a' L c', e = .returned (.slice a' (L : Nat) c') ∧ LRow w' a' L c' (bO (mulG (vB bs) (vB cs)) L) ∧ mulG (vB bs) (vB cs) < 2 ^ L ∧ L ≤ n + m ∧ New w w' := by
  have HH := Lib.hid h
  have HUP := Lib.hid (fun i (hi : i ≤ 1000000) w' (hn' : New w w') => up_r b m c2 cs i w' (h2.stay hn') hi (by omega))
  have HBT : Hid (∀ i, i < n → bs.getD i false = (vB bs).testBit i) := Lib.hid (fun i _ => (bit_bool bs i).symm)
  have hA : vB bs < 2 ^ n := by have := vB_lt bs; rwa [h.len_eq] at this
  have hB : vB cs < 2 ^ m := by have := vB_lt cs; rwa [h2.len_eq] at this
  have HST := Lib.hid (fun i => bit_step (vB bs) i (vB cs))
  obtain ⟨A, hAe⟩ : ∃ A, vB bs = A := ⟨_, rfl⟩
  obtain ⟨B, hBe⟩ : ∃ B, vB cs = B := ⟨_, rfl⟩
  rw [hAe] at HBT hA HST ⊢
  rw [hBe] at HUP hB HST ⊢
  have HA := Lib.hid hA
  have HB := Lib.hid hB
  clear h h2 hA hB hAe hBe
  go_enter Try.func25, Try.ntmps25
  go_wp2_with fail
  go_loopw [5, 9] (fun v iv wr => ∃ (i L : Nat) (av : Option Addr) (ac : Nat), i ≤ n ∧ iv = .int .i64 (i : Int) ∧ v = .slice av L ac ∧ L ≤ n + m ∧ Hid (LRow wr av L ac (bO (mulG (A % 2 ^ i) B) L) ∧ mulG (A % 2 ^ i) B < 2 ^ L ∧ L ≤ i + m) ∧ New w wr) (fun _ iv _ => n - (intOf iv).toNat)
  case atStart => exact ⟨0, 0, none, 0, Nat.zero_le _, rfl, rfl, Nat.zero_le _, Lib.hid ⟨by rw [Nat.pow_zero, Nat.mod_one, mulG_zero]; exact nil_lrow _, by rw [Nat.pow_zero, Nat.mod_one, mulG_zero]; decide, Nat.zero_le _⟩, New.refl _⟩
  case round =>
    obtain ⟨i, L, av, ac, hi9, rfl, rfl, hL, HL, hnew⟩ := hrel
    obtain ⟨wq, hwq⟩ : ∃ z, z = wr := ⟨_, rfl⟩
    rw [← hwq] at HL hnew ⊢
    clear hwq
    by_cases hlt : (i : Int) < (n : Int)
    · have hi0 : (0 : Int) ≤ (i : Int) := by omega
      obtain ⟨b1, off, rfl, hc⟩ := (HH.out.stay hnew).addr (by omega)
      have c1 := hc i (by omega)
      rw [HBT.out i (by omega)] at c1
      clear hc
      have HSI := Lib.hid (HST.out i)
      rcases hx : A.testBit i with _ | _
      · rw [hx] at c1 HSI
        have HE : Hid (mulG (A % 2 ^ (i + 1)) B = mulG (A % 2 ^ i) B) := Lib.hid (by rw [HSI.out]; simp)
        have HL2 : Hid (LRow wq av L ac (bO (mulG (A % 2 ^ (i + 1)) B) L) ∧ mulG (A % 2 ^ (i + 1)) B < 2 ^ L ∧ L ≤ i + 1 + m) := Lib.hid (by
          rw [HE.out]; exact ⟨HL.out.1, HL.out.2.1, by have := HL.out.2.2; omega⟩)
        have HN := Lib.hid hnew
        clear hx hnew HL
        go_wp2
        exact ⟨⟨i + 1, L, av, ac, by omega, by go_num, rfl, hL, HL2, HN.out⟩, by simp [intOf]; omega⟩
      · rw [hx] at c1 HSI
        obtain ⟨Z, hZ⟩ : ∃ Z, mulG (A % 2 ^ i) B = Z := ⟨_, rfl⟩
        rw [hZ] at HSI HL
        have HE : Hid (mulG (A % 2 ^ (i + 1)) B = Z ^^^ 2 ^ i * B) := Lib.hid (by rw [HSI.out]; simp)
        have HC := Lib.hid (HUP.out i (by omega) wq hnew)
        have HN := Lib.hid hnew
        clear hx hnew hZ HSI
        go_wp2_with fail
        refine HC.out.mono ?_
        rintro e w2 ⟨a2, cc2, rfl, hr2, hn2⟩
        have hvz : vB (bO Z L) = Z := vB_bO_all HL.out.2.1
        have hup : 2 ^ i * B < 2 ^ (i + m) := by rw [Nat.pow_add]; exact (Nat.mul_lt_mul_left (Nat.two_pow_pos i)).2 HB.out
        have hvu : vB (bO (2 ^ i * B) (i + m)) = 2 ^ i * B := vB_bO_all hup
        have HD := Lib.hid (add_r av a2 L ac (i + m) cc2 _ _ w2 (HL.out.1.stay hn2) hr2 (by omega) (by omega))
        rw [hvz, hvu] at HD
        have HMX : Hid (Z ^^^ 2 ^ i * B < 2 ^ (max L (i + m)) ∧ max L (i + m) ≤ i + 1 + m ∧ max L (i + m) ≤ n + m) := Lib.hid ⟨Nat.xor_lt_two_pow (Nat.lt_of_lt_of_le HL.out.2.1 (Nat.pow_le_pow_right (by decide) (by omega))) (Nat.lt_of_lt_of_le hup (Nat.pow_le_pow_right (by decide) (by omega))), by have := HL.out.2.2; omega, by omega⟩
        obtain ⟨L2, hL2⟩ : ∃ L2, max L (i + m) = L2 := ⟨_, rfl⟩
        rw [hL2] at HD HMX
        replace HN := Lib.hid (HN.out.trans hn2)
        clear hr2 hn2 hvz hup hvu HC hL2 HL
        go_wp2_with fail
        refine HD.out.mono ?_
        rintro e w3 ⟨a3, c3, rfl, hr3, hn3⟩
        have HL3 : Hid (LRow w3 a3 L2 c3 (bO (mulG (A % 2 ^ (i + 1)) B) L2) ∧ mulG (A % 2 ^ (i + 1)) B < 2 ^ L2 ∧ L2 ≤ i + 1 + m) := Lib.hid (by
          rw [HE.out]; exact ⟨hr3, HMX.out.1, HMX.out.2.1⟩)
        have hL3 := HMX.out.2.2
        replace HN := Lib.hid (HN.out.trans hn3)
        clear hr3 hn3 HD HMX
        go_wp2
        exact ⟨⟨i + 1, L2, a3, c3, by omega, by go_num, rfl, hL3, HL3, HN.out⟩, by simp [intOf]; omega⟩
    · have hin : i = n := by omega
      have HF : Hid (mulG (A % 2 ^ i) B = mulG A B) := Lib.hid (by rw [hin, Nat.mod_eq_of_lt HA.out])
      rw [HF.out] at HL
      have HN := Lib.hid hnew
      clear hnew hin
      go_wp2
      go_ret
      exact ⟨_, L, _, rfl, HL.out.1, HL.out.2.1, hL, HN.out⟩
theorem info_u64w : (Try.prog.info? 34).map (fun i => (i.zero, i.size, i.bytes)) = some (some (.int .u64 0), 1, 8) := by kernel_rfl
set_option maxRecDepth 100000 in
set_option maxHeartbeats 2000000 in
theorem words_r (a : Option Addr) (n c : Nat) (bs : List Bool) (w : World) (h : LRow w a n c bs) (hn : n ≤ 1000000) :
    Calls Try.prog 57 #[.slice a n c] w fun e w' => ∃ a' c', e = .returned (.slice a' (tW (vB bs)).length c') ∧ QRow w' a' (tW (vB bs)).length c' (tW (vB bs)) ∧ New w w' := by
  obtain ⟨i0, hi, hz0, hz1, hz2⟩ := info_parts info_u64w
  have HD := Lib.hid (fun w' (hn' : New w w') => deg_r a n c bs w' (h.stay hn') (by omega))
  have HH := Lib.hid h
  have hbn := bl_vB bs
  rw [h.len_eq] at hbn
  have HBT : Hid (∀ i, i < n → bs.getD i false = (vB bs).testBit i) := Lib.hid (fun i _ => (bit_bool bs i).symm)
  have HEND := Lib.hid (tW_end (vB bs))
  have hlen : (tW (vB bs)).length = (bl (vB bs) + 63) / 64 := tW_len _
  rw [hlen]
  have HMB := Lib.hid (fun i => mod_bit (vB bs) i)
  obtain ⟨V, hV⟩ : ∃ V, vB bs = V := ⟨_, rfl⟩
  rw [hV] at HD hbn HBT HEND HMB ⊢
  obtain ⟨B, hB⟩ : ∃ B, bl V = B := ⟨_, rfl⟩
  rw [hB] at HD hbn HEND ⊢
  clear h hV hB hlen
  go_enter Try.func57, Try.ntmps57
  go_wp2_with fail
  go_loopw [3, 4] (fun v iv wr => ∃ i k : Nat, i ≤ B ∧ iv = .int .i64 (i : Int) ∧ Hid (k = (i + 63) / 64) ∧ wr.ownsRow w.heap.size 34 1 v k ((wL k (V % 2 ^ i)).map fun x => .int .u64 (W64 x)) ∧ New w wr) (fun _ iv _ => B - (intOf iv).toNat)
  case atStart => exact ⟨0, 0, Nat.zero_le _, rfl, Lib.hid rfl, World.ownsRow_nil w _ _ 1, New.refl w⟩
  case round =>
    obtain ⟨i, k, hi9, rfl, HK, hown, hnew⟩ := hrel
    obtain ⟨wq, hwq⟩ : ∃ z, z = wr := ⟨_, rfl⟩
    rw [← hwq] at hown hnew ⊢
    clear hwq
    have HDQ := Lib.hid (HD.out wq hnew)
    by_cases hlt : i < B
    · have hle : (i : Int) ≤ (B : Int) - 1 := by omega
      obtain ⟨j, hj⟩ : ∃ j, i / 64 = j := ⟨_, rfl⟩
      obtain ⟨s, hs⟩ : ∃ s, i % 64 = s := ⟨_, rfl⟩
      have hji : (i : Int) / 64 = (j : Int) := by omega
      have hsi : (i : Int) % 64 = (s : Int) := by omega
      have hjt : (i : Int).tdiv 64 = (j : Int) := by rw [Int.tdiv_eq_ediv_of_nonneg (by omega)]; exact hji
      have hst : (i : Int).tmod 64 = (s : Int) := by rw [Int.tmod_eq_emod_of_nonneg (by omega)]; exact hsi
      have hs64 : s < 64 := by omega
      have hsn : N64 (BitVec.ofNat 64 s) = s := by show (BitVec.ofNat 64 s).toNat = s; rw [BitVec.toNat_ofNat]; exact Nat.mod_eq_of_lt (by omega)
      have hjb : j ≤ 1000000 := by omega
      have HJ : Hid (j + 1 = (i + 1 + 63) / 64) := Lib.hid (by omega)
      have hi0 : (0 : Int) ≤ (i : Int) := by omega
      have hin : (i : Int) < (n : Int) := by omega
      obtain ⟨b1, off, rfl, hc⟩ := (HH.out.stay hnew).addr (by omega)
      have hcb := hc i (by omega)
      rw [HBT.out i (by omega)] at hcb
      have HCB := Lib.hid hcb
      have HBL := Lib.hid (fun w' (hn' : New wq w') => (hn'.cell (a := ⟨b1, off + i, none⟩) (cell_block hcb)).trans hcb)
      have HWB : Hid ((wL (j + 1) (V % 2 ^ i)).set j ((wL (j + 1) (V % 2 ^ i)).getD j 0 + 1#64 <<< s) = wL (j + 1) (V % 2 ^ i ^^^ 2 ^ i)) := Lib.hid (word_bit hj hs (Nat.lt_succ_self j))
      have HM := Lib.hid (HMB.out i)
      clear hc hcb
      by_cases hs0 : s = 0
      · have hkj : k = j := by rw [HK.out]; omega
        have hi64 : i = 64 * j := by omega
        have HWZ : Hid (wL (j + 1) (V % 2 ^ i) = wL j (V % 2 ^ i) ++ [0#64]) := Lib.hid (by rw [hi64]; exact wL_zero_at V j)
        have hsz : ((i : Int) % 64 == 0) = true := by rw [hsi, hs0]; rfl
        have hsz2 : ((s : Int) == 0) = true := by rw [hs0]; rfl
        rw [hkj] at hown
        clear hkj hi64 hj hs HK hs0
        go_wp2_with fail
        refine HDQ.out.mono ?_
        rintro e w' ⟨rfl, hw⟩
        replace hw := hw.symm
        subst hw
        clear HDQ HCB
        go_wp2_with (at_builtin; refine wpList_append_own _ rfl _ _ 22 rfl w.heap.size 34 i0 (.int .u64 0) 1 8 Try.underlying22 hi hz0 hz1 hz2 rfl (by decide) _ j _ rfl (hown.alloc _) ⟨wq.heap.size, 0, none⟩ 1 1 [.int .u64 0] rfl rfl ?c1 ?c2 ?c3 ?c4 ?c5 ?_)
        try (case c1 => exact cell_one_new wq _ _)
        try (case c2 => first | rfl | (intro u hu; simp at hu; subst hu; rfl))
        try (case c3 => first | (unfold maxLen; omega) | omega)
        try (case c4 => omega)
        try (case c5 => first | (simp; have := hnew.le; omega) | (have := hnew.le; omega))
        intro v' w9 how hgr _
        have HN1 := Lib.hid ((hnew.alloc _).grown' hgr (own_base hown))
        have hown2 : w9.ownsRow w.heap.size 34 1 v' (j + 1) ((wL (j + 1) (V % 2 ^ i)).map fun x => .int .u64 (W64 x)) := by
          rw [HWZ.out, List.map_append]; exact how
        have hcb := (HH.out.stay HN1.out).cell b1 off rfl i (by omega)
        rw [HBT.out i (by omega)] at hcb
        clear how hgr hown hnew HWZ
        rcases hx : V.testBit i with _ | _
        · rw [hx] at hcb HM
          have HO2 : Hid (w9.ownsRow w.heap.size 34 1 v' (j + 1) ((wL (j + 1) (V % 2 ^ (i + 1))).map fun x => .int .u64 (W64 x))) := Lib.hid (by
            rw [HM.out]; simpa using hown2)
          clear hx hown2
          go_wp2
          exact ⟨⟨i + 1, j + 1, by omega, by go_num, HJ, HO2.out, HN1.out⟩, by simp [intOf]; omega⟩
        · rw [hx, if_pos rfl] at HM
          rw [hx] at hcb
          obtain ⟨g, cap, rfl, hgb, _⟩ := ow_shape hown2 (by omega)
          obtain ⟨d1, f1⟩ := ow_w64 hown2 (k := j) (by omega)
          have HWB2 := HWB.out
          obtain ⟨u, hu⟩ : ∃ u, (wL (j + 1) (V % 2 ^ i)).getD j 0 = u := ⟨_, rfl⟩
          rw [hu] at d1 HWB2
          have HO2 : Hid ((w9.setCell ⟨g, j, none⟩ (.int .u64 (W64 (u + 1#64 <<< s)))).ownsRow w.heap.size 34 1 (.slice (some ⟨g, 0, none⟩) (j + 1) cap) (j + 1) ((wL (j + 1) (V % 2 ^ (i + 1))).map fun x => .int .u64 (W64 x))) := Lib.hid (by
            rw [HM.out, ← HWB2, List.map_set]; exact ow_set hown2 j _)
          have HN2 : Hid (New w (w9.setCell ⟨g, j, none⟩ (.int .u64 (W64 (u + 1#64 <<< s))))) := Lib.hid (HN1.out.setCell (p := ⟨g, j, none⟩) hgb _)
          have hj0 : (0 : Int) ≤ (j : Int) := by omega
          have hjj : (j : Int) < ((j + 1 : Nat) : Int) := by omega
          clear hx hown2 hu HWB2
          go_wp2
          exact ⟨⟨i + 1, j + 1, by omega, by go_num, HJ, HO2.out, HN2.out⟩, by simp [intOf]; omega⟩
      · have hkj : k = j + 1 := by rw [HK.out]; omega
        have hsz : ((i : Int) % 64 == 0) = false := by rw [hsi, beq_eq_false_iff_ne]; omega
        have hsz2 : ((s : Int) == 0) = false := by rw [beq_eq_false_iff_ne]; omega
        rw [hkj] at hown
        have hown2 := hown
        have HN1 := Lib.hid hnew
        have hcb := HCB.out
        clear hkj hj hs HK hown hnew HCB
        go_wp2_with fail
        refine HDQ.out.mono ?_
        rintro e w' ⟨rfl, hw⟩
        replace hw := hw.symm
        subst hw
        clear HDQ
        rcases hx : V.testBit i with _ | _
        · rw [hx] at hcb HM
          have HO2 : Hid (wq.ownsRow w.heap.size 34 1 u3 (j + 1) ((wL (j + 1) (V % 2 ^ (i + 1))).map fun x => .int .u64 (W64 x))) := Lib.hid (by
            rw [HM.out]; simpa using hown2)
          clear hx hown2
          go_wp2
          exact ⟨⟨i + 1, j + 1, by omega, by go_num, HJ, HO2.out, HN1.out⟩, by simp [intOf]; omega⟩
        · rw [hx, if_pos rfl] at HM
          rw [hx] at hcb
          obtain ⟨g, cap, rfl, hgb, _⟩ := ow_shape hown2 (by omega)
          obtain ⟨d1, f1⟩ := ow_w64 hown2 (k := j) (by omega)
          have HWB2 := HWB.out
          obtain ⟨u, hu⟩ : ∃ u, (wL (j + 1) (V % 2 ^ i)).getD j 0 = u := ⟨_, rfl⟩
          rw [hu] at d1 HWB2
          have HO2 : Hid ((wq.setCell ⟨g, j, none⟩ (.int .u64 (W64 (u + 1#64 <<< s)))).ownsRow w.heap.size 34 1 (.slice (some ⟨g, 0, none⟩) (j + 1) cap) (j + 1) ((wL (j + 1) (V % 2 ^ (i + 1))).map fun x => .int .u64 (W64 x))) := Lib.hid (by
            rw [HM.out, ← HWB2, List.map_set]; exact ow_set hown2 j _)
          have HN2 : Hid (New w (wq.setCell ⟨g, j, none⟩ (.int .u64 (W64 (u + 1#64 <<< s))))) := Lib.hid (HN1.out.setCell (p := ⟨g, j, none⟩) hgb _)
          have hj0 : (0 : Int) ≤ (j : Int) := by omega
          have hjj : (j : Int) < ((j + 1 : Nat) : Int) := by omega
          clear hx hown2 hu HWB2
          go_wp2
          exact ⟨⟨i + 1, j + 1, by omega, by go_num, HJ, HO2.out, HN2.out⟩, by simp [intOf]; omega⟩
    · have hiB : i = B := by omega
      have hgt : ¬ (i : Int) ≤ (B : Int) - 1 := by omega
      have hkB : k = (B + 63) / 64 := by rw [HK.out, hiB]
      rw [hiB, hkB, HEND.out] at hown
      obtain ⟨a', c', rfl, hz⟩ := QRow.of_owns hown (by omega)
      have HZ := Lib.hid hz
      have HN := Lib.hid hnew
      clear hown hz hnew HK hkB
      go_wp2_with fail
      refine HDQ.out.mono ?_
      rintro e w' ⟨rfl, hw⟩
      replace hw := hw.symm
      subst hw
      go_wp2
      go_ret
      exact ⟨_, _, rfl, HZ.out, HN.out⟩
end Go.Proofs.Ytppmpledcaonkaa
