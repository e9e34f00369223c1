/- gf2: Mul. -/
import Derived.Test.YtppmpledcaonkaaGf2B
import Derived.Deep.QuietTactic
import Derived.BigQuiet
import Derived.Deep.RegionWith
namespace Go.Bv
open Go Go.RowKit
set_option linter.unusedVariables false
theorem QRow.cut {w : World} {a : Option Addr} {len cap : Nat} {l : List (BitVec 64)} (h : QRow w a len cap l) (n : Nat) (hn : n ≤ len) : QRow w a n cap (l.take n) where
  len_eq := by have := h.len_eq; rw [List.length_take]; omega
  le := Nat.le_trans hn h.le
  most := by have := h.most; omega
  room := h.room
  none := (fun e => by have := h.none e; omega)
  cell := fun b2 o2 e i hi => by
    rw [h.cell b2 o2 e i (by omega), List.getD_eq_getElem?_getD, List.getD_eq_getElem?_getD, List.getElem?_take, if_pos hi]
  spot := fun x e h0 => h.spot x e (by omega)
  old := fun x e h0 => h.old x e (by omega)
end Go.Bv
namespace Go.G2
set_option linter.unusedVariables false
theorem mulG_pow2 (a b k : Nat) : mulG a (2 ^ k * b) = 2 ^ k * mulG a b := by
  rw [← mulG_pow, mulG_comm a, mulG_assoc, mulG_comm b a, mulG_pow]
theorem pow_xor (a b k : Nat) : 2 ^ k * (a ^^^ b) = 2 ^ k * a ^^^ 2 ^ k * b := by
  rw [← mulG_pow, ← mulG_pow, ← mulG_pow, mulG_xor]
theorem wL_nil (k : Nat) : wL k 0 = List.replicate k 0#64 := by
  apply words_eq (n := k) (wL_len _ _) List.length_replicate
  intro i hi
  rw [wL_get hi, Nat.zero_div, List.getD_eq_getElem?_getD, List.getElem?_replicate, if_pos hi]; rfl
/-- the rows behind one word of a product -/
theorem mul_row {A B X : Nat} {i : Nat} (hx : BitVec.ofNat 64 (A / 2 ^ (64 * i)) = BitVec.ofNat 64 X) (hX : X < 2 ^ 64) : mulG (A % 2 ^ (64 * (i + 1))) B = mulG (A % 2 ^ (64 * i)) B ^^^ 2 ^ (64 * i) * mulG X B := by
  rw [mod_step, hx, BitVec.toNat_ofNat, Nat.mod_eq_of_lt hX, xor_mulG, mulG_comm (2 ^ (64 * i) * X), mulG_pow2, mulG_comm B]
/-- two words of a product -/
theorem mul_two {V P : Nat} {k : Nat} (hP : P < 2 ^ 128) : (V ^^^ 2 ^ (64 * k) * (BitVec.ofNat 64 P).toNat) ^^^ 2 ^ (64 * (k + 1)) * (BitVec.ofNat 64 (P / 2 ^ 64)).toNat = V ^^^ 2 ^ (64 * k) * P := by
  have h1 : P / 2 ^ 64 < 2 ^ 64 := by omega
  have h2 : P = P % 2 ^ 64 ^^^ 2 ^ 64 * (P / 2 ^ 64) := by
    rw [← bits_split _ _ _ (Nat.mod_lt _ (by decide))]
    omega
  rw [BitVec.toNat_ofNat, BitVec.toNat_ofNat, Nat.mod_eq_of_lt h1, Nat.mul_add, Nat.pow_add, Nat.mul_assoc, Nat.xor_assoc, ← pow_xor, ← h2]
theorem mulG_words {x y : BitVec 64} : mulG y.toNat x.toNat < 2 ^ 128 := by
  have := mulG_lt (n := 64) (m := 64) (Nat.lt_of_lt_of_le y.isLt (by decide)) x.isLt
  exact this
end Go.G2
namespace Go.Proofs.Ytppmpledcaonkaa
open Go Go.RowKit Go.Bv Go.G2
set_option linter.unusedVariables false
theorem wrap_i64 {x : Int} (h : 0 ≤ x) (h2 : x ≤ 1000000000) : IntKind.i64.wrap x = x := by
  simp [IntKind.wrap, IntKind.bits, IntKind.signed]; omega
theorem wrap_64 {x : Int} (h : 0 ≤ x) (h2 : x ≤ 1000000000) : wrap64 x = x := by unfold wrap64; omega
theorem idx_two {U T N i j k : Nat} (hN : U + T = N) (hb : N ≤ 1000000) (hi : i < U) (hj : j < T) (hk : i + j = k) : k + 1 < N ∧ (i : Int) + (j : Int) = (k : Int) ∧ wrap64 (k : Int) = (k : Int) ∧ IntKind.i64.wrap (k : Int) = (k : Int) ∧ wrap64 ((k : Int) + 1) = (k : Int) + 1 ∧ IntKind.i64.wrap ((k : Int) + 1) = (k : Int) + 1 ∧ (0 : Int) ≤ (k : Int) + 1 ∧ (k : Int) + 1 < (N : Int) ∧ (0 : Int) ≤ (k : Int) ∧ (k : Int) < (N : Int) := by
  exact ⟨by omega, by omega, wrap_64 (by omega) (by omega), wrap_i64 (by omega) (by omega), wrap_64 (by omega) (by omega), wrap_i64 (by omega) (by omega), by omega, by omega, by omega, by omega⟩
theorem ow_in2 {w : World} {base g n cap : Nat} {e : TypeId} {xs : List Value} (h : w.ownsRow base e 1 (.slice (some ⟨g, 0, none⟩) n cap) n xs) : base ≤ g ∧ g < w.heap.size := by
  obtain ⟨hl, h | ⟨g', cap', cur, hv, hb, hc, _⟩⟩ := h
  · cases h.1
  · injection hv with e1 e2 e3
    cases e1
    exact ⟨hb, lt_of_block hc⟩
theorem make_w64 (n : Nat) (hn : n ≤ 1000000) (t : Int) (w : World) (ht : t = ((n : Nat) : Int)) : (Instr.makeSlice 22 (.int .i64 t) (.int .i64 t)).run Try.prog w = .ok (.slice (some ⟨w.heap.size, 0, none⟩) n n) (w.alloc (.cells (madeCells #[.int .u64 0] n) 34)) := by
  obtain ⟨i0, hi, hz0, hz1, hz2⟩ := info_parts info8_u64
  subst ht
  exact run_make_row (P := Try.prog) 22 34 i0 (.int .u64 0) Try.underlying22 hi hz0 hz1 rfl .i64 .i64 n (by rw [hz2]; omega) (by omega) w
theorem ow_zeros (w : World) (n : Nat) (hn : n ≤ 1000000) : (w.alloc (.cells (madeCells #[.int .u64 0] n) 34)).ownsRow w.heap.size 34 1 (.slice (some ⟨w.heap.size, 0, none⟩) n n) n ((wL n 0).map fun x => .int .u64 (W64 x)) :=
  ow_made w _ _ _ n _ (Nat.le_refl _) (by omega) (by rw [made_toList, wL_nil, List.map_replicate]; rfl) (by rw [List.length_map, wL_len])
set_option maxRecDepth 100000 in
set_option maxHeartbeats 4000000 in
theorem mul_q (a b : Option Addr) (n c m c2 : Nat) (l l2 : List (BitVec 64)) (w : World) (h : QRow w a n c l) (h2 : QRow w b m c2 l2) (hn : n ≤ 50000) (hm : m ≤ 50000) :
    Calls Try.prog 24 #[.slice a n c, .slice b m c2] w fun e w' => ∃ a' c', e = .returned (.slice a' (tW (mulG (vW l) (vW l2))).length c') ∧ QRow w' a' (tW (mulG (vW l) (vW l2))).length c' (tW (mulG (vW l) (vW l2))) ∧ New w w' := by
  have hU1 := us_le l
  have hU2 := us_le l2
  rw [h.len_eq] at hU1
  rw [h2.len_eq] at hU2
  have HU1 := Lib.hid (fun w' (hn' : New w w') => used_q a n c l w' (h.stay hn'))
  have HU2 := Lib.hid (fun w' (hn' : New w w') => used_q b m c2 l2 w' (h2.stay hn'))
  have hr1 := h.cut _ hU1
  have hr2 := h2.cut _ hU2
  rw [us_take] at hr1 hr2
  have hA : vW l < 2 ^ (64 * usN l) := bl_le.1 (by unfold usN; omega)
  have hB : vW l2 < 2 ^ (64 * usN l2) := bl_le.1 (by unfold usN; omega)
  have hc1 := Nat.le_trans hU1 h.le
  have hc2 := Nat.le_trans hU2 h2.le
  obtain ⟨U, hU⟩ : ∃ U, usN l = U := ⟨_, rfl⟩
  obtain ⟨T, hT⟩ : ∃ T, usN l2 = T := ⟨_, rfl⟩
  obtain ⟨A, hAe⟩ : ∃ A, vW l = A := ⟨_, rfl⟩
  obtain ⟨B, hBe⟩ : ∃ B, vW l2 = B := ⟨_, rfl⟩
  rw [hU] at HU1 hr1 hA hU1 hc1
  rw [hT] at HU2 hr2 hB hU2 hc2
  rw [hAe] at hr1 hA ⊢
  rw [hBe] at hr2 hB ⊢
  have hTA : ∀ i, i < U → (tW A).getD i 0 = BitVec.ofNat 64 (A / 2 ^ (64 * i)) := fun i hi => wL_get (by have := hr1.len_eq; rw [tW_len] at this; omega)
  have hTB : ∀ i, i < T → (tW B).getD i 0 = BitVec.ofNat 64 (B / 2 ^ (64 * i)) := fun i hi => wL_get (by have := hr2.len_eq; rw [tW_len] at this; omega)
  have hML : mulG A B < 2 ^ (64 * (U + T)) := by
    have := mulG_lt (n := 64 * U) (m := 64 * T) (Nat.lt_of_lt_of_le hA (Nat.pow_le_pow_right (by decide) (by omega))) hB
    rwa [← Nat.mul_add] at this
  have HR1 := Lib.hid hr1
  have HR2 := Lib.hid hr2
  have HTA := Lib.hid hTA
  have HTB := Lib.hid hTB
  have HA := Lib.hid hA
  have HBL := Lib.hid hB
  have HML := Lib.hid hML
  obtain ⟨N, hN⟩ : ∃ N, U + T = N := ⟨_, rfl⟩
  have hNi : (U : Int) + (T : Int) = (N : Int) := by omega
  have HMK := Lib.hid (make_w64 N (by omega))
  have s1 : (0 : Int) ≤ (U : Int) := by omega
  have s2 : (U : Int) ≤ (c : Int) := by omega
  have s3 : (0 : Int) ≤ (T : Int) := by omega
  have s4 : (T : Int) ≤ (c2 : Int) := by omega
  have HNN := Lib.hid hN
  clear h h2 hr1 hr2 hTA hTB hA hB hML hU hT hAe hBe hN
  go_enter Try.func24, Try.ntmps24
  go_wp2_with fail
  go_step3
  go_wp2_with fail
  go_quiet (first
    | (go_at_call_of 55 (Value.slice a n c); refine Calls.quiet_of_same (HU1.out _ (by first | exact New.refl _ | exact (New.refl _).drew | exact (New.refl _).drewN _)))
    | (go_at_call_of 55 (Value.slice b m c2); refine Calls.quiet_of_same (HU2.out _ (by first | exact New.refl _ | exact (New.refl _).drew | exact (New.refl _).drewN _))))
  have hn1 : New w (w.drewN nq) := (New.refl w).drewN nq
  obtain ⟨w1, hw1⟩ : ∃ z, w.drewN nq = z := ⟨_, rfl⟩
  rw [hw1] at hn1 ⊢
  have hnz : New w (w1.alloc (.cells (madeCells #[.int .u64 0] N) 34)) := hn1.alloc _
  have hoz := ow_zeros w1 N (by omega)
  have hle1 : w.heap.size ≤ w1.heap.size := hn1.le
  have HLE := Lib.hid hle1
  obtain ⟨W2, hW2⟩ : ∃ z, w1.alloc (.cells (madeCells #[.int .u64 0] N) 34) = z := ⟨_, rfl⟩
  rw [hW2] at hnz hoz
  have HN := Lib.hid hnz
  have HO := Lib.hid (ow_base hoz hle1)
  have HW2 := Lib.hid hW2
  clear HU1 HU2 hw1 hn1 hnz hoz hle1 hW2
  obtain ⟨g, hg⟩ : ∃ g, w1.heap.size = g := ⟨_, rfl⟩
  rw [hg] at HO HLE
  go_wp2_with fail
  rw [HMK.out _ _ (by omega)]
  rw [HW2.out, hg]
  clear HW2 hg HMK
  go_wp2_with fail
  go_step3
  go_wp2_with fail
  go_loopw [27] (fun iv wr => ∃ i : Nat, i ≤ U ∧ iv = .int .i64 (i : Int) ∧ wr.ownsRow w.heap.size 34 1 (.slice (some ⟨g, 0, none⟩) N N) N ((wL N (mulG (A % 2 ^ (64 * i)) B)).map fun x => .int .u64 (W64 x)) ∧ New w wr) (fun iv _ => U - (intOf iv).toNat)
  case atStart =>
    refine ⟨0, Nat.zero_le _, rfl, ?_, HN.out⟩
    rw [Nat.mul_zero, Nat.pow_zero, Nat.mod_one, mulG_zero]
    exact HO.out
  case round =>
    clear HN HO
    obtain ⟨i, hi, rfl, hown, hnew⟩ := hrel
    obtain ⟨wq, hwq⟩ : ∃ z, z = wr := ⟨_, rfl⟩
    rw [← hwq] at hown hnew ⊢
    clear hwq
    by_cases hlt : (i : Int) < (U : Int)
    · have hi0 : (0 : Int) ≤ (i : Int) := by omega
      obtain ⟨b1, off, rfl, hc⟩ := (HR1.out.stay hnew).addr (by have := HR1.out.len_eq; omega)
      have c1 := hc i (by omega)
      rw [HTA.out i (by omega)] at c1
      clear hc
      obtain ⟨x, hx⟩ : ∃ x, BitVec.ofNat 64 (A / 2 ^ (64 * i)) = x := ⟨_, rfl⟩
      rw [hx] at c1
      have HST : Hid (mulG (A % 2 ^ (64 * (i + 1))) B = mulG (A % 2 ^ (64 * i)) B ^^^ 2 ^ (64 * i) * mulG x.toNat B) := Lib.hid (mul_row (by rw [hx]; simp) x.isLt)
      clear hx
      have HO := Lib.hid hown
      have HN := Lib.hid hnew
      clear hown hnew
      rcases hxe : (x == 0#64) with _ | _
      · go_wp2_with fail
        go_loopw [36] (fun jv wr => ∃ j : Nat, j ≤ T ∧ jv = .int .i64 (j : Int) ∧ wr.ownsRow w.heap.size 34 1 (.slice (some ⟨g, 0, none⟩) N N) N ((wL N (mulG (A % 2 ^ (64 * i)) B ^^^ 2 ^ (64 * i) * mulG x.toNat (B % 2 ^ (64 * j)))).map fun x => .int .u64 (W64 x)) ∧ New w wr) (fun jv _ => T - (intOf jv).toNat)
        case atStart =>
          refine ⟨0, Nat.zero_le _, rfl, ?_, HN.out⟩
          rw [Nat.mul_zero, Nat.pow_zero, Nat.mod_one, mulG_zero', Nat.mul_zero, Nat.xor_zero]
          exact HO.out
        case round =>
          clear HN HO c1
          obtain ⟨j, hj, rfl, hown, hnew⟩ := hrel
          obtain ⟨wz, hwz⟩ : ∃ z, z = wr := ⟨_, rfl⟩
          rw [← hwz] at hown hnew ⊢
          clear hwz
          by_cases hlt2 : (j : Int) < (T : Int)
          · have hj0 : (0 : Int) ≤ (j : Int) := by omega
            obtain ⟨b2, off2, rfl, hc⟩ := (HR2.out.stay hnew).addr (by have := HR2.out.len_eq; omega)
            have c2 := hc j (by omega)
            rw [HTB.out j (by omega)] at c2
            clear hc
            obtain ⟨y, hy⟩ : ∃ y, BitVec.ofNat 64 (B / 2 ^ (64 * j)) = y := ⟨_, rfl⟩
            rw [hy] at c2
            obtain ⟨V, hV⟩ : ∃ V, mulG (A % 2 ^ (64 * i)) B ^^^ 2 ^ (64 * i) * mulG x.toNat (B % 2 ^ (64 * j)) = V := ⟨_, rfl⟩
            obtain ⟨P, hP⟩ : ∃ P, mulG y.toNat x.toNat = P := ⟨_, rfl⟩
            have hPL : P < 2 ^ 128 := hP ▸ mulG_words
            obtain ⟨k, hk⟩ : ∃ k, i + j = k := ⟨_, rfl⟩
            have HV2 : Hid (mulG (A % 2 ^ (64 * i)) B ^^^ 2 ^ (64 * i) * mulG x.toNat (B % 2 ^ (64 * (j + 1))) = V ^^^ 2 ^ (64 * k) * P) := Lib.hid (by
              rw [mod_step, hy, mulG_xor, mulG_pow2, pow_xor, ← Nat.xor_assoc, hV, ← Nat.mul_assoc, ← Nat.pow_add, ← Nat.mul_add, hk, mulG_comm, hP])
            rw [hV] at hown
            have HC := Lib.hid (clmul_q x y wz)
            rw [hP] at HC
            obtain ⟨hkN, hki, hwa, hwb, hwc, hwd, hk10, hk1N, hk0, hkN0⟩ := idx_two HNN.out (by omega) (show i < U by omega) (show j < T by omega) hk
            have HWC := Lib.hid (And.intro hwc hwd)
            clear hwc hwd
            have HO := Lib.hid hown
            have HN := Lib.hid hnew
            clear hown hnew hy hV hP hk
            go_wp2_with fail
            refine HC.out.mono ?_
            rintro e w3 ⟨rfl, hn3⟩
            have HM2 := Lib.hid (mul_two (V := V) (k := k) hPL)
            obtain ⟨p1, hp1⟩ : ∃ q, BitVec.ofNat 64 (P / 2 ^ 64) = q := ⟨_, rfl⟩
            obtain ⟨p0, hp0⟩ : ∃ q, BitVec.ofNat 64 P = q := ⟨_, rfl⟩
            rw [hp1, hp0] at HM2 ⊢
            obtain ⟨W4, hW4⟩ : ∃ z, w3.alloc (.cells #[.int .u64 (W64 p1), .int .u64 (W64 p0)] 36) = z := ⟨_, rfl⟩
            have hn4 : New w3 W4 := hW4 ▸ (New.refl w3).alloc _
            have hb3 := heap_alloc_new w3 (.cells #[.int .u64 (W64 p1), .int .u64 (W64 p0)] 36)
            rw [hW4] at hb3
            have ho4 := ow_new (ow_new HO.out hn3) hn4
            have hg := ow_in2 (ow_new HO.out hn3)
            have hne : w3.heap.size ≠ g := (Nat.ne_of_lt hg.2).symm
            have hn94 := (HN.out.trans hn3).trans hn4
            have k0 : W4.cell? ⟨w3.heap.size, 0, none⟩ = some (.int .u64 (W64 p1)) := cell_of_row _ _ 0 _ _ _ hb3
            have k1 : W4.cell? ⟨w3.heap.size, 1, none⟩ = some (.int .u64 (W64 p0)) := cell_of_row _ _ 1 _ _ _ hb3
            obtain ⟨d1, f1⟩ := ow_w64 ho4 (k := k) (Nat.lt_of_succ_lt hkN)
            obtain ⟨u, hu⟩ : ∃ u, (wL N V).getD k 0 = u := ⟨_, rfl⟩
            rw [hu] at d1
            have hset1 : (wL N V).set k (u ^^^ p0) = wL N (V ^^^ 2 ^ (64 * k) * p0.toNat) := by
              rw [← hu, wL_get (Nat.lt_of_succ_lt hkN)]; exact wL_xor (Nat.lt_of_succ_lt hkN) p0
            have ho5 : ((W4.setCell ⟨g, k, none⟩ (.int .u64 (W64 (u ^^^ p0)))).drew).ownsRow w.heap.size 34 1 (.slice (some ⟨g, 0, none⟩) N N) N ((wL N (V ^^^ 2 ^ (64 * k) * p0.toNat)).map fun x => .int .u64 (W64 x)) := by
              rw [← hset1, List.map_set]; exact ow_new (ow_set ho4 k _) (New.refl _).drew
            have hn95 : New w ((W4.setCell ⟨g, k, none⟩ (.int .u64 (W64 (u ^^^ p0)))).drew) := New.drew (hn94.setCell (p := ⟨g, k, none⟩) hg.1 _)
            have hb5 := (((New.refl _).drew).block _ (by rw [show (W4.setCell ⟨g, k, none⟩ (.int .u64 (W64 (u ^^^ p0)))).heap.size = W4.heap.size by simp [World.setCell]]; exact lt_of_block hb3)).trans ((heap_setCell_other W4 ⟨g, k, none⟩ w3.heap.size (.int .u64 (W64 (u ^^^ p0))) hne).trans hb3)
            have HO5 := Lib.hid ho5
            have HN5 := Lib.hid hn95
            have HB5 := Lib.hid hb5
            clear hp1 hp0 hn3 hn4 ho4 hn94 hb3 ho5 hn95 hb5 hu hset1 HO HN HC
            go_wp2_with fail
            go_region
            clear k0 k1 d1 f1 hW4
            obtain ⟨W5, hW5⟩ : ∃ z, (W4.setCell ⟨g, k, none⟩ (.int .u64 (W64 (u ^^^ p0)))).drew = z := ⟨_, rfl⟩
            rw [hW5] at HO5 HN5 HB5 ⊢
            clear hW5
            have k2 : W5.cell? ⟨w3.heap.size, 0, none⟩ = some (.int .u64 (W64 p1)) := cell_of_row _ _ 0 _ _ _ HB5.out
            obtain ⟨d2, f2⟩ := ow_w64 HO5.out (k := k + 1) hkN
            obtain ⟨v, hv⟩ : ∃ v, (wL N (V ^^^ 2 ^ (64 * k) * p0.toNat)).getD (k + 1) 0 = v := ⟨_, rfl⟩
            rw [hv] at d2
            have HO6 : Hid (((W5.setCell ⟨g, k + 1, none⟩ (.int .u64 (W64 (v ^^^ p1)))).drew).ownsRow w.heap.size 34 1 (.slice (some ⟨g, 0, none⟩) N N) N ((wL N (V ^^^ 2 ^ (64 * k) * P)).map fun x => .int .u64 (W64 x))) := Lib.hid (by
              rw [← HM2.out, ← wL_xor hkN p1, ← wL_get hkN, hv, List.map_set]; exact ow_new (ow_set HO5.out (k + 1) _) (New.refl _).drew)
            have HN6 : Hid (New w ((W5.setCell ⟨g, k + 1, none⟩ (.int .u64 (W64 (v ^^^ p1)))).drew)) := Lib.hid (New.drew (HN5.out.setCell (p := ⟨g, k + 1, none⟩) hg.1 _))
            obtain ⟨hwc, hwd⟩ := HWC.out
            clear HM2 HO5 HN5 HB5 hv
            go_wp2_with fail
            go_region
            clear k2 d2 f2
            obtain ⟨W6, hW6⟩ : ∃ z, (W5.setCell ⟨g, k + 1, none⟩ (.int .u64 (W64 (v ^^^ p1)))).drew = z := ⟨_, rfl⟩
            rw [hW6] at HO6 HN6 ⊢
            clear hW6 hwa hwb hwc hwd HWC hki
            go_wp2
            refine ⟨⟨j + 1, by omega, by go_num, ?_, HN6.out⟩, by simp [intOf]; omega⟩
            rw [HV2.out]; exact HO6.out
          · have hjT : j = T := by omega
            rw [hjT, Nat.mod_eq_of_lt HBL.out, ← HST.out] at hown
            have HO := Lib.hid hown
            have HN := Lib.hid hnew
            clear hown hnew hjT
            go_wp2
            exact ⟨⟨i + 1, by omega, by go_num, HO.out, HN.out⟩, by simp [intOf]; omega⟩
      · have hx0 := of_eq hxe
        have HE : Hid (mulG (A % 2 ^ (64 * (i + 1))) B = mulG (A % 2 ^ (64 * i)) B) := Lib.hid (by rw [HST.out, hx0]; simp [mulG_zero])
        clear hx0
        go_wp2
        refine ⟨⟨i + 1, by omega, by go_num, ?_, HN.out⟩, by simp [intOf]; omega⟩
        rw [HE.out]; exact HO.out
    · have hiU : i = U := by omega
      rw [hiU, Nat.mod_eq_of_lt HA.out] at hown
      obtain ⟨a9, c9, he, hq⟩ := QRow.of_owns hown (by omega)
      cases he
      have HT := Lib.hid (trim_q _ _ _ _ wq hq)
      rw [vW_wL, Nat.mod_eq_of_lt (by rw [← HNN.out]; exact HML.out)] at HT
      have HN := Lib.hid hnew
      clear hown hnew hq hiU
      go_wp2_with fail
      refine HT.out.mono ?_
      rintro e w2 ⟨a8, c8, rfl, hq, hn2⟩
      have HQ := Lib.hid hq
      have HN2 := Lib.hid (HN.out.trans hn2)
      clear hq hn2 HT
      go_wp2
      rw [Exit.noGoto_ret]
      go_ret
      exact ⟨_, _, rfl, HQ.out, HN2.out⟩
end Go.Proofs.Ytppmpledcaonkaa
