/- Contracts of mers89's Inv and of the document's own P, Mod, Add, Mul and Pow: for all numbers. -/
import Derived.Test.YtagidgboebjkhaaDoorMeiF
import Derived.Test.YtagidgboebjkhaaDoorBitQ
namespace Go.Bv
open Go Go.RowKit
theorem p2_nat : (p89 - 2#128).toNat = 618970019642690137449562109 := by decide +kernel
theorem m89_hi (N : Nat) : BitVec.ofNat 64 (N % 618970019642690137449562111 / 2 ^ 64) = hi128 (m89 N) := by unfold m89; rw [hi_ofNat]
theorem m89_lo (N : Nat) : BitVec.ofNat 64 (N % 618970019642690137449562111) = lo128 (m89 N) := by unfold m89; rw [lo_ofNat]
end Go.Bv
namespace Go.Proofs.YtagidgboebjkhaaDoor
open Go.RowKit Go.Bv
set_option linter.unusedVariables false
theorem own_base_le {w : World} {b b' : Nat} {e : TypeId} {size : Nat} {v : Value} {n : Nat} {xs : List Value} (h : w.ownsRow b e size v n xs) (hb : b' ≤ b) : w.ownsRow b' e size v n xs := by
  obtain ⟨hl, h⟩ := h
  refine ⟨hl, ?_⟩
  rcases h with h | ⟨g, cap, cur, hv, hg, h2⟩
  · exact Or.inl h
  · exact Or.inr ⟨g, cap, cur, hv, Nat.le_trans hb hg, h2⟩
set_option maxHeartbeats 2000000 in
theorem inv_89 (a : BitVec 128) (w : World) : Calls Tryd.prog 16 #[.agg #[.int .u64 (W64 (hi128 a)), .int .u64 (W64 (lo128 a))]] w fun e w' => e = .returned (.tuple #[.agg #[.int .u64 (W64 (hi128 (if m89 a.toNat = 0#128 then 0#128 else m89 (a.toNat ^ 618970019642690137449562109)))), .int .u64 (W64 (lo128 (if m89 a.toNat = 0#128 then 0#128 else m89 (a.toNat ^ 618970019642690137449562109))))], .bool (m89 a.toNat != 0#128)]) ∧ New w w' := by
  obtain ⟨h1, h2, h3⟩ := two_blocks w (.cells #[.int .u64 (W64 (hi128 a)), .int .u64 (W64 (lo128 a))] 26) (.cells #[.int .u64 0, .int .u64 0] 26)
  have H1 := Lib.hid (show B2 _ _ _ a from h1)
  have H2 := Lib.hid (show Z2 _ _ _ from h2)
  have H3 := Lib.hid h3
  have HR := Lib.hid (fun w => reduce_89 a w)
  have HPP := Lib.hid (fun w => p_89 w)
  have hs := fun w => wsub_x p89 2#128 w
  rw [thi, tlo] at hs
  have HS := Lib.hid hs
  have hw := fun w => pow_89 a (p89 - 2#128) w
  rw [p2_nat] at hw
  have HW := Lib.hid hw
  have heq := fun w => equ_x w (m89 a.toNat) 0#128
  rw [zhi, zlo] at heq
  clear h1 h2 h3 hs hw
  generalize m89 (a.toNat ^ 618970019642690137449562109) = r at *
  generalize decide (p89.toNat < (2#128).toNat) = ov at *
  generalize p89 - 2#128 = d at *
  generalize p89 = p at *
  generalize m89 a.toNat = m at *
  have a0 := H1.out.c0
  have a1 := H1.out.c1
  rcases hm : (m == 0#128)
  · rw [hm] at heq
    have hne : ¬ m = 0#128 := ne_of_beq_false hm
    rw [if_neg hne, show (m != 0#128) = true by rw [bne, hm]; rfl]
    clear hm hne
    go_enter Tryd.func16, Tryd.ntmps16
    go_wp2_with fail
    generalize (w.alloc (.cells #[.int .u64 (W64 (hi128 a)), .int .u64 (W64 (lo128 a))] 26)).alloc (.cells #[.int .u64 0, .int .u64 0] 26) = w0 at H1 H2 H3 a0 a1 ⊢
    refine (HR.out _).mono ?_
    rintro e w1 ⟨rfl, hn1⟩
    have HN1 := Lib.hid hn1
    clear hn1
    go_wp2_with fail
    refine (HPP.out _).mono ?_
    rintro e w2 ⟨rfl, hn2⟩
    have HN2 := Lib.hid (HN1.out.trans hn2)
    clear hn2
    go_wp2_with fail
    refine (HS.out _).mono ?_
    rintro e w3 ⟨rfl, hn3⟩
    have HN3 := Lib.hid (HN2.out.trans hn3)
    have hn4 := (HN2.out.trans hn3).alloc (.cells #[.int .u64 (W64 (hi128 d)), .int .u64 (W64 (lo128 d))] 26)
    have a0 := (H1.out.stay hn4).c0
    have a1 := (H1.out.stay hn4).c1
    have HN4 := Lib.hid hn4
    clear hn3 hn4
    go_wp2_with fail
    refine (HW.out _).mono ?_
    rintro e w5 ⟨rfl, hn5⟩
    have HN5 := Lib.hid (HN4.out.trans hn5)
    have hz := H2.out.stay HN5.out
    have k0 := hz.c0
    have k1 := hz.c1
    have kf := hz.free
    have HN := Lib.hid (H3.out.trans HN5.out)
    clear hz hn5 a0 a1
    go_wp2
    refine bodyPost_ret (by simp [results, Tryd.results16, go_sem, k0, k1]; try rfl) rfl ?_
    exact ⟨rfl, put2_new _ HN.out (by omega)⟩
  · rw [hm] at heq
    have hne : m = 0#128 := eq_of_beq hm
    rw [if_pos hne, show (m != 0#128) = false by rw [bne, hm]; rfl, zhi, zlo]
    clear hm hne
    go_enter Tryd.func16, Tryd.ntmps16
    go_wp2_with fail
    generalize (w.alloc (.cells #[.int .u64 (W64 (hi128 a)), .int .u64 (W64 (lo128 a))] 26)).alloc (.cells #[.int .u64 0, .int .u64 0] 26) = w0 at H1 H2 H3 a0 a1 ⊢
    refine (HR.out _).mono ?_
    rintro e w1 ⟨rfl, hn1⟩
    have hz := H2.out.stay hn1
    have k0 := hz.c0
    have k1 := hz.c1
    have kf := hz.free
    have HN := Lib.hid (H3.out.trans hn1)
    clear hz hn1
    go_wp2
    refine bodyPost_ret (by simp [results, Tryd.results16, go_sem, k0, k1]; try rfl) rfl ?_
    exact ⟨rfl, (HN.out.setCell (by show w.heap.size ≤ w.heap.size + 1; omega) _).setCell (by show w.heap.size ≤ w.heap.size + 1; omega) _⟩
theorem of2_n (x : BitVec 128) (w : World) : Calls Tryd.prog 5 #[.agg #[.int .u64 (W64 (hi128 x)), .int .u64 (W64 (lo128 x))]] w fun e w' => ∃ v, e = .returned v ∧ w'.ownsRow w.heap.size 3 1 v 128 ((bitsOf x.toNat 128).map fun y => .int .i64 y) ∧ New w w' := by
  have h := of2_own (hi128 x) (lo128 x) w
  rw [two_x] at h
  exact h
set_option maxHeartbeats 1000000 in
theorem rp_89 (w : World) : Calls Tryd.prog 13 #[] w fun e w' => ∃ v, e = .returned v ∧ w'.ownsRow w.heap.size 3 1 v 128 ((bitsOf 618970019642690137449562111 128).map fun y => .int .i64 y) ∧ New w w' := by
  have HN := Lib.hid (fun w => number_89 w)
  have ho := fun w => of2_n p89 w
  rw [p89_nat] at ho
  have HO := Lib.hid ho
  clear ho
  generalize p89 = p at *
  go_enter Tryd.func13, Tryd.ntmps13
  go_wp2_with fail
  refine (HN.out _).mono ?_
  rintro e w1 ⟨rfl, hn1⟩
  go_wp2_with fail
  refine (HO.out _).mono ?_
  rintro e w2 ⟨v2, rfl, hown2, hn2⟩
  go_wp2
  go_ret
  exact ⟨_, rfl, own_base_le hown2 hn1.le, hn1.trans hn2⟩
set_option maxHeartbeats 2000000 in
theorem rmod_89 (A na ca M : Nat) (a : Option Addr) (hM : M + 1 ≤ 4096) (hmx : max na 128 = M) (h0 : 0 < na) (w : World) (hr : ZRow w a na ca (bitsOf A na)) (hA : A < 2 ^ na) :
    Calls Tryd.prog 9 #[.slice a na ca] w fun e w' => e = .returned (.agg #[.int .u64 (W64 (hi128 (m89 A))), .int .u64 (W64 (lo128 (m89 A)))]) ∧ New w w' := by
  have h1 := heap_alloc_new w (.cells #[.int .u64 0, .int .u64 0] 26)
  have hn0 := (New.refl w).alloc (.cells #[.int .u64 0, .int .u64 0] 26)
  have H1 := Lib.hid (show Z2 _ _ _ from h1)
  have HROW := Lib.hid (hr.stay hn0)
  have HPP := Lib.hid (fun w => rp_89 w)
  have hT := fun N c a w h hN => to2_any N (M + 1) c a w h hN
  have HT : Hid (∀ (c : Nat) (a : Option Addr) (w : World), ZRow w a (M + 1) c (bitsOf (A % 618970019642690137449562111) (M + 1)) → Calls Tryd.prog 22 #[.slice a (M + 1) c] w fun e w' => e = .returned (.agg #[.int .u64 (W64 (hi128 (m89 A))), .int .u64 (W64 (lo128 (m89 A)))]) ∧ New w w') := Lib.hid fun c a w h => by
    have hlt : A % 618970019642690137449562111 < 2 ^ (M + 1) := by
      have : (2 : Nat) ^ 129 ≤ 2 ^ (M + 1) := Nat.pow_le_pow_right (by omega) (by omega)
      have : A % 618970019642690137449562111 < 618970019642690137449562111 := Nat.mod_lt _ (by omega)
      omega
    have h2 := hT _ c a w h hlt
    rw [m89_hi, m89_lo] at h2
    exact h2
  clear hT hr h1
  go_enter Tryd.func9, Tryd.ntmps9
  go_wp2_with fail
  generalize w.alloc (.cells #[.int .u64 0, .int .u64 0] 26) = w0 at *
  refine (HPP.out _).mono ?_
  rintro e w1 ⟨v1, rfl, hown1, hn1⟩
  obtain ⟨a1, c1, rfl, hz1⟩ := bits_row hown1 (by omega)
  go_wp2_with fail
  refine (bdiv_own A 618970019642690137449562111 na 128 _ _ _ _ M hM hmx h0 _ (HROW.out.stay hn1) hA hz1 (by omega) (by omega)).mono ?_
  rintro e w3 ⟨v3, v4, rfl, hown3, hown4, hn3⟩
  obtain ⟨a4, c4, rfl, hz4⟩ := bits_row hown4 (by omega)
  go_wp2_with fail
  refine (HT.out _ _ _ hz4).mono ?_
  rintro e w5 ⟨rfl, hn5⟩
  have HN5 := Lib.hid ((hn1.trans hn3).trans hn5)
  have hz := H1.out.stay HN5.out
  have k0 := hz.c0
  have k1 := hz.c1
  have kf := hz.free
  have HN := Lib.hid (hn0.trans HN5.out)
  clear hz hn1 hn3 hn5 hown1 hown3 hown4 hz1 hz4
  go_wp2
  refine bodyPost_ret (by simp [results, Tryd.results9, go_sem, k0, k1]; try rfl) rfl ?_
  exact ⟨rfl, put2_new _ HN.out (Nat.le_refl _)⟩
end Go.Proofs.YtagidgboebjkhaaDoor
