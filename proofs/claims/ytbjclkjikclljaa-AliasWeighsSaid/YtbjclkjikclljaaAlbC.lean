/- Layer 43: AliasWeighs. -/
import Derived.Test.YtbjclkjikclljaaAlbB
import Derived.Test.YtbjclkjikclljaaAliT
import Derived.Test.YtbjclkjikclljaaFrame
namespace Go.Proofs.Ytbjclkjikclljaa
open Go Go.RowKit Go.Bv Go.Ali
set_option linter.unusedVariables false
set_option maxRecDepth 100000
theorem weighs_43_no (a : Option Addr) (n c : Nat) (l : List (BitVec 64)) (hE : wE l ≠ 0) (w : World) (h : QRow w a n c l) :
    Calls Try.prog 4 #[.slice a n c] w fun e w' => e = .returned (.bool true) ∧ New w w' := by
  have HC : Hid (∀ w', New w w' → Calls Try.prog 10 #[.slice a n c] w' fun e w2 => e = .returned (.int .i64 (wE l)) ∧ New w' w2) := Lib.hid (fun w' hn => checkr_43 a n c l w' (h.stay hn))
  obtain ⟨z, hz⟩ : ∃ z, wE l = z := ⟨_, rfl⟩
  rw [hz] at HC hE
  have hb : (z != 0) = true := by rw [bne_iff_ne]; exact hE
  clear hE hz h
  go_enter Try.func4, Try.ntmps4
  go_wp2_with fail
  refine (awake43 _).mono ?_
  rintro e w1 ⟨rfl, n1⟩
  have HN1 := Lib.hid n1
  clear n1
  go_wp2_with fail
  refine (HC.out _ HN1.out).mono ?_
  rintro e w2 ⟨rfl, n2⟩
  have HN2 := Lib.hid (HN1.out.trans n2)
  clear n2 HC
  go_wp2
  go_ret
  exact ⟨rfl, HN2.out⟩
set_option maxHeartbeats 16000000 in
theorem weighs_43_ok (a : Option Addr) (n c : Nat) (l : List (BitVec 64)) (hE : wE l = 0) (w : World) (h : QRow w a n c l) :
    Calls Try.prog 4 #[.slice a n c] w fun e w' => e = .returned (.bool true) ∧ New w w' := by
  have hl := h.len_eq
  have hm := h.most
  obtain ⟨h1, h2, h3, h4⟩ := we_good hE
  obtain ⟨h5, hinv, hst⟩ := cols_good hE
  have HTE := Lib.hid (te_cols hE)
  have HWT : Hid (∀ j : Nat, j < n → wtV (tot l n) (beL n (cols l)) (alL n (cols l)) (j : Int) = BitVec.ofNat 64 n * l.getD j 0 ∧ rwK (tot l n) (beL n (cols l)) (alL n (cols l)) (j : Int) n = BitVec.ofNat 64 n * l.getD j 0 ∧ (BitVec.ofNat 64 n * l.getD j 0).toNat = n * (l.getD j 0).toNat) := Lib.hid (by rw [← hl]; exact fun j hj => wt_cols hE hj)
  have HAL : Hid (∀ i, i < n → (cols l).al i < n) := Lib.hid (by rw [← hl]; exact hinv.al)
  rw [hl] at HTE
  have hn0 : 0 < n := by omega
  have hn256 : n ≤ 256 := by omega
  obtain ⟨p1, o1, e1, _⟩ := h.addr hn0
  subst e1
  have HQ := Lib.hid h
  have HC : Hid (∀ w', New w w' → Calls Try.prog 10 #[.slice (some ⟨p1, o1, none⟩) n c] w' fun e w2 => e = .returned (.int .i64 0) ∧ New w' w2) := Lib.hid (fun w' hn => by rw [← hE]; exact checkr_43 _ n c l w' (h.stay hn))
  have HBU : Hid (∀ w', New w w' → Calls Try.prog 9 #[.slice (some ⟨p1, o1, none⟩) n c] w' fun e w2 => ∃ g1 g2, e = .returned (.tuple #[tv (tot l n) (some ⟨g1, 0, none⟩) n n (some ⟨g2, 0, none⟩) n n, .int .i64 0]) ∧ TL w2 (some ⟨g1, 0, none⟩) n n (some ⟨g2, 0, none⟩) n n (beL n (cols l)) (alL n (cols l)) ∧ New w' w2) := Lib.hid (fun w' hn => by
    refine (build_any _ n c l w' (h.stay hn)).mono ?_
    rintro e w2 ⟨v, rfl, q1, _, q3⟩
    obtain ⟨g1, g2, rfl, ht⟩ := (q1 hE).open hn256 HAL.out
    rw [hE]
    exact ⟨g1, g2, rfl, ht, q3⟩)
  have HTOT : Hid (totn l n = BitVec.ofNat 64 n * tot l n) := Lib.hid (by have := totn_is l n; rw [hl] at this; exact this)
  have HTS : Hid (∀ k, totn l (k + 1) = totn l k + BitVec.ofNat 64 n * l.getD k 0) := Lib.hid (fun k => by rw [← hl]; rfl)
  have HT0 : Hid (Value.int .u64 0 = .int .u64 (W64 (totn l 0))) := Lib.hid wz43
  obtain ⟨T, hT⟩ : ∃ T, tot l n = T := ⟨_, rfl⟩
  rw [hT] at HTE HWT HBU HTOT
  obtain ⟨be, hbe⟩ : ∃ be, beL n (cols l) = be := ⟨_, rfl⟩
  obtain ⟨al, hal⟩ : ∃ al, alL n (cols l) = al := ⟨_, rfl⟩
  rw [hbe, hal] at HTE HWT HBU
  have hW := w_of (n := n) hn256
  have hcv : IntKind.u64.wrap (n : Int) = W64 (BitVec.ofNat 64 n) := by rw [wrap_u64]; rfl
  clear hE h1 h2 h3 h4 h5 hinv hst hl h hT hbe hal HAL
  go_enter Try.func4, Try.ntmps4
  go_wp2_with fail
  refine (awake43 _).mono ?_
  rintro e w1 ⟨rfl, n1⟩
  have HN1 := Lib.hid n1
  clear n1
  go_wp2_with fail
  refine (HC.out _ HN1.out).mono ?_
  rintro e w2 ⟨rfl, n2⟩
  have HN2 := Lib.hid (HN1.out.trans n2)
  clear n2 HC HN1
  go_wp2_with fail
  refine (HBU.out _ HN2.out).mono ?_
  rintro e w3 ⟨g1, g2, rfl, ht3, n3⟩
  have hnx := (New.refl w3).alloc (TB (.int .u64 (W64 T)) (.slice (some ⟨g1, 0, none⟩) n n) (.slice (some ⟨g2, 0, none⟩) n n))
  have HN3 := Lib.hid ((HN2.out.trans n3).trans hnx)
  have HTL : Hid (∀ w', New (w3.alloc (TB (.int .u64 (W64 T)) (.slice (some ⟨g1, 0, none⟩) n n) (.slice (some ⟨g2, 0, none⟩) n n))) w' → TL w' (some ⟨g1, 0, none⟩) n n (some ⟨g2, 0, none⟩) n n be al) := Lib.hid (fun w' q => ht3.stay (hnx.trans q))
  have HBX : Hid (∀ w', New (w3.alloc (TB (.int .u64 (W64 T)) (.slice (some ⟨g1, 0, none⟩) n n) (.slice (some ⟨g2, 0, none⟩) n n))) w' → w'.heap[w3.heap.size]? = some (TB (.int .u64 (W64 T)) (.slice (some ⟨g1, 0, none⟩) n n) (.slice (some ⟨g2, 0, none⟩) n n))) := Lib.hid bx_stay
  clear n3 ht3 hnx HN2 HBU
  obtain ⟨w0, hw0⟩ : ∃ w0, w3.alloc (TB (.int .u64 (W64 T)) (.slice (some ⟨g1, 0, none⟩) n n) (.slice (some ⟨g2, 0, none⟩) n n)) = w0 := ⟨_, rfl⟩
  rw [hw0] at HN3 HTL HBX
  have HW0 := Lib.hid hw0
  clear hw0
  have k0 := cell_of_row _ _ 0 _ _ _ (HBX.out w0 (New.refl _))
  have k1 := cell_of_row _ _ 1 _ _ _ (HBX.out w0 (New.refl _))
  have k2 := cell_of_row _ _ 2 _ _ _ (HBX.out w0 (New.refl _))
  go_wp2_with (rw [HW0.out])
  have htab := table_43 T (some ⟨g1, 0, none⟩) n n (some ⟨g2, 0, none⟩) n n be al w0 (HTL.out _ (New.refl _))
  rw [HTE.out] at htab
  refine htab.mono ?_
  rintro e w4 ⟨rfl, n4⟩
  have HN4 := Lib.hid n4
  clear n4 htab k0 k1 k2
  have k0 := cell_of_row _ _ 0 _ _ _ (HBX.out w4 HN4.out)
  have k1 := cell_of_row _ _ 1 _ _ _ (HBX.out w4 HN4.out)
  have k2 := cell_of_row _ _ 2 _ _ _ (HBX.out w4 HN4.out)
  go_wp2_with fail
  go_loopw [5, 41] (fun sv iv wr => ∃ k : Nat, k ≤ n ∧ iv = .int .i64 (k : Int) ∧ sv = .int .u64 (W64 (totn l k)) ∧ Hid (New w0 wr)) (fun _ iv _ => n - (intOf iv).toNat)
  case atStart => exact ⟨0, Nat.zero_le _, rfl, HT0.out, HN4⟩
  case round =>
    clear k0 k1 k2 HT0 HN4
    obtain ⟨k, hk, rfl, rfl, HN⟩ := hrel
    by_cases hlt : (k : Int) < (n : Int)
    · have hk0 : (0 : Int) ≤ (k : Int) := by omega
      have hkn : k < n := by omega
      have d1 := (HQ.out.stay (HN3.out.trans HN.out)).cell p1 o1 rfl k hkn
      have k0 := cell_of_row _ _ 0 _ _ _ (HBX.out wr HN.out)
      have k1 := cell_of_row _ _ 1 _ _ _ (HBX.out wr HN.out)
      have k2 := cell_of_row _ _ 2 _ _ _ (HBX.out wr HN.out)
      obtain ⟨q1, q2, q3⟩ := HWT.out k hkn
      have HK : Hid (Calls Try.prog 15 #[tv T (some ⟨g1, 0, none⟩) n n (some ⟨g2, 0, none⟩) n n, .int .i64 (k : Int)] wr fun e w2 => e = .returned (.tuple #[.int .u64 (W64 (BitVec.ofNat 64 n * l.getD k 0)), .int .i64 0]) ∧ New wr w2) := Lib.hid (by
        have hlb := (HTL.out wr HN.out).b.len_eq
        have := weight_43 T (some ⟨g1, 0, none⟩) n n (some ⟨g2, 0, none⟩) n n be al (k : Int) wr (HTL.out wr HN.out)
        rw [q1, je_ok HTE.out (by omega)] at this
        exact this)
      have HKR : Hid (∀ w', New w0 w' → Calls Try.prog 16 #[tv T (some ⟨g1, 0, none⟩) n n (some ⟨g2, 0, none⟩) n n, .int .i64 (k : Int)] w' fun e w2 => e = .returned (.int .u64 (W64 (BitVec.ofNat 64 n * l.getD k 0))) ∧ New w' w2) := Lib.hid (fun w' hn => by
        rw [← q2]
        exact weightr_43 T _ n n _ n be al (k : Int) hn0 w' (HTL.out w' hn))
      have HS := Lib.hid (HTS.out k)
      obtain ⟨x, hx⟩ : ∃ x, l.getD k 0 = x := ⟨_, rfl⟩
      rw [hx] at d1 HK HKR HS
      obtain ⟨s, hs⟩ : ∃ s, totn l k = s := ⟨_, rfl⟩
      rw [hs] at HS ⊢
      have hmul : (W64 (BitVec.ofNat 64 n * x) != W64 (BitVec.ofNat 64 n * x)) = false := by rw [bne_self_eq_false]
      clear q1 q2 q3 hx hs
      go_wp2_with fail
      refine HK.out.mono ?_
      rintro e w5 ⟨rfl, n5⟩
      have HN5 := Lib.hid (HN.out.trans n5)
      clear n5 k0 k1 k2 HK
      have k0 := cell_of_row _ _ 0 _ _ _ (HBX.out w5 HN5.out)
      have k1 := cell_of_row _ _ 1 _ _ _ (HBX.out w5 HN5.out)
      have k2 := cell_of_row _ _ 2 _ _ _ (HBX.out w5 HN5.out)
      go_wp2_with fail
      refine (HKR.out _ HN5.out).mono ?_
      rintro e w6 ⟨rfl, n6⟩
      have HN6 := Lib.hid (HN5.out.trans n6)
      clear n6 HKR
      go_wp2
      exact ⟨⟨k + 1, by omega, by go_num, by rw [HS.out], HN6⟩, by simp [intOf]; omega⟩
    · obtain rfl : k = n := by omega
      have k0 := cell_of_row _ _ 0 _ _ _ (HBX.out wr HN.out)
      have k1 := cell_of_row _ _ 1 _ _ _ (HBX.out wr HN.out)
      have k2 := cell_of_row _ _ 2 _ _ _ (HBX.out wr HN.out)
      have HWS := Lib.hid (weights_ok T (some ⟨g1, 0, none⟩) k k (some ⟨g2, 0, none⟩) k be al (fun i => l.getD i 0) HTE.out (fun j hj => ⟨(HWT.out j hj).1, (HWT.out j hj).2.2⟩) wr (HTL.out wr HN.out))
      rw [HTOT.out]
      go_wp2_with fail
      refine HWS.out.mono ?_
      rintro e w5 ⟨g5, rfl, hc5, n5⟩
      have HC5 := Lib.hid hc5
      have HN5 := Lib.hid (HN.out.trans n5)
      clear n5 k0 k1 k2 HWS hc5
      have k0 := cell_of_row _ _ 0 _ _ _ (HBX.out w5 HN5.out)
      have k1 := cell_of_row _ _ 1 _ _ _ (HBX.out w5 HN5.out)
      have k2 := cell_of_row _ _ 2 _ _ _ (HBX.out w5 HN5.out)
      go_wp2_with fail
      go_loopw [100] (fun iv wr => ∃ i : Nat, i ≤ k ∧ iv = .int .i64 (i : Int) ∧ wr = w5) (fun iv _ => k - (intOf iv).toNat)
      case atStart => exact ⟨0, Nat.zero_le _, rfl, rfl⟩
      case round =>
        clear k0 k1 k2
        obtain ⟨i, hi, rfl, rfl⟩ := hrel
        by_cases hlt2 : (i : Int) < (k : Int)
        · have hi0 : (0 : Int) ≤ (i : Int) := by omega
          have hik : i < k := by omega
          have d1 := (HQ.out.stay (HN3.out.trans HN5.out)).cell p1 o1 rfl i hik
          have c1 := (HC5.out.get hik).1
          obtain ⟨x, hx⟩ : ∃ x, l.getD i 0 = x := ⟨_, rfl⟩
          rw [hx] at d1 c1
          clear hx
          go_wp2
          exact ⟨⟨i + 1, by omega, by go_num, by first | rfl | trivial⟩, by simp [intOf]; omega⟩
        · obtain rfl : i = k := by omega
          go_wp2
          go_ret
          exact ⟨rfl, HN3.out.trans HN5.out⟩
theorem AliasWeighs_walk (W : World) (a0 : Option Addr) (n0 m0 : Nat) (z0 : List Int) (w0 : IRow .u64 W a0 n0 m0 z0) (r0 : m0 * 8 ≤ 140737488351232) :
    Calls Try.prog 4 #[.slice a0 n0 m0] W fun e w' => e = .returned (.bool true) ∧ Below W.heap.size W w' := by
  obtain ⟨l, h⟩ := w0.words r0
  by_cases hE : wE l = 0
  · exact weighs_43_ok a0 n0 m0 l hE W h
  · exact weighs_43_no a0 n0 m0 l hE W h
end Go.Proofs.Ytbjclkjikclljaa
