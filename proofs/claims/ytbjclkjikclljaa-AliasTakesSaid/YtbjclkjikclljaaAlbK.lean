/- Layer 43: AliasTakes. -/
import Derived.Test.YtbjclkjikclljaaAlbJ
import Derived.Test.YtbjclkjikclljaaAliU
namespace Go.Proofs.Ytbjclkjikclljaa
open Go Go.RowKit Go.Bv Go.Ali
set_option linter.unusedVariables false
set_option maxRecDepth 100000
set_option maxHeartbeats 8000000 in
theorem takes_43_no (T : BitVec 64) (a : Option Addr) (nl c : Nat) (l : List (BitVec 64)) (ab : Option Addr) (nb cb : Nat) (aa : Option Addr) (na ca : Nat) (be : List (BitVec 64)) (al : List Int) (hs : ¬ (60 : Int) < (nl : Int)) (hE : tE T be al ≠ 0) (w : World) (hq : QRow w a nl c l) (h : TL w ab nb cb aa na ca be al) :
    Calls Try.prog 7 #[.slice a nl c, tv T ab nb cb aa na ca] w fun e w' => e = .returned (.bool true) ∧ New w w' := by
  have hn0 := (New.refl w).alloc (TB (.int .u64 (W64 T)) (.slice ab nb cb) (.slice aa na ca))
  have HTL : Hid (∀ w', New (w.alloc (TB (.int .u64 (W64 T)) (.slice ab nb cb) (.slice aa na ca))) w' → TL w' ab nb cb aa na ca be al) := Lib.hid (fun w' q => h.stay (hn0.trans q))
  have HQ : Hid (∀ w', New (w.alloc (TB (.int .u64 (W64 T)) (.slice ab nb cb) (.slice aa na ca))) w' → QRow w' a nl c l) := Lib.hid (fun w' q => hq.stay (hn0.trans q))
  have HBX : Hid (∀ w', New (w.alloc (TB (.int .u64 (W64 T)) (.slice ab nb cb) (.slice aa na ca))) w' → w'.heap[w.heap.size]? = some (TB (.int .u64 (W64 T)) (.slice ab nb cb) (.slice aa na ca))) := Lib.hid bx_stay
  obtain ⟨w0, hw0⟩ : ∃ w0, w.alloc (TB (.int .u64 (W64 T)) (.slice ab nb cb) (.slice aa na ca)) = w0 := ⟨_, rfl⟩
  have HN0 : Hid (New w0 w0) := Lib.hid (New.refl _)
  have HW := Lib.hid hw0
  have HNW : Hid (∀ w', New w0 w' → New w w') := Lib.hid (fun w' q => by rw [← hw0] at q; exact hn0.trans q)
  rw [hw0] at HTL HBX HQ
  have HTK : Hid (∀ b w', New w0 w' → Calls Try.prog 24 #[.pointer (some ⟨b, 0, none⟩), tv T ab nb cb aa na ca] w' fun e w2 => e = .returned (.tuple #[.int .i64 0, .slice none 0 0, .int .i64 (tE T be al)]) ∧ New w' w2) := Lib.hid (fun b w' q => take43_no T b ab nb cb aa na ca be al hE w' (HTL.out w' q))
  have HTA : Hid (∀ w', New w0 w' → Calls Try.prog 14 #[tv T ab nb cb aa na ca] w' fun e w2 => e = .returned (.int .i64 (tE T be al)) ∧ New w' w2) := Lib.hid (fun w' q => table_43 T ab nb cb aa na ca be al w' (HTL.out w' q))
  have HWT : Hid (∀ w', New w0 w' → Calls Try.prog 17 #[tv T ab nb cb aa na ca] w' fun e w2 => e = .returned (.tuple #[.slice none 0 0, .bool false]) ∧ New w' w2) := Lib.hid (fun w' q => weights_no T ab nb cb aa na ca be al hE w' (HTL.out w' q))
  obtain ⟨z, hz⟩ : ∃ z, tE T be al = z := ⟨_, rfl⟩
  rw [hz] at HTK HTA hE
  have hb : (z != 0) = true := by rw [bne_iff_ne]; exact hE
  clear hE hz h hn0 hw0 hq
  go_enter Try.func7, Try.ntmps7
  go_wp2_with fail
  rw [HW.out]
  refine (awake43 _).mono ?_
  rintro e w1 ⟨rfl, n1⟩
  have HN1 := Lib.hid (HN0.out.trans n1)
  clear n1
  go_wp2_with fail
  refine (new_t _ _ _ _ _ (HQ.out _ HN1.out)).mono ?_
  rintro e w2 ⟨b, rfl, _, ht, n2⟩
  have HN2 := Lib.hid (HN1.out.trans n2)
  have HT2 := Lib.hid ht
  clear n2 ht
  have k0 := cell_of_row _ _ 0 _ _ _ (HBX.out w2 HN2.out)
  have k1 := cell_of_row _ _ 1 _ _ _ (HBX.out w2 HN2.out)
  have k2 := cell_of_row _ _ 2 _ _ _ (HBX.out w2 HN2.out)
  go_wp2_with fail
  refine (HTK.out b _ HN2.out).mono ?_
  rintro e w3 ⟨rfl, n3⟩
  have HN3 := Lib.hid (HN2.out.trans n3)
  have HT3 := Lib.hid (HT2.out.stay n3)
  clear n3 k0 k1 k2
  have k0 := cell_of_row _ _ 0 _ _ _ (HBX.out w3 HN3.out)
  have k1 := cell_of_row _ _ 1 _ _ _ (HBX.out w3 HN3.out)
  have k2 := cell_of_row _ _ 2 _ _ _ (HBX.out w3 HN3.out)
  go_wp2_with fail
  refine (HTA.out _ HN3.out).mono ?_
  rintro e w4 ⟨rfl, n4⟩
  have HN4 := Lib.hid (HN3.out.trans n4)
  have HT4 := Lib.hid (HT3.out.stay n4)
  clear n4 k0 k1 k2
  have k0 := cell_of_row _ _ 0 _ _ _ (HBX.out w4 HN4.out)
  have k1 := cell_of_row _ _ 1 _ _ _ (HBX.out w4 HN4.out)
  have k2 := cell_of_row _ _ 2 _ _ _ (HBX.out w4 HN4.out)
  go_wp2_with fail
  refine (HWT.out _ HN4.out).mono ?_
  rintro e w5 ⟨rfl, n5⟩
  have HN5 := Lib.hid (HN4.out.trans n5)
  have HT5 := Lib.hid (HT4.out.stay n5)
  clear n5 k0 k1 k2
  go_wp2_with fail
  refine (used_t _ _ _ _ _ HT5.out).mono ?_
  rintro e w6 ⟨rfl, hw6⟩
  replace hw6 := hw6.symm
  subst hw6
  go_wp2
  go_ret
  exact ⟨rfl, HNW.out _ HN5.out⟩
set_option maxHeartbeats 16000000 in
theorem takes_43_ok (T : BitVec 64) (a : Option Addr) (nl c : Nat) (l : List (BitVec 64)) (ab : Option Addr) (n cb : Nat) (aa : Option Addr) (ca : Nat) (be : List (BitVec 64)) (al : List Int) (hs : ¬ (60 : Int) < (nl : Int)) (hE : tE T be al = 0) (w : World) (hq : QRow w a nl c l) (h : TL w ab n cb aa n ca be al) :
    Calls Try.prog 7 #[.slice a nl c, tv T ab n cb aa n ca] w fun e w' => e = .returned (.bool true) ∧ New w w' := by
  have hll := hq.len_eq
  have hn0 := (New.refl w).alloc (TB (.int .u64 (W64 T)) (.slice ab n cb) (.slice aa n ca))
  have HTL : Hid (∀ w', New (w.alloc (TB (.int .u64 (W64 T)) (.slice ab n cb) (.slice aa n ca))) w' → TL w' ab n cb aa n ca be al) := Lib.hid (fun w' q => h.stay (hn0.trans q))
  have HQ : Hid (∀ w', New (w.alloc (TB (.int .u64 (W64 T)) (.slice ab n cb) (.slice aa n ca))) w' → QRow w' a nl c l) := Lib.hid (fun w' q => hq.stay (hn0.trans q))
  have HBX : Hid (∀ w', New (w.alloc (TB (.int .u64 (W64 T)) (.slice ab n cb) (.slice aa n ca))) w' → w'.heap[w.heap.size]? = some (TB (.int .u64 (W64 T)) (.slice ab n cb) (.slice aa n ca))) := Lib.hid bx_stay
  obtain ⟨w0, hw0⟩ : ∃ w0, w.alloc (TB (.int .u64 (W64 T)) (.slice ab n cb) (.slice aa n ca)) = w0 := ⟨_, rfl⟩
  have HN0 : Hid (New w0 w0) := Lib.hid (New.refl _)
  have HW := Lib.hid hw0
  have HNW : Hid (∀ w', New w0 w' → New w w') := Lib.hid (fun w' q => by rw [← hw0] at q; exact hn0.trans q)
  rw [hw0] at HTL HBX HQ
  have HTA : Hid (∀ w', New w0 w' → Calls Try.prog 14 #[tv T ab n cb aa n ca] w' fun e w2 => e = .returned (.int .i64 0) ∧ New w' w2) := Lib.hid (fun w' q => by rw [← hE]; exact table_43 T ab n cb aa n ca be al w' (HTL.out w' q))
  have HTR : Hid (∀ w', New w0 w' → Calls Try.prog 26 #[.slice a nl c, tv T ab n cb aa n ca] w' fun e w2 => TrP T l nl n be al w' e w2) := Lib.hid (fun w' q => takr_43 T a nl c l ab n cb aa ca be al hE w' (HQ.out w' q) (HTL.out w' q))
  have HTK : Hid (∀ b w1 w', New w0 w1 → New w1 w' → w1.heap.size ≤ b → Tape w' b b l 0 → Calls Try.prog 24 #[.pointer (some ⟨b, 0, none⟩), tv T ab n cb aa n ca] w' fun e w2 => TkP T b l n be al w1 e w2) := Lib.hid (fun b w1 w' q1 q2 hb ht => take43_ok T b b l ab n cb aa ca be al hE w1 w' (HTL.out w1 q1) q2 hb hb ht)
  have HLL := Lib.hid hll
  clear hE h hn0 hw0 hq hll
  go_enter Try.func7, Try.ntmps7
  go_wp2_with fail
  rw [HW.out]
  refine (awake43 _).mono ?_
  rintro e w1 ⟨rfl, n1⟩
  have HN1 := Lib.hid (HN0.out.trans n1)
  clear n1
  go_wp2_with fail
  refine (new_t _ _ _ _ _ (HQ.out _ HN1.out)).mono ?_
  rintro e w2 ⟨b, rfl, hb, ht, n2⟩
  have HC2 := Lib.hid (HTK.out b w1 w2 HN1.out n2 hb ht)
  have HN2 := Lib.hid (HN1.out.trans n2)
  clear n2 ht hb HTK
  have k0 := cell_of_row _ _ 0 _ _ _ (HBX.out w2 HN2.out)
  have k1 := cell_of_row _ _ 1 _ _ _ (HBX.out w2 HN2.out)
  have k2 := cell_of_row _ _ 2 _ _ _ (HBX.out w2 HN2.out)
  go_wp2_with fail
  refine HC2.out.mono ?_
  intro e w3 hp
  unfold TkP at hp
  rcases hp with ⟨ds, k, a3, c3, g3, hd, rfl, hk, ht, n3⟩ | ⟨g3, hd, rfl, ht, n3⟩
  · have HD := Lib.hid hd
    obtain ⟨it, hit⟩ : ∃ z, tlV be al (ds.getD 0 dz).1.toNat (ds.getD 1 dz).1 = z := ⟨_, rfl⟩
    rw [hit]
    have HIT := Lib.hid hit
    clear hit
    have HN3 := Lib.hid (HN1.out.trans n3)
    have HK3 := Lib.hid hk
    have HT3 := Lib.hid ht
    clear hd hk ht n3 k0 k1 k2 HC2
    have k0 := cell_of_row _ _ 0 _ _ _ (HBX.out w3 HN3.out)
    have k1 := cell_of_row _ _ 1 _ _ _ (HBX.out w3 HN3.out)
    have k2 := cell_of_row _ _ 2 _ _ _ (HBX.out w3 HN3.out)
    go_wp2_with fail
    refine (HTA.out _ HN3.out).mono ?_
    rintro e w4 ⟨rfl, n4⟩
    have HN4 := Lib.hid (HN3.out.trans n4)
    have HT4 := Lib.hid (HT3.out.stay n4)
    have HK4 := Lib.hid (HK3.out.stay n4)
    clear n4 k0 k1 k2 HT3 HK3
    have k0 := cell_of_row _ _ 0 _ _ _ (HBX.out w4 HN4.out)
    have k1 := cell_of_row _ _ 1 _ _ _ (HBX.out w4 HN4.out)
    have k2 := cell_of_row _ _ 2 _ _ _ (HBX.out w4 HN4.out)
    go_wp2_with fail
    refine (HTR.out _ HN4.out).mono ?_
    intro e w5 hp
    unfold TrP at hp
    rcases hp with ⟨ds2, q2, a5, c5, hd, rfl, hk, n5⟩ | ⟨hd, rfl, n5⟩
    · rw [HD.out] at hd
      cases hd
      have HN5 := Lib.hid (HN4.out.trans n5)
      have HT5 := Lib.hid (HT4.out.stay n5)
      have HK5 := Lib.hid (HK4.out.stay n5)
      have HR5 := Lib.hid hk
      clear n5 k0 k1 k2 HT4 HK4 hk
      rw [HIT.out]
      go_wp2_with fail
      refine (used_t _ _ _ _ _ HT5.out).mono ?_
      rintro e w6 ⟨rfl, hw6⟩
      replace hw6 := hw6.symm
      subst hw6
      have hkk : ((k : Int) != (k : Int)) = false := by simp
      go_wp2_with fail
      refine (same38_q _ _ _ _ _ _ _ HK5.out HR5.out).mono ?_
      rintro e w7 ⟨rfl, n7⟩
      have HN7 := Lib.hid (HN5.out.trans n7)
      clear n7
      go_wp2
      go_ret
      exact ⟨rfl, HNW.out _ HN7.out⟩
    · rw [HD.out] at hd; cases hd
  · have HD := Lib.hid hd
    have HN3 := Lib.hid (HN1.out.trans n3)
    have HT3 := Lib.hid ht
    clear hd ht n3 k0 k1 k2 HC2
    have k0 := cell_of_row _ _ 0 _ _ _ (HBX.out w3 HN3.out)
    have k1 := cell_of_row _ _ 1 _ _ _ (HBX.out w3 HN3.out)
    have k2 := cell_of_row _ _ 2 _ _ _ (HBX.out w3 HN3.out)
    go_wp2_with fail
    refine (HTA.out _ HN3.out).mono ?_
    rintro e w4 ⟨rfl, n4⟩
    have HN4 := Lib.hid (HN3.out.trans n4)
    have HT4 := Lib.hid (HT3.out.stay n4)
    clear n4 k0 k1 k2 HT3
    have k0 := cell_of_row _ _ 0 _ _ _ (HBX.out w4 HN4.out)
    have k1 := cell_of_row _ _ 1 _ _ _ (HBX.out w4 HN4.out)
    have k2 := cell_of_row _ _ 2 _ _ _ (HBX.out w4 HN4.out)
    go_wp2_with fail
    refine (HTR.out _ HN4.out).mono ?_
    intro e w5 hp
    unfold TrP at hp
    rcases hp with ⟨ds2, q2, a5, c5, hd, rfl, hk, n5⟩ | ⟨hd, rfl, n5⟩
    · rw [HD.out] at hd; cases hd
    · have HN5 := Lib.hid (HN4.out.trans n5)
      have HT5 := Lib.hid (HT4.out.stay n5)
      rw [HLL.out] at HT5
      clear n5 k0 k1 k2 HT4
      go_wp2_with fail
      refine (used_t _ _ _ _ _ HT5.out).mono ?_
      rintro e w6 ⟨rfl, hw6⟩
      replace hw6 := hw6.symm
      subst hw6
      have hkk : ((nl : Int) != (nl : Int)) = false := by simp
      go_wp2
      go_ret
      exact ⟨rfl, HNW.out _ HN5.out⟩
theorem takes_43_big (T : BitVec 64) (a : Option Addr) (nl c : Nat) (ab : Option Addr) (nb cb : Nat) (aa : Option Addr) (na ca : Nat) (hs : (60 : Int) < (nl : Int)) (w : World) :
    Calls Try.prog 7 #[.slice a nl c, tv T ab nb cb aa na ca] w fun e w' => e = .returned (.bool true) ∧ New w w' := by
  have HN0 := Lib.hid ((New.refl w).alloc (TB (.int .u64 (W64 T)) (.slice ab nb cb) (.slice aa na ca)))
  go_enter Try.func7, Try.ntmps7
  go_wp2_with fail
  refine (awake43 _).mono ?_
  rintro e w1 ⟨rfl, n1⟩
  have HN1 := Lib.hid (HN0.out.trans n1)
  clear n1
  go_wp2
  go_ret
  exact ⟨rfl, HN1.out⟩
theorem AliasTakes_walk (W : World) (a0 : Option Addr) (n0 m0 : Nat) (z0 : List Int) (w0 : IRow .u64 W a0 n0 m0 z0) (r0 : m0 * 8 ≤ 140737488351232) (T1 : BitVec 64) (b1 : Option Addr) (nb1 mb1 : Nat) (a1 : Option Addr) (na1 ma1 : Nat) (be1 : List (BitVec 64)) (al1 : List Int) (w1 : TL W b1 nb1 mb1 a1 na1 ma1 be1 al1) :
    Calls Try.prog 7 #[.slice a0 n0 m0, .agg #[.int .u64 (W64 T1), .slice b1 nb1 mb1, .slice a1 na1 ma1]] W fun e w' => e = .returned (.bool true) ∧ Below W.heap.size W w' := by
  obtain ⟨l, h⟩ := w0.words r0
  by_cases hs : (60 : Int) < (n0 : Int)
  · exact takes_43_big T1 a0 n0 m0 b1 nb1 mb1 a1 na1 ma1 hs W
  · by_cases hE : tE T1 be1 al1 = 0
    · obtain ⟨_, _, hna, _⟩ := te_good hE
      have h1 := w1.b.len_eq
      have h2 := w1.a.len_eq
      obtain rfl : na1 = nb1 := by omega
      exact takes_43_ok T1 a0 n0 m0 l b1 na1 mb1 a1 ma1 be1 al1 hs hE W h w1
    · exact takes_43_no T1 a0 n0 m0 l b1 nb1 mb1 a1 na1 ma1 be1 al1 hs hE W h w1
end Go.Proofs.Ytbjclkjikclljaa
