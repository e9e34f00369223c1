/- strpoly.Bytes. -/
import Derived.Test.YtiboncnfepnjcaaStrJ
import Derived.Test.YtiboncnfepnjcaaStrH
import Derived.Test.YtiboncnfepnjcaaPolG
namespace Go.Proofs.Ytiboncnfepnjcaa
open Go Go.RowKit Go.Bv
set_option linter.unusedVariables false
theorem W64_nat (x : BitVec 64) : (W64 x).toNat = x.toNat := by unfold W64; omega
theorem W64_in (x : BitVec 64) : 0 ≤ W64 x ∧ W64 x < 18446744073709551616 := by have := x.isLt; unfold W64; omega
set_option maxHeartbeats 1000000 in
theorem alow_own (v : Value) (n : Nat) (xs : List (BitVec 8)) (x : BitVec 64) (k : Nat) (hk : k ≤ 7) (w0 w : World) (hn : n ≤ 10000000) (hown : w.ownsRow w0.heap.size 5 1 v n (xs.map fun y => .int .u8 (W8 y))) (hg : New w0 w) :
    Calls Try.prog 72 #[v, .int .u64 (W64 x), .int .i64 (k : Int)] w fun e w' => ∃ v', e = .returned v' ∧ w'.ownsRow w0.heap.size 5 1 v' (n + k) ((xs ++ bytes x k).map fun y => .int .u8 (W8 y)) ∧ New w0 w' := by
  obtain ⟨i0, hi, hz0, hz1, hz2⟩ := info_parts info_u8
  have HP := Lib.hid (put64_any none 0 0 [] (W64 x) (W64_in x) w w (nil_brow w) (by omega) (New.refl w))
  rw [ofInt_W64] at HP
  have HO := Lib.hid hown
  have HG := Lib.hid hg
  clear hown hg
  go_enter Try.func72, Try.ntmps72
  go_wp2_with fail
  refine (HP.out).mono ?_
  rintro e w1 ⟨a', c', rfl, hq, hn1, _⟩
  have hbt : ([] ++ bytes x 8).take k = bytes x k := by
    rw [List.nil_append]; unfold bytes
    rw [← List.map_take, List.take_range, Nat.min_eq_left (by omega)]
  have hle := hq.le
  have hr := hq.room
  have hm := hq.most
  have hqk := row_front hq (show k ≤ 0 + 8 by omega)
  rw [hbt] at hqk
  obtain ⟨b, off, rfl, _⟩ := hq.addr (by omega)
  have HQ := Lib.hid hqk
  have HN := Lib.hid hn1
  have how := own_new HO.out hn1
  have hle1 := HN.out.le
  have hle0 := HG.out.le
  clear hq hqk hbt hn1 HP
  have hc0 : ¬ c' = 0 := by omega
  have hk0 : (0 : Int) ≤ (k : Int) := by omega
  have hkc : (k : Int) ≤ (c' : Int) := by omega
  go_wp2_with (at_builtin; refine wpList_append_own _ rfl (.tmp 7) (.tmp 11) 48 rfl w0.heap.size 5 i0 (.int .u8 0) 1 1 Try.underlying48 hi hz0 hz1 hz2 rfl (by decide) _ n _ rfl how ⟨b, off, none⟩ k c' ((bytes x k).map fun y => .int .u8 (W8 y)) rfl (row_len HQ.out) (HQ.out.olds _ rfl) (row_one _) (by unfold maxLen; omega) (by omega) (by omega) ?_; intro v2 w2 how2 hgr2 _)
  have hf := (HG.out.trans HN.out).grown' hgr2 (own_base how)
  go_ret
  exact ⟨v2, rfl, by rw [List.map_append]; exact how2, hf⟩
/-- what Bytes hands back -/
def outB (l : List (BitVec 64)) : List (BitVec 8) := if okB l then unB l else []
theorem okZ_le {x : BitVec 64} : topB x ≤ 64 := Lib.bitLen_le x.toNat 64 (by omega) x.isLt
theorem okB_nil {l : List (BitVec 64)} (h : l.length = 0) : okB l = false := by unfold okB; rw [decide_eq_false (by omega)]; rfl
theorem okP_no {l : List (BitVec 64)} : ∀ {k m}, k < m → ¬ (l.getD k 0).toNat < 256 ^ 7 → okP l m = false
  | k, 0, h, _ => by omega
  | k, m + 1, h, hb => by
    show (okP l m && decide _) = false
    by_cases e : k = m
    · subst e; rw [decide_eq_false hb, Bool.and_false]
    · rw [okP_no (by omega) hb, Bool.false_and]
theorem okB_make {l : List (BitVec 64)} {m : Nat} (h : l.length = m + 1) (hp : okP l m = true) : okB l = okZ (l.getD m 0) := by
  unfold okB; rw [h, Nat.add_sub_cancel, hp, decide_eq_true (by omega)]; simp
theorem okB_bad {l : List (BitVec 64)} {m k : Nat} (h : l.length = m + 1) (hk : k < m) (hb : ¬ (l.getD k 0).toNat < 256 ^ 7) : okB l = false := by
  unfold okB; rw [h, Nat.add_sub_cancel, okP_no hk hb]; simp
theorem unB_make {l : List (BitVec 64)} {m : Nat} (h : l.length = m + 1) : unB l = unP l m ++ bytes (l.getD m 0) ((topB (l.getD m 0) - 1) / 8) := by
  unfold unB; rw [h, Nat.add_sub_cancel]
theorem shr_high (x : BitVec 64) : (x >>> 56 = 0#64) ↔ x.toNat < 256 ^ 7 := by
  rw [p256, ← BitVec.toNat_inj, BitVec.toNat_ushiftRight, Nat.shiftRight_eq_div_pow]
  show x.toNat / 2 ^ 56 = 0 ↔ x.toNat < 2 ^ 56
  rw [Nat.div_eq_zero_iff]
  have : 0 < 2 ^ 56 := by decide
  omega
set_option maxRecDepth 100000 in
set_option maxHeartbeats 4000000 in
theorem sbytes_q (a : Option Addr) (n c : Nat) (l : List (BitVec 64)) (w : World) (h : QRow w a n c l) (hlim : n ≤ 100000) :
    Calls Try.prog 44 #[.slice a n c] w fun e w' => ∃ a' c', e = .returned (.tuple #[.slice a' ((outB l).length : Nat) c', .bool (okB l)]) ∧ BRow w' a' (outB l).length c' (outB l) ∧ New w w' := by
  have HL := Lib.hid h.len_eq
  have bad : okB l = false → ∀ w', New w w' → ∃ a' c', Ending.returned (.tuple #[.slice none 0 0, .bool false]) = .returned (.tuple #[.slice a' ((outB l).length : Nat) c', .bool (okB l)]) ∧ BRow w' a' (outB l).length c' (outB l) ∧ New w w' := fun hb w' hn' => by
    have e : outB l = [] := by unfold outB; rw [hb]; rfl
    rw [e, hb]
    exact ⟨none, 0, rfl, nil_brow w', hn'⟩
  have HBAD := Lib.hid bad
  clear bad
  rcases n with _ | m
  · have HB := Lib.hid (okB_nil HL.out)
    clear HL
    go_enter Try.func44, Try.ntmps44
    go_wp2
    go_ret2
    exact HBAD.out HB.out _ (New.refl _)
  have HH := Lib.hid h
  have hle := h.le
  have hmo := h.most
  obtain ⟨b, off, rfl, _⟩ := h.addr (by omega)
  clear h
  have hc0 : ¬ c = 0 := by omega
  have h0m : (0 : Int) ≤ (m : Int) := by omega
  have hmc : (m : Int) ≤ (c : Int) := by omega
  have hne : ((m : Int) + 1 == 0) = false := by rw [beq_eq_false_iff_ne]; omega
  have hw1 : wrap64 (((m + 1 : Nat) : Int) - 1) = (m : Int) := by unfold wrap64; omega
  go_enter Try.func44, Try.ntmps44
  go_wp2_with fail
  go_loopw [4, 18] (fun v iv wr => ∃ k : Nat, k ≤ m ∧ iv = .int .i64 (k : Int) ∧ wr.ownsRow w.heap.size 5 1 v (7 * k) ((unP l k).map fun y => .int .u8 (W8 y)) ∧ New w wr ∧ Hid (okP l k = true)) (fun _ iv _ => m - (intOf iv).toNat)
  case atStart => exact ⟨0, Nat.zero_le _, rfl, World.ownsRow_nil _ _ _ 1, New.refl _, Lib.hid rfl⟩
  case round =>
    obtain ⟨k, hk, rfl, hown, hnew, HOK⟩ := hrel
    have HO := Lib.hid hown
    have HN := Lib.hid hnew
    obtain ⟨wq, hwq⟩ : ∃ z, z = wr := ⟨_, rfl⟩
    rw [← hwq] at HO HN ⊢
    clear hown hnew hwq
    by_cases hlt : (k : Int) < (m : Int)
    · have hk0 : (0 : Int) ≤ (k : Int) := by omega
      obtain ⟨_, _, hab, hc1⟩ := (HH.out.stay HN.out).addr (by omega)
      cases hab
      have c1 := hc1 k (by omega)
      clear hc1
      by_cases hx : (l.getD k 0).toNat < 256 ^ 7
      · have HOK2 : Hid (okP l (k + 1) = true) := Lib.hid (by
          show (okP l k && decide _) = true
          rw [HOK.out, decide_eq_true hx]; rfl)
        have HUN : Hid (unP l (k + 1) = unP l k ++ bytes (l.getD k 0) 7) := Lib.hid rfl
        have hsx := (shr_high (l.getD k 0)).2 hx
        have HA := Lib.hid (fun v => alow_own v (7 * k) (unP l k) (l.getD k 0) 7 (by omega) w wq (by omega))
        obtain ⟨x, hxe⟩ : ∃ z, l.getD k 0 = z := ⟨_, rfl⟩
        rw [hxe] at c1 hsx HA HUN
        clear hx hxe
        go_wp2_with fail
        refine (HA.out _ HO.out HN.out).mono ?_
        rintro e w8 ⟨v', rfl, how, hn⟩
        rw [← HUN.out, show 7 * k + 7 = 7 * (k + 1) by omega] at how
        have HO2 := Lib.hid how
        have HN2 := Lib.hid hn
        clear how hn c1 hsx
        go_wp2
        exact ⟨⟨k + 1, by omega, by go_num, HO2.out, HN2.out, HOK2⟩, by simp [intOf]; omega⟩
      · have HBB := Lib.hid (okB_bad HL.out (show k < m by omega) hx)
        have hsx := mt (shr_high (l.getD k 0)).1 hx
        obtain ⟨x, hxe⟩ : ∃ z, l.getD k 0 = z := ⟨_, rfl⟩
        rw [hxe] at c1 hsx
        clear hx hxe
        have hgx : (x >>> 56 != 0#64) = true := by rw [bne_iff_ne]; exact hsx
        go_wp2
        go_ret2
        exact HBAD.out HBB.out _ HN.out
    · obtain rfl : k = m := by omega
      obtain ⟨_, _, hab, hc1⟩ := (HH.out.stay HN.out).addr (by omega)
      cases hab
      have c1 := hc1 k (by omega)
      clear hc1
      have HOB := Lib.hid (okB_make HL.out HOK.out)
      have HUB := Lib.hid (unB_make HL.out)
      have hTle : topB (l.getD k 0) ≤ 64 := okZ_le
      have HB := Lib.hid (fun w => Try.bits_Len64 (W64 (l.getD k 0)) w (W64_in _).1 (by have := W64_in (l.getD k 0); omega))
      rw [W64_nat, show Lib.bitLen (l.getD k 0).toNat = topB (l.getD k 0) from rfl] at HB
      have HZ : Hid (okZ (l.getD k 0) = (decide (0 < topB (l.getD k 0)) && (decide ((topB (l.getD k 0) - 1) % 8 = 0) && decide ((topB (l.getD k 0) - 1) / 8 < 7)))) := Lib.hid rfl
      have HA := Lib.hid (fun v r (hr : r ≤ 7) => alow_own v (7 * k) (unP l k) (l.getD k 0) r hr w wq (by omega))
      obtain ⟨x, hxe⟩ : ∃ z, l.getD k 0 = z := ⟨_, rfl⟩
      rw [hxe] at c1 HOB HUB HB HZ HA hTle
      clear hxe
      obtain ⟨T, hT⟩ : ∃ z, topB x = z := ⟨_, rfl⟩
      rw [hT] at HUB HB HZ hTle
      clear hT
      have hw2 : wrap64 ((k : Int) + 1 - 1) = (k : Int) := by unfold wrap64; omega
      rcases T with _ | t
      · have HBB : Hid (okB l = false) := Lib.hid (by rw [HOB.out, HZ.out]; rfl)
        go_wp2_with fail
        refine (HB.out _).mono ?_
        rintro e w' ⟨rfl, hw⟩
        replace hw := hw.symm
        subst hw
        go_wp2
        go_ret2
        exact HBAD.out HBB.out _ HN.out
      · have hw3 : wrap64 (((t + 1 : Nat) : Int) - 1) = (t : Int) := by unfold wrap64; omega
        have ht0 : ¬ (t : Int) < 0 := by omega
        obtain ⟨q, hq⟩ : ∃ z, t / 8 = z := ⟨_, rfl⟩
        obtain ⟨r, hr⟩ : ∃ z, t % 8 = z := ⟨_, rfl⟩
        have hq2 : Int.tdiv (t : Int) 8 = (q : Int) := by rw [Int.tdiv_eq_ediv_of_nonneg (by omega)]; omega
        have hr2 : Int.tmod (t : Int) 8 = (r : Int) := by rw [Int.tmod_eq_emod_of_nonneg (by omega)]; omega
        have hq3 : (t : Int) / 8 = (q : Int) := by omega
        have hr3 : (t : Int) % 8 = (r : Int) := by omega
        rw [Nat.add_sub_cancel, hq, hr, decide_eq_true (show 0 < t + 1 by omega), Bool.true_and] at HZ
        rw [Nat.add_sub_cancel, hq] at HUB
        have htm : t ≤ 63 := by omega
        clear hq hr
        by_cases hr0 : r = 0
        · subst hr0
          by_cases hq7 : q < 7
          · have HBB : Hid (okB l = true) := Lib.hid (by rw [HOB.out, HZ.out, decide_eq_true hq7]; rfl)
            have hq7' : ¬ (7 : Int) ≤ (q : Int) := by omega
            go_wp2_with fail
            refine (HB.out _).mono ?_
            rintro e w' ⟨rfl, hw⟩
            replace hw := hw.symm
            subst hw
            go_wp2_with fail
            refine (HA.out _ q (by omega) HO.out HN.out).mono ?_
            rintro e w8 ⟨v', rfl, how, hn⟩
            rw [← HUB.out] at how
            have hlen : (unB l).length = 7 * k + q := by rw [HUB.out, List.length_append, unP_len, bytes_len]
            rw [← hlen] at how
            obtain ⟨a', c', rfl, hb⟩ := BRow.of_owns how (by omega)
            have HR := Lib.hid hb
            have HN2 := Lib.hid hn
            clear how hb hn hlen
            go_wp2
            go_ret2
            have hob : outB l = unB l := by unfold outB; rw [HBB.out]; rfl
            rw [hob, HBB.out]
            exact ⟨a', c', rfl, HR.out, HN2.out⟩
          · have HBB : Hid (okB l = false) := Lib.hid (by rw [HOB.out, HZ.out, decide_eq_false hq7]; rfl)
            have hq7' : (7 : Int) ≤ (q : Int) := by omega
            go_wp2_with fail
            refine (HB.out _).mono ?_
            rintro e w' ⟨rfl, hw⟩
            replace hw := hw.symm
            subst hw
            go_wp2
            go_ret2
            exact HBAD.out HBB.out _ HN.out
        · have HBB : Hid (okB l = false) := Lib.hid (by rw [HOB.out, HZ.out, decide_eq_false hr0]; simp)
          have hr0' : ¬ (r : Int) = 0 := by omega
          have hr0b : ((r : Int) != 0) = true := by rw [bne_iff_ne]; omega
          go_wp2_with fail
          refine (HB.out _).mono ?_
          rintro e w' ⟨rfl, hw⟩
          replace hw := hw.symm
          subst hw
          go_wp2
          go_ret2
          exact HBAD.out HBB.out _ HN.out
end Go.Proofs.Ytiboncnfepnjcaa
