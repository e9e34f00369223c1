/- Counts of words: the document's own Words, zeros, Lemire, Mask, Even. -/
import Derived.Test.YtdiikoiadhdeoaaTlyB
import Derived.Laws.AppendOwn
namespace Go.Proofs.Ytdiikoiadhdeoaa
open Go.RowKit Go.Bv Go.Tly
set_option linter.unusedVariables false
set_option maxHeartbeats 1000000 in
theorem rcheck_51 (t : Int) (n : BitVec 64) (w : World) : Calls Try.prog 12 #[.int .i64 t, .int .u64 (W64 n)] w fun e w' => e = .returned (.int .i64 (bad51 t n.toNat)) ∧ w' = w := by
  by_cases h1 : t < 1 ∨ 12 < t
  · rw [bad51_1 _ h1]
    rcases h1 with h1 | h1
    · go_enter Try.func12, Try.ntmps12
      go_wp2
      go_ret
      exact ⟨rfl, rfl⟩
    · have h2 : ¬ t < 1 := by omega
      go_enter Try.func12, Try.ntmps12
      go_wp2
      go_ret
      exact ⟨rfl, rfl⟩
  · have h2 : ¬ t < 1 := by omega
    have h3 : ¬ 12 < t := by omega
    have hb := beq0 n
    by_cases h0 : n.toNat = 0
    · rw [bad51_8 (by omega) h0]
      rw [decide_eq_true h0] at hb
      clear h0 h1
      go_enter Try.func12, Try.ntmps12
      go_wp2
      go_ret
      exact ⟨rfl, rfl⟩
    · rw [decide_eq_false h0] at hb
      have hl := two_le (t := t.toNat) (by omega)
      have HP := Lib.hid (fun w => power_51 t.toNat (by omega) w)
      rw [show ((t.toNat : Nat) : Int) = t from by omega] at HP
      have hw : W64 (ofN (2 ^ t.toNat)) = ((2 ^ t.toNat : Nat) : Int) := by rw [W64_ofN (by omega)]
      obtain ⟨p, hp⟩ : ∃ p, ofN (2 ^ t.toNat) = p := ⟨_, rfl⟩
      rw [hp] at HP hw
      by_cases h9 : 2 ^ t.toNat < n.toNat
      · rw [bad51_9 (by omega) h0 h9]
        have hd : decide (W64 p < W64 n) = true := decide_eq_true (by rw [hw]; unfold W64; omega)
        clear h0 h1 hl hw h9 hp
        go_enter Try.func12, Try.ntmps12
        go_wp2_with fail
        refine (HP.out _).mono ?_
        rintro e w' ⟨rfl, rfl⟩
        go_wp2
        go_ret
        exact ⟨rfl, rfl⟩
      · rw [bad51_0 (by omega) h0 h9]
        have hd : decide (W64 p < W64 n) = false := decide_eq_false (by rw [hw]; unfold W64; omega)
        clear h0 h1 hl hw h9 hp
        go_enter Try.func12, Try.ntmps12
        go_wp2_with fail
        refine (HP.out _).mono ?_
        rintro e w' ⟨rfl, rfl⟩
        go_wp2
        go_ret
        exact ⟨rfl, rfl⟩
theorem new_cells51 (w : World) (cs : Array Value) (t : TypeId) : ∀ j u, cs.toList[j]? = some u → (w.alloc (.cells cs t)).cell? ((⟨w.heap.size, 0, none⟩ : Addr).add j) = some u := by
  intro j u h
  rw [add_plain, Nat.zero_add, World.cell?_alloc_new]
  simpa using h
set_option maxHeartbeats 1000000 in
theorem zeros_51 (n : BitVec 64) (h0 : ¬ n.toNat = 0) (hn : n.toNat ≤ 4096) (w : World) :
    Calls Try.prog 38 #[.int .u64 (W64 n)] w fun e w' => ∃ g c, e = .returned (.slice (some ⟨g, 0, none⟩) n.toNat c) ∧ n.toNat ≤ c ∧ c ≤ maxLen ∧ CR w' g n.toNat (fun _ => 0#64) ∧ w.heap.size ≤ g ∧ New w w' := by
  obtain ⟨i0, hi, hz0, hz1, hz2⟩ := info_parts info51
  obtain ⟨m, hm⟩ : ∃ m, n.toNat = m := ⟨_, rfl⟩
  have hnm : n = ofN m := by rw [← hm, ofN_of]
  rw [hm] at h0 hn ⊢
  subst hnm
  clear hm
  have hz : W64 0#64 = 0 := W64_lit 0 (by omega)
  have HZ := Lib.hid hz
  go_enter Try.func38, Try.ntmps38
  go_wp2
  go_loopw [3, 4] (fun v i wr => ∃ k : Nat, k ≤ m ∧ i = .int .u64 (W64 (ofN k)) ∧ wr.ownsRow w.heap.size 22 1 v k (List.replicate k (.int .u64 0)) ∧ New w wr) (fun _ i _ => m - (intOf i).toNat)
  case atStart => exact ⟨0, by omega, by rw [show ofN 0 = 0#64 from rfl, HZ.out], World.ownsRow_nil w _ _ 1, New.refl w⟩
  case round =>
    obtain ⟨k, hk, rfl, hown, hnew⟩ := hrel
    by_cases hlt : k < m
    · have hd : decide (W64 (ofN k) < W64 (ofN m)) = true := decide_eq_true (by rw [W64_ofN (by omega), W64_ofN (by omega)]; omega)
      have hs := ofN_succ k
      have HM : Hid (m - (W64 (ofN (k + 1))).toNat < m - (W64 (ofN k)).toNat) := Lib.hid (by rw [W64_ofN (by omega), W64_ofN (by omega)]; omega)
      obtain ⟨xk, hxk⟩ : ∃ x, ofN k = x := ⟨_, rfl⟩
      obtain ⟨xl, hxl⟩ : ∃ x, ofN (k + 1) = x := ⟨_, rfl⟩
      rw [hxk, hxl] at hs HM
      rw [hxk] at hd ⊢
      have HXL := Lib.hid hxl
      clear hxk hxl hz
      go_wp2_with (at_builtin; refine wpList_append_own _ rfl _ _ 24 rfl w.heap.size 22 i0 (.int .u64 0) 1 8 Try.underlying24 hi hz0 hz1 hz2 rfl (by decide) _ k _ rfl (hown.alloc _) ⟨wr.heap.size, 0, none⟩ 1 1 [.int .u64 0] rfl rfl ?c1 ?c2 ?c3 ?c4 ?c5 ?_)
      case c1 => exact new_cells51 wr _ _
      case c2 => intro u hu; simp at hu; subst hu; rfl
      case c3 => unfold maxLen; omega
      case c4 => omega
      case c5 => simp; have := hnew.le; omega
      intro v' w1 how hgr _
      have how2 : w1.ownsRow w.heap.size 22 1 v' (k + 1) (List.replicate (k + 1) (.int .u64 0)) := by
        rw [List.replicate_succ']; exact how
      have hn1 : New w w1 := (hnew.alloc _).grown' hgr (own_base hown)
      clear how hgr
      go_wp2
      exact ⟨⟨k + 1, by omega, by rw [HXL.out], how2, hn1⟩, by simpa [intOf] using HM.out⟩
    · obtain rfl : k = m := by omega
      obtain ⟨hl, hh⟩ := hown
      rcases hh with ⟨rfl, hk0⟩ | ⟨g, cap, cur, rfl, hb, hc, hle, hmx, hcs, htk⟩
      · exact absurd hk0 h0
      · have hd : decide (W64 (ofN k) < W64 (ofN k)) = false := decide_eq_false (by omega)
        have HC : Hid (CR wr g k (fun _ => 0#64)) := Lib.hid ⟨cur, hc, by omega, fun j hj => by
          have e1 : (cur.toList.take (k * 1))[j]? = some (.int .u64 0) := by rw [htk, List.getElem?_replicate, if_pos hj]
          rw [List.getElem?_take, if_pos (by omega), Array.getElem?_toList] at e1
          rw [e1, HZ.out]⟩
        clear hc hl htk hcs hz
        go_wp2
        go_ret
        exact ⟨g, cap, rfl, hle, hmx, HC.out, hb, hnew⟩
theorem nzero {a : Nat} (h : ¬ a = 0) (hb : a < 18446744073709551616) : ¬ W64 (ofN a) = 0 := by rw [W64_ofN hb]; omega
set_option maxHeartbeats 2000000 in
theorem rlem_51 (t : Nat) (ht : 1 ≤ t ∧ t ≤ 12) (n : BitVec 64) (h0 : ¬ n.toNat = 0) (hn : ¬ 2 ^ t < n.toNat) (w : World) :
    Calls Try.prog 13 #[.int .i64 (t : Int), .int .u64 (W64 n)] w fun e w' => ∃ g c, e = .returned (.tuple #[.slice (some ⟨g, 0, none⟩) n.toNat c, .int .u64 (W64 (lo51 (lemF (2 ^ t) n.toNat) (2 ^ t)))]) ∧ n.toNat ≤ c ∧ c ≤ maxLen ∧ CR w' g n.toNat (cl (lemF (2 ^ t) n.toNat) (2 ^ t)) ∧ New w w' := by
  have hA : 2 ^ t ≤ 4096 := Nat.le_trans (Nat.pow_le_pow_right (by omega) ht.2) (by decide)
  have hA0 := Nat.two_pow_pos t
  have HZS := Lib.hid (fun w => zeros_51 n h0 (by omega) w)
  have HP := Lib.hid (fun w => power_51 t (by omega) w)
  obtain ⟨A, hAe⟩ : ∃ A, 2 ^ t = A := ⟨_, rfl⟩
  rw [hAe] at hA hA0 hn HP
  rw [hAe]
  obtain ⟨N, hN⟩ : ∃ N, n.toNat = N := ⟨_, rfl⟩
  have hnN : n = ofN N := by rw [← hN, ofN_of]
  rw [hN] at h0 hn HZS ⊢
  subst hnN
  have hz1 := nzero (a := A) (by omega) (by omega)
  have hz2 := nzero h0 (by omega)
  have hr2 : ofN A % ofN N = ofN (A % N) := ofN_mod (by omega) (by omega)
  have HLT : Hid (∀ x, x < A → ∀ v, lemF A N x = some v → v < N) := Lib.hid (fun x hx v hv => lem_lt hA0 hx hv)
  obtain ⟨pa, hpa⟩ : ∃ z, ofN A = z := ⟨_, rfl⟩
  obtain ⟨pn, hpn⟩ : ∃ z, ofN N = z := ⟨_, rfl⟩
  obtain ⟨pr, hpr⟩ : ∃ z, ofN (A % N) = z := ⟨_, rfl⟩
  rw [hpa] at hz1 hr2 HP
  rw [hpn] at hz2 hr2 HZS
  rw [hpr] at hr2
  rw [hpn]
  have HPA := Lib.hid hpa
  have HPN := Lib.hid hpn
  have HPR := Lib.hid hpr
  have HZ : Hid (W64 0#64 = 0) := Lib.hid (W64_lit 0 (by omega))
  have HB : Hid (A ≤ 4096 ∧ N ≤ A ∧ 0 < N) := Lib.hid ⟨hA, by omega, by omega⟩
  clear hN hAe hpa hpn hpr hA hA0 hn h0
  go_enter Try.func13, Try.ntmps13
  go_wp2_with fail
  refine (HZS.out _).mono ?_
  rintro e w1 ⟨g, c, rfl, hc1, hc2, hcr, hgb, hn1⟩
  have HC1 := Lib.hid hc1
  have HC2 := Lib.hid hc2
  have HGB := Lib.hid hgb
  have HCR := Lib.hid hcr
  have HN1 := Lib.hid hn1
  clear hc1 hc2 hcr hgb hn1
  go_wp2_with fail
  refine (HP.out _).mono ?_
  rintro e w' ⟨rfl, hw⟩
  replace hw := hw.symm
  subst hw
  go_wp2_with fail
  go_loopw [7, 9] (fun lv xv wr => ∃ k : Nat, k ≤ A ∧ lv = .int .u64 (W64 (lo51 (lemF A N) k)) ∧ xv = .int .u64 (W64 (ofN k)) ∧ Hid (CR wr g N (cl (lemF A N) k)) ∧ Hid (New w wr)) (fun _ xv _ => A - (intOf xv).toNat)
  case atStart => exact ⟨0, Nat.zero_le _, by rw [show lo51 (lemF A N) 0 = 0#64 from rfl, HZ.out], by rw [show ofN 0 = 0#64 from rfl, HZ.out], HCR, HN1⟩
  case round =>
    clear HCR HN1
    obtain ⟨k, hk, rfl, rfl, HC, HN⟩ := hrel
    obtain ⟨hA, hNA, hN0⟩ := HB.out
    by_cases hlt : k < A
    · have hsm := lem_small hlt hNA hA
      have hd : decide (W64 (ofN k) < W64 pa) = true := decide_eq_true (by rw [← HPA.out, W64_ofN (by omega), W64_ofN (by omega)]; omega)
      have hs := ofN_succ k
      have HM : Hid (A - (W64 (ofN (k + 1))).toNat < A - (W64 (ofN k)).toNat) := Lib.hid (by rw [W64_ofN (by omega), W64_ofN (by omega)]; omega)
      have hm : ofN k * pn = ofN (k * N) := by rw [← HPN.out]; exact ofN_mul k N
      have hrm : ofN (k * N) % pa = ofN (k * N % A) := by rw [← HPA.out]; exact ofN_mod (by omega) (by omega)
      have hqm : ofN (k * N) / pa = ofN (k * N / A) := by rw [← HPA.out]; exact ofN_div (by omega) (by omega)
      have hq : W64 (ofN (k * N / A)) = ((k * N / A : Nat) : Int) := W64_ofN (Nat.lt_of_le_of_lt (Nat.div_le_self _ _) (by omega))
      have hcmp : decide (W64 (ofN (k * N % A)) < W64 pr) = (lemF A N k).isNone := by
        rw [← HPR.out, W64_ofN (Nat.lt_of_le_of_lt (Nat.mod_le _ _) (by omega)), W64_ofN (Nat.lt_of_le_of_lt (Nat.mod_le _ _) (by omega))]
        unfold lemF
        split
        · rw [decide_eq_true (by omega)]; rfl
        · rw [decide_eq_false (by omega)]; rfl
      obtain ⟨xk, hxk⟩ : ∃ x, ofN k = x := ⟨_, rfl⟩
      obtain ⟨xl, hxl⟩ : ∃ x, ofN (k + 1) = x := ⟨_, rfl⟩
      obtain ⟨xm, hxm⟩ : ∃ x, ofN (k * N) = x := ⟨_, rfl⟩
      obtain ⟨xr, hxr⟩ : ∃ x, ofN (k * N % A) = x := ⟨_, rfl⟩
      obtain ⟨xq, hxq⟩ : ∃ x, ofN (k * N / A) = x := ⟨_, rfl⟩
      rw [hxk, hxl] at hs HM
      rw [hxk, hxm] at hm
      rw [hxm, hxr] at hrm
      rw [hxm, hxq] at hqm
      rw [hxr] at hcmp
      rw [hxq] at hq
      rw [hxk] at hd ⊢
      have HXL := Lib.hid hxl
      clear hxk hxl hxm hxr hxq
      rcases hfk : lemF A N k with _ | v
      · rw [hfk] at hcmp
        have hl := lo_none hfk
        obtain ⟨lk, hlk⟩ : ∃ x, lo51 (lemF A N) k = x := ⟨_, rfl⟩
        obtain ⟨lk2, hlk2⟩ : ∃ x, lo51 (lemF A N) (k + 1) = x := ⟨_, rfl⟩
        rw [hlk, hlk2] at hl
        rw [hlk]
        have HL := Lib.hid (hlk2.trans hl)
        have HC9 := Lib.hid ((HC.out.stay ((New.refl wr).drewN 1)).congr fun j _ => cl_none hfk j)
        have HN9 := Lib.hid HN.out
        have hcm2 : decide (W64 xr < W64 pr) = true := hcmp
        have HFK := Lib.hid hfk
        clear hlk hlk2 hl hq hqm hsm hcmp hfk hA hNA hN0 HC9
        go_wp2_with fail
        go_quiet (fail)
        have HC9 := Lib.hid ((HC.out.stay ((New.refl wr).drewN nq)).congr fun j _ => cl_none HFK.out j)
        have HN9 := Lib.hid (HN.out.drewN nq)
        go_wp2
        exact ⟨⟨k + 1, by omega, by rw [HL.out], by rw [HXL.out], HC9, HN9⟩, by simpa [intOf] using HM.out⟩
      · rw [hfk] at hcmp
        have hv := HLT.out k hlt v hfk
        have hve : k * N / A = v := by unfold lemF at hfk; split at hfk; · cases hfk
                                       exact Option.some.inj hfk
        rw [hve] at hq
        have hqn : N64 xq = v := by
          have e : (W64 xq).toNat = v := by rw [hq]; rfl
          exact e
        have hi0 : (0 : Int) ≤ W64 xq := by rw [hq]; omega
        have hi1 : W64 xq < (N : Int) := by rw [hq]; omega
        have HQN := Lib.hid hqn
        clear hqn hq
        have hl := lo_some hfk
        obtain ⟨lk, hlk⟩ : ∃ x, lo51 (lemF A N) k = x := ⟨_, rfl⟩
        rw [hlk] at hl
        rw [hlk]
        have HL := Lib.hid hl
        have hcc := cl_some hfk
        obtain ⟨ck, hck⟩ : ∃ x, cl (lemF A N) k v = x := ⟨_, rfl⟩
        rw [hck] at hcc
        have HCC := Lib.hid hcc
        have HFK := Lib.hid hfk
        have hcm2 : decide (W64 xr < W64 pr) = false := hcmp
        have HCK := Lib.hid hck
        have HV := Lib.hid hv
        clear hlk hl hcc hck hsm hcmp hfk hA hNA hN0 hve hv
        go_wp2_with fail
        go_quiet (fail)
        have hcr9 := HC.out.stay ((New.refl wr).drewN nq)
        have c0 := (hcr9.get HV.out).1
        have cf := (hcr9.get HV.out).2
        rw [HCK.out, ← HQN.out] at c0
        rw [← HQN.out] at cf
        have HC9 := Lib.hid (hcr9.put (l' := cl (lemF A N) (k + 1)) HV.out (ck + 1#64) HCC.out fun j _ hj => cl_other HFK.out hj)
        have HN9 := Lib.hid ((HN.out.drewN nq).setCell (p := ⟨g, v, none⟩) HGB.out (.int .u64 (W64 (ck + 1#64))))
        rw [← HQN.out] at HC9 HN9
        clear hcr9
        go_wp2
        exact ⟨⟨k + 1, by omega, by rw [HL.out], by rw [HXL.out], HC9, HN9⟩, by simpa [intOf] using HM.out⟩
    · obtain rfl : k = A := by omega
      have hd : decide (W64 (ofN k) < W64 pa) = false := decide_eq_false (by rw [HPA.out]; omega)
      clear hA hNA hN0
      go_wp2
      go_ret2
      exact ⟨g, c, rfl, HC1.out, HC2.out, HC.out, HN.out⟩
end Go.Proofs.Ytdiikoiadhdeoaa
