/- The document's own Trim, Add, Mul of polynomials. -/
import Derived.Test.YtiboncnfepnjcaaPolB
namespace Go.Proofs.Ytiboncnfepnjcaa
open Go.RowKit Go.Bv
set_option linter.unusedVariables false
theorem new_cells_q (w : World) (cs : Array Value) (t : TypeId) : ∀ j u, cs.toList[j]? = some u → (w.alloc (.cells cs t)).cell? ((⟨w.heap.size, 0, none⟩ : Addr).add j) = some u := by
  intro j u h
  rw [add_plain, Nat.zero_add, World.cell?_alloc_new]
  simpa using h
def lenV : Value → Nat
  | .slice _ n _ => n
  | _ => 0
theorem own_len {w : World} {base : Nat} {e : TypeId} {v : Value} {n : Nat} {xs : List Value} (h : w.ownsRow base e 1 v n xs) : ∃ a cap, v = .slice a n cap ∧ (a.isNone = true → n = 0) := by
  obtain ⟨_, h⟩ := h
  rcases h with ⟨rfl, rfl⟩ | ⟨g, cap, cur, rfl, _⟩
  · exact ⟨none, 0, rfl, fun _ => rfl⟩
  · exact ⟨_, cap, rfl, fun h => by cases h⟩
set_option maxRecDepth 100000 in
set_option maxHeartbeats 4000000 in
theorem rtrim_q (a : Option Addr) (n c : Nat) (l : List (BitVec 64)) (w : World) (h : QRow w a n c l) :
    Calls Try.prog 26 #[.slice a n c] w fun e w' => ∃ a' c', e = .returned (.slice a' ((trimL l).length : Nat) c') ∧ QRow w' a' (trimL l).length c' (trimL l) ∧ New w w' := by
  obtain ⟨i0, hi, hz0, hz1, hz2⟩ := info_parts info_u64q
  have hm := h.most
  have HH := Lib.hid h
  have HL := Lib.hid h.len_eq
  clear h
  go_enter Try.func26, Try.ntmps26
  go_wp2
  go_loopw [3, 8] (fun v iv wr => ∃ k : Nat, k ≤ n ∧ iv = .int .i64 (k : Int) ∧ wr.ownsRow w.heap.size 23 1 v (topF (cm l) k) ((cmP l (topF (cm l) k)).map fun y => .int .u64 (W64 y)) ∧ New w wr) (fun _ iv _ => n - (intOf iv).toNat)
  case atStart => exact ⟨0, Nat.zero_le _, rfl, World.ownsRow_nil w _ _ 1, New.refl w⟩
  case round =>
    obtain ⟨k, hk, rfl, hown, hnew⟩ := hrel
    have HO := Lib.hid hown
    have HN := Lib.hid hnew
    clear hown hnew
    by_cases hlt : (k : Int) < (n : Int)
    · obtain ⟨b, off, rfl, hc⟩ := (HH.out.stay HN.out).addr (by omega)
      have c1 := hc k (by omega)
      clear hc
      have hk0 : (0 : Int) ≤ (k : Int) := by omega
      have hcm : l.getD k 0 % 2305843009213693951#64 = cm l k := mod_mp _
      have HTL := Lib.hid (topF_le (cm l) k)
      by_cases hz : cm l k = 0#64
      · have hne : (l.getD k 0 % 2305843009213693951#64 != 0#64) = false := by rw [hcm, hz]; rfl
        have HT : Hid (topF (cm l) (k + 1) = topF (cm l) k) := Lib.hid (by show (if cm l k = 0#64 then _ else _) = _; rw [if_pos hz])
        clear hcm hz
        obtain ⟨y, hy⟩ : ∃ z, l.getD k 0 = z := ⟨_, rfl⟩
        rw [hy] at c1 hne
        clear hy
        go_wp2
        refine ⟨⟨k + 1, by omega, by go_num, ?_, HN.out⟩, by simp [intOf]; omega⟩
        rw [HT.out]; exact HO.out
      · have hne : (l.getD k 0 % 2305843009213693951#64 != 0#64) = true := by rw [hcm, bne_iff_ne]; exact hz
        have HT : Hid (topF (cm l) (k + 1) = k + 1) := Lib.hid (by show (if cm l k = 0#64 then _ else _) = _; rw [if_neg hz])
        clear hcm hz
        obtain ⟨y, hy⟩ : ∃ z, l.getD k 0 = z := ⟨_, rfl⟩
        rw [hy] at c1 hne
        clear hy
        go_wp2
        clear c1 hne
        go_loopw [3] (fun v wq => ∃ t : Nat, t ≤ k + 1 ∧ wq.ownsRow w.heap.size 23 1 v t ((cmP l t).map fun y => .int .u64 (W64 y)) ∧ New w wq) (fun v _ => k + 1 - lenV v)
        case atStart => exact ⟨topF (cm l) k, by have := HTL.out; omega, HO.out, HN.out⟩
        case round =>
          obtain ⟨t, ht, hown2, hnew2⟩ := hrel
          clear HO HN
          have HO := Lib.hid hown2
          have HN := Lib.hid hnew2
          obtain ⟨sa, sc, rfl, _⟩ := own_len HO.out
          clear hown2 hnew2
          by_cases hlt2 : (t : Int) ≤ (k : Int)
          · obtain ⟨wq, hwq⟩ : ∃ z, z = wr := ⟨_, rfl⟩
            rw [← hwq] at HO HN ⊢
            clear hwq
            have c2 := (HH.out.stay HN.out).cell b off rfl t (by omega)
            have hcm2 : l.getD t 0 % 2305843009213693951#64 = cm l t := mod_mp _
            obtain ⟨y2, hy2⟩ : ∃ z, l.getD t 0 = z := ⟨_, rfl⟩
            rw [hy2] at c2 hcm2
            clear hy2
            have ht0 : (0 : Int) ≤ (t : Int) := by omega
            have htn : (t : Int) < (n : Int) := by omega
            have hown := HO.out
            have hnew := HN.out
            go_wp2_with (at_builtin; refine wpList_append_own _ rfl _ _ 22 rfl w.heap.size 23 i0 (.int .u64 0) 1 8 Try.underlying22 hi hz0 hz1 hz2 rfl (by decide) _ t _ rfl (hown.alloc _) ⟨wq.heap.size, 0, none⟩ 1 1 [.int .u64 (W64 (cm l t))] rfl rfl ?c1 ?c2 ?c3 ?c4 ?c5 ?_)
            try (case c1 => exact new_cells_q wq _ _)
            try (case c2 => first | rfl | (intro u hu; simp at hu; subst hu; rfl))
            try (case c3 => first | (unfold maxLen; omega) | omega)
            try (case c4 => omega)
            try (case c5 => first | (simp; have := hnew.le; omega) | (have := hnew.le; omega))
            intro v' w1 how hgr _
            have HO2 : Hid (w1.ownsRow w.heap.size 23 1 v' (t + 1) ((cmP l (t + 1)).map fun y => .int .u64 (W64 y))) := Lib.hid (by
              rw [cmP_succ, List.map_append]; exact how)
            have HN1 := Lib.hid ((hnew.alloc _).grown' hgr (own_base hown))
            clear how hgr hown hnew
            go_wp2
            refine ⟨⟨t + 1, by omega, HO2.out, HN1.out⟩, ?_⟩
            obtain ⟨sa2, sc2, rfl, _⟩ := own_len HO2.out
            simp [lenV]; omega
          · have htk : t = k + 1 := by omega
            go_wp2
            refine ⟨⟨k + 1, by omega, by go_num, ?_, HN.out⟩, by simp [intOf]; omega⟩
            rw [HT.out, ← htk]; exact HO.out
    · obtain rfl : k = n := by omega
      obtain ⟨a', cap', rfl, hrow⟩ := QRow.of_owns HO.out (by have := topF_le (cm l) k; omega)
      have HR := Lib.hid hrow
      have HTE : Hid (topF (cm l) k = (trimL l).length ∧ cmP l (topF (cm l) k) = trimL l) := Lib.hid ⟨by unfold trimL; rw [trimF_len, HL.out], by rw [← HL.out]; exact cmP_trim l⟩
      clear hrow HO
      go_wp2
      go_ret
      rw [← HTE.out.1]
      refine ⟨a', cap', rfl, ?_, HN.out⟩
      rw [← HTE.out.2]; exact HR.out
set_option maxRecDepth 100000 in
set_option maxHeartbeats 4000000 in
theorem radd_q (a b : Option Addr) (na ca nb cb : Nat) (la lb : List (BitVec 64)) (w : World) (ha : QRow w a na ca la) (hb : QRow w b nb cb lb) :
    Calls Try.prog 23 #[.slice a na ca, .slice b nb cb] w fun e w' => ∃ a' c', e = .returned (.slice a' ((trimL (addL la lb)).length : Nat) c') ∧ QRow w' a' (trimL (addL la lb)).length c' (trimL (addL la lb)) ∧ New w w' := by
  obtain ⟨i0, hi, hz0, hz1, hz2⟩ := info_parts info_u64q
  have hma := ha.most
  have hmb := hb.most
  have HHA := Lib.hid ha
  have HHB := Lib.hid hb
  have HML : Hid (max la.length lb.length = max na nb) := Lib.hid (by rw [ha.len_eq, hb.len_eq])
  clear ha hb
  obtain ⟨N, hN⟩ : ∃ N, max na nb = N := ⟨_, rfl⟩
  rw [hN] at HML
  go_enter Try.func23, Try.ntmps23
  go_wp2
  go_loopw [5, 6] (fun v iv wr => ∃ k : Nat, k ≤ N ∧ iv = .int .i64 (k : Int) ∧ wr.ownsRow w.heap.size 23 1 v k ((addP la lb k).map fun y => .int .u64 (W64 y)) ∧ New w wr) (fun _ iv _ => N - (intOf iv).toNat)
  case atStart => exact ⟨0, Nat.zero_le _, rfl, World.ownsRow_nil w _ _ 1, New.refl w⟩
  case round =>
    obtain ⟨k, hk, rfl, hown, hnew⟩ := hrel
    have HO := Lib.hid hown
    have HN := Lib.hid hnew
    obtain ⟨wq, hwq⟩ : ∃ z, z = wr := ⟨_, rfl⟩
    rw [← hwq] at HO HN ⊢
    clear hown hnew hwq
    by_cases hlt : k < N
    · have HA := Lib.hid (fun w' (hn : New w w') => at_q a na ca la k w' (HHA.out.stay hn))
      have HB := Lib.hid (fun w' (hn : New w w') => at_q b nb cb lb k w' (HHB.out.stay hn))
      have HSS : Hid (mp (nf la k + nf lb k) = mp ((la.getD k 0).toNat + (lb.getD k 0).toNat)) := Lib.hid rfl
      obtain ⟨x, hx⟩ : ∃ z, la.getD k 0 = z := ⟨_, rfl⟩
      obtain ⟨y, hy⟩ : ∃ z, lb.getD k 0 = z := ⟨_, rfl⟩
      rw [hx] at HA HSS
      rw [hy] at HB HSS
      clear hx hy
      have HS := Lib.hid (fun w => radd_p x y w)
      obtain ⟨s, hs⟩ : ∃ z, mp (x.toNat + y.toNat) = z := ⟨_, rfl⟩
      rw [hs] at HS HSS
      clear hs
      by_cases h1 : (k : Int) < (na : Int)
      · have h0 : True := trivial
        go_wp2_with fail
        refine (HA.out _ HN.out).mono ?_
        rintro e w' ⟨rfl, hw⟩
        replace hw := hw.symm
        subst hw
        go_wp2_with fail
        refine (HB.out _ HN.out).mono ?_
        rintro e w' ⟨rfl, hw⟩
        replace hw := hw.symm
        subst hw
        go_wp2_with fail
        refine (HS.out _).mono ?_
        rintro e w' ⟨rfl, hw⟩
        replace hw := hw.symm
        subst hw
        have hown := HO.out
        have hnew := HN.out
        go_wp2_with (at_builtin; refine wpList_append_own _ rfl _ _ 22 rfl w.heap.size 23 i0 (.int .u64 0) 1 8 Try.underlying22 hi hz0 hz1 hz2 rfl (by decide) _ k _ rfl (hown.alloc _) ⟨wq.heap.size, 0, none⟩ 1 1 [.int .u64 (W64 s)] rfl rfl ?c1 ?c2 ?c3 ?c4 ?c5 ?_)
        try (case c1 => exact new_cells_q wq _ _)
        try (case c2 => first | rfl | (intro u hu; simp at hu; subst hu; rfl))
        try (case c3 => first | (unfold maxLen; omega) | omega)
        try (case c4 => omega)
        try (case c5 => first | (simp; have := hnew.le; omega) | (have := hnew.le; omega))
        intro v' w1 how hgr _
        have HO2 : Hid (w1.ownsRow w.heap.size 23 1 v' (k + 1) ((addP la lb (k + 1)).map fun y => .int .u64 (W64 y))) := Lib.hid (by
          rw [addP_succ, HSS.out, List.map_append]; exact how)
        have HN1 := Lib.hid ((hnew.alloc _).grown' hgr (own_base hown))
        clear how hgr hown hnew
        go_wp2
        exact ⟨⟨k + 1, by omega, by go_num, HO2.out, HN1.out⟩, by simp [intOf]; omega⟩
      · have h2 : (k : Int) < (nb : Int) := by omega
        go_wp2_with fail
        refine (HA.out _ HN.out).mono ?_
        rintro e w' ⟨rfl, hw⟩
        replace hw := hw.symm
        subst hw
        go_wp2_with fail
        refine (HB.out _ HN.out).mono ?_
        rintro e w' ⟨rfl, hw⟩
        replace hw := hw.symm
        subst hw
        go_wp2_with fail
        refine (HS.out _).mono ?_
        rintro e w' ⟨rfl, hw⟩
        replace hw := hw.symm
        subst hw
        have hown := HO.out
        have hnew := HN.out
        go_wp2_with (at_builtin; refine wpList_append_own _ rfl _ _ 22 rfl w.heap.size 23 i0 (.int .u64 0) 1 8 Try.underlying22 hi hz0 hz1 hz2 rfl (by decide) _ k _ rfl (hown.alloc _) ⟨wq.heap.size, 0, none⟩ 1 1 [.int .u64 (W64 s)] rfl rfl ?d1 ?d2 ?d3 ?d4 ?d5 ?_)
        try (case d1 => exact new_cells_q wq _ _)
        try (case d2 => first | rfl | (intro u hu; simp at hu; subst hu; rfl))
        try (case d3 => first | (unfold maxLen; omega) | omega)
        try (case d4 => omega)
        try (case d5 => first | (simp; have := hnew.le; omega) | (have := hnew.le; omega))
        intro v' w1 how hgr _
        have HO2 : Hid (w1.ownsRow w.heap.size 23 1 v' (k + 1) ((addP la lb (k + 1)).map fun y => .int .u64 (W64 y))) := Lib.hid (by
          rw [addP_succ, HSS.out, List.map_append]; exact how)
        have HN1 := Lib.hid ((hnew.alloc _).grown' hgr (own_base hown))
        clear how hgr hown hnew
        go_wp2
        exact ⟨⟨k + 1, by omega, by go_num, HO2.out, HN1.out⟩, by simp [intOf]; omega⟩
    · obtain rfl : k = N := by omega
      have h1 : ¬ (k : Int) < (na : Int) := by omega
      have h2 : ¬ (k : Int) < (nb : Int) := by omega
      obtain ⟨a', cap', rfl, hrow⟩ := QRow.of_owns HO.out (by omega)
      have HE : Hid (addP la lb k = addL la lb) := Lib.hid (by unfold addL; rw [HML.out])
      rw [HE.out] at hrow
      have HT := Lib.hid (rtrim_q _ _ _ _ _ hrow)
      clear hrow HO HE
      go_wp2_with fail
      refine (HT.out).mono ?_
      rintro e w9 ⟨a2, c2, rfl, hq, hn9⟩
      have HQ := Lib.hid hq
      replace HN := Lib.hid (HN.out.trans hn9)
      clear hq hn9 HT
      go_wp2
      go_ret
      exact ⟨a2, c2, rfl, HQ.out, HN.out⟩
set_option maxRecDepth 100000 in
set_option maxHeartbeats 4000000 in
theorem rmul_q (a b : Option Addr) (na ca nb cb : Nat) (la lb : List (BitVec 64)) (w : World) (ha : QRow w a na ca la) (hb : QRow w b nb cb lb) (hlim : na + nb ≤ 17592186044416) :
    Calls Try.prog 24 #[.slice a na ca, .slice b nb cb] w fun e w' => ∃ a' c', e = .returned (.slice a' ((trimL (mulL la lb)).length : Nat) c') ∧ QRow w' a' (trimL (mulL la lb)).length c' (trimL (mulL la lb)) ∧ New w w' := by
  obtain ⟨i0, hi, hz0, hz1, hz2⟩ := info_parts info_u64q
  have hma := ha.most
  have hmb := hb.most
  have HHA := Lib.hid ha
  have HHB := Lib.hid hb
  have HML : Hid (la.length + lb.length = na + nb) := Lib.hid (by rw [ha.len_eq, hb.len_eq])
  clear ha hb
  obtain ⟨N, hN⟩ : ∃ N, na + nb = N := ⟨_, rfl⟩
  rw [hN] at HML
  go_enter Try.func24, Try.ntmps24
  go_wp2
  go_loopw [5, 6] (fun v iv wr => ∃ k : Nat, k ≤ N ∧ iv = .int .i64 (k : Int) ∧ wr.ownsRow w.heap.size 23 1 v k ((mulP la lb k).map fun y => .int .u64 (W64 y)) ∧ New w wr) (fun _ iv _ => N - (intOf iv).toNat)
  case atStart => exact ⟨0, Nat.zero_le _, rfl, World.ownsRow_nil w _ _ 1, New.refl w⟩
  case round =>
    obtain ⟨k, hk, rfl, hown, hnew⟩ := hrel
    have HO := Lib.hid hown
    have HN := Lib.hid hnew
    obtain ⟨wq, hwq⟩ : ∃ z, z = wr := ⟨_, rfl⟩
    rw [← hwq] at HO HN ⊢
    clear hown hnew hwq
    by_cases hlt : (k : Int) < (na : Int) + (nb : Int)
    · go_wp2
      go_loop [7, 8] (fun s jv => ∃ j : Nat, j ≤ k + 1 ∧ jv = .int .i64 (j : Int) ∧ s = .int .u64 (W64 (mp (cs (nf la) (nf lb) j k)))) (fun _ jv => k + 1 - (intOf jv).toNat)
      case atStart => exact ⟨0, Nat.zero_le _, rfl, by show Value.int .u64 0 = .int .u64 (W64 (mp 0)); rw [mp_zero, lo_zero]⟩
      case round =>
        obtain ⟨j, hj, rfl, rfl⟩ := hrel
        by_cases hlt2 : (j : Int) ≤ (k : Int)
        · have HA := Lib.hid (at_q a na ca la j wq (HHA.out.stay HN.out))
          have HB := Lib.hid (at_q b nb cb lb (k - j) wq (HHB.out.stay HN.out))
          have hkj : ((k - j : Nat) : Int) = (k : Int) - (j : Int) := by omega
          rw [hkj] at HB
          have hkw : wrap64 ((k : Int) - (j : Int)) = (k : Int) - (j : Int) := by unfold wrap64; omega
          have HST : Hid (mp ((mp (cs (nf la) (nf lb) j k)).toNat + (mp ((la.getD j 0).toNat * (lb.getD (k - j) 0).toNat)).toNat) = mp (cs (nf la) (nf lb) (j + 1) k)) := Lib.hid (by
            rw [mp_add]
            show _ = mp (cs (nf la) (nf lb) j k + (if j ≤ k then nf la j * nf lb (k - j) else 0))
            rw [if_pos (by omega)]; rfl)
          obtain ⟨x, hx⟩ : ∃ z, la.getD j 0 = z := ⟨_, rfl⟩
          obtain ⟨y, hy⟩ : ∃ z, lb.getD (k - j) 0 = z := ⟨_, rfl⟩
          rw [hx] at HA HST
          rw [hy] at HB HST
          obtain ⟨s, hs⟩ : ∃ z, mp (cs (nf la) (nf lb) j k) = z := ⟨_, rfl⟩
          rw [hs] at HST
          rw [hs]
          clear hx hy hs hkj
          have HMU := Lib.hid (fun w => rmul_p x y w)
          obtain ⟨m1, hm1⟩ : ∃ z, mp (x.toNat * y.toNat) = z := ⟨_, rfl⟩
          rw [hm1] at HMU HST
          clear hm1
          have HAD := Lib.hid (fun w => radd_p s m1 w)
          go_wp2_with fail
          refine (HA.out).mono ?_
          rintro e w' ⟨rfl, hw⟩
          replace hw := hw.symm
          subst hw
          go_wp2_with fail
          clear hkw
          refine (HB.out).mono ?_
          rintro e w' ⟨rfl, hw⟩
          replace hw := hw.symm
          subst hw
          go_wp2_with fail
          refine (HMU.out _).mono ?_
          rintro e w' ⟨rfl, hw⟩
          replace hw := hw.symm
          subst hw
          go_wp2_with fail
          refine (HAD.out _).mono ?_
          rintro e w' ⟨rfl, hw⟩
          replace hw := hw.symm
          subst hw
          go_wp2
          exact ⟨⟨j + 1, by omega, by go_num, by rw [HST.out]⟩, by simp [intOf]; omega⟩
        · obtain rfl : j = k + 1 := by omega
          have HSS : Hid (mulP la lb (k + 1) = mulP la lb k ++ [mp (cs (nf la) (nf lb) (k + 1) k)]) := Lib.hid (mulP_succ _ _ _)
          obtain ⟨s, hs⟩ : ∃ z, mp (cs (nf la) (nf lb) (k + 1) k) = z := ⟨_, rfl⟩
          rw [hs] at HSS
          rw [hs]
          clear hs
          have hown := HO.out
          have hnew := HN.out
          go_wp2_with (at_builtin; refine wpList_append_own _ rfl _ _ 22 rfl w.heap.size 23 i0 (.int .u64 0) 1 8 Try.underlying22 hi hz0 hz1 hz2 rfl (by decide) _ k _ rfl (hown.alloc _) ⟨wq.heap.size, 0, none⟩ 1 1 [.int .u64 (W64 s)] rfl rfl ?c1 ?c2 ?c3 ?c4 ?c5 ?_)
          try (case c1 => exact new_cells_q wq _ _)
          try (case c2 => first | rfl | (intro u hu; simp at hu; subst hu; rfl))
          try (case c3 => first | (unfold maxLen; omega) | omega)
          try (case c4 => omega)
          try (case c5 => first | (simp; have := hnew.le; omega) | (have := hnew.le; omega))
          intro v' w1 how hgr _
          have HO2 : Hid (w1.ownsRow w.heap.size 23 1 v' (k + 1) ((mulP la lb (k + 1)).map fun y => .int .u64 (W64 y))) := Lib.hid (by
            rw [HSS.out, List.map_append]; exact how)
          have HN1 := Lib.hid ((hnew.alloc _).grown' hgr (own_base hown))
          clear how hgr hown hnew
          go_wp2
          exact ⟨⟨k + 1, by omega, by go_num, HO2.out, HN1.out⟩, by simp [intOf]; omega⟩
    · obtain rfl : k = N := by omega
      obtain ⟨a', cap', rfl, hrow⟩ := QRow.of_owns HO.out (by omega)
      have HE : Hid (mulP la lb k = mulL la lb) := Lib.hid (by unfold mulL; rw [HML.out])
      rw [HE.out] at hrow
      have HT := Lib.hid (rtrim_q _ _ _ _ _ hrow)
      clear hrow HO HE
      go_wp2_with fail
      refine (HT.out).mono ?_
      rintro e w9 ⟨a2, c2, rfl, hq, hn9⟩
      have HQ := Lib.hid hq
      replace HN := Lib.hid (HN.out.trans hn9)
      clear hq hn9 HT
      go_wp2
      go_ret
      exact ⟨a2, c2, rfl, HQ.out, HN.out⟩
end Go.Proofs.Ytiboncnfepnjcaa
