import Derived.Test.YtfaobdmoifnglaaGreatZLqD
import Derived.Handy
/- leap: pass, By4, By2. · leap: By4. · leap: Jump4, Jump2. · leap: Jump2. -/
namespace Go.G2
variable {S : Type} (L : Lin S)
theorem act_next (M i : Nat) (s : S) : L.act (M % 2 ^ (i + 1)) s = if M.testBit i then L.x (L.act (M % 2 ^ i) s) (L.it i s) else L.act (M % 2 ^ i) s := by
  rw [mod_bit, L.act_xor]
  cases M.testBit i
  · simp [L.act_zero, L.x_z]
  · simp [L.act_pow]
theorem act_none (M : Nat) (s : S) : L.act (M % 2 ^ 0) s = L.z := by rw [Nat.pow_zero, Nat.mod_one, L.act_zero]
theorem act_all (M : Nat) (s : S) : L.act (M % 2 ^ bl M) s = L.act M s := by rw [Nat.mod_eq_of_lt (lt_bl M)]
end Go.G2
namespace Go.Proofs.YtfaobdmoifnglaaGreat
open Go Go.RowKit Go.Bv Go.G2
set_option linter.unusedVariables false
set_option maxRecDepth 100000 in
set_option maxHeartbeats 2000000 in
/-- each exponent up to the degree is visited -/
theorem pass_q (a : Option Addr) (n c : Nat) (l : List (BitVec 64)) (G : Nat) (caps : Array Value) (I : Nat → World → Prop) (w : World) (hn : n ≤ 10000) (hG : ∀ (x : Value) (w : World), (callFunc G (#[x] ++ caps)).run Tryz.prog w = .ok (.enter G (#[x] ++ caps)) w)
    (h0 : I 0 w) (hb : ∀ i w', I i w' → QRow w' a n c l)
    (hs : ∀ i w', i < bl (vW l) → I i w' → Calls Tryz.prog G (#[.bool ((vW l).testBit i)] ++ caps) w' fun e w'' => e = .returned (.tuple #[]) ∧ I (i + 1) w'') :
    Calls Tryz.prog 146 #[.slice a n c, .func (Fn.func G) #[] caps] w fun e w' => e = .returned (.tuple #[]) ∧ I (bl (vW l)) w' := by
  have hB := bl_vW l
  rw [(hb 0 w h0).len_eq] at hB
  have HB := Lib.hid hb
  have HS := Lib.hid hs
  have HG := Lib.hid hG
  have H0 := Lib.hid h0
  have HDG := Lib.hid (deg_q a n c l w (hb 0 w h0) (by omega))
  have HCO := Lib.hid (fun i w' (hi : i ≤ 1000000000000) (h : QRow w' a n c l) => coef_q a n c l i w' h hi)
  obtain ⟨M, hM⟩ : ∃ M, vW l = M := ⟨_, rfl⟩
  rw [hM] at HS HDG HCO hB ⊢
  obtain ⟨B, hBB⟩ : ∃ B, bl M = B := ⟨_, rfl⟩
  rw [hBB] at HS HDG hB ⊢
  obtain ⟨z, hz⟩ : ∃ z : Int, (B : Int) - 1 = z := ⟨_, rfl⟩
  rw [hz] at HDG
  have hz2 : z + 1 = (B : Int) := by omega
  have hz3 : wrap64 (z + 1) = (B : Int) := by rw [hz2]; exact wrap_64 (by omega) (by omega)
  have hz4 : IntKind.i64.wrap (z + 1) = (B : Int) := by rw [hz2]; exact wrap_i64 (by omega) (by omega)
  have hB2 : B ≤ 640000 := by omega
  clear hb hs h0 hG hM hBB hz hB
  go_enter Tryz.func146, Tryz.ntmps146
  go_wp2_with fail
  refine HDG.out.mono ?_
  rintro e w' ⟨rfl, hw⟩
  replace hw := hw.symm
  subst hw
  clear HDG
  go_wp2_with fail
  clear hz3 hz4 hz2
  go_loopw [8] (fun iv wr => ∃ i : Nat, i ≤ B ∧ iv = .int .i64 (i : Int) ∧ Hid (I i wr)) (fun iv _ => B - (intOf iv).toNat)
  case atStart => exact ⟨0, Nat.zero_le _, rfl, H0⟩
  case round =>
    clear H0
    obtain ⟨i, hi, rfl, HI⟩ := hrel
    obtain ⟨wq, hwq⟩ : ∃ z, z = wr := ⟨_, rfl⟩
    rw [← hwq] at HI ⊢
    clear hwq
    by_cases hlt : (i : Int) < (B : Int)
    · have hi0 : (0 : Int) ≤ (i : Int) := by omega
      have HC2 := Lib.hid (HCO.out i wq (by omega) (HB.out i _ HI.out))
      have HS2 := Lib.hid (HS.out i wq (by omega) HI.out)
      obtain ⟨t, ht⟩ : ∃ t, M.testBit i = t := ⟨_, rfl⟩
      rw [ht] at HC2 HS2
      clear ht
      go_wp2_with fail
      refine HC2.out.mono ?_
      rintro e w9 ⟨rfl, hw⟩
      replace hw := hw.symm
      subst hw
      go_wp2_with fail
      rw [HG.out, Oper.upon_enter]
      refine (HS2.out).mono ?_
      rintro e w9 ⟨rfl, hI⟩
      have HI9 := Lib.hid hI
      clear hI HS2 HC2
      go_wp2
      exact ⟨⟨i + 1, by omega, by go_num, HI9⟩, by simp [intOf]; omega⟩
    · obtain rfl : i = B := by omega
      go_wp2
      go_end0
      exact ⟨rfl, HI.out⟩
set_option maxRecDepth 100000 in
set_option maxHeartbeats 2000000 in
theorem by4c (W : World) (bs bq : Nat) (tk : Bool) (p q : V4) (w : World) (h1 : S4 w bs p) (h2 : S4 w bq q) (hne : bs ≠ bq) (hn : New W w) (hbs : W.heap.size ≤ bs) (hbq : W.heap.size ≤ bq) :
    Calls Tryz.prog 159 #[.bool tk, .pointer (some ⟨bs, 0, none⟩), .pointer (some ⟨bq, 0, none⟩)] w fun e w' => e = .returned (.tuple #[]) ∧ S4 w' bs (if tk then xV4 p q else p) ∧ S4 w' bq (stV4 q) ∧ (∀ b r, b ≠ bs → b ≠ bq → S4 w b r → S4 w' b r) ∧ New W w' := by
  have HX := Lib.hid (fun w => xor_mv p q w)
  have HST := Lib.hid (fun w => step4_q q w)
  have H1 := Lib.hid h1
  have H2 := Lib.hid h2
  have HN := Lib.hid hn
  have HNE := Lib.hid hne
  have HBS := Lib.hid hbs
  have HBQ := Lib.hid hbq
  have k0 := cell_of_row _ _ 0 _ _ _ h1
  have k1 := cell_of_row _ _ 1 _ _ _ h1
  have k2 := cell_of_row _ _ 2 _ _ _ h1
  have k3 := cell_of_row _ _ 3 _ _ _ h1
  have m0 := cell_of_row _ _ 0 _ _ _ h2
  have m1 := cell_of_row _ _ 1 _ _ _ h2
  have m2 := cell_of_row _ _ 2 _ _ _ h2
  have m3 := cell_of_row _ _ 3 _ _ _ h2
  obtain ⟨wq, hwq⟩ : ∃ z, z = w := ⟨_, rfl⟩
  cases tk
  · clear h1 h2 hn hne hbs hbq k0 k1 k2 k3 HX
    go_enter Tryz.func159, Tryz.ntmps159
    go_wp2_with fail
    refine (HST.out _).mono ?_
    rintro e w2 ⟨rfl, hn2⟩
    have hq := H2.out.stay hn2
    have g0 := cell_of_row _ _ 0 _ _ _ hq
    have g1 := cell_of_row _ _ 1 _ _ _ hq
    have g2 := cell_of_row _ _ 2 _ _ _ hq
    have g3 := cell_of_row _ _ 3 _ _ _ hq
    have gf : ∀ i, w2.frozen? ⟨bq, i, none⟩ = false := fun i => frozen_of_row _ _ i _ _ hq
    have HQ := Lib.hid hq
    have HN2 := Lib.hid hn2
    clear hq hn2 m0 m1 m2 m3 HST
    go_wp2
    go_end0
    refine ⟨rfl, ?_, HQ.out.put _, ?_, ?_⟩
    · exact ((((H1.out.stay HN2.out).far (by exact HNE.out) _).far (by exact HNE.out) _).far (by exact HNE.out) _).far (by exact HNE.out) _
    · intro b r hb1 hb2 hr
      exact ((((hr.stay HN2.out).far (by exact hb2) _).far (by exact hb2) _).far (by exact hb2) _).far (by exact hb2) _
    · exact (((((HN.out.trans HN2.out).setCell (by exact HBQ.out) _).setCell (by exact HBQ.out) _).setCell (by exact HBQ.out) _).setCell (by exact HBQ.out) _)
  · clear h1 h2 hn hne hbs hbq
    go_enter Tryz.func159, Tryz.ntmps159
    go_wp2_with fail
    refine (HX.out _).mono ?_
    rintro e w2 ⟨rfl, hn2⟩
    have hp := H1.out.stay hn2
    have hq := H2.out.stay hn2
    have g0 := cell_of_row _ _ 0 _ _ _ hp
    have g1 := cell_of_row _ _ 1 _ _ _ hp
    have g2 := cell_of_row _ _ 2 _ _ _ hp
    have g3 := cell_of_row _ _ 3 _ _ _ hp
    have gf : ∀ i, w2.frozen? ⟨bs, i, none⟩ = false := fun i => frozen_of_row _ _ i _ _ hp
    have hp2 := hp.put (xV4 p q)
    have hq2 : S4 ((((w2.setCell ⟨bs, 0, none⟩ (.int .u64 (W64 (xV4 p q).a))).setCell ⟨bs, 1, none⟩ (.int .u64 (W64 (xV4 p q).b))).setCell ⟨bs, 2, none⟩ (.int .u64 (W64 (xV4 p q).c))).setCell ⟨bs, 3, none⟩ (.int .u64 (W64 (xV4 p q).d))) bq q := (((hq.far (by exact fun e => HNE.out e.symm) _).far (by exact fun e => HNE.out e.symm) _).far (by exact fun e => HNE.out e.symm) _).far (by exact fun e => HNE.out e.symm) _
    have hn3 : New W ((((w2.setCell ⟨bs, 0, none⟩ (.int .u64 (W64 (xV4 p q).a))).setCell ⟨bs, 1, none⟩ (.int .u64 (W64 (xV4 p q).b))).setCell ⟨bs, 2, none⟩ (.int .u64 (W64 (xV4 p q).c))).setCell ⟨bs, 3, none⟩ (.int .u64 (W64 (xV4 p q).d))) := (((((HN.out.trans hn2).setCell (by exact HBS.out) _).setCell (by exact HBS.out) _).setCell (by exact HBS.out) _).setCell (by exact HBS.out) _)
    have ho3 : ∀ b r, b ≠ bs → S4 w b r → S4 ((((w2.setCell ⟨bs, 0, none⟩ (.int .u64 (W64 (xV4 p q).a))).setCell ⟨bs, 1, none⟩ (.int .u64 (W64 (xV4 p q).b))).setCell ⟨bs, 2, none⟩ (.int .u64 (W64 (xV4 p q).c))).setCell ⟨bs, 3, none⟩ (.int .u64 (W64 (xV4 p q).d))) b r := fun b r hb hr => ((((hr.stay hn2).far (by exact hb) _).far (by exact hb) _).far (by exact hb) _).far (by exact hb) _
    have e0 := cell_of_row _ _ 0 _ _ _ hq2
    have e1 := cell_of_row _ _ 1 _ _ _ hq2
    have e2 := cell_of_row _ _ 2 _ _ _ hq2
    have e3 := cell_of_row _ _ 3 _ _ _ hq2
    obtain ⟨W3, hW3⟩ : ∃ z, ((((w2.setCell ⟨bs, 0, none⟩ (.int .u64 (W64 (xV4 p q).a))).setCell ⟨bs, 1, none⟩ (.int .u64 (W64 (xV4 p q).b))).setCell ⟨bs, 2, none⟩ (.int .u64 (W64 (xV4 p q).c))).setCell ⟨bs, 3, none⟩ (.int .u64 (W64 (xV4 p q).d))) = z := ⟨_, rfl⟩
    rw [hW3] at hp2 hq2 hn3 ho3
    have HW3 := Lib.hid hW3
    have HP2 := Lib.hid hp2
    have HQ2 := Lib.hid hq2
    have HN3 := Lib.hid hn3
    have HO3 := Lib.hid ho3
    clear hp hq hp2 hq2 hn3 ho3 hW3 hn2 k0 k1 k2 k3 m0 m1 m2 m3 HX
    go_wp2_with fail
    rw [HW3.out]
    clear HW3 e0 e1 e2 e3 g0 g1 g2 g3 gf
    refine (HST.out _).mono ?_
    rintro e w4 ⟨rfl, hn4⟩
    have hq := HQ2.out.stay hn4
    have g0 := cell_of_row _ _ 0 _ _ _ hq
    have g1 := cell_of_row _ _ 1 _ _ _ hq
    have g2 := cell_of_row _ _ 2 _ _ _ hq
    have g3 := cell_of_row _ _ 3 _ _ _ hq
    have gf : ∀ i, w4.frozen? ⟨bq, i, none⟩ = false := fun i => frozen_of_row _ _ i _ _ hq
    have HQ := Lib.hid hq
    have HN2 := Lib.hid hn4
    clear hq hn4 HST
    go_wp2
    go_end0
    refine ⟨rfl, ?_, HQ.out.put _, ?_, ?_⟩
    · exact ((((HP2.out.stay HN2.out).far (by exact HNE.out) _).far (by exact HNE.out) _).far (by exact HNE.out) _).far (by exact HNE.out) _
    · intro b r hb1 hb2 hr
      exact (((((HO3.out b r hb1 hr).stay HN2.out).far (by exact hb2) _).far (by exact hb2) _).far (by exact hb2) _).far (by exact hb2) _
    · exact (((((HN3.out.trans HN2.out).setCell (by exact HBQ.out) _).setCell (by exact HBQ.out) _).setCell (by exact HBQ.out) _).setCell (by exact HBQ.out) _)
end Go.Proofs.YtfaobdmoifnglaaGreat
namespace Go.Proofs.YtfaobdmoifnglaaGreat
open Go Go.RowKit Go.Bv Go.G2
set_option linter.unusedVariables false
theorem s4_z (w : World) : S4 (w.alloc (.cells #[.int .u64 0, .int .u64 0, .int .u64 0, .int .u64 0] 23)) w.heap.size LV4.z := heap_alloc_new w _
theorem s4_new (w : World) (q : V4) : S4 (w.alloc (.cells #[.int .u64 (W64 q.a), .int .u64 (W64 q.b), .int .u64 (W64 q.c), .int .u64 (W64 q.d)] 23)) w.heap.size q := heap_alloc_new w _
theorem s2_z (w : World) (z : V2) (hz : z = ⟨0#64, 0#64⟩) : S2 (w.alloc (.cells #[.int .u64 0, .int .u64 0] 80)) w.heap.size z := by subst hz; exact heap_alloc_new w _
theorem s2_new (w : World) (q : V2) : S2 (w.alloc (.cells #[.int .u64 (W64 q.a), .int .u64 (W64 q.b)] 80)) w.heap.size q := heap_alloc_new w _
theorem by4_boxes (w : World) (q : V4) : ∃ W3, ((w.alloc (.cells #[.int .u64 (W64 q.a), .int .u64 (W64 q.b), .int .u64 (W64 q.c), .int .u64 (W64 q.d)] 23)).alloc (.cells #[.int .u64 0, .int .u64 0, .int .u64 0, .int .u64 0] 23)).alloc (.cells #[.int .u64 0, .int .u64 0, .int .u64 0, .int .u64 0] 23) = W3 ∧ S4 W3 w.heap.size q ∧ S4 W3 (w.heap.size + 1) LV4.z ∧ S4 W3 (w.heap.size + 1 + 1) LV4.z ∧ New w W3 := by
  refine ⟨_, rfl, ?_, ?_, ?_, ?_⟩
  · exact ((s4_new w q).stay ((New.refl _).alloc _)).stay ((New.refl _).alloc _)
  · have h := (s4_z (w.alloc (.cells #[.int .u64 (W64 q.a), .int .u64 (W64 q.b), .int .u64 (W64 q.c), .int .u64 (W64 q.d)] 23))).stay ((New.refl _).alloc (.cells #[.int .u64 0, .int .u64 0, .int .u64 0, .int .u64 0] 23))
    simpa using h
  · have h := s4_z ((w.alloc (.cells #[.int .u64 (W64 q.a), .int .u64 (W64 q.b), .int .u64 (W64 q.c), .int .u64 (W64 q.d)] 23)).alloc (.cells #[.int .u64 0, .int .u64 0, .int .u64 0, .int .u64 0] 23))
    simpa using h
  · exact (((New.refl w).alloc _).alloc _).alloc _
set_option maxRecDepth 100000 in
set_option maxHeartbeats 2000000 in
theorem by4_q (a : Option Addr) (n c : Nat) (l : List (BitVec 64)) (q : V4) (w : World) (h : QRow w a n c l) (hn : n ≤ 10000) :
    Calls Tryz.prog 138 #[.slice a n c, .agg #[.int .u64 (W64 q.a), .int .u64 (W64 q.b), .int .u64 (W64 q.c), .int .u64 (W64 q.d)]] w fun e w' => e = .returned (.agg #[.int .u64 (W64 (LV4.act (vW l) q).a), .int .u64 (W64 (LV4.act (vW l) q).b), .int .u64 (W64 (LV4.act (vW l) q).c), .int .u64 (W64 (LV4.act (vW l) q).d)]) ∧ New w w' := by
  obtain ⟨W3, hW3, b1, b2, b3, hn3⟩ := by4_boxes w q
  have hp := pass_q a n c l 159 #[.pointer (some ⟨w.heap.size + 1 + 1, 0, none⟩), .pointer (some ⟨w.heap.size, 0, none⟩)]
    (fun i w' => S4 w' (w.heap.size + 1 + 1) (LV4.act (vW l % 2 ^ i) q) ∧ S4 w' w.heap.size (LV4.it i q) ∧ S4 w' (w.heap.size + 1) LV4.z ∧ New w w') W3 hn (fun x w => by kernel_rfl)
    ⟨by rw [act_none]; exact b3, b1, b2, hn3⟩ (fun i w' hI => h.stay hI.2.2.2) (fun i w' hi hI => by
      refine (by4c w (w.heap.size + 1 + 1) w.heap.size _ _ _ w' hI.1 hI.2.1 (by omega) hI.2.2.2 (by omega) (Nat.le_refl _)).mono ?_
      rintro e w4 ⟨rfl, g1, g2, g3, g4⟩
      refine ⟨rfl, ?_, ?_, g3 _ _ (by omega) (by omega) hI.2.2.1, g4⟩
      · rw [act_next]; exact g1
      · show S4 w4 w.heap.size (LV4.it i (LV4.st q)); rw [LV4.it_st]; exact g2)
  have HP := Lib.hid hp
  have HA := Lib.hid (act_all LV4 (vW l) q)
  have HW3 := Lib.hid hW3
  clear hp b1 b2 b3 hn3 hW3
  obtain ⟨r, hr⟩ : ∃ r, LV4.act (vW l) q = r := ⟨_, rfl⟩
  rw [hr] at HA ⊢
  clear hr
  go_enter Tryz.func138, Tryz.ntmps138
  go_wp2_with fail
  rw [HW3.out]
  clear HW3
  refine HP.out.mono ?_
  rintro e w4 ⟨rfl, g1, g2, g3, g4⟩
  rw [HA.out] at g1
  have k0 := cell_of_row _ _ 0 _ _ _ g1
  have k1 := cell_of_row _ _ 1 _ _ _ g1
  have k2 := cell_of_row _ _ 2 _ _ _ g1
  have k3 := cell_of_row _ _ 3 _ _ _ g1
  have m0 := cell_of_row _ _ 0 _ _ _ g3
  have m1 := cell_of_row _ _ 1 _ _ _ g3
  have m2 := cell_of_row _ _ 2 _ _ _ g3
  have m3 := cell_of_row _ _ 3 _ _ _ g3
  have mf : ∀ i, w4.frozen? ⟨w.heap.size + 1, i, none⟩ = false := fun i => frozen_of_row _ _ i _ _ g3
  have HN := Lib.hid g4
  clear g1 g2 g3 g4 HP HA
  go_wp2
  refine bodyPost_ret (by simp [results, Tryz.results138, go_sem, m0, m1, m2, m3]; try rfl) rfl ?_
  exact ⟨rfl, (((HN.out.setCell (by simp) _).setCell (by simp) _).setCell (by simp) _).setCell (by simp) _⟩
set_option maxRecDepth 100000 in
set_option maxHeartbeats 2000000 in
theorem by2c (L : Lin V2) (hLx : ∀ p q, L.x p q = xV2 p q) (k : Int) (hL : MvV2 77 k L.st) (W : World) (bs bq bk : Nat) (tk : Bool) (p q : V2) (w : World) (h1 : S2 w bs p) (h2 : S2 w bq q) (h3 : w.heap[bk]? = some (.cells #[.int .i64 k] 3 (0, 0))) (hks : bk ≠ bs) (hkq : bk ≠ bq) (hne : bs ≠ bq) (hn : New W w) (hbs : W.heap.size ≤ bs) (hbq : W.heap.size ≤ bq) :
    Calls Tryz.prog 147 #[.bool tk, .pointer (some ⟨bs, 0, none⟩), .pointer (some ⟨bq, 0, none⟩), .pointer (some ⟨bk, 0, none⟩)] w fun e w' => e = .returned (.tuple #[]) ∧ S2 w' bs (if tk then xV2 p q else p) ∧ S2 w' bq (L.st q) ∧ (∀ b r, b ≠ bs → b ≠ bq → S2 w b r → S2 w' b r) ∧ w'.heap[bk]? = some (.cells #[.int .i64 k] 3 (0, 0)) ∧ New W w' := by
  have HX := Lib.hid (fun w => xor2_v p q w)
  have HST := Lib.hid (fun w => hL q w)
  have H1 := Lib.hid h1
  have H2 := Lib.hid h2
  have HN := Lib.hid hn
  have HNE := Lib.hid hne
  have HBS := Lib.hid hbs
  have HBQ := Lib.hid hbq
  have k0 := cell_of_row _ _ 0 _ _ _ h1
  have k1 := cell_of_row _ _ 1 _ _ _ h1
  have n0 := cell_of_row _ _ 0 _ _ _ h3
  have HK3 := Lib.hid h3
  have HKS := Lib.hid hks
  have HKQ := Lib.hid hkq
  have m0 := cell_of_row _ _ 0 _ _ _ h2
  have m1 := cell_of_row _ _ 1 _ _ _ h2
  obtain ⟨wq, hwq⟩ : ∃ z, z = w := ⟨_, rfl⟩
  cases tk
  · clear h1 h2 h3 hks hkq hn hne hbs hbq k0 k1 HX
    go_enter Tryz.func147, Tryz.ntmps147
    go_wp2_with fail
    refine (HST.out _).mono ?_
    rintro e w2 ⟨rfl, hn2⟩
    have hq := H2.out.stay hn2
    have g0 := cell_of_row _ _ 0 _ _ _ hq
    have g1 := cell_of_row _ _ 1 _ _ _ hq
    have gf : ∀ i, w2.frozen? ⟨bq, i, none⟩ = false := fun i => frozen_of_row _ _ i _ _ hq
    have HQ := Lib.hid hq
    have HN2 := Lib.hid hn2
    clear hq hn2 m0 m1 n0 HST
    go_wp2
    go_end0
    refine ⟨rfl, ?_, HQ.out.put _, ?_, ?_, ?_⟩
    · exact ((H1.out.stay HN2.out).far (by exact HNE.out) _).far (by exact HNE.out) _
    · intro b r hb1 hb2 hr
      exact ((hr.stay HN2.out).far (by exact hb2) _).far (by exact hb2) _
    · exact (heap_setCell_other _ _ _ _ HKQ.out).trans ((heap_setCell_other _ _ _ _ HKQ.out).trans ((HN2.out.block _ (lt_of_block HK3.out)).trans HK3.out))
    · exact (((HN.out.trans HN2.out).setCell (by exact HBQ.out) _).setCell (by exact HBQ.out) _)
  · clear h1 h2 h3 hks hkq hn hne hbs hbq
    go_enter Tryz.func147, Tryz.ntmps147
    go_wp2_with fail
    refine (HX.out _).mono ?_
    rintro e w2 ⟨rfl, hn2⟩
    have hp := H1.out.stay hn2
    have hq := H2.out.stay hn2
    have g0 := cell_of_row _ _ 0 _ _ _ hp
    have g1 := cell_of_row _ _ 1 _ _ _ hp
    have gf : ∀ i, w2.frozen? ⟨bs, i, none⟩ = false := fun i => frozen_of_row _ _ i _ _ hp
    have hp2 := hp.put (xV2 p q)
    have hq2 : S2 ((w2.setCell ⟨bs, 0, none⟩ (.int .u64 (W64 (xV2 p q).a))).setCell ⟨bs, 1, none⟩ (.int .u64 (W64 (xV2 p q).b))) bq q := (hq.far (by exact fun e => HNE.out e.symm) _).far (by exact fun e => HNE.out e.symm) _
    have hn3 : New W ((w2.setCell ⟨bs, 0, none⟩ (.int .u64 (W64 (xV2 p q).a))).setCell ⟨bs, 1, none⟩ (.int .u64 (W64 (xV2 p q).b))) := (((HN.out.trans hn2).setCell (by exact HBS.out) _).setCell (by exact HBS.out) _)
    have ho3 : ∀ b r, b ≠ bs → S2 w b r → S2 ((w2.setCell ⟨bs, 0, none⟩ (.int .u64 (W64 (xV2 p q).a))).setCell ⟨bs, 1, none⟩ (.int .u64 (W64 (xV2 p q).b))) b r := fun b r hb hr => ((hr.stay hn2).far (by exact hb) _).far (by exact hb) _
    have hk2 : ((w2.setCell ⟨bs, 0, none⟩ (.int .u64 (W64 (xV2 p q).a))).setCell ⟨bs, 1, none⟩ (.int .u64 (W64 (xV2 p q).b))).heap[bk]? = some (.cells #[.int .i64 k] 3 (0, 0)) := (heap_setCell_other _ _ _ _ HKS.out).trans ((heap_setCell_other _ _ _ _ HKS.out).trans ((hn2.block _ (lt_of_block HK3.out)).trans HK3.out))
    have e9 := cell_of_row _ _ 0 _ _ _ hk2
    have e0 := cell_of_row _ _ 0 _ _ _ hq2
    have e1 := cell_of_row _ _ 1 _ _ _ hq2
    obtain ⟨W3, hW3⟩ : ∃ z, ((w2.setCell ⟨bs, 0, none⟩ (.int .u64 (W64 (xV2 p q).a))).setCell ⟨bs, 1, none⟩ (.int .u64 (W64 (xV2 p q).b))) = z := ⟨_, rfl⟩
    rw [hW3] at hp2 hq2 hn3 ho3 hk2
    have HK4 := Lib.hid hk2
    have HW3 := Lib.hid hW3
    have HP2 := Lib.hid hp2
    have HQ2 := Lib.hid hq2
    have HN3 := Lib.hid hn3
    have HO3 := Lib.hid ho3
    clear hp hq hp2 hq2 hn3 ho3 hk2 hW3 hn2 k0 k1 m0 m1 n0 HX
    go_wp2_with fail
    rw [HW3.out]
    clear HW3 e0 e1 e9 g0 g1 gf
    refine (HST.out _).mono ?_
    rintro e w4 ⟨rfl, hn4⟩
    have hq := HQ2.out.stay hn4
    have g0 := cell_of_row _ _ 0 _ _ _ hq
    have g1 := cell_of_row _ _ 1 _ _ _ hq
    have gf : ∀ i, w4.frozen? ⟨bq, i, none⟩ = false := fun i => frozen_of_row _ _ i _ _ hq
    have HQ := Lib.hid hq
    have HN2 := Lib.hid hn4
    clear hq hn4 HST
    go_wp2
    go_end0
    refine ⟨rfl, ?_, HQ.out.put _, ?_, ?_, ?_⟩
    · exact ((HP2.out.stay HN2.out).far (by exact HNE.out) _).far (by exact HNE.out) _
    · intro b r hb1 hb2 hr
      exact (((HO3.out b r hb1 hr).stay HN2.out).far (by exact hb2) _).far (by exact hb2) _
    · exact (heap_setCell_other _ _ _ _ HKQ.out).trans ((heap_setCell_other _ _ _ _ HKQ.out).trans ((HN2.out.block _ (lt_of_block HK4.out)).trans HK4.out))
    · exact (((HN3.out.trans HN2.out).setCell (by exact HBQ.out) _).setCell (by exact HBQ.out) _)
theorem by2_boxes (w : World) (k : Int) (q : V2) : ∃ W3, (((w.alloc (.cells #[.int .i64 k] 3)).alloc (.cells #[.int .u64 (W64 q.a), .int .u64 (W64 q.b)] 80)).alloc (.cells #[.int .u64 0, .int .u64 0] 80)) = W3 ∧ W3.heap.size = w.heap.size + 1 + 1 + 1 ∧ W3.heap[w.heap.size]? = some (.cells #[.int .i64 k] 3 (0, 0)) ∧ S2 W3 (w.heap.size + 1) q ∧ S2 W3 (w.heap.size + 1 + 1) ⟨0#64, 0#64⟩ ∧ New w W3 := by
  refine ⟨_, rfl, by simp, ?_, ?_, ?_, ?_⟩
  · have h := heap_alloc_new w (.cells #[.int .i64 k] 3)
    have h1 := (((New.refl (w.alloc (.cells #[.int .i64 k] 3))).alloc (.cells #[.int .u64 (W64 q.a), .int .u64 (W64 q.b)] 80)).alloc (.cells #[.int .u64 0, .int .u64 0] 80)).block _ (lt_of_block h)
    exact h1.trans h
  · have h := (s2_new (w.alloc (.cells #[.int .i64 k] 3)) q).stay ((New.refl _).alloc (.cells #[.int .u64 0, .int .u64 0] 80))
    simpa using h
  · have h := s2_z ((w.alloc (.cells #[.int .i64 k] 3)).alloc (.cells #[.int .u64 (W64 q.a), .int .u64 (W64 q.b)] 80)) _ rfl
    simpa using h
  · exact (((New.refl w).alloc _).alloc _).alloc _
theorem known_yes (k : Int) (hk : (k == 5 || k == 6) = true) (w : World) : Calls Tryz.prog 145 #[.int .i64 k] w fun e w' => e = .returned (.bool true) ∧ w' = w := by
  by_cases h5 : (k == 5) = true
  · go_enter Tryz.func145, Tryz.ntmps145
    go_wp2
    go_ret
    exact ⟨rfl, rfl⟩
  · have h5 : (k == 5) = false := by simpa using h5
    have h6 : (k == 6) = true := by rw [h5] at hk; simpa using hk
    go_enter Tryz.func145, Tryz.ntmps145
    go_wp2
    go_ret
    exact ⟨rfl, rfl⟩
theorem known_no (k : Int) (h5 : (k == 5) = false) (h6 : (k == 6) = false) (w : World) : Calls Tryz.prog 145 #[.int .i64 k] w fun e w' => e = .returned (.bool false) ∧ w' = w := by
  go_enter Tryz.func145, Tryz.ntmps145
  go_wp2
  go_ret
  exact ⟨rfl, rfl⟩
set_option maxRecDepth 100000 in
set_option maxHeartbeats 2000000 in
theorem by2_o (k : Int) (h5 : (k == 5) = false) (h6 : (k == 6) = false) (a : Option Addr) (n c : Nat) (q : V2) (w : World) :
    Calls Tryz.prog 113 #[.int .i64 k, .slice a n c, .agg #[.int .u64 (W64 q.a), .int .u64 (W64 q.b)]] w fun e w' => e = .returned (.agg #[.int .u64 (W64 q.a), .int .u64 (W64 q.b)]) ∧ New w w' := by
  obtain ⟨W3, hW3, hs3, b1, b2, b3, hn3⟩ := by2_boxes w k q
  have HK := Lib.hid (known_no k h5 h6)
  have k0 := cell_of_row _ _ 0 _ _ _ b1
  have m0 := cell_of_row _ _ 0 _ _ _ b2
  have m1 := cell_of_row _ _ 1 _ _ _ b2
  have n0 := cell_of_row _ _ 0 _ _ _ b3
  have n1 := cell_of_row _ _ 1 _ _ _ b3
  have nf : ∀ i, W3.frozen? ⟨w.heap.size + 1 + 1, i, none⟩ = false := fun i => frozen_of_row _ _ i _ _ b3
  have HN := Lib.hid hn3
  have HW3 := Lib.hid hW3
  clear b1 b2 b3 hn3 hs3 h5 h6 hW3
  go_enter Tryz.func113, Tryz.ntmps113
  go_wp2_with fail
  rw [HW3.out]
  refine (HK.out _).mono ?_
  rintro e w' ⟨rfl, hw⟩
  replace hw := hw.symm
  subst hw
  clear HW3
  go_wp2
  refine bodyPost_ret (by simp [results, Tryz.results113, go_sem, n0, n1]; try rfl) rfl ?_
  exact ⟨rfl, (HN.out.setCell (by simp; omega) _).setCell (by simp; omega) _⟩
set_option maxRecDepth 100000 in
set_option maxHeartbeats 2000000 in
theorem by2_q (L : Lin V2) (hLx : ∀ p q, L.x p q = xV2 p q) (hLz : L.z = ⟨0#64, 0#64⟩) (k : Int) (hk : (k == 5 || k == 6) = true) (hL : MvV2 77 k L.st) (a : Option Addr) (n c : Nat) (l : List (BitVec 64)) (q : V2) (w : World) (h : QRow w a n c l) (hn : n ≤ 10000) :
    Calls Tryz.prog 113 #[.int .i64 k, .slice a n c, .agg #[.int .u64 (W64 q.a), .int .u64 (W64 q.b)]] w fun e w' => e = .returned (.agg #[.int .u64 (W64 (L.act (vW l) q).a), .int .u64 (W64 (L.act (vW l) q).b)]) ∧ New w w' := by
  obtain ⟨W3, hW3, hs3, b1, b2, b3, hn3⟩ := by2_boxes w k q
  have HK := Lib.hid (known_yes k hk)
  have hn4 : New w (W3.alloc (.cells #[.int .u64 0, .int .u64 0] 80)) := hn3.alloc _
  have c1 : (W3.alloc (.cells #[.int .u64 0, .int .u64 0] 80)).heap[w.heap.size]? = some (.cells #[.int .i64 k] 3 (0, 0)) := (((New.refl W3).alloc _).block _ (lt_of_block b1)).trans b1
  have c2 := b2.stay ((New.refl _).alloc (.cells #[.int .u64 0, .int .u64 0] 80))
  have c3 := b3.stay ((New.refl _).alloc (.cells #[.int .u64 0, .int .u64 0] 80))
  have c4 := s2_z W3 L.z hLz
  rw [hs3] at c4
  have hp := pass_q a n c l 147 #[.pointer (some ⟨w.heap.size + 1 + 1 + 1, 0, none⟩), .pointer (some ⟨w.heap.size + 1, 0, none⟩), .pointer (some ⟨w.heap.size, 0, none⟩)]
    (fun i w' => S2 w' (w.heap.size + 1 + 1 + 1) (L.act (vW l % 2 ^ i) q) ∧ S2 w' (w.heap.size + 1) (L.it i q) ∧ S2 w' (w.heap.size + 1 + 1) ⟨0#64, 0#64⟩ ∧ w'.heap[w.heap.size]? = some (.cells #[.int .i64 k] 3 (0, 0)) ∧ New w w') (W3.alloc (.cells #[.int .u64 0, .int .u64 0] 80)) hn (fun x w => by kernel_rfl)
    ⟨by rw [act_none]; exact c4, c2, c3, c1, hn4⟩ (fun i w' hI => h.stay hI.2.2.2.2) (fun i w' hi hI => by
      refine (by2c L hLx k hL w (w.heap.size + 1 + 1 + 1) (w.heap.size + 1) w.heap.size _ _ _ w' hI.1 hI.2.1 hI.2.2.2.1 (by omega) (by omega) (by omega) hI.2.2.2.2 (by omega) (by omega)).mono ?_
      rintro e w4 ⟨rfl, g1, g2, g3, g4, g5⟩
      refine ⟨rfl, ?_, ?_, g3 _ _ (by omega) (by omega) hI.2.2.1, g4, g5⟩
      · rw [act_next, hLx]; exact g1
      · show S2 w4 (w.heap.size + 1) (L.it i (L.st q)); rw [L.it_st]; exact g2)
  have HP := Lib.hid hp
  have HA := Lib.hid (act_all L (vW l) q)
  have HW3 := Lib.hid hW3
  have HS3 := Lib.hid hs3
  have k9 := cell_of_row _ _ 0 _ _ _ b1
  clear hp b1 b2 b3 c1 c2 c3 c4 hn4 hn3 hW3 hs3 hL hLx hLz hk
  obtain ⟨r, hr⟩ : ∃ r, L.act (vW l) q = r := ⟨_, rfl⟩
  rw [hr] at HA ⊢
  clear hr
  go_enter Tryz.func113, Tryz.ntmps113
  go_wp2_with fail
  rw [HW3.out]
  refine (HK.out _).mono ?_
  rintro e w' ⟨rfl, hw⟩
  replace hw := hw.symm
  subst hw
  clear HW3
  go_wp2_with fail
  rw [HS3.out]
  clear k9
  refine HP.out.mono ?_
  rintro e w4 ⟨rfl, g1, g2, g3, g5, g4⟩
  rw [HA.out] at g1
  have k0 := cell_of_row _ _ 0 _ _ _ g1
  have k1 := cell_of_row _ _ 1 _ _ _ g1
  have m0 := cell_of_row _ _ 0 _ _ _ g3
  have m1 := cell_of_row _ _ 1 _ _ _ g3
  have mf : ∀ i, w4.frozen? ⟨w.heap.size + 1 + 1, i, none⟩ = false := fun i => frozen_of_row _ _ i _ _ g3
  have HN := Lib.hid g4
  clear g1 g2 g3 g4 g5 HP HA HS3
  go_wp2
  refine bodyPost_ret (by simp [results, Tryz.results113, go_sem, m0, m1]; try rfl) rfl ?_
  exact ⟨rfl, (HN.out.setCell (by simp; omega) _).setCell (by simp; omega) _⟩
end Go.Proofs.YtfaobdmoifnglaaGreat
namespace Go.Proofs.YtfaobdmoifnglaaGreat
open Go Go.RowKit Go.Bv Go.G2
set_option linter.unusedVariables false
theorem len_small {P n X : Nat} (hP : bl P = n + 1) (hn : n ≤ 100000) (E : Nat) : (tW (xpG E P)).length ≤ 10000 ∧ (tW P).length ≤ 10000 := by
  have h0 : P ≠ 0 := fun h => by rw [h, bl_zero] at hP; omega
  have h1 : bl (xpG E P) < bl P := rm_lt h0
  rw [tW_len, tW_len]
  omega
theorem jump_is {S : Type} (L : Lin S) {P n : Nat} (hP : bl P = n + 1) (hk : ∀ s, L.act P s = L.z) (E : Nat) (s : S) : L.act (vW (tW (xpG E P))) s = L.it E s := by
  have h0 : P ≠ 0 := fun h => by rw [h, bl_zero] at hP; omega
  rw [vW_tW]
  have h2 := L.act_rm h0 hk (2 ^ E) s
  rw [L.act_pow] at h2
  exact h2
def UB (w : World) (b : Nat) (a0 a1 a2 a3 : BitVec 64) : Prop := w.heap[b]? = some (.cells #[.int .u64 (W64 a0), .int .u64 (W64 a1), .int .u64 (W64 a2), .int .u64 (W64 a3)] 49 (0, 0))
theorem UB.stay {w w' : World} {b : Nat} {a0 a1 a2 a3 : BitVec 64} (h : UB w b a0 a1 a2 a3) (hn : New w w') : UB w' b a0 a1 a2 a3 := (hn.block _ (lt_of_block h)).trans h
theorem UB.cells {w : World} {b : Nat} {a0 a1 a2 a3 : BitVec 64} (h : UB w b a0 a1 a2 a3) : w.cell? ⟨b, 0, none⟩ = some (.int .u64 (W64 a0)) ∧ w.cell? ⟨b, 1, none⟩ = some (.int .u64 (W64 a1)) ∧ w.cell? ⟨b, 2, none⟩ = some (.int .u64 (W64 a2)) ∧ w.cell? ⟨b, 3, none⟩ = some (.int .u64 (W64 a3)) :=
  ⟨cell_of_row _ _ 0 _ _ _ h, cell_of_row _ _ 1 _ _ _ h, cell_of_row _ _ 2 _ _ _ h, cell_of_row _ _ 3 _ _ _ h⟩
theorem ub_new (w : World) (a0 a1 a2 a3 : BitVec 64) : UB (w.alloc (.cells #[.int .u64 (W64 a0), .int .u64 (W64 a1), .int .u64 (W64 a2), .int .u64 (W64 a3)] 49)) w.heap.size a0 a1 a2 a3 := heap_alloc_new w _
theorem j4_boxes (w : World) (q : V4) (a0 a1 a2 a3 : BitVec 64) : ∃ W3, ((w.alloc (.cells #[.int .u64 (W64 q.a), .int .u64 (W64 q.b), .int .u64 (W64 q.c), .int .u64 (W64 q.d)] 23)).alloc (.cells #[.int .u64 (W64 a0), .int .u64 (W64 a1), .int .u64 (W64 a2), .int .u64 (W64 a3)] 49)).alloc (.cells #[.int .u64 0, .int .u64 0, .int .u64 0, .int .u64 0] 23) = W3 ∧ S4 W3 w.heap.size q ∧ UB W3 (w.heap.size + 1) a0 a1 a2 a3 ∧ S4 W3 (w.heap.size + 1 + 1) LV4.z ∧ New w W3 := by
  refine ⟨_, rfl, ?_, ?_, ?_, ?_⟩
  · exact ((s4_new w q).stay ((New.refl _).alloc _)).stay ((New.refl _).alloc _)
  · have h := (ub_new (w.alloc (.cells #[.int .u64 (W64 q.a), .int .u64 (W64 q.b), .int .u64 (W64 q.c), .int .u64 (W64 q.d)] 23)) a0 a1 a2 a3).stay ((New.refl _).alloc (.cells #[.int .u64 0, .int .u64 0, .int .u64 0, .int .u64 0] 23))
    simpa using h
  · have h := s4_z ((w.alloc (.cells #[.int .u64 (W64 q.a), .int .u64 (W64 q.b), .int .u64 (W64 q.c), .int .u64 (W64 q.d)] 23)).alloc (.cells #[.int .u64 (W64 a0), .int .u64 (W64 a1), .int .u64 (W64 a2), .int .u64 (W64 a3)] 49))
    simpa using h
  · exact (((New.refl w).alloc _).alloc _).alloc _
set_option maxRecDepth 100000 in
set_option maxHeartbeats 4000000 in
theorem jump4_q (q : V4) (a0 a1 a2 a3 : BitVec 64) (w : World) :
    Calls Tryz.prog 109 #[.agg #[.int .u64 (W64 q.a), .int .u64 (W64 q.b), .int .u64 (W64 q.c), .int .u64 (W64 q.d)], .agg #[.int .u64 (W64 a0), .int .u64 (W64 a1), .int .u64 (W64 a2), .int .u64 (W64 a3)]] w fun e w' => e = .returned (.agg #[.int .u64 (W64 (LV4.it (four a0 a1 a2 a3) q).a), .int .u64 (W64 (LV4.it (four a0 a1 a2 a3) q).b), .int .u64 (W64 (LV4.it (four a0 a1 a2 a3) q).c), .int .u64 (W64 (LV4.it (four a0 a1 a2 a3) q).d)]) ∧ New w w' := by
  obtain ⟨hl1, hl2⟩ := len_small (X := 0) bl_pol4 (by omega) (four a0 a1 a2 a3)
  have hj := jump_is LV4 bl_pol4 kill4 (four a0 a1 a2 a3) q
  have hz : vW (tW pol4) ≠ 0 := by rw [vW_tW]; intro h; have := bl_pol4; rw [h, bl_zero] at this; omega
  have HX := Lib.hid (fun w => xosh_q w)
  have HPW := Lib.hid (fun b c2 w (h2 : QRow w b (tW pol4).length c2 (tW pol4)) => powx_q a0 a1 a2 a3 b _ c2 _ w h2 hl2 hz)
  rw [vW_tW] at HPW
  have HBY := Lib.hid (fun a c w (h : QRow w a (tW (xpG (four a0 a1 a2 a3) pol4)).length c (tW (xpG (four a0 a1 a2 a3) pol4))) => by4_q a _ c _ q w h hl1)
  rw [hj] at HBY
  obtain ⟨r, hr⟩ : ∃ r, LV4.it (four a0 a1 a2 a3) q = r := ⟨_, rfl⟩
  rw [hr] at HBY ⊢
  obtain ⟨m, hm⟩ : ∃ m, tW (xpG (four a0 a1 a2 a3) pol4) = m := ⟨_, rfl⟩
  rw [hm] at HPW HBY
  obtain ⟨p, hp⟩ : ∃ p, tW pol4 = p := ⟨_, rfl⟩
  rw [hp] at HPW HX
  clear hl1 hl2 hj hz hr hm hp
  obtain ⟨W3, hW3, b1, b2, b3, hn3⟩ := j4_boxes w q a0 a1 a2 a3
  have HW3 := Lib.hid hW3
  have HB1 := Lib.hid b1
  have HB2 := Lib.hid b2
  have HB3 := Lib.hid b3
  have HN3 := Lib.hid hn3
  clear hW3 b1 b2 b3 hn3
  go_enter Tryz.func109, Tryz.ntmps109
  go_wp2_with fail
  rw [HW3.out]
  clear HW3
  go_cut [5, 6] (fun u ok wx => ∃ a c, u = .slice a m.length c ∧ ok = .bool true ∧ QRow wx a m.length c m ∧ New W3 wx)
  case first =>
    have SK : Hid (∀ w', New W3 w' → New W3 w' ∧ w'.cell? ⟨w.heap.size + 1, 0, none⟩ = some (.int .u64 (W64 a0)) ∧ w'.cell? ⟨w.heap.size + 1, 1, none⟩ = some (.int .u64 (W64 a1)) ∧ w'.cell? ⟨w.heap.size + 1, 2, none⟩ = some (.int .u64 (W64 a2)) ∧ w'.cell? ⟨w.heap.size + 1, 3, none⟩ = some (.int .u64 (W64 a3))) := Lib.hid (fun w' hn => ⟨hn, (HB2.out.stay hn).cells⟩)
    obtain ⟨_, c0, c1, c2, c3⟩ := SK.out W3 (New.refl _)
    go_region_held3 (fun w' => New W3 w' ∧ w'.cell? ⟨w.heap.size + 1, 0, none⟩ = some (.int .u64 (W64 a0)) ∧ w'.cell? ⟨w.heap.size + 1, 1, none⟩ = some (.int .u64 (W64 a1)) ∧ w'.cell? ⟨w.heap.size + 1, 2, none⟩ = some (.int .u64 (W64 a2)) ∧ w'.cell? ⟨w.heap.size + 1, 3, none⟩ = some (.int .u64 (W64 a3)))
      ((refine SK.out _ ?_; first | with_reducible assumption | with_reducible exact (New.refl _).drew | with_reducible exact New.drew (by assumption)))
      (first
      | (go_at_call 137
         refine (HX.out _).mono ?_
         rintro e w4 ⟨ax, cx, rfl, hqx, hnx⟩
         have hn5 : New W3 w4 := (New.refl W3).drew.trans hnx
         have HQX := Lib.hid hqx
         clear hqx hnx)
      | (go_at_call 111
         refine (HPW.out _ _ _ (by first | with_reducible exact HQX.out | with_reducible exact HQX.out.stay (New.refl _).drew)).mono ?_
         rintro e w5 ⟨ay, cy, rfl, hqy, hny⟩
         have hn6 : New W3 w5 := by first | with_reducible exact hn5.trans hny | with_reducible exact hn5.drew.trans hny
         have HQY := Lib.hid hqy
         clear hqy hny))
    go_wp2_with fail
    go_meet
    case rel => exact ⟨_, _, rfl, rfl, HQY.out, hn6⟩
  case rest =>
    obtain ⟨ay, cy, rfl, rfl, hq, hn⟩ := hcut
    have k0 := cell_of_row _ _ 0 _ _ _ (HB1.out.stay hn)
    have k1 := cell_of_row _ _ 1 _ _ _ (HB1.out.stay hn)
    have k2 := cell_of_row _ _ 2 _ _ _ (HB1.out.stay hn)
    have k3 := cell_of_row _ _ 3 _ _ _ (HB1.out.stay hn)
    have HBY2 := Lib.hid (HBY.out _ _ wc hq)
    have HN4 := Lib.hid hn
    clear hq hn HPW HX HBY
    go_wp2_with fail
    refine HBY2.out.mono ?_
    rintro e w6 ⟨rfl, hn6⟩
    have g3 := HB3.out.stay (HN4.out.trans hn6)
    have m0 := cell_of_row _ _ 0 _ _ _ g3
    have m1 := cell_of_row _ _ 1 _ _ _ g3
    have m2 := cell_of_row _ _ 2 _ _ _ g3
    have m3 := cell_of_row _ _ 3 _ _ _ g3
    have mf : ∀ i, w6.frozen? ⟨w.heap.size + 1 + 1, i, none⟩ = false := fun i => frozen_of_row _ _ i _ _ g3
    have HN := Lib.hid (HN3.out.trans (HN4.out.trans hn6))
    clear g3 hn6 k0 k1 k2 k3 HBY2
    go_wp2
    refine bodyPost_ret (by simp [results, Tryz.results109, go_sem, m0, m1, m2, m3]; try rfl) rfl ?_
    exact ⟨rfl, (((HN.out.setCell (by simp; omega) _).setCell (by simp; omega) _).setCell (by simp; omega) _).setCell (by simp; omega) _⟩
end Go.Proofs.YtfaobdmoifnglaaGreat
namespace Go.Proofs.YtfaobdmoifnglaaGreat
open Go Go.RowKit Go.Bv Go.G2
set_option linter.unusedVariables false
theorem j2_boxes (w : World) (q : V2) (a0 a1 a2 a3 : BitVec 64) : ∃ W3, ((w.alloc (.cells #[.int .u64 (W64 q.a), .int .u64 (W64 q.b)] 80)).alloc (.cells #[.int .u64 (W64 a0), .int .u64 (W64 a1), .int .u64 (W64 a2), .int .u64 (W64 a3)] 49)).alloc (.cells #[.int .u64 0, .int .u64 0] 80) = W3 ∧ S2 W3 w.heap.size q ∧ UB W3 (w.heap.size + 1) a0 a1 a2 a3 ∧ S2 W3 (w.heap.size + 1 + 1) ⟨0#64, 0#64⟩ ∧ New w W3 := by
  refine ⟨_, rfl, ?_, ?_, ?_, ?_⟩
  · exact ((s2_new w q).stay ((New.refl _).alloc _)).stay ((New.refl _).alloc _)
  · have h := (ub_new (w.alloc (.cells #[.int .u64 (W64 q.a), .int .u64 (W64 q.b)] 80)) a0 a1 a2 a3).stay ((New.refl _).alloc (.cells #[.int .u64 0, .int .u64 0] 80))
    simpa using h
  · have h := s2_z ((w.alloc (.cells #[.int .u64 (W64 q.a), .int .u64 (W64 q.b)] 80)).alloc (.cells #[.int .u64 (W64 a0), .int .u64 (W64 a1), .int .u64 (W64 a2), .int .u64 (W64 a3)] 49)) _ rfl
    simpa using h
  · exact (((New.refl w).alloc _).alloc _).alloc _
set_option maxRecDepth 100000 in
set_option maxHeartbeats 4000000 in
theorem jump2_g (L : Lin V2) (k : Int) (P n : Nat) (hP : bl P = n + 1) (hn : n ≤ 100000) (hk : ∀ s, L.act P s = L.z) (hX : ∀ w, Calls Tryz.prog 112 #[.int .i64 k] w fun e w' => ∃ a c, e = .returned (.slice a (tW P).length c) ∧ QRow w' a (tW P).length c (tW P) ∧ New w w') (hB : ∀ (a : Option Addr) (n c : Nat) (l : List (BitVec 64)) (q : V2) (w : World) (h : QRow w a n c l) (hn : n ≤ 10000), Calls Tryz.prog 113 #[.int .i64 k, .slice a n c, .agg #[.int .u64 (W64 q.a), .int .u64 (W64 q.b)]] w fun e w' => e = .returned (.agg #[.int .u64 (W64 (L.act (vW l) q).a), .int .u64 (W64 (L.act (vW l) q).b)]) ∧ New w w') (q : V2) (a0 a1 a2 a3 : BitVec 64) (w : World) :
    Calls Tryz.prog 83 #[.int .i64 k, .agg #[.int .u64 (W64 q.a), .int .u64 (W64 q.b)], .agg #[.int .u64 (W64 a0), .int .u64 (W64 a1), .int .u64 (W64 a2), .int .u64 (W64 a3)]] w fun e w' => e = .returned (.agg #[.int .u64 (W64 (L.it (four a0 a1 a2 a3) q).a), .int .u64 (W64 (L.it (four a0 a1 a2 a3) q).b)]) ∧ New w w' := by
  obtain ⟨hl1, hl2⟩ := len_small (X := 0) hP hn (four a0 a1 a2 a3)
  have hj := jump_is L hP hk (four a0 a1 a2 a3) q
  have hz : vW (tW P) ≠ 0 := by rw [vW_tW]; intro h; rw [h, bl_zero] at hP; omega
  have HX := Lib.hid (fun w => hX w)
  have HPW := Lib.hid (fun b c2 w (h2 : QRow w b (tW P).length c2 (tW P)) => powx_q a0 a1 a2 a3 b _ c2 _ w h2 hl2 hz)
  rw [vW_tW] at HPW
  have HBY := Lib.hid (fun a c w (h : QRow w a (tW (xpG (four a0 a1 a2 a3) P)).length c (tW (xpG (four a0 a1 a2 a3) P))) => hB a _ c _ q w h hl1)
  rw [hj] at HBY
  obtain ⟨r, hr⟩ : ∃ r, L.it (four a0 a1 a2 a3) q = r := ⟨_, rfl⟩
  rw [hr] at HBY ⊢
  obtain ⟨m, hm⟩ : ∃ m, tW (xpG (four a0 a1 a2 a3) P) = m := ⟨_, rfl⟩
  rw [hm] at HPW HBY
  obtain ⟨p, hp⟩ : ∃ p, tW P = p := ⟨_, rfl⟩
  rw [hp] at HPW HX
  clear hl1 hl2 hj hz hr hm hp hP hn hk hX hB
  obtain ⟨W3, hW3, b1, b2, b3, hn3⟩ := j2_boxes w q a0 a1 a2 a3
  have HW3 := Lib.hid hW3
  have HB1 := Lib.hid b1
  have HB2 := Lib.hid b2
  have HB3 := Lib.hid b3
  have HN3 := Lib.hid hn3
  clear hW3 b1 b2 b3 hn3
  go_enter Tryz.func83, Tryz.ntmps83
  go_wp2_with fail
  rw [HW3.out]
  clear HW3
  go_cut [7, 8] (fun u ok wx => ∃ a c, u = .slice a m.length c ∧ ok = .bool true ∧ QRow wx a m.length c m ∧ New W3 wx)
  case first =>
    have SK : Hid (∀ w', New W3 w' → New W3 w' ∧ w'.cell? ⟨w.heap.size + 1, 0, none⟩ = some (.int .u64 (W64 a0)) ∧ w'.cell? ⟨w.heap.size + 1, 1, none⟩ = some (.int .u64 (W64 a1)) ∧ w'.cell? ⟨w.heap.size + 1, 2, none⟩ = some (.int .u64 (W64 a2)) ∧ w'.cell? ⟨w.heap.size + 1, 3, none⟩ = some (.int .u64 (W64 a3))) := Lib.hid (fun w' hn => ⟨hn, (HB2.out.stay hn).cells⟩)
    obtain ⟨_, c0, c1, c2, c3⟩ := SK.out W3 (New.refl _)
    go_region_held3 (fun w' => New W3 w' ∧ w'.cell? ⟨w.heap.size + 1, 0, none⟩ = some (.int .u64 (W64 a0)) ∧ w'.cell? ⟨w.heap.size + 1, 1, none⟩ = some (.int .u64 (W64 a1)) ∧ w'.cell? ⟨w.heap.size + 1, 2, none⟩ = some (.int .u64 (W64 a2)) ∧ w'.cell? ⟨w.heap.size + 1, 3, none⟩ = some (.int .u64 (W64 a3)))
      ((refine SK.out _ ?_; first | with_reducible assumption | with_reducible exact (New.refl _).drew | with_reducible exact New.drew (by assumption)))
      (first
      | (go_at_call 112
         refine (HX.out _).mono ?_
         rintro e w4 ⟨ax, cx, rfl, hqx, hnx⟩
         have hn5 : New W3 w4 := (New.refl W3).drew.trans hnx
         have HQX := Lib.hid hqx
         clear hqx hnx)
      | (go_at_call 111
         refine (HPW.out _ _ _ (by first | with_reducible exact HQX.out | with_reducible exact HQX.out.stay (New.refl _).drew)).mono ?_
         rintro e w5 ⟨ay, cy, rfl, hqy, hny⟩
         have hn6 : New W3 w5 := by first | with_reducible exact hn5.trans hny | with_reducible exact hn5.drew.trans hny
         have HQY := Lib.hid hqy
         clear hqy hny))
    go_wp2_with fail
    go_meet
    case rel => exact ⟨_, _, rfl, rfl, HQY.out, hn6⟩
  case rest =>
    obtain ⟨ay, cy, rfl, rfl, hq, hn⟩ := hcut
    have k0 := cell_of_row _ _ 0 _ _ _ (HB1.out.stay hn)
    have k1 := cell_of_row _ _ 1 _ _ _ (HB1.out.stay hn)
    have HBY2 := Lib.hid (HBY.out _ _ wc hq)
    have HN4 := Lib.hid hn
    clear hq hn HPW HX HBY
    go_wp2_with fail
    refine HBY2.out.mono ?_
    rintro e w6 ⟨rfl, hn6⟩
    have g3 := HB3.out.stay (HN4.out.trans hn6)
    have m0 := cell_of_row _ _ 0 _ _ _ g3
    have m1 := cell_of_row _ _ 1 _ _ _ g3
    have mf : ∀ i, w6.frozen? ⟨w.heap.size + 1 + 1, i, none⟩ = false := fun i => frozen_of_row _ _ i _ _ g3
    have HN := Lib.hid (HN3.out.trans (HN4.out.trans hn6))
    clear g3 hn6 k0 k1 HBY2
    go_wp2
    refine bodyPost_ret (by simp [results, Tryz.results83, go_sem, m0, m1]; try rfl) rfl ?_
    exact ⟨rfl, (HN.out.setCell (by simp; omega) _).setCell (by simp; omega) _⟩
theorem jump2S (q : V2) (a0 a1 a2 a3 : BitVec 64) (w : World) :
    Calls Tryz.prog 83 #[.int .i64 5, .agg #[.int .u64 (W64 q.a), .int .u64 (W64 q.b)], .agg #[.int .u64 (W64 a0), .int .u64 (W64 a1), .int .u64 (W64 a2), .int .u64 (W64 a3)]] w fun e w' => e = .returned (.agg #[.int .u64 (W64 ((LV2 24 16 37 (by decide) (by decide)).it (four a0 a1 a2 a3) q).a), .int .u64 (W64 ((LV2 24 16 37 (by decide) (by decide)).it (four a0 a1 a2 a3) q).b)]) ∧ New w w' :=
  jump2_g (LV2 24 16 37 (by decide) (by decide)) 5 polS 128 bl_polS (by omega) killS xoro_S (fun a n c l q w h hn => by2_q (LV2 24 16 37 (by decide) (by decide)) (fun _ _ => rfl) rfl 5 (by decide) step_5L a n c l q w h hn) q a0 a1 a2 a3 w
theorem jump2P (q : V2) (a0 a1 a2 a3 : BitVec 64) (w : World) :
    Calls Tryz.prog 83 #[.int .i64 6, .agg #[.int .u64 (W64 q.a), .int .u64 (W64 q.b)], .agg #[.int .u64 (W64 a0), .int .u64 (W64 a1), .int .u64 (W64 a2), .int .u64 (W64 a3)]] w fun e w' => e = .returned (.agg #[.int .u64 (W64 ((LV2 49 21 28 (by decide) (by decide)).it (four a0 a1 a2 a3) q).a), .int .u64 (W64 ((LV2 49 21 28 (by decide) (by decide)).it (four a0 a1 a2 a3) q).b)]) ∧ New w w' :=
  jump2_g (LV2 49 21 28 (by decide) (by decide)) 6 polP 128 bl_polP (by omega) killP xoro_P (fun a n c l q w h hn => by2_q (LV2 49 21 28 (by decide) (by decide)) (fun _ _ => rfl) rfl 6 (by decide) step_6L a n c l q w h hn) q a0 a1 a2 a3 w
theorem nil_qrow (w : World) : QRow w none 0 0 [] := ⟨rfl, Nat.le_refl _, by omega, by omega, (fun _ => ⟨rfl, rfl⟩), (fun b off e => by cases e), (fun x e => by cases e), (fun x e => by cases e)⟩
set_option maxRecDepth 100000 in
set_option maxHeartbeats 4000000 in
theorem jump2_o (k : Int) (h5 : (k == 5) = false) (h6 : (k == 6) = false) (q : V2) (a0 a1 a2 a3 : BitVec 64) (w : World) :
    Calls Tryz.prog 83 #[.int .i64 k, .agg #[.int .u64 (W64 q.a), .int .u64 (W64 q.b)], .agg #[.int .u64 (W64 a0), .int .u64 (W64 a1), .int .u64 (W64 a2), .int .u64 (W64 a3)]] w fun e w' => e = .returned (.agg #[.int .u64 (W64 q.a), .int .u64 (W64 q.b)]) ∧ New w w' := by
  have HX := Lib.hid (fun w => xoro_o k h5 h6 w)
  have HPW := Lib.hid (fun w => powx_z a0 a1 a2 a3 none 0 0 [] w (nil_qrow w) (by omega) rfl)
  have HBY := Lib.hid (fun a n c w => by2_o k h5 h6 a n c q w)
  clear h5 h6
  obtain ⟨W3, hW3, b1, b2, b3, hn3⟩ := j2_boxes w q a0 a1 a2 a3
  have HW3 := Lib.hid hW3
  have HB1 := Lib.hid b1
  have HB2 := Lib.hid b2
  have HB3 := Lib.hid b3
  have HN3 := Lib.hid hn3
  clear hW3 b1 b2 b3 hn3
  go_enter Tryz.func83, Tryz.ntmps83
  go_wp2_with fail
  rw [HW3.out]
  clear HW3
  go_cut [7, 8] (fun u ok wx => u = .slice none 0 0 ∧ ok = .bool false ∧ New W3 wx)
  case first =>
    have SK : Hid (∀ w', New W3 w' → New W3 w' ∧ w'.cell? ⟨w.heap.size + 1, 0, none⟩ = some (.int .u64 (W64 a0)) ∧ w'.cell? ⟨w.heap.size + 1, 1, none⟩ = some (.int .u64 (W64 a1)) ∧ w'.cell? ⟨w.heap.size + 1, 2, none⟩ = some (.int .u64 (W64 a2)) ∧ w'.cell? ⟨w.heap.size + 1, 3, none⟩ = some (.int .u64 (W64 a3))) := Lib.hid (fun w' hn => ⟨hn, (HB2.out.stay hn).cells⟩)
    obtain ⟨_, c0, c1, c2, c3⟩ := SK.out W3 (New.refl _)
    go_region_held3 (fun w' => New W3 w' ∧ w'.cell? ⟨w.heap.size + 1, 0, none⟩ = some (.int .u64 (W64 a0)) ∧ w'.cell? ⟨w.heap.size + 1, 1, none⟩ = some (.int .u64 (W64 a1)) ∧ w'.cell? ⟨w.heap.size + 1, 2, none⟩ = some (.int .u64 (W64 a2)) ∧ w'.cell? ⟨w.heap.size + 1, 3, none⟩ = some (.int .u64 (W64 a3)))
      ((refine SK.out _ ?_; first | with_reducible assumption | with_reducible exact (New.refl _).drew | with_reducible exact New.drew (by assumption)))
      (first
      | (go_at_call 112
         refine (HX.out _).mono ?_
         rintro e w4 ⟨rfl, hw⟩
         replace hw := hw.symm
         subst hw)
      | (go_at_call 111
         refine (HPW.out _).mono ?_
         rintro e w5 ⟨rfl, hny⟩
         have hn6 : New W3 w5 := by first | with_reducible exact (New.refl W3).drew.trans hny | with_reducible exact (New.refl W3).trans hny
         clear hny))
    go_wp2_with fail
    go_meet
    case rel => exact ⟨rfl, rfl, hn6⟩
  case rest =>
    obtain ⟨rfl, rfl, hn⟩ := hcut
    have k0 := cell_of_row _ _ 0 _ _ _ (HB1.out.stay hn)
    have k1 := cell_of_row _ _ 1 _ _ _ (HB1.out.stay hn)
    have HBY2 := Lib.hid (HBY.out none 0 0 wc)
    have HN4 := Lib.hid hn
    clear hn HPW HX HBY
    go_wp2_with fail
    refine HBY2.out.mono ?_
    rintro e w6 ⟨rfl, hn6⟩
    have g3 := HB3.out.stay (HN4.out.trans hn6)
    have m0 := cell_of_row _ _ 0 _ _ _ g3
    have m1 := cell_of_row _ _ 1 _ _ _ g3
    have mf : ∀ i, w6.frozen? ⟨w.heap.size + 1 + 1, i, none⟩ = false := fun i => frozen_of_row _ _ i _ _ g3
    have HN := Lib.hid (HN3.out.trans (HN4.out.trans hn6))
    clear g3 hn6 k0 k1 HBY2
    go_wp2
    refine bodyPost_ret (by simp [results, Tryz.results83, go_sem, m0, m1]; try rfl) rfl ?_
    exact ⟨rfl, (HN.out.setCell (by simp; omega) _).setCell (by simp; omega) _⟩
end Go.Proofs.YtfaobdmoifnglaaGreat
