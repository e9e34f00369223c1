/- The document's own answers of layer 12: Of, By4, By2; and Steps of layers 9 and 10. · The document's own By4 and By2. · The document's own By2; leap.Power. -/
import Derived.Test.YtppmpledcaonkaaLqE
import Derived.Test.YtppmpledcaonkaaGf2R
import Derived.BigRegion
import Derived.Test.YtppmpledcaonkaaFouF
namespace Go.Proofs.Ytppmpledcaonkaa
open Go Go.RowKit Go.Bv Go.G2
set_option linter.unusedVariables false
theorem of12_r (a : Option Addr) (n c : Nat) (l : List (BitVec 64)) (w : World) (h : QRow w a n c l) (hn : n ≤ 1000) :
    Calls Try.prog 38 #[.slice a n c] w fun e w' => ∃ a' c', e = .returned (.slice a' (64 * n : Nat) c') ∧ LRow w' a' (64 * n) c' (bO (vW l) (64 * n)) ∧ New w w' := by
  have HR := Lib.hid (of_r a n c l w h hn)
  obtain ⟨K, hK⟩ : ∃ K, 64 * n = K := ⟨_, rfl⟩
  rw [hK] at HR ⊢
  clear hK h
  go_enter Try.func38, Try.ntmps38
  go_wp2_with fail
  refine HR.out.mono ?_
  rintro e w1 ⟨a1, c1, rfl, hl, hn1⟩
  have HL := Lib.hid hl
  have HN := Lib.hid hn1
  clear hl hn1 HR
  go_wp2
  go_ret
  exact ⟨_, _, rfl, HL.out, HN.out⟩
set_option maxRecDepth 100000 in
set_option maxHeartbeats 1000000 in
theorem steps4_r (q : V4) (n : Nat) (hn : n ≤ 1000000) (w : World) :
    Calls Try.prog 46 #[.agg #[.int .u64 (W64 q.a), .int .u64 (W64 q.b), .int .u64 (W64 q.c), .int .u64 (W64 q.d)], .int .i64 (n : Int)] w fun e w' => e = .returned (.agg #[.int .u64 (W64 (LV4.it n q).a), .int .u64 (W64 (LV4.it n q).b), .int .u64 (W64 (LV4.it n q).c), .int .u64 (W64 (LV4.it n q).d)]) ∧ New w w' := by
  have hb := s4_new w q
  have hz := s4_z (w.alloc (.cells #[.int .u64 (W64 q.a), .int .u64 (W64 q.b), .int .u64 (W64 q.c), .int .u64 (W64 q.d)] 44))
  rw [show (w.alloc (.cells #[.int .u64 (W64 q.a), .int .u64 (W64 q.b), .int .u64 (W64 q.c), .int .u64 (W64 q.d)] 44)).heap.size = w.heap.size + 1 by simp] at hz
  have hb2 := hb.stay ((New.refl _).alloc (.cells #[.int .u64 0, .int .u64 0, .int .u64 0, .int .u64 0] 44))
  have hn2 : New w ((w.alloc (.cells #[.int .u64 (W64 q.a), .int .u64 (W64 q.b), .int .u64 (W64 q.c), .int .u64 (W64 q.d)] 44)).alloc (.cells #[.int .u64 0, .int .u64 0, .int .u64 0, .int .u64 0] 44)) := ((New.refl _).alloc _).alloc _
  obtain ⟨W2, hW2⟩ : ∃ z, (w.alloc (.cells #[.int .u64 (W64 q.a), .int .u64 (W64 q.b), .int .u64 (W64 q.c), .int .u64 (W64 q.d)] 44)).alloc (.cells #[.int .u64 0, .int .u64 0, .int .u64 0, .int .u64 0] 44) = z := ⟨_, rfl⟩
  rw [hW2] at hz hb2 hn2
  have HB := Lib.hid hb2
  have HZ := Lib.hid hz
  have HN := Lib.hid hn2
  have HW2 := Lib.hid hW2
  have HST := Lib.hid (fun j w => stepr4_q (LV4.it j q) w)
  have HNX : Hid (∀ j, LV4.it (j + 1) q = stV4 (LV4.it j q)) := Lib.hid (fun j => LV4.it_st j q)
  clear hb hz hb2 hn2 hW2
  go_enter Try.func46, Try.ntmps46
  go_wp2_with fail
  rw [HW2.out]
  clear HW2
  go_loopw [5] (fun iv wr => ∃ i : Nat, i ≤ n ∧ iv = .int .i64 (i : Int) ∧ S4 wr w.heap.size (LV4.it i q) ∧ S4 wr (w.heap.size + 1) LV4.z ∧ New w wr) (fun iv _ => n - (intOf iv).toNat)
  case atStart => exact ⟨0, Nat.zero_le _, rfl, HB.out, HZ.out, HN.out⟩
  case round =>
    clear HB HZ HN
    obtain ⟨i, hi, rfl, hb, hz, hnew⟩ := hrel
    obtain ⟨wq, hwq⟩ : ∃ z, z = wr := ⟨_, rfl⟩
    rw [← hwq] at hb hz hnew ⊢
    clear hwq
    by_cases hlt : (i : Int) < (n : Int)
    · have HST2 := Lib.hid (HST.out i)
      have HNX2 := Lib.hid (HNX.out i)
      obtain ⟨p, hp⟩ : ∃ p, LV4.it i q = p := ⟨_, rfl⟩
      rw [hp] at HST2 HNX2 hb
      have k0 := cell_of_row _ _ 0 _ _ _ hb
      have k1 := cell_of_row _ _ 1 _ _ _ hb
      have k2 := cell_of_row _ _ 2 _ _ _ hb
      have k3 := cell_of_row _ _ 3 _ _ _ hb
      have HB := Lib.hid hb
      have HZ := Lib.hid hz
      have HN := Lib.hid hnew
      clear hb hz hnew hp
      go_wp2_with fail
      refine (HST2.out _).mono ?_
      rintro e w2 ⟨rfl, hn3⟩
      have hS3 := HB.out.stay hn3
      have HZ3 := Lib.hid (HZ.out.stay hn3)
      have HN3 := Lib.hid (HN.out.trans hn3)
      have g0 := cell_of_row _ _ 0 _ _ _ hS3
      have g1 := cell_of_row _ _ 1 _ _ _ hS3
      have g2 := cell_of_row _ _ 2 _ _ _ hS3
      have g3 := cell_of_row _ _ 3 _ _ _ hS3
      have gf : ∀ i, w2.frozen? ⟨w.heap.size, i, none⟩ = false := fun i => frozen_of_row _ _ i _ _ hS3
      have HS3 := Lib.hid hS3
      clear HST2 hn3 hS3 HB HZ HN k0 k1 k2 k3
      go_wp2
      refine ⟨⟨i + 1, by omega, by go_num, ?_, ?_, ?_⟩, by simp [intOf] <;> omega⟩
      · rw [HNX2.out]; exact HS3.out.put _
      · exact (((HZ3.out.far (by simp) _).far (by simp) _).far (by simp) _).far (by simp) _
      · exact (((HN3.out.setCell (by simp) _).setCell (by simp) _).setCell (by simp) _).setCell (by simp) _
    · obtain rfl : i = n := by omega
      obtain ⟨p, hp⟩ : ∃ p, LV4.it i q = p := ⟨_, rfl⟩
      rw [hp] at hb
      have k0 := cell_of_row _ _ 0 _ _ _ hb
      have k1 := cell_of_row _ _ 1 _ _ _ hb
      have k2 := cell_of_row _ _ 2 _ _ _ hb
      have k3 := cell_of_row _ _ 3 _ _ _ hb
      have m0 := cell_of_row _ _ 0 _ _ _ hz
      have m1 := cell_of_row _ _ 1 _ _ _ hz
      have m2 := cell_of_row _ _ 2 _ _ _ hz
      have m3 := cell_of_row _ _ 3 _ _ _ hz
      have mf : ∀ i, wq.frozen? ⟨w.heap.size + 1, i, none⟩ = false := fun i => frozen_of_row _ _ i _ _ hz
      have HN := Lib.hid hnew
      have HP := Lib.hid hp
      clear hb hz hnew hp
      go_wp2
      refine bodyPost_ret (by simp [results, Try.results46, go_sem, m0, m1, m2, m3]; try rfl) rfl ?_
      rw [HP.out]
      exact ⟨rfl, (((HN.out.setCell (by simp) _).setCell (by simp) _).setCell (by simp) _).setCell (by simp) _⟩
set_option maxRecDepth 100000 in
set_option maxHeartbeats 1000000 in
theorem steps2_r (L : Lin V2) (k : Int) (hL : MvV2 75 k L.st) (q : V2) (n : Nat) (hn : n ≤ 1000000) (w : World) :
    Calls Try.prog 47 #[.int .i64 k, .agg #[.int .u64 (W64 q.a), .int .u64 (W64 q.b)], .int .i64 (n : Int)] w fun e w' => e = .returned (.agg #[.int .u64 (W64 (L.it n q).a), .int .u64 (W64 (L.it n q).b)]) ∧ New w w' := by
  have hb := s2_new w q
  have hz := s2_z (w.alloc (.cells #[.int .u64 (W64 q.a), .int .u64 (W64 q.b)] 53)) _ rfl
  rw [show (w.alloc (.cells #[.int .u64 (W64 q.a), .int .u64 (W64 q.b)] 53)).heap.size = w.heap.size + 1 by simp] at hz
  have hb2 := hb.stay ((New.refl _).alloc (.cells #[.int .u64 0, .int .u64 0] 53))
  have hn2 : New w ((w.alloc (.cells #[.int .u64 (W64 q.a), .int .u64 (W64 q.b)] 53)).alloc (.cells #[.int .u64 0, .int .u64 0] 53)) := ((New.refl _).alloc _).alloc _
  obtain ⟨W2, hW2⟩ : ∃ z, (w.alloc (.cells #[.int .u64 (W64 q.a), .int .u64 (W64 q.b)] 53)).alloc (.cells #[.int .u64 0, .int .u64 0] 53) = z := ⟨_, rfl⟩
  rw [hW2] at hz hb2 hn2
  have HB := Lib.hid hb2
  have HZ := Lib.hid hz
  have HN := Lib.hid hn2
  have HW2 := Lib.hid hW2
  have HST := Lib.hid (fun j w => hL (L.it j q) w)
  have HNX : Hid (∀ j, L.it (j + 1) q = L.st (L.it j q)) := Lib.hid (fun j => L.it_st j q)
  clear hb hz hb2 hn2 hW2 hL
  go_enter Try.func47, Try.ntmps47
  go_wp2_with fail
  rw [HW2.out]
  clear HW2
  go_loopw [7] (fun iv wr => ∃ i : Nat, i ≤ n ∧ iv = .int .i64 (i : Int) ∧ S2 wr w.heap.size (L.it i q) ∧ S2 wr (w.heap.size + 1) ⟨0#64, 0#64⟩ ∧ New w wr) (fun iv _ => n - (intOf iv).toNat)
  case atStart => exact ⟨0, Nat.zero_le _, rfl, HB.out, HZ.out, HN.out⟩
  case round =>
    clear HB HZ HN
    obtain ⟨i, hi, rfl, hb, hz, hnew⟩ := hrel
    obtain ⟨wq, hwq⟩ : ∃ z, z = wr := ⟨_, rfl⟩
    rw [← hwq] at hb hz hnew ⊢
    clear hwq
    by_cases hlt : (i : Int) < (n : Int)
    · have HST2 := Lib.hid (HST.out i)
      have HNX2 := Lib.hid (HNX.out i)
      obtain ⟨p, hp⟩ : ∃ p, L.it i q = p := ⟨_, rfl⟩
      rw [hp] at HST2 HNX2 hb
      have k0 := cell_of_row _ _ 0 _ _ _ hb
      have k1 := cell_of_row _ _ 1 _ _ _ hb
      have HB := Lib.hid hb
      have HZ := Lib.hid hz
      have HN := Lib.hid hnew
      clear hb hz hnew hp
      go_wp2_with fail
      refine (HST2.out _).mono ?_
      rintro e w2 ⟨rfl, hn3⟩
      have hS3 := HB.out.stay hn3
      have HZ3 := Lib.hid (HZ.out.stay hn3)
      have HN3 := Lib.hid (HN.out.trans hn3)
      have g0 := cell_of_row _ _ 0 _ _ _ hS3
      have g1 := cell_of_row _ _ 1 _ _ _ hS3
      have gf : ∀ i, w2.frozen? ⟨w.heap.size, i, none⟩ = false := fun i => frozen_of_row _ _ i _ _ hS3
      have HS3 := Lib.hid hS3
      clear HST2 hn3 hS3 HB HZ HN k0 k1
      go_wp2
      refine ⟨⟨i + 1, by omega, by go_num, ?_, ?_, ?_⟩, by simp [intOf] <;> omega⟩
      · rw [HNX2.out]; exact HS3.out.put _
      · exact (HZ3.out.far (by simp) _).far (by simp) _
      · exact (HN3.out.setCell (by simp) _).setCell (by simp) _
    · obtain rfl : i = n := by omega
      obtain ⟨p, hp⟩ : ∃ p, L.it i q = p := ⟨_, rfl⟩
      rw [hp] at hb
      have k0 := cell_of_row _ _ 0 _ _ _ hb
      have k1 := cell_of_row _ _ 1 _ _ _ hb
      have m0 := cell_of_row _ _ 0 _ _ _ hz
      have m1 := cell_of_row _ _ 1 _ _ _ hz
      have mf : ∀ i, wq.frozen? ⟨w.heap.size + 1, i, none⟩ = false := fun i => frozen_of_row _ _ i _ _ hz
      have HN := Lib.hid hnew
      have HP := Lib.hid hp
      clear hb hz hnew hp
      go_wp2
      refine bodyPost_ret (by simp [results, Try.results47, go_sem, m0, m1]; try rfl) rfl ?_
      rw [HP.out]
      exact ⟨rfl, (HN.out.setCell (by simp) _).setCell (by simp) _⟩
end Go.Proofs.Ytppmpledcaonkaa
namespace Go.Proofs.Ytppmpledcaonkaa
open Go Go.RowKit Go.Bv Go.G2
set_option linter.unusedVariables false
set_option maxRecDepth 100000 in
set_option maxHeartbeats 4000000 in
theorem by4_r (a : Option Addr) (n c : Nat) (bs : List Bool) (q : V4) (w : World) (h : LRow w a n c bs) (hn : n ≤ 1000000) :
    Calls Try.prog 40 #[.slice a n c, .agg #[.int .u64 (W64 q.a), .int .u64 (W64 q.b), .int .u64 (W64 q.c), .int .u64 (W64 q.d)]] w fun e w' => e = .returned (.agg #[.int .u64 (W64 (LV4.act (vB bs) q).a), .int .u64 (W64 (LV4.act (vB bs) q).b), .int .u64 (W64 (LV4.act (vB bs) q).c), .int .u64 (W64 (LV4.act (vB bs) q).d)]) ∧ New w w' := by
  obtain ⟨W3, hW3, b1, b2, b3, hn3⟩ := by4_boxes w q
  have HW3 := Lib.hid hW3
  have HA := Lib.hid h
  have HST := Lib.hid (fun j w => stepr4_q (LV4.it j q) w)
  have HNX : Hid (∀ j, LV4.it (j + 1) q = stV4 (LV4.it j q)) := Lib.hid (fun j => LV4.it_st j q)
  have HBIT : Hid (∀ i, (vB bs).testBit i = bs.getD i false) := Lib.hid (fun i => bit_bool bs i)
  have HAC : Hid (∀ i, LV4.act (vB bs % 2 ^ (i + 1)) q = if (vB bs).testBit i then xV4 (LV4.act (vB bs % 2 ^ i) q) (LV4.it i q) else LV4.act (vB bs % 2 ^ i) q) := Lib.hid (fun i => act_next LV4 (vB bs) i q)
  have HAN : Hid (LV4.act (vB bs % 2 ^ 0) q = LV4.z) := Lib.hid (act_none LV4 _ _)
  have HAL : Hid (LV4.act (vB bs % 2 ^ n) q = LV4.act (vB bs) q) := Lib.hid (by rw [Nat.mod_eq_of_lt (by have := vB_lt bs; rw [h.len_eq] at this; exact this)])
  obtain ⟨f, hf⟩ : ∃ f : Nat → V4, (fun i => LV4.act (vB bs % 2 ^ i) q) = f := ⟨_, rfl⟩
  have hfe : ∀ i, LV4.act (vB bs % 2 ^ i) q = f i := fun i => congrFun hf i
  replace HAC : Hid (∀ i, f (i + 1) = if bs.getD i false then xV4 (f i) (LV4.it i q) else f i) := Lib.hid (fun i => by rw [← hfe, ← hfe, ← HBIT.out]; exact HAC.out i)
  rw [hfe] at HAN HAL
  obtain ⟨r, hr⟩ : ∃ r, LV4.act (vB bs) q = r := ⟨_, rfl⟩
  rw [hr] at HAL ⊢
  have HB0 : Hid (S4 W3 (w.heap.size + 1 + 1) (f 0)) := Lib.hid (by rw [HAN.out]; exact b3)
  have HB1 := Lib.hid b1
  have HB2 := Lib.hid b2
  have HN := Lib.hid hn3
  clear h hf hfe hr HAN HBIT hW3 b1 b2 b3 hn3
  go_enter Try.func40, Try.ntmps40
  go_wp2_with fail
  rw [HW3.out]
  clear HW3
  go_loopw [10] (fun iv wr => ∃ i : Nat, i ≤ n ∧ iv = .int .i64 (i : Int) ∧ S4 wr (w.heap.size + 1 + 1) (f i) ∧ S4 wr w.heap.size (LV4.it i q) ∧ S4 wr (w.heap.size + 1) LV4.z ∧ New w wr) (fun iv _ => n - (intOf iv).toNat)
  case atStart => exact ⟨0, Nat.zero_le _, rfl, HB0.out, HB1.out, HB2.out, HN.out⟩
  case round =>
    clear HB0 HB1 HB2 HN
    obtain ⟨i, hi, rfl, ho, hb, hz, hnew⟩ := hrel
    obtain ⟨wq, hwq⟩ : ∃ z, z = wr := ⟨_, rfl⟩
    rw [← hwq] at ho hb hz hnew ⊢
    clear hwq
    by_cases hlt : i < n
    · have hi1 : (i : Int) < (n : Int) := by omega
      have hi2 : (0 : Int) ≤ (i : Int) := by omega
      obtain ⟨ba, oa, rfl, hc⟩ := (HA.out.stay hnew).addr (by omega)
      have c1 := hc i (by omega)
      have HST2 := Lib.hid (HST.out i)
      have HNX2 := Lib.hid (HNX.out i)
      have HAX := Lib.hid (HAC.out i)
      obtain ⟨p, hp⟩ : ∃ p, LV4.it i q = p := ⟨_, rfl⟩
      rw [hp] at HST2 HNX2 HAX hb
      obtain ⟨o, hoo⟩ : ∃ o, f i = o := ⟨_, rfl⟩
      rw [hoo] at HAX ho
      obtain ⟨t, ht⟩ : ∃ t, bs.getD i false = t := ⟨_, rfl⟩
      rw [ht] at c1 HAX
      have HO := Lib.hid ho
      have HB := Lib.hid hb
      have HZ := Lib.hid hz
      have HN := Lib.hid hnew
      clear hc hp hoo ht ho hb hz hnew
      cases t
      · replace HAX : Hid (f (i + 1) = o) := Lib.hid (by rw [HAX.out]; rfl)
        have k0 := cell_of_row _ _ 0 _ _ _ HB.out
        have k1 := cell_of_row _ _ 1 _ _ _ HB.out
        have k2 := cell_of_row _ _ 2 _ _ _ HB.out
        have k3 := cell_of_row _ _ 3 _ _ _ HB.out
        go_wp2_with fail
        refine (HST2.out _).mono ?_
        rintro e w2 ⟨rfl, hn3⟩
        have hS3 := HB.out.stay hn3
        have HO3 := Lib.hid (HO.out.stay hn3)
        have HZ3 := Lib.hid (HZ.out.stay hn3)
        have HN3 := Lib.hid (HN.out.trans hn3)
        have g0 := cell_of_row _ _ 0 _ _ _ hS3
        have g1 := cell_of_row _ _ 1 _ _ _ hS3
        have g2 := cell_of_row _ _ 2 _ _ _ hS3
        have g3 := cell_of_row _ _ 3 _ _ _ hS3
        have gf : ∀ i, w2.frozen? ⟨w.heap.size, i, none⟩ = false := fun i => frozen_of_row _ _ i _ _ hS3
        have HS3 := Lib.hid hS3
        clear HST2 hn3 hS3 HB HZ HN HO k0 k1 k2 k3
        go_wp2
        refine ⟨⟨i + 1, by omega, by go_num, ?_, ?_, ?_, ?_⟩, by simp [intOf] <;> omega⟩
        · rw [HAX.out]; exact (((HO3.out.far (by simp; try omega) _).far (by simp; try omega) _).far (by simp; try omega) _).far (by simp; try omega) _
        · rw [HNX2.out]; exact HS3.out.put _
        · exact (((HZ3.out.far (by simp; try omega) _).far (by simp; try omega) _).far (by simp; try omega) _).far (by simp; try omega) _
        · exact (((HN3.out.setCell (by simp; try omega) _).setCell (by simp; try omega) _).setCell (by simp; try omega) _).setCell (by simp; try omega) _

      · replace HAX : Hid (f (i + 1) = xV4 o p) := Lib.hid (by rw [HAX.out]; rfl)
        go_wp2_with fail
        go_loopw [7] (fun jv wr => ((jv = .int .i64 0 ∧ S4 wr (w.heap.size + 1 + 1) ⟨o.a, o.b, o.c, o.d⟩) ∨ (jv = .int .i64 1 ∧ S4 wr (w.heap.size + 1 + 1) ⟨o.a ^^^ p.a, o.b, o.c, o.d⟩) ∨ (jv = .int .i64 2 ∧ S4 wr (w.heap.size + 1 + 1) ⟨o.a ^^^ p.a, o.b ^^^ p.b, o.c, o.d⟩) ∨ (jv = .int .i64 3 ∧ S4 wr (w.heap.size + 1 + 1) ⟨o.a ^^^ p.a, o.b ^^^ p.b, o.c ^^^ p.c, o.d⟩) ∨ (jv = .int .i64 4 ∧ S4 wr (w.heap.size + 1 + 1) ⟨o.a ^^^ p.a, o.b ^^^ p.b, o.c ^^^ p.c, o.d ^^^ p.d⟩)) ∧ S4 wr w.heap.size p ∧ S4 wr (w.heap.size + 1) LV4.z ∧ New w wr) (fun jv _ => 4 - (intOf jv).toNat)
        case atStart => exact ⟨Or.inl ⟨rfl, HO.out⟩, HB.out, HZ.out, HN.out⟩
        case round =>
        clear HO HB HZ HN c1
        obtain ⟨hcs, hb2, hz2, hn2⟩ := hrel
        obtain ⟨wi, hwi⟩ : ∃ z, z = wr := ⟨_, rfl⟩
        rw [← hwi] at hcs hb2 hz2 hn2 ⊢
        clear hwi
        have HB2 := Lib.hid hb2
        have HZ2 := Lib.hid hz2
        have HN2 := Lib.hid hn2
        clear hb2 hz2 hn2
        rcases hcs with ⟨rfl, hs⟩ | ⟨rfl, hs⟩ | ⟨rfl, hs⟩ | ⟨rfl, hs⟩ | ⟨rfl, hs⟩
        · have HO := Lib.hid hs
          have d0 := cell_of_row _ _ 0 _ _ _ hs
          have df := frozen_of_row _ _ 0 _ _ hs
          have t0 := cell_of_row _ _ 0 _ _ _ HB2.out
          have HP : Hid (S4 ((wi.setCell ⟨w.heap.size + 1 + 1, 0, none⟩ (.int .u64 (W64 (o.a ^^^ p.a)))).drew) (w.heap.size + 1 + 1) ⟨o.a ^^^ p.a, o.b, o.c, o.d⟩) := Lib.hid (S4.stay (heap_setCell_same wi (w.heap.size + 1 + 1) 0 _ _ (.int .u64 (W64 (o.a ^^^ p.a))) HO.out) (New.refl _).drew)
          have HPB : Hid (S4 ((wi.setCell ⟨w.heap.size + 1 + 1, 0, none⟩ (.int .u64 (W64 (o.a ^^^ p.a)))).drew) w.heap.size p) := Lib.hid ((HB2.out.far (by simp; try omega) _).stay (New.refl _).drew)
          have HPZ : Hid (S4 ((wi.setCell ⟨w.heap.size + 1 + 1, 0, none⟩ (.int .u64 (W64 (o.a ^^^ p.a)))).drew) (w.heap.size + 1) LV4.z) := Lib.hid ((HZ2.out.far (by simp; try omega) _).stay (New.refl _).drew)
          have HPN : Hid (New w ((wi.setCell ⟨w.heap.size + 1 + 1, 0, none⟩ (.int .u64 (W64 (o.a ^^^ p.a)))).drew)) := Lib.hid (New.drew (HN2.out.setCell (by simp; try omega) _))
          clear hs HO HB2 HZ2 HN2
          go_wp2_with fail
          go_region
          go_wp2
          exact ⟨⟨Or.inr (Or.inl ⟨rfl, HP.out⟩), HPB.out, HPZ.out, HPN.out⟩, by simp [intOf]⟩
        · have HO := Lib.hid hs
          have d1 := cell_of_row _ _ 1 _ _ _ hs
          have df := frozen_of_row _ _ 1 _ _ hs
          have t1 := cell_of_row _ _ 1 _ _ _ HB2.out
          have HP : Hid (S4 ((wi.setCell ⟨w.heap.size + 1 + 1, 1, none⟩ (.int .u64 (W64 (o.b ^^^ p.b)))).drew) (w.heap.size + 1 + 1) ⟨o.a ^^^ p.a, o.b ^^^ p.b, o.c, o.d⟩) := Lib.hid (S4.stay (heap_setCell_same wi (w.heap.size + 1 + 1) 1 _ _ (.int .u64 (W64 (o.b ^^^ p.b))) HO.out) (New.refl _).drew)
          have HPB : Hid (S4 ((wi.setCell ⟨w.heap.size + 1 + 1, 1, none⟩ (.int .u64 (W64 (o.b ^^^ p.b)))).drew) w.heap.size p) := Lib.hid ((HB2.out.far (by simp; try omega) _).stay (New.refl _).drew)
          have HPZ : Hid (S4 ((wi.setCell ⟨w.heap.size + 1 + 1, 1, none⟩ (.int .u64 (W64 (o.b ^^^ p.b)))).drew) (w.heap.size + 1) LV4.z) := Lib.hid ((HZ2.out.far (by simp; try omega) _).stay (New.refl _).drew)
          have HPN : Hid (New w ((wi.setCell ⟨w.heap.size + 1 + 1, 1, none⟩ (.int .u64 (W64 (o.b ^^^ p.b)))).drew)) := Lib.hid (New.drew (HN2.out.setCell (by simp; try omega) _))
          clear hs HO HB2 HZ2 HN2
          go_wp2_with fail
          go_region
          go_wp2
          exact ⟨⟨Or.inr (Or.inr (Or.inl ⟨rfl, HP.out⟩)), HPB.out, HPZ.out, HPN.out⟩, by simp [intOf]⟩
        · have HO := Lib.hid hs
          have d2 := cell_of_row _ _ 2 _ _ _ hs
          have df := frozen_of_row _ _ 2 _ _ hs
          have t2 := cell_of_row _ _ 2 _ _ _ HB2.out
          have HP : Hid (S4 ((wi.setCell ⟨w.heap.size + 1 + 1, 2, none⟩ (.int .u64 (W64 (o.c ^^^ p.c)))).drew) (w.heap.size + 1 + 1) ⟨o.a ^^^ p.a, o.b ^^^ p.b, o.c ^^^ p.c, o.d⟩) := Lib.hid (S4.stay (heap_setCell_same wi (w.heap.size + 1 + 1) 2 _ _ (.int .u64 (W64 (o.c ^^^ p.c))) HO.out) (New.refl _).drew)
          have HPB : Hid (S4 ((wi.setCell ⟨w.heap.size + 1 + 1, 2, none⟩ (.int .u64 (W64 (o.c ^^^ p.c)))).drew) w.heap.size p) := Lib.hid ((HB2.out.far (by simp; try omega) _).stay (New.refl _).drew)
          have HPZ : Hid (S4 ((wi.setCell ⟨w.heap.size + 1 + 1, 2, none⟩ (.int .u64 (W64 (o.c ^^^ p.c)))).drew) (w.heap.size + 1) LV4.z) := Lib.hid ((HZ2.out.far (by simp; try omega) _).stay (New.refl _).drew)
          have HPN : Hid (New w ((wi.setCell ⟨w.heap.size + 1 + 1, 2, none⟩ (.int .u64 (W64 (o.c ^^^ p.c)))).drew)) := Lib.hid (New.drew (HN2.out.setCell (by simp; try omega) _))
          clear hs HO HB2 HZ2 HN2
          go_wp2_with fail
          go_region
          go_wp2
          exact ⟨⟨Or.inr (Or.inr (Or.inr (Or.inl ⟨rfl, HP.out⟩))), HPB.out, HPZ.out, HPN.out⟩, by simp [intOf]⟩
        · have HO := Lib.hid hs
          have d3 := cell_of_row _ _ 3 _ _ _ hs
          have df := frozen_of_row _ _ 3 _ _ hs
          have t3 := cell_of_row _ _ 3 _ _ _ HB2.out
          have HP : Hid (S4 ((wi.setCell ⟨w.heap.size + 1 + 1, 3, none⟩ (.int .u64 (W64 (o.d ^^^ p.d)))).drew) (w.heap.size + 1 + 1) ⟨o.a ^^^ p.a, o.b ^^^ p.b, o.c ^^^ p.c, o.d ^^^ p.d⟩) := Lib.hid (S4.stay (heap_setCell_same wi (w.heap.size + 1 + 1) 3 _ _ (.int .u64 (W64 (o.d ^^^ p.d))) HO.out) (New.refl _).drew)
          have HPB : Hid (S4 ((wi.setCell ⟨w.heap.size + 1 + 1, 3, none⟩ (.int .u64 (W64 (o.d ^^^ p.d)))).drew) w.heap.size p) := Lib.hid ((HB2.out.far (by simp; try omega) _).stay (New.refl _).drew)
          have HPZ : Hid (S4 ((wi.setCell ⟨w.heap.size + 1 + 1, 3, none⟩ (.int .u64 (W64 (o.d ^^^ p.d)))).drew) (w.heap.size + 1) LV4.z) := Lib.hid ((HZ2.out.far (by simp; try omega) _).stay (New.refl _).drew)
          have HPN : Hid (New w ((wi.setCell ⟨w.heap.size + 1 + 1, 3, none⟩ (.int .u64 (W64 (o.d ^^^ p.d)))).drew)) := Lib.hid (New.drew (HN2.out.setCell (by simp; try omega) _))
          clear hs HO HB2 HZ2 HN2
          go_wp2_with fail
          go_region
          go_wp2
          exact ⟨⟨Or.inr (Or.inr (Or.inr (Or.inr (⟨rfl, HP.out⟩)))), HPB.out, HPZ.out, HPN.out⟩, by simp [intOf]⟩
        · have HO := Lib.hid (show S4 wi (w.heap.size + 1 + 1) (xV4 o p) from hs)
          have HB := Lib.hid HB2.out
          have HZ := Lib.hid HZ2.out
          have HN := Lib.hid HN2.out
          clear hs HB2 HZ2 HN2
          have k0 := cell_of_row _ _ 0 _ _ _ HB.out
          have k1 := cell_of_row _ _ 1 _ _ _ HB.out
          have k2 := cell_of_row _ _ 2 _ _ _ HB.out
          have k3 := cell_of_row _ _ 3 _ _ _ HB.out
          go_wp2_with fail
          refine (HST2.out _).mono ?_
          rintro e w2 ⟨rfl, hn3⟩
          have hS3 := HB.out.stay hn3
          have HO3 := Lib.hid (HO.out.stay hn3)
          have HZ3 := Lib.hid (HZ.out.stay hn3)
          have HN3 := Lib.hid (HN.out.trans hn3)
          have g0 := cell_of_row _ _ 0 _ _ _ hS3
          have g1 := cell_of_row _ _ 1 _ _ _ hS3
          have g2 := cell_of_row _ _ 2 _ _ _ hS3
          have g3 := cell_of_row _ _ 3 _ _ _ hS3
          have gf : ∀ i, w2.frozen? ⟨w.heap.size, i, none⟩ = false := fun i => frozen_of_row _ _ i _ _ hS3
          have HS3 := Lib.hid hS3
          clear HST2 hn3 hS3 HB HZ HN HO k0 k1 k2 k3
          go_wp2
          refine ⟨⟨i + 1, by omega, by go_num, ?_, ?_, ?_, ?_⟩, by simp [intOf] <;> omega⟩
          · rw [HAX.out]; exact (((HO3.out.far (by simp; try omega) _).far (by simp; try omega) _).far (by simp; try omega) _).far (by simp; try omega) _
          · rw [HNX2.out]; exact HS3.out.put _
          · exact (((HZ3.out.far (by simp; try omega) _).far (by simp; try omega) _).far (by simp; try omega) _).far (by simp; try omega) _
          · exact (((HN3.out.setCell (by simp; try omega) _).setCell (by simp; try omega) _).setCell (by simp; try omega) _).setCell (by simp; try omega) _

    · obtain rfl : i = n := by omega
      rw [HAL.out] at ho
      have k0 := cell_of_row _ _ 0 _ _ _ ho
      have k1 := cell_of_row _ _ 1 _ _ _ ho
      have k2 := cell_of_row _ _ 2 _ _ _ ho
      have k3 := cell_of_row _ _ 3 _ _ _ ho
      have m0 := cell_of_row _ _ 0 _ _ _ hz
      have m1 := cell_of_row _ _ 1 _ _ _ hz
      have m2 := cell_of_row _ _ 2 _ _ _ hz
      have m3 := cell_of_row _ _ 3 _ _ _ hz
      have mf : ∀ i, wq.frozen? ⟨w.heap.size + 1, i, none⟩ = false := fun i => frozen_of_row _ _ i _ _ hz
      have HN := Lib.hid hnew
      clear ho hb hz hnew
      go_wp2
      refine bodyPost_ret (by simp [results, Try.results40, go_sem, m0, m1, m2, m3]; try rfl) rfl ?_
      exact ⟨rfl, (((HN.out.setCell (by simp) _).setCell (by simp) _).setCell (by simp) _).setCell (by simp) _⟩
end Go.Proofs.Ytppmpledcaonkaa
namespace Go.Proofs.Ytppmpledcaonkaa
open Go Go.RowKit Go.Bv Go.G2
set_option linter.unusedVariables false
theorem by2r_boxes (w : World) (q : V2) : ∃ W3, ((w.alloc (.cells #[.int .u64 (W64 q.a), .int .u64 (W64 q.b)] 53)).alloc (.cells #[.int .u64 0, .int .u64 0] 53)).alloc (.cells #[.int .u64 0, .int .u64 0] 53) = W3 ∧ S2 W3 w.heap.size q ∧ S2 W3 (w.heap.size + 1) ⟨0#64, 0#64⟩ ∧ S2 W3 (w.heap.size + 1 + 1) ⟨0#64, 0#64⟩ ∧ New w W3 := by
  refine ⟨_, rfl, ?_, ?_, ?_, ?_⟩
  · exact ((s2_new w q).stay ((New.refl _).alloc _)).stay ((New.refl _).alloc _)
  · have h := (s2_z (w.alloc (.cells #[.int .u64 (W64 q.a), .int .u64 (W64 q.b)] 53)) _ rfl).stay ((New.refl _).alloc (.cells #[.int .u64 0, .int .u64 0] 53))
    simpa using h
  · have h := s2_z ((w.alloc (.cells #[.int .u64 (W64 q.a), .int .u64 (W64 q.b)] 53)).alloc (.cells #[.int .u64 0, .int .u64 0] 53)) _ rfl
    simpa using h
  · exact (((New.refl w).alloc _).alloc _).alloc _
set_option maxRecDepth 100000 in
set_option maxHeartbeats 4000000 in
theorem by2_r (L : Lin V2) (hLx : ∀ p q, L.x p q = xV2 p q) (hLz : L.z = ⟨0#64, 0#64⟩) (k : Int) (hL : MvV2 75 k L.st) (a : Option Addr) (n c : Nat) (bs : List Bool) (q : V2) (w : World) (h : LRow w a n c bs) (hn : n ≤ 1000000) :
    Calls Try.prog 44 #[.int .i64 k, .slice a n c, .agg #[.int .u64 (W64 q.a), .int .u64 (W64 q.b)]] w fun e w' => e = .returned (.agg #[.int .u64 (W64 (L.act (vB bs) q).a), .int .u64 (W64 (L.act (vB bs) q).b)]) ∧ New w w' := by
  obtain ⟨W3, hW3, b1, b2, b3, hn3⟩ := by2r_boxes w q
  have HW3 := Lib.hid hW3
  have HA := Lib.hid h
  have HST := Lib.hid (fun j w => hL (L.it j q) w)
  have HNX : Hid (∀ j, L.it (j + 1) q = L.st (L.it j q)) := Lib.hid (fun j => L.it_st j q)
  have HBIT : Hid (∀ i, (vB bs).testBit i = bs.getD i false) := Lib.hid (fun i => bit_bool bs i)
  have HAC : Hid (∀ i, L.act (vB bs % 2 ^ (i + 1)) q = if (vB bs).testBit i then xV2 (L.act (vB bs % 2 ^ i) q) (L.it i q) else L.act (vB bs % 2 ^ i) q) := Lib.hid (fun i => by rw [← hLx]; exact act_next L (vB bs) i q)
  have HAN : Hid (L.act (vB bs % 2 ^ 0) q = L.z) := Lib.hid (act_none L _ _)
  rw [hLz] at HAN
  have HAL : Hid (L.act (vB bs % 2 ^ n) q = L.act (vB bs) q) := Lib.hid (by rw [Nat.mod_eq_of_lt (by have := vB_lt bs; rw [h.len_eq] at this; exact this)])
  obtain ⟨f, hf⟩ : ∃ f : Nat → V2, (fun i => L.act (vB bs % 2 ^ i) q) = f := ⟨_, rfl⟩
  have hfe : ∀ i, L.act (vB bs % 2 ^ i) q = f i := fun i => congrFun hf i
  replace HAC : Hid (∀ i, f (i + 1) = if bs.getD i false then xV2 (f i) (L.it i q) else f i) := Lib.hid (fun i => by rw [← hfe, ← hfe, ← HBIT.out]; exact HAC.out i)
  rw [hfe] at HAN HAL
  obtain ⟨r, hr⟩ : ∃ r, L.act (vB bs) q = r := ⟨_, rfl⟩
  rw [hr] at HAL ⊢
  have HB0 : Hid (S2 W3 (w.heap.size + 1 + 1) (f 0)) := Lib.hid (by rw [HAN.out]; exact b3)
  have HB1 := Lib.hid b1
  have HB2 := Lib.hid b2
  have HN := Lib.hid hn3
  clear h hf hfe hr HAN HBIT hW3 b1 b2 b3 hn3 hL hLx hLz
  go_enter Try.func44, Try.ntmps44
  go_wp2_with fail
  rw [HW3.out]
  clear HW3
  go_loopw [11] (fun iv wr => ∃ i : Nat, i ≤ n ∧ iv = .int .i64 (i : Int) ∧ S2 wr (w.heap.size + 1 + 1) (f i) ∧ S2 wr w.heap.size (L.it i q) ∧ S2 wr (w.heap.size + 1) ⟨0#64, 0#64⟩ ∧ New w wr) (fun iv _ => n - (intOf iv).toNat)
  case atStart => exact ⟨0, Nat.zero_le _, rfl, HB0.out, HB1.out, HB2.out, HN.out⟩
  case round =>
    clear HB0 HB1 HB2 HN
    obtain ⟨i, hi, rfl, ho, hb, hz, hnew⟩ := hrel
    obtain ⟨wq, hwq⟩ : ∃ z, z = wr := ⟨_, rfl⟩
    rw [← hwq] at ho hb hz hnew ⊢
    clear hwq
    by_cases hlt : i < n
    · have hi1 : (i : Int) < (n : Int) := by omega
      have hi2 : (0 : Int) ≤ (i : Int) := by omega
      obtain ⟨ba, oa, rfl, hc⟩ := (HA.out.stay hnew).addr (by omega)
      have c1 := hc i (by omega)
      have HST2 := Lib.hid (HST.out i)
      have HNX2 := Lib.hid (HNX.out i)
      have HAX := Lib.hid (HAC.out i)
      obtain ⟨p, hp⟩ : ∃ p, L.it i q = p := ⟨_, rfl⟩
      rw [hp] at HST2 HNX2 HAX hb
      obtain ⟨o, hoo⟩ : ∃ o, f i = o := ⟨_, rfl⟩
      rw [hoo] at HAX ho
      obtain ⟨t, ht⟩ : ∃ t, bs.getD i false = t := ⟨_, rfl⟩
      rw [ht] at c1 HAX
      have HO := Lib.hid ho
      have HB := Lib.hid hb
      have HZ := Lib.hid hz
      have HN := Lib.hid hnew
      clear hc hp hoo ht ho hb hz hnew
      have k0 := cell_of_row _ _ 0 _ _ _ HB.out
      have k1 := cell_of_row _ _ 1 _ _ _ HB.out
      cases t
      · replace HAX : Hid (f (i + 1) = o) := Lib.hid (by rw [HAX.out]; rfl)
        go_wp2_with fail
        refine (HST2.out _).mono ?_
        rintro e w2 ⟨rfl, hn3⟩
        have hS3 := HB.out.stay hn3
        have HO3 := Lib.hid (HO.out.stay hn3)
        have HZ3 := Lib.hid (HZ.out.stay hn3)
        have HN3 := Lib.hid (HN.out.trans hn3)
        have g0 := cell_of_row _ _ 0 _ _ _ hS3
        have g1 := cell_of_row _ _ 1 _ _ _ hS3
        have gf : ∀ i, w2.frozen? ⟨w.heap.size, i, none⟩ = false := fun i => frozen_of_row _ _ i _ _ hS3
        have HS3 := Lib.hid hS3
        clear HST2 hn3 hS3 HB HZ HN HO k0 k1
        go_wp2
        refine ⟨⟨i + 1, by omega, by go_num, ?_, ?_, ?_, ?_⟩, by simp [intOf] <;> omega⟩
        · rw [HAX.out]; exact (HO3.out.far (by simp; try omega) _).far (by simp; try omega) _
        · rw [HNX2.out]; exact HS3.out.put _
        · exact (HZ3.out.far (by simp; try omega) _).far (by simp; try omega) _
        · exact (HN3.out.setCell (by simp; try omega) _).setCell (by simp; try omega) _
      · replace HAX : Hid (f (i + 1) = xV2 o p) := Lib.hid (by rw [HAX.out]; rfl)
        have d0 := cell_of_row _ _ 0 _ _ _ HO.out
        have d1 := cell_of_row _ _ 1 _ _ _ HO.out
        have df : ∀ i, wq.frozen? ⟨w.heap.size + 1 + 1, i, none⟩ = false := fun i => frozen_of_row _ _ i _ _ HO.out
        have HPO : Hid (S2 ((wq.setCell ⟨w.heap.size + 1 + 1, 0, none⟩ (.int .u64 (W64 (o.a ^^^ p.a)))).setCell ⟨w.heap.size + 1 + 1, 1, none⟩ (.int .u64 (W64 (o.b ^^^ p.b)))) (w.heap.size + 1 + 1) (xV2 o p)) := Lib.hid (HO.out.put (xV2 o p))
        have HPB : Hid (S2 ((wq.setCell ⟨w.heap.size + 1 + 1, 0, none⟩ (.int .u64 (W64 (o.a ^^^ p.a)))).setCell ⟨w.heap.size + 1 + 1, 1, none⟩ (.int .u64 (W64 (o.b ^^^ p.b)))) w.heap.size p) := Lib.hid ((HB.out.far (by simp; try omega) _).far (by simp; try omega) _)
        have HPZ : Hid (S2 ((wq.setCell ⟨w.heap.size + 1 + 1, 0, none⟩ (.int .u64 (W64 (o.a ^^^ p.a)))).setCell ⟨w.heap.size + 1 + 1, 1, none⟩ (.int .u64 (W64 (o.b ^^^ p.b)))) (w.heap.size + 1) ⟨0#64, 0#64⟩) := Lib.hid ((HZ.out.far (by simp; try omega) _).far (by simp; try omega) _)
        have HPN : Hid (New w ((wq.setCell ⟨w.heap.size + 1 + 1, 0, none⟩ (.int .u64 (W64 (o.a ^^^ p.a)))).setCell ⟨w.heap.size + 1 + 1, 1, none⟩ (.int .u64 (W64 (o.b ^^^ p.b))))) := Lib.hid ((HN.out.setCell (by simp; try omega) _).setCell (by simp; try omega) _)
        have e1 : (wq.setCell ⟨w.heap.size + 1 + 1, 0, none⟩ (.int .u64 (W64 (o.a ^^^ p.a)))).cell? ⟨w.heap.size + 1 + 1, 1, none⟩ = some (.int .u64 (W64 o.b)) := cell_of_row _ _ 1 _ _ _ (heap_setCell_same _ _ _ _ _ _ HO.out)
        have e2 : (wq.setCell ⟨w.heap.size + 1 + 1, 0, none⟩ (.int .u64 (W64 (o.a ^^^ p.a)))).cell? ⟨w.heap.size, 1, none⟩ = some (.int .u64 (W64 p.b)) := cell_of_row _ _ 1 _ _ _ (HB.out.far (p := ⟨w.heap.size + 1 + 1, 0, none⟩) (by simp; try omega) _)
        have e3 : ((wq.setCell ⟨w.heap.size + 1 + 1, 0, none⟩ (.int .u64 (W64 (o.a ^^^ p.a)))).setCell ⟨w.heap.size + 1 + 1, 1, none⟩ (.int .u64 (W64 (o.b ^^^ p.b)))).cell? ⟨w.heap.size, 0, none⟩ = some (.int .u64 (W64 p.a)) := cell_of_row _ _ 0 _ _ _ HPB.out
        have e4 : ((wq.setCell ⟨w.heap.size + 1 + 1, 0, none⟩ (.int .u64 (W64 (o.a ^^^ p.a)))).setCell ⟨w.heap.size + 1 + 1, 1, none⟩ (.int .u64 (W64 (o.b ^^^ p.b)))).cell? ⟨w.heap.size, 1, none⟩ = some (.int .u64 (W64 p.b)) := cell_of_row _ _ 1 _ _ _ HPB.out
        obtain ⟨W4, hW4⟩ : ∃ z, (wq.setCell ⟨w.heap.size + 1 + 1, 0, none⟩ (.int .u64 (W64 (o.a ^^^ p.a)))).setCell ⟨w.heap.size + 1 + 1, 1, none⟩ (.int .u64 (W64 (o.b ^^^ p.b))) = z := ⟨_, rfl⟩
        rw [hW4] at HPO HPB HPZ HPN
        have HW4 := Lib.hid hW4
        clear hW4 HO HB HZ HN
        go_wp2_with fail
        rw [HW4.out]
        clear HW4 e1 e2 e3 e4 d0 d1 df k0 k1 c1
        refine (HST2.out _).mono ?_
        rintro e w2 ⟨rfl, hn3⟩
        have hS3 := HPB.out.stay hn3
        have HO3 := Lib.hid (HPO.out.stay hn3)
        have HZ3 := Lib.hid (HPZ.out.stay hn3)
        have HN3 := Lib.hid (HPN.out.trans hn3)
        have g0 := cell_of_row _ _ 0 _ _ _ hS3
        have g1 := cell_of_row _ _ 1 _ _ _ hS3
        have gf : ∀ i, w2.frozen? ⟨w.heap.size, i, none⟩ = false := fun i => frozen_of_row _ _ i _ _ hS3
        have HS3 := Lib.hid hS3
        clear HST2 hn3 hS3 HPB HPZ HPN HPO
        go_wp2
        refine ⟨⟨i + 1, by omega, by go_num, ?_, ?_, ?_, ?_⟩, by simp [intOf] <;> omega⟩
        · rw [HAX.out]; exact (HO3.out.far (by simp; try omega) _).far (by simp; try omega) _
        · rw [HNX2.out]; exact HS3.out.put _
        · exact (HZ3.out.far (by simp; try omega) _).far (by simp; try omega) _
        · exact (HN3.out.setCell (by simp; try omega) _).setCell (by simp; try omega) _
    · obtain rfl : i = n := by omega
      rw [HAL.out] at ho
      have k0 := cell_of_row _ _ 0 _ _ _ ho
      have k1 := cell_of_row _ _ 1 _ _ _ ho
      have m0 := cell_of_row _ _ 0 _ _ _ hz
      have m1 := cell_of_row _ _ 1 _ _ _ hz
      have mf : ∀ i, wq.frozen? ⟨w.heap.size + 1, i, none⟩ = false := fun i => frozen_of_row _ _ i _ _ hz
      have HN := Lib.hid hnew
      clear ho hb hz hnew
      go_wp2
      refine bodyPost_ret (by simp [results, Try.results44, go_sem, m0, m1]; try rfl) rfl ?_
      exact ⟨rfl, (HN.out.setCell (by simp) _).setCell (by simp) _⟩
/-- two to the power of n, where that has 256 bits -/
def pwN (n : Int) : Nat := if 0 ≤ n ∧ n < 256 then 2 ^ n.toNat else 0
set_option maxRecDepth 100000 in
theorem shl_w (n : Int) (hn : n ≤ 9223372036854775807) (h0 : 0 ≤ n) (w : World) :
    Calls Try.prog 54 #[.agg #[.int .u64 1, .int .u64 0, .int .u64 0, .int .u64 0], .int .i64 n] w fun e w' => e = .returned (.agg #[.int .u64 (W64 (BitVec.ofNat 64 (pwN n))), .int .u64 (W64 (BitVec.ofNat 64 (pwN n / 2 ^ 64))), .int .u64 (W64 (BitVec.ofNat 64 (pwN n / 2 ^ 128))), .int .u64 (W64 (BitVec.ofNat 64 (pwN n / 2 ^ 192)))]) ∧ New w w' := by
  have h := wshl4 1#64 0#64 0#64 0#64 n n.toNat (min n.toNat 256) (by omega) hn rfl w
  have hE : four 1#64 0#64 0#64 0#64 = 1 := rfl
  rw [hE, Nat.one_mul] at h
  by_cases h2 : n < 256
  · rw [show min n.toNat 256 = n.toNat by omega] at h
    have hp : pwN n = 2 ^ n.toNat := by unfold pwN; rw [if_pos ⟨h0, h2⟩]
    rw [hp]; exact h
  · rw [show min n.toNat 256 = 256 by omega] at h
    have hp : pwN n = 0 := by unfold pwN; rw [if_neg (by omega)]
    rw [hp]; exact h
set_option maxRecDepth 100000 in
set_option maxHeartbeats 1000000 in
theorem power_q (n : Int) (hn : n ≤ 9223372036854775807) (w : World) :
    Calls Try.prog 50 #[.int .i64 n] w fun e w' => e = .returned (.agg #[.int .u64 (W64 (BitVec.ofNat 64 (pwN n))), .int .u64 (W64 (BitVec.ofNat 64 (pwN n / 2 ^ 64))), .int .u64 (W64 (BitVec.ofNat 64 (pwN n / 2 ^ 128))), .int .u64 (W64 (BitVec.ofNat 64 (pwN n / 2 ^ 192)))]) ∧ New w w' := by
  have hb := heap_alloc_new w (.cells #[.int .u64 0, .int .u64 0, .int .u64 0, .int .u64 0] 45)
  by_cases h0 : n < 0
  · have hp : pwN n = 0 := by unfold pwN; rw [if_neg (by omega)]
    rw [hp]
    clear hb
    go_enter Try.func50, Try.ntmps50
    go_wp2
    go_returns
    exact ⟨rfl, (New.refl w).alloc _⟩
  · have HS := Lib.hid (fun w => shl_w n hn (by omega) w)
    have HO := Lib.hid (fun w => wof4 1#64 w)
    obtain ⟨x0, hx0⟩ : ∃ x, BitVec.ofNat 64 (pwN n) = x := ⟨_, rfl⟩
    obtain ⟨x1, hx1⟩ : ∃ x, BitVec.ofNat 64 (pwN n / 2 ^ 64) = x := ⟨_, rfl⟩
    obtain ⟨x2, hx2⟩ : ∃ x, BitVec.ofNat 64 (pwN n / 2 ^ 128) = x := ⟨_, rfl⟩
    obtain ⟨x3, hx3⟩ : ∃ x, BitVec.ofNat 64 (pwN n / 2 ^ 192) = x := ⟨_, rfl⟩
    rw [hx0, hx1, hx2, hx3] at HS
    rw [hx0, hx1, hx2, hx3]
    rw [show W64 1#64 = 1 from rfl] at HO
    have HB := Lib.hid hb
    clear hx0 hx1 hx2 hx3 hb
    have hn1 : New w (w.alloc (.cells #[.int .u64 0, .int .u64 0, .int .u64 0, .int .u64 0] 45)) := (New.refl w).alloc _
    have HN1 := Lib.hid hn1
    clear hn1
    go_enter Try.func50, Try.ntmps50
    go_wp2_with fail
    refine (HO.out _).mono ?_
    rintro e w1 ⟨rfl, hn1⟩
    have HN2 := Lib.hid hn1
    clear hn1
    go_wp2_with fail
    refine (HS.out _).mono ?_
    rintro e w2 ⟨rfl, hn2⟩
    have hz := ((HN2.out.trans hn2).block _ (lt_of_block HB.out)).trans HB.out
    have m0 := cell_of_row _ _ 0 _ _ _ hz
    have m1 := cell_of_row _ _ 1 _ _ _ hz
    have m2 := cell_of_row _ _ 2 _ _ _ hz
    have m3 := cell_of_row _ _ 3 _ _ _ hz
    have mf : ∀ i, w2.frozen? ⟨w.heap.size, i, none⟩ = false := fun i => frozen_of_row _ _ i _ _ hz
    have HN := Lib.hid (HN1.out.trans (HN2.out.trans hn2))
    clear hz hn2
    go_wp2
    refine bodyPost_ret (by simp [results, Try.results50, go_sem, m0, m1, m2, m3]; try rfl) rfl ?_
    exact ⟨rfl, (((HN.out.setCell (by simp) _).setCell (by simp) _).setCell (by simp) _).setCell (by simp) _⟩
end Go.Proofs.Ytppmpledcaonkaa
