/- Contracts of mers.Pow and Inv, and of the document's own Inverse: for all numbers. -/
import Derived.Test.YtiboncnfepnjcaaMerA
import Derived.Test.YtiboncnfepnjcaaBut
import Derived.Test.YtiboncnfepnjcaaShelf
import Derived.Deep.RegionLaw
import Derived.Deep.RegionWith
namespace Go.Bv
open Go Go.RowKit
set_option linter.unusedVariables false
theorem lt_bitLenAux : ∀ (f x : Nat), x < 2 ^ f → x < 2 ^ Lib.bitLenAux f x := by
  intro f
  induction f with
  | zero => intro x h; simpa [Lib.bitLenAux] using h
  | succ f ih =>
    intro x h
    rw [Lib.bitLenAux]
    split
    · rename_i h0; rw [h0]; exact Nat.two_pow_pos _
    · have := ih (x / 2) (by rw [Nat.pow_succ] at h; omega)
      rw [Nat.pow_add]; omega
theorem lt_bitLen (x : Nat) (h : x < 2 ^ 64) : x < 2 ^ Lib.bitLen x := lt_bitLenAux 64 x h
/-- a number of a field, in a box -/
def RS (w : World) (b : Nat) (t : TypeId) (k : Int) (n : BitVec 64) : Prop := w.heap[b]? = some (.cells #[.int .i64 k, .int .u64 (W64 n)] t (0, 0))
theorem RS.stay {w w' : World} {b : Nat} {t : TypeId} {k : Int} {n : BitVec 64} (h : RS w b t k n) (hn : New w w') : RS w' b t k n := (hn.block _ (lt_of_block h)).trans h
theorem RS.c0 {w : World} {b : Nat} {t : TypeId} {k : Int} {n : BitVec 64} (h : RS w b t k n) : w.cell? ⟨b, 0, none⟩ = some (.int .i64 k) := by rw [cell_of_row _ _ _ _ _ _ h]; rfl
theorem RS.c1 {w : World} {b : Nat} {t : TypeId} {k : Int} {n : BitVec 64} (h : RS w b t k n) : w.cell? ⟨b, 1, none⟩ = some (.int .u64 (W64 n)) := by rw [cell_of_row _ _ _ _ _ _ h]; rfl
theorem RS.free {w : World} {b : Nat} {t : TypeId} {k : Int} {n : BitVec 64} (h : RS w b t k n) (i : Nat) : w.frozen? ⟨b, i, none⟩ = false := frozen_of_row _ _ _ _ _ h
theorem RS.put {w : World} {b : Nat} {t : TypeId} {k : Int} {n : BitVec 64} (m : BitVec 64) (h : RS w b t k n) : RS (w.setCell ⟨b, 1, none⟩ (.int .u64 (W64 m))) b t k m :=
  heap_setCell_same w b 1 _ t (.int .u64 (W64 m)) h
end Go.Bv
namespace Go.Proofs.Ytiboncnfepnjcaa
open Go.RowKit Go.Bv
set_option linter.unusedVariables false
set_option maxHeartbeats 1000000 in
theorem square_any (k : Int) (n : BitVec 64) (b : Nat) (w : World) (h : RS w b 98 k n) :
    Calls Try.prog 93 #[.pointer (some ⟨b, 0, none⟩)] w fun e w' => e = .returned (.tuple #[]) ∧ RS w' b 98 k (md (n.toNat * n.toNat) (pM k)) ∧ But b w w' := by
  have HE := Lib.hid (h.stay (New.refl _).drew)
  clear h
  have HM := Lib.hid (fun w => mermul_any k n n w)
  generalize md (n.toNat * n.toNat) (pM k) = r at *
  have e0 := HE.out.c0
  have e1 := HE.out.c1
  go_enter Try.func93, Try.ntmps93
  go_region_law (first
    | (go_simp
       go_at_call 60
       refine (HM.out _).mono ?_
       rintro e w1 ⟨rfl, hn1⟩
       have hz := HE.out.stay hn1
       have k0 := hz.c0
       have k1 := hz.c1
       have kf := hz.free
       have HN1 := Lib.hid ((New.refl w).drew.trans hn1)
       have HZ := Lib.hid hz
       clear hn1 hz))
  all_goals (
    go_wp2
    go_end0
    exact ⟨rfl, RS.put _ HZ.out, (But.of_new HN1.out).setCell (p := ⟨b, 1, none⟩) rfl _⟩)
set_option maxHeartbeats 1000000 in
theorem times_any (k : Int) (n a : BitVec 64) (b : Nat) (w : World) (h : RS w b 98 k n) :
    Calls Try.prog 94 #[.pointer (some ⟨b, 0, none⟩), .int .u64 (W64 a)] w fun e w' => e = .returned (.tuple #[]) ∧ RS w' b 98 k (md (n.toNat * a.toNat) (pM k)) ∧ But b w w' := by
  have HE := Lib.hid (h.stay (New.refl _).drew)
  clear h
  have HM := Lib.hid (fun w => mermul_any k n a w)
  generalize md (n.toNat * a.toNat) (pM k) = r at *
  have e0 := HE.out.c0
  have e1 := HE.out.c1
  go_enter Try.func94, Try.ntmps94
  go_region_law (first
    | (go_simp
       go_at_call 60
       refine (HM.out _).mono ?_
       rintro e w1 ⟨rfl, hn1⟩
       have hz := HE.out.stay hn1
       have k0 := hz.c0
       have k1 := hz.c1
       have kf := hz.free
       have HN1 := Lib.hid ((New.refl w).drew.trans hn1)
       have HZ := Lib.hid hz
       clear hn1 hz))
  all_goals (
    go_wp2
    go_end0
    exact ⟨rfl, RS.put _ HZ.out, (But.of_new HN1.out).setCell (p := ⟨b, 1, none⟩) rfl _⟩)
set_option maxHeartbeats 2000000 in
theorem merpow_any (k : Int) (a b : BitVec 64) (w : World) :
    Calls Try.prog 90 #[.int .i64 k, .int .u64 (W64 a), .int .u64 (W64 b)] w fun e w' => e = .returned (.int .u64 (W64 (md (a.toNat ^ b.toNat) (pM k)))) ∧ New w w' := by
  have hmf : ∀ (fn : Fn) (first cap : Array Value) (w : World), (Instr.makeFunc fn first cap).run Try.prog w = .ok (.func fn first cap) w := fun _ _ _ _ => rfl
  have hf := fun w => fold_lo 1#64 k w
  rw [show W64 1#64 = 1 from W64_lit 1 (by omega)] at hf
  have HF := Lib.hid hf
  obtain ⟨p, hp⟩ : ∃ p, pM k = p := ⟨_, rfl⟩
  have HSQ := Lib.hid (fun n b w h => square_any k n b w h)
  have HTM := Lib.hid (fun n a b w h => times_any k n a b w h)
  rw [hp] at HF HSQ HTM ⊢
  have hL := fun w => Try.bits_Len64 (W64 b) w (b64 b).1 (by have := b64 b; omega)
  have hl1 : b.toNat < 2 ^ (Lib.bitLen b.toNat) := lt_bitLen b.toNat b.isLt
  have hl2 : Lib.bitLen b.toNat ≤ 64 := Lib.bitLen_le b.toNat 64 (Nat.le_refl _) b.isLt
  rw [toNat_W64, show N64 b = b.toNat from rfl] at hL
  generalize Lib.bitLen b.toNat = L at *
  have hst : md (1#64).toNat p = md (a.toNat ^ (b.toNat / 2 ^ L)) p := by rw [Nat.div_eq_of_lt hl1, Nat.pow_zero]; rfl
  rw [hst] at HF
  have HL := Lib.hid hL
  have HL2 := Lib.hid hl2
  have HEND : Hid (md (a.toNat ^ (b.toNat / 2 ^ 0)) p = md (a.toNat ^ b.toNat) p) := Lib.hid (by rw [Nat.pow_zero, Nat.div_one])
  have HOUT : Hid (∀ j, md (a.toNat ^ (b.toNat / 2 ^ j)) p = md (a.toNat ^ (b.toNat / 2 ^ (j + 1)) * a.toNat ^ (b.toNat / 2 ^ (j + 1)) * a.toNat ^ (b.toNat / 2 ^ j % 2)) p) := Lib.hid fun j => by rw [← pow_bit]
  have hw0 : wrap64 ((L : Int) - 1) = (L : Int) - 1 := by unfold wrap64; omega
  have HW0 := Lib.hid hw0
  clear hf hL hl1 hst hp hl2 hw0
  go_enter Try.func90, Try.ntmps90
  go_wp2_with fail
  refine (HF.out _).mono ?_
  rintro e w1 ⟨rfl, hn1⟩
  go_wp2_with fail
  refine (HL.out _).mono ?_
  rintro e w2 ⟨rfl, rfl⟩
  have hrs := heap_alloc_new w1 (.cells #[.int .i64 k, .int .u64 (W64 (md (a.toNat ^ (b.toNat / 2 ^ L)) p))] 98)
  have hn2 := hn1.alloc (.cells #[.int .i64 k, .int .u64 (W64 (md (a.toNat ^ (b.toNat / 2 ^ L)) p))] 98)
  have hg : w.heap.size ≤ w1.heap.size := hn1.le
  go_wp2_with fail
  generalize w1.alloc (.cells #[.int .i64 k, .int .u64 (W64 (md (a.toNat ^ (b.toNat / 2 ^ L)) p))] 98) = w2 at *
  generalize w1.heap.size = g at *
  have HRS := Lib.hid (show RS _ _ _ k _ from hrs)
  have HN2 := Lib.hid hn2
  clear hrs hn2 hn1
  go_loopw [9] (fun I wr => ∃ (o : BitVec 64) (j : Nat), j ≤ L ∧ I = .int .i64 ((j : Int) - 1) ∧ RS wr g 98 k o ∧ New w wr ∧ Hid (o = md (a.toNat ^ (b.toNat / 2 ^ j)) p)) (fun I _ => (intOf I + 1).toNat)
  case atStart => exact ⟨_, L, Nat.le_refl _, by rw [HW0.out], HRS.out, HN2.out, Lib.hid rfl⟩
  case round =>
    clear HRS HN2 HF HW0
    obtain ⟨o, j, hj, rfl, hrs, hnew, H⟩ := hrel
    have HRS := Lib.hid hrs
    have HN := Lib.hid hnew
    have hlim := HL2.out
    by_cases h0 : j = 0
    · subst h0
      have HE : Hid (o = md (a.toNat ^ b.toNat) p) := Lib.hid (by rw [H.out, HEND.out])
      have c0 := hrs.c0
      have c1 := hrs.c1
      clear H hrs hnew
      go_wp2
      go_ret
      rw [HE.out]
      exact ⟨rfl, HN.out⟩
    · obtain ⟨m, rfl⟩ : ∃ m, j = m + 1 := ⟨j - 1, by omega⟩
      have ei : ((m + 1 : Nat) : Int) - 1 = (m : Int) := by omega
      rw [ei]
      have hs : N64 (BitVec.ofNat 64 m) = m := lit_nat m (by omega)
      have hm0 : ¬ (m : Int) < 0 := by omega
      have hm1 : 0 ≤ (m : Int) := by omega
      have hw1 : wrap64 ((m : Int) - 1) = (m : Int) - 1 := by unfold wrap64; omega
      have hbit : (b >>> m &&& 1#64 == 1#64) = decide (b.toNat / 2 ^ m % 2 = 1) := by
        rw [and_test, BitVec.toNat_ushiftRight, Nat.shiftRight_eq_div_pow]
      clear hrs hnew
      by_cases ho : b.toNat / 2 ^ m % 2 = 1
      · rw [decide_eq_true ho] at hbit
        have HG : Hid (md ((md (o.toNat * o.toNat) p).toNat * a.toNat) p = md (a.toNat ^ (b.toNat / 2 ^ m)) p) := Lib.hid (by
          rw [HOUT.out m, ho, Nat.pow_one, md_mul1, H.out, ← md_mul1, md_mul2, md_mul1])
        clear H ho
        go_wp2_with fail
        refine (HSQ.out o g _ HRS.out).mono ?_
        rintro e w3 ⟨rfl, h3, hb3⟩
        have H3 := Lib.hid h3
        have HB3 := Lib.hid hb3
        clear h3 hb3
        go_wp2_with fail
        refine (HTM.out _ a g _ H3.out).mono ?_
        rintro e w4 ⟨rfl, h4, hb4⟩
        have H4 := Lib.hid h4
        have HB4 := Lib.hid (HB3.out.trans hb4)
        clear h4 hb4
        go_wp2
        exact ⟨⟨_, m, by omega, rfl, H4.out, HB4.out.new w HN.out hg, HG⟩, by simp [intOf]⟩
      · rw [decide_eq_false ho] at hbit
        have HG : Hid (md (o.toNat * o.toNat) p = md (a.toNat ^ (b.toNat / 2 ^ m)) p) := Lib.hid (by
          rw [HOUT.out m, show b.toNat / 2 ^ m % 2 = 0 by omega, Nat.pow_zero, Nat.mul_one, H.out, md_mul2])
        clear H ho
        go_wp2_with fail
        refine (HSQ.out o g _ HRS.out).mono ?_
        rintro e w3 ⟨rfl, h3, hb3⟩
        have H3 := Lib.hid h3
        have HB3 := Lib.hid hb3
        clear h3 hb3
        go_wp2
        exact ⟨⟨_, m, by omega, rfl, H3.out, HB3.out.new w HN.out hg, HG⟩, by simp [intOf]⟩
theorem md_zero_test (a p : BitVec 64) : md a.toNat p = if p = 0#64 then 0#64 else a % p := by
  by_cases h : p = 0#64
  · rw [h, md_zero, if_pos rfl]
  · rw [if_neg h]; exact (md_eq h (by rw [BitVec.toNat_umod])).symm
set_option maxHeartbeats 1000000 in
theorem merinv_any (k : Int) (a : BitVec 64) (w : World) :
    Calls Try.prog 82 #[.int .i64 k, .int .u64 (W64 a)] w fun e w' => e = .returned (.tuple #[.int .u64 (W64 (if md a.toNat (pM k) = 0#64 then 0#64 else md (a.toNat ^ (pM k - 2#64).toNat) (pM k))), .bool (md a.toNat (pM k) != 0#64)]) ∧ New w w' := by
  have HF := Lib.hid (fun w => fold_lo a k w)
  have HP := Lib.hid (fun w => mp_any k w)
  have HW := Lib.hid (fun w => merpow_any k a (pM k - 2#64) w)
  generalize md (a.toNat ^ (pM k - 2#64).toNat) (pM k) = r at *
  generalize md a.toNat (pM k) = f at *
  generalize pM k = p at *
  rcases h0 : (f == 0#64)
  · have hne : ¬ f = 0#64 := ne_of_beq_false h0
    rw [if_neg hne, show (f != 0#64) = true by rw [bne, h0]; rfl]
    clear hne
    go_enter Try.func82, Try.ntmps82
    go_wp2_with fail
    refine (HF.out _).mono ?_
    rintro e w1 ⟨rfl, hn1⟩
    go_wp2_with fail
    refine (HP.out _).mono ?_
    rintro e w2 ⟨rfl, rfl⟩
    go_wp2_with fail
    refine (HW.out _).mono ?_
    rintro e w3 ⟨rfl, hn3⟩
    go_wp2
    go_ret2
    exact ⟨rfl, hn1.trans hn3⟩
  · have he : f = 0#64 := eq_of_beq h0
    rw [if_pos he, show (f != 0#64) = false by rw [bne, h0]; rfl, lo_zero]
    clear he
    go_enter Try.func82, Try.ntmps82
    go_wp2_with fail
    refine (HF.out _).mono ?_
    rintro e w1 ⟨rfl, hn1⟩
    go_wp2
    go_ret2
    exact ⟨rfl, hn1⟩
end Go.Proofs.Ytiboncnfepnjcaa
