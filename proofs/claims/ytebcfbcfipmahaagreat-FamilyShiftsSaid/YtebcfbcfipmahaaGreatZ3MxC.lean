import Derived.Test.YtebcfbcfipmahaaGreatZ3MxB
import Derived.Test.YtebcfbcfipmahaaGreatProg
import Derived.Test.YtebcfbcfipmahaaGreatZ3PolM
import Derived.Test.YtebcfbcfipmahaaGreatZ3WidS
import Derived.Test.YtebcfbcfipmahaaGreatZ3FamA
import Derived.Test.YtebcfbcfipmahaaGreatShelf
import Derived.Deep.RegionLaw
import Derived.Deep.RegionWith
import Derived.Test.YtebcfbcfipmahaaGreatZ3TabW
section
/- Unlike keys have unlike rows; the example of mixed (awake); the walk of the statement MixedRows: for all words, all keys. -/
namespace Go.Proofs.YtebcfbcfipmahaaGreat
open Go.RowKit Go.Bv
set_option linter.unusedVariables false
set_option maxRecDepth 100000
theorem rowM_at (l : List (BitVec 64)) (x : BitVec 64) (i : Nat) (hi : i < 8) : (rowM l x).getD i 0 = lat x i := by
  unfold rowM
  rw [List.getD_eq_getElem?_getD, List.getElem?_append_left (by rw [lets_len]; exact hi), ← List.getD_eq_getElem?_getD, lets_at _ _ _ hi]
theorem rowM_inj (l : List (BitVec 64)) (x y : BitVec 64) (hx : x.toNat < 4294967296) (hy : y.toNat < 4294967296) : (rowM l x == rowM l y) = (x == y) := by
  rw [Bool.eq_iff_iff, beq_iff_eq, beq_iff_eq]
  constructor
  · intro h
    have h2 : ∀ i, i < 8 → x >>> (4 * i) % 16#64 = y >>> (4 * i) % 16#64 := by
      intro i hi
      have := congrArg (fun r => r.getD i 0) h
      simp only [rowM_at _ _ _ hi] at this
      exact W64_inj.1 this
    apply BitVec.eq_of_getLsbD_eq
    intro p hp
    by_cases h3 : p < 32
    · have e := h2 (p / 4) (by omega)
      have e2 := congrArg (fun z => z.getLsbD (p % 4)) e
      rw [getLsb_mod16 _ _ _ (by omega) (by omega), getLsb_mod16 _ _ _ (by omega) (by omega), show 4 * (p / 4) + p % 4 = p by omega] at e2
      exact e2
    · have hb : ∀ z : BitVec 64, z.toNat < 4294967296 → z.getLsbD p = false := by
        intro z hz
        rw [← BitVec.testBit_toNat]
        apply Nat.testBit_lt_two_pow
        exact Nat.lt_of_lt_of_le hz (Nat.le_trans (show 4294967296 ≤ 2 ^ 32 by decide) (Nat.pow_le_pow_right (by omega) (by omega)))
      rw [hb x hx, hb y hy]
  · intro h; rw [h]
end Go.Proofs.YtebcfbcfipmahaaGreat
end
section
/- Contracts of load.Rot32, load.Rot64, load.Swap64 and of the document's own Left, Rot32, Rot64 and Swap: for every word and every number. -/
namespace Go.Proofs.YtebcfbcfipmahaaGreat
open Go.RowKit Go.Bv
set_option linter.unusedVariables false
end Go.Proofs.YtebcfbcfipmahaaGreat
end
section
/- Contracts of load.Swap64 and of the document's own Swap: for every word. -/
namespace Go.Bv
/-- a byte of a word -/
def byt (x : BitVec 64) (j : Nat) : BitVec 8 := (x >>> (8 * j)).setWidth 8
/-- the bytes the other way round -/
def rev8 (x : BitVec 64) : BitVec 64 := num (fun i => byt x (7 - i)) 8
theorem mod256 (x : BitVec 64) (k : Nat) : x >>> (8 * k) % 256#64 = (byt x k).setWidth 64 := by
  apply BitVec.eq_of_toNat_eq
  unfold byt
  rw [BitVec.toNat_umod, BitVec.toNat_setWidth, BitVec.toNat_setWidth]
  simp only [BitVec.toNat_ofNat, Nat.reducePow, Nat.reduceMod]
  omega
theorem div256 (x : BitVec 64) (k : Nat) : x >>> (8 * k) / 256#64 = x >>> (8 * (k + 1)) := by
  rw [show 8 * (k + 1) = 8 * k + 8 by omega, BitVec.shiftRight_add]
  exact div_shr _ 8 (by omega)
end Go.Bv
namespace Go.Proofs.YtebcfbcfipmahaaGreat
open Go.RowKit Go.Bv
set_option linter.unusedVariables false
end Go.Proofs.YtebcfbcfipmahaaGreat
end
section
/- Contracts of load.Put32, load.Put64 and of the document's own Bytes and Both: what each call returns, for all bytes. -/
namespace Go.Proofs.YtebcfbcfipmahaaGreat
open Go.RowKit Go.Bv
set_option linter.unusedVariables false
/-- the first n bytes of a word, the lowest first -/
def bytes (x : BitVec 64) (n : Nat) : List (BitVec 8) := (List.range n).map (byt x)
theorem info_u8 : (Tryz.prog.info? 5).map (fun i => (i.zero, i.size, i.bytes)) = some (some (.int .u8 0), 1, 1) := by kernel_rfl
theorem new_cells (w : World) (cs : Array Value) (t : TypeId) : ∀ j u, cs.toList[j]? = some u → (w.alloc (.cells cs t)).cell? ((⟨w.heap.size, 0, none⟩ : Addr).add j) = some u := by
  intro j u h
  rw [add_plain, Nat.zero_add, World.cell?_alloc_new]
  simpa using h
theorem low_byte (x : BitVec 64) (k : Nat) : (x >>> (8 * k) % 256#64).setWidth 8 = byt x k := by
  rw [mod256]; apply BitVec.eq_of_getLsbD_eq; intro i hi; simp [hi]
theorem bytes_succ (x : BitVec 64) (k : Nat) : bytes x (k + 1) = bytes x k ++ [byt x k] := by
  unfold bytes; rw [List.range_succ, List.map_append]; rfl
set_option maxHeartbeats 1000000 in
theorem bytes_ref (x : Int) (hx : 0 ≤ x ∧ x < 18446744073709551616) (n : Nat) (hn : n ≤ 8) (W w : World) (hg : New W w) :
    Calls Tryz.prog 37 #[.int .u64 x, .int .i64 n] w fun e w' =>
      ∃ a' cap', e = .returned (.slice a' n cap') ∧ BRow w' a' n cap' (bytes (BitVec.ofInt 64 x) n) ∧ New w w' ∧ New W w' := by
  obtain ⟨x, rfl⟩ := ex64 x hx
  rw [ofInt_W64]
  obtain ⟨i0, hi, hz0, hz1, hz2⟩ := info_parts info_u8
  go_enter Tryz.func37, Tryz.ntmps37
  go_wp2
  go_loopw [0, 5, 6] (fun t v i wr => ∃ k : Nat, k ≤ n ∧ i = .int .i64 k ∧ t = .int .u64 (W64 (x >>> (8 * k))) ∧ wr.ownsRow w.heap.size 5 1 v k ((bytes x k).map fun y => .int .u8 (W8 y)) ∧ New w wr) (fun _ _ i _ => n - (intOf i).toNat)
  case atStart => exact ⟨0, by omega, rfl, by simp, World.ownsRow_nil w _ _ 1, New.refl w⟩
  case round =>
    obtain ⟨k, hk, rfl, rfl, hown, hnew⟩ := hrel
    by_cases hlt : (k : Int) < n
    · go_wp2_with (at_builtin; refine wpList_append_own _ rfl _ _ 40 rfl w.heap.size 5 i0 (.int .u8 0) 1 1 Tryz.underlying40 hi hz0 hz1 hz2 rfl (by decide) _ k _ rfl (hown.alloc _) ⟨wr.heap.size, 0, none⟩ 1 1 [.int .u8 (W8 ((x >>> (8 * k) % 256#64).setWidth 8))] rfl rfl ?c1 ?c2 ?c3 ?c4 ?c5 ?_)
      case c1 => exact new_cells wr _ _
      case c2 => intro u hu; simp at hu; subst hu; rfl
      case c3 => unfold maxLen; omega
      case c4 => omega
      case c5 => simp; have := hnew.le; omega
      intro v' w1 how hgr _
      have how2 : w1.ownsRow w.heap.size 5 1 v' (k + 1) ((bytes x (k + 1)).map fun y => .int .u8 (W8 y)) := by
        rw [bytes_succ, List.map_append, ← low_byte]; exact how
      have hn1 : New w w1 := (hnew.alloc _).grown' hgr (own_base hown)
      have hdv : x >>> (8 * k) / 256#64 = x >>> (8 * (k + 1)) := div256 x k
      have HD := Lib.hid hdv
      clear how hgr hdv
      go_wp2
      exact ⟨⟨k + 1, by omega, by go_num, by rw [HD.out], how2, hn1⟩, by simp [intOf]; omega⟩
    · obtain rfl : k = n := by omega
      obtain ⟨a', cap', rfl, hrow⟩ := BRow.of_owns hown (by omega)
      go_wp2
      go_ret
      exact ⟨a', cap', rfl, hrow, hnew, hg.trans hnew⟩
end Go.Proofs.YtebcfbcfipmahaaGreat
end
section
/- Contracts of mers.Pow and Inv, and of the document's own Inverse: for all numbers. -/
namespace Go.Bv
open Go Go.RowKit
set_option linter.unusedVariables false
theorem lt_bitLenAux : ∀ (f x : Nat), x < 2 ^ f → x < 2 ^ Lib.bitLenAux f x := by
  intro f
  induction f with
  | zero => intro x h; simpa [Lib.bitLenAux] using h
  | succ f ih =>
    intro x h
    rw [Lib.bitLenAux]
    split
    · rename_i h0; rw [h0]; exact Nat.two_pow_pos _
    · have := ih (x / 2) (by rw [Nat.pow_succ] at h; omega)
      rw [Nat.pow_add]; omega
theorem lt_bitLen (x : Nat) (h : x < 2 ^ 64) : x < 2 ^ Lib.bitLen x := lt_bitLenAux 64 x h
/-- a number of a field, in a box -/
def RS (w : World) (b : Nat) (t : TypeId) (k : Int) (n : BitVec 64) : Prop := w.heap[b]? = some (.cells #[.int .i64 k, .int .u64 (W64 n)] t (0, 0))
theorem RS.stay {w w' : World} {b : Nat} {t : TypeId} {k : Int} {n : BitVec 64} (h : RS w b t k n) (hn : New w w') : RS w' b t k n := (hn.block _ (lt_of_block h)).trans h
theorem RS.c0 {w : World} {b : Nat} {t : TypeId} {k : Int} {n : BitVec 64} (h : RS w b t k n) : w.cell? ⟨b, 0, none⟩ = some (.int .i64 k) := by rw [cell_of_row _ _ _ _ _ _ h]; rfl
theorem RS.c1 {w : World} {b : Nat} {t : TypeId} {k : Int} {n : BitVec 64} (h : RS w b t k n) : w.cell? ⟨b, 1, none⟩ = some (.int .u64 (W64 n)) := by rw [cell_of_row _ _ _ _ _ _ h]; rfl
theorem RS.free {w : World} {b : Nat} {t : TypeId} {k : Int} {n : BitVec 64} (h : RS w b t k n) (i : Nat) : w.frozen? ⟨b, i, none⟩ = false := frozen_of_row _ _ _ _ _ h
theorem RS.put {w : World} {b : Nat} {t : TypeId} {k : Int} {n : BitVec 64} (m : BitVec 64) (h : RS w b t k n) : RS (w.setCell ⟨b, 1, none⟩ (.int .u64 (W64 m))) b t k m :=
  heap_setCell_same w b 1 _ t (.int .u64 (W64 m)) h
end Go.Bv
namespace Go.Proofs.YtebcfbcfipmahaaGreat
open Go.RowKit Go.Bv
set_option linter.unusedVariables false
set_option maxHeartbeats 1000000 in
theorem square_any (k : Int) (n : BitVec 64) (b : Nat) (w : World) (h : RS w b 177 k n) :
    Calls Tryz.prog 174 #[.pointer (some ⟨b, 0, none⟩)] w fun e w' => e = .returned (.tuple #[]) ∧ RS w' b 177 k (md (n.toNat * n.toNat) (pM k)) ∧ But b w w' := by
  have HE := Lib.hid (h.stay (New.refl _).drew)
  clear h
  have HM := Lib.hid (fun w => mermul_any k n n w)
  generalize md (n.toNat * n.toNat) (pM k) = r at *
  have e0 := HE.out.c0
  have e1 := HE.out.c1
  go_enter Tryz.func174, Tryz.ntmps174
  go_region_law (first
    | (go_simp
       go_at_call 116
       refine (HM.out _).mono ?_
       rintro e w1 ⟨rfl, hn1⟩
       have hz := HE.out.stay hn1
       have k0 := hz.c0
       have k1 := hz.c1
       have kf := hz.free
       have HN1 := Lib.hid ((New.refl w).drew.trans hn1)
       have HZ := Lib.hid hz
       clear hn1 hz))
  all_goals (
    go_wp2
    go_end0
    exact ⟨rfl, RS.put _ HZ.out, (But.of_new HN1.out).setCell (p := ⟨b, 1, none⟩) rfl _⟩)
set_option maxHeartbeats 1000000 in
theorem times_any (k : Int) (n a : BitVec 64) (b : Nat) (w : World) (h : RS w b 177 k n) :
    Calls Tryz.prog 176 #[.pointer (some ⟨b, 0, none⟩), .int .u64 (W64 a)] w fun e w' => e = .returned (.tuple #[]) ∧ RS w' b 177 k (md (n.toNat * a.toNat) (pM k)) ∧ But b w w' := by
  have HE := Lib.hid (h.stay (New.refl _).drew)
  clear h
  have HM := Lib.hid (fun w => mermul_any k n a w)
  generalize md (n.toNat * a.toNat) (pM k) = r at *
  have e0 := HE.out.c0
  have e1 := HE.out.c1
  go_enter Tryz.func176, Tryz.ntmps176
  go_region_law (first
    | (go_simp
       go_at_call 116
       refine (HM.out _).mono ?_
       rintro e w1 ⟨rfl, hn1⟩
       have hz := HE.out.stay hn1
       have k0 := hz.c0
       have k1 := hz.c1
       have kf := hz.free
       have HN1 := Lib.hid ((New.refl w).drew.trans hn1)
       have HZ := Lib.hid hz
       clear hn1 hz))
  all_goals (
    go_wp2
    go_end0
    exact ⟨rfl, RS.put _ HZ.out, (But.of_new HN1.out).setCell (p := ⟨b, 1, none⟩) rfl _⟩)
set_option maxHeartbeats 2000000 in
theorem merpow_any (k : Int) (a b : BitVec 64) (w : World) :
    Calls Tryz.prog 173 #[.int .i64 k, .int .u64 (W64 a), .int .u64 (W64 b)] w fun e w' => e = .returned (.int .u64 (W64 (md (a.toNat ^ b.toNat) (pM k)))) ∧ New w w' := by
  have hmf : ∀ (fn : Fn) (first cap : Array Value) (w : World), (Instr.makeFunc fn first cap).run Tryz.prog w = .ok (.func fn first cap) w := fun _ _ _ _ => rfl
  have hf := fun w => fold_lo 1#64 k w
  rw [show W64 1#64 = 1 from W64_lit 1 (by omega)] at hf
  have HF := Lib.hid hf
  obtain ⟨p, hp⟩ : ∃ p, pM k = p := ⟨_, rfl⟩
  have HSQ := Lib.hid (fun n b w h => square_any k n b w h)
  have HTM := Lib.hid (fun n a b w h => times_any k n a b w h)
  rw [hp] at HF HSQ HTM ⊢
  have hL := fun w => Tryz.bits_Len64 (W64 b) w (b64 b).1 (by have := b64 b; omega)
  have hl1 : b.toNat < 2 ^ (Lib.bitLen b.toNat) := lt_bitLen b.toNat b.isLt
  have hl2 : Lib.bitLen b.toNat ≤ 64 := Lib.bitLen_le b.toNat 64 (Nat.le_refl _) b.isLt
  rw [toNat_W64, show N64 b = b.toNat from rfl] at hL
  generalize Lib.bitLen b.toNat = L at *
  have hst : md (1#64).toNat p = md (a.toNat ^ (b.toNat / 2 ^ L)) p := by rw [Nat.div_eq_of_lt hl1, Nat.pow_zero]; rfl
  rw [hst] at HF
  have HL := Lib.hid hL
  have HL2 := Lib.hid hl2
  have HEND : Hid (md (a.toNat ^ (b.toNat / 2 ^ 0)) p = md (a.toNat ^ b.toNat) p) := Lib.hid (by rw [Nat.pow_zero, Nat.div_one])
  have HOUT : Hid (∀ j, md (a.toNat ^ (b.toNat / 2 ^ j)) p = md (a.toNat ^ (b.toNat / 2 ^ (j + 1)) * a.toNat ^ (b.toNat / 2 ^ (j + 1)) * a.toNat ^ (b.toNat / 2 ^ j % 2)) p) := Lib.hid fun j => by rw [← pow_bit]
  have hw0 : wrap64 ((L : Int) - 1) = (L : Int) - 1 := by unfold wrap64; omega
  have HW0 := Lib.hid hw0
  clear hf hL hl1 hst hp hl2 hw0
  go_enter Tryz.func173, Tryz.ntmps173
  go_wp2_with fail
  refine (HF.out _).mono ?_
  rintro e w1 ⟨rfl, hn1⟩
  go_wp2_with fail
  refine (HL.out _).mono ?_
  rintro e w2 ⟨rfl, rfl⟩
  have hrs := heap_alloc_new w1 (.cells #[.int .i64 k, .int .u64 (W64 (md (a.toNat ^ (b.toNat / 2 ^ L)) p))] 177)
  have hn2 := hn1.alloc (.cells #[.int .i64 k, .int .u64 (W64 (md (a.toNat ^ (b.toNat / 2 ^ L)) p))] 177)
  have hg : w.heap.size ≤ w1.heap.size := hn1.le
  go_wp2_with fail
  generalize w1.alloc (.cells #[.int .i64 k, .int .u64 (W64 (md (a.toNat ^ (b.toNat / 2 ^ L)) p))] 177) = w2 at *
  generalize w1.heap.size = g at *
  have HRS := Lib.hid (show RS _ _ _ k _ from hrs)
  have HN2 := Lib.hid hn2
  clear hrs hn2 hn1
  go_loopw [9] (fun I wr => ∃ (o : BitVec 64) (j : Nat), j ≤ L ∧ I = .int .i64 ((j : Int) - 1) ∧ RS wr g 177 k o ∧ New w wr ∧ Hid (o = md (a.toNat ^ (b.toNat / 2 ^ j)) p)) (fun I _ => (intOf I + 1).toNat)
  case atStart => exact ⟨_, L, Nat.le_refl _, by rw [HW0.out], HRS.out, HN2.out, Lib.hid rfl⟩
  case round =>
    clear HRS HN2 HF HW0
    obtain ⟨o, j, hj, rfl, hrs, hnew, H⟩ := hrel
    have HRS := Lib.hid hrs
    have HN := Lib.hid hnew
    have hlim := HL2.out
    by_cases h0 : j = 0
    · subst h0
      have HE : Hid (o = md (a.toNat ^ b.toNat) p) := Lib.hid (by rw [H.out, HEND.out])
      have c0 := hrs.c0
      have c1 := hrs.c1
      clear H hrs hnew
      go_wp2
      go_ret
      rw [HE.out]
      exact ⟨rfl, HN.out⟩
    · obtain ⟨m, rfl⟩ : ∃ m, j = m + 1 := ⟨j - 1, by omega⟩
      have ei : ((m + 1 : Nat) : Int) - 1 = (m : Int) := by omega
      rw [ei]
      have hs : N64 (BitVec.ofNat 64 m) = m := lit_nat m (by omega)
      have hm0 : ¬ (m : Int) < 0 := by omega
      have hm1 : 0 ≤ (m : Int) := by omega
      have hw1 : wrap64 ((m : Int) - 1) = (m : Int) - 1 := by unfold wrap64; omega
      have hbit : (b >>> m &&& 1#64 == 1#64) = decide (b.toNat / 2 ^ m % 2 = 1) := by
        rw [and_test, BitVec.toNat_ushiftRight, Nat.shiftRight_eq_div_pow]
      clear hrs hnew
      by_cases ho : b.toNat / 2 ^ m % 2 = 1
      · rw [decide_eq_true ho] at hbit
        have HG : Hid (md ((md (o.toNat * o.toNat) p).toNat * a.toNat) p = md (a.toNat ^ (b.toNat / 2 ^ m)) p) := Lib.hid (by
          rw [HOUT.out m, ho, Nat.pow_one, md_mul1, H.out, ← md_mul1, md_mul2, md_mul1])
        clear H ho
        go_wp2_with fail
        refine (HSQ.out o g _ HRS.out).mono ?_
        rintro e w3 ⟨rfl, h3, hb3⟩
        have H3 := Lib.hid h3
        have HB3 := Lib.hid hb3
        clear h3 hb3
        go_wp2_with fail
        refine (HTM.out _ a g _ H3.out).mono ?_
        rintro e w4 ⟨rfl, h4, hb4⟩
        have H4 := Lib.hid h4
        have HB4 := Lib.hid (HB3.out.trans hb4)
        clear h4 hb4
        go_wp2
        exact ⟨⟨_, m, by omega, rfl, H4.out, HB4.out.new w HN.out hg, HG⟩, by simp [intOf]⟩
      · rw [decide_eq_false ho] at hbit
        have HG : Hid (md (o.toNat * o.toNat) p = md (a.toNat ^ (b.toNat / 2 ^ m)) p) := Lib.hid (by
          rw [HOUT.out m, show b.toNat / 2 ^ m % 2 = 0 by omega, Nat.pow_zero, Nat.mul_one, H.out, md_mul2])
        clear H ho
        go_wp2_with fail
        refine (HSQ.out o g _ HRS.out).mono ?_
        rintro e w3 ⟨rfl, h3, hb3⟩
        have H3 := Lib.hid h3
        have HB3 := Lib.hid hb3
        clear h3 hb3
        go_wp2
        exact ⟨⟨_, m, by omega, rfl, H3.out, HB3.out.new w HN.out hg, HG⟩, by simp [intOf]⟩
set_option maxHeartbeats 1000000 in
theorem merinv_any (k : Int) (a : BitVec 64) (w : World) :
    Calls Tryz.prog 167 #[.int .i64 k, .int .u64 (W64 a)] w fun e w' => e = .returned (.tuple #[.int .u64 (W64 (if md a.toNat (pM k) = 0#64 then 0#64 else md (a.toNat ^ (pM k - 2#64).toNat) (pM k))), .bool (md a.toNat (pM k) != 0#64)]) ∧ New w w' := by
  have HF := Lib.hid (fun w => fold_lo a k w)
  have HP := Lib.hid (fun w => mp_any k w)
  have HW := Lib.hid (fun w => merpow_any k a (pM k - 2#64) w)
  generalize md (a.toNat ^ (pM k - 2#64).toNat) (pM k) = r at *
  generalize md a.toNat (pM k) = f at *
  generalize pM k = p at *
  rcases h0 : (f == 0#64)
  · have hne : ¬ f = 0#64 := ne_of_beq_false h0
    rw [if_neg hne, show (f != 0#64) = true by rw [bne, h0]; rfl]
    clear hne
    go_enter Tryz.func167, Tryz.ntmps167
    go_wp2_with fail
    refine (HF.out _).mono ?_
    rintro e w1 ⟨rfl, hn1⟩
    go_wp2_with fail
    refine (HP.out _).mono ?_
    rintro e w2 ⟨rfl, rfl⟩
    go_wp2_with fail
    refine (HW.out _).mono ?_
    rintro e w3 ⟨rfl, hn3⟩
    go_wp2
    go_ret2
    exact ⟨rfl, hn1.trans hn3⟩
  · have he : f = 0#64 := eq_of_beq h0
    rw [if_pos he, show (f != 0#64) = false by rw [bne, h0]; rfl, lo_zero]
    clear he
    go_enter Tryz.func167, Tryz.ntmps167
    go_wp2_with fail
    refine (HF.out _).mono ?_
    rintro e w1 ⟨rfl, hn1⟩
    go_wp2
    go_ret2
    exact ⟨rfl, hn1⟩
end Go.Proofs.YtebcfbcfipmahaaGreat
end
section
/- Layer 22: what is wrong with keys and targets: the program's and the document's. -/
namespace Go.Tab
open Go.Bv
/-- a key or a target at i that may not be -/
def bad2 (bits : Nat) (xl yl : List (BitVec 64)) (i : Nat) : Bool := !(xl.getD i 0 >>> 32 == 0#64) || !(yl.getD i 0 >>> bits == 0#64)
/-- the key at i is one of those before it -/
def same2 (xl : List (BitVec 64)) (i : Nat) : Bool := (List.range i).any fun k => xl.getD k 0 == xl.getD i 0
/-- the error's number of keys and targets -/
def tgE (bits : Nat) (xl yl : List (BitVec 64)) : Int :=
  if xl.length < 1 ∨ 3 < xl.length ∨ yl.length ≠ xl.length then 1 else if (List.range xl.length).any (bad2 bits xl yl) then 2 else if (List.range xl.length).any (same2 xl) then 15 else 0
theorem tg_len {bits : Nat} {xl yl : List (BitVec 64)} (h : xl.length < 1 ∨ 3 < xl.length ∨ yl.length ≠ xl.length) : tgE bits xl yl = 1 := by unfold tgE; rw [if_pos h]
theorem tg_bad {bits : Nat} {xl yl : List (BitVec 64)} (h : ¬ (xl.length < 1 ∨ 3 < xl.length ∨ yl.length ≠ xl.length)) {i : Nat} (hi : i < xl.length) (hb : bad2 bits xl yl i = true) : tgE bits xl yl = 2 := by
  unfold tgE
  rw [if_neg h, if_pos (List.any_eq_true.2 ⟨i, List.mem_range.2 hi, hb⟩)]
theorem none_bad {n : Nat} {P : Nat → Bool} (h : ∀ j, j < n → P j = false) : (List.range n).any P = false := by
  rw [List.any_eq_false]
  intro x hx
  rw [h x (List.mem_range.1 hx)]
  decide
theorem tg_same {bits : Nat} {xl yl : List (BitVec 64)} (h : ¬ (xl.length < 1 ∨ 3 < xl.length ∨ yl.length ≠ xl.length)) (h2 : ∀ j, j < xl.length → bad2 bits xl yl j = false) {i k : Nat} (hi : i < xl.length) (hk : k < i) (hb : xl.getD k 0 = xl.getD i 0) : tgE bits xl yl = 15 := by
  unfold tgE
  rw [if_neg h, none_bad h2, if_neg (by decide), if_pos (List.any_eq_true.2 ⟨i, List.mem_range.2 hi, ?_⟩)]
  unfold same2
  exact List.any_eq_true.2 ⟨k, List.mem_range.2 hk, by rw [hb]; exact beq_self_eq_true _⟩
theorem same2_no {xl : List (BitVec 64)} {i : Nat} (h : ∀ k, k < i → xl.getD k 0 ≠ xl.getD i 0) : same2 xl i = false := none_bad fun k hk => by rw [beq_eq_false_iff_ne]; exact h k hk
theorem tg_ok {bits : Nat} {xl yl : List (BitVec 64)} (h : ¬ (xl.length < 1 ∨ 3 < xl.length ∨ yl.length ≠ xl.length)) (h2 : ∀ j, j < xl.length → bad2 bits xl yl j = false) (h3 : ∀ j, j < xl.length → same2 xl j = false) : tgE bits xl yl = 0 := by
  unfold tgE
  rw [if_neg h, none_bad h2, if_neg (by decide), none_bad h3, if_neg (by decide)]
theorem tg_zero {bits : Nat} {xl yl : List (BitVec 64)} (h : tgE bits xl yl = 0) : 0 < xl.length ∧ xl.length ≤ 3 ∧ yl.length = xl.length ∧ (∀ i, i < xl.length → xl.getD i 0 >>> 32 = 0#64 ∧ yl.getD i 0 >>> bits = 0#64) ∧ ∀ i j, i < xl.length → j < xl.length → i ≠ j → xl.getD i 0 ≠ xl.getD j 0 := by
  unfold tgE at h
  by_cases e1 : xl.length < 1 ∨ 3 < xl.length ∨ yl.length ≠ xl.length
  · rw [if_pos e1] at h; cases h
  · rw [if_neg e1] at h
    cases e2 : (List.range xl.length).any (bad2 bits xl yl) with
    | true => rw [e2, if_pos rfl] at h; cases h
    | false =>
      rw [e2, if_neg (by decide)] at h
      cases e3 : (List.range xl.length).any (same2 xl) with
      | true => rw [e3, if_pos rfl] at h; cases h
      | false =>
        have hs : ∀ i k, i < xl.length → k < i → xl.getD k 0 ≠ xl.getD i 0 := by
          intro i k hi hk he
          have := List.any_eq_false.1 e3 i (List.mem_range.2 hi)
          apply this
          unfold same2
          exact List.any_eq_true.2 ⟨k, List.mem_range.2 hk, by rw [he]; exact beq_self_eq_true _⟩
        refine ⟨by omega, by omega, by omega, fun i hi => ?_, fun i j hi hj hij => ?_⟩
        · have := List.any_eq_false.1 e2 i (List.mem_range.2 hi)
          unfold bad2 at this
          simp only [Bool.or_eq_true, Bool.not_eq_true', beq_eq_false_iff_ne, not_or, ne_eq, Decidable.not_not] at this
          exact this
        · by_cases e : i < j
          · exact hs j i hj e
          · exact fun he => hs i j hi (by omega) he.symm
theorem shr_natT (x : BitVec 64) (m : Nat) : (x >>> m == 0#64) = decide (x.toNat < 2 ^ m) := by
  rw [Bool.eq_iff_iff, beq_iff_eq, decide_eq_true_iff]
  constructor
  · intro h
    have := congrArg BitVec.toNat h
    rw [BitVec.toNat_ushiftRight, Nat.shiftRight_eq_div_pow] at this
    have h0 : (0#64).toNat = 0 := rfl
    rw [h0] at this
    exact (Nat.div_eq_zero_iff_lt (Nat.two_pow_pos m)).1 this
  · intro h
    apply BitVec.eq_of_toNat_eq
    rw [BitVec.toNat_ushiftRight, Nat.shiftRight_eq_div_pow, Nat.div_eq_of_lt h]
    rfl
theorem low_same (y : BitVec 64) (m : Nat) (hm : m ≤ 64) : (lowN y m != y) = !(y >>> m == 0#64) := by
  rw [shr_natT]
  by_cases h : y.toNat < 2 ^ m
  · have : lowN y m = y := BitVec.eq_of_toNat_eq (by rw [lowN_nat _ _ hm, Nat.mod_eq_of_lt h])
    rw [this, decide_eq_true h]
    simp
  · have : lowN y m ≠ y := fun e => h (by
      have := congrArg BitVec.toNat e
      rw [lowN_nat _ _ hm] at this
      have h2 := Nat.mod_lt y.toNat (Nat.two_pow_pos m)
      omega)
    rw [decide_eq_false h, Bool.not_false, bne_iff_ne]
    exact this
end Go.Tab
namespace Go.Proofs.YtebcfbcfipmahaaGreat
open Go Go.RowKit Go.Bv Go.Tab
set_option linter.unusedVariables false
set_option maxRecDepth 100000
theorem fits_any (x : BitVec 64) (n : Int) (m : Nat) (hn : n = (m : Int)) (w : World) : Calls Tryz.prog 91 #[.int .u64 (W64 x), .int .i64 n] w fun e w' => e = .returned (.bool (x >>> m == 0#64)) ∧ w' = w := by
  subst hn
  have h0 : (0 : Int) ≤ (m : Int) := by omega
  go_enter Tryz.func91, Tryz.ntmps91
  go_wp2
  go_ret
  exact ⟨rfl, rfl⟩
/-- what is wrong with the arguments of Shift -/
def csE (bits : Int) (n : Nat) (N : Int) (xl yl : List (BitVec 64)) : Int := if chk bits n N ≠ 0 then chk bits n N else tgE bits.toNat xl yl
set_option maxHeartbeats 8000000 in
theorem check_shift (a : Option Addr) (na ca : Nat) (l : List (BitVec 64)) (bits : Int) (x : Option Addr) (nx cx : Nat) (xl : List (BitVec 64)) (y : Option Addr) (ny cy : Nat) (yl : List (BitVec 64)) (w : World) (ha : QRow w a na ca l) (hx : QRow w x nx cx xl) (hy : QRow w y ny cy yl) :
    Calls Tryz.prog 95 #[.slice a na ca, .int .i64 bits, .slice x nx cx, .slice y ny cy] w fun e w' => e = .returned (.int .i64 (csE bits l.length 128 xl yl)) ∧ New w w' := by
  have hlx := hx.len_eq
  have hly := hy.len_eq
  have hck : ∀ w, Calls Tryz.prog 90 #[.slice a na ca, .int .i64 bits] w fun e w' => e = .returned (.int .i64 (chk bits l.length 128)) ∧ w' = w := by
    rw [ha.len_eq]; exact fun w => check_any a na ca bits w ha.most
  have HCK := Lib.hid hck
  clear hck ha
  by_cases h1 : chk bits l.length 128 = 0
  · have hE : csE bits l.length 128 xl yl = tgE bits.toNat xl yl := by unfold csE; rw [if_neg (by rw [h1]; simp)]
    obtain ⟨b1, b2, b3⟩ := chk_good h1
    rw [h1] at HCK
    rw [hE]
    by_cases h2 : xl.length < 1 ∨ 3 < xl.length ∨ yl.length ≠ xl.length
    · have HE := Lib.hid (tg_len (bits := bits.toNat) h2)
      rw [hlx, hly] at h2
      have h3 : ((nx : Int) == 0) = true ∨ (((nx : Int) == 0) = false ∧ (3 : Int) < (nx : Int)) ∨ (((nx : Int) == 0) = false ∧ ¬ (3 : Int) < (nx : Int) ∧ ((ny : Int) != (nx : Int)) = true) := by
        rw [beq_iff_eq, beq_eq_false_iff_ne, bne_iff_ne]; omega
      clear h1 h2 b1 b2 b3 hE hx hy hlx hly
      rcases h3 with h3 | ⟨h3, h4⟩ | ⟨h3, h4, h5⟩
      all_goals (
        go_enter Tryz.func95, Tryz.ntmps95
        go_wp2_with (go_at_call 90; refine (HCK.out _).mono ?_; rintro e w' ⟨rfl, rfl⟩)
        go_ret
        rw [HE.out]
        exact ⟨rfl, New.refl _⟩)
    · have HLE := Lib.hid h2
      have hn1 : 0 < nx := by omega
      have hn3 : nx ≤ 3 := by omega
      obtain rfl : ny = nx := by omega
      have h3 : ((ny : Int) == 0) = false := by rw [beq_eq_false_iff_ne]; omega
      have h4 : ¬ (3 : Int) < (ny : Int) := by omega
      have HBT : Hid (bits = ((bits.toNat : Nat) : Int)) := Lib.hid (by omega)
      have HFB := Lib.hid (fun z w => fits_any z bits bits.toNat HBT.out w)
      have HF3 := Lib.hid (fun z w => fits_any z 32 32 rfl w)
      have HX := Lib.hid hx
      have HY := Lib.hid hy
      have hcx := hx.le
      have HLX := Lib.hid hlx
      clear h1 h2 b1 b2 b3 hE hx hy hlx hly
      go_enter Tryz.func95, Tryz.ntmps95
      go_wp2_with fail
      refine (HCK.out _).mono ?_
      rintro e w1 ⟨rfl, rfl⟩
      go_wp2
      go_loopw [39] (fun iv wr => ∃ k : Nat, k ≤ ny ∧ iv = .int .i64 (k : Int) ∧ Hid (New w1 wr) ∧ Hid (∀ j, j < k → bad2 bits.toNat xl yl j = false)) (fun iv _ => ny - (intOf iv).toNat)
      case atStart => exact ⟨0, Nat.zero_le _, rfl, Lib.hid (by first | exact New.refl _ | exact (New.refl _).drew), Lib.hid (fun j hj => absurd hj (by omega))⟩
      case round =>
        obtain ⟨k, hk, rfl, HN, HG⟩ := hrel
        by_cases hlt : (k : Int) < (ny : Int)
        · have hk0 : (0 : Int) ≤ (k : Int) := by omega
          have hkn : k < ny := by omega
          obtain ⟨p1, o1, e1, d1⟩ := (HX.out.stay HN.out).addr hn1
          subst e1
          replace d1 := d1 k hkn
          obtain ⟨p2, o2, e2, d2⟩ := (HY.out.stay HN.out).addr hn1
          subst e2
          replace d2 := d2 k hkn
          have HBAD : Hid (bad2 bits.toNat xl yl k = (!(xl.getD k 0 >>> 32 == 0#64) || !(yl.getD k 0 >>> bits.toNat == 0#64))) := Lib.hid rfl
          obtain ⟨xv, hxv⟩ : ∃ xv, xl.getD k 0 = xv := ⟨_, rfl⟩
          obtain ⟨yv, hyv⟩ : ∃ yv, yl.getD k 0 = yv := ⟨_, rfl⟩
          rw [hxv] at d1 HBAD
          rw [hyv] at d2 HBAD
          have HA1 := Lib.hid (HF3.out xv)
          have HA2 := Lib.hid (HFB.out yv)
          have HTB := Lib.hid (fun hb => tg_bad (bits := bits.toNat) HLE.out (i := k) (by rw [HLX.out]; exact hkn) hb)
          rcases hbx : (xv >>> 32 == 0#64) with _ | _
          · rw [hbx] at HA1 HBAD
            have HE := Lib.hid (HTB.out (by rw [HBAD.out]; rfl))
            clear HTB hxv hyv hbx HBAD
            go_wp2_with (first | (go_at_call_of 91 (Value.int IntKind.i64 32); refine (HA1.out _).mono ?_; rintro e w' ⟨rfl, rfl⟩))
            go_ret
            rw [HE.out]
            exact ⟨rfl, HN.out⟩
          · rw [hbx] at HA1 HBAD
            rcases hby : (yv >>> bits.toNat == 0#64) with _ | _
            · rw [hby] at HA2 HBAD
              have HE := Lib.hid (HTB.out (by rw [HBAD.out]; rfl))
              clear HTB hxv hyv hbx hby HBAD
              go_wp2_with (first | (go_at_call_of 91 (Value.int IntKind.i64 32); refine (HA1.out _).mono ?_; rintro e w' ⟨rfl, rfl⟩) | (go_at_call_of 91 (Value.int IntKind.i64 bits); refine (HA2.out _).mono ?_; rintro e w' ⟨rfl, rfl⟩))
              go_ret
              rw [HE.out]
              exact ⟨rfl, HN.out⟩
            · rw [hby] at HA2 HBAD
              have HG2 : Hid (∀ j, j < k + 1 → bad2 bits.toNat xl yl j = false) := Lib.hid (fun j hj => by
                by_cases e : j = k
                · subst e; rw [HBAD.out]; rfl
                · exact HG.out j (by omega))
              clear HTB hxv hyv hbx hby HBAD
              go_wp2_with (first | (go_at_call_of 91 (Value.int IntKind.i64 32); refine (HA1.out _).mono ?_; rintro e w' ⟨rfl, rfl⟩) | (go_at_call_of 91 (Value.int IntKind.i64 bits); refine (HA2.out _).mono ?_; rintro e w' ⟨rfl, rfl⟩))
              exact ⟨⟨k + 1, by omega, by go_num, HN, HG2⟩, by simp [intOf]; omega⟩
        · obtain rfl : k = ny := by omega
          go_wp2
          go_loopw [59] (fun iv wr => ∃ i : Nat, i ≤ k ∧ iv = .int .i64 (i : Int) ∧ Hid (New w1 wr) ∧ Hid (∀ j, j < i → same2 xl j = false)) (fun iv _ => k - (intOf iv).toNat)
          case atStart => exact ⟨0, Nat.zero_le _, rfl, HN, Lib.hid (fun j hj => absurd hj (by omega))⟩
          case round =>
            clear HN
            obtain ⟨i, hi, rfl, HN, HS⟩ := hrel
            by_cases hlt2 : (i : Int) < (k : Int)
            · have hi0 : (0 : Int) ≤ (i : Int) := by omega
              have hin : i < k := by omega
              have hic : (i : Int) ≤ (cx : Int) := by omega
              obtain ⟨p1, o1, e1, _⟩ := HX.out.addr hn1
              subst e1
              have d1 := (HX.out.stay HN.out).cell p1 o1 rfl i hin
              obtain ⟨xv, hxv⟩ : ∃ xv, xl.getD i 0 = xv := ⟨_, rfl⟩
              rw [hxv] at d1
              have HXV := Lib.hid hxv
              clear hxv
              go_wp2
              go_loopw [68] (fun iv wr => ∃ j : Nat, j ≤ i ∧ iv = .int .i64 (j : Int) ∧ Hid (New w1 wr) ∧ Hid (∀ q, q < j → xl.getD q 0 ≠ xl.getD i 0)) (fun iv _ => i - (intOf iv).toNat)
              case atStart => exact ⟨0, Nat.zero_le _, rfl, HN, Lib.hid (fun j hj => absurd hj (by omega))⟩
              case round =>
                clear HN d1
                obtain ⟨j, hj, rfl, HN, HD⟩ := hrel
                by_cases hlt3 : (j : Int) < (i : Int)
                · have hj0 : (0 : Int) ≤ (j : Int) := by omega
                  have d2 := (HX.out.stay HN.out).cell p1 o1 rfl j (by omega)
                  obtain ⟨yv, hyv⟩ : ∃ yv, xl.getD j 0 = yv := ⟨_, rfl⟩
                  rw [hyv] at d2
                  have HYV := Lib.hid hyv
                  clear hyv
                  rcases hb : (yv == xv) with _ | _
                  · have HD2 : Hid (∀ q, q < j + 1 → xl.getD q 0 ≠ xl.getD i 0) := Lib.hid (fun q hq => by
                      by_cases e : q = j
                      · subst e; rw [HYV.out, HXV.out]; exact beq_eq_false_iff_ne.1 hb
                      · exact HD.out q (by omega))
                    go_wp2
                    exact ⟨⟨j + 1, by omega, by go_num, HN, HD2⟩, by simp [intOf]; omega⟩
                  · have HE := Lib.hid (tg_same (bits := bits.toNat) HLE.out (by rw [HLX.out]; exact HG.out) (i := i) (k := j) (by rw [HLX.out]; exact hin) (by omega) (by rw [HYV.out, HXV.out]; exact beq_iff_eq.1 hb))
                    go_wp2
                    go_ret
                    rw [HE.out]
                    exact ⟨rfl, HN.out⟩
                · obtain rfl : j = i := by omega
                  have HS2 : Hid (∀ q, q < j + 1 → same2 xl q = false) := Lib.hid (fun q hq => by
                    by_cases e : q = j
                    · subst e; exact same2_no HD.out
                    · exact HS.out q (by omega))
                  go_wp2
                  exact ⟨⟨j + 1, by omega, by go_num, HN, HS2⟩, by simp [intOf]; omega⟩
            · obtain rfl : i = k := by omega
              have HE := Lib.hid (tg_ok (bits := bits.toNat) HLE.out (by rw [HLX.out]; exact HG.out) (by rw [HLX.out]; exact HS.out))
              go_wp2
              go_ret
              rw [HE.out]
              exact ⟨rfl, HN.out⟩
  · have HE : Hid (csE bits l.length 128 xl yl = chk bits l.length 128) := Lib.hid (by unfold csE; rw [if_pos h1])
    have hne : (chk bits l.length 128 != 0) = true := by rw [bne_iff_ne]; exact h1
    clear h1
    generalize chk bits l.length 128 = q at HCK hne HE
    go_enter Tryz.func95, Tryz.ntmps95
    go_wp2_with (go_at_call 90; refine (HCK.out _).mono ?_; rintro e w' ⟨rfl, rfl⟩)
    go_ret
    rw [HE.out]
    exact ⟨rfl, New.refl _⟩
end Go.Proofs.YtebcfbcfipmahaaGreat
end
