/- Counts of words: the loop that counts what words yield; the document's own zeros, Power and Even. -/
import Derived.Test.YtdiikoiadhdeoaaTlyM
import Derived.Test.YtdiikoiadhdeoaaRowQ
import Derived.Test.YtdiikoiadhdeoaaProg
import Derived.LoopN
import Derived.Deep.OwnRows
import Derived.OneCell
import Derived.Handy
import Derived.Deep.RegionHeld3
namespace Go.Proofs.Ytdiikoiadhdeoaa
open Go.RowKit Go.Bv Go.Tly
set_option linter.unusedVariables false
def ofN (k : Nat) : BitVec 64 := BitVec.ofNat 64 k
theorem ofN_toNat {k : Nat} (h : k < 18446744073709551616) : (ofN k).toNat = k := by unfold ofN; rw [BitVec.toNat_ofNat]; exact Nat.mod_eq_of_lt h
theorem W64_ofN {k : Nat} (h : k < 18446744073709551616) : W64 (ofN k) = (k : Int) := by unfold W64; rw [ofN_toNat h]
theorem ofN_of (x : BitVec 64) : ofN x.toNat = x := by unfold ofN; rw [BitVec.ofNat_toNat, BitVec.setWidth_eq]
theorem ofN_succ (k : Nat) : ofN k + 1#64 = ofN (k + 1) := by unfold ofN; rw [BitVec.ofNat_add]
theorem ofN_mul (a b : Nat) : ofN a * ofN b = ofN (a * b) := by unfold ofN; rw [BitVec.ofNat_mul]
theorem ofN_div {a b : Nat} (ha : a < 18446744073709551616) (hb : b < 18446744073709551616) : ofN a / ofN b = ofN (a / b) := by
  apply BitVec.eq_of_toNat_eq
  rw [BitVec.toNat_udiv, ofN_toNat ha, ofN_toNat hb, ofN_toNat (Nat.lt_of_le_of_lt (Nat.div_le_self a b) ha)]
theorem ofN_mod {a b : Nat} (ha : a < 18446744073709551616) (hb : b < 18446744073709551616) : ofN a % ofN b = ofN (a % b) := by
  apply BitVec.eq_of_toNat_eq
  rw [BitVec.toNat_umod, ofN_toNat ha, ofN_toNat hb, ofN_toNat (Nat.lt_of_le_of_lt (Nat.mod_le a b) ha)]
theorem two_le {t : Nat} (h : t ≤ 24) : 2 ^ t ≤ 16777216 := Nat.le_trans (Nat.pow_le_pow_right (by omega) h) (by decide)
theorem shl_ofN {t : Nat} (h : t ≤ 24) : 1#64 <<< t = ofN (2 ^ t) := by
  have := two_le h
  apply BitVec.eq_of_toNat_eq
  rw [ofN_toNat (by omega), BitVec.toNat_shiftLeft]
  show 1 <<< t % 18446744073709551616 = 2 ^ t
  rw [Nat.shiftLeft_eq, Nat.one_mul, Nat.mod_eq_of_lt (by omega)]
/-- what is wrong with words of t bits and a limit -/
def bad51 (t : Int) (n : Nat) : Int := if t < 1 ∨ 12 < t then 1 else if n = 0 then 8 else if 2 ^ t.toNat < n then 9 else 0
theorem bad51_1 {t : Int} (n : Nat) (h : t < 1 ∨ 12 < t) : bad51 t n = 1 := if_pos h
theorem bad51_8 {t : Int} {n : Nat} (h : 1 ≤ t ∧ t ≤ 12) (h0 : n = 0) : bad51 t n = 8 := by unfold bad51; rw [if_neg (by omega), if_pos h0]
theorem bad51_9 {t : Int} {n : Nat} (h : 1 ≤ t ∧ t ≤ 12) (h0 : ¬ n = 0) (h9 : 2 ^ t.toNat < n) : bad51 t n = 9 := by unfold bad51; rw [if_neg (by omega), if_neg h0, if_pos h9]
theorem bad51_0 {t : Int} {n : Nat} (h : 1 ≤ t ∧ t ≤ 12) (h0 : ¬ n = 0) (h9 : ¬ 2 ^ t.toNat < n) : bad51 t n = 0 := by unfold bad51; rw [if_neg (by omega), if_neg h0, if_neg h9]
theorem beq0 (n : BitVec 64) : (n == 0#64) = decide (n.toNat = 0) := by
  rw [Bool.eq_iff_iff, beq_iff_eq, decide_eq_true_iff]
  exact ⟨fun h => by rw [h]; rfl, fun h => BitVec.eq_of_toNat_eq (by rw [h]; rfl)⟩
set_option maxHeartbeats 1000000 in
theorem check_51 (t : Int) (n : BitVec 64) (w : World) : Calls Try.prog 33 #[.int .i64 t, .int .u64 (W64 n)] w fun e w' => e = .returned (.int .i64 (bad51 t n.toNat)) ∧ w' = w := by
  by_cases h1 : t < 1 ∨ 12 < t
  · rw [bad51_1 _ h1]
    rcases h1 with h1 | h1
    · go_enter Try.func33, Try.ntmps33
      go_wp2
      go_ret
      exact ⟨rfl, rfl⟩
    · have h2 : ¬ t < 1 := by omega
      go_enter Try.func33, Try.ntmps33
      go_wp2
      go_ret
      exact ⟨rfl, rfl⟩
  · have h2 : ¬ t < 1 := by omega
    have h3 : ¬ 12 < t := by omega
    have hb := beq0 n
    by_cases h0 : n.toNat = 0
    · rw [bad51_8 (by omega) h0]
      rw [decide_eq_true h0] at hb
      clear h0 h1
      go_enter Try.func33, Try.ntmps33
      go_wp2
      go_ret
      exact ⟨rfl, rfl⟩
    · rw [decide_eq_false h0] at hb
      have hs : (1#64 <<< t.toNat) = ofN (2 ^ t.toNat) := shl_ofN (by omega)
      have hl := two_le (t := t.toNat) (by omega)
      have hw : W64 (1#64 <<< t.toNat) = ((2 ^ t.toNat : Nat) : Int) := by rw [hs, W64_ofN (by omega)]
      by_cases h9 : 2 ^ t.toNat < n.toNat
      · rw [bad51_9 (by omega) h0 h9]
        have hd : decide (W64 (1#64 <<< t.toNat) < W64 n) = true := decide_eq_true (by rw [hw]; unfold W64; omega)
        have ht : 0 ≤ t := by omega
        clear h0 h1 hs hl hw h9
        go_enter Try.func33, Try.ntmps33
        go_wp2
        go_ret
        exact ⟨rfl, rfl⟩
      · rw [bad51_0 (by omega) h0 h9]
        have hd : decide (W64 (1#64 <<< t.toNat) < W64 n) = false := decide_eq_false (by rw [hw]; unfold W64; omega)
        have ht : 0 ≤ t := by omega
        clear h0 h1 hs hl hw h9
        go_enter Try.func33, Try.ntmps33
        go_wp2
        go_ret
        exact ⟨rfl, rfl⟩
theorem ofN_one : W64 (ofN (2 ^ 0)) = 1 := by unfold W64 ofN; decide +kernel
theorem ofN_two (k : Nat) : ofN (2 ^ k) * 2#64 = ofN (2 ^ (k + 1)) := by
  rw [show (2#64 : BitVec 64) = ofN 2 from rfl, ofN_mul, Nat.pow_succ]
set_option maxHeartbeats 1000000 in
theorem power_51 (t : Nat) (ht : t ≤ 24) (w : World) : Calls Try.prog 16 #[.int .i64 (t : Int)] w fun e w' => e = .returned (.int .u64 (W64 (ofN (2 ^ t)))) ∧ w' = w := by
  go_enter Try.func16, Try.ntmps16
  go_wp2_with fail
  go_loop [3, 4] (fun x i => ∃ k : Nat, k ≤ t ∧ x = .int .u64 (W64 (ofN (2 ^ k))) ∧ i = .int .i64 (k : Int)) (fun _ i => t - (intOf i).toNat)
  case atStart => exact ⟨0, Nat.zero_le _, by rw [ofN_one], rfl⟩
  case round =>
    obtain ⟨k, hk, rfl, rfl⟩ := hrel
    by_cases hlt : (k : Int) < (t : Int)
    · have h2 := ofN_two k
      obtain ⟨p, hp⟩ : ∃ p, ofN (2 ^ k) = p := ⟨_, rfl⟩
      obtain ⟨p', hp'⟩ : ∃ p, ofN (2 ^ (k + 1)) = p := ⟨_, rfl⟩
      rw [hp, hp'] at h2
      rw [hp]
      have HP := Lib.hid hp'
      clear hp hp'
      go_wp2
      exact ⟨⟨k + 1, by omega, by rw [HP.out], by go_num⟩, by simp [intOf]; omega⟩
    · obtain rfl : k = t := by omega
      go_wp2
      go_ret
      exact ⟨rfl, rfl⟩
/-- a row of counts, in a block of its own -/
def CR (w : World) (g n : Nat) (l : Nat → BitVec 64) : Prop := ∃ cs : Array Value, w.heap[g]? = some (.cells cs 22 (0, 0)) ∧ n ≤ cs.size ∧ ∀ j, j < n → cs[j]? = some (.int .u64 (W64 (l j)))
theorem CR.stay {w w' : World} {g n : Nat} {l : Nat → BitVec 64} (h : CR w g n l) (hn : New w w') : CR w' g n l := by
  obtain ⟨cs, h1, h2, h3⟩ := h
  exact ⟨cs, (hn.block _ (lt_of_block h1)).trans h1, h2, h3⟩
theorem CR.get {w : World} {g n : Nat} {l : Nat → BitVec 64} (h : CR w g n l) {v : Nat} (hv : v < n) : w.cell? ⟨g, v, none⟩ = some (.int .u64 (W64 (l v))) ∧ w.frozen? ⟨g, v, none⟩ = false := by
  obtain ⟨cs, h1, h2, h3⟩ := h
  exact ⟨(cell_of_row _ _ _ _ _ _ h1).trans (h3 v hv), frozen_of_row _ _ _ _ _ h1⟩
theorem CR.put {w : World} {g n : Nat} {l l' : Nat → BitVec 64} (h : CR w g n l) {v : Nat} (hv : v < n) (x : BitVec 64) (he : l' v = x) (ho : ∀ j, j < n → j ≠ v → l' j = l j) : CR (w.setCell ⟨g, v, none⟩ (.int .u64 (W64 x))) g n l' := by
  obtain ⟨cs, h1, h2, h3⟩ := h
  refine ⟨_, heap_setCell_same w g v cs _ (.int .u64 (W64 x)) h1, by rw [Array.size_setIfInBounds]; exact h2, fun j hj => ?_⟩
  rw [Array.getElem?_setIfInBounds]
  by_cases e : v = j
  · subst e
    rw [if_pos rfl, if_pos (by omega), he]
  · rw [if_neg e, h3 j hj, ho j hj (Ne.symm e)]
theorem CR.congr {w : World} {g n : Nat} {l l' : Nat → BitVec 64} (h : CR w g n l) (he : ∀ j, j < n → l' j = l j) : CR w g n l' := by
  obtain ⟨cs, h1, h2, h3⟩ := h
  exact ⟨cs, h1, h2, fun j hj => by rw [he j hj]; exact h3 j hj⟩
theorem CR.lt {w : World} {g n : Nat} {l : Nat → BitVec 64} (h : CR w g n l) : g < w.heap.size := by
  obtain ⟨cs, h1, _⟩ := h
  exact lt_of_block h1
theorem CR.row {w : World} {g n c : Nat} {l : Nat → BitVec 64} (h : CR w g n l) (hn : n ≤ 17592186044416) (hc : n ≤ c) (hc2 : c ≤ 9223372036854775807) : QRow w (some ⟨g, 0, none⟩) n c ((List.range n).map l) where
  len_eq := by simp
  le := hc
  most := hn
  room := hc2
  none := fun e => by cases e
  cell := fun b off e i hi => by
    cases e
    rw [Nat.zero_add, (h.get hi).1]
    simp [List.getD_eq_getElem?_getD, List.getElem?_map, List.getElem?_range hi]
  spot := fun x e _ => by cases e; rfl
  old := fun x e _ => by cases e; exact h.lt
/-- how often each number was told by the first words -/
def cl (f : Nat → Option Nat) (k v : Nat) : BitVec 64 := ofN (cntN (fun x => f x == some v) k)
def lo51 (f : Nat → Option Nat) (k : Nat) : BitVec 64 := ofN (cntN (fun x => (f x).isNone) k)
theorem cl_zero (f : Nat → Option Nat) (v : Nat) : cl f 0 v = 0#64 := rfl
theorem cl_none {f : Nat → Option Nat} {k : Nat} (h : f k = none) (v : Nat) : cl f (k + 1) v = cl f k v := by unfold cl; rw [cntN, h]; rfl
theorem cl_some {f : Nat → Option Nat} {k u : Nat} (h : f k = some u) : cl f (k + 1) u = cl f k u + 1#64 := by unfold cl; rw [cntN, h, ofN_succ]; simp
theorem cl_other {f : Nat → Option Nat} {k u v : Nat} (h : f k = some u) (hv : v ≠ u) : cl f (k + 1) v = cl f k v := by
  unfold cl; rw [cntN, h]
  have : (some u == some v) = false := by simp; exact fun e => hv e.symm
  rw [this]; rfl
theorem lo_none {f : Nat → Option Nat} {k : Nat} (h : f k = none) : lo51 f (k + 1) = lo51 f k + 1#64 := by unfold lo51; rw [cntN, h, ofN_succ]; rfl
theorem lo_some {f : Nat → Option Nat} {k u : Nat} (h : f k = some u) : lo51 f (k + 1) = lo51 f k := by unfold lo51; rw [cntN, h]; rfl
theorem info51 : (Try.prog.info? 22).map (fun i => (i.zero, i.size, i.bytes)) = some (some (.int .u64 0), 1, 8) := by kernel_rfl
theorem zeros51 (n : Nat) : (madeCells #[Value.int .u64 0] n).size = n ∧ ∀ j, j < n → (madeCells #[Value.int .u64 0] n)[j]? = some (.int .u64 (W64 0#64)) := by
  refine ⟨size_madeCells _ _, fun j hj => ?_⟩
  rw [← Array.getElem?_toList, toList_madeCells_one, List.getElem?_replicate, if_pos hj, W64_lit 0 (by omega)]
  rfl
set_option maxHeartbeats 2000000 in
theorem words_51 (t : Nat) (ht : t ≤ 12) (n : Nat) (hn : n ≤ 4096) (f : Nat → Option Nat) (hf : ∀ x, x < 2 ^ t → ∀ v, f x = some v → v < n) (G : Nat) (caps : Array Value) (w : World)
    (hG : ∀ (x : Value) (w : World), (callFunc G (#[x] ++ caps)).run Try.prog w = .ok (.enter G (#[x] ++ caps)) w)
    (h0 : ∀ x w', x < 2 ^ t → New w w' → f x = none → ∃ y : Int, Calls Try.prog G (#[.int .u64 (W64 (ofN x))] ++ caps) w' fun e w'' => e = .returned (.tuple #[.int .u64 y, .bool false]) ∧ New w' w'')
    (h1 : ∀ x w' v, x < 2 ^ t → New w w' → f x = some v → Calls Try.prog G (#[.int .u64 (W64 (ofN x))] ++ caps) w' fun e w'' => e = .returned (.tuple #[.int .u64 (v : Int), .bool true]) ∧ New w' w'') :
    Calls Try.prog 34 #[.int .i64 (t : Int), .int .u64 (n : Int), .func (Fn.func G) #[] caps] w fun e w' => ∃ g, e = .returned (.tuple #[.slice (some ⟨g, 0, none⟩) n n, .int .u64 (W64 (lo51 f (2 ^ t))), .int .i64 0]) ∧ CR w' g n (cl f (2 ^ t)) ∧ New w w' := by
  obtain ⟨i0, hi, hz0, hz1, hz2⟩ := info_parts info51
  have hmk := run_make_row (P := Try.prog) 24 22 i0 (.int .u64 0) Try.underlying24 hi hz0 hz1 rfl .u64 .u64 n (by rw [hz2]; omega) (by omega) w
  have hz := zeros51 n
  have hcr : CR (w.alloc (.cells (madeCells #[.int .u64 0] n) 22)) w.heap.size n (cl f 0) := ⟨_, heap_alloc_new w _, by rw [hz.1]; exact Nat.le_refl _, fun j hj => by rw [cl_zero]; exact hz.2 j hj⟩
  have HCR := Lib.hid hcr
  have HG := Lib.hid hG
  have H0 := Lib.hid h0
  have H1 := Lib.hid h1
  have HF := Lib.hid hf
  have hsh : 1#64 <<< t = ofN (2 ^ t) := shl_ofN (by omega)
  have hA := two_le (t := t) (by omega)
  obtain ⟨A, hAe⟩ : ∃ A, 2 ^ t = A := ⟨_, rfl⟩
  rw [hAe] at hsh hA HF H0 H1
  rw [hAe]
  clear hz hcr hG h0 h1 hf hAe hz0 hz1 hz2 hi
  go_enter Try.func34, Try.ntmps34
  go_wp2_with fail
  go_loopw [10, 18] (fun lv xv wr => ∃ k : Nat, k ≤ A ∧ lv = .int .u64 (W64 (lo51 f k)) ∧ xv = .int .u64 (W64 (ofN k)) ∧ Hid (CR wr w.heap.size n (cl f k)) ∧ Hid (New w wr)) (fun _ xv _ => A - (intOf xv).toNat)
  case atStart => exact ⟨0, Nat.zero_le _, rfl, rfl, HCR, Lib.hid ((New.refl w).alloc _)⟩
  case round =>
    obtain ⟨k, hk, rfl, rfl, HC, HN⟩ := hrel
    by_cases hlt : k < A
    · have hd : decide (W64 (ofN k) < W64 (ofN A)) = true := decide_eq_true (by rw [W64_ofN (by omega), W64_ofN (by omega)]; omega)
      have hs := ofN_succ k
      have hm : A - (W64 (ofN (k + 1))).toNat < A - (W64 (ofN k)).toNat := by rw [W64_ofN (by omega), W64_ofN (by omega)]; omega
      have HM := Lib.hid hm
      obtain ⟨xk, hxk⟩ : ∃ x, ofN k = x := ⟨_, rfl⟩
      obtain ⟨xl, hxl⟩ : ∃ x, ofN (k + 1) = x := ⟨_, rfl⟩
      rw [hxk, hxl] at hs HM
      rw [hxk] at hd ⊢
      have HXL := Lib.hid hxl
      rcases hfk : f k with _ | v
      · obtain ⟨y, hy⟩ := H0.out k wr hlt HN.out hfk
        rw [hxk] at hy
        have HY := Lib.hid hy
        have hl := lo_none hfk
        obtain ⟨lk, hlk⟩ : ∃ x, lo51 f k = x := ⟨_, rfl⟩
        obtain ⟨lk2, hlk2⟩ : ∃ x, lo51 f (k + 1) = x := ⟨_, rfl⟩
        rw [hlk, hlk2] at hl
        rw [hlk]
        have HL := Lib.hid hlk2
        clear hy hxk hxl hlk hlk2 hm
        go_wp2_with fail
        rw [HG.out, Oper.upon_enter]
        refine (HY.out).mono ?_
        rintro e w9 ⟨rfl, hn9⟩
        have HC9 := Lib.hid ((HC.out.stay hn9).congr fun j _ => cl_none hfk j)
        have HN9 := Lib.hid (HN.out.trans hn9)
        clear hn9
        go_wp2
        exact ⟨⟨k + 1, by omega, by rw [HL.out, hl], by rw [HXL.out], HC9, HN9⟩, by simpa [intOf] using HM.out⟩
      · have hv := HF.out k hlt v hfk
        have HY := Lib.hid (H1.out k wr v hlt HN.out hfk)
        rw [hxk] at HY
        have hl := lo_some hfk
        obtain ⟨lk, hlk⟩ : ∃ x, lo51 f k = x := ⟨_, rfl⟩
        rw [hlk] at hl
        rw [hlk]
        have HL := Lib.hid hl
        have hc := cl_some hfk
        obtain ⟨ck, hck⟩ : ∃ x, cl f k v = x := ⟨_, rfl⟩
        rw [hck] at hc
        clear hxk hxl hlk hm hl
        go_wp2_with fail
        rw [HG.out, Oper.upon_enter]
        refine (HY.out).mono ?_
        rintro e w9 ⟨rfl, hn9⟩
        have hcr9 := HC.out.stay hn9
        have c0 := (hcr9.get hv).1
        have cf := (hcr9.get hv).2
        rw [hck] at c0
        have HC9 := Lib.hid (hcr9.put (l' := cl f (k + 1)) hv (ck + 1#64) hc fun j _ hj => cl_other hfk hj)
        have HN9 := Lib.hid ((HN.out.trans hn9).setCell (p := ⟨w.heap.size, v, none⟩) (Nat.le_refl _) (.int .u64 (W64 (ck + 1#64))))
        have hv0 : (0 : Int) ≤ (v : Int) := by omega
        have hv1 : (v : Int) < (n : Int) := by omega
        clear hn9 hcr9 hck hc
        go_wp2
        exact ⟨⟨k + 1, by omega, by rw [HL.out], by rw [HXL.out], HC9, HN9⟩, by simpa [intOf] using HM.out⟩
    · obtain rfl : k = A := by omega
      have hd : decide (W64 (ofN k) < W64 (ofN k)) = false := decide_eq_false (by omega)
      go_wp2
      refine bodyPost_ret (by simp [results, Try.results34, go_sem]; try rfl) rfl ?_
      exact ⟨_, rfl, HC.out, HN.out⟩
end Go.Proofs.Ytdiikoiadhdeoaa
