import Derived.Test.YtfaobdmoifnglaaGreatZRot
import Derived.Test.YtfaobdmoifnglaaGreatProg
import Derived.Deep.OwnRows
import Derived.OneCell
import Derived.Deep.QuietTactic
import Derived.BigQuiet
import Derived.Handy
section
/- Plain lemmas: slices of integers of 64 bits with a sign that are read: their numbers as a list. -/
namespace Go.Bv
open Go Go.RowKit
def In64 (n : Int) : Prop := -9223372036854775808 ≤ n ∧ n ≤ 9223372036854775807
/-- a slice of integers that reads as l in the world w: its address, its length, its capacity -/
structure ZRow (w : World) (a : Option Addr) (len cap : Nat) (l : List Int) : Prop where
  len_eq : l.length = len
  le : len ≤ cap
  most : len ≤ 17592186044416
  room : cap ≤ 9223372036854775807
  none : a = none → len = 0 ∧ cap = 0
  cell : ∀ b off, a = some ⟨b, off, Option.none⟩ → ∀ i, i < len → w.cell? ⟨b, off + i, Option.none⟩ = some (.int .i64 (l.getD i 0))
  spot : ∀ x, a = some x → 0 < len → x.spot = Option.none
  old : ∀ x, a = some x → 0 < len → x.block < w.heap.size
  wf : ∀ n ∈ l, In64 n
theorem ZRow.at {w : World} {a : Option Addr} {len cap : Nat} {l : List Int} (h : ZRow w a len cap l) (i : Nat) : In64 (l.getD i 0) := by
  rw [List.getD_eq_getElem?_getD]
  rcases Nat.lt_or_ge i l.length with h2 | h2
  · rw [List.getElem?_eq_getElem h2]; exact h.wf _ (List.getElem_mem h2)
  · rw [List.getElem?_eq_none h2]; exact ⟨by decide, by decide⟩
theorem ZRow.stay {w w' : World} {a : Option Addr} {len cap : Nat} {l : List Int} (h : ZRow w a len cap l) (hn : New w w') : ZRow w' a len cap l where
  len_eq := h.len_eq
  le := h.le
  most := h.most
  room := h.room
  none := h.none
  cell := fun b off e i hi => by
    have hb := h.old _ e (by omega)
    rw [hn.cell (a := ⟨b, off + i, Option.none⟩) hb]; exact h.cell b off e i hi
  spot := h.spot
  old := fun x e h0 => Nat.lt_of_lt_of_le (h.old x e h0) hn.le
  wf := h.wf
theorem IRow.ints {w : World} {a : Option Addr} {len cap : Nat} {zs : List Int} (h : IRow .i64 w a len cap zs) (hr : cap * 8 ≤ 140737488351232) : ∃ l, ZRow w a len cap l := by
  rcases h with ⟨rfl, rfl, rfl, rfl⟩ | ⟨x, rfl, hl, hz, hc, hw⟩
  · exact ⟨[], ⟨rfl, Nat.le_refl _, by omega, by omega, fun _ => ⟨rfl, rfl⟩, (fun _ _ e => by cases e), (fun _ e => by cases e), (fun _ e => by cases e), (fun _ e => by cases e)⟩⟩
  · refine ⟨zs.take len, ⟨by simp; omega, hl, by omega, by omega, (fun e => by cases e), ?_, ?_, ?_, ?_⟩⟩
    · intro b off e i hi
      cases e
      have := hc i (by omega)
      rw [add_plain] at this
      rw [this, List.getD_eq_getElem?_getD, List.getD_eq_getElem?_getD, List.getElem?_take, if_pos hi]
    · intro y e h0; cases e; exact World.cell?_spot (hc 0 (by omega))
    · intro y e h0; cases e
      have := cell_block (hc 0 (by omega))
      simpa [Addr.add] using this
    · intro n hn
      have hwf := hw n (List.mem_of_mem_take hn)
      simp [Lit.wf, IntKind.min, IntKind.max, IntKind.signed, IntKind.bits] at hwf
      unfold In64; omega
theorem ZRow.addr {w : World} {a : Option Addr} {len cap : Nat} {l : List Int} (h : ZRow w a len cap l) (h0 : 0 < len) :
    ∃ b off, a = some ⟨b, off, Option.none⟩ ∧ ∀ i, i < len → w.cell? ⟨b, off + i, Option.none⟩ = some (.int .i64 (l.getD i 0)) := by
  cases a with
  | none => have := (h.none rfl).1; omega
  | some x =>
    obtain ⟨b, off, sp⟩ := x
    have hs := h.spot _ rfl h0
    obtain rfl : sp = Option.none := hs
    exact ⟨b, off, rfl, h.cell b off rfl⟩
theorem ZRow.of_owns {w : World} {base : Nat} {e : TypeId} {v : Value} {n : Nat} {l : List Int} (h : w.ownsRow base e 1 v n (l.map fun x => .int .i64 x)) (hn : n ≤ 17592186044416) (hw : ∀ n ∈ l, In64 n) :
    ∃ a cap, v = .slice a n cap ∧ ZRow w a n cap l := by
  obtain ⟨hl, h⟩ := h
  rw [List.length_map, Nat.mul_one] at hl
  rcases h with ⟨rfl, rfl⟩ | ⟨g, cap, cur, rfl, _, hc, hle, hm, hs, ht⟩
  · exact ⟨Option.none, 0, rfl, ⟨hl, Nat.le_refl _, by omega, by omega, fun _ => ⟨rfl, rfl⟩, (fun _ _ e => by cases e), (fun _ e => by cases e), (fun _ e => by cases e), hw⟩⟩
  · have hcell : ∀ i, i < n → w.cell? ⟨g, 0 + i, Option.none⟩ = some (.int .i64 (l.getD i 0)) := by
      intro i hi
      rw [Nat.zero_add]
      have hi2 : i < l.length := by omega
      have e1 : (cur.toList.take (n * 1))[i]? = some (.int .i64 (l.getD i 0)) := by
        rw [ht, List.getElem?_map, List.getD_eq_getElem?_getD, List.getElem?_eq_getElem hi2]; rfl
      rw [List.getElem?_take, if_pos (by omega)] at e1
      unfold World.cell?
      simp only [hc]
      simpa using e1
    refine ⟨some ⟨g, 0, Option.none⟩, cap, rfl, ⟨hl, hle, hn, hm, (fun e => by cases e), ?_, ?_, ?_, hw⟩⟩
    · intro b off e i hi; cases e; exact hcell i hi
    · intro x e _; cases e; rfl
    · intro x e h0; cases e; exact cell_block (hcell 0 h0)
theorem ZRow.olds {w : World} {a : Option Addr} {len cap : Nat} {l : List Int} (h : ZRow w a len cap l) :
    ∀ b, a = some b → ∀ j u, (l.map fun x => Value.int .i64 x)[j]? = some u → w.cell? (b.add j) = some u := by
  intro b e j u hj
  rw [List.getElem?_map] at hj
  have hjl : j < l.length := by
    rcases Nat.lt_or_ge j l.length with h2 | h2
    · exact h2
    · rw [List.getElem?_eq_none h2] at hj; simp at hj
  have hj2 : j < len := by rw [← h.len_eq]; exact hjl
  obtain ⟨b', off, sp⟩ := b
  obtain rfl : sp = Option.none := h.spot _ e (by omega)
  rw [add_plain, h.cell b' off e j hj2, List.getD_eq_getElem?_getD, List.getElem?_eq_getElem hjl]
  rw [List.getElem?_eq_getElem hjl] at hj
  simpa using hj
theorem ints_eq {n : Nat} {la lb : List Int} (ha : la.length = n) (hb : lb.length = n) (h : ∀ j, j < n → la.getD j 0 = lb.getD j 0) : la = lb := by
  apply List.ext_getElem?
  intro i
  rcases Nat.lt_or_ge i n with hi | hi
  · have := h i hi
    rw [List.getD_eq_getElem?_getD, List.getD_eq_getElem?_getD, List.getElem?_eq_getElem (by omega), List.getElem?_eq_getElem (by omega)] at this
    rw [List.getElem?_eq_getElem (by omega), List.getElem?_eq_getElem (by omega)]
    exact congrArg some this
  · rw [List.getElem?_eq_none (by omega), List.getElem?_eq_none (by omega)]
theorem ZRow.slice {w : World} {b off len cap : Nat} {l : List Int} (h : ZRow w (some ⟨b, off, Option.none⟩) len cap l) (i n : Nat) (c : Nat) (hi : i + n ≤ len) (hc : n ≤ c) (hcc : c ≤ 9223372036854775807) :
    ZRow w (some ⟨b, off + i, Option.none⟩) n c ((l.drop i).take n) where
  len_eq := by have := h.len_eq; simp; omega
  le := hc
  most := by have := h.most; omega
  room := hcc
  none := (fun e => by cases e)
  cell := by
    intro b' off' e j hj
    cases e
    rw [Nat.add_assoc, h.cell b off rfl (i + j) (by omega)]
    rw [List.getD_eq_getElem?_getD, List.getD_eq_getElem?_getD, List.getElem?_take, if_pos hj, List.getElem?_drop]
  spot := by intro x e _; cases e; rfl
  old := by
    intro x e h0; cases e
    exact h.old ⟨b, off, Option.none⟩ rfl (by omega)
  wf := fun n hn => h.wf n (List.mem_of_mem_drop (List.mem_of_mem_take hn))
theorem QRow.slice {w : World} {b off len cap : Nat} {l : List (BitVec 64)} (h : QRow w (some ⟨b, off, Option.none⟩) len cap l) (i n : Nat) (c : Nat) (hi : i + n ≤ len) (hc : n ≤ c) (hcc : c ≤ 9223372036854775807) :
    QRow w (some ⟨b, off + i, Option.none⟩) n c ((l.drop i).take n) where
  len_eq := by have := h.len_eq; simp; omega
  le := hc
  most := by have := h.most; omega
  room := hcc
  none := (fun e => by cases e)
  cell := by
    intro b' off' e j hj
    cases e
    rw [Nat.add_assoc, h.cell b off rfl (i + j) (by omega)]
    rw [List.getD_eq_getElem?_getD, List.getD_eq_getElem?_getD, List.getElem?_take, if_pos hj, List.getElem?_drop]
  spot := by intro x e _; cases e; rfl
  old := by
    intro x e h0; cases e
    exact h.old ⟨b, off, Option.none⟩ rfl (by omega)
end Go.Bv
end
section
/- Numbers as lists of bits; contracts of the document's own Of, at, Word: for all words. -/
namespace Go.Bv
open Go Go.RowKit
set_option linter.unusedVariables false
set_option maxRecDepth 100000
/-- a number's bit -/
def bt (N i : Nat) : Int := ((N / 2 ^ i % 2 : Nat) : Int)
theorem bt_lt (N i : Nat) : 0 ≤ bt N i ∧ bt N i ≤ 1 := by unfold bt; omega
theorem bt_high {N i : Nat} (h : N < 2 ^ i) : bt N i = 0 := by unfold bt; rw [Nat.div_eq_of_lt h]; rfl
/-- a number's bits, the lowest first -/
def bitsOf (N n : Nat) : List Int := (List.range n).map (bt N)
theorem bitsOf_len (N n : Nat) : (bitsOf N n).length = n := by simp [bitsOf]
theorem bitsOf_at {N n i : Nat} (h : i < n) : (bitsOf N n).getD i 0 = bt N i := by
  unfold bitsOf; rw [List.getD_eq_getElem?_getD, List.getElem?_map, List.getElem?_range h]; rfl
theorem bitsOf_succ (N n : Nat) : bitsOf N (n + 1) = bitsOf N n ++ [bt N n] := by
  unfold bitsOf; rw [List.range_succ, List.map_append]; rfl
theorem bitsOf_wf (N n : Nat) : ∀ z ∈ bitsOf N n, In64 z := by
  intro z hz
  obtain ⟨i, _, rfl⟩ := List.mem_map.1 hz
  have := bt_lt N i
  unfold In64; omega
/-- a bit at any place; 0 where there is none -/
def btI (N : Nat) (i : Int) : Int := if i < 0 then 0 else bt N i.toNat
theorem btI_nat (N i : Nat) : btI N (i : Int) = bt N i := by unfold btI; rw [if_neg (by omega)]; rfl
theorem bt_step (N i : Nat) : N / 2 ^ i = 2 * (N / 2 ^ (i + 1)) + N / 2 ^ i % 2 := by
  rw [Nat.pow_succ, ← Nat.div_div_eq_div_mul]; omega
end Go.Bv
namespace Go.Proofs.YtfaobdmoifnglaaGreat
open Go.RowKit Go.Bv
set_option linter.unusedVariables false
theorem info_int : (Tryz.prog.info? 3).map (fun i => (i.zero, i.size, i.bytes)) = some (some (.int .i64 0), 1, 8) := by kernel_rfl
theorem new_cells_z (w : World) (cs : Array Value) (t : TypeId) : ∀ j u, cs.toList[j]? = some u → (w.alloc (.cells cs t)).cell? ((⟨w.heap.size, 0, none⟩ : Addr).add j) = some u := by
  intro j u h
  rw [add_plain, Nat.zero_add, World.cell?_alloc_new]
  simpa using h
theorem own_keep {w w' : World} {base : Nat} {e : TypeId} {size : Nat} {v : Value} {n : Nat} {xs : List Value} (h : w.ownsRow base e size v n xs) (hn : New w w') : w'.ownsRow base e size v n xs := by
  obtain ⟨hl, h⟩ := h
  refine ⟨hl, ?_⟩
  rcases h with h | ⟨g, cap, cur, hv, hb, hc, h2⟩
  · exact Or.inl h
  · exact Or.inr ⟨g, cap, cur, hv, hb, by rw [hn.block _ (lt_of_block hc)]; exact hc, h2⟩
set_option maxHeartbeats 1000000 in
theorem at_any (N n c : Nat) (a : Option Addr) (i : Int) (w : World) (hr : ZRow w a n c (bitsOf N n)) (hN : N < 2 ^ n) :
    Calls Tryz.prog 103 #[.slice a n c, .int .i64 i] w fun e w' => e = .returned (.int .i64 (btI N i)) ∧ w' = w := by
  have hm := hr.most
  by_cases h0 : i < 0
  · have HE : Hid (btI N i = 0) := Lib.hid (by unfold btI; rw [if_pos h0])
    go_enter Tryz.func103, Tryz.ntmps103
    go_wp2
    go_ret
    rw [HE.out]; exact ⟨rfl, rfl⟩
  · obtain ⟨k, rfl⟩ : ∃ k : Nat, i = (k : Int) := ⟨i.toNat, by omega⟩
    by_cases h1 : (n : Int) ≤ (k : Int)
    · have HE : Hid (btI N (k : Int) = 0) := Lib.hid (by
        rw [btI_nat]; exact bt_high (Nat.lt_of_lt_of_le hN (Nat.pow_le_pow_right (by omega) (by omega))))
      go_enter Tryz.func103, Tryz.ntmps103
      go_wp2
      go_ret
      rw [HE.out]; exact ⟨rfl, rfl⟩
    · obtain ⟨b, off, rfl, hc⟩ := hr.addr (by omega)
      have c1 := hc k (by omega)
      rw [bitsOf_at (by omega)] at c1
      have HE : Hid (btI N (k : Int) = bt N k) := Lib.hid (btI_nat N k)
      clear hc
      go_enter Tryz.func103, Tryz.ntmps103
      go_wp2
      go_ret
      rw [HE.out]; exact ⟨rfl, rfl⟩
set_option maxHeartbeats 1000000 in
theorem of_own (x : BitVec 64) (n : Int) (m : Nat) (hm : m ≤ 4096) (hnm : n = (m : Int)) (w : World) :
    Calls Tryz.prog 102 #[.int .u64 (W64 x), .int .i64 n] w fun e w' =>
      ∃ v, e = .returned v ∧ w'.ownsRow w.heap.size 3 1 v m ((bitsOf x.toNat m).map fun y => .int .i64 y) ∧ New w w' := by
  subst hnm
  obtain ⟨i0, hi, hz0, hz1, hz2⟩ := info_parts info_int
  go_enter Tryz.func102, Tryz.ntmps102
  go_wp2
  go_loopw [5, 6] (fun v i wr => ∃ k : Nat, k ≤ m ∧ i = .int .i64 k ∧ wr.ownsRow w.heap.size 3 1 v k ((bitsOf x.toNat k).map fun y => .int .i64 y) ∧ New w wr) (fun _ i _ => m - (intOf i).toNat)
  case atStart => exact ⟨0, by omega, rfl, World.ownsRow_nil w _ _ 1, New.refl w⟩
  case round =>
    obtain ⟨k, hk, rfl, hown, hnew⟩ := hrel
    by_cases hlt : (k : Int) < m
    · by_cases h64 : (k : Int) < 64
      · have hs : N64 (BitVec.ofNat 64 k) = k := by show (BitVec.ofNat 64 k).toNat = k; rw [BitVec.toNat_ofNat]; exact Nat.mod_eq_of_lt (by omega)
        have hk0 : 0 ≤ (k : Int) := by omega
        have e6 : wrap64 (W64 (x >>> k % 2#64)) = bt x.toNat k := by
          have e : W64 (x >>> k % 2#64) = bt x.toNat k := by
            unfold W64 bt; rw [BitVec.toNat_umod, BitVec.toNat_ushiftRight, Nat.shiftRight_eq_div_pow]; rfl
          have := bt_lt x.toNat k
          rw [e]; unfold wrap64; omega
        go_wp2_with (at_builtin; refine wpList_append_own _ rfl _ _ 67 rfl w.heap.size 3 i0 (.int .i64 0) 1 8 Tryz.underlying67 hi hz0 hz1 hz2 rfl (by decide) _ k _ rfl (hown.alloc _) ⟨wr.heap.size, 0, none⟩ 1 1 [.int .i64 (bt x.toNat k)] rfl rfl ?c1 ?c2 ?c3 ?c4 ?c5 ?_)
        case c1 => exact new_cells_z wr _ _
        case c2 => intro u hu; simp at hu; subst hu; rfl
        case c3 => unfold maxLen; omega
        case c4 => omega
        case c5 => simp; have := hnew.le; omega
        intro v' w1 how hgr _
        have how2 : w1.ownsRow w.heap.size 3 1 v' (k + 1) ((bitsOf x.toNat (k + 1)).map fun y => .int .i64 y) := by
          rw [bitsOf_succ, List.map_append]; exact how
        have hn1 : New w w1 := (hnew.alloc _).grown' hgr (own_base hown)
        clear how hgr
        go_wp2
        exact ⟨⟨k + 1, by omega, by go_num, how2, hn1⟩, by simp [intOf]; omega⟩
      · have HZ : Hid (bt x.toNat k = 0) := Lib.hid (bt_high (Nat.lt_of_lt_of_le x.isLt (Nat.pow_le_pow_right (by omega) (by omega))))
        go_wp2_with (at_builtin; refine wpList_append_own _ rfl _ _ 67 rfl w.heap.size 3 i0 (.int .i64 0) 1 8 Tryz.underlying67 hi hz0 hz1 hz2 rfl (by decide) _ k _ rfl (hown.alloc _) ⟨wr.heap.size, 0, none⟩ 1 1 [.int .i64 0] rfl rfl ?c1 ?c2 ?c3 ?c4 ?c5 ?_)
        case c2 => rfl
        case c3 => unfold maxLen; omega
        case c4 => omega
        case c5 => have := hnew.le; omega
        intro v' w1 how hgr _
        have how2 : w1.ownsRow w.heap.size 3 1 v' (k + 1) ((bitsOf x.toNat (k + 1)).map fun y => .int .i64 y) := by
          rw [bitsOf_succ, List.map_append]
          show w1.ownsRow _ _ _ _ _ (_ ++ [.int .i64 (bt x.toNat k)])
          rw [HZ.out]; exact how
        have hn1 : New w w1 := (hnew.alloc _).grown' hgr (own_base hown)
        clear how hgr
        go_wp2
        exact ⟨⟨k + 1, by omega, by go_num, how2, hn1⟩, by simp [intOf]; omega⟩
    · obtain rfl : k = m := by omega
      go_wp2
      go_ret
      exact ⟨_, rfl, hown, hnew⟩
set_option maxHeartbeats 1000000 in
theorem word_any (N n c f : Nat) (a : Option Addr) (w : World) (hr : ZRow w a n c (bitsOf N n)) (hN : N < 2 ^ n) (hf : f ≤ 4096) :
    Calls Tryz.prog 105 #[.slice a n c, .int .i64 f] w fun e w' => e = .returned (.int .u64 (W64 (BitVec.ofNat 64 (N / 2 ^ f)))) ∧ w' = w := by
  have hm := hr.most
  have HST : Hid (BitVec.ofNat 64 (N / 2 ^ f / 2 ^ 64 * 2 ^ 64 / 2 ^ 64) = BitVec.ofNat 64 (N / 2 ^ f / 2 ^ 64)) := Lib.hid (by rw [Nat.mul_div_cancel _ (Nat.two_pow_pos 64)])
  have H0 : Hid (W64 0#64 = 0) := Lib.hid (W64_lit 0 (by omega))
  have HEND : Hid (∀ o : BitVec 64, o = BitVec.ofNat 64 (N / 2 ^ (f + 0)) - BitVec.ofNat 64 (N / 2 ^ (f + 64)) * BitVec.ofNat 64 (2 ^ 64) → o = BitVec.ofNat 64 (N / 2 ^ f)) := Lib.hid (by
    intro o h
    rw [h, show BitVec.ofNat 64 (2 ^ 64) = 0#64 from rfl, BitVec.mul_zero, BitVec.sub_zero, Nat.add_zero])
  go_enter Tryz.func105, Tryz.ntmps105
  go_wp2
  go_loop [5, 6] (fun O I => ∃ (o : BitVec 64) (j : Nat), j ≤ 64 ∧ I = .int .i64 ((j : Int) - 1) ∧ O = .int .u64 (W64 o) ∧ Hid (o = BitVec.ofNat 64 (N / 2 ^ (f + j)) - BitVec.ofNat 64 (N / 2 ^ (f + 64)) * BitVec.ofNat 64 (2 ^ (64 - j)))) (fun _ I => (intOf I + 1).toNat)
  case atStart => exact ⟨0#64, 64, by omega, rfl, congrArg (Value.int .u64) H0.out.symm, Lib.hid (by rw [show 64 - 64 = 0 by omega, Nat.pow_zero, show BitVec.ofNat 64 1 = 1#64 from rfl, BitVec.mul_one, BitVec.sub_self])⟩
  case round =>
    obtain ⟨o, j, hj, rfl, rfl, H⟩ := hrel
    by_cases h0 : j = 0
    · subst h0
      have HE : Hid (o = BitVec.ofNat 64 (N / 2 ^ f)) := Lib.hid (HEND.out o H.out)
      clear H
      go_wp2
      go_ret
      rw [HE.out]
      exact ⟨rfl, rfl⟩
    · obtain ⟨m, rfl⟩ : ∃ m, j = m + 1 := ⟨j - 1, by omega⟩
      have ei : ((m + 1 : Nat) : Int) - 1 = (m : Int) := by omega
      rw [ei]
      have hw1 : wrap64 ((m : Int) - 1) = (m : Int) - 1 := by unfold wrap64; omega
      have hw2 : wrap64 ((f : Int) + (m : Int)) = (f : Int) + (m : Int) := by unfold wrap64; omega
      have hstep : ∀ b : BitVec 64, b = BitVec.ofNat 64 (N / 2 ^ (f + m) % 2) → o * 2#64 + b = BitVec.ofNat 64 (N / 2 ^ (f + m)) - BitVec.ofNat 64 (N / 2 ^ (f + 64)) * BitVec.ofNat 64 (2 ^ (64 - m)) := by
        intro b hb
        rw [H.out, hb]
        have e1 : BitVec.ofNat 64 (N / 2 ^ (f + m)) = BitVec.ofNat 64 (N / 2 ^ (f + (m + 1))) * 2#64 + BitVec.ofNat 64 (N / 2 ^ (f + m) % 2) := by
          conv => lhs; rw [bt_step N (f + m)]
          rw [BitVec.ofNat_add, BitVec.ofNat_mul, BitVec.mul_comm]; rfl
        have e2 : BitVec.ofNat 64 (2 ^ (64 - m)) = BitVec.ofNat 64 (2 ^ (64 - (m + 1))) * 2#64 := by
          rw [show 64 - m = 64 - (m + 1) + 1 by omega, Nat.pow_succ, BitVec.ofNat_mul]
        rw [e1, e2]
        generalize BitVec.ofNat 64 (N / 2 ^ (f + (m + 1))) = p
        generalize BitVec.ofNat 64 (N / 2 ^ (f + m) % 2) = q
        generalize BitVec.ofNat 64 (N / 2 ^ (f + 64)) = r
        generalize BitVec.ofNat 64 (2 ^ (64 - (m + 1))) = s
        grind
      have HM : Hid (((m : Int) - 1 + 1).toNat < ((m : Int) + 1).toNat) := Lib.hid (by omega)
      by_cases hin : (f : Int) + (m : Int) < (n : Int)
      · obtain ⟨b, off, rfl, hc⟩ := hr.addr (by omega)
        have c1 := hc (f + m) (by omega)
        rw [bitsOf_at (by omega)] at c1
        have ht : ((f : Int) + (m : Int)).toNat = f + m := by omega
        have HG := Lib.hid (hstep (BitVec.ofInt 64 (bt N (f + m))) (by
          unfold bt; apply BitVec.eq_of_toNat_eq; rw [BitVec.toNat_ofInt, BitVec.toNat_ofNat]; omega))
        clear hc hstep H
        generalize bt N (f + m) = z at c1 HG
        go_wp2
        exact ⟨⟨_, m, by omega, rfl, rfl, HG⟩, by simp [intOf]⟩
      · have HG := Lib.hid (hstep 0#64 (by
          have : N / 2 ^ (f + m) = 0 := Nat.div_eq_of_lt (Nat.lt_of_lt_of_le hN (Nat.pow_le_pow_right (by omega) (by omega)))
          rw [this]))
        rw [BitVec.add_zero] at HG
        clear hstep H
        go_wp2
        exact ⟨⟨_, m, by omega, rfl, rfl, HG⟩, by simp [intOf]⟩
end Go.Proofs.YtfaobdmoifnglaaGreat
end
section
/- Contracts of the document's own Add, Sub, Shl, Cmp and To2 of numbers as lists of bits. -/
namespace Go.Bv
open Go Go.RowKit
set_option linter.unusedVariables false
set_option maxRecDepth 100000
/-- what is carried from the lowest bits of a sum -/
def cy (A B k : Nat) : Nat := (A % 2 ^ k + B % 2 ^ k) / 2 ^ k
theorem cy_zero (A B : Nat) : cy A B 0 = 0 := by unfold cy; simp [Nat.mod_one]
theorem cy_le (A B k : Nat) : cy A B k ≤ 1 := by
  unfold cy
  have h1 := Nat.mod_lt A (Nat.two_pow_pos k)
  have h2 := Nat.mod_lt B (Nat.two_pow_pos k)
  have : (A % 2 ^ k + B % 2 ^ k) / 2 ^ k < 2 := by rw [Nat.div_lt_iff_lt_mul (Nat.two_pow_pos k)]; omega
  omega
theorem mod_bit (A k : Nat) : A % 2 ^ (k + 1) = A % 2 ^ k + 2 ^ k * (A / 2 ^ k % 2) := by rw [Nat.pow_succ, Nat.mod_mul]
theorem cy_succ (A B k : Nat) : cy A B (k + 1) = (A / 2 ^ k % 2 + B / 2 ^ k % 2 + cy A B k) / 2 := by
  unfold cy
  rw [mod_bit A k, mod_bit B k, Nat.pow_succ, ← Nat.div_div_eq_div_mul]
  congr 1
  generalize A / 2 ^ k % 2 = p
  generalize B / 2 ^ k % 2 = q
  rw [show A % 2 ^ k + 2 ^ k * p + (B % 2 ^ k + 2 ^ k * q) = 2 ^ k * (p + q) + (A % 2 ^ k + B % 2 ^ k) by rw [Nat.mul_add]; omega]
  exact Nat.mul_add_div (Nat.two_pow_pos k) _ _
theorem add_bit (A B k : Nat) : (A + B) / 2 ^ k % 2 = (A / 2 ^ k % 2 + B / 2 ^ k % 2 + cy A B k) % 2 := by
  have h1 := Nat.div_add_mod A (2 ^ k)
  have h2 := Nat.div_add_mod B (2 ^ k)
  have e : A + B = 2 ^ k * (A / 2 ^ k + B / 2 ^ k) + (A % 2 ^ k + B % 2 ^ k) := by rw [Nat.mul_add]; omega
  have e2 : (A + B) / 2 ^ k = A / 2 ^ k + B / 2 ^ k + cy A B k := by
    conv => lhs; rw [e]
    exact Nat.mul_add_div (Nat.two_pow_pos k) _ _
  rw [e2]; omega
theorem shl_bit (A b i : Nat) : bt (A * 2 ^ b) i = btI A ((i : Int) - (b : Int)) := by
  by_cases h : i < b
  · unfold btI
    rw [if_pos (by omega)]
    unfold bt
    obtain ⟨d, rfl⟩ : ∃ d, b = i + (d + 1) := ⟨b - i - 1, by omega⟩
    rw [Nat.pow_add, show A * (2 ^ i * 2 ^ (d + 1)) = 2 ^ i * (A * 2 ^ (d + 1)) by grind, Nat.mul_div_cancel_left _ (Nat.two_pow_pos i), Nat.pow_succ, ← Nat.mul_assoc, Nat.mul_mod_left]; rfl
  · unfold btI
    rw [if_neg (by omega)]
    obtain ⟨d, rfl⟩ : ∃ d, i = b + d := ⟨i - b, by omega⟩
    rw [show (((b + d : Nat) : Int) - (b : Int)).toNat = d by omega]
    unfold bt
    rw [Nat.pow_add, ← Nat.div_div_eq_div_mul, Nat.mul_div_cancel _ (Nat.two_pow_pos b)]
theorem top_bits {A B k : Nat} (h : A / 2 ^ (k + 1) = B / 2 ^ (k + 1)) : (A / 2 ^ k % 2 = B / 2 ^ k % 2 → A / 2 ^ k = B / 2 ^ k) ∧ (A / 2 ^ k % 2 < B / 2 ^ k % 2 → A < B) := by
  have h1 := bt_step A k
  have h2 := bt_step B k
  refine ⟨fun e => by omega, fun e => ?_⟩
  have h3 : A / 2 ^ k < B / 2 ^ k := by omega
  rcases Nat.lt_or_ge A B with h4 | h4
  · exact h4
  · exact absurd (Nat.div_le_div_right (c := 2 ^ k) h4) (by omega)
def cmpN (A B : Nat) : Int := if A < B then -1 else if B < A then 1 else 0
theorem bitsOf_mod (N n : Nat) : bitsOf (N % 2 ^ n) n = bitsOf N n := by
  unfold bitsOf
  apply List.map_congr_left
  intro i hi
  have hi := List.mem_range.1 hi
  unfold bt
  congr 1
  rw [← Nat.mod_mul_right_div_self, ← Nat.mod_mul_right_div_self, ← Nat.pow_succ, Nat.mod_mod_of_dvd]
  exact Nat.pow_dvd_pow 2 (by omega)
end Go.Bv
namespace Go.Proofs.YtfaobdmoifnglaaGreat
open Go.RowKit Go.Bv
set_option linter.unusedVariables false
theorem bits_row {w : World} {base : Nat} {v : Value} {n N : Nat} (h : w.ownsRow base 3 1 v n ((bitsOf N n).map fun y => .int .i64 y)) (hn : n ≤ 4096) :
    ∃ a c, v = .slice a n c ∧ ZRow w a n c (bitsOf N n) := ZRow.of_owns h (by omega) (bitsOf_wf N n)
set_option maxHeartbeats 1000000 in
theorem badd_own (A B na nb ca cb : Nat) (a b : Option Addr) (n : Int) (m : Nat) (hnm : n = (m : Int)) (hm : m ≤ 4096) (w : World) (ha : ZRow w a na ca (bitsOf A na)) (hA : A < 2 ^ na) (hb : ZRow w b nb cb (bitsOf B nb)) (hB : B < 2 ^ nb) :
    Calls Tryz.prog 55 #[.slice a na ca, .slice b nb cb, .int .i64 n] w fun e w' =>
      ∃ v, e = .returned (.tuple #[v, .int .i64 (cy A B m : Nat)]) ∧ w'.ownsRow w.heap.size 3 1 v m ((bitsOf (A + B) m).map fun y => .int .i64 y) ∧ New w w' := by
  subst hnm
  obtain ⟨i0, hi, hz0, hz1, hz2⟩ := info_parts info_int
  have H0 : Hid (cy A B 0 = 0) := Lib.hid (cy_zero A B)
  go_enter Tryz.func55, Tryz.ntmps55
  go_wp2
  go_loopw [8, 9, 10] (fun v cc i wr => ∃ k : Nat, k ≤ m ∧ i = .int .i64 k ∧ cc = .int .i64 (cy A B k : Nat) ∧ wr.ownsRow w.heap.size 3 1 v k ((bitsOf (A + B) k).map fun y => .int .i64 y) ∧ New w wr) (fun _ _ i _ => m - (intOf i).toNat)
  case atStart => exact ⟨0, by omega, rfl, by rw [H0.out]; rfl, World.ownsRow_nil w _ _ 1, New.refl w⟩
  case round =>
    obtain ⟨k, hk, rfl, rfl, hown, hnew⟩ := hrel
    by_cases hlt : (k : Int) < m
    · have ha' := ha.stay hnew
      have hb' := hb.stay hnew
      have hcl := cy_le A B k
      have HS : Hid ((bt A k + bt B k + (cy A B k : Nat)) % 2 = bt (A + B) k ∧ (bt A k + bt B k + (cy A B k : Nat)) / 2 = (cy A B (k + 1) : Nat)) := Lib.hid (by
        have h1 := add_bit A B k
        have h2 := cy_succ A B k
        unfold bt
        rw [h1, h2]
        omega)
      have HA : Hid (∀ w, ZRow w a na ca (bitsOf A na) → Calls Tryz.prog 103 #[.slice a na ca, .int .i64 (k : Int)] w fun e w' => e = .returned (.int .i64 (bt A k)) ∧ w' = w) := Lib.hid fun w h => by
        have := at_any A na ca a (k : Int) w h hA
        rw [btI_nat] at this; exact this
      have HB : Hid (∀ w, ZRow w b nb cb (bitsOf B nb) → Calls Tryz.prog 103 #[.slice b nb cb, .int .i64 (k : Int)] w fun e w' => e = .returned (.int .i64 (bt B k)) ∧ w' = w) := Lib.hid fun w h => by
        have := at_any B nb cb b (k : Int) w h hB
        rw [btI_nat] at this; exact this
      have hp := bt_lt A k
      have hq := bt_lt B k
      have hr : bitsOf (A + B) (k + 1) = bitsOf (A + B) k ++ [bt (A + B) k] := bitsOf_succ _ _
      have HR := Lib.hid hr
      clear hr
      generalize bt A k = p at *
      generalize bt B k = q at *
      generalize bt (A + B) k = s at *
      obtain ⟨c2, hc2⟩ : ∃ c2 : Int, ((cy A B (k + 1) : Nat) : Int) = c2 := ⟨_, rfl⟩
      rw [hc2] at HS
      have HC2 := Lib.hid hc2
      clear hc2
      generalize (cy A B k : Nat) = c1 at *
      have e1 : wrap64 (p + q) = p + q := by unfold wrap64; omega
      have e2 : wrap64 (p + q + (c1 : Int)) = p + q + (c1 : Int) := by unfold wrap64; omega
      have e3 : (p + q + (c1 : Int)).tmod 2 = s := by rw [Int.tmod_eq_emod_of_nonneg (by omega)]; exact HS.out.1
      have e4 : (p + q + (c1 : Int)).tdiv 2 = c2 := by rw [Int.tdiv_eq_ediv_of_nonneg (by omega)]; exact HS.out.2
      have e5 : wrap64 c2 = c2 := by have := HS.out.2; unfold wrap64; omega
      go_wp2_with fail
      refine (HA.out _ ha').mono ?_
      rintro e w' ⟨rfl, rfl⟩
      go_wp2_with fail
      refine (HB.out _ hb').mono ?_
      rintro e w' ⟨rfl, rfl⟩
      go_wp2_with (at_builtin; refine wpList_append_own _ rfl _ _ 67 rfl w.heap.size 3 i0 (.int .i64 0) 1 8 Tryz.underlying67 hi hz0 hz1 hz2 rfl (by decide) _ k _ rfl (hown.alloc _) ⟨w'.heap.size, 0, none⟩ 1 1 [.int .i64 (s)] rfl rfl ?c1 ?c2 ?c3 ?c4 ?c5 ?_)
      case c1 => exact new_cells_z w' _ _
      case c2 => intro u hu; simp at hu; subst hu; rfl
      case c3 => unfold maxLen; omega
      case c4 => omega
      case c5 => simp; have := hnew.le; omega
      intro v' w1 how hgr _
      have how2 : w1.ownsRow w.heap.size 3 1 v' (k + 1) ((bitsOf (A + B) (k + 1)).map fun y => .int .i64 y) := by
        rw [HR.out, List.map_append]; exact how
      have hn1 : New w w1 := (hnew.alloc _).grown' hgr (own_base hown)
      clear how hgr
      go_wp2
      exact ⟨⟨k + 1, by omega, by go_num, by first | rw [e5, HC2.out] | rw [HC2.out], how2, hn1⟩, by simp [intOf]; omega⟩
    · obtain rfl : k = m := by omega
      go_wp2
      go_ret2
      exact ⟨_, rfl, hown, hnew⟩
set_option maxHeartbeats 1000000 in
theorem bshl_own (A na ca by_ : Nat) (a : Option Addr) (n : Int) (m : Nat) (hnm : n = (m : Int)) (hm : m ≤ 4096) (hby : by_ ≤ 4096) (w : World) (ha : ZRow w a na ca (bitsOf A na)) (hA : A < 2 ^ na) :
    Calls Tryz.prog 104 #[.slice a na ca, .int .i64 (by_ : Int), .int .i64 n] w fun e w' =>
      ∃ v, e = .returned v ∧ w'.ownsRow w.heap.size 3 1 v m ((bitsOf (A * 2 ^ by_) m).map fun y => .int .i64 y) ∧ New w w' := by
  subst hnm
  obtain ⟨i0, hi, hz0, hz1, hz2⟩ := info_parts info_int
  go_enter Tryz.func104, Tryz.ntmps104
  go_wp2
  go_loopw [7, 8] (fun v i wr => ∃ k : Nat, k ≤ m ∧ i = .int .i64 k ∧ wr.ownsRow w.heap.size 3 1 v k ((bitsOf (A * 2 ^ by_) k).map fun y => .int .i64 y) ∧ New w wr) (fun _ i _ => m - (intOf i).toNat)
  case atStart => exact ⟨0, by omega, rfl, World.ownsRow_nil w _ _ 1, New.refl w⟩
  case round =>
    obtain ⟨k, hk, rfl, hown, hnew⟩ := hrel
    by_cases hlt : (k : Int) < m
    · have ha' := ha.stay hnew
      have e1 : wrap64 ((k : Int) - (by_ : Int)) = (k : Int) - (by_ : Int) := by unfold wrap64; omega
      have HA : Hid (∀ w, ZRow w a na ca (bitsOf A na) → Calls Tryz.prog 103 #[.slice a na ca, .int .i64 ((k : Int) - (by_ : Int))] w fun e w' => e = .returned (.int .i64 (bt (A * 2 ^ by_) k)) ∧ w' = w) := Lib.hid fun w h => by
        rw [shl_bit]; exact at_any A na ca a _ w h hA
      have HR := Lib.hid (bitsOf_succ (A * 2 ^ by_) k)
      generalize bt (A * 2 ^ by_) k = s at *
      go_wp2_with fail
      refine (HA.out _ ha').mono ?_
      rintro e w' ⟨rfl, rfl⟩
      go_wp2_with (at_builtin; refine wpList_append_own _ rfl _ _ 67 rfl w.heap.size 3 i0 (.int .i64 0) 1 8 Tryz.underlying67 hi hz0 hz1 hz2 rfl (by decide) _ k _ rfl (hown.alloc _) ⟨w'.heap.size, 0, none⟩ 1 1 [.int .i64 (s)] rfl rfl ?c1 ?c2 ?c3 ?c4 ?c5 ?_)
      case c1 => exact new_cells_z w' _ _
      case c2 => intro u hu; simp at hu; subst hu; rfl
      case c3 => unfold maxLen; omega
      case c4 => omega
      case c5 => simp; have := hnew.le; omega
      intro v' w1 how hgr _
      have how2 : w1.ownsRow w.heap.size 3 1 v' (k + 1) ((bitsOf (A * 2 ^ by_) (k + 1)).map fun y => .int .i64 y) := by
        rw [HR.out, List.map_append]; exact how
      have hn1 : New w w1 := (hnew.alloc _).grown' hgr (own_base hown)
      clear how hgr
      go_wp2
      exact ⟨⟨k + 1, by omega, by go_num, how2, hn1⟩, by simp [intOf]; omega⟩
    · obtain rfl : k = m := by omega
      go_wp2
      go_ret
      exact ⟨_, rfl, hown, hnew⟩
set_option maxHeartbeats 1000000 in
theorem to2_any (N n c : Nat) (a : Option Addr) (w : World) (hr : ZRow w a n c (bitsOf N n)) (hN : N < 2 ^ n) :
    Calls Tryz.prog 57 #[.slice a n c] w fun e w' => e = .returned (.agg #[.int .u64 (W64 (BitVec.ofNat 64 (N / 2 ^ 64))), .int .u64 (W64 (BitVec.ofNat 64 N))]) ∧ New w w' := by
  have h1 := fun w h => word_any N n c 64 a w h hN (by omega)
  have h2 := fun w h => word_any N n c 0 a w h hN (by omega)
  rw [Nat.pow_zero, Nat.div_one] at h2
  have H1 := Lib.hid h1
  have H2 := Lib.hid h2
  clear h1 h2
  generalize BitVec.ofNat 64 (N / 2 ^ 64) = y1 at *
  generalize BitVec.ofNat 64 N = y0 at *
  go_enter Tryz.func57, Tryz.ntmps57
  have hr2 := hr.stay ((New.refl w).alloc (.cells #[.int .u64 0, .int .u64 0] 74))
  go_wp2_with fail
  refine (H1.out _ hr2).mono ?_
  rintro e w' ⟨rfl, rfl⟩
  go_wp2_with fail
  refine (H2.out _ hr2).mono ?_
  rintro e w' ⟨rfl, rfl⟩
  go_wp2
  go_returns
  exact ⟨rfl, (New.refl w).alloc _⟩
end Go.Proofs.YtfaobdmoifnglaaGreat
end
