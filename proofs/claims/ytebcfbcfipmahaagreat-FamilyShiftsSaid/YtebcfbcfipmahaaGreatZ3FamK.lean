import Derived.Test.YtebcfbcfipmahaaGreatZ3FamJ
import Derived.Test.YtebcfbcfipmahaaGreatZ3BitQ
import Derived.Test.YtebcfbcfipmahaaGreatZ3TwiB
import Derived.Test.YtebcfbcfipmahaaGreatZ3MxD
import Derived.Test.YtebcfbcfipmahaaGreatZ3StrG
import Derived.Test.YtebcfbcfipmahaaGreatZ3MxC
import Derived.Test.YtebcfbcfipmahaaGreatZ3Grow
import Derived.Test.YtebcfbcfipmahaaGreatZ3StrB
import Derived.Laws.CopyOwn
section
/- Layer 27: values by each kind of seeds that are right. -/
namespace Go.Bv
open Go Go.RowKit
def SV (n : Nat) (v : Value) : Prop := ∃ a c, v = .slice a n c
def SR (l : List (BitVec 8)) (n : Nat) (v : Value) (w : World) : Prop := ∀ a c, v = .slice a n c → BRow w a n c l
theorem SV.some (n : Nat) : ∃ v, SV n v := ⟨.slice none n 0, none, 0, rfl⟩
theorem SR.stay {l : List (BitVec 8)} {n : Nat} {v : Value} {w w' : World} (h : SR l n v w) (hn : New w w') : SR l n v w' := fun a c e => (h a c e).stay hn
theorem SR.row {l : List (BitVec 8)} {n c : Nat} {a : Option Addr} {w : World} (h : SR l n (.slice a n c) w) : BRow w a n c l := h a c rfl
end Go.Bv
namespace Go.Proofs.YtebcfbcfipmahaaGreat
open Go.RowKit Go.Bv
set_option linter.unusedVariables false
set_option maxRecDepth 100000
/-- a word's value by a seed of one odd word -/
def vOdd (b : Int) (l : List (BitVec 64)) (x : BitVec 64) : BitVec 64 := ((l.getD 0 0#64) * x) >>> (64 - b.toNat)
/-- a word's value by a seed of two numbers; what is wrong with it -/
def kdK (k : Int) : Nat := if k = 3 then 32 else 64
def wdK (k : Int) : Nat := if k = 3 then 64 else 128
def fitK (k : Int) (x : BitVec 64) : Bool := x >>> (kdK k) == 0#64
def vSum (k b : Int) (l : List (BitVec 64)) (x : BitVec 64) : BitVec 64 := if fitK k x = true then loN ((numA k l * x.toNat + numB k l) % 2 ^ (wdK k) / 2 ^ (wdK k - b.toNat)) else 0#64
def eSum (k : Int) (x : BitVec 64) : Int := if fitK k x = true then 0 else 2
def vTab (k b : Int) (l : List (BitVec 64)) (x : BitVec 64) : BitVec 64 := if k = 5 then evV l b 128 x else if k = 6 then teV l b x else meV l b x
def eTab (k b : Int) (l : List (BitVec 64)) (x : BitVec 64) : Int := evE b l.length (if k = 5 then 128 else if k = 6 then 240 else 320) x
set_option maxHeartbeats 1000000 in
theorem ev_sum3 (b : Int) (g off n c : Nat) (l : List (BitVec 64)) (x : BitVec 64) (w : World) (h : QRow w (some ⟨g, off, none⟩) n c l) (hn : n = 2) (hb0 : 1 ≤ b) (hb1 : b ≤ 32) : Calls Tryz.prog 83 #[.agg (sdc 3 b (some ⟨g, off, none⟩) n c), .int .u64 (W64 x)] w fun e w' => e = .returned (.tuple #[.int .u64 (W64 (vSum 3 b l x)), .int .i64 (eSum 3 x)]) ∧ New w w' := by
  generalize hW : w.alloc (.cells (sdc 3 b (some ⟨g, off, none⟩) n c) 30) = w0
  have HB : Hid (w0.heap[w.heap.size]? = some (.cells (sdc 3 b (some ⟨g, off, none⟩) n c) 30 (0, 0))) := Lib.hid (by rw [← hW]; exact heap_alloc_new w _)
  have HN : Hid (New w w0) := Lib.hid (by rw [← hW]; exact (New.refl w).alloc _)
  have HROW := Lib.hid (h.stay HN.out)
  have HNB := Lib.hid (numbers_3 b g off n c l w0 HROW.out hn)
  have hA : numA 3 l < 2 ^ 64 := by have := (l.getD 0 0#64).isLt; unfold numA; rw [if_pos rfl]; omega
  have hB : numB 3 l < 2 ^ 64 := by have := (l.getD 1 0#64).isLt; unfold numB; rw [if_pos rfl]; omega
  obtain ⟨j, rfl⟩ : ∃ j : Nat, b = (j : Int) := ⟨b.toNat, by omega⟩
  have HS := Lib.hid (fun w => shape_add w)
  have HC := Lib.hid (check_ok (numA 3 l) (numB 3 l) 64 32 (Nat.lt_of_lt_of_le hA (by decide)) (Nat.lt_of_lt_of_le hB (by decide)) (by omega) 3 (j : Int) hb0 hb1 hA hB HS)
  have HM : Hid (∀ w : World, Calls Tryz.prog 85 #[.int .i64 3, .int .i64 (j : Int), .agg #[.int .u64 (W64 (hiN (numA 3 l))), .int .u64 (W64 (loN (numA 3 l)))], .agg #[.int .u64 (W64 (hiN (numB 3 l))), .int .u64 (W64 (loN (numB 3 l)))], .int .u64 (W64 x)] w fun e w' => e = .returned (.tuple #[.int .u64 (W64 (vSum 3 (j : Int) l x)), .int .i64 (eSum 3 x)]) ∧ New w w') := Lib.hid (by
    intro w
    unfold vSum eSum
    have ek : kdK 3 = 32 := rfl
    have ew : wdK 3 = 64 := rfl
    cases hf : fitK 3 x
    · exact eval_no (numA 3 l) (numB 3 l) 64 32 j x (Nat.lt_of_lt_of_le hA (by decide)) (Nat.lt_of_lt_of_le hB (by decide)) (by omega) (by omega) 3 hf HS HC w
    · exact eval_okA (numA 3 l) (numB 3 l) 64 32 j x (Nat.lt_of_lt_of_le hA (by decide)) (Nat.lt_of_lt_of_le hB (by decide)) (by omega) (by omega) 3 hf HS HC w)
  clear hA hB HS HC h HROW hn hb0 hb1
  generalize vSum 3 (j : Int) l x = v at *
  generalize eSum 3 x = ee at *
  generalize numA 3 l = A at *
  generalize numB 3 l = B at *
  have c0 := cell_of_row _ _ 0 _ _ _ HB.out
  have c1 := cell_of_row _ _ 1 _ _ _ HB.out
  have c2 := cell_of_row _ _ 2 _ _ _ HB.out
  go_enter Tryz.func83, Tryz.ntmps83
  go_wp2_with fail
  refine HNB.out.mono ?_
  rintro e w1 ⟨rfl, hn1⟩
  have HP := Lib.hid (two_blocks w1 (.cells #[.int .u64 (W64 (hiN (A))), .int .u64 (W64 (loN (A)))] 63) (.cells #[.int .u64 (W64 (hiN (B))), .int .u64 (W64 (loN (B)))] 63))
  have hb := (((hn1.alloc (.cells #[.int .u64 (W64 (hiN (A))), .int .u64 (W64 (loN (A)))] 63)).alloc (.cells #[.int .u64 (W64 (hiN (B))), .int .u64 (W64 (loN (B)))] 63)).block _ (lt_of_block HB.out)).trans HB.out
  have HN1 := Lib.hid (HN.out.trans ((hn1.alloc (.cells #[.int .u64 (W64 (hiN (A))), .int .u64 (W64 (loN (A)))] 63)).alloc (.cells #[.int .u64 (W64 (hiN (B))), .int .u64 (W64 (loN (B)))] 63)))
  clear c0 c1 c2 hn1 HNB
  have c0 := cell_of_row _ _ 0 _ _ _ hb
  have c1 := cell_of_row _ _ 1 _ _ _ hb
  have c2 := cell_of_row _ _ 2 _ _ _ hb
  clear hb
  go_wp2_with fail
  refine (HM.out _).mono ?_
  rintro e w2 ⟨rfl, hn2⟩
  replace HN1 := Lib.hid (HN1.out.trans hn2)
  clear hn2 HM c0 c1 c2
  go_wp2
  go_ret2
  exact ⟨rfl, HN1.out⟩
set_option maxHeartbeats 1000000 in
theorem ev_sum4 (b : Int) (g off n c : Nat) (l : List (BitVec 64)) (x : BitVec 64) (w : World) (h : QRow w (some ⟨g, off, none⟩) n c l) (hn : n = 4) (hb0 : 1 ≤ b) (hb1 : b ≤ 64) : Calls Tryz.prog 83 #[.agg (sdc 4 b (some ⟨g, off, none⟩) n c), .int .u64 (W64 x)] w fun e w' => e = .returned (.tuple #[.int .u64 (W64 (vSum 4 b l x)), .int .i64 (eSum 4 x)]) ∧ New w w' := by
  generalize hW : w.alloc (.cells (sdc 4 b (some ⟨g, off, none⟩) n c) 30) = w0
  have HB : Hid (w0.heap[w.heap.size]? = some (.cells (sdc 4 b (some ⟨g, off, none⟩) n c) 30 (0, 0))) := Lib.hid (by rw [← hW]; exact heap_alloc_new w _)
  have HN : Hid (New w w0) := Lib.hid (by rw [← hW]; exact (New.refl w).alloc _)
  have HROW := Lib.hid (h.stay HN.out)
  have HNB := Lib.hid (numbers_4 b g off n c l w0 HROW.out hn)
  have hA : numA 4 l < 2 ^ 128 := by have := (l.getD 0 0#64).isLt; have := (l.getD 1 0#64).isLt; unfold numA; rw [if_neg (by omega)]; omega
  have hB : numB 4 l < 2 ^ 128 := by have := (l.getD 2 0#64).isLt; have := (l.getD 3 0#64).isLt; unfold numB; rw [if_neg (by omega)]; omega
  obtain ⟨j, rfl⟩ : ∃ j : Nat, b = (j : Int) := ⟨b.toNat, by omega⟩
  have HS := Lib.hid (fun w => shape_wide w)
  have HC := Lib.hid (check_ok (numA 4 l) (numB 4 l) 128 64 (Nat.lt_of_lt_of_le hA (by decide)) (Nat.lt_of_lt_of_le hB (by decide)) (by omega) 4 (j : Int) hb0 hb1 hA hB HS)
  have HM : Hid (∀ w : World, Calls Tryz.prog 85 #[.int .i64 4, .int .i64 (j : Int), .agg #[.int .u64 (W64 (hiN (numA 4 l))), .int .u64 (W64 (loN (numA 4 l)))], .agg #[.int .u64 (W64 (hiN (numB 4 l))), .int .u64 (W64 (loN (numB 4 l)))], .int .u64 (W64 x)] w fun e w' => e = .returned (.tuple #[.int .u64 (W64 (vSum 4 (j : Int) l x)), .int .i64 (eSum 4 x)]) ∧ New w w') := Lib.hid (by
    intro w
    unfold vSum eSum
    have ek : kdK 4 = 64 := rfl
    have ew : wdK 4 = 128 := rfl
    cases hf : fitK 4 x
    · exact eval_no (numA 4 l) (numB 4 l) 128 64 j x (Nat.lt_of_lt_of_le hA (by decide)) (Nat.lt_of_lt_of_le hB (by decide)) (by omega) (by omega) 4 hf HS HC w
    · exact eval_okA (numA 4 l) (numB 4 l) 128 64 j x (Nat.lt_of_lt_of_le hA (by decide)) (Nat.lt_of_lt_of_le hB (by decide)) (by omega) (by omega) 4 hf HS HC w)
  clear hA hB HS HC h HROW hn hb0 hb1
  generalize vSum 4 (j : Int) l x = v at *
  generalize eSum 4 x = ee at *
  generalize numA 4 l = A at *
  generalize numB 4 l = B at *
  have c0 := cell_of_row _ _ 0 _ _ _ HB.out
  have c1 := cell_of_row _ _ 1 _ _ _ HB.out
  have c2 := cell_of_row _ _ 2 _ _ _ HB.out
  go_enter Tryz.func83, Tryz.ntmps83
  go_wp2_with fail
  refine HNB.out.mono ?_
  rintro e w1 ⟨rfl, hn1⟩
  have HP := Lib.hid (two_blocks w1 (.cells #[.int .u64 (W64 (hiN (A))), .int .u64 (W64 (loN (A)))] 63) (.cells #[.int .u64 (W64 (hiN (B))), .int .u64 (W64 (loN (B)))] 63))
  have hb := (((hn1.alloc (.cells #[.int .u64 (W64 (hiN (A))), .int .u64 (W64 (loN (A)))] 63)).alloc (.cells #[.int .u64 (W64 (hiN (B))), .int .u64 (W64 (loN (B)))] 63)).block _ (lt_of_block HB.out)).trans HB.out
  have HN1 := Lib.hid (HN.out.trans ((hn1.alloc (.cells #[.int .u64 (W64 (hiN (A))), .int .u64 (W64 (loN (A)))] 63)).alloc (.cells #[.int .u64 (W64 (hiN (B))), .int .u64 (W64 (loN (B)))] 63)))
  clear c0 c1 c2 hn1 HNB
  have c0 := cell_of_row _ _ 0 _ _ _ hb
  have c1 := cell_of_row _ _ 1 _ _ _ hb
  have c2 := cell_of_row _ _ 2 _ _ _ hb
  clear hb
  go_wp2_with fail
  refine (HM.out _).mono ?_
  rintro e w2 ⟨rfl, hn2⟩
  replace HN1 := Lib.hid (HN1.out.trans hn2)
  clear hn2 HM c0 c1 c2
  go_wp2
  go_ret2
  exact ⟨rfl, HN1.out⟩
end Go.Proofs.YtebcfbcfipmahaaGreat
end
section
/- through.Through. -/
namespace Go.Proofs.YtebcfbcfipmahaaGreat
open Go.RowKit Go.Bv
set_option linter.unusedVariables false
theorem size_q : (Tryz.prog.info? 31).map (·.size) = some 1 := by kernel_rfl
theorem row_one {w : World} {b off n c : Nat} {l : List (BitVec 64)} (h : QRow w (some ⟨b, off, none⟩) n c l) (j : Nat) (hj : j < n) : QRow w (some ⟨b, off + j, none⟩) 1 (c - j) [l.getD j 0] := by
  have hle := h.le
  have hr := h.room
  refine ⟨rfl, by omega, by omega, by omega, (fun e => by cases e), ?_, ?_, ?_⟩
  · intro b' off' e i hi
    cases e
    obtain rfl : i = 0 := by omega
    exact h.cell b off rfl j hj
  · intro x e _; cases e; rfl
  · intro x e _; cases e; show b < w.heap.size; exact h.old ⟨b, off, none⟩ rfl (by omega)
theorem none_row (w : World) : QRow w none 0 0 [] := ⟨rfl, Nat.le_refl _, by omega, by omega, (fun _ => ⟨rfl, rfl⟩), (fun b off e => by cases e), (fun x e => by cases e), (fun x e => by cases e)⟩
theorem splice_word (s0 : List (BitVec 64)) (n k : Nat) (hs : s0.length ≤ n) (hk : k < n) : (splice (madeCells #[Value.int .u64 0] n).toList 0 (s0.map fun x => Value.int .u64 (W64 x))).toArray[k]? = some (.int .u64 (W64 (s0.getD k 0))) := by
  rw [toList_madeCells_one, List.getElem?_toArray]
  unfold splice
  rw [List.take_zero, List.nil_append, Nat.zero_add, List.length_map]
  by_cases h : k < s0.length
  · rw [List.getElem?_append_left (by rw [List.length_map]; exact h), List.getElem?_map, List.getElem?_eq_getElem h, List.getD_eq_getElem?_getD, List.getElem?_eq_getElem h]; rfl
  · rw [List.getElem?_append_right (by rw [List.length_map]; omega), List.length_map, List.getElem?_drop, List.getElem?_replicate, if_pos (by omega), getD_far _ _ (by omega), lo_zero]

theorem copy_len {w : World} {a : Option Addr} {n m c : Nat} {l : List (BitVec 64)} (h : QRow w a m c l) (hm : m ≤ n) : (l.map fun x => Value.int .u64 (W64 x)).length = Nat.min m n := by
  rw [List.length_map, h.len_eq]; exact (Nat.min_eq_left hm).symm
theorem copy_src {w : World} {a : Option Addr} {m c : Nat} {l : List (BitVec 64)} (x : Addr) (h : QRow w a m c l) : 0 < (l.map fun x => Value.int .u64 (W64 x)).length → some x = some x ∧ ∃ ad, a = some ad ∧ ∀ j v, (l.map fun x => Value.int .u64 (W64 x))[j]? = some v → w.cell? (ad.add j) = some v := by
  intro h0
  rw [List.length_map, h.len_eq] at h0
  obtain ⟨b, off, rfl, _⟩ := h.addr h0
  exact ⟨rfl, _, rfl, news_of_row h⟩
theorem copy_fit {w : World} {a : Option Addr} {n m c : Nat} {l : List (BitVec 64)} (h : QRow w a m c l) (hm : m ≤ n) : 0 + (l.map fun x => Value.int .u64 (W64 x)).length ≤ (madeCells #[Value.int .u64 0] n).toList.length := by
  rw [List.length_map, h.len_eq, toList_madeCells_one, List.length_replicate]; omega
set_option maxRecDepth 100000 in
set_option maxHeartbeats 8000000 in
theorem thr_ok (a b : Option Addr) (n c n2 c2 : Nat) (xs ys : List (BitVec 64)) (w : World) (hx : QRow w a n c xs) (hy : QRow w b n2 c2 ys) (h : chkT xs ys = 0) :
    Calls Tryz.prog 122 #[.slice a n c, .slice b n2 c2] w fun e w' => ∃ a', e = .returned (.tuple #[.slice a' (n : Nat) n, .int .i64 0]) ∧ QRow w' a' n n (thr xs ys) ∧ New w w' := by
  obtain ⟨i0, hi, hz0, hz1, hz2⟩ := info_parts info_u64q
  have hmx := hx.most
  have hlx := hx.len_eq
  have hly := hy.len_eq
  obtain ⟨p1, p2, p3, _, _, _⟩ := chk_parts h
  obtain rfl : n2 = n := by omega
  have h1 : 1 ≤ n2 := by omega
  have h2 : n2 ≤ 64 := by omega
  obtain ⟨n, rfl⟩ : ∃ n, n2 = n := ⟨_, rfl⟩
  have HC := Lib.hid (fun w' (hn : New w w') => pchk_q _ _ _ _ _ _ _ _ w' (hx.stay hn) (hy.stay hn))
  rw [h] at HC
  have HDI := Lib.hid (fun w' (hn : New w w') => divided_q _ _ _ _ _ _ _ w' (hx.stay hn) (hy.stay hn) h1 h2)
  obtain ⟨bx, ox, rfl, _⟩ := hx.addr (by omega)
  have HX := Lib.hid hx
  have HLX := Lib.hid hlx
  have HDL := Lib.hid (show (dL xs ys).length = n2 by rw [dL_len]; exact hlx)
  have HTH : Hid (∀ i, (thr xs ys).getD i 0 = (sm xs (dL xs ys) n2 0).getD i 0) := Lib.hid (fun i => by rw [thr_get, hlx])
  have HTL : Hid ((thr xs ys).length = n2) := Lib.hid (by rw [thr_len]; exact hlx)
  obtain ⟨ds, hds⟩ : ∃ z, dL xs ys = z := ⟨_, rfl⟩
  rw [hds] at HDI HDL HTH
  obtain ⟨th, hth⟩ : ∃ z, thr xs ys = z := ⟨_, rfl⟩
  rw [hth] at HTH HTL ⊢
  clear hds hth hx hy h p1 p2 p3 hlx hly
  obtain ⟨z0, hz0'⟩ : ∃ z : Int, (n2 : Int) - 1 = z := ⟨_, rfl⟩
  have hw0 : wrap64 ((n2 : Int) - 1) = z0 := by unfold wrap64; omega
  have HZ0 := Lib.hid hz0'
  clear hz0'
  go_enter Tryz.func122, Tryz.ntmps122
  go_wp2_with fail
  refine (HC.out _ (New.refl _)).mono ?_
  rintro e w9 ⟨rfl, hn⟩
  have HN := Lib.hid hn
  clear hn HC
  go_wp2_with fail
  refine (HDI.out _ HN.out).mono ?_
  rintro e w8 ⟨da, dc, rfl, hq, hn⟩
  obtain ⟨bd, od, rfl, _⟩ := hq.addr (by omega)
  have HD := Lib.hid hq
  replace HN := Lib.hid (HN.out.trans hn)
  clear hn hq HDI
  go_wp2_with fail
  clear hw0
  go_loopw [8, 9] (fun sv iv wr => ∃ (k : Nat) (z : Int) (sa : Option Addr) (sl sc : Nat), k ≤ n2 ∧ iv = .int .i64 z ∧ Hid (z = (k : Int) - 1) ∧ sv = .slice sa (sl : Nat) sc ∧ QRow wr sa sl sc (sm xs ds (n2 - k) k) ∧ New w8 wr) (fun _ iv _ => (intOf iv + 1).toNat)
  case atStart => exact ⟨n2, _, none, 0, 0, Nat.le_refl _, rfl, Lib.hid (by have := HZ0.out; omega), rfl, by rw [Nat.sub_self]; exact none_row _, New.refl _⟩
  case round =>
    clear HZ0
    obtain ⟨k, z, sa, sl, sc, hk, rfl, HZ, rfl, hsm, hnw⟩ := hrel
    have HSM := Lib.hid hsm
    have HN8 := Lib.hid hnw
    obtain ⟨wq, hwq⟩ : ∃ z, z = wr := ⟨_, rfl⟩
    rw [← hwq] at HSM HN8 ⊢
    clear hsm hnw hwq
    rcases k with _ | j
    · obtain rfl : z = -1 := by have := HZ.out; omega
      have HNN := Lib.hid (HN.out.trans HN8.out)
      have hmk := run_make_row (P := Tryz.prog) 28 31 i0 (.int .u64 0) Tryz.underlying28 hi hz0 hz1 rfl .i64 .i64 n2 (by rw [hz2]; omega) (by omega) wq
      have HM := Lib.hid (made_q n2 (fun _ => 0#64))
      have HMK : Hid (∀ t : Int, t = (n2 : Int) → (Instr.makeSlice 28 (.int .i64 t) (.int .i64 t)).run Tryz.prog wq = .ok (.slice (some ⟨wq.heap.size, 0, none⟩) n2 n2) (wq.alloc (.cells (madeCells #[.int .u64 0] n2) 31))) := Lib.hid (by rintro t rfl; exact hmk)
      clear hmk
      have HSL : Hid (sl ≤ n2) := Lib.hid (by have h3 := sm_len xs ds (n2 - 0) 0; have h4 := HSM.out.len_eq; omega)
      rw [Nat.sub_zero] at HSM
      obtain ⟨s0, hs0⟩ : ∃ z, sm xs ds n2 0 = z := ⟨_, rfl⟩
      rw [hs0] at HTH HSM
      clear hs0
      go_wp2_with fail
      rw [HMK.out _ (by omega)]
      clear HMK
      have HWA := Lib.hid (heap_alloc_new wq (.cells (madeCells #[.int .u64 0] n2) 31))
      have HNA := Lib.hid ((New.refl wq).alloc (.cells (madeCells #[.int .u64 0] n2) 31))
      replace HSM := Lib.hid (HSM.out.stay HNA.out)
      have HSZ := Lib.hid (HNN.out.le)
      replace HNN := Lib.hid (HNN.out.trans HNA.out)
      generalize hwa : wq.alloc (.cells (madeCells #[.int .u64 0] n2) 31) = wa at *
      clear hwa
      go_wp2_with (refine wpList_copy_splice rfl (.tmp 43) (.tmp 44) 28 28 rfl 31 Tryz.underlying28 size_q _ _ _ _ _ _ rfl rfl wq.heap.size 0 (madeCells #[.int .u64 0] n2).toList 31 (by rw [Array.toArray_toList]; exact HWA.out) (s0.map fun x => Value.int .u64 (W64 x)) (copy_len HSM.out HSL.out) (copy_src _ HSM.out) (copy_fit HSM.out HSL.out) (by intro u hu; obtain ⟨y, _, rfl⟩ := List.mem_map.1 hu; rfl) w.heap.size w HNN.out HSZ.out ?_)
      intro w4 hg4 hb4
      have HQR : Hid (QRow w4 (some ⟨wq.heap.size, 0, none⟩) n2 n2 th) := Lib.hid (by
        refine ⟨HTL.out, Nat.le_refl _, by omega, by omega, (fun e => by cases e), ?_, ?_, ?_⟩
        · intro b off e k hk
          cases e
          rw [Nat.zero_add, cell_of_row _ _ _ _ _ _ hg4.out, splice_word _ _ _ (by rw [HSM.out.len_eq]; exact HSL.out) hk, HTH.out k]
        · intro x e h; cases e; rfl
        · intro x e h; cases e; exact lt_of_block hg4.out)
      have HN4 := Lib.hid (show New w w4 from hb4)
      clear hg4 hb4 HSM HWA HNA
      go_wp2
      go_ret2
      exact ⟨_, rfl, HQR.out, HN4.out⟩
    · obtain rfl : z = (j : Int) := by have := HZ.out; omega
      have hj0 : (0 : Int) ≤ (j : Int) := by omega
      have hjn : (j : Int) < (n2 : Int) := by omega
      obtain ⟨z1, hz1'⟩ : ∃ z : Int, (j : Int) - 1 = z := ⟨_, rfl⟩
      have hw1 : wrap64 ((j : Int) - 1) = z1 := by unfold wrap64; omega
      have hw2 : IntKind.i64.wrap ((j : Int) - 1) = z1 := by simp [IntKind.wrap, IntKind.bits, IntKind.signed]; omega
      have HZ1 := Lib.hid hz1'
      clear hz1'
      have hw3 : wrap64 ((j : Int) + 1) = (j : Int) + 1 := by unfold wrap64; omega
      have hw4 : IntKind.i64.wrap ((j : Int) + 1) = (j : Int) + 1 := by simp [IntKind.wrap, IntKind.bits, IntKind.signed]; omega
      have HXQ := Lib.hid (HX.out.stay (HN.out.trans HN8.out))
      have HD1 := Lib.hid ((row_one HD.out j (by omega)).stay HN8.out)
      have HDC := HD.out.le
      have hdc : (j : Int) + 1 ≤ (dc : Int) := by omega
      obtain ⟨x, hx⟩ : ∃ z, xs.getD j 0 = z := ⟨_, rfl⟩
      have HXE := Lib.hid hx
      have HSN : Hid (sm xs ds (n2 - j) j = trimL (addL (trimL (mulL (sm xs ds (n2 - (j + 1)) (j + 1)) [sb 0#64 x, 1#64])) [ds.getD j 0])) := Lib.hid (by
        rw [show n2 - j = (n2 - (j + 1)) + 1 by omega, ← hx]; rfl)
      clear hx
      have HSL : Hid (sl ≤ n2) := Lib.hid (by have h3 := sm_len xs ds (n2 - (j + 1)) (j + 1); have h4 := HSM.out.len_eq; omega)
      obtain ⟨s0, hs0⟩ : ∃ z, sm xs ds (n2 - (j + 1)) (j + 1) = z := ⟨_, rfl⟩
      rw [hs0] at HSN HSM
      clear hs0
      have HFQ := Lib.hid (fun w => factor_q x w)
      obtain ⟨fx0, hf0⟩ : ∃ z, sb 0#64 x = z := ⟨_, rfl⟩
      rw [hf0] at HFQ HSN
      clear hf0
      have HMU := Lib.hid (fun w r (h1 : QRow w sa sl sc s0) (h2 : QRow w r 2 2 [fx0, 1#64]) => pmul_q _ _ _ _ _ _ _ _ w h1 h2 (by have := HSL.out; omega))
      obtain ⟨M, hM⟩ : ∃ z, trimL (mulL s0 [fx0, 1#64]) = z := ⟨_, rfl⟩
      rw [hM] at HMU HSN
      clear hM
      obtain ⟨LM, hLM⟩ : ∃ z, M.length = z := ⟨_, rfl⟩
      rw [hLM] at HMU
      clear hLM
      obtain ⟨d, hd⟩ : ∃ z, ds.getD j 0 = z := ⟨_, rfl⟩
      rw [hd] at HSN HD1
      clear hd
      have HAD := Lib.hid (fun w r c4 (h1 : QRow w r LM c4 M) (h2 : QRow w (some ⟨bd, od + j, none⟩) 1 (dc - j) [d]) => padd_q _ _ _ _ _ _ _ _ w h1 h2)
      obtain ⟨N, hN⟩ : ∃ z, trimL (addL M [d]) = z := ⟨_, rfl⟩
      rw [hN] at HAD HSN
      clear hN
      obtain ⟨LN, hLN⟩ : ∃ z, N.length = z := ⟨_, rfl⟩
      rw [hLN] at HAD
      clear hLN
      go_wp2_with fail
      refine Gro3.wp_region_gro3S (fun w' => New wq w') (fun w' => New wq w') [0,0,0,0,0,2,2,0,0,0,0,0,2,0] New (fun _ _ _ => True) (by kernel_rfl) (by kernel_rfl) (by kernel_rfl) (fun _ _ _ _ _ _ => trivial) (fun w' hw' => hw') ((New.refl wq).drew) ?_
      intro I J _ _ f g hfa hba hgb hbb
      have HFA := Lib.hid hfa
      have HBA := Lib.hid hba
      have HGB := Lib.hid hgb
      have HBB := Lib.hid hbb
      have fx := fun k => (HXQ.out.stay (hfa k)).cell bx ox rfl j (by omega)
      rw [HXE.out] at fx
      clear hfa hba hgb hbb
      refine Gro3.take0 5 (by kernel_rfl) ?_
      simp only [List.take, List.drop, List.length]
      repeat (go_big_quiet_step (fail))
      refine wpQuiet_nil ?_
      refine Gro3.callt (fun v => ∃ r, v = .slice r 2 2) (fun v w' => ∃ r, v = .slice r 2 2 ∧ QRow w' r 2 2 [fx0, 1#64]) rfl rfl (⟨_, none, rfl⟩) (fun v w w' hn h => by obtain ⟨r, e, hr⟩ := h; exact ⟨r, e, hr.stay hn⟩) (fun w1 hB hG => ?_) (fun v1 A1 hv1 hA => ?_)
      · obtain ⟨nq, rfl⟩ := hB
        clear fx
        go_simp
        refine (HFQ.out _).mono ?_
        rintro e w2 ⟨r, rfl, hrow, hn⟩
        have HX2 := HBB.out _ ((HGB.out nq).trans hn)
        exact ⟨_, rfl, HX2, hn, ⟨_, rfl⟩, ⟨_, rfl, hrow⟩⟩
      simp [Act.put] at hA
      subst hA
      obtain ⟨r1, rfl⟩ := hv1
      refine Gro3.callt (fun v => ∃ r c, v = .slice r (LM : Nat) c) (fun v w' => ∃ r c, v = .slice r (LM : Nat) c ∧ QRow w' r LM c M) rfl rfl (⟨_, none, 0, rfl⟩) (fun v w w' hn h => by obtain ⟨r, c, e, hr⟩ := h; exact ⟨r, c, e, hr.stay hn⟩) (fun w1 hB hG => ?_) (fun v2 A2 hv2 hA => ?_)
      · obtain ⟨nq, rfl⟩ := hB
        clear fx
        go_simp
        obtain ⟨r5, e5, hz⟩ := hG
        cases e5
        refine (HMU.out _ _ (HSM.out.stay (HGB.out nq)) hz).mono ?_
        rintro e w2 ⟨r, c4, rfl, hrow, hn⟩
        have HX2 := HBB.out _ ((HGB.out nq).trans hn)
        exact ⟨_, rfl, HX2, hn, ⟨_, _, rfl⟩, ⟨_, _, rfl, hrow⟩⟩
      simp [Act.put] at hA
      subst hA
      obtain ⟨r2, c2', rfl⟩ := hv2
      refine Gro3.take0 5 (by kernel_rfl) ?_
      simp only [List.take, List.drop, List.length]
      repeat (go_big_quiet_step (fail))
      refine wpQuiet_nil ?_
      refine Gro3.callt (fun v => ∃ r c, v = .slice r (LN : Nat) c) (fun v w' => ∃ r c, v = .slice r (LN : Nat) c ∧ QRow w' r LN c N) rfl rfl (⟨_, none, 0, rfl⟩) (fun v w w' hn h => by obtain ⟨r, c, e, hr⟩ := h; exact ⟨r, c, e, hr.stay hn⟩) (fun w1 hB hG => ?_) (fun v3 A3 hv3 hA => ?_)
      · obtain ⟨nq, rfl⟩ := hB
        clear fx
        go_simp
        obtain ⟨r5, c5, e5, hz⟩ := hG
        cases e5
        refine (HAD.out _ _ _ hz (HD1.out.stay (HGB.out nq))).mono ?_
        rintro e w2 ⟨r, c4, rfl, hrow, hn⟩
        have HX2 := HBB.out _ ((HGB.out nq).trans hn)
        exact ⟨_, rfl, HX2, hn, ⟨_, _, rfl⟩, ⟨_, _, rfl, hrow⟩⟩
      simp [Act.put] at hA
      subst hA
      obtain ⟨r3, c3', rfl⟩ := hv3
      refine Gro3.take0 1 (by kernel_rfl) ?_
      simp only [List.take, List.drop, List.length]
      repeat (go_big_quiet_step (fail))
      refine wpQuiet_nil ?_
      refine Gro3.nil ?_
      rintro w11 ⟨n9, rfl⟩ hG
      obtain ⟨r5, c5, e5, hz⟩ := hG
      cases e5
      have HNZ := Lib.hid (HGB.out n9)
      have HZZ := Lib.hid hz
      clear HFA HBA HGB HBB hz fx HFQ HMU HAD HXQ HD1
      generalize g n9 = w9 at *
      go_wp2
      refine ⟨⟨j, _, _, _, _, by omega, rfl, Lib.hid (by have := HZ1.out; omega), rfl, by rw [HSN.out]; exact HZZ.out, HN8.out.trans HNZ.out⟩, by have := HZ1.out; simp [intOf]; omega⟩
end Go.Proofs.YtebcfbcfipmahaaGreat
end
