import Derived.Test.YtebcfbcfipmahaaGreatProg
import Derived.Test.YtebcfbcfipmahaaGreatZ3PkC
import Derived.Deep.OwnRows
import Derived.OneCell
import Derived.Deep.QuietTactic
import Derived.BigQuiet
/- Contracts of tabs.Chars, tabs.Sum and of the document's own Letters, Fits, Sum, Ints: for every word, every row. · Contracts of tabs.Sum and of the document's own Fits, Sum, Ints: for all words, every row. -/
namespace Go.Proofs.YtebcfbcfipmahaaGreat
open Go.RowKit Go.Bv
set_option linter.unusedVariables false
set_option maxRecDepth 100000
theorem info_i64 : (Tryz.prog.info? 3).map (fun i => (i.zero, i.size, i.bytes)) = some (some (.int .i64 0), 1, 8) := by kernel_rfl
def lat (x : BitVec 64) (i : Nat) : Int := W64 (x >>> (4 * i) % 16#64)
theorem lat_lt (x : BitVec 64) (i : Nat) : 0 ≤ lat x i ∧ lat x i < 16 := by
  unfold lat W64
  have h := BitVec.toNat_umod (x := x >>> (4 * i)) (y := 16#64)
  rw [h, show (16#64).toNat = 16 from rfl]
  omega
/-- the lowest letters -/
def lets (x : BitVec 64) (m : Nat) : List Int := (List.range m).map (lat x)
theorem lets_len (x : BitVec 64) (m : Nat) : (lets x m).length = m := by simp [lets]
theorem lets_at (x : BitVec 64) (m i : Nat) (h : i < m) : (lets x m).getD i 0 = lat x i := by
  unfold lets; rw [List.getD_eq_getElem?_getD, List.getElem?_map, List.getElem?_range h]; rfl
theorem lets_succ (x : BitVec 64) (m : Nat) : lets x (m + 1) = lets x m ++ [lat x m] := by
  unfold lets; rw [List.range_succ, List.map_append]; rfl
theorem lets_mem (x : BitVec 64) (m : Nat) : ∀ n ∈ lets x m, 0 ≤ n ∧ n < 16 := by
  intro n hn
  obtain ⟨i, _, rfl⟩ := List.mem_map.1 hn
  exact lat_lt x i
theorem lets_wf (x : BitVec 64) (m : Nat) : ∀ n ∈ lets x m, In64 n := by
  intro n hn
  have := lets_mem x m n hn
  unfold In64; omega
theorem made_i (m : Nat) (f : Nat → Int) : (madeCells #[Value.int .i64 0] m).size = m ∧ ∀ j, j < m → (madeCells #[Value.int .i64 0] m)[j]? = some (.int .i64 (if j < 0 then f j else 0)) := by
  refine ⟨size_madeCells _ _, fun j hj => ?_⟩
  rw [if_neg (by omega), ← Array.getElem?_toList, toList_madeCells_one, List.getElem?_replicate, if_pos hj]
set_option maxHeartbeats 1000000 in
theorem chars_any (x : BitVec 64) (n : Int) (m : Nat) (hm : m ≤ 16) (hnm : min (max n 0) 16 = (m : Int)) (w : World) :
    Calls Tryz.prog 93 #[.int .u64 (W64 x), .int .i64 n] w fun e w' =>
      ∃ a cap, e = .returned (.slice a m cap) ∧ ZRow w' a m cap (lets x m) ∧ New w w' := by
  obtain ⟨i0, hi, hz0, hz1, hz2⟩ := info_parts info_i64
  have hmk := run_make_row (P := Tryz.prog) 55 3 i0 (.int .i64 0) Tryz.underlying55 hi hz0 hz1 rfl .i64 .i64 m (by rw [hz2]; omega) (by omega) w
  have HM := Lib.hid (made_i m (fun i => (lets x m).getD i 0))
  have h0 : ¬ (m : Int) < 0 := by omega
  have hmk1 : Hid (∀ t : Int, t = (m : Int) → (Instr.makeSlice 55 (.int .i64 t) (.int .i64 t)).run Tryz.prog w = .ok (.slice (some ⟨w.heap.size, 0, none⟩) m m) (w.alloc (.cells (madeCells #[.int .i64 0] m) 3))) := Lib.hid (by rintro t rfl; exact hmk)
  clear hmk
  have h16 : ∀ k : Nat, k < m → wrap64 (4 * (k : Int)) = 4 * (k : Int) := by intro k hk; unfold wrap64; omega
  have H16 := Lib.hid h16
  clear h16
  go_enter Tryz.func93, Tryz.ntmps93
  go_wp2
  all_goals (
    rw [hmk1.out _ (by omega)]
    go_wp2
    go_loopw [13] (fun i wr => ∃ (k : Nat) (cs : Array Value), k ≤ m ∧ i = .int .i64 k ∧ wr.heap[w.heap.size]? = some (.cells cs 3 (0, 0)) ∧ Hid (cs.size = m ∧ ∀ j, j < m → cs[j]? = some (.int .i64 (if j < k then (lets x m).getD j 0 else 0))) ∧ New w wr) (fun i _ => m - (intOf i).toNat)
    case atStart => exact ⟨0, _, by omega, rfl, heap_alloc_new _ _, HM, (New.refl w).alloc _⟩
    case round =>
      obtain ⟨k, cs, hk, rfl, hb1, H, hn⟩ := hrel
      by_cases hlt : (k : Int) < m
      · first
        | (exfalso; omega)
        | (
          have hcell : wr.cell? ⟨w.heap.size, k, none⟩ = some (.int .i64 (if k < k then (lets x m).getD k 0 else 0)) := by
            rw [cell_of_row _ _ _ _ _ _ hb1]; exact H.out.2 k (by omega)
          have hfree := frozen_of_row wr w.heap.size k cs _ hb1
          have hd := heap_setCell_same wr w.heap.size k cs _ (.int .i64 (lat x k)) hb1
          have HD := Lib.hid hd
          clear hd
          have e4 := H16.out k (by omega)
          have e5 : (4 * (k : Int)).toNat = 4 * k := by omega
          have e6 : wrap64 (W64 (x >>> (4 * k) % 16#64)) = lat x k := by have := lat_lt x k; unfold lat at *; unfold wrap64; omega
          go_wp2
          refine ⟨⟨k + 1, _, by omega, by go_num, HD.out, Lib.hid ⟨by rw [Array.size_setIfInBounds]; exact H.out.1, ?_⟩, hn.setCell (Nat.le_refl _) _⟩, by simp [intOf]; omega⟩
          intro j hj
          have hs := H.out.1
          rw [Array.getElem?_setIfInBounds]
          by_cases e : k = j
          · subst e
            rw [if_pos rfl, if_pos (by omega), if_pos (by omega), lets_at _ _ _ hj]
          · rw [if_neg e, H.out.2 j hj]
            refine congrArg (fun d => some (Value.int .i64 d)) ?_
            by_cases e2 : j < k
            · rw [if_pos e2, if_pos (by omega)]
            · rw [if_neg e2, if_neg (by omega)])
      · obtain rfl : k = m := by omega
        go_wp2
        go_ret
        refine ⟨_, _, rfl, ⟨lets_len _ _, Nat.le_refl _, by omega, by omega, (fun e => by cases e), ?_, ?_, ?_, lets_wf _ _⟩, hn⟩
        · intro b off e i hi
          cases e
          rw [Nat.zero_add, cell_of_row _ _ _ _ _ _ hb1, H.out.2 i hi, if_pos hi]
        · intro x e h; cases e; rfl
        · intro x e h; cases e; exact lt_of_block hb1)
theorem lat_next (x : BitVec 64) (k : Nat) : x >>> (4 * k) / 16#64 = x >>> (4 * (k + 1)) := by
  apply BitVec.eq_of_toNat_eq
  rw [BitVec.toNat_udiv, BitVec.toNat_ushiftRight, BitVec.toNat_ushiftRight, Nat.shiftRight_eq_div_pow, Nat.shiftRight_eq_div_pow, show (16#64).toNat = 2 ^ 4 from rfl, Nat.div_div_eq_div_mul, ← Nat.pow_add]
  rfl
theorem new_cells_i (w : World) (cs : Array Value) (t : TypeId) : ∀ j u, cs.toList[j]? = some u → (w.alloc (.cells cs t)).cell? ((⟨w.heap.size, 0, none⟩ : Addr).add j) = some u := by
  intro j u h
  rw [add_plain, Nat.zero_add, World.cell?_alloc_new]
  simpa using h
set_option maxHeartbeats 1000000 in
theorem letters_ref (x : BitVec 64) (n : Int) (m : Nat) (hm : m ≤ 16) (hnm : min (max n 0) 16 = (m : Int)) (w : World) :
    Calls Tryz.prog 64 #[.int .u64 (W64 x), .int .i64 n] w fun e w' =>
      ∃ a cap, e = .returned (.slice a m cap) ∧ ZRow w' a m cap (lets x m) ∧ New w w' := by
  obtain ⟨i0, hi, hz0, hz1, hz2⟩ := info_parts info_i64
  have hx0 : x >>> (4 * 0) = x := by simp
  have hstart : W64 x = W64 (x >>> (4 * 0)) := by rw [hx0]
  have HS := Lib.hid hstart
  clear hstart hx0
  go_enter Tryz.func64, Tryz.ntmps64
  go_wp2
  go_loopw [0, 5, 6] (fun xv v i wr => ∃ k : Nat, k ≤ m ∧ i = .int .i64 k ∧ xv = .int .u64 (W64 (x >>> (4 * k))) ∧ wr.ownsRow w.heap.size 3 1 v k ((lets x k).map fun y => .int .i64 y) ∧ New w wr) (fun _ _ i _ => m - (intOf i).toNat)
  case atStart => exact ⟨0, by omega, rfl, congrArg (Value.int .u64) HS.out, World.ownsRow_nil w _ _ 1, New.refl w⟩
  case round =>
    obtain ⟨k, hk, rfl, rfl, hown, hnew⟩ := hrel
    by_cases hlt : k < m
    · have hlt1 : (k : Int) < n := by omega
      have hlt2 : (k : Int) < 16 := by omega
      have e6 : wrap64 (W64 (x >>> (4 * k) % 16#64)) = lat x k := by have := lat_lt x k; unfold lat at *; unfold wrap64; omega
      have e7 := lat_next x k
      go_wp2_with (at_builtin; refine wpList_append_own _ rfl _ _ 55 rfl w.heap.size 3 i0 (.int .i64 0) 1 8 Tryz.underlying55 hi hz0 hz1 hz2 rfl (by decide) _ k _ rfl (hown.alloc _) ⟨wr.heap.size, 0, none⟩ 1 1 [.int .i64 (lat x k)] rfl rfl ?c1 ?c2 ?c3 ?c4 ?c5 ?_)
      case c1 => exact new_cells_i wr _ _
      case c2 => intro u hu; simp at hu; subst hu; rfl
      case c3 => unfold maxLen; omega
      case c4 => omega
      case c5 => simp; have := hnew.le; omega
      intro v' w1 how hgr _
      have how2 : w1.ownsRow w.heap.size 3 1 v' (k + 1) ((lets x (k + 1)).map fun y => .int .i64 y) := by
        rw [lets_succ, List.map_append]; exact how
      have hn1 : New w w1 := (hnew.alloc _).grown' hgr (own_base hown)
      clear how hgr
      go_wp2
      exact ⟨⟨k + 1, by omega, by go_num, rfl, how2, hn1⟩, by simp [intOf]; omega⟩
    · obtain rfl : k = m := by omega
      obtain ⟨a', cap', rfl, hrow⟩ := ZRow.of_owns hown (by omega) (lets_wf _ _)
      by_cases hk16 : k = 16
      · have hlt2 : ¬ (k : Int) < 16 := by omega
        by_cases hlt1 : (k : Int) < n
        · go_wp2
          go_ret
          exact ⟨a', cap', rfl, hk16 ▸ hrow, hnew⟩
        · go_wp2
          go_ret
          exact ⟨a', cap', rfl, hk16 ▸ hrow, hnew⟩
      · have hlt1 : ¬ (k : Int) < n := by omega
        go_wp2
        go_ret
        exact ⟨a', cap', rfl, hrow, hnew⟩
end Go.Proofs.YtebcfbcfipmahaaGreat
namespace Go.Proofs.YtebcfbcfipmahaaGreat
open Go.RowKit Go.Bv
set_option linter.unusedVariables false
def okc (c : Int) : Bool := decide (0 ≤ c) && decide (c < 16)
/-- what is wrong with a row, for so many words -/
def fitE (n : Nat) (r : List Int) : Int := if n ≠ 16 * r.length then 1 else if r.all okc then 0 else 2
/-- the first entries of a row, all in one -/
def xs (l : List (BitVec 64)) (r : List Int) : Nat → BitVec 64
  | 0 => 0#64
  | k + 1 => xs l r k ^^^ l.getD (16 * k + (r.getD k 0).toNat) 0
def sv (l : List (BitVec 64)) (r : List Int) : BitVec 64 := if fitE l.length r = 0 then xs l r r.length else 0#64
theorem all_ok {r : List Int} (h : ∀ j, j < r.length → okc (r.getD j 0) = true) : r.all okc = true := by
  rw [List.all_eq_true]
  intro c hc
  obtain ⟨j, hj, rfl⟩ := List.getElem_of_mem hc
  have := h j hj
  rwa [List.getD_eq_getElem?_getD, List.getElem?_eq_getElem hj] at this
theorem not_all {r : List Int} {k : Nat} (hk : k < r.length) (h : okc (r.getD k 0) = false) : r.all okc = false := by
  rw [List.getD_eq_getElem?_getD, List.getElem?_eq_getElem hk] at h
  rw [List.all_eq_false]
  exact ⟨r[k], List.getElem_mem hk, by rw [show okc r[k] = false from h]; simp⟩
theorem okc_false {c : Int} (h : ¬ (0 ≤ c ∧ c < 16)) : okc c = false := by
  unfold okc; rw [← Bool.not_eq_true, Bool.and_eq_true, decide_eq_true_iff, decide_eq_true_iff]; exact h
theorem okc_true {c : Int} (h : 0 ≤ c ∧ c < 16) : okc c = true := by
  unfold okc; rw [Bool.and_eq_true, decide_eq_true_iff, decide_eq_true_iff]; exact h
theorem entry_any (i c : Int) (w : World) (hi : 0 ≤ i ∧ i ≤ 17592186044416) (hc : 0 ≤ c ∧ c ≤ 16) : Calls Tryz.prog 135 #[.int .i64 i, .int .i64 c] w fun e w' => e = .returned (.int .i64 (16 * i + c)) ∧ w' = w := by
  have h1 : wrap64 (16 * i) = 16 * i := by unfold wrap64; omega
  have h2 : wrap64 (16 * i + c) = 16 * i + c := by unfold wrap64; omega
  go_enter Tryz.func135, Tryz.ntmps135
  go_wp2
  go_ret
  exact ⟨rfl, rfl⟩
set_option maxHeartbeats 1000000 in
theorem sum_any (a b : Option Addr) (na ca nb cb : Nat) (la : List (BitVec 64)) (lb : List Int) (w : World) (ha : QRow w a na ca la) (hb : ZRow w b nb cb lb) :
    Calls Tryz.prog 92 #[.slice a na ca, .slice b nb cb] w fun e w' => e = .returned (.tuple #[.int .u64 (W64 (sv la lb)), .int .i64 (fitE la.length lb)]) ∧ New w w' := by
  have hma := ha.most
  have hmb := hb.most
  have hla := ha.len_eq
  have hlb := hb.len_eq
  by_cases hl : na = 16 * nb
  · have hd1 : (na : Int).tmod 16 = 0 := by rw [Int.tmod_eq_emod_of_nonneg (by omega)]; omega
    have hd2 : (na : Int).tdiv 16 = (nb : Int) := by rw [Int.tdiv_eq_ediv_of_nonneg (by omega)]; omega
    have Hfit := Lib.hid hl
    clear hl
    have Hla := Lib.hid hla
    have Hlb := Lib.hid hlb
    clear hla hlb
    go_enter Tryz.func92, Tryz.ntmps92
    go_wp2
    go_loopw [6, 23] (fun s i wr => ∃ k : Nat, k ≤ nb ∧ i = .int .i64 k ∧ s = .int .u64 (W64 (xs la lb k)) ∧ Hid (∀ j, j < k → okc (lb.getD j 0) = true) ∧ New w wr) (fun _ i _ => nb - (intOf i).toNat)
    case atStart => exact ⟨0, by omega, rfl, congrArg (Value.int .u64) (W64_lit 0 (by omega)).symm, Lib.hid (fun j hj => by omega), New.refl w⟩
    case round =>
      obtain ⟨k, hk, rfl, rfl, H, hn⟩ := hrel
      by_cases hlt : (k : Int) < nb
      · obtain ⟨b2, o2, rfl, hc2⟩ := (hb.stay hn).addr (by omega)
        have c2 := hc2 k (by omega)
        clear hc2
        by_cases hok : 0 ≤ lb.getD k 0 ∧ lb.getD k 0 < 16
        · have hfit := Hfit.out
          obtain ⟨b1, o1, rfl, hc1⟩ := (ha.stay hn).addr (by omega)
          obtain ⟨c, hc⟩ : ∃ c : Nat, lb.getD k 0 = (c : Int) := ⟨(lb.getD k 0).toNat, by omega⟩
          rw [hc] at c2
          have c1 := hc1 (16 * k + c) (by omega)
          clear hc1
          have hw1 : wrap64 (16 * (k : Int)) = 16 * (k : Int) := by unfold wrap64; omega
          have hw2 : wrap64 (16 * (k : Int) + (c : Int)) = 16 * (k : Int) + (c : Int) := by unfold wrap64; omega
          have hc16 : (c : Int) < 16 := by omega
          have ht : (16 * (k : Int) + (c : Int)).toNat = 16 * k + c := by omega
          have hlen : 16 * (k : Int) + (c : Int) < (na : Int) := by omega
          have hx : xs la lb k ^^^ la.getD (16 * k + c) 0 = xs la lb (k + 1) := by
            show _ = xs la lb k ^^^ la.getD (16 * k + (lb.getD k 0).toNat) 0
            rw [hc]; rfl
          have HX := Lib.hid hx
          have HOK := Lib.hid (okc_true hok)
          clear hx hok hc hfit
          generalize la.getD (16 * k + c) 0 = y at c1 HX
          go_wp2
          refine ⟨⟨k + 1, by omega, by go_num, by rw [HX.out], Lib.hid (fun j hj => ?_), hn⟩, by simp [intOf]; omega⟩
          by_cases e : j = k
          · subst e; exact HOK.out
          · exact H.out j (by omega)
        · have h1 : lb.getD k 0 < 0 ∨ (0 ≤ lb.getD k 0 ∧ 16 ≤ lb.getD k 0) := by omega
          have hfe : fitE la.length lb = 2 := by
            unfold fitE
            rw [if_neg (by rw [Hla.out, Hlb.out, Hfit.out]; simp), not_all (by rw [Hlb.out]; omega) (okc_false hok)]; rfl
          have hsv : sv la lb = 0#64 := by unfold sv; rw [hfe]; rfl
          have HFE := Lib.hid hfe
          have HSV := Lib.hid hsv
          clear hfe hsv hok
          generalize lb.getD k 0 = c at c2 h1
          rcases h1 with h1 | ⟨h1, h2⟩
          · go_wp2
            go_ret2
            rw [HFE.out, HSV.out]
            exact ⟨rfl, hn⟩
          · go_wp2
            go_ret2
            rw [HFE.out, HSV.out]
            exact ⟨rfl, hn⟩
      · obtain rfl : k = nb := by omega
        have hfe : fitE la.length lb = 0 := by
          unfold fitE
          rw [if_neg (by rw [Hla.out, Hlb.out, Hfit.out]; simp), all_ok (by rw [Hlb.out]; exact H.out)]; rfl
        have hsv : sv la lb = xs la lb k := by unfold sv; rw [if_pos hfe, Hlb.out]
        have HFE := Lib.hid hfe
        have HSV := Lib.hid hsv
        clear hfe hsv
        go_wp2
        go_ret2
        rw [HFE.out, HSV.out]
        exact ⟨rfl, hn⟩
  · have hfe : fitE la.length lb = 1 := by unfold fitE; rw [if_pos (by rw [hla, hlb]; exact hl)]
    have hsv : sv la lb = 0#64 := by unfold sv; rw [hfe]; rfl
    have HFE := Lib.hid hfe
    have HSV := Lib.hid hsv
    clear hfe hsv hla hlb
    have e1 : (na : Int).tmod 16 = (na : Int) % 16 := Int.tmod_eq_emod_of_nonneg (by omega)
    have e2 : (na : Int).tdiv 16 = (na : Int) / 16 := Int.tdiv_eq_ediv_of_nonneg (by omega)
    by_cases hm : (na : Int) % 16 = 0
    · have hd1 : (na : Int).tmod 16 = 0 := by omega
      have hd2 : ((na : Int) / 16 != (nb : Int)) = true := by rw [bne_iff_ne]; omega
      clear e1 e2 hm hl
      go_enter Tryz.func92, Tryz.ntmps92
      go_wp2
      go_ret2
      rw [HFE.out, HSV.out]
      exact ⟨rfl, New.refl w⟩
    · have hd1 : ((na : Int) % 16 != 0) = true := by rw [bne_iff_ne]; omega
      clear e1 e2 hm hl
      go_enter Tryz.func92, Tryz.ntmps92
      go_wp2
      go_ret2
      rw [HFE.out, HSV.out]
      exact ⟨rfl, New.refl w⟩
theorem fitE_zero {n : Nat} {r : List Int} (h : fitE n r = 0) : n = 16 * r.length ∧ ∀ k, k < r.length → 0 ≤ r.getD k 0 ∧ r.getD k 0 < 16 := by
  unfold fitE at h
  by_cases h1 : n = 16 * r.length
  · refine ⟨h1, fun k hk => ?_⟩
    rw [if_neg (by rw [h1]; simp)] at h
    by_cases h2 : 0 ≤ r.getD k 0 ∧ r.getD k 0 < 16
    · exact h2
    · rw [not_all hk (okc_false h2)] at h; cases h
  · rw [if_pos h1] at h; cases h
set_option maxHeartbeats 1000000 in
theorem sum_ref (a b : Option Addr) (na ca nb cb : Nat) (la : List (BitVec 64)) (lb : List Int) (w : World) (ha : QRow w a na ca la) (hb : ZRow w b nb cb lb) (hf : fitE la.length lb = 0) :
    Calls Tryz.prog 63 #[.slice a na ca, .slice b nb cb] w fun e w' => e = .returned (.int .u64 (W64 (xs la lb lb.length))) ∧ New w w' := by
  have hma := ha.most
  have hmb := hb.most
  have Hlb := Lib.hid hb.len_eq
  obtain ⟨hl, hok⟩ := fitE_zero hf
  rw [ha.len_eq, hb.len_eq] at hl
  rw [hb.len_eq] at hok
  have HOK := Lib.hid hok
  have Hfit := Lib.hid hl
  clear hl hok hf
  go_enter Tryz.func63, Tryz.ntmps63
  go_wp2
  go_loopw [5, 10] (fun s i wr => ∃ k : Nat, k ≤ nb ∧ i = .int .i64 k ∧ s = .int .u64 (W64 (xs la lb k)) ∧ New w wr) (fun _ i _ => nb - (intOf i).toNat)
  case atStart => exact ⟨0, by omega, rfl, congrArg (Value.int .u64) (W64_lit 0 (by omega)).symm, New.refl w⟩
  case round =>
    obtain ⟨k, hk, rfl, rfl, hn⟩ := hrel
    by_cases hlt : (k : Int) < nb
    · obtain ⟨b2, o2, rfl, hc2⟩ := (hb.stay hn).addr (by omega)
      have c2 := hc2 k (by omega)
      clear hc2
      have hfit := Hfit.out
      have hok := HOK.out k (by omega)
      obtain ⟨b1, o1, rfl, hc1⟩ := (ha.stay hn).addr (by omega)
      obtain ⟨c, hc⟩ : ∃ c : Nat, lb.getD k 0 = (c : Int) := ⟨(lb.getD k 0).toNat, by omega⟩
      rw [hc] at c2
      have c1 := hc1 (16 * k + c) (by omega)
      clear hc1
      have hw1 : wrap64 (16 * (k : Int)) = 16 * (k : Int) := by unfold wrap64; omega
      have hw2 : wrap64 (16 * (k : Int) + (c : Int)) = 16 * (k : Int) + (c : Int) := by unfold wrap64; omega
      have ht : (16 * (k : Int) + (c : Int)).toNat = 16 * k + c := by omega
      have hlen : 16 * (k : Int) + (c : Int) < (na : Int) := by omega
      have hx : xs la lb k ^^^ la.getD (16 * k + c) 0 = xs la lb (k + 1) := by
        show _ = xs la lb k ^^^ la.getD (16 * k + (lb.getD k 0).toNat) 0
        rw [hc]; rfl
      have HX := Lib.hid hx
      clear hx hok hc hfit
      generalize la.getD (16 * k + c) 0 = y at c1 HX
      go_wp2
      exact ⟨⟨k + 1, by omega, by go_num, by rw [HX.out], hn⟩, by simp [intOf]; omega⟩
    · obtain rfl : k = nb := by omega
      go_wp2
      go_ret
      rw [Hlb.out]
      exact ⟨rfl, hn⟩
end Go.Proofs.YtebcfbcfipmahaaGreat
