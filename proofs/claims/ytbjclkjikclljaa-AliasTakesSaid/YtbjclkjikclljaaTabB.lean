/- Contracts of tabs.Chars, tabs.Sum and of the document's own Letters, Fits, Sum, Ints: for every word, every row. · Contracts of tabs.Sum and of the document's own Fits, Sum, Ints: for all words, every row. -/
import Derived.Test.YtbjclkjikclljaaProg
import Derived.Test.YtbjclkjikclljaaRowI
import Derived.Deep.OwnRows
import Derived.OneCell
import Derived.Deep.QuietTactic
import Derived.BigQuiet
namespace Go.Proofs.Ytbjclkjikclljaa
open Go.RowKit Go.Bv
set_option linter.unusedVariables false
theorem info_i64 : (Try.prog.info? 3).map (fun i => (i.zero, i.size, i.bytes)) = some (some (.int .i64 0), 1, 8) := by kernel_rfl
def lat (x : BitVec 64) (i : Nat) : Int := W64 (x >>> (4 * i) % 16#64)
theorem lat_lt (x : BitVec 64) (i : Nat) : 0 ≤ lat x i ∧ lat x i < 16 := by
  unfold lat W64
  have h := BitVec.toNat_umod (x := x >>> (4 * i)) (y := 16#64)
  rw [h, show (16#64).toNat = 16 from rfl]
  omega
/-- the lowest letters -/
def lets (x : BitVec 64) (m : Nat) : List Int := (List.range m).map (lat x)
theorem lets_len (x : BitVec 64) (m : Nat) : (lets x m).length = m := by simp [lets]
theorem lets_at (x : BitVec 64) (m i : Nat) (h : i < m) : (lets x m).getD i 0 = lat x i := by
  unfold lets; rw [List.getD_eq_getElem?_getD, List.getElem?_map, List.getElem?_range h]; rfl
theorem lets_succ (x : BitVec 64) (m : Nat) : lets x (m + 1) = lets x m ++ [lat x m] := by
  unfold lets; rw [List.range_succ, List.map_append]; rfl
theorem lets_mem (x : BitVec 64) (m : Nat) : ∀ n ∈ lets x m, 0 ≤ n ∧ n < 16 := by
  intro n hn
  obtain ⟨i, _, rfl⟩ := List.mem_map.1 hn
  exact lat_lt x i
theorem lets_wf (x : BitVec 64) (m : Nat) : ∀ n ∈ lets x m, In64 n := by
  intro n hn
  have := lets_mem x m n hn
  unfold In64; omega
theorem made_i (m : Nat) (f : Nat → Int) : (madeCells #[Value.int .i64 0] m).size = m ∧ ∀ j, j < m → (madeCells #[Value.int .i64 0] m)[j]? = some (.int .i64 (if j < 0 then f j else 0)) := by
  refine ⟨size_madeCells _ _, fun j hj => ?_⟩
  rw [if_neg (by omega), ← Array.getElem?_toList, toList_madeCells_one, List.getElem?_replicate, if_pos hj]
theorem lat_next (x : BitVec 64) (k : Nat) : x >>> (4 * k) / 16#64 = x >>> (4 * (k + 1)) := by
  apply BitVec.eq_of_toNat_eq
  rw [BitVec.toNat_udiv, BitVec.toNat_ushiftRight, BitVec.toNat_ushiftRight, Nat.shiftRight_eq_div_pow, Nat.shiftRight_eq_div_pow, show (16#64).toNat = 2 ^ 4 from rfl, Nat.div_div_eq_div_mul, ← Nat.pow_add]
  rfl
theorem new_cells_i (w : World) (cs : Array Value) (t : TypeId) : ∀ j u, cs.toList[j]? = some u → (w.alloc (.cells cs t)).cell? ((⟨w.heap.size, 0, none⟩ : Addr).add j) = some u := by
  intro j u h
  rw [add_plain, Nat.zero_add, World.cell?_alloc_new]
  simpa using h
end Go.Proofs.Ytbjclkjikclljaa
namespace Go.Proofs.Ytbjclkjikclljaa
open Go.RowKit Go.Bv
set_option linter.unusedVariables false
def okc (c : Int) : Bool := decide (0 ≤ c) && decide (c < 16)
/-- what is wrong with a row, for so many words -/
def fitE (n : Nat) (r : List Int) : Int := if n ≠ 16 * r.length then 1 else if r.all okc then 0 else 2
/-- the first entries of a row, all in one -/
def xs (l : List (BitVec 64)) (r : List Int) : Nat → BitVec 64
  | 0 => 0#64
  | k + 1 => xs l r k ^^^ l.getD (16 * k + (r.getD k 0).toNat) 0
def sv (l : List (BitVec 64)) (r : List Int) : BitVec 64 := if fitE l.length r = 0 then xs l r r.length else 0#64
theorem all_ok {r : List Int} (h : ∀ j, j < r.length → okc (r.getD j 0) = true) : r.all okc = true := by
  rw [List.all_eq_true]
  intro c hc
  obtain ⟨j, hj, rfl⟩ := List.getElem_of_mem hc
  have := h j hj
  rwa [List.getD_eq_getElem?_getD, List.getElem?_eq_getElem hj] at this
theorem not_all {r : List Int} {k : Nat} (hk : k < r.length) (h : okc (r.getD k 0) = false) : r.all okc = false := by
  rw [List.getD_eq_getElem?_getD, List.getElem?_eq_getElem hk] at h
  rw [List.all_eq_false]
  exact ⟨r[k], List.getElem_mem hk, by rw [show okc r[k] = false from h]; simp⟩
theorem okc_false {c : Int} (h : ¬ (0 ≤ c ∧ c < 16)) : okc c = false := by
  unfold okc; rw [← Bool.not_eq_true, Bool.and_eq_true, decide_eq_true_iff, decide_eq_true_iff]; exact h
theorem okc_true {c : Int} (h : 0 ≤ c ∧ c < 16) : okc c = true := by
  unfold okc; rw [Bool.and_eq_true, decide_eq_true_iff, decide_eq_true_iff]; exact h
theorem fitE_zero {n : Nat} {r : List Int} (h : fitE n r = 0) : n = 16 * r.length ∧ ∀ k, k < r.length → 0 ≤ r.getD k 0 ∧ r.getD k 0 < 16 := by
  unfold fitE at h
  by_cases h1 : n = 16 * r.length
  · refine ⟨h1, fun k hk => ?_⟩
    rw [if_neg (by rw [h1]; simp)] at h
    by_cases h2 : 0 ≤ r.getD k 0 ∧ r.getD k 0 < 16
    · exact h2
    · rw [not_all hk (okc_false h2)] at h; cases h
  · rw [if_pos h1] at h; cases h
end Go.Proofs.Ytbjclkjikclljaa
