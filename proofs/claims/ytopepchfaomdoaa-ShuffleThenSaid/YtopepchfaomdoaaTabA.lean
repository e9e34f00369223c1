/- Contracts of tabs.Chars, tabs.Sum and of the document's own Letters, Fits, Sum, Ints: for every word, every row. -/
import Derived.Test.YtopepchfaomdoaaProg
import Derived.Test.YtopepchfaomdoaaRowI
import Derived.Deep.OwnRows
import Derived.OneCell
import Derived.Deep.QuietTactic
import Derived.BigQuiet
namespace Go.Proofs.Ytopepchfaomdoaa
open Go.RowKit Go.Bv
set_option linter.unusedVariables false
theorem info_i64 : (Try.prog.info? 3).map (fun i => (i.zero, i.size, i.bytes)) = some (some (.int .i64 0), 1, 8) := by kernel_rfl
def lat (x : BitVec 64) (i : Nat) : Int := W64 (x >>> (4 * i) % 16#64)
theorem lat_lt (x : BitVec 64) (i : Nat) : 0 ≤ lat x i ∧ lat x i < 16 := by
  unfold lat W64
  have h := BitVec.toNat_umod (x := x >>> (4 * i)) (y := 16#64)
  rw [h, show (16#64).toNat = 16 from rfl]
  omega
/-- the lowest letters -/
def lets (x : BitVec 64) (m : Nat) : List Int := (List.range m).map (lat x)
theorem lets_len (x : BitVec 64) (m : Nat) : (lets x m).length = m := by simp [lets]
theorem lets_at (x : BitVec 64) (m i : Nat) (h : i < m) : (lets x m).getD i 0 = lat x i := by
  unfold lets; rw [List.getD_eq_getElem?_getD, List.getElem?_map, List.getElem?_range h]; rfl
theorem lets_succ (x : BitVec 64) (m : Nat) : lets x (m + 1) = lets x m ++ [lat x m] := by
  unfold lets; rw [List.range_succ, List.map_append]; rfl
theorem lets_mem (x : BitVec 64) (m : Nat) : ∀ n ∈ lets x m, 0 ≤ n ∧ n < 16 := by
  intro n hn
  obtain ⟨i, _, rfl⟩ := List.mem_map.1 hn
  exact lat_lt x i
theorem lets_wf (x : BitVec 64) (m : Nat) : ∀ n ∈ lets x m, In64 n := by
  intro n hn
  have := lets_mem x m n hn
  unfold In64; omega
theorem made_i (m : Nat) (f : Nat → Int) : (madeCells #[Value.int .i64 0] m).size = m ∧ ∀ j, j < m → (madeCells #[Value.int .i64 0] m)[j]? = some (.int .i64 (if j < 0 then f j else 0)) := by
  refine ⟨size_madeCells _ _, fun j hj => ?_⟩
  rw [if_neg (by omega), ← Array.getElem?_toList, toList_madeCells_one, List.getElem?_replicate, if_pos hj]
theorem lat_next (x : BitVec 64) (k : Nat) : x >>> (4 * k) / 16#64 = x >>> (4 * (k + 1)) := by
  apply BitVec.eq_of_toNat_eq
  rw [BitVec.toNat_udiv, BitVec.toNat_ushiftRight, BitVec.toNat_ushiftRight, Nat.shiftRight_eq_div_pow, Nat.shiftRight_eq_div_pow, show (16#64).toNat = 2 ^ 4 from rfl, Nat.div_div_eq_div_mul, ← Nat.pow_add]
  rfl
theorem new_cells_i (w : World) (cs : Array Value) (t : TypeId) : ∀ j u, cs.toList[j]? = some u → (w.alloc (.cells cs t)).cell? ((⟨w.heap.size, 0, none⟩ : Addr).add j) = some u := by
  intro j u h
  rw [add_plain, Nat.zero_add, World.cell?_alloc_new]
  simpa using h
end Go.Proofs.Ytopepchfaomdoaa
