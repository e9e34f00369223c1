/- Numbers as lists of bits; contracts of the document's own Of, at, Word: for all words. -/
import Derived.Test.YtppmpledcaonkaaProg
import Derived.Test.YtppmpledcaonkaaRowI
import Derived.Deep.OwnRows
import Derived.OneCell
import Derived.Deep.QuietTactic
import Derived.BigQuiet
namespace Go.Bv
open Go Go.RowKit
set_option linter.unusedVariables false
/-- a number's bit -/
def bt (N i : Nat) : Int := ((N / 2 ^ i % 2 : Nat) : Int)
theorem bt_lt (N i : Nat) : 0 ≤ bt N i ∧ bt N i ≤ 1 := by unfold bt; omega
theorem bt_high {N i : Nat} (h : N < 2 ^ i) : bt N i = 0 := by unfold bt; rw [Nat.div_eq_of_lt h]; rfl
/-- a number's bits, the lowest first -/
def bitsOf (N n : Nat) : List Int := (List.range n).map (bt N)
theorem bitsOf_len (N n : Nat) : (bitsOf N n).length = n := by simp [bitsOf]
theorem bitsOf_at {N n i : Nat} (h : i < n) : (bitsOf N n).getD i 0 = bt N i := by
  unfold bitsOf; rw [List.getD_eq_getElem?_getD, List.getElem?_map, List.getElem?_range h]; rfl
theorem bitsOf_succ (N n : Nat) : bitsOf N (n + 1) = bitsOf N n ++ [bt N n] := by
  unfold bitsOf; rw [List.range_succ, List.map_append]; rfl
theorem bitsOf_wf (N n : Nat) : ∀ z ∈ bitsOf N n, In64 z := by
  intro z hz
  obtain ⟨i, _, rfl⟩ := List.mem_map.1 hz
  have := bt_lt N i
  unfold In64; omega
/-- a bit at any place; 0 where there is none -/
def btI (N : Nat) (i : Int) : Int := if i < 0 then 0 else bt N i.toNat
theorem btI_nat (N i : Nat) : btI N (i : Int) = bt N i := by unfold btI; rw [if_neg (by omega)]; rfl
theorem bt_step (N i : Nat) : N / 2 ^ i = 2 * (N / 2 ^ (i + 1)) + N / 2 ^ i % 2 := by
  rw [Nat.pow_succ, ← Nat.div_div_eq_div_mul]; omega
end Go.Bv
namespace Go.Proofs.Ytppmpledcaonkaa
open Go.RowKit Go.Bv
set_option linter.unusedVariables false
theorem info_int : (Try.prog.info? 3).map (fun i => (i.zero, i.size, i.bytes)) = some (some (.int .i64 0), 1, 8) := by kernel_rfl
theorem new_cells_z (w : World) (cs : Array Value) (t : TypeId) : ∀ j u, cs.toList[j]? = some u → (w.alloc (.cells cs t)).cell? ((⟨w.heap.size, 0, none⟩ : Addr).add j) = some u := by
  intro j u h
  rw [add_plain, Nat.zero_add, World.cell?_alloc_new]
  simpa using h
theorem own_keep {w w' : World} {base : Nat} {e : TypeId} {size : Nat} {v : Value} {n : Nat} {xs : List Value} (h : w.ownsRow base e size v n xs) (hn : New w w') : w'.ownsRow base e size v n xs := by
  obtain ⟨hl, h⟩ := h
  refine ⟨hl, ?_⟩
  rcases h with h | ⟨g, cap, cur, hv, hb, hc, h2⟩
  · exact Or.inl h
  · exact Or.inr ⟨g, cap, cur, hv, hb, by rw [hn.block _ (lt_of_block hc)]; exact hc, h2⟩
end Go.Proofs.Ytppmpledcaonkaa
