/- Contracts of load.Put32, load.Put64 and of the document's own Bytes and Both: what each call returns, for all bytes. -/
import Derived.Test.YtnapogamcohfaaaLoadB
import Derived.Test.YtnapogamcohfaaaSwap
namespace Go.Proofs.Ytnapogamcohfaaa
open Go.RowKit Go.Bv
set_option linter.unusedVariables false
/-- the first n bytes of a word, the lowest first -/
def bytes (x : BitVec 64) (n : Nat) : List (BitVec 8) := (List.range n).map (byt x)
theorem bytes_len (x : BitVec 64) (n : Nat) : (bytes x n).length = n := by simp [bytes]
theorem info_u8 : (Try.prog.info? 5).map (fun i => (i.zero, i.size, i.bytes)) = some (some (.int .u8 0), 1, 1) := by kernel_rfl
theorem new_cells (w : World) (cs : Array Value) (t : TypeId) : ∀ j u, cs.toList[j]? = some u → (w.alloc (.cells cs t)).cell? ((⟨w.heap.size, 0, none⟩ : Addr).add j) = some u := by
  intro j u h
  rw [add_plain, Nat.zero_add, World.cell?_alloc_new]
  simpa using h
theorem put8 (x : BitVec 64) : [Value.int .u8 (W8 (x.setWidth 8)), .int .u8 (W8 ((x >>> 8).setWidth 8)), .int .u8 (W8 ((x >>> 16).setWidth 8)), .int .u8 (W8 ((x >>> 24).setWidth 8)), .int .u8 (W8 ((x >>> 32).setWidth 8)), .int .u8 (W8 ((x >>> 40).setWidth 8)), .int .u8 (W8 ((x >>> 48).setWidth 8)), .int .u8 (W8 ((x >>> 56).setWidth 8))] = (bytes x 8).map fun y => Value.int .u8 (W8 y) := by
  have h0 : x >>> 0 = x := by simp
  conv => lhs; rw [← h0]
  rfl
theorem byt_up (x : BitVec 32) (j : Nat) (h : j < 4) : byt (x.setWidth 64) j = (x >>> (8 * j)).setWidth 8 := by
  apply BitVec.eq_of_getLsbD_eq; intro b hb
  rw [byt_bit _ _ _ hb]
  simp [hb]; omega
theorem put4 (x : BitVec 32) : [Value.int .u8 (W8 (x.setWidth 8)), .int .u8 (W8 ((x >>> 8).setWidth 8)), .int .u8 (W8 ((x >>> 16).setWidth 8)), .int .u8 (W8 ((x >>> 24).setWidth 8))] = (bytes (x.setWidth 64) 4).map fun y => Value.int .u8 (W8 y) := by
  have h0 : x >>> 0 = x := by simp
  have e : bytes (x.setWidth 64) 4 = [x.setWidth 8, (x >>> 8).setWidth 8, (x >>> 16).setWidth 8, (x >>> 24).setWidth 8] := by
    show [byt (x.setWidth 64) 0, byt (x.setWidth 64) 1, byt (x.setWidth 64) 2, byt (x.setWidth 64) 3] = _
    rw [byt_up x 0 (by omega), byt_up x 1 (by omega), byt_up x 2 (by omega), byt_up x 3 (by omega), Nat.mul_zero, h0]
  rw [e]; rfl
theorem low_byte (x : BitVec 64) (k : Nat) : (x >>> (8 * k) % 256#64).setWidth 8 = byt x k := by
  rw [mod256]; apply BitVec.eq_of_getLsbD_eq; intro i hi; simp [hi]
theorem bytes_succ (x : BitVec 64) (k : Nat) : bytes x (k + 1) = bytes x k ++ [byt x k] := by
  unfold bytes; rw [List.range_succ, List.map_append]; rfl
end Go.Proofs.Ytnapogamcohfaaa
