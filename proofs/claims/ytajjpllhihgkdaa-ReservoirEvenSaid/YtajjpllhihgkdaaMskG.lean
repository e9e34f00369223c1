/- Contracts of layer 39: Each, of the program and of the document. · Contracts of layer 39: Takes, Rank. · Contracts of the document's own layer 39: Takes, Take. -/
import Derived.Test.YtajjpllhihgkdaaMskC
import Derived.Test.YtajjpllhihgkdaaWidH
import Derived.Test.YtajjpllhihgkdaaMskD
import Derived.Deep.RegionHeld3
namespace Go.Bv
open Go Go.RowKit
/-- how many words are taken for each number, and its two halves -/
def eachM (n : BitVec 64) : Nat := if n = 0#64 then 0 else 1 * 2 ^ (64 - bitsM n)
def eachHi (n : BitVec 64) : BitVec 64 := BitVec.ofNat 64 (eachM n / 2 ^ 64)
def eachLo (n : BitVec 64) : BitVec 64 := BitVec.ofNat 64 (eachM n)
theorem eachM_lt (n : BitVec 64) : eachM n < 2 ^ 128 := by
  unfold eachM
  split
  · exact Nat.two_pow_pos 128
  · rw [Nat.one_mul]; exact (Nat.pow_lt_pow_iff_right (by omega)).2 (by omega)
theorem two_each (n : BitVec 64) : two (eachHi n) (eachLo n) = eachM n := by
  have h := eachM_lt n
  unfold two eachHi eachLo
  rw [BitVec.toNat_ofNat, BitVec.toNat_ofNat]
  omega
theorem each_zero : eachHi 0#64 = 0#64 ∧ eachLo 0#64 = 0#64 := by
  unfold eachHi eachLo eachM; rw [if_pos rfl]; exact ⟨rfl, rfl⟩
theorem two_unit : two 0#64 1#64 = 1 := by unfold two; rfl
end Go.Bv
namespace Go.Proofs.Ytajjpllhihgkdaa
open Go.RowKit Go.Bv
set_option linter.unusedVariables false
theorem one_bit (w : World) : ZRow (w.alloc (.cells #[.int .i64 1] 3)) (some ⟨w.heap.size, 0, none⟩) 1 1 (bitsOf 1 1) where
  len_eq := rfl
  le := Nat.le_refl _
  most := by omega
  room := by omega
  none := fun e => by cases e
  cell := fun b off e i hi => by
    cases e
    obtain rfl : i = 0 := by omega
    exact cell_of_row _ _ 0 _ _ _ (heap_alloc_new w _)
  spot := fun x e h0 => by cases e; rfl
  old := fun x e h0 => by cases e; simp
  wf := bitsOf_wf _ _
end Go.Proofs.Ytajjpllhihgkdaa
namespace Go.Proofs.Ytajjpllhihgkdaa
open Go.RowKit Go.Bv
set_option linter.unusedVariables false
end Go.Proofs.Ytajjpllhihgkdaa
namespace Go.Proofs.Ytajjpllhihgkdaa
open Go.RowKit Go.Bv
set_option linter.unusedVariables false
end Go.Proofs.Ytajjpllhihgkdaa
