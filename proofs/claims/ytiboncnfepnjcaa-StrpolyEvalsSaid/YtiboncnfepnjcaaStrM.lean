/- Plain lemmas: the value of a text's polynomial, chunk by chunk. -/
import Derived.Test.YtiboncnfepnjcaaStrB
import Derived.Test.YtiboncnfepnjcaaThrN
namespace Go.Proofs.Ytiboncnfepnjcaa
open Go Go.RowKit Go.Bv
set_option linter.unusedVariables false
theorem pv_cons (x : Nat) (f : Nat → Nat) (z : Nat) : ∀ n, pv (fun i => if i = 0 then x else f (i - 1)) z (n + 1) = x + z * pv f z n
  | 0 => by
    show 0 + (if 0 = 0 then x else f (0 - 1)) * z ^ 0 = x + z * 0
    rw [if_pos rfl, Nat.pow_zero]; omega
  | n + 1 => by
    show pv (fun i => if i = 0 then x else f (i - 1)) z (n + 1) + (if n + 1 = 0 then x else f (n + 1 - 1)) * z ^ (n + 1) = x + z * (pv f z n + f n * z ^ n)
    rw [pv_cons x f z n, if_neg (by omega), Nat.add_sub_cancel, Nat.mul_add, Nat.pow_succ]
    have e : f n * (z ^ n * z) = z * (f n * z ^ n) := by rw [Nat.mul_comm z, Nat.mul_assoc]
    rw [e, Nat.add_assoc]
theorem nv_cons (x : BitVec 64) (l : List (BitVec 64)) (z : BitVec 64) : nv (x :: l) z = x.toNat + z.toNat * nv l z := by
  have h := pv_cons x.toNat (fun i => (l.getD i 0).toNat) z.toNat l.length
  unfold nv
  rw [List.length_cons, ← h]
  congr 1
  funext i
  cases i with
  | zero => rfl
  | succ j => rfl
/-- the value, chunk by chunk -/
def hor (a : BitVec 64) (cs : List (BitVec 64)) : BitVec 64 := cs.foldl (fun h x => mp (h.toNat * a.toNat + x.toNat)) 1#64
theorem hor_snoc (a : BitVec 64) (cs : List (BitVec 64)) (x : BitVec 64) : hor a (cs ++ [x]) = mp ((hor a cs).toNat * a.toNat + x.toNat) := by unfold hor; rw [List.foldl_append]; rfl
theorem hor_rev (a : BitVec 64) : ∀ q : List (BitVec 64), mp (hor a q.reverse).toNat = mp (nv (q ++ [1#64]) a)
  | [] => by
    show mp (1#64 : BitVec 64).toNat = mp (nv [1#64] a)
    rw [nv_single]
  | x :: q => by
    rw [List.reverse_cons, hor_snoc, List.cons_append, nv_cons]
    have ih := hor_rev a q
    apply mp_congr
    have h2 := mp_iff.1 ih
    rw [mp_toNat, Nat.mod_mod, Nat.add_mod, Nat.mul_mod, h2, ← Nat.mul_mod, ← Nat.add_mod, Nat.add_comm, Nat.mul_comm]
theorem hor_lt (a : BitVec 64) (cs : List (BitVec 64)) : (hor a cs).toNat < PP := by
  rcases List.eq_nil_or_concat cs with rfl | ⟨l, x, rfl⟩
  · show (1#64 : BitVec 64).toNat < PP; decide
  · rw [List.concat_eq_append, hor_snoc]; exact mp_lt _
/-- what Eval answers, chunk by chunk, is the polynomial's value -/
theorem hor_value (a : BitVec 64) (l : List (BitVec 8)) : hor a (chL l) = mp (nv (monL l) a) := by
  have h := hor_rev a (chL l).reverse
  rw [List.reverse_reverse, mp_low (hor_lt _ _)] at h
  exact h
end Go.Proofs.Ytiboncnfepnjcaa
