import Derived.Test.YtebcfbcfipmahaaGreatYLoadA
/- Contracts of load.Le32, load.Le64 and of the document's own Num, There and Left, Rot32, Rot64, Swap: what each call returns. -/
namespace Go.Proofs.YtebcfbcfipmahaaGreat
open Go.RowKit Go.Bv
set_option linter.unusedVariables false
theorem BRow_sub {w : World} {b off len cap k n : Nat} {l : List (BitVec 8)} (h : BRow w (some ⟨b, off, none⟩) len cap l) (hk : k + n ≤ len) :
    BRow w (some ⟨b, off + k, none⟩) n n ((l.drop k).take n) where
  len_eq := by have := h.len_eq; simp; omega
  le := Nat.le_refl _
  most := by have := h.most; omega
  room := by have := h.most; omega
  none := by intro e; cases e
  cell := by
    intro b' off' e i hi
    cases e
    have := h.cell b off rfl (k + i) (by omega)
    rw [Nat.add_assoc, this]
    have e2 : ((l.drop k).take n).getD i 0 = l.getD (k + i) 0 := by
      simp [List.getD_eq_getElem?_getD, hi, List.getElem?_drop]
    rw [e2]
  spot := by intro x e _; cases e; rfl
  old := by intro x e h0; cases e; exact h.old ⟨b, off, Option.none⟩ rfl (by omega)
theorem num_sub (l : List (BitVec 8)) (k n : Nat) : num (fun i => ((l.drop k).take n).getD i 0) n = num (fun i => l.getD (k + i) 0) n :=
  num_congr n (fun i hi => by simp [List.getD_eq_getElem?_getD, hi, List.getElem?_drop])
def rd (l : List (BitVec 8)) (k n : Nat) : BitVec 64 := num (fun i => l.getD (k + i) 0) n
set_option maxHeartbeats 1000000 in
theorem num_ref (a : Option Addr) (len cap : Nat) (l : List (BitVec 8)) (k n : Nat) (w : World) (h : BRow w a len cap l) (hk : k ≤ 140737488355328) (hn : n ≤ 100) :
    Calls Tryz.prog 117 #[.slice a len cap, .int .i64 k, .int .i64 n] w fun e w' => e = .returned (.int .u64 (W64 (rd l k n))) ∧ w' = w := by
  have hm := h.most
  have hl := h.le
  have hll := h.len_eq
  have Hll := Lib.hid hll
  clear hll
  go_enter Tryz.func117, Tryz.ntmps117
  go_wp2
  go_loop [7, 8] (fun t i => ∃ j : Nat, j ≤ n ∧ i = .int .i64 ((j : Int) - 1) ∧ t = .int .u64 (W64 (rd l (k + j) (n - j)))) (fun _ i => (intOf i + 1).toNat)
  case atStart => exact ⟨n, Nat.le_refl _, rfl, by rw [Nat.sub_self]; rfl⟩
  case round =>
    obtain ⟨j, hj, rfl, rfl⟩ := hrel
    by_cases h0 : j = 0
    · subst h0
      go_wp2
      go_ret
      exact ⟨ret64 (by simp), rfl⟩
    · obtain ⟨i, rfl⟩ : ∃ i, j = i + 1 := ⟨j - 1, by omega⟩
      have hstep : rd l (k + i) (n - i) = rd l (k + (i + 1)) (n - (i + 1)) * 256#64 + (l.getD (k + i) 0).setWidth 64 := by
        unfold rd
        rw [show n - i = (n - (i + 1)) + 1 by omega]
        simp only [num]
        congr 2
        exact num_congr _ (fun q _ => by rw [show k + i + (q + 1) = k + (i + 1) + q by omega])
      have HS := Lib.hid hstep
      clear hstep
      by_cases hin : k + i < len
      · obtain ⟨b, off, rfl, hc⟩ := h.addr (by omega)
        have hci := hc (k + i) hin
        clear hc
        have hin2 : (k : Int) + i < len := by omega
        go_wp2
        exact ⟨⟨i, by omega, rfl, by rw [HS.out, List.getD_eq_getElem?_getD]; rfl⟩, by simp [intOf]⟩
      · have hin2 : ¬ (k : Int) + i < len := by omega
        have hz : l.getD (k + i) 0 = 0 := by
          rw [List.getD_eq_getElem?_getD, List.getElem?_eq_none (by rw [Hll.out]; omega)]; rfl
        go_wp2
        exact ⟨⟨i, by omega, rfl, by rw [HS.out, hz]; simp⟩, by simp [intOf]⟩
end Go.Proofs.YtebcfbcfipmahaaGreat
