/- slices.Repeat of one word. -/
import Derived.Test.YtdjlbpgjbgepdaaGreatFamH
import Derived.Test.YtdjlbpgjbgepdaaGreatShelf
import Derived.Laws.CopyOwn
import Derived.Deep.RegionLaw
import Derived.Deep.RegionWith
namespace Go.Bv
open Go Go.RowKit
/-- so many of n cells hold v, the rest 0 -/
def rpV (v : BitVec 64) (k n : Nat) : List Value := List.replicate k (.int .u64 (W64 v)) ++ List.replicate (n - k) (.int .u64 0)
theorem rpV_len (v : BitVec 64) {k n : Nat} (h : k ≤ n) : (rpV v k n).length = n := by unfold rpV; simp; omega
theorem rpV_get (v : BitVec 64) {k n j : Nat} (h : j < k) : (rpV v k n)[j]? = some (.int .u64 (W64 v)) := by
  unfold rpV
  rw [List.getElem?_append_left (by simpa using h), List.getElem?_replicate, if_pos h]
theorem rpV_splice (v : BitVec 64) {k m n : Nat} (h : k + m ≤ n) : splice (rpV v k n) k (List.replicate m (.int .u64 (W64 v))) = rpV v (k + m) n := by
  unfold splice rpV
  rw [List.take_append_of_le_length (by simp), List.take_of_length_le (by simp), List.length_replicate, List.drop_append, List.drop_of_length_le (by simp), List.nil_append, List.length_replicate, List.drop_replicate, ← List.append_assoc, List.replicate_append_replicate]
  congr 2
  omega
theorem rpV_one (u : Value) (hu : u.oneCell' = true) (hz : Value.int .u64 0 = u) (v : BitVec 64) (n : Nat) : (madeCells #[u] n).toList = rpV v 0 n := by
  subst hz
  rw [toList_madeCells_one]
  unfold rpV
  simp
end Go.Bv
namespace Go.Proofs.YtdjlbpgjbgepdaaGreat
open Go.RowKit Go.Bv
set_option linter.unusedVariables false
set_option maxRecDepth 100000
theorem size_qS : (Tryz.prog.info? 23).map (·.size) = some 1 := by kernel_rfl
theorem mul_one44 (n : Nat) (hn : n ≤ 1000000) (w : World) : Calls Tryz.prog 38 #[.int .u64 (W64 1#64), .int .u64 (W64 (BitVec.ofNat 64 n))] w fun e w' => e = .returned (.tuple #[.int .u64 0, .int .u64 (W64 (BitVec.ofNat 64 n))]) ∧ w' = w := by
  have hm : ∀ w, Calls Tryz.prog 53 #[.int .u64 (W64 1#64), .int .u64 (W64 (BitVec.ofNat 64 n))] w fun e w' => e = .returned (.tuple #[.int .u64 0, .int .u64 (W64 (BitVec.ofNat 64 n))]) ∧ w' = w := by
    intro w
    have h := Tryz.bits_Mul64 1 n (by omega) (by omega) w
    rw [Nat.one_mul, Nat.div_eq_of_lt (by omega), Nat.mod_eq_of_lt (by omega)] at h
    have e : W64 (BitVec.ofNat 64 n) = (n : Int) := by unfold W64; rw [BitVec.toNat_ofNat, Nat.mod_eq_of_lt (by omega)]
    rw [e]
    exact h
  have HM := Lib.hid hm
  clear hm
  go_enter Tryz.func38, Tryz.ntmps38
  go_wp2_with fail
  refine (HM.out _).mono ?_
  rintro e w' ⟨rfl, rfl⟩
  go_wp2
  go_ret2
  first | exact ⟨rfl, rfl⟩ | rfl | trivial
set_option maxHeartbeats 4000000 in
theorem rep_44 (v : BitVec 64) (n : Nat) (h0 : 1 ≤ n) (hn : n ≤ 1000) (g c : Nat) (w : World) (h : QRow w (some ⟨g, 0, none⟩) 1 c [v]) : Calls Tryz.prog 25 #[.slice (some ⟨g, 0, none⟩) 1 c, .int .i64 (n : Int)] w fun e w' =>
    (∃ r, e = .returned (.slice (some ⟨r, 0, none⟩) n n) ∧ w.heap.size ≤ r ∧ QRow w' (some ⟨r, 0, none⟩) n n (List.replicate n v)) ∧ New w w' := by
  obtain ⟨i0, hi, hz0, hz1, hz2⟩ := info_parts info_u64q
  have HMU := Lib.hid (fun w => mul_one44 n (by omega) w)
  have hmk := fun wq => run_make_row (P := Tryz.prog) 28 23 i0 (.int .u64 0) Tryz.underlying28 hi hz0 hz1 rfl .i64 .i64 n (by rw [hz2]; omega) (by omega) wq
  have HMK : Hid (∀ (wq : World) (t : Int), t = (n : Int) → (Instr.makeSlice 28 (.int .i64 t) (.int .i64 t)).run Tryz.prog wq = .ok (.slice (some ⟨wq.heap.size, 0, none⟩) n n) (wq.alloc (.cells (madeCells #[.int .u64 0] n) 23))) := Lib.hid (by rintro wq t rfl; exact hmk wq)
  clear hmk
  have hneg : ¬ (n : Int) < 0 := by omega
  have HWN : Hid (W64 (BitVec.ofNat 64 n) = (n : Int)) := Lib.hid (by unfold W64; rw [BitVec.toNat_ofNat, Nat.mod_eq_of_lt (by omega)])
  have hcv : (n : Int) % 18446744073709551616 = (n : Int) := by omega
  have hbig : decide ((9223372036854775807 : Int) < (n : Int)) = false := decide_eq_false (by omega)
  have HH := Lib.hid h
  clear h
  go_enter Tryz.func25, Tryz.ntmps25
  go_wp2_with fail
  refine (HMU.out _).mono ?_
  rintro e w1 ⟨rfl, rfl⟩
  rw [HWN.out]
  clear hcv
  have hcv : wrap64 (n : Int) = (n : Int) := by unfold wrap64; omega
  go_wp2_with fail
  rw [HMK.out _ _ rfl]
  clear HMK
  have HWA : Hid ((w1.alloc (.cells (madeCells #[.int .u64 0] n) 23)).heap[w1.heap.size]? = some (.cells (rpV v 0 n).toArray 23 (0, 0))) := Lib.hid (by rw [← rpV_one (.int .u64 0) rfl rfl v n, Array.toArray_toList]; exact heap_alloc_new w1 _)
  have HNA := Lib.hid ((New.refl w1).alloc (.cells (madeCells #[.int .u64 0] n) 23))
  have HH2 := Lib.hid (HH.out.stay HNA.out)
  generalize w1.alloc (.cells (madeCells #[.int .u64 0] n) 23) = wa at *
  have HCL : Hid ((1 : Nat) = Nat.min 1 n) := Lib.hid (Nat.min_eq_left h0).symm
  have HLN : Hid ([Value.int .u64 (W64 v)].length = Nat.min 1 n) := Lib.hid HCL.out
  have HSR : Hid (∀ x : Addr, 0 < [Value.int .u64 (W64 v)].length → some x = some x ∧ ∃ ad, (some ⟨g, 0, none⟩ : Option Addr) = some ad ∧ ∀ j u, [Value.int .u64 (W64 v)][j]? = some u → wa.cell? (ad.add j) = some u) := Lib.hid (fun x _ => ⟨rfl, _, rfl, fun j u hu => by
    rcases j with _ | j
    · obtain rfl := Option.some.inj hu
      rw [add_plain]; exact HH2.out.cell g 0 rfl 0 (by omega)
    · cases hu⟩)
  have HFI : Hid (0 + [Value.int .u64 (W64 v)].length ≤ (rpV v 0 n).length) := Lib.hid (by rw [rpV_len v (Nat.zero_le _)]; simpa using h0)
  have HON : Hid (∀ u ∈ [Value.int .u64 (W64 v)], u.oneCell' = true) := Lib.hid (by intro u hu; obtain rfl := List.mem_singleton.1 hu; rfl)
  go_wp2_with (refine wpList_copy_splice rfl (.tmp 31) (.tmp 32) 28 28 rfl 23 Tryz.underlying28 size_qS _ _ _ _ _ _ rfl rfl w1.heap.size 0 (rpV v 0 n) 23 HWA.out [.int .u64 (W64 v)] HLN.out (HSR.out _) HFI.out HON.out w1.heap.size w1 HNA.out (Nat.le_refl _) ?_)
  intro w2 hg2 hb2
  have HG2 : Hid (w2.heap[w1.heap.size]? = some (.cells (rpV v 1 n).toArray 23 (0, 0))) := Lib.hid (by have h := hg2.out; rw [show [Value.int .u64 (W64 v)] = List.replicate 1 (Value.int .u64 (W64 v)) from rfl, rpV_splice v (by omega : 0 + 1 ≤ n)] at h; exact h)
  have HN2 : Hid (New w1 w2) := Lib.hid hb2
  clear hg2 hb2 HWA HNA HH2 HH HLN HSR HFI HON HCL
  go_wp2_with fail
  go_loopw [8] (fun c wr => ∃ k : Nat, 1 ≤ k ∧ k ≤ n ∧ c = .int .i64 (k : Int) ∧ Hid (wr.heap[w1.heap.size]? = some (.cells (rpV v k n).toArray 23 (0, 0))) ∧ Hid (New w1 wr)) (fun c _ => n - (intOf c).toNat)
  case atStart => exact ⟨1, Nat.le_refl _, h0, rfl, HG2, HN2⟩
  case round =>
    obtain ⟨k, hk1, hk, rfl, HG, HN⟩ := hrel
    clear HG2 HN2
    by_cases hlt : (k : Int) < (n : Int)
    · obtain ⟨m, hm⟩ : ∃ m, m = Nat.min k (n - k) := ⟨_, rfl⟩
      have hkn : k < n := by omega
      have hmk : m ≤ k ∧ m ≤ n - k ∧ 1 ≤ m := by
        have h1 := Nat.min_le_left k (n - k)
        have h2 := Nat.min_le_right k (n - k)
        have h3 : Nat.min k (n - k) = k ∨ Nat.min k (n - k) = n - k := by
          show min k (n - k) = k ∨ min k (n - k) = n - k
          omega
        change Nat.min k (n - k) ≤ k at h1
        change Nat.min k (n - k) ≤ n - k at h2
        omega
      have HMK := Lib.hid hmk
      have HLN : Hid ((List.replicate m (Value.int .u64 (W64 v))).length = Nat.min k (n - k)) := Lib.hid (by rw [List.length_replicate]; exact hm)
      have HSR : Hid (0 < (List.replicate m (Value.int .u64 (W64 v))).length → ∃ ad, (some ⟨w1.heap.size, 0, none⟩ : Option Addr) = some ad ∧ ∀ j u, (List.replicate m (Value.int .u64 (W64 v)))[j]? = some u → wr.drew.cell? (ad.add j) = some u) := Lib.hid (fun _ => ⟨_, rfl, fun j u hu => by
        rw [List.getElem?_replicate] at hu
        by_cases hj : j < m
        · rw [if_pos hj] at hu
          obtain rfl := Option.some.inj hu
          rw [add_plain, Nat.zero_add]
          show wr.cell? _ = _
          rw [cell_of_row _ _ _ _ _ _ HG.out, List.getElem?_toArray, rpV_get v (by omega)]
        · rw [if_neg hj] at hu; cases hu⟩)
      have HFI : Hid (k + (List.replicate m (Value.int .u64 (W64 v))).length ≤ (rpV v k n).length) := Lib.hid (by rw [rpV_len v hk, List.length_replicate]; omega)
      have HON : Hid (∀ u ∈ List.replicate m (Value.int .u64 (W64 v)), u.oneCell' = true) := Lib.hid (by intro u hu; obtain rfl := List.eq_of_mem_replicate hu; rfl)
      have HND := Lib.hid (HN.out.drew)
      have HGD : Hid (wr.drew.heap[w1.heap.size]? = some (.cells (rpV v k n).toArray 23 (0, 0))) := Lib.hid HG.out
      clear hm hmk
      have hk0 : (0 : Int) ≤ (k : Int) := by omega
      have hkn2 : (k : Int) ≤ (n : Int) := by omega
      have hbn : (n : Int) ≤ 1000 := by omega
      have hnk : ¬ n = k := by omega
      go_wp2_with fail
      go_region_law (refine step_copy_splice rfl (.tmp 41) (.tmp 44) 28 28 rfl 23 Tryz.underlying28 size_qS (some ⟨w1.heap.size, k, none⟩) (some ⟨w1.heap.size, 0, none⟩) (n - k) (n - k) k n (by simp [Act.eval, Act.put]) (by simp [Act.eval, Act.put]) w1.heap.size k (rpV v k n) 23 HGD.out (List.replicate m (.int .u64 (W64 v))) HLN.out (fun h => ⟨rfl, HSR.out h⟩) HFI.out HON.out w1.heap.size w1 HND.out (Nat.le_refl _) ?_; intro w4 hg4 hb4)
      all_goals
        have HG4 : Hid (w4.heap[w1.heap.size]? = some (.cells (rpV v (k + m) n).toArray 23 (0, 0))) := Lib.hid (by have h := hg4.out; rw [rpV_splice v (by have := HMK.out; omega)] at h; exact h)
        have HN4 : Hid (New w1 w4) := Lib.hid hb4
        have hwk : IntKind.i64.wrap ((k : Int) + (m : Int)) = ((k + m : Nat) : Int) := by have := HMK.out; simp [IntKind.wrap, IntKind.bits, IntKind.signed]; omega
        clear hg4 hb4
        rw [hwk]
        go_simp
        go_wp2
        refine ⟨⟨k + m, by omega, by have := HMK.out; omega, rfl, HG4, HN4⟩, ?_⟩
        have := HMK.out; simp [intOf]; omega
    · obtain rfl : k = n := by omega
      have HQ : Hid (QRow wr (some ⟨w1.heap.size, 0, none⟩) k k (List.replicate k v)) := Lib.hid (by
        refine ⟨by simp, Nat.le_refl _, by omega, by omega, (fun e => by cases e), ?_, ?_, ?_⟩
        · intro b off e j hj
          cases e
          rw [Nat.zero_add, cell_of_row _ _ _ _ _ _ HG.out, List.getElem?_toArray, rpV_get v hj, List.getD_eq_getElem?_getD, List.getElem?_replicate, if_pos hj]; rfl
        · intro x e h; cases e; rfl
        · intro x e h; cases e; exact lt_of_block HG.out)
      go_wp2
      go_ret
      exact ⟨⟨_, rfl, Nat.le_refl _, HQ.out⟩, HN.out⟩
end Go.Proofs.YtdjlbpgjbgepdaaGreat
