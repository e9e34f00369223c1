/- Layer 45: the document's Child, and Child. -/
import Derived.Test.YtoplabhoedloeaaDrvB
namespace Go.Proofs.Ytoplabhoedloeaa
open Go Go.RowKit Go.Bv Go.Drv
set_option linter.unusedVariables false
set_option maxRecDepth 100000
set_option maxHeartbeats 4000000 in
theorem childr_q (k : BitVec 64 × BitVec 64) (l : List UInt8) (hs : l.length ≤ 140737488355327) (w : World) :
    Calls Try.prog 12 #[.agg #[.int .u64 (W64 k.1), .int .u64 (W64 k.2)], .string (bs l)] w fun e w' => e = .returned (.agg #[.int .u64 (W64 (kid k l).1), .int .u64 (W64 (kid k l).2)]) ∧ New w w' := by
  have HZ := Lib.hid (two_blocks w (.cells #[.int .u64 (W64 k.1), .int .u64 (W64 k.2)] 24) (.cells #[.int .u64 0, .int .u64 0] 24))
  have HCV := Lib.hid (fun w => conv_cb (P := Try.prog) 9 46 5 (l ++ [108]) w Try.underlying9 Try.underlying46 Try.underlying5 (by rw [List.length_append]; unfold maxLen; simp; omega))
  have hcat : bs l ++ ⟨#[108]⟩ = bs (l ++ [108]) := by
    unfold bs
    apply ByteArray.ext
    simp
  have HCAT := Lib.hid hcat
  have hw : wds (l ++ [108]) = wds l ++ [108#8] := by unfold wds; rw [List.map_append]; rfl
  have HW := Lib.hid hw
  have hsz1 : (bs l).size + (ByteArray.mk #[108]).size ≤ 9223372036854775807 := by rw [bs_size]; show l.length + 1 ≤ _; omega
  have hsz2 : ¬ (bs l).size + (ByteArray.mk #[108]).size > 9223372036854775807 := by omega
  have HK := Lib.hid (fun w a n c h => oner_q k a n c (wds (l ++ [108])) w h)
  have HL : Hid ((l ++ [108]).length ≤ 140737488355328) := Lib.hid (by rw [List.length_append]; simp; omega)
  unfold kid
  rw [← hw]
  generalize kidB k (wds (l ++ [108])) = r at *
  clear hw hs
  go_enter Try.func12, Try.ntmps12
  go_wp2_with fail
  have hn0 := HZ.out.2.2
  have HO := Lib.hid HZ.out.2.1
  obtain ⟨w0, hw0⟩ : ∃ z, ((w.alloc (.cells #[.int .u64 (W64 k.1), .int .u64 (W64 k.2)] 24)).alloc (.cells #[.int .u64 0, .int .u64 0] 24)) = z := ⟨_, rfl⟩
  rw [hw0] at hn0 HO
  rw [hw0]
  clear HZ hw0
  obtain ⟨cap, w1, hrun, hcb, hn1⟩ := HCV.out w0
  rw [hrun]
  have hlx := HL.out
  clear hrun HCAT HW hcat hsz1 hsz2 HL
  generalize (l ++ [108]).length = n at *
  generalize wds (l ++ [108]) = m at *
  have HN := Lib.hid (hn0.trans hn1)
  replace HO := Lib.hid ((hn1.block _ (lt_of_block HO.out)).trans HO.out)
  have HR := Lib.hid (hcb.row hlx)
  clear hcb hn1 hn0 HCV hlx
  obtain ⟨g, hg⟩ : ∃ g, w0.heap.size = g := ⟨_, rfl⟩
  rw [hg] at HR
  rw [hg]
  clear hg
  go_wp2_with fail
  refine (HK.out _ _ _ _ HR.out).mono ?_
  rintro e w8 ⟨rfl, hn⟩
  replace HO := Lib.hid ((hn.block _ (lt_of_block HO.out)).trans HO.out)
  replace HN := Lib.hid (HN.out.trans hn)
  clear hn HR HK
  have z0 := cell_of_row _ _ 0 _ _ _ HO.out
  have z1 := cell_of_row _ _ 1 _ _ _ HO.out
  have zf := fun i => frozen_of_row _ _ i _ _ HO.out
  go_wp2
  refine bodyPost_ret (by simp [results, Try.results12, go_sem, z0, z1]; try rfl) rfl ?_
  exact ⟨rfl, ((HN.out.setCell (by show w.heap.size ≤ w.heap.size + 1; omega) _).setCell (by show w.heap.size ≤ w.heap.size + 1; omega) _)⟩
end Go.Proofs.Ytoplabhoedloeaa
