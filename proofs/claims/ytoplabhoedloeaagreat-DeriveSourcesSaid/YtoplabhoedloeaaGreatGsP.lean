/- All generators: equality of states; what every kind's seed makes may be; the document's New. -/
import Derived.Test.YtoplabhoedloeaaGreatGsO
import Derived.Test.YtoplabhoedloeaaGreatGsF
import Derived.Test.YtoplabhoedloeaaGreatClass
import Derived.ChangeKeysEq
import Derived.Laws.StructEq
namespace Go.Proofs.YtoplabhoedloeaaGreat
open Go.RowKit Go.Bv
set_option linter.unusedVariables false
set_option maxRecDepth 100000
theorem plainI15 : Tryz.prog.plainKey 3 = true := by kernel_rfl
theorem fields15 : ((Tryz.prog.fieldsOf 28).toList.map fun f => (f.type, f.offset, decide (f.name = "_"))) = [(3, 0, false), (26, 1, false)] := by kernel_rfl
theorem cells4_15 : Tryz.prog.cellsOf 26 = 4 := by kernel_rfl
theorem info4_15 : (Tryz.prog.info? 26).isSome = true := by kernel_rfl
theorem part4_15 (w : World) (k : Int) (q : W4) : (part 26 (stc k q) 1).run Tryz.prog w = .ok (.agg q.cells) w := by
  obtain ⟨i, hi⟩ := Option.isSome_iff_exists.1 info4_15
  have hu := Tryz.underlying26
  have hs := run_sizeOf w hi
  rw [cells4_15] at hs
  have ha : (isAgg 26).run Tryz.prog w = .ok true w := by simp [isAgg, run_underlying hu]
  unfold part
  simp only [Sem.run_bind, ha, hs, Result.andThen_ok, if_true, Sem.run_pure]
  rfl
theorem eqSt (w : World) (k k' : Int) (q q' : W4) :
    (Op.equalIn 10000 28 (.agg (stc k q)) (.agg (stc k' q'))).run Tryz.prog w = .ok (k == k' && (q.a == q'.a && (q.b == q'.b && (q.c == q'.c && q.d == q'.d)))) w := by
  have hu := Tryz.underlying3
  have g1 := run_equalIn_int (w := w) 9998 _ .i64 .i64 k k' hu
  have g2 := eq4d 9997 26 Tryz.underlying26 w q.a q.b q.c q.d q'.a q'.b q'.c q'.d
  have e1 := run_part_plain (w := w) (v := .int .i64 k) plainI15 (xs := stc k q) (off := 0) rfl
  have f1 := run_part_plain (w := w) (v := .int .i64 k') plainI15 (xs := stc k' q') (off := 0) rfl
  have e2 := part4_15 w k q
  have f2 := part4_15 w k' q'
  rw [run_equalIn_struct w 9999 _ _ _ (by kernel_rfl) (by kernel_rfl)]
  have hfs := fields15
  generalize (Tryz.prog.fieldsOf 28).toList = fs at hfs
  obtain ⟨a, l1, rfl, ha, h1⟩ := List.map_eq_cons_iff.1 hfs
  obtain ⟨b, l2, rfl, hb, h2⟩ := List.map_eq_cons_iff.1 h1
  obtain rfl := List.map_eq_nil_iff.1 h2
  simp only [Prod.mk.injEq, decide_eq_false_iff_not] at ha hb
  obtain ⟨t1, o1, n1⟩ := ha
  obtain ⟨t2, o2, n2⟩ := hb
  simp only [Op.eqFields, t1, o1, n1, t2, o2, n2, ne_eq, not_false_eq_true, if_true, Sem.run_bind, e1, f1, g1, Result.andThen_ok]
  rcases h1 : k == k' <;> rcases h0 : (q.a == q'.a && (q.b == q'.b && (q.c == q'.c && q.d == q'.d))) <;> rw [h0] at g2 <;> simp [Sem.run_bind, e2, f2, g2]
theorem eqSt_self (w : World) (k : Int) (q : W4) : (Op.equalIn 10000 28 (.agg (stc k q)) (.agg (stc k q))).run Tryz.prog w = .ok true w := by
  rw [eqSt]; simp
theorem eqSt_zero (w : World) : (Op.equalIn 10000 28 (.agg zst) (.agg zst)).run Tryz.prog w = .ok true w := by
  have h := eqSt_self w 0 ⟨0#64, 0#64, 0#64, 0#64⟩
  have e : stc 0 ⟨0#64, 0#64, 0#64, 0#64⟩ = zst := by
    show #[Value.int .i64 0, .int .u64 (W64 0#64), .int .u64 (W64 0#64), .int .u64 (W64 0#64), .int .u64 (W64 0#64)] = _
    rw [W64z]
  rwa [e] at h
theorem or_odd (x : BitVec 64) : (2#64 * x + 1#64) &&& 1#64 = 1#64 := by
  rw [← low_mod]
  apply BitVec.eq_of_toNat_eq
  simp [BitVec.toNat_umod, BitVec.toNat_add, BitVec.toNat_mul]
theorem odd_low128 (x : BitVec 128) : lo128 (x <<< 1 ||| 1#128) &&& 1#64 = 1#64 := by
  unfold lo128
  ext i hi
  rcases Nat.eq_zero_or_pos i with h | h
  · subst h; simp
  · have : (1#64)[i] = false := by
      rw [BitVec.getElem_one]; simp; omega
    simp [this]
theorem chk_sd (k : Int) (hk : okK k = true) (n : BitVec 64) : chkK k (sdW k n) = 0 := by
  unfold okK at hk; simp at hk
  have h8 : k = 1 ∨ k = 2 ∨ k = 3 ∨ k = 4 ∨ k = 5 ∨ k = 6 ∨ k = 7 ∨ k = 8 := by omega
  have h9 : (w9 (sd9 n)).no = false := by
    have h := sd9_nz n
    unfold zr at h; unfold W4.no w9
    first | exact h | simpa using h
  have h10 : (w10 (sd10 n)).no = false := by
    have h := sd10_nz n
    unfold zr2 at h; unfold W4.no w10
    simp at h ⊢
    exact h
  have h7 : (w7 n).b &&& 1#64 = 1#64 := or_odd _
  have h8b : (w8 n).c &&& 1#64 = 1#64 := odd_low128 _
  rcases h8 with rfl | rfl | rfl | rfl | rfl | rfl | rfl | rfl
  · exact chk1 n
  · simp [chkK, okK, formK, szK, badK, sdW, h9]
  · simp [chkK, okK, formK, szK, badK, sdW, h9]
  · simp [chkK, okK, formK, szK, badK, sdW, h9]
  · simp [chkK, okK, formK, szK, badK, sdW, h10]; simp [w10]
  · simp [chkK, okK, formK, szK, badK, sdW, h10]; simp [w10]
  · simp [chkK, okK, formK, szK, badK, sdW, h7]; simp [w7]
  · simp [chkK, okK, formK, szK, badK, sdW, h8b]
theorem rnew_any (k : Int) (hk : okK k = true) (n : BitVec 64) (w : World) : Calls Tryz.prog 11 #[.int .i64 k, .int .u64 (W64 n)] w fun e w' => e = .returned (.agg (stc k (sdW k n))) ∧ New w w' := by
  unfold okK at hk; simp at hk
  have h8 : k = 1 ∨ k = 2 ∨ k = 3 ∨ k = 4 ∨ k = 5 ∨ k = 6 ∨ k = 7 ∨ k = 8 := by omega
  rcases h8 with rfl | rfl | rfl | rfl | rfl | rfl | rfl | rfl
  · exact rnew1 n w
  · exact rnewX 2 (by omega) n w
  · exact rnewX 3 (by omega) n w
  · exact rnewX 4 (by omega) n w
  · exact rnew5 n w
  · exact rnew6 n w
  · exact rnew7 n w
  · exact rnew8 n w
end Go.Proofs.YtoplabhoedloeaaGreat
