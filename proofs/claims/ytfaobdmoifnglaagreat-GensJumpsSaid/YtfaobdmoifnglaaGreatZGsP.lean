import Derived.Test.YtfaobdmoifnglaaGreatZGsO
import Derived.Test.YtfaobdmoifnglaaGreatZGsF
import Derived.Test.YtfaobdmoifnglaaGreatZClass
import Derived.ChangeKeysEq
import Derived.Laws.StructEq
import Derived.Test.YtfaobdmoifnglaaGreatZGsT
section
/- All generators: equality of states; what every kind's seed makes may be; the document's New. -/
namespace Go.Proofs.YtfaobdmoifnglaaGreat
open Go.RowKit Go.Bv
set_option linter.unusedVariables false
set_option maxRecDepth 100000
theorem plainI15 : Tryz.prog.plainKey 3 = true := by kernel_rfl
theorem fields15 : ((Tryz.prog.fieldsOf 25).toList.map fun f => (f.type, f.offset, decide (f.name = "_"))) = [(3, 0, false), (23, 1, false)] := by kernel_rfl
theorem cells4_15 : Tryz.prog.cellsOf 23 = 4 := by kernel_rfl
theorem info4_15 : (Tryz.prog.info? 23).isSome = true := by kernel_rfl
theorem part4_15 (w : World) (k : Int) (q : W4) : (part 23 (stc k q) 1).run Tryz.prog w = .ok (.agg q.cells) w := by
  obtain ⟨i, hi⟩ := Option.isSome_iff_exists.1 info4_15
  have hu := Tryz.underlying23
  have hs := run_sizeOf w hi
  rw [cells4_15] at hs
  have ha : (isAgg 23).run Tryz.prog w = .ok true w := by simp [isAgg, run_underlying hu]
  unfold part
  simp only [Sem.run_bind, ha, hs, Result.andThen_ok, if_true, Sem.run_pure]
  rfl
theorem eqSt (w : World) (k k' : Int) (q q' : W4) :
    (Op.equalIn 10000 25 (.agg (stc k q)) (.agg (stc k' q'))).run Tryz.prog w = .ok (k == k' && (q.a == q'.a && (q.b == q'.b && (q.c == q'.c && q.d == q'.d)))) w := by
  have hu := Tryz.underlying3
  have g1 := run_equalIn_int (w := w) 9998 _ .i64 .i64 k k' hu
  have g2 := eq4d 9997 23 Tryz.underlying23 w q.a q.b q.c q.d q'.a q'.b q'.c q'.d
  have e1 := run_part_plain (w := w) (v := .int .i64 k) plainI15 (xs := stc k q) (off := 0) rfl
  have f1 := run_part_plain (w := w) (v := .int .i64 k') plainI15 (xs := stc k' q') (off := 0) rfl
  have e2 := part4_15 w k q
  have f2 := part4_15 w k' q'
  rw [run_equalIn_struct w 9999 _ _ _ (by kernel_rfl) (by kernel_rfl)]
  have hfs := fields15
  generalize (Tryz.prog.fieldsOf 25).toList = fs at hfs
  obtain ⟨a, l1, rfl, ha, h1⟩ := List.map_eq_cons_iff.1 hfs
  obtain ⟨b, l2, rfl, hb, h2⟩ := List.map_eq_cons_iff.1 h1
  obtain rfl := List.map_eq_nil_iff.1 h2
  simp only [Prod.mk.injEq, decide_eq_false_iff_not] at ha hb
  obtain ⟨t1, o1, n1⟩ := ha
  obtain ⟨t2, o2, n2⟩ := hb
  simp only [Op.eqFields, t1, o1, n1, t2, o2, n2, ne_eq, not_false_eq_true, if_true, Sem.run_bind, e1, f1, g1, Result.andThen_ok]
  rcases h1 : k == k' <;> rcases h0 : (q.a == q'.a && (q.b == q'.b && (q.c == q'.c && q.d == q'.d))) <;> rw [h0] at g2 <;> simp [Sem.run_bind, e2, f2, g2]
theorem eqSt_self (w : World) (k : Int) (q : W4) : (Op.equalIn 10000 25 (.agg (stc k q)) (.agg (stc k q))).run Tryz.prog w = .ok true w := by
  rw [eqSt]; simp
theorem eqSt_zero (w : World) : (Op.equalIn 10000 25 (.agg zst) (.agg zst)).run Tryz.prog w = .ok true w := by
  have h := eqSt_self w 0 ⟨0#64, 0#64, 0#64, 0#64⟩
  have e : stc 0 ⟨0#64, 0#64, 0#64, 0#64⟩ = zst := by
    show #[Value.int .i64 0, .int .u64 (W64 0#64), .int .u64 (W64 0#64), .int .u64 (W64 0#64), .int .u64 (W64 0#64)] = _
    rw [W64z]
  rwa [e] at h
theorem or_odd (x : BitVec 64) : (2#64 * x + 1#64) &&& 1#64 = 1#64 := by
  rw [← low_mod]
  apply BitVec.eq_of_toNat_eq
  simp [BitVec.toNat_umod, BitVec.toNat_add, BitVec.toNat_mul]
theorem odd_low128 (x : BitVec 128) : lo128 (x <<< 1 ||| 1#128) &&& 1#64 = 1#64 := by
  unfold lo128
  ext i hi
  rcases Nat.eq_zero_or_pos i with h | h
  · subst h; simp
  · have : (1#64)[i] = false := by
      rw [BitVec.getElem_one]; simp; omega
    simp [this]
theorem chk_sd (k : Int) (hk : okK k = true) (n : BitVec 64) : chkK k (sdW k n) = 0 := by
  unfold okK at hk; simp at hk
  have h8 : k = 1 ∨ k = 2 ∨ k = 3 ∨ k = 4 ∨ k = 5 ∨ k = 6 ∨ k = 7 ∨ k = 8 := by omega
  have h9 : (w9 (sd9 n)).no = false := by
    have h := sd9_nz n
    unfold zr at h; unfold W4.no w9
    first | exact h | simpa using h
  have h10 : (w10 (sd10 n)).no = false := by
    have h := sd10_nz n
    unfold zr2 at h; unfold W4.no w10
    simp at h ⊢
    exact h
  have h7 : (w7 n).b &&& 1#64 = 1#64 := or_odd _
  have h8b : (w8 n).c &&& 1#64 = 1#64 := odd_low128 _
  rcases h8 with rfl | rfl | rfl | rfl | rfl | rfl | rfl | rfl
  · exact chk1 n
  · simp [chkK, okK, formK, szK, badK, sdW, h9]
  · simp [chkK, okK, formK, szK, badK, sdW, h9]
  · simp [chkK, okK, formK, szK, badK, sdW, h9]
  · simp [chkK, okK, formK, szK, badK, sdW, h10]; simp [w10]
  · simp [chkK, okK, formK, szK, badK, sdW, h10]; simp [w10]
  · simp [chkK, okK, formK, szK, badK, sdW, h7]; simp [w7]
  · simp [chkK, okK, formK, szK, badK, sdW, h8b]
theorem rnew_any (k : Int) (hk : okK k = true) (n : BitVec 64) (w : World) : Calls Tryz.prog 17 #[.int .i64 k, .int .u64 (W64 n)] w fun e w' => e = .returned (.agg (stc k (sdW k n))) ∧ New w w' := by
  unfold okK at hk; simp at hk
  have h8 : k = 1 ∨ k = 2 ∨ k = 3 ∨ k = 4 ∨ k = 5 ∨ k = 6 ∨ k = 7 ∨ k = 8 := by omega
  rcases h8 with rfl | rfl | rfl | rfl | rfl | rfl | rfl | rfl
  · exact rnew1 n w
  · exact rnewX 2 (by omega) n w
  · exact rnewX 3 (by omega) n w
  · exact rnewX 4 (by omega) n w
  · exact rnew5 n w
  · exact rnew6 n w
  · exact rnew7 n w
  · exact rnew8 n w
end Go.Proofs.YtfaobdmoifnglaaGreat
end
section
/- All generators: what a step leaves may be; Step of any state; Next of one that may not be. -/
namespace Go.Proofs.YtfaobdmoifnglaaGreat
open Go.RowKit Go.Bv
set_option linter.unusedVariables false
set_option maxRecDepth 100000
theorem rotl_0 (n : Nat) : (0#64).rotateLeft n = 0#64 := by simp [BitVec.rotateLeft, BitVec.rotateLeftAux]
theorem rotl_no {x : BitVec 64} {k : Nat} (hk : k ≤ 64) (h : x.rotateLeft k = 0#64) : x = 0#64 := by
  have := rot_back x k hk
  rw [h, rotl_0] at this
  exact this.symm
theorem shl_no {x : BitVec 64} (h : x ^^^ x <<< 17 = 0#64) : x = 0#64 := by
  have h1 : x <<< 17 = x := by
    have := congrArg (fun z => x ^^^ z) h
    simp only [← BitVec.xor_assoc, BitVec.xor_self, BitVec.zero_xor, BitVec.xor_zero] at this
    exact this
  have h2 : (((x <<< 17) <<< 17) <<< 17) <<< 17 = x := by rw [h1, h1, h1, h1]
  rw [← h2, ← BitVec.shiftLeft_add, ← BitVec.shiftLeft_add, ← BitVec.shiftLeft_add]
  exact BitVec.shiftLeft_eq_zero (by omega)
theorem xor_no {x y : BitVec 64} (h : x ^^^ y = 0#64) : x = y := by
  have := congrArg (fun z => z ^^^ y) h
  simpa [BitVec.xor_assoc] using this
theorem no_iff (q : W4) : q.no = true ↔ q = ⟨0#64, 0#64, 0#64, 0#64⟩ := by
  obtain ⟨a, b, c, d⟩ := q
  simp [W4.no]
theorem m9_no {q : W4} (h : q.no = false) : (m9 q).no = false := by
  rw [← Bool.not_eq_true, no_iff] at h ⊢
  intro e
  apply h
  obtain ⟨a, b, c, d⟩ := q
  simp only [m9, W4.mk.injEq] at e ⊢
  obtain ⟨e1, e2, e3, e4⟩ := e
  have h4 := rotl_no (by omega) e4
  rw [h4, BitVec.xor_zero] at e1
  subst e1
  rw [BitVec.xor_zero] at e2 e3
  have h2 := xor_no e2
  subst h2
  have h3 := shl_no e3
  subst h3
  rw [BitVec.xor_zero] at h4
  exact ⟨rfl, rfl, rfl, h4⟩
theorem no_w10 (p : Q2) : (w10 p).no = zr2 p := by
  unfold W4.no zr2 w10
  simp
theorem stp_no {A B C : Nat} (hA : A ≤ 64) (hC : C ≤ 64) {p : Q2} (h : zr2 p = false) : zr2 (stp A B C p) = false := by
  rw [← Bool.not_eq_true, zr2_iff] at h ⊢
  intro e
  apply h
  obtain ⟨a, b⟩ := p
  simp only [stp, z2, Q2.mk.injEq] at e ⊢
  obtain ⟨e1, e2⟩ := e
  have h4 := rotl_no hC e2
  rw [h4] at e1
  simp at e1
  have h1 := rotl_no hA e1
  subst h1
  rw [BitVec.zero_xor] at h4
  exact ⟨rfl, h4⟩
theorem mo_no (k : Int) {p : Q2} (h : zr2 p = false) : zr2 (mo k p) = false := by
  unfold mo; split
  · exact stp_no (by omega) (by omega) h
  · exact stp_no (by omega) (by omega) h
theorem chk_x {k : Int} (hk : k = 2 ∨ k = 3 ∨ k = 4) {q : W4} (h : q.no = false) : chkK k q = 0 := by
  rcases hk with rfl | rfl | rfl <;> simp [chkK, okK, formK, szK, badK, h]
theorem chk_o {k : Int} (hk : k = 5 ∨ k = 6) {p : Q2} (h : zr2 p = false) : chkK k (w10 p) = 0 := by
  have h2 := no_w10 p
  rw [h] at h2
  have hc : (w10 p).c = 0#64 := rfl
  have hd : (w10 p).d = 0#64 := rfl
  rcases hk with rfl | rfl <;> simp [chkK, okK, formK, szK, badK, h2, hc, hd]
theorem chk_st {k : Int} {q : W4} (h : chkK k q = 0) : chkK k (stK k q) = 0 := by
  obtain ⟨ho, f1, f2, hb⟩ := fits h
  rcases kind8 ho with hk | hk | hk | hk | hk
  · subst hk
    exact chk1 _
  · have e : stK k q = m9 q := by unfold stK; rw [if_neg (by omega), if_pos (by omega)]
    rw [e]
    refine chk_x hk (m9_no ?_)
    unfold badK at hb
    rw [if_neg (by omega), if_neg (by omega), if_neg (by omega)] at hb
    exact hb
  · have e : stK k q = w10 (mo k ⟨q.a, q.b⟩) := by unfold stK; rw [if_neg (by omega), if_neg (by omega), if_pos (by omega)]
    rw [e]
    refine chk_o hk (mo_no k ?_)
    unfold badK at hb
    rw [if_neg (by omega), if_neg (by omega), if_neg (by omega)] at hb
    rw [f2 (by omega), no_w10] at hb
    exact hb
  · subst hk
    have e : stK 7 q = w10 (p7 ⟨q.a, q.b⟩) := rfl
    rw [e]
    have h7 : (q.b &&& 1#64 == 0#64) = false := hb
    have hb2 : (w10 (p7 ⟨q.a, q.b⟩)).b = q.b := p7_b _
    have hc : (w10 (p7 ⟨q.a, q.b⟩)).c = 0#64 := rfl
    have hd : (w10 (p7 ⟨q.a, q.b⟩)).d = 0#64 := rfl
    generalize w10 (p7 ⟨q.a, q.b⟩) = z at *
    simp [chkK, okK, formK, szK, badK, hb2, hc, hd]
    simpa using h7
  · subst hk
    have e : stK 8 q = w14 q := rfl
    rw [e]
    have h7 : (q.c &&& 1#64 == 0#64) = false := hb
    have hb2 := w14_c q
    generalize w14 q = z at *
    simp [chkK, okK, formK, szK, badK, hb2]
    simpa using h7
theorem chk_nx {k : Int} {q : W4} (h : chkK k q = 0) : chkK k (nxK k q) = 0 := by
  unfold nxK; split
  · exact chk_st (chk_st h)
  · exact chk_st h
set_option maxHeartbeats 8000000 in
theorem step_of (k : Int) (q q' : W4) (hk : chkK k q = 0) (hs : StC k q q') (w : World) : Calls Tryz.prog 19 #[.agg (stc k q)] w fun e w' => e = .returned (.tuple #[.agg (stc k q'), .int .i64 0]) ∧ New w w' := by
  have hz := two_blocksG w (.cells (stc k q) 25) (.cells zst 25)
  have HZ := Lib.hid hz
  clear hz
  go_enter Tryz.func19, Tryz.ntmps19
  go_wp2_with fail
  refine (gin_any k q _).mono ?_
  rintro e w' ⟨⟨cs, rfl, hv⟩, hn⟩
  obtain ⟨g, rfl, hg⟩ : ∃ g : Gn, cs = g.cells ∧ Own ((w.alloc (.cells (stc k q) 25)).alloc (.cells zst 25)).heap.size w' k g := by
    rcases hv with h | h
    · exact h.2
    · exact absurd hk h.1
  rw [hk]
  have hI := hg.now
  have HO := Lib.hid hg
  have HXX := Lib.hid ((hn.block _ (lt_of_block HZ.out.1)).trans HZ.out.1)
  have HYY := Lib.hid ((hn.block _ (lt_of_block HZ.out.2.1)).trans HZ.out.2.1)
  have HNN := Lib.hid (HZ.out.2.2.trans hn)
  clear hg hv hn HZ
  cases hI with
  | split b h =>
    have hq := heap_alloc_new w' (.cells #[.string (nmK 1), .int .i64 1, .int .i64 1, .func (Fn.func 60) #[] #[], .func (Fn.func 61) #[] #[], .func (Fn.func 62) #[] #[ptv b], .func (Fn.func 58) #[] #[], .func (Fn.func 63) #[] #[]] 62)
    have n5 : New w' (w'.alloc (.cells #[.string (nmK 1), .int .i64 1, .int .i64 1, .func (Fn.func 60) #[] #[], .func (Fn.func 61) #[] #[], .func (Fn.func 62) #[] #[ptv b], .func (Fn.func 58) #[] #[], .func (Fn.func 63) #[] #[]] 62)) := (New.refl w').alloc _
    have hx := (n5.block _ (lt_of_block HXX.out)).trans HXX.out
    have hy := (n5.block _ (lt_of_block HYY.out)).trans HYY.out
    have hne : w'.heap.size ≠ w.heap.size + 1 := by have := lt_of_block HYY.out; omega
    have hcon : ∀ w2, New (w'.alloc (.cells #[.string (nmK 1), .int .i64 1, .int .i64 1, .func (Fn.func 60) #[] #[], .func (Fn.func 61) #[] #[], .func (Fn.func 62) #[] #[ptv b], .func (Fn.func 58) #[] #[], .func (Fn.func 63) #[] #[]] 62)) w2 → Calls Tryz.prog 62 #[.agg q.cells, ptv b] w2 fun e w3 => e = .returned (.agg q'.cells) ∧ New w2 w3 := fun w2 h2 => hs w2 _ ((HO.out.stay n5).stay h2).now
    go_wp2_with fail
    generalize hw5 : World.alloc w' _ = w5 at *
    generalize hgb : w'.heap.size = gb at *
    have HQ := Lib.hid hq
    have HX := Lib.hid hx
    have HY := Lib.hid hy
    have HNE := Lib.hid hne
    have HCON := Lib.hid hcon
    have HN3 := Lib.hid (HNN.out.trans n5)
    clear hq hx hy hne hcon n5 hw5 hgb HO HXX HYY HNN
    have SK : Hid (∀ w', Kb w5 (w.heap.size + 1) w' → Kb w5 (w.heap.size + 1) w' ∧ w'.cell? ⟨w.heap.size, 0, none⟩ = some (.int .i64 1) ∧ w'.cell? ⟨gb, 5, none⟩ = some (.func (Fn.func 62) #[] #[ptv b]) ∧ w'.cell? ⟨w.heap.size, 1, none⟩ = some (.int .u64 (W64 q.a)) ∧ w'.cell? ⟨w.heap.size, 2, none⟩ = some (.int .u64 (W64 q.b)) ∧ w'.cell? ⟨w.heap.size, 3, none⟩ = some (.int .u64 (W64 q.c)) ∧ w'.cell? ⟨w.heap.size, 4, none⟩ = some (.int .u64 (W64 q.d))) := Lib.hid (fun w' hn => ⟨hn, cell_of_row _ _ 0 _ _ _ (hn.block HX.out (by omega)), cell_of_row _ _ 5 _ _ _ (hn.block HQ.out (HNE.out)), cell_of_row _ _ 1 _ _ _ (hn.block HX.out (by omega)), cell_of_row _ _ 2 _ _ _ (hn.block HX.out (by omega)), cell_of_row _ _ 3 _ _ _ (hn.block HX.out (by omega)), cell_of_row _ _ 4 _ _ _ (hn.block HX.out (by omega))⟩)
    obtain ⟨_, ce0, ce1, ce2, ce3, ce4, ce5⟩ := SK.out w5 (Kb.refl _ _)
    go_region_held3 (fun w' => Kb w5 (w.heap.size + 1) w' ∧ w'.cell? ⟨w.heap.size, 0, none⟩ = some (.int .i64 1) ∧ w'.cell? ⟨gb, 5, none⟩ = some (.func (Fn.func 62) #[] #[ptv b]) ∧ w'.cell? ⟨w.heap.size, 1, none⟩ = some (.int .u64 (W64 q.a)) ∧ w'.cell? ⟨w.heap.size, 2, none⟩ = some (.int .u64 (W64 q.b)) ∧ w'.cell? ⟨w.heap.size, 3, none⟩ = some (.int .u64 (W64 q.c)) ∧ w'.cell? ⟨w.heap.size, 4, none⟩ = some (.int .u64 (W64 q.d)))
      ((refine SK.out _ ?_; repeat (first | with_reducible assumption | with_reducible exact Kb.refl _ _ | with_reducible refine Kb.drew ?_ | with_reducible refine Kb.set ?_ _ _)))
      (first
      | (go_at_call 62
         refine (HCON.out _ (by first | with_reducible exact (New.refl _).drew | with_reducible exact New.refl _ | with_reducible assumption | with_reducible exact New.drew (by with_reducible assumption))).mono ?_
         rintro e q0 ⟨rfl, hc0⟩
         have hg0 : New w5 q0 := by first | with_reducible exact (New.refl w5).drew.trans hc0 | with_reducible exact hc0
         have hw1 : Kb w5 (w.heap.size + 1) q0 := (Kb.refl _ _).new hg0
         have hz0 := (hg0.block _ (lt_of_block HY.out)).trans HY.out
         have d0 := cell_of_row _ _ 0 _ _ _ hz0
         have d1 := cell_of_row _ _ 1 _ _ _ hz0
         have d2 := cell_of_row _ _ 2 _ _ _ hz0
         have d3 := cell_of_row _ _ 3 _ _ _ hz0
         have d4 := cell_of_row _ _ 4 _ _ _ hz0
         have df := fun i => frozen_of_row _ _ i _ _ hz0
         have HG := Lib.hid (HN3.out.trans hg0)
         clear hz0
         clear hc0))
    all_goals
      go_wp2
      refine bodyPost_ret (by simp [results, Tryz.results19, go_sem, d0, d1, d2, d3, d4]; try rfl) rfl ?_
      first | exact ⟨rfl, ((((((((((HG.out).setCell (by show w.heap.size ≤ w.heap.size + 1; omega) _)).setCell (by show w.heap.size ≤ w.heap.size + 1; omega) _)).setCell (by show w.heap.size ≤ w.heap.size + 1; omega) _)).setCell (by show w.heap.size ≤ w.heap.size + 1; omega) _)).setCell (by show w.heap.size ≤ w.heap.size + 1; omega) _)⟩ | exact ⟨rfl, (((((((((((HG.out).setCell (by show w.heap.size ≤ w.heap.size + 1; omega) _)).setCell (by show w.heap.size ≤ w.heap.size + 1; omega) _)).setCell (by show w.heap.size ≤ w.heap.size + 1; omega) _)).setCell (by show w.heap.size ≤ w.heap.size + 1; omega) _)).setCell (by show w.heap.size ≤ w.heap.size + 1; omega) _)).drew⟩
  | xosh k hk2 b h =>
    have hq := heap_alloc_new w' (.cells #[.string (nmK k), .int .i64 4, .int .i64 1, .func (Fn.func 68) #[] #[], .func (Fn.func 69) #[] #[], .func (Fn.func 71) #[] #[], .func (Fn.func 72) #[] #[ptv b], .func (Fn.func 73) #[] #[]] 62)
    have n5 : New w' (w'.alloc (.cells #[.string (nmK k), .int .i64 4, .int .i64 1, .func (Fn.func 68) #[] #[], .func (Fn.func 69) #[] #[], .func (Fn.func 71) #[] #[], .func (Fn.func 72) #[] #[ptv b], .func (Fn.func 73) #[] #[]] 62)) := (New.refl w').alloc _
    have hx := (n5.block _ (lt_of_block HXX.out)).trans HXX.out
    have hy := (n5.block _ (lt_of_block HYY.out)).trans HYY.out
    have hne : w'.heap.size ≠ w.heap.size + 1 := by have := lt_of_block HYY.out; omega
    have hcon : ∀ w2, New (w'.alloc (.cells #[.string (nmK k), .int .i64 4, .int .i64 1, .func (Fn.func 68) #[] #[], .func (Fn.func 69) #[] #[], .func (Fn.func 71) #[] #[], .func (Fn.func 72) #[] #[ptv b], .func (Fn.func 73) #[] #[]] 62)) w2 → Calls Tryz.prog 71 #[.agg q.cells] w2 fun e w3 => e = .returned (.agg q'.cells) ∧ New w2 w3 := fun w2 h2 => hs w2 _ ((HO.out.stay n5).stay h2).now
    go_wp2_with fail
    generalize hw5 : World.alloc w' _ = w5 at *
    generalize hgb : w'.heap.size = gb at *
    have HQ := Lib.hid hq
    have HX := Lib.hid hx
    have HY := Lib.hid hy
    have HNE := Lib.hid hne
    have HCON := Lib.hid hcon
    have HN3 := Lib.hid (HNN.out.trans n5)
    clear hq hx hy hne hcon n5 hw5 hgb HO HXX HYY HNN
    have SK : Hid (∀ w', Kb w5 (w.heap.size + 1) w' → Kb w5 (w.heap.size + 1) w' ∧ w'.cell? ⟨w.heap.size, 0, none⟩ = some (.int .i64 k) ∧ w'.cell? ⟨gb, 5, none⟩ = some (.func (Fn.func 71) #[] #[]) ∧ w'.cell? ⟨w.heap.size, 1, none⟩ = some (.int .u64 (W64 q.a)) ∧ w'.cell? ⟨w.heap.size, 2, none⟩ = some (.int .u64 (W64 q.b)) ∧ w'.cell? ⟨w.heap.size, 3, none⟩ = some (.int .u64 (W64 q.c)) ∧ w'.cell? ⟨w.heap.size, 4, none⟩ = some (.int .u64 (W64 q.d))) := Lib.hid (fun w' hn => ⟨hn, cell_of_row _ _ 0 _ _ _ (hn.block HX.out (by omega)), cell_of_row _ _ 5 _ _ _ (hn.block HQ.out (HNE.out)), cell_of_row _ _ 1 _ _ _ (hn.block HX.out (by omega)), cell_of_row _ _ 2 _ _ _ (hn.block HX.out (by omega)), cell_of_row _ _ 3 _ _ _ (hn.block HX.out (by omega)), cell_of_row _ _ 4 _ _ _ (hn.block HX.out (by omega))⟩)
    obtain ⟨_, ce0, ce1, ce2, ce3, ce4, ce5⟩ := SK.out w5 (Kb.refl _ _)
    go_region_held3 (fun w' => Kb w5 (w.heap.size + 1) w' ∧ w'.cell? ⟨w.heap.size, 0, none⟩ = some (.int .i64 k) ∧ w'.cell? ⟨gb, 5, none⟩ = some (.func (Fn.func 71) #[] #[]) ∧ w'.cell? ⟨w.heap.size, 1, none⟩ = some (.int .u64 (W64 q.a)) ∧ w'.cell? ⟨w.heap.size, 2, none⟩ = some (.int .u64 (W64 q.b)) ∧ w'.cell? ⟨w.heap.size, 3, none⟩ = some (.int .u64 (W64 q.c)) ∧ w'.cell? ⟨w.heap.size, 4, none⟩ = some (.int .u64 (W64 q.d)))
      ((refine SK.out _ ?_; repeat (first | with_reducible assumption | with_reducible exact Kb.refl _ _ | with_reducible refine Kb.drew ?_ | with_reducible refine Kb.set ?_ _ _)))
      (first
      | (go_at_call 71
         refine (HCON.out _ (by first | with_reducible exact (New.refl _).drew | with_reducible exact New.refl _ | with_reducible assumption | with_reducible exact New.drew (by with_reducible assumption))).mono ?_
         rintro e q0 ⟨rfl, hc0⟩
         have hg0 : New w5 q0 := by first | with_reducible exact (New.refl w5).drew.trans hc0 | with_reducible exact hc0
         have hw1 : Kb w5 (w.heap.size + 1) q0 := (Kb.refl _ _).new hg0
         have hz0 := (hg0.block _ (lt_of_block HY.out)).trans HY.out
         have d0 := cell_of_row _ _ 0 _ _ _ hz0
         have d1 := cell_of_row _ _ 1 _ _ _ hz0
         have d2 := cell_of_row _ _ 2 _ _ _ hz0
         have d3 := cell_of_row _ _ 3 _ _ _ hz0
         have d4 := cell_of_row _ _ 4 _ _ _ hz0
         have df := fun i => frozen_of_row _ _ i _ _ hz0
         have HG := Lib.hid (HN3.out.trans hg0)
         clear hz0
         clear hc0))
    all_goals
      go_wp2
      refine bodyPost_ret (by simp [results, Tryz.results19, go_sem, d0, d1, d2, d3, d4]; try rfl) rfl ?_
      first | exact ⟨rfl, ((((((((((HG.out).setCell (by show w.heap.size ≤ w.heap.size + 1; omega) _)).setCell (by show w.heap.size ≤ w.heap.size + 1; omega) _)).setCell (by show w.heap.size ≤ w.heap.size + 1; omega) _)).setCell (by show w.heap.size ≤ w.heap.size + 1; omega) _)).setCell (by show w.heap.size ≤ w.heap.size + 1; omega) _)⟩ | exact ⟨rfl, (((((((((((HG.out).setCell (by show w.heap.size ≤ w.heap.size + 1; omega) _)).setCell (by show w.heap.size ≤ w.heap.size + 1; omega) _)).setCell (by show w.heap.size ≤ w.heap.size + 1; omega) _)).setCell (by show w.heap.size ≤ w.heap.size + 1; omega) _)).setCell (by show w.heap.size ≤ w.heap.size + 1; omega) _)).drew⟩
  | xoro k hk2 b b4 b5 b6 h h4 h5 h6 =>
    have hq := heap_alloc_new w' (.cells #[.string (nmK k), .int .i64 2, .int .i64 1, .func (Fn.func 68) #[] #[], .func (Fn.func 78) #[] #[ptv b5], .func (Fn.func 76) #[] #[ptv b5, ptv b, ptv b4], .func (Fn.func 80) #[] #[ptv b, ptv b4, ptv b6], .func (Fn.func 82) #[] #[ptv b5, ptv b, ptv b4]] 62)
    have n5 : New w' (w'.alloc (.cells #[.string (nmK k), .int .i64 2, .int .i64 1, .func (Fn.func 68) #[] #[], .func (Fn.func 78) #[] #[ptv b5], .func (Fn.func 76) #[] #[ptv b5, ptv b, ptv b4], .func (Fn.func 80) #[] #[ptv b, ptv b4, ptv b6], .func (Fn.func 82) #[] #[ptv b5, ptv b, ptv b4]] 62)) := (New.refl w').alloc _
    have hx := (n5.block _ (lt_of_block HXX.out)).trans HXX.out
    have hy := (n5.block _ (lt_of_block HYY.out)).trans HYY.out
    have hne : w'.heap.size ≠ w.heap.size + 1 := by have := lt_of_block HYY.out; omega
    have hcon : ∀ w2, New (w'.alloc (.cells #[.string (nmK k), .int .i64 2, .int .i64 1, .func (Fn.func 68) #[] #[], .func (Fn.func 78) #[] #[ptv b5], .func (Fn.func 76) #[] #[ptv b5, ptv b, ptv b4], .func (Fn.func 80) #[] #[ptv b, ptv b4, ptv b6], .func (Fn.func 82) #[] #[ptv b5, ptv b, ptv b4]] 62)) w2 → Calls Tryz.prog 76 #[.agg q.cells, ptv b5, ptv b, ptv b4] w2 fun e w3 => e = .returned (.agg q'.cells) ∧ New w2 w3 := fun w2 h2 => hs w2 _ ((HO.out.stay n5).stay h2).now
    go_wp2_with fail
    generalize hw5 : World.alloc w' _ = w5 at *
    generalize hgb : w'.heap.size = gb at *
    have HQ := Lib.hid hq
    have HX := Lib.hid hx
    have HY := Lib.hid hy
    have HNE := Lib.hid hne
    have HCON := Lib.hid hcon
    have HN3 := Lib.hid (HNN.out.trans n5)
    clear hq hx hy hne hcon n5 hw5 hgb HO HXX HYY HNN
    have SK : Hid (∀ w', Kb w5 (w.heap.size + 1) w' → Kb w5 (w.heap.size + 1) w' ∧ w'.cell? ⟨w.heap.size, 0, none⟩ = some (.int .i64 k) ∧ w'.cell? ⟨gb, 5, none⟩ = some (.func (Fn.func 76) #[] #[ptv b5, ptv b, ptv b4]) ∧ w'.cell? ⟨w.heap.size, 1, none⟩ = some (.int .u64 (W64 q.a)) ∧ w'.cell? ⟨w.heap.size, 2, none⟩ = some (.int .u64 (W64 q.b)) ∧ w'.cell? ⟨w.heap.size, 3, none⟩ = some (.int .u64 (W64 q.c)) ∧ w'.cell? ⟨w.heap.size, 4, none⟩ = some (.int .u64 (W64 q.d))) := Lib.hid (fun w' hn => ⟨hn, cell_of_row _ _ 0 _ _ _ (hn.block HX.out (by omega)), cell_of_row _ _ 5 _ _ _ (hn.block HQ.out (HNE.out)), cell_of_row _ _ 1 _ _ _ (hn.block HX.out (by omega)), cell_of_row _ _ 2 _ _ _ (hn.block HX.out (by omega)), cell_of_row _ _ 3 _ _ _ (hn.block HX.out (by omega)), cell_of_row _ _ 4 _ _ _ (hn.block HX.out (by omega))⟩)
    obtain ⟨_, ce0, ce1, ce2, ce3, ce4, ce5⟩ := SK.out w5 (Kb.refl _ _)
    go_region_held3 (fun w' => Kb w5 (w.heap.size + 1) w' ∧ w'.cell? ⟨w.heap.size, 0, none⟩ = some (.int .i64 k) ∧ w'.cell? ⟨gb, 5, none⟩ = some (.func (Fn.func 76) #[] #[ptv b5, ptv b, ptv b4]) ∧ w'.cell? ⟨w.heap.size, 1, none⟩ = some (.int .u64 (W64 q.a)) ∧ w'.cell? ⟨w.heap.size, 2, none⟩ = some (.int .u64 (W64 q.b)) ∧ w'.cell? ⟨w.heap.size, 3, none⟩ = some (.int .u64 (W64 q.c)) ∧ w'.cell? ⟨w.heap.size, 4, none⟩ = some (.int .u64 (W64 q.d)))
      ((refine SK.out _ ?_; repeat (first | with_reducible assumption | with_reducible exact Kb.refl _ _ | with_reducible refine Kb.drew ?_ | with_reducible refine Kb.set ?_ _ _)))
      (first
      | (go_at_call 76
         refine (HCON.out _ (by first | with_reducible exact (New.refl _).drew | with_reducible exact New.refl _ | with_reducible assumption | with_reducible exact New.drew (by with_reducible assumption))).mono ?_
         rintro e q0 ⟨rfl, hc0⟩
         have hg0 : New w5 q0 := by first | with_reducible exact (New.refl w5).drew.trans hc0 | with_reducible exact hc0
         have hw1 : Kb w5 (w.heap.size + 1) q0 := (Kb.refl _ _).new hg0
         have hz0 := (hg0.block _ (lt_of_block HY.out)).trans HY.out
         have d0 := cell_of_row _ _ 0 _ _ _ hz0
         have d1 := cell_of_row _ _ 1 _ _ _ hz0
         have d2 := cell_of_row _ _ 2 _ _ _ hz0
         have d3 := cell_of_row _ _ 3 _ _ _ hz0
         have d4 := cell_of_row _ _ 4 _ _ _ hz0
         have df := fun i => frozen_of_row _ _ i _ _ hz0
         have HG := Lib.hid (HN3.out.trans hg0)
         clear hz0
         clear hc0))
    all_goals
      go_wp2
      refine bodyPost_ret (by simp [results, Tryz.results19, go_sem, d0, d1, d2, d3, d4]; try rfl) rfl ?_
      first | exact ⟨rfl, ((((((((((HG.out).setCell (by show w.heap.size ≤ w.heap.size + 1; omega) _)).setCell (by show w.heap.size ≤ w.heap.size + 1; omega) _)).setCell (by show w.heap.size ≤ w.heap.size + 1; omega) _)).setCell (by show w.heap.size ≤ w.heap.size + 1; omega) _)).setCell (by show w.heap.size ≤ w.heap.size + 1; omega) _)⟩ | exact ⟨rfl, (((((((((((HG.out).setCell (by show w.heap.size ≤ w.heap.size + 1; omega) _)).setCell (by show w.heap.size ≤ w.heap.size + 1; omega) _)).setCell (by show w.heap.size ≤ w.heap.size + 1; omega) _)).setCell (by show w.heap.size ≤ w.heap.size + 1; omega) _)).setCell (by show w.heap.size ≤ w.heap.size + 1; omega) _)).drew⟩
  | pcg32 =>
    have hq := heap_alloc_new w' (.cells #[.string (nmK 7), .int .i64 2, .int .i64 2, .func (Fn.func 84) #[] #[], .func (Fn.func 85) #[] #[], .func (Fn.func 88) #[] #[], .func (Fn.func 89) #[] #[], .func (Fn.func 90) #[] #[]] 62)
    have n5 : New w' (w'.alloc (.cells #[.string (nmK 7), .int .i64 2, .int .i64 2, .func (Fn.func 84) #[] #[], .func (Fn.func 85) #[] #[], .func (Fn.func 88) #[] #[], .func (Fn.func 89) #[] #[], .func (Fn.func 90) #[] #[]] 62)) := (New.refl w').alloc _
    have hx := (n5.block _ (lt_of_block HXX.out)).trans HXX.out
    have hy := (n5.block _ (lt_of_block HYY.out)).trans HYY.out
    have hne : w'.heap.size ≠ w.heap.size + 1 := by have := lt_of_block HYY.out; omega
    have hcon : ∀ w2, New (w'.alloc (.cells #[.string (nmK 7), .int .i64 2, .int .i64 2, .func (Fn.func 84) #[] #[], .func (Fn.func 85) #[] #[], .func (Fn.func 88) #[] #[], .func (Fn.func 89) #[] #[], .func (Fn.func 90) #[] #[]] 62)) w2 → Calls Tryz.prog 88 #[.agg q.cells] w2 fun e w3 => e = .returned (.agg q'.cells) ∧ New w2 w3 := fun w2 h2 => hs w2 _ ((HO.out.stay n5).stay h2).now
    go_wp2_with fail
    generalize hw5 : World.alloc w' _ = w5 at *
    generalize hgb : w'.heap.size = gb at *
    have HQ := Lib.hid hq
    have HX := Lib.hid hx
    have HY := Lib.hid hy
    have HNE := Lib.hid hne
    have HCON := Lib.hid hcon
    have HN3 := Lib.hid (HNN.out.trans n5)
    clear hq hx hy hne hcon n5 hw5 hgb HO HXX HYY HNN
    have SK : Hid (∀ w', Kb w5 (w.heap.size + 1) w' → Kb w5 (w.heap.size + 1) w' ∧ w'.cell? ⟨w.heap.size, 0, none⟩ = some (.int .i64 7) ∧ w'.cell? ⟨gb, 5, none⟩ = some (.func (Fn.func 88) #[] #[]) ∧ w'.cell? ⟨w.heap.size, 1, none⟩ = some (.int .u64 (W64 q.a)) ∧ w'.cell? ⟨w.heap.size, 2, none⟩ = some (.int .u64 (W64 q.b)) ∧ w'.cell? ⟨w.heap.size, 3, none⟩ = some (.int .u64 (W64 q.c)) ∧ w'.cell? ⟨w.heap.size, 4, none⟩ = some (.int .u64 (W64 q.d))) := Lib.hid (fun w' hn => ⟨hn, cell_of_row _ _ 0 _ _ _ (hn.block HX.out (by omega)), cell_of_row _ _ 5 _ _ _ (hn.block HQ.out (HNE.out)), cell_of_row _ _ 1 _ _ _ (hn.block HX.out (by omega)), cell_of_row _ _ 2 _ _ _ (hn.block HX.out (by omega)), cell_of_row _ _ 3 _ _ _ (hn.block HX.out (by omega)), cell_of_row _ _ 4 _ _ _ (hn.block HX.out (by omega))⟩)
    obtain ⟨_, ce0, ce1, ce2, ce3, ce4, ce5⟩ := SK.out w5 (Kb.refl _ _)
    go_region_held3 (fun w' => Kb w5 (w.heap.size + 1) w' ∧ w'.cell? ⟨w.heap.size, 0, none⟩ = some (.int .i64 7) ∧ w'.cell? ⟨gb, 5, none⟩ = some (.func (Fn.func 88) #[] #[]) ∧ w'.cell? ⟨w.heap.size, 1, none⟩ = some (.int .u64 (W64 q.a)) ∧ w'.cell? ⟨w.heap.size, 2, none⟩ = some (.int .u64 (W64 q.b)) ∧ w'.cell? ⟨w.heap.size, 3, none⟩ = some (.int .u64 (W64 q.c)) ∧ w'.cell? ⟨w.heap.size, 4, none⟩ = some (.int .u64 (W64 q.d)))
      ((refine SK.out _ ?_; repeat (first | with_reducible assumption | with_reducible exact Kb.refl _ _ | with_reducible refine Kb.drew ?_ | with_reducible refine Kb.set ?_ _ _)))
      (first
      | (go_at_call 88
         refine (HCON.out _ (by first | with_reducible exact (New.refl _).drew | with_reducible exact New.refl _ | with_reducible assumption | with_reducible exact New.drew (by with_reducible assumption))).mono ?_
         rintro e q0 ⟨rfl, hc0⟩
         have hg0 : New w5 q0 := by first | with_reducible exact (New.refl w5).drew.trans hc0 | with_reducible exact hc0
         have hw1 : Kb w5 (w.heap.size + 1) q0 := (Kb.refl _ _).new hg0
         have hz0 := (hg0.block _ (lt_of_block HY.out)).trans HY.out
         have d0 := cell_of_row _ _ 0 _ _ _ hz0
         have d1 := cell_of_row _ _ 1 _ _ _ hz0
         have d2 := cell_of_row _ _ 2 _ _ _ hz0
         have d3 := cell_of_row _ _ 3 _ _ _ hz0
         have d4 := cell_of_row _ _ 4 _ _ _ hz0
         have df := fun i => frozen_of_row _ _ i _ _ hz0
         have HG := Lib.hid (HN3.out.trans hg0)
         clear hz0
         clear hc0))
    all_goals
      go_wp2
      refine bodyPost_ret (by simp [results, Tryz.results19, go_sem, d0, d1, d2, d3, d4]; try rfl) rfl ?_
      first | exact ⟨rfl, ((((((((((HG.out).setCell (by show w.heap.size ≤ w.heap.size + 1; omega) _)).setCell (by show w.heap.size ≤ w.heap.size + 1; omega) _)).setCell (by show w.heap.size ≤ w.heap.size + 1; omega) _)).setCell (by show w.heap.size ≤ w.heap.size + 1; omega) _)).setCell (by show w.heap.size ≤ w.heap.size + 1; omega) _)⟩ | exact ⟨rfl, (((((((((((HG.out).setCell (by show w.heap.size ≤ w.heap.size + 1; omega) _)).setCell (by show w.heap.size ≤ w.heap.size + 1; omega) _)).setCell (by show w.heap.size ≤ w.heap.size + 1; omega) _)).setCell (by show w.heap.size ≤ w.heap.size + 1; omega) _)).setCell (by show w.heap.size ≤ w.heap.size + 1; omega) _)).drew⟩
  | pcg64 =>
    have hq := heap_alloc_new w' (.cells #[.string (nmK 8), .int .i64 4, .int .i64 1, .func (Fn.func 92) #[] #[], .func (Fn.func 93) #[] #[], .func (Fn.func 96) #[] #[], .func (Fn.func 97) #[] #[], .func (Fn.func 98) #[] #[]] 62)
    have n5 : New w' (w'.alloc (.cells #[.string (nmK 8), .int .i64 4, .int .i64 1, .func (Fn.func 92) #[] #[], .func (Fn.func 93) #[] #[], .func (Fn.func 96) #[] #[], .func (Fn.func 97) #[] #[], .func (Fn.func 98) #[] #[]] 62)) := (New.refl w').alloc _
    have hx := (n5.block _ (lt_of_block HXX.out)).trans HXX.out
    have hy := (n5.block _ (lt_of_block HYY.out)).trans HYY.out
    have hne : w'.heap.size ≠ w.heap.size + 1 := by have := lt_of_block HYY.out; omega
    have hcon : ∀ w2, New (w'.alloc (.cells #[.string (nmK 8), .int .i64 4, .int .i64 1, .func (Fn.func 92) #[] #[], .func (Fn.func 93) #[] #[], .func (Fn.func 96) #[] #[], .func (Fn.func 97) #[] #[], .func (Fn.func 98) #[] #[]] 62)) w2 → Calls Tryz.prog 96 #[.agg q.cells] w2 fun e w3 => e = .returned (.agg q'.cells) ∧ New w2 w3 := fun w2 h2 => hs w2 _ ((HO.out.stay n5).stay h2).now
    go_wp2_with fail
    generalize hw5 : World.alloc w' _ = w5 at *
    generalize hgb : w'.heap.size = gb at *
    have HQ := Lib.hid hq
    have HX := Lib.hid hx
    have HY := Lib.hid hy
    have HNE := Lib.hid hne
    have HCON := Lib.hid hcon
    have HN3 := Lib.hid (HNN.out.trans n5)
    clear hq hx hy hne hcon n5 hw5 hgb HO HXX HYY HNN
    have SK : Hid (∀ w', Kb w5 (w.heap.size + 1) w' → Kb w5 (w.heap.size + 1) w' ∧ w'.cell? ⟨w.heap.size, 0, none⟩ = some (.int .i64 8) ∧ w'.cell? ⟨gb, 5, none⟩ = some (.func (Fn.func 96) #[] #[]) ∧ w'.cell? ⟨w.heap.size, 1, none⟩ = some (.int .u64 (W64 q.a)) ∧ w'.cell? ⟨w.heap.size, 2, none⟩ = some (.int .u64 (W64 q.b)) ∧ w'.cell? ⟨w.heap.size, 3, none⟩ = some (.int .u64 (W64 q.c)) ∧ w'.cell? ⟨w.heap.size, 4, none⟩ = some (.int .u64 (W64 q.d))) := Lib.hid (fun w' hn => ⟨hn, cell_of_row _ _ 0 _ _ _ (hn.block HX.out (by omega)), cell_of_row _ _ 5 _ _ _ (hn.block HQ.out (HNE.out)), cell_of_row _ _ 1 _ _ _ (hn.block HX.out (by omega)), cell_of_row _ _ 2 _ _ _ (hn.block HX.out (by omega)), cell_of_row _ _ 3 _ _ _ (hn.block HX.out (by omega)), cell_of_row _ _ 4 _ _ _ (hn.block HX.out (by omega))⟩)
    obtain ⟨_, ce0, ce1, ce2, ce3, ce4, ce5⟩ := SK.out w5 (Kb.refl _ _)
    go_region_held3 (fun w' => Kb w5 (w.heap.size + 1) w' ∧ w'.cell? ⟨w.heap.size, 0, none⟩ = some (.int .i64 8) ∧ w'.cell? ⟨gb, 5, none⟩ = some (.func (Fn.func 96) #[] #[]) ∧ w'.cell? ⟨w.heap.size, 1, none⟩ = some (.int .u64 (W64 q.a)) ∧ w'.cell? ⟨w.heap.size, 2, none⟩ = some (.int .u64 (W64 q.b)) ∧ w'.cell? ⟨w.heap.size, 3, none⟩ = some (.int .u64 (W64 q.c)) ∧ w'.cell? ⟨w.heap.size, 4, none⟩ = some (.int .u64 (W64 q.d)))
      ((refine SK.out _ ?_; repeat (first | with_reducible assumption | with_reducible exact Kb.refl _ _ | with_reducible refine Kb.drew ?_ | with_reducible refine Kb.set ?_ _ _)))
      (first
      | (go_at_call 96
         refine (HCON.out _ (by first | with_reducible exact (New.refl _).drew | with_reducible exact New.refl _ | with_reducible assumption | with_reducible exact New.drew (by with_reducible assumption))).mono ?_
         rintro e q0 ⟨rfl, hc0⟩
         have hg0 : New w5 q0 := by first | with_reducible exact (New.refl w5).drew.trans hc0 | with_reducible exact hc0
         have hw1 : Kb w5 (w.heap.size + 1) q0 := (Kb.refl _ _).new hg0
         have hz0 := (hg0.block _ (lt_of_block HY.out)).trans HY.out
         have d0 := cell_of_row _ _ 0 _ _ _ hz0
         have d1 := cell_of_row _ _ 1 _ _ _ hz0
         have d2 := cell_of_row _ _ 2 _ _ _ hz0
         have d3 := cell_of_row _ _ 3 _ _ _ hz0
         have d4 := cell_of_row _ _ 4 _ _ _ hz0
         have df := fun i => frozen_of_row _ _ i _ _ hz0
         have HG := Lib.hid (HN3.out.trans hg0)
         clear hz0
         clear hc0))
    all_goals
      go_wp2
      refine bodyPost_ret (by simp [results, Tryz.results19, go_sem, d0, d1, d2, d3, d4]; try rfl) rfl ?_
      first | exact ⟨rfl, ((((((((((HG.out).setCell (by show w.heap.size ≤ w.heap.size + 1; omega) _)).setCell (by show w.heap.size ≤ w.heap.size + 1; omega) _)).setCell (by show w.heap.size ≤ w.heap.size + 1; omega) _)).setCell (by show w.heap.size ≤ w.heap.size + 1; omega) _)).setCell (by show w.heap.size ≤ w.heap.size + 1; omega) _)⟩ | exact ⟨rfl, (((((((((((HG.out).setCell (by show w.heap.size ≤ w.heap.size + 1; omega) _)).setCell (by show w.heap.size ≤ w.heap.size + 1; omega) _)).setCell (by show w.heap.size ≤ w.heap.size + 1; omega) _)).setCell (by show w.heap.size ≤ w.heap.size + 1; omega) _)).setCell (by show w.heap.size ≤ w.heap.size + 1; omega) _)).drew⟩
set_option maxHeartbeats 1000000 in
theorem step_no (k : Int) (q : W4) (hk : ¬ chkK k q = 0) (w : World) : Calls Tryz.prog 19 #[.agg (stc k q)] w fun e w' => e = .returned (.tuple #[.agg zst, .int .i64 (chkK k q)]) ∧ New w w' := by
  have hz := two_blocksG w (.cells (stc k q) 25) (.cells zst 25)
  have HZ := Lib.hid hz
  have HGI := Lib.hid (fun w => gin_any k q w)
  obtain ⟨c, hc⟩ : ∃ c, chkK k q = c := ⟨_, rfl⟩
  rw [hc] at HGI hk ⊢
  have hcz : (c != 0) = true := by simpa using hk
  clear hz hc
  go_enter Tryz.func19, Tryz.ntmps19
  go_wp2_with fail
  refine (HGI.out _).mono ?_
  rintro e w' ⟨⟨cs, rfl, hv⟩, hn⟩
  obtain rfl : cs = gzc := by
    rcases hv with h | h
    · exact absurd h.1 hk
    · exact h.2
  have n2 := hn.alloc (.cells gzc 62)
  have hy := (n2.block _ (lt_of_block HZ.out.2.1)).trans HZ.out.2.1
  have d0 := cell_of_row _ _ 0 _ _ _ hy
  have d1 := cell_of_row _ _ 1 _ _ _ hy
  have d2 := cell_of_row _ _ 2 _ _ _ hy
  have d3 := cell_of_row _ _ 3 _ _ _ hy
  have d4 := cell_of_row _ _ 4 _ _ _ hy
  have df := fun i => frozen_of_row _ _ i _ _ hy
  have HN := Lib.hid (HZ.out.2.2.trans n2)
  have HY := Lib.hid hy
  clear hy n2 hn hv HZ
  go_wp2_with fail
  have hp := put5_facts (.int .i64 0) (.int .u64 0) (.int .u64 0) (.int .u64 0) (.int .u64 0) HY.out
  refine bodyPost_ret (by simp [results, Tryz.results19, go_sem, d0, d1, d2, d3, d4]; try rfl) rfl ?_
  exact ⟨rfl, hp.2.2.1 _ HN.out (by omega)⟩
set_option maxHeartbeats 1000000 in
theorem next_no (k : Int) (q : W4) (hk : ¬ chkK k q = 0) (w : World) : Calls Tryz.prog 18 #[.agg (stc k q)] w fun e w' => e = .returned (.tuple #[.int .u64 0, .agg zst, .int .i64 (chkK k q)]) ∧ New w w' := by
  have hz := two_blocksG w (.cells (stc k q) 25) (.cells zst 25)
  have HZ := Lib.hid hz
  have HGI := Lib.hid (fun w => gin_any k q w)
  obtain ⟨c, hc⟩ : ∃ c, chkK k q = c := ⟨_, rfl⟩
  rw [hc] at HGI hk ⊢
  have hcz : (c != 0) = true := by simpa using hk
  clear hz hc
  go_enter Tryz.func18, Tryz.ntmps18
  go_wp2_with fail
  refine (HGI.out _).mono ?_
  rintro e w' ⟨⟨cs, rfl, hv⟩, hn⟩
  obtain rfl : cs = gzc := by
    rcases hv with h | h
    · exact absurd h.1 hk
    · exact h.2
  have n2 := hn.alloc (.cells gzc 62)
  have hy := (n2.block _ (lt_of_block HZ.out.2.1)).trans HZ.out.2.1
  have d0 := cell_of_row _ _ 0 _ _ _ hy
  have d1 := cell_of_row _ _ 1 _ _ _ hy
  have d2 := cell_of_row _ _ 2 _ _ _ hy
  have d3 := cell_of_row _ _ 3 _ _ _ hy
  have d4 := cell_of_row _ _ 4 _ _ _ hy
  have df := fun i => frozen_of_row _ _ i _ _ hy
  have HN := Lib.hid (HZ.out.2.2.trans n2)
  have HY := Lib.hid hy
  clear hy n2 hn hv HZ
  go_wp2_with fail
  have hp := put5_facts (.int .i64 0) (.int .u64 0) (.int .u64 0) (.int .u64 0) (.int .u64 0) HY.out
  refine bodyPost_ret (by simp [results, Tryz.results18, go_sem, d0, d1, d2, d3, d4]; try rfl) rfl ?_
  exact ⟨rfl, hp.2.2.1 _ HN.out (by omega)⟩
end Go.Proofs.YtfaobdmoifnglaaGreat
end
