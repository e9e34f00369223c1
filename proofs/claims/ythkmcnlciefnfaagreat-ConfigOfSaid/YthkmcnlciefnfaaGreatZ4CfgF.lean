import Derived.Test.YthkmcnlciefnfaaGreatZ4CfgE
import Derived.ChangeKeysEq
import Derived.Laws.StructEq
/- Layer 47: equality of states; the law ConfigOf. -/
namespace Go.Proofs.YthkmcnlciefnfaaGreat
open Go Go.RowKit Go.Bv
set_option linter.unusedVariables false
set_option maxRecDepth 100000
theorem plainI15C : Tryz.prog.plainKey 3 = true := by kernel_rfl
theorem fields15C : ((Tryz.prog.fieldsOf 38).toList.map fun f => (f.type, f.offset, decide (f.name = "_"))) = [(3, 0, false), (36, 1, false)] := by kernel_rfl
theorem cells4_15C : Tryz.prog.cellsOf 36 = 4 := by kernel_rfl
theorem info4_15C : (Tryz.prog.info? 36).isSome = true := by kernel_rfl
theorem part4_15C (w : World) (k : Int) (q : W4) : (part 36 (stc k q) 1).run Tryz.prog w = .ok (.agg q.cells) w := by
  obtain ⟨i, hi⟩ := Option.isSome_iff_exists.1 info4_15C
  have hu := Tryz.underlying36
  have hs := run_sizeOf w hi
  rw [cells4_15C] at hs
  have ha : (isAgg 36).run Tryz.prog w = .ok true w := by simp [isAgg, run_underlying hu]
  unfold part
  simp only [Sem.run_bind, ha, hs, Result.andThen_ok, if_true, Sem.run_pure]
  rfl
theorem eqStC (w : World) (k k' : Int) (q q' : W4) :
    (Op.equalIn 10000 38 (.agg (stc k q)) (.agg (stc k' q'))).run Tryz.prog w = .ok (k == k' && (q.a == q'.a && (q.b == q'.b && (q.c == q'.c && q.d == q'.d)))) w := by
  have hu := Tryz.underlying3
  have g1 := run_equalIn_int (w := w) 9998 _ .i64 .i64 k k' hu
  have g2 := eq4d 9997 36 Tryz.underlying36 w q.a q.b q.c q.d q'.a q'.b q'.c q'.d
  have e1 := run_part_plain (w := w) (v := .int .i64 k) plainI15C (xs := stc k q) (off := 0) rfl
  have f1 := run_part_plain (w := w) (v := .int .i64 k') plainI15C (xs := stc k' q') (off := 0) rfl
  have e2 := part4_15C w k q
  have f2 := part4_15C w k' q'
  rw [run_equalIn_struct w 9999 _ _ _ (by kernel_rfl) (by kernel_rfl)]
  have hfs := fields15C
  generalize (Tryz.prog.fieldsOf 38).toList = fs at hfs
  obtain ⟨a, l1, rfl, ha, h1⟩ := List.map_eq_cons_iff.1 hfs
  obtain ⟨b, l2, rfl, hb, h2⟩ := List.map_eq_cons_iff.1 h1
  obtain rfl := List.map_eq_nil_iff.1 h2
  simp only [Prod.mk.injEq, decide_eq_false_iff_not] at ha hb
  obtain ⟨t1, o1, n1⟩ := ha
  obtain ⟨t2, o2, n2⟩ := hb
  simp only [Op.eqFields, t1, o1, n1, t2, o2, n2, ne_eq, not_false_eq_true, if_true, Sem.run_bind, e1, f1, g1, Result.andThen_ok]
  rcases h1 : k == k' <;> rcases h0 : (q.a == q'.a && (q.b == q'.b && (q.c == q'.c && q.d == q'.d))) <;> rw [h0] at g2 <;> simp [Sem.run_bind, e2, f2, g2]
theorem eqSt_selfC (w : World) (k : Int) (q : W4) : (Op.equalIn 10000 38 (.agg (stc k q)) (.agg (stc k q))).run Tryz.prog w = .ok true w := by
  rw [eqStC]; simp
theorem eqSt_zeroC (w : World) : (Op.equalIn 10000 38 (.agg #[.int .i64 0, .int .u64 0, .int .u64 0, .int .u64 0, .int .u64 0]) (.agg #[.int .i64 0, .int .u64 0, .int .u64 0, .int .u64 0, .int .u64 0])).run Tryz.prog w = .ok true w := eqSt_selfC w 0 ⟨0#64, 0#64, 0#64, 0#64⟩
/-- what config.State says of any source -/
theorem cstate_any3 (k b : Int) (h l : BitVec 64) (a : Option Addr) (n c : Nat) (x : List (BitVec 64)) (W : World) (hr : QRow W a n c x) : ∃ (k' : Int) (q' : W4) (E : Int), (∀ w, New W w → Calls Tryz.prog 9 #[.agg (cfc 3 k b h l a n c)] w fun e w' => e = .returned (.tuple #[.agg (stc k' q'), .int .i64 E]) ∧ New w w') ∧ (cfE 3 k b h l x ≠ 0 → stc k' q' = #[.int .i64 0, .int .u64 0, .int .u64 0, .int .u64 0, .int .u64 0] ∧ E = cfE 3 k b h l x) ∧ (cfE 3 k b h l x = 0 → k' = soK k x ∧ q' = soQ k x ∧ E = soE k x) := by
  by_cases he : cfE 3 k b h l x = 0
  · exact ⟨soK k x, soQ k x, soE k x, fun w hn => cstate_ok k b h l a n c x w (hr.stay hn) he, fun h => absurd he h, fun _ => ⟨rfl, rfl, rfl⟩⟩
  · exact ⟨0, ⟨0#64, 0#64, 0#64, 0#64⟩, cfE 3 k b h l x, fun w hn => cstate_err 3 k b h l a n c x w (hr.stay hn) he, fun _ => ⟨rfl, rfl⟩, fun h => absurd h he⟩
theorem cfE_source (k : Int) (x : List (BitVec 64)) : cfE 3 k 0 0#64 0#64 x = soE k x := by
  unfold cfE
  rw [if_neg (by omega), cfF_3, if_neg (by decide)]
  rfl
theorem q4l_nat (k : Int) (q : W4) : ((q4l k q).length : Int) = szK k := by
  rw [q4l_len]
  have := szK_le k
  omega
/-- a state that is right in form is its words again -/
theorem w4_q4l (k : Int) (q : W4) (hs : ¬ szK k = 0) (hf : formK k q = false) : w4 (q4l k q) = q := by
  obtain ⟨a, b, c, d⟩ := q
  unfold formK at hf
  unfold q4l
  rcases sz_124 hs with e | e | e
  · rw [e, if_neg (by decide), if_neg (by decide)] at hf
    rw [e]
    simp only [Bool.or_eq_false_iff, bne_eq_false_iff_eq] at hf
    obtain ⟨rfl, rfl, rfl⟩ := hf
    rfl
  · rw [e, if_neg (by decide), if_pos rfl] at hf
    rw [e]
    simp only [Bool.or_eq_false_iff, bne_eq_false_iff_eq] at hf
    obtain ⟨rfl, rfl⟩ := hf
    rfl
  · rw [e]; rfl
/-- a config of the kind with the words X -/
def RowV (k : Int) (Z : Nat) (X : List (BitVec 64)) (v : Value) (w : World) : Prop := ∃ a c, v = .agg #[.int .i64 3, .int .i64 k, .int .i64 0, .int .u64 0, .int .u64 0, .slice a Z c] ∧ QRow w a Z c X
theorem RowV.stay {k : Int} {Z : Nat} {X : List (BitVec 64)} {v : Value} {w w' : World} (h : RowV k Z X v w) (hn : New w w') : RowV k Z X v w' := let ⟨a, c, e, hr⟩ := h; ⟨a, c, e, hr.stay hn⟩
theorem RowV.row {k : Int} {Z : Nat} {X : List (BitVec 64)} {w : World} {a : Option Addr} {c : Nat} (h : RowV k Z X (.agg #[.int .i64 3, .int .i64 k, .int .i64 0, .int .u64 0, .int .u64 0, .slice a Z c]) w) : QRow w a Z c X := by
  obtain ⟨a', c', e, hr⟩ := h
  cases e
  exact hr
theorem szK_ok (k : Int) : szK k = 0 ↔ okK k = false := by
  constructor
  · intro h
    cases hk : okK k with
    | false => rfl
    | true => rcases sz_cases hk with e | e | e <;> omega
  · intro h
    unfold okK at h
    simp at h
    unfold szK
    rw [if_neg (by omega), if_neg (by omega), if_neg (by omega)]
set_option maxHeartbeats 8000000 in
theorem cof_form (W : World) (k : Int) (q : W4) (Z : Nat) (X : List (BitVec 64)) (HST : Hid (∀ w, New W w → ∀ (a : Option Addr) (c : Nat), QRow w a Z c X → ∃ (k' : Int) (q' : W4) (E : Int), (∀ w', New w w' → Calls Tryz.prog 9 #[.agg #[.int .i64 3, .int .i64 k, .int .i64 0, .int .u64 0, .int .u64 0, .slice a Z c]] w' fun e w'' => e = .returned (.tuple #[.agg (stc k' q'), .int .i64 E]) ∧ New w' w'') ∧ True)) (HB : Hid (∀ w, Calls Tryz.prog 17 #[.agg (stc k q)] w fun e w' => e = .returned (.int .i64 5) ∧ New w w')) (HCO : Hid (∀ w, Calls Tryz.prog 14 #[.agg (stc k q)] w fun e w' => (∃ a c, e = .returned (.agg #[.int .i64 3, .int .i64 k, .int .i64 0, .int .u64 0, .int .u64 0, .slice a Z c]) ∧ QRow w' a Z c X) ∧ New w w')) (HRO : Hid (∀ w, Calls Tryz.prog 16 #[.agg (stc k q)] w fun e w' => (∃ a c, e = .returned (.agg #[.int .i64 3, .int .i64 k, .int .i64 0, .int .u64 0, .int .u64 0, .slice a Z c]) ∧ QRow w' a Z c X) ∧ New w w')) : Calls Tryz.prog 4 #[.agg (stc k q)] W fun e w' => e = .returned (.bool true) ∧ Below W.heap.size W w' := by
  have HA := Lib.hid (fun w => awake47 w)
  generalize hW : W.alloc (.cells (stc k q) 38) = w0
  have HBS : Hid (w0.heap[W.heap.size]? = some (.cells (stc k q) 38 (0, 0))) := Lib.hid (by rw [← hW]; exact heap_alloc_new W _)
  have HN : Hid (New W w0) := Lib.hid (by rw [← hW]; exact (New.refl W).alloc _)
  have HOF : Hid (∀ (a : Option Addr) (c : Nat) (w : World), Calls Tryz.prog 8 #[.agg #[.int .i64 3, .int .i64 k, .int .i64 0, .int .u64 0, .int .u64 0, .slice a Z c]] w fun e w' => e = .returned (.agg #[.int .i64 3, .int .i64 k, .int .i64 0, .int .u64 0, .int .u64 0, .slice a Z c]) ∧ New w w') := Lib.hid (fun a c w => of_47 3 k 0 0#64 0#64 a Z c w)
  have HSM : Hid (∀ (a1 : Option Addr) (c1 : Nat) (a2 : Option Addr) (c2 : Nat) (w : World), QRow w a1 Z c1 X → QRow w a2 Z c2 X → Calls Tryz.prog 15 #[.agg #[.int .i64 3, .int .i64 k, .int .i64 0, .int .u64 0, .int .u64 0, .slice a1 Z c1], .agg #[.int .i64 3, .int .i64 k, .int .i64 0, .int .u64 0, .int .u64 0, .slice a2 Z c2]] w fun e w' => e = .returned (.bool true) ∧ New w w') := Lib.hid (fun a1 c1 a2 c2 w h1 h2 => by
    have h := rsame_47 3 k 0 3 k 0 0#64 0#64 0#64 0#64 a1 a2 Z c1 Z c2 X X w h1 h2
    rw [smE_self] at h
    exact h)
  have c0 := cell_of_row _ _ 0 _ _ _ HBS.out
  have c1 := cell_of_row _ _ 1 _ _ _ HBS.out
  have c2 := cell_of_row _ _ 2 _ _ _ HBS.out
  have c3 := cell_of_row _ _ 3 _ _ _ HBS.out
  have c4 := cell_of_row _ _ 4 _ _ _ HBS.out
  go_enter Tryz.func4, Tryz.ntmps4
  clear c0 c1 c2 c3 c4
  go_wp2_with fail
  refine (HA.out _).mono ?_
  rintro e w1 ⟨rfl, hn⟩
  have HN1 := Lib.hid hn
  have HS1 := Lib.hid ((hn.block _ (lt_of_block HBS.out)).trans HBS.out)
  clear hn
  have c0 := cell_of_row _ _ 0 _ _ _ HS1.out
  have c1 := cell_of_row _ _ 1 _ _ _ HS1.out
  have c2 := cell_of_row _ _ 2 _ _ _ HS1.out
  have c3 := cell_of_row _ _ 3 _ _ _ HS1.out
  have c4 := cell_of_row _ _ 4 _ _ _ HS1.out
  go_wp2_with fail
  refine (HCO.out _).mono ?_
  rintro e w3 ⟨⟨a, c, rfl, hr⟩, hn⟩
  have HN3 := Lib.hid (HN1.out.trans hn)
  have HS3 := Lib.hid ((hn.block _ (lt_of_block HS1.out)).trans HS1.out)
  have HR3 := Lib.hid hr
  clear hn hr c0 c1 c2 c3 c4
  obtain ⟨w4, hw4⟩ : ∃ z, w3.alloc (.cells #[.int .i64 3, .int .i64 k, .int .i64 0, .int .u64 0, .int .u64 0, .slice a Z c] 27) = z := ⟨_, rfl⟩
  have HC4' : Hid (w4.heap[w3.heap.size]? = some (.cells #[.int .i64 3, .int .i64 k, .int .i64 0, .int .u64 0, .int .u64 0, .slice a Z c] 27 (0, 0))) := Lib.hid (by rw [← hw4]; exact heap_alloc_new w3 _)
  have HN34 : Hid (New w3 w4) := Lib.hid (by rw [← hw4]; exact (New.refl w3).alloc _)
  obtain ⟨q3, hq3⟩ : ∃ z, w3.heap.size = z := ⟨_, rfl⟩
  rw [hq3] at HC4'
  have HC4 := HC4'
  clear HC4'
  have HQ3 := Lib.hid hq3
  have HW4 := Lib.hid hw4
  clear hw4 hq3
  have HS4 := Lib.hid ((HN34.out.block _ (lt_of_block HS3.out)).trans HS3.out)
  have HR4 := Lib.hid (HR3.out.stay HN34.out)
  have HN4 := Lib.hid (HN3.out.trans HN34.out)
  go_wp2_with fail
  rw [HW4.out, HQ3.out]
  refine Grow.wp_region_growS (fun w' => (w'.heap[W.heap.size]? = some (.cells (stc k q) 38 (0, 0)) ∧ w'.heap[q3]? = some (.cells #[.int .i64 3, .int .i64 k, .int .i64 0, .int .u64 0, .int .u64 0, .slice a Z c] 27 (0, 0))) ∧ New w4 w') (fun k => [1, 3, 4].contains k) (by kernel_rfl) (by kernel_rfl) (by kernel_rfl) ⟨⟨HS4.out, HC4.out⟩, (New.refl _).drew⟩ ?_
  intro I _ f hall hback
  have HALL := Lib.hid hall
  have HSTEP : Hid (∀ n w', New (f n) w' → ∃ m, w' = f m) := Lib.hid fun n w' hn => hback w' ⟨⟨(hn.block _ (lt_of_block (hall n).1.1)).trans (hall n).1.1, (hn.block _ (lt_of_block (hall n).1.2)).trans (hall n).1.2⟩, (hall n).2.trans hn⟩
  have s0 := fun n => cell_of_row _ _ 0 _ _ _ (hall n).1.1
  have s1 := fun n => cell_of_row _ _ 1 _ _ _ (hall n).1.1
  have s2 := fun n => cell_of_row _ _ 2 _ _ _ (hall n).1.1
  have s3 := fun n => cell_of_row _ _ 3 _ _ _ (hall n).1.1
  have s4 := fun n => cell_of_row _ _ 4 _ _ _ (hall n).1.1
  have y0 := fun n => cell_of_row _ _ 0 _ _ _ (hall n).1.2
  have y1 := fun n => cell_of_row _ _ 1 _ _ _ (hall n).1.2
  have y2 := fun n => cell_of_row _ _ 2 _ _ _ (hall n).1.2
  have y3 := fun n => cell_of_row _ _ 3 _ _ _ (hall n).1.2
  have y4 := fun n => cell_of_row _ _ 4 _ _ _ (hall n).1.2
  have y5 := fun n => cell_of_row _ _ 5 _ _ _ (hall n).1.2
  clear hall hback
  refine Grow.wpGrow_take 1 (by kernel_rfl) ?_
  simp only [List.take, List.drop, List.length]
  repeat (go_big_quiet_step (fail))
  refine wpQuiet_nil ?_
  refine Grow.wpGrow_one ((.agg #[.int .i64 3, .int .i64 k, .int .i64 0, .int .u64 0, .int .u64 0, .slice a Z c])) rfl rfl (fun w1 hB hG => ?_) (fun A1 hA => ?_)
  · obtain ⟨n, rfl⟩ := hB
    go_simp
    refine (HOF.out _ _ _).mono ?_
    rintro e w2 ⟨rfl, hn⟩
    first | exact ⟨_, rfl, HSTEP.out _ _ hn, rfl⟩ | exact ⟨rfl, HSTEP.out _ _ hn⟩
  simp [Act.put] at hA
  subst hA
  refine Grow.wpGrow_take 1 (by kernel_rfl) ?_
  simp only [List.take, List.drop, List.length]
  repeat (go_big_quiet_step (fail))
  refine wpQuiet_nil ?_
  refine Grow.wpGrow_call (fun v => ∃ a c, v = Value.agg #[.int .i64 3, .int .i64 k, .int .i64 0, .int .u64 0, .int .u64 0, .slice a Z c]) (fun v w9 => RowV k Z X v w9) rfl rfl (⟨.agg #[.int .i64 3, .int .i64 k, .int .i64 0, .int .u64 0, .int .u64 0, .slice none Z 0], none, 0, rfl⟩) (fun w1 hB hG => ?_) (fun v2 A2 hv2 hA => ?_)
  · obtain ⟨n, rfl⟩ := hB
    go_simp
    refine (HRO.out _).mono ?_
    rintro e w2 ⟨⟨a2, c2, rfl, hr2⟩, hn⟩
    exact ⟨_, rfl, HSTEP.out _ _ hn, ⟨a2, c2, rfl⟩, ⟨a2, c2, rfl, hr2⟩⟩
  simp [Act.put] at hA
  subst hA
  obtain ⟨a1, c1, rfl⟩ := hv2
  refine Grow.wpGrow_one (.bool true) rfl rfl (fun w1 hB hG => ?_) (fun A3 hA => ?_)
  · obtain ⟨n, rfl⟩ := hB
    go_simp
    refine (HSM.out _ _ _ _ _ (HR4.out.stay (HALL.out n).2) hG.2.row).mono ?_
    rintro e w2 ⟨rfl, hn⟩
    first | exact ⟨_, rfl, HSTEP.out _ _ hn, rfl, hG.2.stay hn⟩ | exact ⟨rfl, HSTEP.out _ _ hn, hG.2.stay hn⟩
  simp [Act.put] at hA
  subst hA
  refine Grow.wpGrow_take 1 (by kernel_rfl) ?_
  simp only [List.take, List.drop, List.length]
  repeat (go_big_quiet_step (fail))
  refine wpQuiet_nil ?_
  refine Grow.wpGrow_nil ?_
  rintro w9 ⟨n9, rfl⟩ hG
  have HS9 := Lib.hid (HALL.out n9).1.1
  have HC9 := Lib.hid (HALL.out n9).1.2
  have HN9 := Lib.hid (HN4.out.trans (HALL.out n9).2)
  have HR9 := Lib.hid (HR4.out.stay (HALL.out n9).2)
  clear HALL HSTEP s0 s1 s2 s3 s4 y0 y1 y2 y3 y4 y5 hG
  generalize f n9 = w9 at *
  obtain ⟨k', q', E, hst, hpost⟩ := HST.out w9 (HN.out.trans HN9.out) a c HR9.out
  have HT := Lib.hid (hst w9 (New.refl _))
  clear hst
  have y0 := cell_of_row _ _ 0 _ _ _ HC9.out
  have y1 := cell_of_row _ _ 1 _ _ _ HC9.out
  have y2 := cell_of_row _ _ 2 _ _ _ HC9.out
  have y3 := cell_of_row _ _ 3 _ _ _ HC9.out
  have y4 := cell_of_row _ _ 4 _ _ _ HC9.out
  have y5 := cell_of_row _ _ 5 _ _ _ HC9.out
  go_wp2_with fail
  refine HT.out.mono ?_
  rintro e w10 ⟨rfl, hn⟩
  have HN10 := Lib.hid (HN9.out.trans hn)
  have HS10 := Lib.hid ((hn.block _ (lt_of_block HS9.out)).trans HS9.out)
  clear hn y0 y1 y2 y3 y4 y5 HT
  obtain ⟨wt, hwt⟩ : ∃ z, w10.alloc (.cells (stc k' q') 38) = z := ⟨_, rfl⟩
  have HTB : Hid (wt.heap[w10.heap.size]? = some (.cells (stc k' q') 38 (0, 0))) := Lib.hid (by rw [← hwt]; exact heap_alloc_new w10 _)
  have HNT : Hid (New w10 wt) := Lib.hid (by rw [← hwt]; exact (New.refl w10).alloc _)
  have HWT := Lib.hid hwt
  obtain ⟨qt, hqt⟩ : ∃ z, w10.heap.size = z := ⟨_, rfl⟩
  rw [hqt] at HTB
  have HQT := Lib.hid hqt
  have hsx := (HNT.out.block _ (lt_of_block HS10.out)).trans HS10.out
  have s0 := cell_of_row _ _ 0 _ _ _ hsx
  have s1 := cell_of_row _ _ 1 _ _ _ hsx
  have s2 := cell_of_row _ _ 2 _ _ _ hsx
  have s3 := cell_of_row _ _ 3 _ _ _ hsx
  have s4 := cell_of_row _ _ 4 _ _ _ hsx
  rw [← hwt] at s0 s1 s2 s3 s4
  clear hwt hqt hsx
  go_wp2_with fail
  rw [HWT.out, HQT.out]
  refine (HB.out _).mono ?_
  rintro e w12 ⟨rfl, hn⟩
  have HN12 := Lib.hid (HN.out.trans (HN10.out.trans (HNT.out.trans hn)))
  have ht := (hn.block _ (lt_of_block HTB.out)).trans HTB.out
  have hs := ((HNT.out.trans hn).block _ (lt_of_block HS10.out)).trans HS10.out
  clear s0 s1 s2 s3 s4 hn
  have s0 := cell_of_row _ _ 0 _ _ _ hs
  have s1 := cell_of_row _ _ 1 _ _ _ hs
  have s2 := cell_of_row _ _ 2 _ _ _ hs
  have s3 := cell_of_row _ _ 3 _ _ _ hs
  have s4 := cell_of_row _ _ 4 _ _ _ hs
  have t0 := cell_of_row _ _ 0 _ _ _ ht
  have t1 := cell_of_row _ _ 1 _ _ _ ht
  have t2 := cell_of_row _ _ 2 _ _ _ ht
  have t3 := cell_of_row _ _ 3 _ _ _ ht
  have t4 := cell_of_row _ _ 4 _ _ _ ht
  clear hs ht
  go_wp2
  go_ret
  exact ⟨rfl, HN12.out⟩
set_option maxHeartbeats 8000000 in
theorem cof_bad (W : World) (k : Int) (q : W4) (Z : Nat) (B : Int) (hB : (B != 0) = true) (hB5 : (B == 5) = false) (X : List (BitVec 64)) (HST : Hid (∀ w, New W w → ∀ (a : Option Addr) (c : Nat), QRow w a Z c X → ∃ (k' : Int) (q' : W4) (E : Int), (∀ w', New w w' → Calls Tryz.prog 9 #[.agg #[.int .i64 3, .int .i64 k, .int .i64 0, .int .u64 0, .int .u64 0, .slice a Z c]] w' fun e w'' => e = .returned (.tuple #[.agg (stc k' q'), .int .i64 E]) ∧ New w' w'') ∧ (E = B ∧ stc k' q' = #[.int .i64 0, .int .u64 0, .int .u64 0, .int .u64 0, .int .u64 0]))) (HB : Hid (∀ w, Calls Tryz.prog 17 #[.agg (stc k q)] w fun e w' => e = .returned (.int .i64 B) ∧ New w w')) (HCO : Hid (∀ w, Calls Tryz.prog 14 #[.agg (stc k q)] w fun e w' => (∃ a c, e = .returned (.agg #[.int .i64 3, .int .i64 k, .int .i64 0, .int .u64 0, .int .u64 0, .slice a Z c]) ∧ QRow w' a Z c X) ∧ New w w')) (HRO : Hid (∀ w, Calls Tryz.prog 16 #[.agg (stc k q)] w fun e w' => (∃ a c, e = .returned (.agg #[.int .i64 3, .int .i64 k, .int .i64 0, .int .u64 0, .int .u64 0, .slice a Z c]) ∧ QRow w' a Z c X) ∧ New w w')) : Calls Tryz.prog 4 #[.agg (stc k q)] W fun e w' => e = .returned (.bool true) ∧ Below W.heap.size W w' := by
  have HA := Lib.hid (fun w => awake47 w)
  generalize hW : W.alloc (.cells (stc k q) 38) = w0
  have HBS : Hid (w0.heap[W.heap.size]? = some (.cells (stc k q) 38 (0, 0))) := Lib.hid (by rw [← hW]; exact heap_alloc_new W _)
  have HN : Hid (New W w0) := Lib.hid (by rw [← hW]; exact (New.refl W).alloc _)
  have HOF : Hid (∀ (a : Option Addr) (c : Nat) (w : World), Calls Tryz.prog 8 #[.agg #[.int .i64 3, .int .i64 k, .int .i64 0, .int .u64 0, .int .u64 0, .slice a Z c]] w fun e w' => e = .returned (.agg #[.int .i64 3, .int .i64 k, .int .i64 0, .int .u64 0, .int .u64 0, .slice a Z c]) ∧ New w w') := Lib.hid (fun a c w => of_47 3 k 0 0#64 0#64 a Z c w)
  have HSM : Hid (∀ (a1 : Option Addr) (c1 : Nat) (a2 : Option Addr) (c2 : Nat) (w : World), QRow w a1 Z c1 X → QRow w a2 Z c2 X → Calls Tryz.prog 15 #[.agg #[.int .i64 3, .int .i64 k, .int .i64 0, .int .u64 0, .int .u64 0, .slice a1 Z c1], .agg #[.int .i64 3, .int .i64 k, .int .i64 0, .int .u64 0, .int .u64 0, .slice a2 Z c2]] w fun e w' => e = .returned (.bool true) ∧ New w w') := Lib.hid (fun a1 c1 a2 c2 w h1 h2 => by
    have h := rsame_47 3 k 0 3 k 0 0#64 0#64 0#64 0#64 a1 a2 Z c1 Z c2 X X w h1 h2
    rw [smE_self] at h
    exact h)
  have c0 := cell_of_row _ _ 0 _ _ _ HBS.out
  have c1 := cell_of_row _ _ 1 _ _ _ HBS.out
  have c2 := cell_of_row _ _ 2 _ _ _ HBS.out
  have c3 := cell_of_row _ _ 3 _ _ _ HBS.out
  have c4 := cell_of_row _ _ 4 _ _ _ HBS.out
  go_enter Tryz.func4, Tryz.ntmps4
  clear c0 c1 c2 c3 c4
  go_wp2_with fail
  refine (HA.out _).mono ?_
  rintro e w1 ⟨rfl, hn⟩
  have HN1 := Lib.hid hn
  have HS1 := Lib.hid ((hn.block _ (lt_of_block HBS.out)).trans HBS.out)
  clear hn
  have c0 := cell_of_row _ _ 0 _ _ _ HS1.out
  have c1 := cell_of_row _ _ 1 _ _ _ HS1.out
  have c2 := cell_of_row _ _ 2 _ _ _ HS1.out
  have c3 := cell_of_row _ _ 3 _ _ _ HS1.out
  have c4 := cell_of_row _ _ 4 _ _ _ HS1.out
  go_wp2_with fail
  refine (HCO.out _).mono ?_
  rintro e w3 ⟨⟨a, c, rfl, hr⟩, hn⟩
  have HN3 := Lib.hid (HN1.out.trans hn)
  have HS3 := Lib.hid ((hn.block _ (lt_of_block HS1.out)).trans HS1.out)
  have HR3 := Lib.hid hr
  clear hn hr c0 c1 c2 c3 c4
  obtain ⟨w4, hw4⟩ : ∃ z, w3.alloc (.cells #[.int .i64 3, .int .i64 k, .int .i64 0, .int .u64 0, .int .u64 0, .slice a Z c] 27) = z := ⟨_, rfl⟩
  have HC4' : Hid (w4.heap[w3.heap.size]? = some (.cells #[.int .i64 3, .int .i64 k, .int .i64 0, .int .u64 0, .int .u64 0, .slice a Z c] 27 (0, 0))) := Lib.hid (by rw [← hw4]; exact heap_alloc_new w3 _)
  have HN34 : Hid (New w3 w4) := Lib.hid (by rw [← hw4]; exact (New.refl w3).alloc _)
  obtain ⟨q3, hq3⟩ : ∃ z, w3.heap.size = z := ⟨_, rfl⟩
  rw [hq3] at HC4'
  have HC4 := HC4'
  clear HC4'
  have HQ3 := Lib.hid hq3
  have HW4 := Lib.hid hw4
  clear hw4 hq3
  have HS4 := Lib.hid ((HN34.out.block _ (lt_of_block HS3.out)).trans HS3.out)
  have HR4 := Lib.hid (HR3.out.stay HN34.out)
  have HN4 := Lib.hid (HN3.out.trans HN34.out)
  go_wp2_with fail
  rw [HW4.out, HQ3.out]
  refine Grow.wp_region_growS (fun w' => (w'.heap[W.heap.size]? = some (.cells (stc k q) 38 (0, 0)) ∧ w'.heap[q3]? = some (.cells #[.int .i64 3, .int .i64 k, .int .i64 0, .int .u64 0, .int .u64 0, .slice a Z c] 27 (0, 0))) ∧ New w4 w') (fun k => [1, 3, 4].contains k) (by kernel_rfl) (by kernel_rfl) (by kernel_rfl) ⟨⟨HS4.out, HC4.out⟩, (New.refl _).drew⟩ ?_
  intro I _ f hall hback
  have HALL := Lib.hid hall
  have HSTEP : Hid (∀ n w', New (f n) w' → ∃ m, w' = f m) := Lib.hid fun n w' hn => hback w' ⟨⟨(hn.block _ (lt_of_block (hall n).1.1)).trans (hall n).1.1, (hn.block _ (lt_of_block (hall n).1.2)).trans (hall n).1.2⟩, (hall n).2.trans hn⟩
  have s0 := fun n => cell_of_row _ _ 0 _ _ _ (hall n).1.1
  have s1 := fun n => cell_of_row _ _ 1 _ _ _ (hall n).1.1
  have s2 := fun n => cell_of_row _ _ 2 _ _ _ (hall n).1.1
  have s3 := fun n => cell_of_row _ _ 3 _ _ _ (hall n).1.1
  have s4 := fun n => cell_of_row _ _ 4 _ _ _ (hall n).1.1
  have y0 := fun n => cell_of_row _ _ 0 _ _ _ (hall n).1.2
  have y1 := fun n => cell_of_row _ _ 1 _ _ _ (hall n).1.2
  have y2 := fun n => cell_of_row _ _ 2 _ _ _ (hall n).1.2
  have y3 := fun n => cell_of_row _ _ 3 _ _ _ (hall n).1.2
  have y4 := fun n => cell_of_row _ _ 4 _ _ _ (hall n).1.2
  have y5 := fun n => cell_of_row _ _ 5 _ _ _ (hall n).1.2
  clear hall hback
  refine Grow.wpGrow_take 1 (by kernel_rfl) ?_
  simp only [List.take, List.drop, List.length]
  repeat (go_big_quiet_step (fail))
  refine wpQuiet_nil ?_
  refine Grow.wpGrow_one ((.agg #[.int .i64 3, .int .i64 k, .int .i64 0, .int .u64 0, .int .u64 0, .slice a Z c])) rfl rfl (fun w1 hB hG => ?_) (fun A1 hA => ?_)
  · obtain ⟨n, rfl⟩ := hB
    go_simp
    refine (HOF.out _ _ _).mono ?_
    rintro e w2 ⟨rfl, hn⟩
    first | exact ⟨_, rfl, HSTEP.out _ _ hn, rfl⟩ | exact ⟨rfl, HSTEP.out _ _ hn⟩
  simp [Act.put] at hA
  subst hA
  refine Grow.wpGrow_take 1 (by kernel_rfl) ?_
  simp only [List.take, List.drop, List.length]
  repeat (go_big_quiet_step (fail))
  refine wpQuiet_nil ?_
  refine Grow.wpGrow_call (fun v => ∃ a c, v = Value.agg #[.int .i64 3, .int .i64 k, .int .i64 0, .int .u64 0, .int .u64 0, .slice a Z c]) (fun v w9 => RowV k Z X v w9) rfl rfl (⟨.agg #[.int .i64 3, .int .i64 k, .int .i64 0, .int .u64 0, .int .u64 0, .slice none Z 0], none, 0, rfl⟩) (fun w1 hB hG => ?_) (fun v2 A2 hv2 hA => ?_)
  · obtain ⟨n, rfl⟩ := hB
    go_simp
    refine (HRO.out _).mono ?_
    rintro e w2 ⟨⟨a2, c2, rfl, hr2⟩, hn⟩
    exact ⟨_, rfl, HSTEP.out _ _ hn, ⟨a2, c2, rfl⟩, ⟨a2, c2, rfl, hr2⟩⟩
  simp [Act.put] at hA
  subst hA
  obtain ⟨a1, c1, rfl⟩ := hv2
  refine Grow.wpGrow_one (.bool true) rfl rfl (fun w1 hB hG => ?_) (fun A3 hA => ?_)
  · obtain ⟨n, rfl⟩ := hB
    go_simp
    refine (HSM.out _ _ _ _ _ (HR4.out.stay (HALL.out n).2) hG.2.row).mono ?_
    rintro e w2 ⟨rfl, hn⟩
    first | exact ⟨_, rfl, HSTEP.out _ _ hn, rfl, hG.2.stay hn⟩ | exact ⟨rfl, HSTEP.out _ _ hn, hG.2.stay hn⟩
  simp [Act.put] at hA
  subst hA
  refine Grow.wpGrow_take 1 (by kernel_rfl) ?_
  simp only [List.take, List.drop, List.length]
  repeat (go_big_quiet_step (fail))
  refine wpQuiet_nil ?_
  refine Grow.wpGrow_nil ?_
  rintro w9 ⟨n9, rfl⟩ hG
  have HS9 := Lib.hid (HALL.out n9).1.1
  have HC9 := Lib.hid (HALL.out n9).1.2
  have HN9 := Lib.hid (HN4.out.trans (HALL.out n9).2)
  have HR9 := Lib.hid (HR4.out.stay (HALL.out n9).2)
  clear HALL HSTEP s0 s1 s2 s3 s4 y0 y1 y2 y3 y4 y5 hG
  generalize f n9 = w9 at *
  obtain ⟨k', q', E, hst, hpost⟩ := HST.out w9 (HN.out.trans HN9.out) a c HR9.out
  have HT := Lib.hid (hst w9 (New.refl _))
  clear hst
  obtain ⟨rfl, hzz⟩ := hpost
  rw [hzz] at HT
  have heq := fun w => eqSt_zeroC w
  have hee : (E == E) = true := beq_self_eq_true _
  clear hzz
  have y0 := cell_of_row _ _ 0 _ _ _ HC9.out
  have y1 := cell_of_row _ _ 1 _ _ _ HC9.out
  have y2 := cell_of_row _ _ 2 _ _ _ HC9.out
  have y3 := cell_of_row _ _ 3 _ _ _ HC9.out
  have y4 := cell_of_row _ _ 4 _ _ _ HC9.out
  have y5 := cell_of_row _ _ 5 _ _ _ HC9.out
  go_wp2_with fail
  refine HT.out.mono ?_
  rintro e w10 ⟨rfl, hn⟩
  have HN10 := Lib.hid (HN9.out.trans hn)
  have HS10 := Lib.hid ((hn.block _ (lt_of_block HS9.out)).trans HS9.out)
  clear hn y0 y1 y2 y3 y4 y5 HT
  obtain ⟨wt, hwt⟩ : ∃ z, w10.alloc (.cells #[.int .i64 0, .int .u64 0, .int .u64 0, .int .u64 0, .int .u64 0] 38) = z := ⟨_, rfl⟩
  have HTB : Hid (wt.heap[w10.heap.size]? = some (.cells #[.int .i64 0, .int .u64 0, .int .u64 0, .int .u64 0, .int .u64 0] 38 (0, 0))) := Lib.hid (by rw [← hwt]; exact heap_alloc_new w10 _)
  have HNT : Hid (New w10 wt) := Lib.hid (by rw [← hwt]; exact (New.refl w10).alloc _)
  have HWT := Lib.hid hwt
  obtain ⟨qt, hqt⟩ : ∃ z, w10.heap.size = z := ⟨_, rfl⟩
  rw [hqt] at HTB
  have HQT := Lib.hid hqt
  have hsx := (HNT.out.block _ (lt_of_block HS10.out)).trans HS10.out
  have s0 := cell_of_row _ _ 0 _ _ _ hsx
  have s1 := cell_of_row _ _ 1 _ _ _ hsx
  have s2 := cell_of_row _ _ 2 _ _ _ hsx
  have s3 := cell_of_row _ _ 3 _ _ _ hsx
  have s4 := cell_of_row _ _ 4 _ _ _ hsx
  rw [← hwt] at s0 s1 s2 s3 s4
  clear hwt hqt hsx
  go_wp2_with fail
  rw [HWT.out, HQT.out]
  refine (HB.out _).mono ?_
  rintro e w12 ⟨rfl, hn⟩
  have HN12 := Lib.hid (HN.out.trans (HN10.out.trans (HNT.out.trans hn)))
  have ht := (hn.block _ (lt_of_block HTB.out)).trans HTB.out
  have hs := ((HNT.out.trans hn).block _ (lt_of_block HS10.out)).trans HS10.out
  clear s0 s1 s2 s3 s4 hn
  have s0 := cell_of_row _ _ 0 _ _ _ hs
  have s1 := cell_of_row _ _ 1 _ _ _ hs
  have s2 := cell_of_row _ _ 2 _ _ _ hs
  have s3 := cell_of_row _ _ 3 _ _ _ hs
  have s4 := cell_of_row _ _ 4 _ _ _ hs
  have t0 := cell_of_row _ _ 0 _ _ _ ht
  have t1 := cell_of_row _ _ 1 _ _ _ ht
  have t2 := cell_of_row _ _ 2 _ _ _ ht
  have t3 := cell_of_row _ _ 3 _ _ _ ht
  have t4 := cell_of_row _ _ 4 _ _ _ ht
  clear hs ht
  go_wp2
  go_ret
  exact ⟨rfl, HN12.out⟩
set_option maxHeartbeats 8000000 in
theorem cof_good (W : World) (k : Int) (q : W4) (Z : Nat) (X : List (BitVec 64)) (HST : Hid (∀ w, New W w → ∀ (a : Option Addr) (c : Nat), QRow w a Z c X → ∃ (k' : Int) (q' : W4) (E : Int), (∀ w', New w w' → Calls Tryz.prog 9 #[.agg #[.int .i64 3, .int .i64 k, .int .i64 0, .int .u64 0, .int .u64 0, .slice a Z c]] w' fun e w'' => e = .returned (.tuple #[.agg (stc k' q'), .int .i64 E]) ∧ New w' w'') ∧ (E = 0 ∧ k' = k ∧ q' = q))) (HB : Hid (∀ w, Calls Tryz.prog 17 #[.agg (stc k q)] w fun e w' => e = .returned (.int .i64 0) ∧ New w w')) (HCO : Hid (∀ w, Calls Tryz.prog 14 #[.agg (stc k q)] w fun e w' => (∃ a c, e = .returned (.agg #[.int .i64 3, .int .i64 k, .int .i64 0, .int .u64 0, .int .u64 0, .slice a Z c]) ∧ QRow w' a Z c X) ∧ New w w')) (HRO : Hid (∀ w, Calls Tryz.prog 16 #[.agg (stc k q)] w fun e w' => (∃ a c, e = .returned (.agg #[.int .i64 3, .int .i64 k, .int .i64 0, .int .u64 0, .int .u64 0, .slice a Z c]) ∧ QRow w' a Z c X) ∧ New w w')) : Calls Tryz.prog 4 #[.agg (stc k q)] W fun e w' => e = .returned (.bool true) ∧ Below W.heap.size W w' := by
  have HA := Lib.hid (fun w => awake47 w)
  generalize hW : W.alloc (.cells (stc k q) 38) = w0
  have HBS : Hid (w0.heap[W.heap.size]? = some (.cells (stc k q) 38 (0, 0))) := Lib.hid (by rw [← hW]; exact heap_alloc_new W _)
  have HN : Hid (New W w0) := Lib.hid (by rw [← hW]; exact (New.refl W).alloc _)
  have HOF : Hid (∀ (a : Option Addr) (c : Nat) (w : World), Calls Tryz.prog 8 #[.agg #[.int .i64 3, .int .i64 k, .int .i64 0, .int .u64 0, .int .u64 0, .slice a Z c]] w fun e w' => e = .returned (.agg #[.int .i64 3, .int .i64 k, .int .i64 0, .int .u64 0, .int .u64 0, .slice a Z c]) ∧ New w w') := Lib.hid (fun a c w => of_47 3 k 0 0#64 0#64 a Z c w)
  have HSM : Hid (∀ (a1 : Option Addr) (c1 : Nat) (a2 : Option Addr) (c2 : Nat) (w : World), QRow w a1 Z c1 X → QRow w a2 Z c2 X → Calls Tryz.prog 15 #[.agg #[.int .i64 3, .int .i64 k, .int .i64 0, .int .u64 0, .int .u64 0, .slice a1 Z c1], .agg #[.int .i64 3, .int .i64 k, .int .i64 0, .int .u64 0, .int .u64 0, .slice a2 Z c2]] w fun e w' => e = .returned (.bool true) ∧ New w w') := Lib.hid (fun a1 c1 a2 c2 w h1 h2 => by
    have h := rsame_47 3 k 0 3 k 0 0#64 0#64 0#64 0#64 a1 a2 Z c1 Z c2 X X w h1 h2
    rw [smE_self] at h
    exact h)
  have c0 := cell_of_row _ _ 0 _ _ _ HBS.out
  have c1 := cell_of_row _ _ 1 _ _ _ HBS.out
  have c2 := cell_of_row _ _ 2 _ _ _ HBS.out
  have c3 := cell_of_row _ _ 3 _ _ _ HBS.out
  have c4 := cell_of_row _ _ 4 _ _ _ HBS.out
  go_enter Tryz.func4, Tryz.ntmps4
  clear c0 c1 c2 c3 c4
  go_wp2_with fail
  refine (HA.out _).mono ?_
  rintro e w1 ⟨rfl, hn⟩
  have HN1 := Lib.hid hn
  have HS1 := Lib.hid ((hn.block _ (lt_of_block HBS.out)).trans HBS.out)
  clear hn
  have c0 := cell_of_row _ _ 0 _ _ _ HS1.out
  have c1 := cell_of_row _ _ 1 _ _ _ HS1.out
  have c2 := cell_of_row _ _ 2 _ _ _ HS1.out
  have c3 := cell_of_row _ _ 3 _ _ _ HS1.out
  have c4 := cell_of_row _ _ 4 _ _ _ HS1.out
  go_wp2_with fail
  refine (HCO.out _).mono ?_
  rintro e w3 ⟨⟨a, c, rfl, hr⟩, hn⟩
  have HN3 := Lib.hid (HN1.out.trans hn)
  have HS3 := Lib.hid ((hn.block _ (lt_of_block HS1.out)).trans HS1.out)
  have HR3 := Lib.hid hr
  clear hn hr c0 c1 c2 c3 c4
  obtain ⟨w4, hw4⟩ : ∃ z, w3.alloc (.cells #[.int .i64 3, .int .i64 k, .int .i64 0, .int .u64 0, .int .u64 0, .slice a Z c] 27) = z := ⟨_, rfl⟩
  have HC4' : Hid (w4.heap[w3.heap.size]? = some (.cells #[.int .i64 3, .int .i64 k, .int .i64 0, .int .u64 0, .int .u64 0, .slice a Z c] 27 (0, 0))) := Lib.hid (by rw [← hw4]; exact heap_alloc_new w3 _)
  have HN34 : Hid (New w3 w4) := Lib.hid (by rw [← hw4]; exact (New.refl w3).alloc _)
  obtain ⟨q3, hq3⟩ : ∃ z, w3.heap.size = z := ⟨_, rfl⟩
  rw [hq3] at HC4'
  have HC4 := HC4'
  clear HC4'
  have HQ3 := Lib.hid hq3
  have HW4 := Lib.hid hw4
  clear hw4 hq3
  have HS4 := Lib.hid ((HN34.out.block _ (lt_of_block HS3.out)).trans HS3.out)
  have HR4 := Lib.hid (HR3.out.stay HN34.out)
  have HN4 := Lib.hid (HN3.out.trans HN34.out)
  go_wp2_with fail
  rw [HW4.out, HQ3.out]
  refine Grow.wp_region_growS (fun w' => (w'.heap[W.heap.size]? = some (.cells (stc k q) 38 (0, 0)) ∧ w'.heap[q3]? = some (.cells #[.int .i64 3, .int .i64 k, .int .i64 0, .int .u64 0, .int .u64 0, .slice a Z c] 27 (0, 0))) ∧ New w4 w') (fun k => [1, 3, 4].contains k) (by kernel_rfl) (by kernel_rfl) (by kernel_rfl) ⟨⟨HS4.out, HC4.out⟩, (New.refl _).drew⟩ ?_
  intro I _ f hall hback
  have HALL := Lib.hid hall
  have HSTEP : Hid (∀ n w', New (f n) w' → ∃ m, w' = f m) := Lib.hid fun n w' hn => hback w' ⟨⟨(hn.block _ (lt_of_block (hall n).1.1)).trans (hall n).1.1, (hn.block _ (lt_of_block (hall n).1.2)).trans (hall n).1.2⟩, (hall n).2.trans hn⟩
  have s0 := fun n => cell_of_row _ _ 0 _ _ _ (hall n).1.1
  have s1 := fun n => cell_of_row _ _ 1 _ _ _ (hall n).1.1
  have s2 := fun n => cell_of_row _ _ 2 _ _ _ (hall n).1.1
  have s3 := fun n => cell_of_row _ _ 3 _ _ _ (hall n).1.1
  have s4 := fun n => cell_of_row _ _ 4 _ _ _ (hall n).1.1
  have y0 := fun n => cell_of_row _ _ 0 _ _ _ (hall n).1.2
  have y1 := fun n => cell_of_row _ _ 1 _ _ _ (hall n).1.2
  have y2 := fun n => cell_of_row _ _ 2 _ _ _ (hall n).1.2
  have y3 := fun n => cell_of_row _ _ 3 _ _ _ (hall n).1.2
  have y4 := fun n => cell_of_row _ _ 4 _ _ _ (hall n).1.2
  have y5 := fun n => cell_of_row _ _ 5 _ _ _ (hall n).1.2
  clear hall hback
  refine Grow.wpGrow_take 1 (by kernel_rfl) ?_
  simp only [List.take, List.drop, List.length]
  repeat (go_big_quiet_step (fail))
  refine wpQuiet_nil ?_
  refine Grow.wpGrow_one ((.agg #[.int .i64 3, .int .i64 k, .int .i64 0, .int .u64 0, .int .u64 0, .slice a Z c])) rfl rfl (fun w1 hB hG => ?_) (fun A1 hA => ?_)
  · obtain ⟨n, rfl⟩ := hB
    go_simp
    refine (HOF.out _ _ _).mono ?_
    rintro e w2 ⟨rfl, hn⟩
    first | exact ⟨_, rfl, HSTEP.out _ _ hn, rfl⟩ | exact ⟨rfl, HSTEP.out _ _ hn⟩
  simp [Act.put] at hA
  subst hA
  refine Grow.wpGrow_take 1 (by kernel_rfl) ?_
  simp only [List.take, List.drop, List.length]
  repeat (go_big_quiet_step (fail))
  refine wpQuiet_nil ?_
  refine Grow.wpGrow_call (fun v => ∃ a c, v = Value.agg #[.int .i64 3, .int .i64 k, .int .i64 0, .int .u64 0, .int .u64 0, .slice a Z c]) (fun v w9 => RowV k Z X v w9) rfl rfl (⟨.agg #[.int .i64 3, .int .i64 k, .int .i64 0, .int .u64 0, .int .u64 0, .slice none Z 0], none, 0, rfl⟩) (fun w1 hB hG => ?_) (fun v2 A2 hv2 hA => ?_)
  · obtain ⟨n, rfl⟩ := hB
    go_simp
    refine (HRO.out _).mono ?_
    rintro e w2 ⟨⟨a2, c2, rfl, hr2⟩, hn⟩
    exact ⟨_, rfl, HSTEP.out _ _ hn, ⟨a2, c2, rfl⟩, ⟨a2, c2, rfl, hr2⟩⟩
  simp [Act.put] at hA
  subst hA
  obtain ⟨a1, c1, rfl⟩ := hv2
  refine Grow.wpGrow_one (.bool true) rfl rfl (fun w1 hB hG => ?_) (fun A3 hA => ?_)
  · obtain ⟨n, rfl⟩ := hB
    go_simp
    refine (HSM.out _ _ _ _ _ (HR4.out.stay (HALL.out n).2) hG.2.row).mono ?_
    rintro e w2 ⟨rfl, hn⟩
    first | exact ⟨_, rfl, HSTEP.out _ _ hn, rfl, hG.2.stay hn⟩ | exact ⟨rfl, HSTEP.out _ _ hn, hG.2.stay hn⟩
  simp [Act.put] at hA
  subst hA
  refine Grow.wpGrow_take 1 (by kernel_rfl) ?_
  simp only [List.take, List.drop, List.length]
  repeat (go_big_quiet_step (fail))
  refine wpQuiet_nil ?_
  refine Grow.wpGrow_nil ?_
  rintro w9 ⟨n9, rfl⟩ hG
  have HS9 := Lib.hid (HALL.out n9).1.1
  have HC9 := Lib.hid (HALL.out n9).1.2
  have HN9 := Lib.hid (HN4.out.trans (HALL.out n9).2)
  have HR9 := Lib.hid (HR4.out.stay (HALL.out n9).2)
  clear HALL HSTEP s0 s1 s2 s3 s4 y0 y1 y2 y3 y4 y5 hG
  generalize f n9 = w9 at *
  obtain ⟨k', q', E, hst, hpost⟩ := HST.out w9 (HN.out.trans HN9.out) a c HR9.out
  have HT := Lib.hid (hst w9 (New.refl _))
  clear hst
  obtain ⟨rfl, rfl, rfl⟩ := hpost
  have heq := fun w => eqSt_selfC w k' q'
  have y0 := cell_of_row _ _ 0 _ _ _ HC9.out
  have y1 := cell_of_row _ _ 1 _ _ _ HC9.out
  have y2 := cell_of_row _ _ 2 _ _ _ HC9.out
  have y3 := cell_of_row _ _ 3 _ _ _ HC9.out
  have y4 := cell_of_row _ _ 4 _ _ _ HC9.out
  have y5 := cell_of_row _ _ 5 _ _ _ HC9.out
  go_wp2_with fail
  refine HT.out.mono ?_
  rintro e w10 ⟨rfl, hn⟩
  have HN10 := Lib.hid (HN9.out.trans hn)
  have HS10 := Lib.hid ((hn.block _ (lt_of_block HS9.out)).trans HS9.out)
  clear hn y0 y1 y2 y3 y4 y5 HT
  obtain ⟨wt, hwt⟩ : ∃ z, w10.alloc (.cells (stc k' q') 38) = z := ⟨_, rfl⟩
  have HTB : Hid (wt.heap[w10.heap.size]? = some (.cells (stc k' q') 38 (0, 0))) := Lib.hid (by rw [← hwt]; exact heap_alloc_new w10 _)
  have HNT : Hid (New w10 wt) := Lib.hid (by rw [← hwt]; exact (New.refl w10).alloc _)
  have HWT := Lib.hid hwt
  obtain ⟨qt, hqt⟩ : ∃ z, w10.heap.size = z := ⟨_, rfl⟩
  rw [hqt] at HTB
  have HQT := Lib.hid hqt
  have hsx := (HNT.out.block _ (lt_of_block HS10.out)).trans HS10.out
  have s0 := cell_of_row _ _ 0 _ _ _ hsx
  have s1 := cell_of_row _ _ 1 _ _ _ hsx
  have s2 := cell_of_row _ _ 2 _ _ _ hsx
  have s3 := cell_of_row _ _ 3 _ _ _ hsx
  have s4 := cell_of_row _ _ 4 _ _ _ hsx
  rw [← hwt] at s0 s1 s2 s3 s4
  clear hwt hqt hsx
  go_wp2_with fail
  rw [HWT.out, HQT.out]
  refine (HB.out _).mono ?_
  rintro e w12 ⟨rfl, hn⟩
  have HN12 := Lib.hid (HN.out.trans (HN10.out.trans (HNT.out.trans hn)))
  have ht := (hn.block _ (lt_of_block HTB.out)).trans HTB.out
  have hs := ((HNT.out.trans hn).block _ (lt_of_block HS10.out)).trans HS10.out
  clear s0 s1 s2 s3 s4 hn
  have s0 := cell_of_row _ _ 0 _ _ _ hs
  have s1 := cell_of_row _ _ 1 _ _ _ hs
  have s2 := cell_of_row _ _ 2 _ _ _ hs
  have s3 := cell_of_row _ _ 3 _ _ _ hs
  have s4 := cell_of_row _ _ 4 _ _ _ hs
  have t0 := cell_of_row _ _ 0 _ _ _ ht
  have t1 := cell_of_row _ _ 1 _ _ _ ht
  have t2 := cell_of_row _ _ 2 _ _ _ ht
  have t3 := cell_of_row _ _ 3 _ _ _ ht
  have t4 := cell_of_row _ _ 4 _ _ _ ht
  clear hs ht
  go_wp2
  go_ret
  exact ⟨rfl, HN12.out⟩
theorem ConfigOf_walk (W : World) (x0_0 : Int) (b0_0 : -9223372036854775808 ≤ x0_0 ∧ x0_0 ≤ 9223372036854775807) (x0_1 : BitVec 64) (x0_2 : BitVec 64) (x0_3 : BitVec 64) (x0_4 : BitVec 64) :
    Calls Tryz.prog 4 #[.agg #[.int .i64 x0_0, .int .u64 (W64 x0_1), .int .u64 (W64 x0_2), .int .u64 (W64 x0_3), .int .u64 (W64 x0_4)]] W fun e w' => e = .returned (.bool true) ∧ Below W.heap.size W w' := by
  clear b0_0
  generalize x0_0 = k at *
  obtain ⟨q, hq⟩ : ∃ q : W4, q = ⟨x0_1, x0_2, x0_3, x0_4⟩ := ⟨_, rfl⟩
  show Calls Tryz.prog 4 #[.agg (stc k ⟨x0_1, x0_2, x0_3, x0_4⟩)] W fun e w' => e = .returned (.bool true) ∧ Below W.heap.size W w'
  rw [← hq]
  clear hq
  have hcf := cfE_source k (q4l k q)
  have hln := q4l_nat k q
  have HST := fun (w : World) (hn : New W w) (a : Option Addr) (c : Nat) (hr : QRow w a (szK k).toNat c (q4l k q)) => cstate_any3 k 0 0#64 0#64 a (szK k).toNat c (q4l k q) w hr
  have HCO := Lib.hid (fun w => cof_47 k q w)
  have HRO := Lib.hid (fun w => rof_47 k q w)
  have HBC := fun w => rcheck_any k q w
  have hso : soE k (q4l k q) = if szK k = 0 then 6 else chkK k (w4 (q4l k q)) := by
    unfold soE
    by_cases h0 : szK k = 0
    · rw [if_pos h0, if_pos h0]
    · rw [if_neg h0, if_neg h0, if_neg (by omega)]
  rw [hso] at hcf
  by_cases h0 : szK k = 0
  · have hb : chkK k q = 6 := by unfold chkK; rw [if_pos ((szK_ok k).1 h0)]
    rw [if_pos h0] at hcf
    rw [hb] at HBC
    refine cof_bad W k q (szK k).toNat 6 rfl rfl (q4l k q) (Lib.hid fun w hn a c hr => ?_) (Lib.hid HBC) HCO HRO
    obtain ⟨k', q', E, h1, h2, h3⟩ := HST w hn a c hr
    obtain ⟨e1, e2⟩ := h2 (by rw [hcf]; decide)
    exact ⟨k', q', E, h1, by rw [e2, hcf], e1⟩
  · rw [if_neg h0] at hcf
    have hok : okK k = true := by
      cases hk : okK k with
      | true => rfl
      | false => exact absurd ((szK_ok k).2 hk) h0
    cases hf : formK k q with
    | true =>
      have hb : chkK k q = 5 := by unfold chkK; rw [hok, if_neg (by decide), hf, if_pos rfl]
      rw [hb] at HBC
      refine cof_form W k q (szK k).toNat (q4l k q) (Lib.hid fun w hn a c hr => ?_) (Lib.hid HBC) HCO HRO
      obtain ⟨k', q', E, h1, h2, h3⟩ := HST w hn a c hr
      exact ⟨k', q', E, h1, trivial⟩
    | false =>
      have hwq := w4_q4l k q h0 hf
      rw [hwq] at hcf
      have hb : chkK k q = 13 ∨ chkK k q = 0 := by
        unfold chkK
        rw [hok, if_neg (by decide), hf, if_neg (by decide)]
        split
        · exact .inl rfl
        · exact .inr rfl
      rcases hb with hb | hb
      · rw [hb] at HBC hcf
        refine cof_bad W k q (szK k).toNat 13 rfl rfl (q4l k q) (Lib.hid fun w hn a c hr => ?_) (Lib.hid HBC) HCO HRO
        obtain ⟨k', q', E, h1, h2, h3⟩ := HST w hn a c hr
        obtain ⟨e1, e2⟩ := h2 (by rw [hcf]; decide)
        exact ⟨k', q', E, h1, by rw [e2, hcf], e1⟩
      · rw [hb] at HBC hcf
        refine cof_good W k q (szK k).toNat (q4l k q) (Lib.hid fun w hn a c hr => ?_) (Lib.hid HBC) HCO HRO
        obtain ⟨k', q', E, h1, h2, h3⟩ := HST w hn a c hr
        obtain ⟨e1, e2, e3⟩ := h3 hcf
        have hnb : ¬ (szK k = 0 ∨ ((q4l k q).length : Int) ≠ szK k) := by omega
        refine ⟨k', q', E, h1, ?_, ?_, ?_⟩
        · rw [e3, hso, if_neg h0, hwq, hb]
        · rw [e1]; unfold soK; rw [if_neg hnb]
        · rw [e2]; unfold soQ; rw [if_neg hnb, hwq]
end Go.Proofs.YthkmcnlciefnfaaGreat
