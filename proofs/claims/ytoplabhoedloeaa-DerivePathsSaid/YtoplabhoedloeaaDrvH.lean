/- Layer 45: sip.One. -/
import Derived.Test.YtoplabhoedloeaaM34D
import Derived.Test.YtoplabhoedloeaaM34F
import Derived.Test.YtoplabhoedloeaaDrvF
import Derived.Defers
import Derived.Recover
import Derived.Laws.Pointers
import Derived.Handy
import Derived.Laws.EntriesVeiled
import Derived.Deep.DeepCutAuto
namespace Go.Proofs.Ytoplabhoedloeaa
open Go.RowKit Go.Bv
set_option linter.unusedVariables false
/-- a function value with one thing held -/
theorem _root_.Go.Gro3.mkf {P : Program} {ops : Array Oper} {A B : World → Prop} {kd : Nat → Nat} {N : World → World → Prop} {AQ : Nat → Nat → World → Prop} {Q : Bool → (World → Prop) → Act → Prop} {p : Bool} {G : World → Prop} {o : Oper} {rest : List Oper} {k : Nat} {a : Act} (fn : Fn) (x : Operand) (v : Value) (hop : o.op = .makeFunc fn #[x] #[]) (hw : Region.wanted o (yielded ops a.tmps) = true) (hc : kd k = 0) (he : a.eval x = v)
    (hk : ∀ a', a' = a.put o.dst (.func fn #[v] #[]) → Gro3.wpGrow P ops A B kd N AQ Q rest (k + 1) p G a') : Gro3.wpGrow P ops A B kd N AQ Q (o :: rest) k p G a := by
  show Gro3.step P ops A B kd N AQ k o (Gro3.wpGrow P ops A B kd N AQ Q rest (k + 1)) p G a
  unfold Gro3.step
  rw [if_pos hw, if_pos (by unfold Gro3.still?; simp [hc])]
  refine ⟨Or.inl hc, .func fn #[v] #[], fun w _ => ?_, hk _ rfl⟩
  generalize a.eval = ρ at he ⊢
  simp [execOp, hop, he, go_sem, Grow.stillUpon]
set_option maxRecDepth 100000 in
set_option maxHeartbeats 4000000 in
theorem hone_34 (sd : Sd34) (a : Option Addr) (n c : Nat) (l : List (BitVec 8)) (w : World) (h : BRow w a n c l) :
    Calls Try.prog 19 #[.int .i64 sd.kind, .agg #[.int .u64 (W64 sd.key.1), .int .u64 (W64 sd.key.2)], .slice a n c] w fun e w' => e = .returned (.agg #[.int .u64 (W64 (hash34 sd.kd sd.key l).2), .int .u64 (W64 (hash34 sd.kd sd.key l).1)]) ∧ New w w' := by
  have HST := Lib.hid (start_34s sd.kd sd.key)
  have HF := Lib.hid (fun w' (hn : New w w') => fold_34 sd.kd sd.h1 (start34 sd.kd sd.key) a n c l w' (h.stay hn))
  have HVA := Lib.hid (variant_34s sd.kind sd.kd sd.hK)
  have hlen := h.len_eq
  unfold hash34
  rw [hlen]
  clear h hlen
  obtain ⟨s0, h0⟩ : ∃ z, start34 sd.kd sd.key = z := ⟨_, rfl⟩
  rw [h0] at HST HF
  rw [h0]
  obtain ⟨st, h1⟩ : ∃ z, bState 8 (stp34 sd.kd) s0 l = z := ⟨_, rfl⟩
  obtain ⟨tl, h2⟩ : ∃ z, bTail 8 l = z := ⟨_, rfl⟩
  rw [h1, h2] at HF
  rw [h1, h2]
  clear h0 h1 h2
  have HEN := Lib.hid (fun (w' : World) a' c' (hr : BRow w' a' (n % 8) c' tl) => finish_34s sd.kd sd.h1 sd.h2 st a' (n % 8) c' tl (BitVec.ofNat 64 n) w' hr)
  obtain ⟨hh, hhe⟩ : ∃ z, end34 sd.kd st tl (BitVec.ofNat 64 n) = z := ⟨_, rfl⟩
  rw [hhe] at HEN
  rw [hhe]
  clear hhe
  have HZ := Lib.hid (two_blocks w (.cells #[.int .u64 (W64 sd.key.1), .int .u64 (W64 sd.key.2)] 24) (.cells #[.int .u64 0, .int .u64 0] 24))
  have HKY := Lib.hid HZ.out.1
  have HO := Lib.hid HZ.out.2.1
  have HN := Lib.hid HZ.out.2.2
  clear HZ
  go_enter Try.func19, Try.ntmps19
  go_wp2_with fail
  refine (HVA.out _).mono ?_
  rintro e w9 ⟨rfl, hn⟩
  replace HKY := Lib.hid ((hn.block _ (lt_of_block HKY.out)).trans HKY.out)
  replace HO := Lib.hid ((hn.block _ (lt_of_block HO.out)).trans HO.out)
  replace HN := Lib.hid (HN.out.trans hn)
  clear hn HVA
  have hx := heap_alloc_new w9 (.cells #[.int .i64 (sd.kd.1 : Nat), .int .i64 (sd.kd.2.1 : Nat), .bool sd.kd.2.2] 54)
  have hn2 := (New.refl w9).alloc (.cells #[.int .i64 (sd.kd.1 : Nat), .int .i64 (sd.kd.2.1 : Nat), .bool sd.kd.2.2] 54)
  obtain ⟨qHVB, hq⟩ : ∃ q, w9.heap.size = q := ⟨_, rfl⟩
  have hle := HN.out.le
  rw [hq] at hx hle
  have hw0 := And.intro (rfl : w9.alloc (.cells #[.int .i64 (sd.kd.1 : Nat), .int .i64 (sd.kd.2.1 : Nat), .bool sd.kd.2.2] 54) = w9.alloc (.cells #[.int .i64 (sd.kd.1 : Nat), .int .i64 (sd.kd.2.1 : Nat), .bool sd.kd.2.2] 54)) hq
  generalize hw2 : w9.alloc (.cells #[.int .i64 (sd.kd.1 : Nat), .int .i64 (sd.kd.2.1 : Nat), .bool sd.kd.2.2] 54) = w10 at hx hn2 hw0
  have HE := Lib.hid (show w9.alloc (.cells #[.int .i64 (sd.kd.1 : Nat), .int .i64 (sd.kd.2.1 : Nat), .bool sd.kd.2.2] 54) = w10 ∧ w9.heap.size = qHVB from ⟨hw2, hq⟩)
  clear hw0 hw2
  replace HKY := Lib.hid ((hn2.block _ (lt_of_block HKY.out)).trans HKY.out)
  replace HO := Lib.hid ((hn2.block _ (lt_of_block HO.out)).trans HO.out)
  replace HN := Lib.hid (HN.out.trans hn2)
  have HVB := Lib.hid hx
  have HLHVB := Lib.hid hle
  clear hx hn2 hq hle
  go_wp2_with (rw [HE.out.1, HE.out.2])
  clear HE
  refine Gro3.wp_region_gro3S (fun w' => w'.heap[w.heap.size]? = some (.cells #[.int .u64 (W64 sd.key.1), .int .u64 (W64 sd.key.2)] 24 (0, 0)) ∧ w'.heap[w.heap.size + 1]? = some (.cells #[.int .u64 0, .int .u64 0] 24 (0, 0)) ∧ w'.heap[qHVB]? = some (.cells #[.int .i64 (sd.kd.1 : Nat), .int .i64 (sd.kd.2.1 : Nat), .bool sd.kd.2.2] 54 (0, 0)) ∧ New w w') (fun w' => w'.heap[w.heap.size]? = some (.cells #[.int .u64 (W64 sd.key.1), .int .u64 (W64 sd.key.2)] 24 (0, 0)) ∧ w'.heap[w.heap.size + 1]? = some (.cells #[.int .u64 0, .int .u64 0] 24 (0, 0)) ∧ w'.heap[qHVB]? = some (.cells #[.int .i64 (sd.kd.1 : Nat), .int .i64 (sd.kd.2.1 : Nat), .bool sd.kd.2.2] 54 (0, 0)) ∧ New w w') [0,0,2,0,0,0,2,0,0,0,4,3,0] New (fun _ q w' => Lies w' q (.cells #[.int .u64 0, .int .u64 0, .int .u64 0, .int .u64 0] 58 (0, 0)) ∧ w.heap.size + 1 < q ∧ qHVB < q) (by kernel_rfl) (by kernel_rfl) (by kernel_rfl) (fun k q w w' hn h => ⟨(hn.block _ (lt_of_block h.1)).trans h.1, h.2⟩) (fun w' hw' => hw') (⟨HKY.out, HO.out, HVB.out, HN.out.drew⟩) ?_
  intro I J _ _ f g hfa hba hgb hbb
  have HFA := Lib.hid hfa
  have HBA := Lib.hid hba
  have HGB := Lib.hid hgb
  have HBB := Lib.hid hbb
  have fk0 := fun n => cell_of_row _ _ 0 _ _ _ (hfa n).1
  have fk1 := fun n => cell_of_row _ _ 1 _ _ _ (hfa n).1
  have fv0 := fun n => cell_of_row _ _ 0 _ _ _ (hfa n).2.2.1
  have fv1 := fun n => cell_of_row _ _ 1 _ _ _ (hfa n).2.2.1
  have fv2 := fun n => cell_of_row _ _ 2 _ _ _ (hfa n).2.2.1
  clear hfa hba hgb hbb
  refine Gro3.take0 2 (by kernel_rfl) ?_
  simp only [List.take, List.drop, List.length]
  repeat (go_big_quiet_step (fail))
  refine wpQuiet_nil ?_
  refine Gro3.callt (fun v => v = .agg #[.int .u64 (W64 (s0.1)), .int .u64 (W64 (s0.2.1)), .int .u64 (W64 (s0.2.2.1)), .int .u64 (W64 (s0.2.2.2))]) (fun _ _ => True) rfl rfl (⟨_, rfl⟩) (fun _ _ _ _ _ => trivial) (fun w1 hB hG => ?_) (fun v1 A1 hv1 hA => ?_)
  · obtain ⟨nq, rfl⟩ := hB
    clear fk0 fk1 fv0 fv1 fv2
    go_simp
    refine (HST.out _).mono ?_
    rintro e w2 ⟨rfl, hn⟩
    have HX := HBB.out _ ⟨(hn.block _ (lt_of_block (HGB.out nq).1)).trans (HGB.out nq).1, (hn.block _ (lt_of_block (HGB.out nq).2.1)).trans (HGB.out nq).2.1, (hn.block _ (lt_of_block (HGB.out nq).2.2.1)).trans (HGB.out nq).2.2.1, (HGB.out nq).2.2.2.trans hn⟩
    first | exact ⟨_, rfl, HX, hn, rfl⟩ | exact ⟨_, rfl, HX, hn, rfl, trivial⟩ | exact ⟨rfl, HX, hn⟩ | exact ⟨HX, hn, rfl⟩ | exact ⟨HX, hn⟩
  simp [Act.put] at hA
  subst hA
  obtain rfl := hv1
  refine Gro3.take0 1 (by kernel_rfl) ?_
  simp only [List.take, List.drop, List.length]
  repeat (go_big_quiet_step (fail))
  refine wpQuiet_nil ?_
  refine Gro3.mkf (Fn.func 28) (.tmp 23) ((.agg #[.int .i64 (sd.kd.1 : Nat), .int .i64 (sd.kd.2.1 : Nat), .bool sd.kd.2.2])) rfl rfl rfl rfl (fun A2 hA => ?_)
  simp [Act.put] at hA
  subst hA
  refine Gro3.take0 1 (by kernel_rfl) ?_
  simp only [List.take, List.drop, List.length]
  repeat (go_big_quiet_step (fail))
  refine wpQuiet_nil ?_
  refine Gro3.callt (fun v => ∃ r c, v = .tuple #[.agg #[.int .u64 (W64 (st.1)), .int .u64 (W64 (st.2.1)), .int .u64 (W64 (st.2.2.1)), .int .u64 (W64 (st.2.2.2))], .slice r (n % 8 : Nat) c]) (fun v w' => ∃ r c, v = .tuple #[.agg #[.int .u64 (W64 (st.1)), .int .u64 (W64 (st.2.1)), .int .u64 (W64 (st.2.2.1)), .int .u64 (W64 (st.2.2.2))], .slice r (n % 8 : Nat) c] ∧ BRow w' r (n % 8) c tl) rfl rfl (⟨_, none, 0, rfl⟩) (fun v w w' hn h => by obtain ⟨r, c, e, hr⟩ := h; exact ⟨r, c, e, hr.stay hn⟩) (fun w1 hB hG => ?_) (fun v3 A3 hv3 hA => ?_)
  · obtain ⟨nq, rfl⟩ := hB
    clear fk0 fk1 fv0 fv1 fv2
    go_simp
    refine (HF.out _ (HGB.out nq).2.2.2).mono ?_
    rintro e w2 ⟨r, c, rfl, hrow, hn⟩
    have HX := HBB.out _ ⟨(hn.block _ (lt_of_block (HGB.out nq).1)).trans (HGB.out nq).1, (hn.block _ (lt_of_block (HGB.out nq).2.1)).trans (HGB.out nq).2.1, (hn.block _ (lt_of_block (HGB.out nq).2.2.1)).trans (HGB.out nq).2.2.1, (HGB.out nq).2.2.2.trans hn⟩
    exact ⟨_, rfl, HX, hn, ⟨_, _, rfl⟩, ⟨_, _, rfl, hrow⟩⟩
  simp [Act.put] at hA
  subst hA
  obtain ⟨ra, ca, rfl⟩ := hv3
  refine Gro3.take0 3 (by kernel_rfl) ?_
  simp only [List.take, List.drop, List.length]
  repeat (go_big_quiet_step (fail))
  refine wpQuiet_nil ?_
  refine Gro3.alloc rfl rfl (fun w1 hB => ?_) (fun qG A4 hA => ?_)
  · obtain ⟨nq, rfl⟩ := hB
    have hal := (New.refl (g nq)).alloc (.cells #[.int .u64 0, .int .u64 0, .int .u64 0, .int .u64 0] 58)
    have HX := Lib.hid (HBB.out _ ⟨(hal.block _ (lt_of_block (HGB.out nq).1)).trans (HGB.out nq).1, (hal.block _ (lt_of_block (HGB.out nq).2.1)).trans (HGB.out nq).2.1, (hal.block _ (lt_of_block (HGB.out nq).2.2.1)).trans (HGB.out nq).2.2.1, (HGB.out nq).2.2.2.trans hal⟩)
    have HNL := Lib.hid hal
    have HLZ := Lib.hid (show Lies _ _ _ from heap_alloc_new (g nq) (.cells #[.int .u64 0, .int .u64 0, .int .u64 0, .int .u64 0] 58))
    have HLE9 := Lib.hid (lt_of_block (HGB.out nq).2.1)
    have HLE8 := Lib.hid (lt_of_block (HGB.out nq).2.2.1)
    clear hal fk0 fk1 fv0 fv1 fv2
    go_simp
    first | exact ⟨_, rfl, HX.out, HNL.out, HLZ.out, HLE9.out, HLE8.out⟩ | exact ⟨HX.out, HNL.out, HLZ.out, HLE9.out, HLE8.out⟩
  simp [Act.put] at hA
  subst hA
  refine Gro3.turn (fun v => v = undef) (fun _ w9 => Lies w9 qG (.cells #[.int .u64 (W64 (st.1)), .int .u64 (W64 (st.2.1)), .int .u64 (W64 (st.2.2.1)), .int .u64 (W64 (st.2.2.2))] 58 (0, 0)) ∧ w.heap.size + 1 < qG ∧ BRow w9 ra (n % 8) ca tl) rfl rfl ⟨_, rfl⟩ (fun w1 hB hG => ?_) (fun v5 A5 hv5 hA => ?_)
  · obtain ⟨nq, rfl⟩ : ∃ nq, w1 = g nq := hB
    obtain ⟨⟨r5, c5, e5, hz⟩, hli, hge, hge2⟩ := hG
    cases e5
    have HX := Lib.hid (HGB.out nq)
    have HGE := Lib.hid hge
    have HGE2 := Lib.hid hge2
    have c0 := cell_of_row _ _ 0 _ _ _ hli
    have c1 := cell_of_row _ _ 1 _ _ _ hli
    have c2 := cell_of_row _ _ 2 _ _ _ hli
    have c3 := cell_of_row _ _ 3 _ _ _ hli
    have cf := fun i => frozen_of_row _ _ i _ _ hli
    have HP := Lib.hid (put4h (.int .u64 (W64 (st.1))) (.int .u64 (W64 (st.2.1))) (.int .u64 (W64 (st.2.2.1))) (.int .u64 (W64 (st.2.2.2))) hli)
    have HROW := Lib.hid (hz.but (by simp) (fun y e h0 => HP.out.2.1 _ (hz.apart ⟨_, _, _, hli, by simp⟩ y e h0)))
    have HLI := Lib.hid (show Lies _ _ _ from HP.out.1)
    clear hz hli hge hge2 fk0 fk1 fv0 fv1 fv2
    go_simp
    exact ⟨HBA.out _ ⟨(HP.out.2.1 _ (by have := HGE.out; omega)).trans HX.out.1, (HP.out.2.1 _ (by have := HGE.out; omega)).trans HX.out.2.1, (HP.out.2.1 _ (by have := HGE2.out; omega)).trans HX.out.2.2.1, HP.out.2.2 _ HX.out.2.2.2 (by have := HGE.out; omega)⟩, HLI.out, HGE.out, HROW.out⟩
  simp [Act.put] at hA
  subst hA
  refine Gro3.take0 1 (by kernel_rfl) ?_
  simp only [List.take, List.drop, List.length]
  repeat (go_big_quiet_step (fail))
  refine wpQuiet_nil ?_
  refine Gro3.nil ?_
  rintro w11 ⟨n9, rfl⟩ hG
  have hF := HFA.out n9
  obtain ⟨hli, hge, hrow⟩ := hG
  have HS := Lib.hid (show (f n9).heap[qG]? = _ from hli)
  have HR := Lib.hid hrow
  replace HO := Lib.hid hF.2.1
  replace HVB := Lib.hid hF.2.2.1
  replace HN := Lib.hid hF.2.2.2
  clear HFA HBA HGB HBB hli hge hrow hF fk0 fk1 fv0 fv1 fv2 HKY HST HF HLHVB
  generalize f n9 = w9 at *
  have x0 := cell_of_row _ _ 0 _ _ _ HS.out
  have x1 := cell_of_row _ _ 1 _ _ _ HS.out
  have x2 := cell_of_row _ _ 2 _ _ _ HS.out
  have x3 := cell_of_row _ _ 3 _ _ _ HS.out
  have u0 := cell_of_row _ _ 0 _ _ _ HVB.out
  have u1 := cell_of_row _ _ 1 _ _ _ HVB.out
  have u2 := cell_of_row _ _ 2 _ _ _ HVB.out
  go_wp2_with fail
  refine (HEN.out _ _ _ HR.out).mono ?_
  rintro e w8 ⟨rfl, hn⟩
  replace HO := Lib.hid ((hn.block _ (lt_of_block HO.out)).trans HO.out)
  replace HN := Lib.hid (HN.out.trans hn)
  clear hn x0 x1 x2 x3 u0 u1 u2 HS HR HEN HVB
  have z0 := cell_of_row _ _ 0 _ _ _ HO.out
  have z1 := cell_of_row _ _ 1 _ _ _ HO.out
  have zf := fun i => frozen_of_row _ _ i _ _ HO.out
  go_wp2
  refine bodyPost_ret (by simp [results, Try.results19, go_sem, z0, z1]; try rfl) rfl ?_
  exact ⟨rfl, ((HN.out.setCell (by show w.heap.size ≤ w.heap.size + 1; omega) _).setCell (by show w.heap.size ≤ w.heap.size + 1; omega) _)⟩
end Go.Proofs.Ytoplabhoedloeaa
