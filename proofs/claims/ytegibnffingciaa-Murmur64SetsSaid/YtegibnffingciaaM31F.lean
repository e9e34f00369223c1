/- Layer 31: finish. -/
import Derived.Test.YtegibnffingciaaM31E
import Derived.Defers
import Derived.Recover
import Derived.Laws.Pointers
import Derived.Handy
import Derived.Laws.EntriesVeiled
namespace Go.Proofs.Ytegibnffingciaa
open Go.RowKit Go.Bv
set_option linter.unusedVariables false
theorem tail_first (l : List (BitVec 8)) (n : Nat) (h : l.length = n) : num (fun i => l.getD i 0) (min n 8) = rd l 0 8 := by
  have e : (fun i => l.getD i 0) = fun i => l.getD (0 + i) 0 := by funext i; rw [Nat.zero_add]
  unfold rd
  rw [e]
  refine (num_short (fun i => l.getD (0 + i) 0) (min n 8) 8 (by omega) (fun i h1 h2 => ?_)).symm
  · have : n ≤ i := by omega
    simp [List.getD_eq_getElem?_getD, List.getElem?_eq_none (show l.length ≤ i by omega)]
theorem tail_second (l : List (BitVec 8)) (n : Nat) (h : l.length = n) : num (fun i => (l.drop (min n 8)).getD i 0) (min (n - min n 8) 8) = rd l 8 8 := by
  rw [tail_first (l.drop (min n 8)) (n - min n 8) (by simp [h])]
  unfold rd
  refine num_congr 8 (fun i hi => ?_)
  rw [List.getD_eq_getElem?_getD, List.getD_eq_getElem?_getD, List.getElem?_drop]
  by_cases h8 : 8 ≤ n
  · rw [show min n 8 = 8 by omega, Nat.zero_add]
  · rw [show min n 8 = n by omega, List.getElem?_eq_none (by omega), List.getElem?_eq_none (by omega)]
theorem _root_.Go.Gro3.bmin31 {P : Program} {ops : Array Oper} {A B : World → Prop} {kd : Nat → Nat} {N : World → World → Prop} {AQ : Nat → Nat → World → Prop} {Q : Bool → (World → Prop) → Act → Prop} {p : Bool} {G : World → Prop} {o : Oper} {rest : List Oper} {k : Nat} {a : Act} (x : Operand) (y : Operand) (at' : Array TypeId) (n m r : Nat) (hr : min n m = r) (hop : o.op = .call { callee := .builtin .min, args := #[x, y], argTypes := at' }) (hw : Region.wanted o (yielded ops a.tmps) = true) (hc : kd k = 0) (he : a.eval x = .int .i64 n) (hy : a.eval y = .int .i64 m)
    (hk : ∀ a', a' = a.put o.dst (.int .i64 (r : Nat)) → Gro3.wpGrow P ops A B kd N AQ Q rest (k + 1) p G a') : Gro3.wpGrow P ops A B kd N AQ Q (o :: rest) k p G a := by
  show Gro3.step P ops A B kd N AQ k o (Gro3.wpGrow P ops A B kd N AQ Q rest (k + 1)) p G a
  unfold Gro3.step
  rw [if_pos hw, if_pos (by unfold Gro3.still?; simp [hc])]
  subst hr
  have e : (if m < n then (m : Int) else (n : Int)) = ((min n m : Nat) : Int) := by split <;> omega
  refine ⟨Or.inl hc, .int .i64 (min n m : Nat), fun w _ => ?_, hk _ rfl⟩
  generalize a.eval = ρ at he hy ⊢
  simp [execOp, hop, resolve, invoke, builtin, he, hy, go_sem, Grow.stillUpon, Builtin.min_, Builtin.min2, e]
set_option maxRecDepth 100000 in
set_option maxHeartbeats 4000000 in
theorem finish_31_more (sa sb : BitVec 64) (b off : Nat) (sp sp2 : Option Nat) (n c : Nat) (hcm : ¬ c = min n 8) (hadd : (⟨b, off, sp⟩ : Addr).add (min n 8) = ⟨b, off + min n 8, sp2⟩) (k0 k1 lg : BitVec 64) (w : World) (hmost : n ≤ 140737488355328) (hle : n ≤ c) (hroom : c ≤ 9223372036854775807)
    (HT1 : Hid (∀ w', New w w' → Calls Try.prog 145 #[.slice (some ⟨b, off, sp⟩) n c] w' fun e w2 => e = .returned (.int .u64 (W64 k0)) ∧ w2 = w'))
    (HT2 : Hid (∀ w', New w w' → Calls Try.prog 145 #[.slice (some ⟨b, off + min n 8, sp2⟩) (n - min n 8 : Nat) (c - min n 8 : Nat)] w' fun e w2 => e = .returned (.int .u64 (W64 k1)) ∧ w2 = w')) :
    Calls Try.prog 124 #[.agg #[.int .u64 (W64 sa), .int .u64 (W64 sb)], .slice (some ⟨b, off, sp⟩) n c, .int .u64 (W64 lg)] w fun e w' => (∀ h1 h2 x y, in31a sa k0 ^^^ lg = h1 → in31b sb k1 ^^^ lg = h2 → fmix (h1 + h2) = x → fmix (h2 + (h1 + h2)) = y → e = .returned (.agg #[.int .u64 (W64 (y + (x + y))), .int .u64 (W64 (x + y))])) ∧ New w w' := by
  have hw1 : wrap64 ((min n 8 : Nat) : Int) = ((min n 8 : Nat) : Int) := wrap_in _ (by omega) (by omega)
  have hw2 : wrap64 ((n : Int) - ((min n 8 : Nat) : Int)) = ((n - min n 8 : Nat) : Int) := by rw [show (n : Int) - ((min n 8 : Nat) : Int) = ((n - min n 8 : Nat) : Int) by omega]; exact wrap_in _ (by omega) (by omega)
  have hw3 : wrap64 ((c : Int) - ((min n 8 : Nat) : Int)) = ((c - min n 8 : Nat) : Int) := by rw [show (c : Int) - ((min n 8 : Nat) : Int) = ((c - min n 8 : Nat) : Int) by omega]; exact wrap_in _ (by omega) (by omega)
  have HZ := Lib.hid (two_blocks w (.cells #[.int .u64 (W64 sa), .int .u64 (W64 sb)] 125) (.cells #[.int .u64 0, .int .u64 0] 71))
  go_enter Try.func124, Try.ntmps124
  go_wp2_with fail
  refine (mixers_31 _).mono ?_
  rintro e w9 ⟨rfl, hn⟩
  have HA := Lib.hid ((hn.block _ (lt_of_block HZ.out.1)).trans HZ.out.1)
  have HO := Lib.hid ((hn.block _ (lt_of_block HZ.out.2.1)).trans HZ.out.2.1)
  have HN := Lib.hid (HZ.out.2.2.trans hn)
  clear hn HZ
  have hx := heap_alloc_new w9 (.cells #[.func (Fn.func 181) #[.agg #[.int .u64 9782798678568883157, .int .u64 5545529020109919103, .int .i64 31]] #[], .func (Fn.func 181) #[.agg #[.int .u64 5545529020109919103, .int .u64 9782798678568883157, .int .i64 33]] #[]] 159)
  have hn2 := (New.refl w9).alloc (.cells #[.func (Fn.func 181) #[.agg #[.int .u64 9782798678568883157, .int .u64 5545529020109919103, .int .i64 31]] #[], .func (Fn.func 181) #[.agg #[.int .u64 5545529020109919103, .int .u64 9782798678568883157, .int .i64 33]] #[]] 159)
  obtain ⟨qHM, hq⟩ : ∃ q, w9.heap.size = q := ⟨_, rfl⟩
  have hle := HN.out.le
  rw [hq] at hx hle
  have hw0 := And.intro (rfl : w9.alloc (.cells #[.func (Fn.func 181) #[.agg #[.int .u64 9782798678568883157, .int .u64 5545529020109919103, .int .i64 31]] #[], .func (Fn.func 181) #[.agg #[.int .u64 5545529020109919103, .int .u64 9782798678568883157, .int .i64 33]] #[]] 159) = w9.alloc (.cells #[.func (Fn.func 181) #[.agg #[.int .u64 9782798678568883157, .int .u64 5545529020109919103, .int .i64 31]] #[], .func (Fn.func 181) #[.agg #[.int .u64 5545529020109919103, .int .u64 9782798678568883157, .int .i64 33]] #[]] 159)) hq
  have HLM := Lib.hid (show w.heap.size < qHM from hq ▸ lt_of_block HA.out)
  generalize hw2 : w9.alloc (.cells #[.func (Fn.func 181) #[.agg #[.int .u64 9782798678568883157, .int .u64 5545529020109919103, .int .i64 31]] #[], .func (Fn.func 181) #[.agg #[.int .u64 5545529020109919103, .int .u64 9782798678568883157, .int .i64 33]] #[]] 159) = w10 at hx hn2 hw0
  have HE := Lib.hid (show w9.alloc (.cells #[.func (Fn.func 181) #[.agg #[.int .u64 9782798678568883157, .int .u64 5545529020109919103, .int .i64 31]] #[], .func (Fn.func 181) #[.agg #[.int .u64 5545529020109919103, .int .u64 9782798678568883157, .int .i64 33]] #[]] 159) = w10 ∧ w9.heap.size = qHM from ⟨hw2, hq⟩)
  clear hw0 hw2
  replace HA := Lib.hid ((hn2.block _ (lt_of_block HA.out)).trans HA.out)
  replace HO := Lib.hid ((hn2.block _ (lt_of_block HO.out)).trans HO.out)
  replace HN := Lib.hid (HN.out.trans hn2)
  have HM := Lib.hid hx
  have HLHM := Lib.hid hle
  clear hx hn2 hq hle
  have HI0 := Lib.hid (in31a_c sa k0)
  have HI1 := Lib.hid (in31b_c sb k1)
  obtain ⟨sc, hsc⟩ : ∃ z, in31a sa k0 = z := ⟨_, rfl⟩
  obtain ⟨sd, hsd⟩ : ∃ z, in31b sb k1 = z := ⟨_, rfl⟩
  rw [hsc] at HI0
  rw [hsd] at HI1
  have HSC := Lib.hid (And.intro hsc hsd)
  clear hsc hsd
  go_wp2_with (rw [HE.out.1, HE.out.2])
  clear HE
  refine Gro3.wp_region_gro3S (fun w' => (∃ u0 u1 : Value, w'.heap[w.heap.size]? = some (.cells #[u0, u1] 125 (0, 0))) ∧ w'.heap[qHM]? = some (.cells #[.func (Fn.func 181) #[.agg #[.int .u64 9782798678568883157, .int .u64 5545529020109919103, .int .i64 31]] #[], .func (Fn.func 181) #[.agg #[.int .u64 5545529020109919103, .int .u64 9782798678568883157, .int .i64 33]] #[]] 159 (0, 0)) ∧ w'.heap[w.heap.size + 1]? = some (.cells #[.int .u64 0, .int .u64 0] 71 (0, 0)) ∧ New w w') (fun w' => w'.heap[w.heap.size]? = some (.cells #[.int .u64 (W64 sa), .int .u64 (W64 sb)] 125 (0, 0)) ∧ w'.heap[qHM]? = some (.cells #[.func (Fn.func 181) #[.agg #[.int .u64 9782798678568883157, .int .u64 5545529020109919103, .int .i64 31]] #[], .func (Fn.func 181) #[.agg #[.int .u64 5545529020109919103, .int .u64 9782798678568883157, .int .i64 33]] #[]] 159 (0, 0)) ∧ w'.heap[w.heap.size + 1]? = some (.cells #[.int .u64 0, .int .u64 0] 71 (0, 0)) ∧ New w10 w') [0,1,0,1,0,2,2,0,3] New (fun _ _ _ => True) (by kernel_rfl) (by kernel_rfl) (by kernel_rfl) (fun _ _ _ _ _ _ => trivial) (fun w' hw' => ⟨⟨_, _, hw'.1⟩, hw'.2.1, hw'.2.2.1, HN.out.trans hw'.2.2.2⟩) (⟨HA.out, HM.out, HO.out, (New.refl _).drew⟩) ?_
  intro I J _ _ f g hfa hba hgb hbb
  have HFA := Lib.hid hfa
  have HBA := Lib.hid hba
  have HGB := Lib.hid hgb
  have HBB := Lib.hid hbb
  have s0 := fun n => cell_of_row _ _ 0 _ _ _ (hgb n).1
  have s1 := fun n => cell_of_row _ _ 1 _ _ _ (hgb n).1
  have s2 := fun n => cell_of_row _ _ 0 _ _ _ (hgb n).2.1
  have s3 := fun n => cell_of_row _ _ 1 _ _ _ (hgb n).2.1
  clear hfa hba hgb hbb
  refine Gro3.take0 1 (by kernel_rfl) ?_
  simp only [List.take, List.drop, List.length]
  repeat (go_big_quiet_step (fail))
  refine wpQuiet_nil ?_
  refine Gro3.take1 1 (by kernel_rfl) ?_
  simp only [List.take, List.drop, List.length]
  repeat (go_big_quiet_step (fail))
  refine wpQuiet_nil ?_
  refine Gro3.take0 1 (by kernel_rfl) ?_
  simp only [List.take, List.drop, List.length]
  repeat (go_big_quiet_step (fail))
  refine wpQuiet_nil ?_
  refine Gro3.take1 1 (by kernel_rfl) ?_
  simp only [List.take, List.drop, List.length]
  repeat (go_big_quiet_step (fail))
  refine wpQuiet_nil ?_
  refine Gro3.take0 1 (by kernel_rfl) ?_
  simp only [List.take, List.drop, List.length]
  repeat (go_big_quiet_step (fail))
  refine wpQuiet_nil ?_
  refine Gro3.callt (fun v => v = .int .u64 (W64 k0)) (fun _ _ => True) rfl rfl (⟨_, rfl⟩) (fun _ _ _ _ _ => trivial) (fun w1 hB hG => ?_) (fun v1 A1 hv1 hA => ?_)
  · obtain ⟨nq, rfl⟩ := hB
    clear s0 s1 s2 s3
    go_simp
    refine (HT1.out _ (HN.out.trans (HGB.out nq).2.2.2)).mono ?_
    rintro e w2 ⟨rfl, rfl⟩
    first | exact ⟨_, rfl, ⟨nq, rfl⟩, New.refl _, rfl⟩ | exact ⟨_, rfl, ⟨nq, rfl⟩, New.refl _, rfl, trivial⟩ | exact ⟨⟨nq, rfl⟩, New.refl _⟩
  simp [Act.put] at hA
  subst hA
  obtain rfl := hv1
  refine Gro3.callt (fun v => v = .int .u64 (W64 sc)) (fun _ _ => True) rfl rfl (⟨_, rfl⟩) (fun _ _ _ _ _ => trivial) (fun w1 hB hG => ?_) (fun v2 A2 hv2 hA => ?_)
  · obtain ⟨nq, rfl⟩ := hB
    clear s0 s1 s2 s3
    go_simp
    refine (HI0.out _).mono ?_
    rintro e w2 ⟨rfl, hn⟩
    have HX := HBB.out _ ⟨(hn.block _ (lt_of_block (HGB.out nq).1)).trans (HGB.out nq).1, (hn.block _ (lt_of_block (HGB.out nq).2.1)).trans (HGB.out nq).2.1, (hn.block _ (lt_of_block (HGB.out nq).2.2.1)).trans (HGB.out nq).2.2.1, (HGB.out nq).2.2.2.trans hn⟩
    first | exact ⟨_, rfl, HX, hn, rfl⟩ | exact ⟨_, rfl, HX, hn, rfl, trivial⟩
  simp [Act.put] at hA
  subst hA
  obtain rfl := hv2
  refine Gro3.take0 1 (by kernel_rfl) ?_
  simp only [List.take, List.drop, List.length]
  repeat (go_big_quiet_step (fail))
  refine wpQuiet_nil ?_
  refine Gro3.turn (fun v => v = undef) (fun _ w9 => Lies w9 (w.heap.size) (.cells #[.int .u64 (W64 sc), .int .u64 (W64 sb)] 125 (0, 0))) rfl rfl ⟨_, rfl⟩ (fun w1 hB hG => ?_) (fun v3 A3 hv3 hA => ?_)
  · obtain ⟨nq, rfl⟩ : ∃ nq, w1 = g nq := hB
    have HX := Lib.hid (HGB.out nq)
    have c0 := cell_of_row _ _ 0 _ _ _ HX.out.1
    have cf := fun i => frozen_of_row _ _ i _ _ HX.out.1
    have h0 := heap_setCell_same _ w.heap.size 0 _ _ (.int .u64 (W64 sc)) HX.out.1
    have HLI := Lib.hid (show Lies _ _ _ from h0)
    have HOT := Lib.hid (fun j (hj : j ≠ w.heap.size) => heap_setCell_other (g nq) ⟨w.heap.size, 0, none⟩ j (.int .u64 (W64 sc)) hj)
    have HMQ := Lib.hid (show qHM ≠ w.heap.size from Nat.ne_of_gt HLM.out)
    clear h0 s0 s1 s2 s3
    go_simp
    exact ⟨HBA.out _ ⟨⟨_, _, HLI.out⟩, (HOT.out _ HMQ.out).trans HX.out.2.1, (HOT.out _ (by omega)).trans HX.out.2.2.1, (HN.out.trans HX.out.2.2.2).setCell (Nat.le_refl _) _⟩, HLI.out⟩
  simp [Act.put] at hA
  subst hA
  refine Gro3.nil ?_
  rintro w10 ⟨n9, rfl⟩ hG
  have hF := HFA.out n9
  replace HA := Lib.hid (show (f n9).heap[w.heap.size]? = _ from hG)
  replace HM := Lib.hid hF.2.1
  replace HO := Lib.hid hF.2.2.1
  replace HN := Lib.hid hF.2.2.2
  clear HFA HBA HGB HBB hG hF s0 s1 s2 s3
  generalize f n9 = w9 at *
  go_wp2_with fail
  refine Gro3.wp_region_gro3S (fun w' => (∃ u0 u1 : Value, w'.heap[w.heap.size]? = some (.cells #[u0, u1] 125 (0, 0))) ∧ w'.heap[qHM]? = some (.cells #[.func (Fn.func 181) #[.agg #[.int .u64 9782798678568883157, .int .u64 5545529020109919103, .int .i64 31]] #[], .func (Fn.func 181) #[.agg #[.int .u64 5545529020109919103, .int .u64 9782798678568883157, .int .i64 33]] #[]] 159 (0, 0)) ∧ w'.heap[w.heap.size + 1]? = some (.cells #[.int .u64 0, .int .u64 0] 71 (0, 0)) ∧ New w w') (fun w' => w'.heap[w.heap.size]? = some (.cells #[.int .u64 (W64 sc), .int .u64 (W64 sb)] 125 (0, 0)) ∧ w'.heap[qHM]? = some (.cells #[.func (Fn.func 181) #[.agg #[.int .u64 9782798678568883157, .int .u64 5545529020109919103, .int .i64 31]] #[], .func (Fn.func 181) #[.agg #[.int .u64 5545529020109919103, .int .u64 9782798678568883157, .int .i64 33]] #[]] 159 (0, 0)) ∧ w'.heap[w.heap.size + 1]? = some (.cells #[.int .u64 0, .int .u64 0] 71 (0, 0)) ∧ New w9 w') [0,1,0,1,0,0,0,0,0,2,2,0,3] New (fun _ _ _ => True) (by kernel_rfl) (by kernel_rfl) (by kernel_rfl) (fun _ _ _ _ _ _ => trivial) (fun w' hw' => ⟨⟨_, _, hw'.1⟩, hw'.2.1, hw'.2.2.1, HN.out.trans hw'.2.2.2⟩) (⟨HA.out, HM.out, HO.out, (New.refl _).drew⟩) ?_
  intro I J _ _ f g hfa hba hgb hbb
  have HFA := Lib.hid hfa
  have HBA := Lib.hid hba
  have HGB := Lib.hid hgb
  have HBB := Lib.hid hbb
  have s0 := fun n => cell_of_row _ _ 0 _ _ _ (hgb n).1
  have s1 := fun n => cell_of_row _ _ 1 _ _ _ (hgb n).1
  have s2 := fun n => cell_of_row _ _ 0 _ _ _ (hgb n).2.1
  have s3 := fun n => cell_of_row _ _ 1 _ _ _ (hgb n).2.1
  clear hfa hba hgb hbb
  refine Gro3.take0 1 (by kernel_rfl) ?_
  simp only [List.take, List.drop, List.length]
  repeat (go_big_quiet_step (fail))
  refine wpQuiet_nil ?_
  refine Gro3.take1 1 (by kernel_rfl) ?_
  simp only [List.take, List.drop, List.length]
  repeat (go_big_quiet_step (fail))
  refine wpQuiet_nil ?_
  refine Gro3.take0 1 (by kernel_rfl) ?_
  simp only [List.take, List.drop, List.length]
  repeat (go_big_quiet_step (fail))
  refine wpQuiet_nil ?_
  refine Gro3.take1 1 (by kernel_rfl) ?_
  simp only [List.take, List.drop, List.length]
  repeat (go_big_quiet_step (fail))
  refine wpQuiet_nil ?_
  refine Gro3.take0 2 (by kernel_rfl) ?_
  simp only [List.take, List.drop, List.length]
  repeat (go_big_quiet_step (fail))
  refine wpQuiet_nil ?_
  refine Gro3.blen (.tmp 22) 23 5 ((some ⟨b, off, sp⟩)) (n) (c) rfl rfl rfl Try.underlying23 rfl (fun A2 hA => ?_)
  simp [Act.put] at hA
  subst hA
  refine Gro3.bmin31 _ _ _ n 8 (min n 8) rfl rfl rfl rfl rfl rfl (fun A52 hA => ?_)
  simp [Act.put] at hA
  subst hA
  refine Gro3.take0 1 (by kernel_rfl) ?_
  simp only [List.take, List.drop, List.length]
  repeat (go_big_quiet_step (fail))
  refine wpQuiet_nil ?_
  refine Gro3.callt (fun v => v = .int .u64 (W64 k1)) (fun _ _ => True) rfl rfl (⟨_, rfl⟩) (fun _ _ _ _ _ => trivial) (fun w1 hB hG => ?_) (fun v3 A3 hv3 hA => ?_)
  · obtain ⟨nq, rfl⟩ := hB
    clear s0 s1 s2 s3
    go_simp
    refine (HT2.out _ (HN.out.trans (HGB.out nq).2.2.2)).mono ?_
    rintro e w2 ⟨rfl, rfl⟩
    first | exact ⟨_, rfl, ⟨nq, rfl⟩, New.refl _, rfl⟩ | exact ⟨_, rfl, ⟨nq, rfl⟩, New.refl _, rfl, trivial⟩ | exact ⟨⟨nq, rfl⟩, New.refl _⟩
  simp [Act.put] at hA
  subst hA
  obtain rfl := hv3
  refine Gro3.callt (fun v => v = .int .u64 (W64 sd)) (fun _ _ => True) rfl rfl (⟨_, rfl⟩) (fun _ _ _ _ _ => trivial) (fun w1 hB hG => ?_) (fun v4 A4 hv4 hA => ?_)
  · obtain ⟨nq, rfl⟩ := hB
    clear s0 s1 s2 s3
    go_simp
    refine (HI1.out _).mono ?_
    rintro e w2 ⟨rfl, hn⟩
    have HX := HBB.out _ ⟨(hn.block _ (lt_of_block (HGB.out nq).1)).trans (HGB.out nq).1, (hn.block _ (lt_of_block (HGB.out nq).2.1)).trans (HGB.out nq).2.1, (hn.block _ (lt_of_block (HGB.out nq).2.2.1)).trans (HGB.out nq).2.2.1, (HGB.out nq).2.2.2.trans hn⟩
    first | exact ⟨_, rfl, HX, hn, rfl⟩ | exact ⟨_, rfl, HX, hn, rfl, trivial⟩
  simp [Act.put] at hA
  subst hA
  obtain rfl := hv4
  refine Gro3.take0 1 (by kernel_rfl) ?_
  simp only [List.take, List.drop, List.length]
  repeat (go_big_quiet_step (fail))
  refine wpQuiet_nil ?_
  refine Gro3.turn (fun v => v = undef) (fun _ w9 => Lies w9 (w.heap.size) (.cells #[.int .u64 (W64 sc), .int .u64 (W64 sd)] 125 (0, 0))) rfl rfl ⟨_, rfl⟩ (fun w1 hB hG => ?_) (fun v5 A5 hv5 hA => ?_)
  · obtain ⟨nq, rfl⟩ : ∃ nq, w1 = g nq := hB
    have HX := Lib.hid (HGB.out nq)
    have c0 := cell_of_row _ _ 1 _ _ _ HX.out.1
    have cf := fun i => frozen_of_row _ _ i _ _ HX.out.1
    have h0 := heap_setCell_same _ w.heap.size 1 _ _ (.int .u64 (W64 sd)) HX.out.1
    have HLI := Lib.hid (show Lies _ _ _ from h0)
    have HOT := Lib.hid (fun j (hj : j ≠ w.heap.size) => heap_setCell_other (g nq) ⟨w.heap.size, 1, none⟩ j (.int .u64 (W64 sd)) hj)
    have HMQ := Lib.hid (show qHM ≠ w.heap.size from Nat.ne_of_gt HLM.out)
    clear h0 s0 s1 s2 s3
    go_simp
    exact ⟨HBA.out _ ⟨⟨_, _, HLI.out⟩, (HOT.out _ HMQ.out).trans HX.out.2.1, (HOT.out _ (by omega)).trans HX.out.2.2.1, (HN.out.trans HX.out.2.2.2).setCell (Nat.le_refl _) _⟩, HLI.out⟩
  simp [Act.put] at hA
  subst hA
  refine Gro3.nil ?_
  rintro w10 ⟨n9, rfl⟩ hG
  have hF := HFA.out n9
  replace HA := Lib.hid (show (f n9).heap[w.heap.size]? = _ from hG)
  replace HM := Lib.hid hF.2.1
  replace HO := Lib.hid hF.2.2.1
  replace HN := Lib.hid hF.2.2.2
  clear HFA HBA HGB HBB hG hF s0 s1 s2 s3
  generalize f n9 = w9 at *
  clear HT1 HT2 hw1 hw2 hw3 HI0 HI1 hmost hle hroom hv3 hv5
  have x0 := cell_of_row _ _ 0 _ _ _ HA.out
  have x1 := cell_of_row _ _ 1 _ _ _ HA.out
  have HJ := Lib.hid (joined_31 (sc ^^^ lg) (sd ^^^ lg))
  obtain ⟨m1, hm1⟩ : ∃ m, (sc ^^^ lg) + (sd ^^^ lg) = m := ⟨_, rfl⟩
  rw [hm1] at HJ
  obtain ⟨m2, hm2⟩ : ∃ m, (sd ^^^ lg) + m1 = m := ⟨_, rfl⟩
  rw [hm2] at HJ
  have HX1 := Lib.hid (fmix_n m1)
  have HX2 := Lib.hid (fmix_n m2)
  obtain ⟨x, hx⟩ : ∃ x, fmix m1 = x := ⟨_, rfl⟩
  obtain ⟨y, hy⟩ : ∃ y, fmix m2 = y := ⟨_, rfl⟩
  rw [hx] at HX1
  rw [hy] at HX2
  have HJ2 := Lib.hid (joined_31 x y)
  obtain ⟨r1, hr1⟩ : ∃ r, x + y = r := ⟨_, rfl⟩
  rw [hr1] at HJ2
  obtain ⟨r2, hr2⟩ : ∃ r, y + r1 = r := ⟨_, rfl⟩
  rw [hr2] at HJ2
  have HEQ := Lib.hid (And.intro hm1 (And.intro hm2 (And.intro hx (And.intro hy (And.intro hr1 hr2)))))
  clear hm1 hm2 hx hy hr1 hr2
  go_wp2_with fail
  refine (HJ.out _).mono ?_
  rintro e w9 ⟨rfl, hn⟩
  replace HA := Lib.hid ((hn.block _ (lt_of_block HA.out)).trans HA.out)
  replace HO := Lib.hid ((hn.block _ (lt_of_block HO.out)).trans HO.out)
  replace HN := Lib.hid (HN.out.trans hn)
  clear hn x0 x1 HM
  have x0 := cell_of_row _ _ 0 _ _ _ HA.out
  have x1 := cell_of_row _ _ 1 _ _ _ HA.out
  have xf := fun i => frozen_of_row _ _ i _ _ HA.out
  go_wp2_with fail
  have hp := put_31 (.int .u64 (W64 m1)) (.int .u64 (W64 m2)) HA.out
  have hpa := hp.1
  have hpo := (hp.2.1 (w.heap.size + 1) (by omega)).trans HO.out
  have hpn := hp.2.2 _ HN.out (Nat.le_refl _)
  clear hp x0 x1 xf HA HO HN
  generalize (w9.setCell ⟨w.heap.size, 0, none⟩ (.int .u64 (W64 m1))).setCell ⟨w.heap.size, 1, none⟩ (.int .u64 (W64 m2)) = w10 at hpa hpo hpn ⊢
  have HA := Lib.hid hpa
  have HO := Lib.hid hpo
  have HN := Lib.hid hpn
  clear hpa hpo hpn
  refine Gro3.wp_region_gro3S (fun w' => (∃ u0 u1 : Value, w'.heap[w.heap.size]? = some (.cells #[u0, u1] 125 (0, 0))) ∧ w'.heap[w.heap.size + 1]? = some (.cells #[.int .u64 0, .int .u64 0] 71 (0, 0)) ∧ New w w') (fun w' => w'.heap[w.heap.size]? = some (.cells #[.int .u64 (W64 (m1)), .int .u64 (W64 (m2))] 125 (0, 0)) ∧ w'.heap[w.heap.size + 1]? = some (.cells #[.int .u64 0, .int .u64 0] 71 (0, 0)) ∧ New w10 w') [0,1,2,0,1,2,0,2,3] New (fun _ _ _ => True) (by kernel_rfl) (by kernel_rfl) (by kernel_rfl) (fun _ _ _ _ _ _ => trivial) (fun w' hw' => ⟨⟨_, _, hw'.1⟩, hw'.2.1, HN.out.trans hw'.2.2⟩) (⟨HA.out, HO.out, (New.refl _).drew⟩) ?_
  intro I J _ _ f g hfa hba hgb hbb
  have HFA := Lib.hid hfa
  have HBA := Lib.hid hba
  have HGB := Lib.hid hgb
  have HBB := Lib.hid hbb
  have s0 := fun n => cell_of_row _ _ 0 _ _ _ (hgb n).1
  have s1 := fun n => cell_of_row _ _ 1 _ _ _ (hgb n).1
  clear hfa hba hgb hbb
  refine Gro3.take0 1 (by kernel_rfl) ?_
  simp only [List.take, List.drop, List.length]
  repeat (go_big_quiet_step (fail))
  refine wpQuiet_nil ?_
  refine Gro3.take1 1 (by kernel_rfl) ?_
  simp only [List.take, List.drop, List.length]
  repeat (go_big_quiet_step (fail))
  refine wpQuiet_nil ?_
  refine Gro3.callt (fun v => v = .int .u64 (W64 x)) (fun _ _ => True) rfl rfl (⟨_, rfl⟩) (fun _ _ _ _ _ => trivial) (fun w1 hB hG => ?_) (fun v1 A1 hv1 hA => ?_)
  · obtain ⟨nq, rfl⟩ := hB
    clear s0 s1
    go_simp
    refine (HX1.out _).mono ?_
    rintro e w2 ⟨rfl, hn⟩
    have HX := HBB.out _ ⟨(hn.block _ (lt_of_block (HGB.out nq).1)).trans (HGB.out nq).1, (hn.block _ (lt_of_block (HGB.out nq).2.1)).trans (HGB.out nq).2.1, (HGB.out nq).2.2.trans hn⟩
    first | exact ⟨_, rfl, HX, hn, rfl⟩ | exact ⟨_, rfl, HX, hn, rfl, trivial⟩
  simp [Act.put] at hA
  subst hA
  obtain rfl := hv1
  refine Gro3.take0 1 (by kernel_rfl) ?_
  simp only [List.take, List.drop, List.length]
  repeat (go_big_quiet_step (fail))
  refine wpQuiet_nil ?_
  refine Gro3.take1 1 (by kernel_rfl) ?_
  simp only [List.take, List.drop, List.length]
  repeat (go_big_quiet_step (fail))
  refine wpQuiet_nil ?_
  refine Gro3.callt (fun v => v = .int .u64 (W64 y)) (fun _ _ => True) rfl rfl (⟨_, rfl⟩) (fun _ _ _ _ _ => trivial) (fun w1 hB hG => ?_) (fun v2 A2 hv2 hA => ?_)
  · obtain ⟨nq, rfl⟩ := hB
    clear s0 s1
    go_simp
    refine (HX2.out _).mono ?_
    rintro e w2 ⟨rfl, hn⟩
    have HX := HBB.out _ ⟨(hn.block _ (lt_of_block (HGB.out nq).1)).trans (HGB.out nq).1, (hn.block _ (lt_of_block (HGB.out nq).2.1)).trans (HGB.out nq).2.1, (HGB.out nq).2.2.trans hn⟩
    first | exact ⟨_, rfl, HX, hn, rfl⟩ | exact ⟨_, rfl, HX, hn, rfl, trivial⟩
  simp [Act.put] at hA
  subst hA
  obtain rfl := hv2
  refine Gro3.take0 1 (by kernel_rfl) ?_
  simp only [List.take, List.drop, List.length]
  repeat (go_big_quiet_step (fail))
  refine wpQuiet_nil ?_
  refine Gro3.callt (fun v => v = .agg #[.int .u64 (W64 r1), .int .u64 (W64 r2)]) (fun _ _ => True) rfl rfl (⟨_, rfl⟩) (fun _ _ _ _ _ => trivial) (fun w1 hB hG => ?_) (fun v3 A3 hv3 hA => ?_)
  · obtain ⟨nq, rfl⟩ := hB
    clear s0 s1
    go_simp
    refine (HJ2.out _).mono ?_
    rintro e w2 ⟨rfl, hn⟩
    have HX := HBB.out _ ⟨(hn.block _ (lt_of_block (HGB.out nq).1)).trans (HGB.out nq).1, (hn.block _ (lt_of_block (HGB.out nq).2.1)).trans (HGB.out nq).2.1, (HGB.out nq).2.2.trans hn⟩
    first | exact ⟨_, rfl, HX, hn, rfl⟩ | exact ⟨_, rfl, HX, hn, rfl, trivial⟩
  simp [Act.put] at hA
  subst hA
  obtain rfl := hv3
  refine Gro3.turn (fun v => v = undef) (fun _ w9 => Lies w9 (w.heap.size) (.cells #[.int .u64 (W64 (r1)), .int .u64 (W64 (r2))] 125 (0, 0))) rfl rfl ⟨_, rfl⟩ (fun w1 hB hG => ?_) (fun v4 A4 hv4 hA => ?_)
  · obtain ⟨nq, rfl⟩ : ∃ nq, w1 = g nq := hB
    have HX := Lib.hid (HGB.out nq)
    have c0 := cell_of_row _ _ 0 _ _ _ HX.out.1
    have c1 := cell_of_row _ _ 1 _ _ _ HX.out.1
    have cf := fun i => frozen_of_row _ _ i _ _ HX.out.1
    have h0 := put_31 (.int .u64 (W64 r1)) (.int .u64 (W64 r2)) HX.out.1
    have HLI := Lib.hid (show Lies _ _ _ from h0.1)
    have HOT := Lib.hid h0.2
    clear h0 s0 s1
    go_simp
    exact ⟨HBA.out _ ⟨⟨_, _, HLI.out⟩, (HOT.out.1 _ (by omega)).trans HX.out.2.1, HOT.out.2 _ (HN.out.trans HX.out.2.2) (Nat.le_refl _)⟩, HLI.out⟩
  simp [Act.put] at hA
  subst hA
  refine Gro3.nil ?_
  rintro w11 ⟨n9, rfl⟩ hG
  have hF := HFA.out n9
  replace HA := Lib.hid (show (f n9).heap[w.heap.size]? = _ from hG)
  replace HO := Lib.hid hF.2.1
  replace HN := Lib.hid hF.2.2
  clear HFA HBA HGB HBB hG hF s0 s1
  generalize f n9 = w9 at *
  have x0 := cell_of_row _ _ 0 _ _ _ HA.out
  have x1 := cell_of_row _ _ 1 _ _ _ HA.out
  have z0 := cell_of_row _ _ 0 _ _ _ HO.out
  have z1 := cell_of_row _ _ 1 _ _ _ HO.out
  have zf := fun i => frozen_of_row _ _ i _ _ HO.out
  go_wp2
  refine bodyPost_ret (by simp [results, Try.results124, go_sem, z0, z1]; try rfl) rfl ?_
  refine ⟨?_, (HN.out.setCell (by show w.heap.size ≤ w.heap.size + 1; omega) _).setCell (by show w.heap.size ≤ w.heap.size + 1; omega) _⟩
  intro h1 h2 x' y' e1 e2 e3 e4
  obtain ⟨f1, f2, f3, f4, f5, f6⟩ := HEQ.out
  subst e1 e2
  rw [HSC.out.1, HSC.out.2, f1, f3] at e3
  rw [HSC.out.1, HSC.out.2, f1, f2, f4] at e4
  subst e3 e4
  rw [f5, f6]
end Go.Proofs.Ytegibnffingciaa
