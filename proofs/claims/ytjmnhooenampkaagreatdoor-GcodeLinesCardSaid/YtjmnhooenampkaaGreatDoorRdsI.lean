/- The law GcodeReads. -/
import Derived.Test.YtjmnhooenampkaaGreatDoorRdsH
import Derived.Test.YtjmnhooenampkaaGreatDoorGctB
import Derived.ChangeKeysEq
import Derived.Laws.StructEq
namespace Go.Proofs.YtjmnhooenampkaaGreatDoor
open Go.RowKit Go.Bv
set_option linter.unusedVariables false
set_option maxRecDepth 100000
theorem plainI15r : Tryz.prog.plainKey 3 = true := by kernel_rfl
theorem fields15r : ((Tryz.prog.fieldsOf 27).toList.map fun f => (f.type, f.offset, decide (f.name = "_"))) = [(3, 0, false), (25, 1, false)] := by kernel_rfl
theorem cells4_15r : Tryz.prog.cellsOf 25 = 4 := by kernel_rfl
theorem info4_15r : (Tryz.prog.info? 25).isSome = true := by kernel_rfl
theorem part4_15r (w : World) (k : Int) (q : W4) : (part 25 (stc k q) 1).run Tryz.prog w = .ok (.agg q.cells) w := by
  obtain ⟨i, hi⟩ := Option.isSome_iff_exists.1 info4_15r
  have hu := Tryz.underlying25
  have hs := run_sizeOf w hi
  rw [cells4_15r] at hs
  have ha : (isAgg 25).run Tryz.prog w = .ok true w := by simp [isAgg, run_underlying hu]
  unfold part
  simp only [Sem.run_bind, ha, hs, Result.andThen_ok, if_true, Sem.run_pure]
  rfl
theorem eqStr (w : World) (k k' : Int) (q q' : W4) :
    (Op.equalIn 10000 27 (.agg (stc k q)) (.agg (stc k' q'))).run Tryz.prog w = .ok (k == k' && (q.a == q'.a && (q.b == q'.b && (q.c == q'.c && q.d == q'.d)))) w := by
  have hu := Tryz.underlying3
  have g1 := run_equalIn_int (w := w) 9998 _ .i64 .i64 k k' hu
  have g2 := eq4d 9997 25 Tryz.underlying25 w q.a q.b q.c q.d q'.a q'.b q'.c q'.d
  have e1 := run_part_plain (w := w) (v := .int .i64 k) plainI15r (xs := stc k q) (off := 0) rfl
  have f1 := run_part_plain (w := w) (v := .int .i64 k') plainI15r (xs := stc k' q') (off := 0) rfl
  have e2 := part4_15r w k q
  have f2 := part4_15r w k' q'
  rw [run_equalIn_struct w 9999 _ _ _ (by kernel_rfl) (by kernel_rfl)]
  have hfs := fields15r
  generalize (Tryz.prog.fieldsOf 27).toList = fs at hfs
  obtain ⟨a, l1, rfl, ha, h1⟩ := List.map_eq_cons_iff.1 hfs
  obtain ⟨b, l2, rfl, hb, h2⟩ := List.map_eq_cons_iff.1 h1
  obtain rfl := List.map_eq_nil_iff.1 h2
  simp only [Prod.mk.injEq, decide_eq_false_iff_not] at ha hb
  obtain ⟨t1, o1, n1⟩ := ha
  obtain ⟨t2, o2, n2⟩ := hb
  simp only [Op.eqFields, t1, o1, n1, t2, o2, n2, ne_eq, not_false_eq_true, if_true, Sem.run_bind, e1, f1, g1, Result.andThen_ok]
  rcases h1 : k == k' <;> rcases h0 : (q.a == q'.a && (q.b == q'.b && (q.c == q'.c && q.d == q'.d))) <;> rw [h0] at g2 <;> simp [Sem.run_bind, e2, f2, g2]
theorem eqSt_selfr (w : World) (k : Int) (q : W4) : (Op.equalIn 10000 27 (.agg (stc k q)) (.agg (stc k q))).run Tryz.prog w = .ok true w := by
  rw [eqStr]; simp
set_option maxHeartbeats 2000000 in
theorem reads_walk (W : World) (a : Option Addr) (n c : Nat) (l : List (BitVec 8)) (hl : BRow W a n c l) (S F L K : Addr) (hs : SenD S F L K W) (hg : EtD 8 45 155 W) : Calls Tryz.prog 3 #[.slice a n c] W fun e w' => e = .returned (.bool true) ∧ New W w' := by
  have HA := Lib.hid awake17
  have hln := hl.len_eq
  by_cases h300 : (300 : Int) < (n : Int)
  · clear hl hs hg hln
    go_enter Tryz.func3, Tryz.ntmps3
    go_wp2_with fail
    refine (HA.out _).mono ?_
    rintro e wA ⟨rfl, hn⟩
    go_wp2
    go_ret
    exact ⟨rfl, hn⟩
  have HL := Lib.hid (fun (w' : World) (h : New W w') => hl.stay h)
  have HU := Lib.hid (fun (w' : World) (h : New W w') => unm_17 S F L K a n c l w' (hl.stay h) (hs.stay h) (hg.stay h) (by omega))
  have HR := Lib.hid (fun (w' : World) (h : New W w') => rread_17 a n c l w' (hl.stay h) (by omega))
  have HEQ := Lib.hid (fun w => eqSt_selfr w (rdK17 l) (rdQ17 l))
  have HB0 := Lib.hid (fun h : rdE17 l = 0 => rd_back17 l h)
  have HK0 := Lib.hid (fun h : rdE17 l = 0 => show rdK17 l = kd17 l ∧ rdQ17 l = qd17 l (nK (kd17 l)) by unfold rdK17 rdQ17; rw [if_pos h, if_pos h]; exact ⟨rfl, rfl⟩)
  have HK1 := Lib.hid (fun h : ¬ rdE17 l = 0 => show chkK (rdK17 l) (rdQ17 l) ≠ 0 by
    unfold rdK17 rdQ17; rw [if_neg h, if_neg h]; decide)
  clear hl hs hg
  obtain ⟨K1, hK1⟩ : ∃ k, rdK17 l = k := ⟨_, rfl⟩
  obtain ⟨Q1, hQ1⟩ : ∃ q, rdQ17 l = q := ⟨_, rfl⟩
  obtain ⟨E1, hE1⟩ : ∃ e, rdE17 l = e := ⟨_, rfl⟩
  rw [hK1, hQ1] at HU HR HEQ HK0 HK1
  rw [hE1] at HU HR HB0 HK0 HK1
  clear hK1 hQ1 hE1
  have hee := HEQ.out
  go_enter Tryz.func3, Tryz.ntmps3
  go_wp2_with fail
  refine (HA.out _).mono ?_
  rintro e wA ⟨rfl, hn⟩
  have HNA := Lib.hid hn
  clear hn HA
  go_wp2_with fail
  refine (HU.out _ HNA.out).mono ?_
  rintro e wB ⟨rfl, hn⟩
  obtain ⟨wC, hC, hbC, hnC⟩ := box5 wB (stc K1 Q1)
  have HALC := Lib.hid hC
  have HNC := Lib.hid ((HNA.out.trans hn).trans hnC)
  have HBC := Lib.hid hbC
  clear hC hbC hnC hn
  go_wp2_with fail
  rw [HALC.out]
  refine (HR.out _ HNC.out).mono ?_
  rintro e wD ⟨rfl, hn⟩
  obtain ⟨wE, hE, hbE, hnE⟩ := box5 wD (stc K1 Q1)
  have HALE := Lib.hid hE
  have HND := Lib.hid (HNC.out.trans hn)
  have HNE := Lib.hid ((HNC.out.trans hn).trans hnE)
  have HBE1 := Lib.hid (((hn.trans hnE).block _ (lt_of_block HBC.out)).trans HBC.out)
  have HBE2 := Lib.hid hbE
  have c0 := cell_of_row _ _ 0 _ _ _ HBE1.out
  have c1 := cell_of_row _ _ 1 _ _ _ HBE1.out
  have c2 := cell_of_row _ _ 2 _ _ _ HBE1.out
  have c3 := cell_of_row _ _ 3 _ _ _ HBE1.out
  have c4 := cell_of_row _ _ 4 _ _ _ HBE1.out
  have d0 := cell_of_row _ _ 0 _ _ _ HBE2.out
  have d1 := cell_of_row _ _ 1 _ _ _ HBE2.out
  have d2 := cell_of_row _ _ 2 _ _ _ HBE2.out
  have d3 := cell_of_row _ _ 3 _ _ _ HBE2.out
  have d4 := cell_of_row _ _ 4 _ _ _ HBE2.out
  rw [← HALE.out] at c0 c1 c2 c3 c4 d0 d1 d2 d3 d4
  clear hE hbE hnE hn HALC
  by_cases h0 : E1 = 0
  · subst h0
    obtain ⟨k1, k2⟩ := HK0.out rfl
    obtain ⟨b1, b2, b3⟩ := HB0.out rfl
    rw [← k1] at b1 b2 b3 k2
    have hq : qd17 l (nK K1) = Q1 := k2.symm
    rw [hq] at b1 b3
    have HM := Lib.hid (fun w => marshal_yes K1 Q1 w b1)
    rw [b3] at HM
    have HLN : Hid (n = 6 + 8 * nK K1) := Lib.hid (by omega)
    clear k1 k2 b1 b2 b3 hq hln HK0 HK1 HB0
    go_wp2_with fail
    rw [HALE.out]
    refine (HM.out _).mono ?_
    rintro e wF ⟨⟨a9, c9, rfl, hrow⟩, hn⟩
    have HNF := Lib.hid (HNE.out.trans hn)
    have HSM := Lib.hid (same_any a9 a (6 + 8 * nK K1) c9 n c l l wF hrow (HL.out _ HNF.out))
    clear hrow hn c0 c1 c2 c3 c4 d0 d1 d2 d3 d4
    go_wp2_with fail
    refine HSM.out.mono ?_
    rintro e w' ⟨rfl, rfl⟩
    rw [beq_self_eq_true]
    go_wp2
    go_ret
    exact ⟨rfl, HNF.out⟩
  · have hb : (E1 != 0) = true := by rw [bne_iff_ne]; exact h0
    have HM := Lib.hid (fun w => marshal_no K1 Q1 w (HK1.out h0))
    clear h0 hln HK0 HK1 HB0
    go_wp2_with fail
    rw [HALE.out]
    refine (HM.out _).mono ?_
    rintro e wF ⟨rfl, hn⟩
    have HNF := Lib.hid (HNE.out.trans hn)
    clear hn c0 c1 c2 c3 c4 d0 d1 d2 d3 d4
    go_wp2
    go_ret
    exact ⟨rfl, HNF.out⟩
theorem GcodeReads_walk (W : World) (a0 : Option Addr) (n0 m0 : Nat) (z0 : List Int) (w0 : IRow .u8 W a0 n0 m0 z0) (r0 : m0 * 1 ≤ 140737488351232) (hE : EtD 8 45 155 W) (hS : ∃ S F L K, SenD S F L K W) :
    Calls Tryz.prog 3 #[.slice a0 n0 m0] W fun e w' => e = .returned (.bool true) ∧ Below W.heap.size W w' := by
  obtain ⟨l, hl⟩ := w0.bytes r0
  obtain ⟨S, F, L, K, hs⟩ := hS
  exact reads_walk W a0 n0 m0 l hl S F L K hs hE
end Go.Proofs.YtjmnhooenampkaaGreatDoor
