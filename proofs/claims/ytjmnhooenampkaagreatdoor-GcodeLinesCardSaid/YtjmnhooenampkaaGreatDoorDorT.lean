/- The listed variables of GcodeLines and GcodeBack: as DorS, with utf8's two tables. -/
import Derived.Test.YtjmnhooenampkaaGreatDoorRows
import Derived.Test.YtjmnhooenampkaaGreatDoorBakB
import Derived.HandedShaped
import Derived.Lay
import Derived.Handed
import Derived.ChangeSame
import Derived.ChangeVars
import Derived.JoinedOf
import Derived.RowKit
import Derived.RowKitTokens
import Derived.LaidLaws
import Derived.LaidHandle
import Derived.LaidMore
import Derived.OpenShut
import Derived.ProofKit
import Derived.Stop.Joined
import Derived.Stop.LaidTwo
namespace Go
theorem laid_sentinels4 {P : Program} {n0 n1 n2 n3 nm : String} {text0 text1 text2 text3 : List UInt8} {r : List (String × DataW Unit)} {W : World} {g0 g1 g2 g3 : Nat} {ti tp te ts : TypeId} {ms : Array (String × TypeId)} {f : Field}
    (h : laidMet P ((n0, .iface nm (.ptr (.agg [.lit (.string text0)]))) :: (n1, .iface nm (.ptr (.agg [.lit (.string text1)]))) :: (n2, .iface nm (.ptr (.agg [.lit (.string text2)]))) :: (n3, .iface nm (.ptr (.agg [.lit (.string text3)]))) :: r) W)
    (hg0 : P.globalNamed n0 = some g0) (ht0 : (P.globals[g0]?).map (·.type) = some ti) (hg1 : P.globalNamed n1 = some g1) (ht1 : (P.globals[g1]?).map (·.type) = some ti) (hg2 : P.globalNamed n2 = some g2) (ht2 : (P.globals[g2]?).map (·.type) = some ti) (hg3 : P.globalNamed n3 = some g3) (ht3 : (P.globals[g3]?).map (·.type) = some ti)
    (hi : P.underlying ti = some (.interface ms)) (hrow : ∀ u, P.typeName? 3 u = some nm → u = tp)
    (hp : P.underlying tp = some (.pointer te)) (he : P.underlying te = some (.struct #[f])) (hft : f.type = ts) (hfo : f.offset = 0) (hs : P.underlying ts = some .string) (hc : P.cellsOf te = 1) (hcs : P.cellsOf ts = 1) :
    ∃ (a0 a1 a2 a3 : Addr) (c0 c1 c2 c3 : Array Value) (t0 t1 t2 t3 : TypeId), W.var? P n0 = some #[.iface tp (.pointer (some a0))] ∧ W.var? P n1 = some #[.iface tp (.pointer (some a1))] ∧ W.var? P n2 = some #[.iface tp (.pointer (some a2))] ∧ W.var? P n3 = some #[.iface tp (.pointer (some a3))] ∧ W.heap[a0.block]? = some (.cells c0 t0 (0, 0)) ∧ W.heap[a1.block]? = some (.cells c1 t1 (0, 0)) ∧ W.heap[a2.block]? = some (.cells c2 t2 (0, 0)) ∧ W.heap[a3.block]? = some (.cells c3 t3 (0, 0)) ∧ a0 ≠ a1 ∧ a0 ≠ a2 ∧ a0 ≠ a3 ∧ a1 ≠ a2 ∧ a1 ≠ a3 ∧ a2 ≠ a3 := by
  obtain ⟨ps, ⟨g0', t0', cs0, f0, p0, q0, hg0', ht0', hv0, hd0, ⟨g1', t1', cs1, f1, p1, q1, hg1', ht1', hv1, hd1, ⟨g2', t2', cs2, f2, p2, q2, hg2', ht2', hv2, hd2, ⟨g3', t3', cs3, f3, p3, q3, hg3', ht3', hv3, hd3, _, e3⟩, e2⟩, e1⟩, e0⟩, hnd, hrows⟩ := h
  obtain rfl := Option.some.inj (hg0.symm.trans hg0')
  obtain rfl := Option.some.inj (ht0.symm.trans ht0')
  obtain rfl := Option.some.inj (hg1.symm.trans hg1')
  obtain rfl := Option.some.inj (ht1.symm.trans ht1')
  obtain rfl := Option.some.inj (hg2.symm.trans hg2')
  obtain rfl := Option.some.inj (ht2.symm.trans ht2')
  obtain rfl := Option.some.inj (hg3.symm.trans hg3')
  obtain rfl := Option.some.inj (ht3.symm.trans ht3')
  subst e3
  subst e2
  subst e1
  subst e0
  obtain ⟨l0⟩ := cs0
  obtain ⟨l1⟩ := cs1
  obtain ⟨l2⟩ := cs2
  obtain ⟨l3⟩ := cs3
  have ok0 : ∀ u v, l0 = [.iface u v] → Value.okWide P W .any 0 u v := fun u v e => by
    subst e
    exact (hrows g0 0 (by simp [MemPlace.row])).2 u v (by simpa using World.var?_cell hg0' hv0 0)
  have ok1 : ∀ u v, l1 = [.iface u v] → Value.okWide P W .any 0 u v := fun u v e => by
    subst e
    exact (hrows g1 0 (by simp [MemPlace.row])).2 u v (by simpa using World.var?_cell hg1' hv1 0)
  have ok2 : ∀ u v, l2 = [.iface u v] → Value.okWide P W .any 0 u v := fun u v e => by
    subst e
    exact (hrows g2 0 (by simp [MemPlace.row])).2 u v (by simpa using World.var?_cell hg2' hv2 0)
  have ok3 : ∀ u v, l3 = [.iface u v] → Value.okWide P W .any 0 u v := fun u v e => by
    subst e
    exact (hrows g3 0 (by simp [MemPlace.row])).2 u v (by simpa using World.var?_cell hg3' hv3 0)
  obtain ⟨a0, s0, rfl, hc0, hs0, hz0, rfl⟩ := errorString_of_trod hi hrow hp he hft hfo hs hc hcs hd0 ok0
  obtain ⟨a1, s1, rfl, hc1, hs1, hz1, rfl⟩ := errorString_of_trod hi hrow hp he hft hfo hs hc hcs hd1 ok1
  obtain ⟨a2, s2, rfl, hc2, hs2, hz2, rfl⟩ := errorString_of_trod hi hrow hp he hft hfo hs hc hcs hd2 ok2
  obtain ⟨a3, s3, rfl, hc3, hs3, hz3, rfl⟩ := errorString_of_trod hi hrow hp he hft hfo hs hc hcs hd3 ok3
  obtain ⟨c0, t0, hb0⟩ := (hrows a0.block a0.off (by simp [MemPlace.row])).1
  obtain ⟨c1, t1, hb1⟩ := (hrows a1.block a1.off (by simp [MemPlace.row])).1
  obtain ⟨c2, t2, hb2⟩ := (hrows a2.block a2.off (by simp [MemPlace.row])).1
  obtain ⟨c3, t3, hb3⟩ := (hrows a3.block a3.off (by simp [MemPlace.row])).1
  refine ⟨a0, a1, a2, a3, c0, c1, c2, c3, t0, t1, t2, t3, hv0, hv1, hv2, hv3, hb0, hb1, hb2, hb3, ?_, ?_, ?_, ?_, ?_, ?_⟩
  all_goals
    intro e
    first | subst e | skip
    simp [MemPlace.row] at hnd
variable {H : Type} {enc : TypeId × Value → H}
theorem returnsInHanded_of_change_and_shaped17 {a : Assume} {C : Checked} {os : Os} {f : FuncId} {fn : Func} {s : ChangeSpec} {conds : List PathCond} {apart fresh handsOn again : Bool} {X : World → Array Value → Prop}
    (hX : ∀ (w w' : World) (args : Array Value), w.heap = w'.heap → X w args → X w' args)
    (own : ownKnob C.prog.godebug = none) (started : os.Started) (noInit : C.prog.inits.idxOf? f = none) (hfn : C.prog.funcs[f]? = some fn)
    (witness : ∃ (w : World) (tape : Tape) (i : Input), w.os = os ∧ (w.forCall tape i).Shaped C.prog ∧ i.vars = [] ∧ Input.okWide C.prog (w.forCall tape i) .any w.heap.size f i ∧
      ((s.pre enc C.prog fn conds apart (w.forCall tape i).memory i.args ∧ X (w.forCall tape i).memory i.args) ∧ sizedMet enc C.prog fn (OpenSpec.ofChange s) apart (w.forCall tape i).memory i.args) ∧ a.holds C.prog (lone (Frame.enter C.prog f i.args .normal) [] (w.forCall tape i)))
    (contract : ∀ (W : World) (base : Nat) (args : Array Value) (ds gs : List (DataW H)) (before : List MemPlace),
      (∀ (j : Nat) t v, fn.params[j]? = some t → args[j]? = some v → Value.okWide C.prog W .any base t v) →
      DataW.Whole enc C.prog fn.params.toList s.vars apart W args.toList ds gs before →
      conds.all (PathCond.test C.prog ⟨fn.params.toList, ds, s.plain.varTypes C.prog, gs⟩) = true →
      (DataW.weightsEach C.prog (fn.params.toList ++ s.plain.varTypes C.prog) (ds ++ gs)).all (· ≤ reachBytes) = true → X W args → W.ShapedOpen C.prog →
      a.holds C.prog (lone (Frame.enter C.prog f args .normal) [] W) →
      Calls C.prog f args W fun e W' => ∃ v, e = .returned v ∧ s.post enc C.prog fn apart fresh handsOn again W args v W') :
    ReturnsInHanded a C os f .any (fun w args => (s.pre enc C.prog fn conds apart w args ∧ X w args) ∧ sizedMet enc C.prog fn (OpenSpec.ofChange s) apart w args) (s.post enc C.prog fn apart fresh handsOn again) := by
  refine returnsInHanded_of_calls own started noInit witness ?_
  intro w tape i _ hsh _ hok hpre hholds
  obtain ⟨_, _, _, fn', hfn', _, _, _, _, hval⟩ := hok
  have e : fn' = fn := Option.some.inj (hfn'.symm.trans hfn)
  subst e
  obtain ⟨⟨⟨ds, gs, before, hw, hc⟩, hx⟩, hz⟩ := hpre
  have hw' := DataW.Whole.of_heap (w' := w.forCall tape i) (by rfl) hw
  refine (contract (w.forCall tape i) w.heap.size i.args ds gs before hval hw' hc (hz.weights hw) (hX _ _ _ (by rfl) hx) hsh hholds).mono fun e W' ⟨v, he, hp⟩ => ?_
  subst he
  exact ChangeSpec.post_blind hp
theorem laidMet_tail {P : Program} {x : String × DataW Unit} {rest : List (String × DataW Unit)} {W : World} (h : laidMet P (x :: rest) W) : laidMet P rest W := by
  obtain ⟨ps, ⟨g, t, cs, fuel, p, q, h1, h2, h3, h4, h5, rfl⟩, hnd, hm⟩ := h
  exact ⟨q, h5, (List.nodup_append.1 hnd).2.1, fun b off hb => hm b off (List.mem_append_right _ hb)⟩
end Go
namespace Go.Proofs.YtjmnhooenampkaaGreatDoor
open Go Go.ChangeShapes Go.WideShapes Go.RowKit Go.Bv
set_option maxRecDepth 100000
theorem hEt : Tryz.prog.globalNamed "errors.errorType" = some 4 := by kernel_rfl
theorem hRt : (Tryz.prog.cutTypes.find? (·.1 == "internal/reflectlite.rtype")).map (·.2) = some 155 := by kernel_rfl
theorem hRow : ((List.range Tryz.prog.types.size).filter fun t => Tryz.prog.rowNamed t [101, 114, 114, 111, 114]) = [45] := by kernel_rfl
theorem et_of_h {W : World} (h : laidMetH Tryz.prog [("errors.errorType", Rows.laid_errors_errorType)] W) : EtD 8 45 155 W := by
  have h' : laidMet Tryz.prog [] W ∧ handlesMet Tryz.prog [("errors.errorType", Rows.laid_errors_errorType)] W := h
  obtain ⟨name, u, ty, e1, e2, e3, e4, e5⟩ := h'.2 _ (List.mem_singleton.2 rfl)
  have en : name = [101, 114, 114, 111, 114] := (Option.some.inj e1).symm
  subst en
  obtain rfl := Option.some.inj (hRt.symm.trans e2)
  have hm : ty ∈ (List.range Tryz.prog.types.size).filter fun t => Tryz.prog.rowNamed t [101, 114, 114, 111, 114] := List.mem_filter.2 ⟨List.mem_range.2 e3, e4⟩
  rw [hRow] at hm
  obtain rfl := List.mem_singleton.1 hm
  have hh : typeHandle Tryz.prog 45 = .pointer (some ⟨8, 45, none⟩) := by kernel_rfl
  rw [hh] at e5
  have hc : W.cell? ⟨4, 0, none⟩ = some (.iface 155 (.agg #[.pointer (some ⟨8, 45, none⟩)])) := by simpa using World.var?_cell hEt e5 0
  refine ⟨?_, hc⟩
  rcases Nat.lt_or_ge 4 W.heap.size with h | h
  · exact h
  · exfalso
    unfold World.cell? at hc
    simp only [show W.heap[4]? = none from Array.getElem?_eq_none h] at hc
    cases hc
abbrev gcLD : List (String × DataW Unit) := [("unicode/utf8.acceptRanges", Rows.laid_unicode_utf8_acceptRanges), ("errors.errorType", Rows.laid_errors_errorType), ("astragal/gcode.errShort", Rows.laid_astragal_gcode_errShort), ("astragal/gcode.errLong", Rows.laid_astragal_gcode_errLong), ("astragal/gcode.errForm", Rows.laid_astragal_gcode_errForm), ("astragal/gcode.errKind", Rows.laid_astragal_gcode_errKind), ("unicode/utf8.first", Rows.laid_unicode_utf8_first)]
abbrev senLD : List (String × DataW Unit) := [("unicode/utf8.acceptRanges", Rows.laid_unicode_utf8_acceptRanges), ("astragal/gcode.errShort", Rows.laid_astragal_gcode_errShort), ("astragal/gcode.errLong", Rows.laid_astragal_gcode_errLong), ("astragal/gcode.errForm", Rows.laid_astragal_gcode_errForm), ("astragal/gcode.errKind", Rows.laid_astragal_gcode_errKind), ("unicode/utf8.first", Rows.laid_unicode_utf8_first)]
theorem gc_split {W : World} (h : laidMetH Tryz.prog gcLD W) : laidMet Tryz.prog senLD W ∧ laidMetH Tryz.prog [("errors.errorType", Rows.laid_errors_errorType)] W := by
  have h' : laidMet Tryz.prog senLD W ∧ handlesMet Tryz.prog [("errors.errorType", Rows.laid_errors_errorType)] W := h
  exact ⟨h'.1, ⟨laidMet_nil _ _, h'.2⟩⟩
theorem et_of_laid {W : World} (h : laidMetH Tryz.prog gcLD W) : EtD 8 45 155 W := et_of_h (gc_split h).2
theorem sStar : "*" ++ "errors.errorString" = "*errors.errorString" := by decide
theorem sOut (u : TypeId) (h : Tryz.prog.typeName? 3 u = some "*errors.errorString") : u = 240 :=
  typeName_ptr_named (nm := "errors.errorString") (by rw [sStar]; kernel_rfl) (by kernel_rfl) (by decide) u (by rw [sStar]; exact h)
theorem sen_of {W : World} (h : laidMet Tryz.prog senLD W) : ∃ S F L K, SenD S F L K W := by
  have gS : Tryz.prog.globalNamed "astragal/gcode.errShort" = some 0 := by kernel_rfl
  have gF : Tryz.prog.globalNamed "astragal/gcode.errForm" = some 1 := by kernel_rfl
  have gL : Tryz.prog.globalNamed "astragal/gcode.errLong" = some 2 := by kernel_rfl
  have gK : Tryz.prog.globalNamed "astragal/gcode.errKind" = some 3 := by kernel_rfl
  obtain ⟨S, L, F, K, _, _, _, _, _, _, _, _, vS, vL, vF, vK, bS, bL, bF, bK, n1, n2, n3, n4, n5, n6⟩ := laid_sentinels4 (tp := 240) (te := 261) (ts := 9) (laidMet_tail h) gS (by kernel_rfl) gL (by kernel_rfl) gF (by kernel_rfl) gK (by kernel_rfl) Tryz.underlying45 sOut Tryz.underlying240 Tryz.underlying261 rfl rfl Tryz.underlying9 (by kernel_rfl) (by kernel_rfl)
  exact ⟨S, F, L, K, by simpa using World.var?_cell gS vS 0, by simpa using World.var?_cell gF vF 0, by simpa using World.var?_cell gL vL 0, by simpa using World.var?_cell gK vK 0, ⟨_, _, bS⟩, ⟨_, _, bF⟩, ⟨_, _, bL⟩, ⟨_, _, bK⟩, n2, n1, n3, n4.symm, n6, n5⟩
theorem sen_of_laid {W : World} (h : laidMetH Tryz.prog gcLD W) : ∃ S F L K, SenD S F L K W := sen_of (gc_split h).1
/-- a world that meets the condition -/
noncomputable def laidWorldX (os : Os) : World :=
  let w0 := World.doorLaid Tryz.prog 102 os
  World.layVars Tryz.prog { w0 with heap := w0.heap.modify 4 fun
      | .cells _ t frozen => .cells #[.iface 155 (.agg #[.pointer (some ⟨8, 45, none⟩)])] t frozen
      | o => o } [("unicode/utf8.first", Rows.laid_unicode_utf8_first)]
theorem laidWorldX_met (os : Os) (args : Array Value) : laidMetH Tryz.prog gcLD ((laidWorldX os).forCall (fun _ _ => 0) ⟨#[], args, []⟩).memory :=
  laidMetH_of_parts (laidMet_of_run' 8 (by kernel_rfl) (by kernel_rfl)) (by kernel_rfl)
end Go.Proofs.YtjmnhooenampkaaGreatDoor
