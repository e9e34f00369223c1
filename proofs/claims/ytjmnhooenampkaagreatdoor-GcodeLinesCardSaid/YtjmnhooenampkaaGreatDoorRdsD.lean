/- errors.Is over gcode's errors; gcode.number. -/
import Derived.Test.YtjmnhooenampkaaGreatDoorRdsC
namespace Go.Proofs.YtjmnhooenampkaaGreatDoor
open Go.RowKit Go.Extern.Stop Go.Stop Go.Extern Go.Bv
set_option linter.unusedVariables false
set_option maxRecDepth 100000
set_option maxHeartbeats 1000000 in
theorem ris_sen (s b : Addr) (w : World) (hs : SenOK s w) (hb : SenOK b w) : Calls Tryz.prog 66 #[senV s, senV b, .bool true] w fun e w' => e = .returned (.bool (decide (s = b))) ∧ New w w' := by
  by_cases h : s = b
  · subst h
    rw [decide_eq_true rfl]
    have h0 := ra_eqS s
    clear hs hb
    go_enter Tryz.func66, Tryz.ntmps66
    go_wp2_with fail
    refine wp_loop_rounds 1 ?_
    rw [rounds_succ]
    go_wp2
    go_ret
    exact ⟨rfl, New.refl _⟩
  · rw [decide_eq_false h]
    obtain ⟨ca, ta, ha⟩ := hs
    obtain ⟨cb, tb, hb⟩ := hb
    have h0 := ra_eqD h ha hb
    have h1 := ra_isE
    have h2 := ra_unE
    have h3 := ra_unsE
    clear ha hb h
    go_enter Tryz.func66, Tryz.ntmps66
    go_wp2_with fail
    refine wp_loop_rounds 1 ?_
    rw [rounds_succ]
    go_wp2
    go_ret
    exact ⟨rfl, New.refl _⟩
set_option maxHeartbeats 1000000 in
theorem ris_in (p : ByteArray) (s b : Addr) (w : World) (hs : SenOK s w) (hb : SenOK b w) : Calls Tryz.prog 66 #[inV p (senV s), senV b, .bool true] w fun e w' => e = .returned (.bool (decide (s = b))) ∧ New w w' := by
  have HS := Lib.hid hs
  have HB := Lib.hid hb
  have i0 := ra_eqIE
  have nI := ra_isI
  have nU := ra_unI
  have mU := ra_mUn
  by_cases h : s = b
  · subst h
    rw [decide_eq_true rfl]
    have h0 := ra_eqS s
    clear hs hb
    go_enter Tryz.func66, Tryz.ntmps66
    go_wp2_with fail
    refine wp_loop_rounds 2 ?_
    rw [rounds_succ]
    go_wp2_with fail
    refine (un_in _ _ _ _).mono ?_
    rintro e w1 ⟨rfl, hn1⟩
    go_wp2_with fail
    try rw [rounds_succ]
    go_wp2
    go_ret
    exact ⟨rfl, hn1⟩
  · rw [decide_eq_false h]
    have HH := Lib.hid h
    have h1 := ra_isE
    have h2 := ra_unE
    have h3 := ra_unsE
    clear hs hb h
    go_enter Tryz.func66, Tryz.ntmps66
    go_wp2_with fail
    refine wp_loop_rounds 2 ?_
    rw [rounds_succ]
    go_wp2_with fail
    refine (un_in _ _ _ _).mono ?_
    rintro e w1 ⟨rfl, hn1⟩
    obtain ⟨ca, ta, ha⟩ := HS.out.stay hn1
    obtain ⟨cb, tb, hb⟩ := HB.out.stay hn1
    have h0 := ra_eqD HH.out ha hb
    have HN := Lib.hid hn1
    clear ha hb hn1
    go_wp2_with fail
    try rw [rounds_succ]
    go_wp2
    go_ret
    exact ⟨rfl, HN.out⟩
set_option maxHeartbeats 1000000 in
/-- errors.Is by what its loop does -/
theorem ris_of (t : TypeId) (v : Value) (b : Addr) (x : Bool) (w : World) (H : Calls Tryz.prog 66 #[.iface t v, senV b, .bool true] w fun e w' => e = .returned (.bool x) ∧ New w w') :
    Calls Tryz.prog 46 #[.iface t v, senV b] w fun e w' => e = .returned (.bool x) ∧ New w w' := by
  have h7 := @run_callFunc_extern Tryz.prog 65 _ ReflectliteType.typeOf Tryz.func65 (by kernel_rfl) (by kernel_rfl) (by kernel_rfl) (by kernel_rfl)
  have h11 := @run_callFunc_extern Tryz.prog 231 _ (ReflectliteType.method (fun t => do Rtype.noPackHeld "Comparable" t; (fun a => Value.bool a.comparable) <$> typeInfo t)) Tryz.func231 (by kernel_rfl) (by kernel_rfl) (by kernel_rfl) (by kernel_rfl)
  have tO := ra_typeOfE
  have mA := ra_mComp
  have aA := ra_compE
  have HI := Lib.hid H
  clear H
  go_enter Tryz.func46, Tryz.ntmps46
  go_wp2_with fail
  refine HI.out.mono ?_
  rintro e w' ⟨rfl, hn⟩
  go_wp2
  go_ret
  exact ⟨rfl, hn⟩
/-- the sentinels' variables: short, form, long, kind -/
structure SenD (S F L K : Addr) (w : World) : Prop where
  s : w.cell? ⟨0, 0, none⟩ = some (senV S)
  f : w.cell? ⟨1, 0, none⟩ = some (senV F)
  l : w.cell? ⟨2, 0, none⟩ = some (senV L)
  k : w.cell? ⟨3, 0, none⟩ = some (senV K)
  os : SenOK S w
  of : SenOK F w
  ol : SenOK L w
  ok : SenOK K w
  ne : S ≠ F ∧ S ≠ L ∧ S ≠ K ∧ F ≠ L ∧ F ≠ K ∧ L ≠ K
theorem SenD.stay {S F L K : Addr} {w w' : World} (h : SenD S F L K w) (hn : New w w') : SenD S F L K w' where
  s := (hn.cell (World.block_lt_of_cell? _ _ h.s)).trans h.s
  f := (hn.cell (World.block_lt_of_cell? _ _ h.f)).trans h.f
  l := (hn.cell (World.block_lt_of_cell? _ _ h.l)).trans h.l
  k := (hn.cell (World.block_lt_of_cell? _ _ h.k)).trans h.k
  os := h.os.stay hn
  of := h.of.stay hn
  ol := h.ol.stay hn
  ok := h.ok.stay hn
  ne := h.ne
/-- the number of a sentinel -/
def senN (S F L K a : Addr) : Int := if a = S then 3 else if a = L then 4 else if a = K then 6 else 5
set_option maxHeartbeats 1000000 in
theorem numE_ref (p : ByteArray) (c : Int) (w : World) (hg : EtD 8 45 155 w) : Calls Tryz.prog 30 #[inV p (refV c)] w fun e w' => e = .returned (.int .i64 c) ∧ New w w' := by
  have hb := heap_alloc_new w (.cells #[.int .i64 0] 69)
  have hn0 := (New.refl w).alloc (.cells #[.int .i64 0] 69)
  have HA := Lib.hid (ras_of 66 (.agg #[.string p, refV c]) (fun ev W w' => ev = .returned (.bool true) ∧ Hit w.heap.size c W w') w.heap.size (.int .i64 0) (w.alloc (.cells #[.int .i64 0] 69)) (fun a W ha ht => (ras_inref p c w.heap.size a (.int .i64 0) W ha ht).mono fun ev w' h => ⟨⟨true, h.1⟩, h⟩) (hg.stay hn0) hb)
  have HN0 := Lib.hid hn0
  clear hb hn0 hg
  go_enter Tryz.func30, Tryz.ntmps30
  go_wp2_with fail
  refine HA.out.mono ?_
  rintro e w' ⟨W1, hn, rfl, hit, hw⟩
  have c0 := cell_of_row _ _ 0 _ _ _ hit
  have HW := Lib.hid (hw w (HN0.out.trans hn) (Nat.le_refl _))
  clear hit hw hn
  go_wp2
  go_ret
  exact ⟨rfl, HW.out⟩
set_option maxHeartbeats 2000000 in
theorem numE_any (t : TypeId) (v : Value) (S F L K a : Addr) (w : World) (hg : EtD 8 45 155 w) (hs : SenD S F L K w) (ha : a = S ∨ a = F ∨ a = L ∨ a = K)
    (HAS : ∀ (q b : Nat) (o0 : Value) (W : World), W.heap[b]? = some (.cells #[.pointer (some ⟨q, 0, none⟩)] 93 (0, 0)) → W.heap[q]? = some (.cells #[o0] 69 (0, 0)) → Calls Tryz.prog 64 #[.iface t v, .iface 93 (.pointer (some ⟨q, 0, none⟩)), .agg #[.pointer (some ⟨8, 93, none⟩), .pointer (some ⟨b, 0, none⟩), .int .u64 150], .iface 155 (.agg #[.pointer (some ⟨8, 69, none⟩)])] W fun ev w' => ev = .returned (.bool false) ∧ New W w')
    (HIS : ∀ (b : Addr) (W : World), SenOK a W → SenOK b W → Calls Tryz.prog 66 #[.iface t v, senV b, .bool true] W fun e w' => e = .returned (.bool (decide (a = b))) ∧ New W w') :
    Calls Tryz.prog 30 #[.iface t v] w fun e w' => e = .returned (.int .i64 (senN S F L K a)) ∧ New w w' := by
  have hb := heap_alloc_new w (.cells #[.int .i64 0] 69)
  have hn0 := (New.refl w).alloc (.cells #[.int .i64 0] 69)
  have HA := Lib.hid (ras_of t v (fun ev W w' => ev = .returned (.bool false) ∧ New W w') w.heap.size (.int .i64 0) (w.alloc (.cells #[.int .i64 0] 69)) (fun b W hb ht => (HAS w.heap.size b (.int .i64 0) W hb ht).mono fun ev w' h => ⟨⟨false, h.1⟩, h⟩) (hg.stay hn0) hb)
  have HN0 := Lib.hid hn0
  have HS := Lib.hid hs
  have hoa : SenOK a w := by rcases ha with rfl | rfl | rfl | rfl <;> first | exact hs.os | exact hs.of | exact hs.ol | exact hs.ok
  have HI : Hid (∀ (b : Addr) (w' : World), New w w' → SenOK b w → Calls Tryz.prog 46 #[.iface t v, senV b] w' fun e w2 => e = .returned (.bool (decide (a = b))) ∧ New w' w2) := Lib.hid (fun b w' hn hb => ris_of t v b _ w' (HIS b w' (hoa.stay hn) (hb.stay hn)))
  clear hb hn0 hg hs hoa HAS HIS ha
  have HE : Hid (∀ x : Bool, True) := Lib.hid (fun _ => trivial)
  generalize hE1 : decide (a = S) = x1 at *
  generalize hE2 : decide (a = L) = x2 at *
  generalize hE3 : decide (a = K) = x3 at *
  have hN : senN S F L K a = if x1 then 3 else if x2 then 4 else if x3 then 6 else 5 := by
    unfold senN
    rw [← hE1, ← hE2, ← hE3]
    simp
  rw [hN]
  have H1 := Lib.hid (HI.out S)
  have H2 := Lib.hid (HI.out L)
  have H3 := Lib.hid (HI.out K)
  rw [hE1] at H1
  rw [hE2] at H2
  rw [hE3] at H3
  clear hN hE1 hE2 hE3 HI HE
  go_enter Tryz.func30, Tryz.ntmps30
  go_wp2_with fail
  refine HA.out.mono ?_
  rintro e w1 ⟨W1, hn, rfl, hn1⟩
  have HN1 := Lib.hid ((HN0.out.trans hn).trans hn1)
  have g0 := (HS.out.stay HN1.out).s
  clear hn hn1 HA
  go_wp2_with fail
  refine (H1.out _ HN1.out HS.out.os).mono ?_
  rintro e w2 ⟨rfl, hn⟩
  have HN2 := Lib.hid (HN1.out.trans hn)
  clear hn g0
  cases x1
  · have g2 := (HS.out.stay HN2.out).l
    go_wp2_with fail
    refine (H2.out _ HN2.out HS.out.ol).mono ?_
    rintro e w3 ⟨rfl, hn⟩
    have HN3 := Lib.hid (HN2.out.trans hn)
    clear hn g2
    cases x2
    · have g3 := (HS.out.stay HN3.out).k
      go_wp2_with fail
      refine (H3.out _ HN3.out HS.out.ok).mono ?_
      rintro e w4 ⟨rfl, hn⟩
      have HN4 := Lib.hid (HN3.out.trans hn)
      clear hn g3
      cases x3
      · go_wp2
        go_ret
        exact ⟨rfl, HN4.out⟩
      · go_wp2
        go_ret
        exact ⟨rfl, HN4.out⟩
    · go_wp2
      go_ret
      exact ⟨rfl, HN3.out⟩
  · go_wp2
    go_ret
    exact ⟨rfl, HN2.out⟩
theorem numE_in (p : ByteArray) (S F L K a : Addr) (w : World) (hg : EtD 8 45 155 w) (hs : SenD S F L K w) (ha : a = S ∨ a = F ∨ a = L ∨ a = K) : Calls Tryz.prog 30 #[inV p (senV a)] w fun e w' => e = .returned (.int .i64 (senN S F L K a)) ∧ New w w' :=
  numE_any 66 (.agg #[.string p, senV a]) S F L K a w hg hs ha (fun q b o0 W h1 h2 => ras_insen p a q b o0 W h1 h2) (fun b W h1 h2 => ris_in p a b W h1 h2)
theorem numE_sen (S F L K a : Addr) (w : World) (hg : EtD 8 45 155 w) (hs : SenD S F L K w) (ha : a = S ∨ a = F ∨ a = L ∨ a = K) : Calls Tryz.prog 30 #[senV a] w fun e w' => e = .returned (.int .i64 (senN S F L K a)) ∧ New w w' :=
  numE_any 240 (.pointer (some a)) S F L K a w hg hs ha (fun q b o0 W h1 h2 => ras_sen a q b W) (fun b W h1 h2 => ris_sen a b W h1 h2)
end Go.Proofs.YtjmnhooenampkaaGreatDoor
