/- All generators: Words of any state. · All generators: the document's Words. -/
import Derived.Test.YtadcihkpnpemeaaGreatGsU
import Derived.Test.YtadcihkpnpemeaaGreatCrw
import Derived.Test.YtadcihkpnpemeaaGreatGsW
namespace Go.Proofs.YtadcihkpnpemeaaGreat
open Go.RowKit Go.Bv
set_option linter.unusedVariables false
set_option maxRecDepth 100000
/-- the state behind so many words; the words -/
def wsK (k : Int) (q : W4) : Nat → W4
  | 0 => q
  | i + 1 => nxK k (wsK k q i)
def wdK (k : Int) (q : W4) (i : Nat) : BitVec 64 := ouK k (wsK k q i)
theorem chk_ws {k : Int} {q : W4} (h : chkK k q = 0) : ∀ i, chkK k (wsK k q i) = 0
  | 0 => h
  | i + 1 => chk_nx (chk_ws h i)
/-- what the loop keeps -/
structure WsI (w w5 wr : World) (ob m : Nat) (k : Int) (q : W4) (i : Nat) : Prop where
  new : New w wr
  box : wr.heap[w.heap.size]? = some (.cells (stc k (wsK k q i)) 25 (0, 0))
  res : wr.heap[w.heap.size + 1]? = some (.cells zst 25 (0, 0))
  row : CR wr ob m (fun j => if j < i then wdK k q j else 0#64)
  le : w5.heap.size ≤ wr.heap.size
  old : ∀ j, w.heap.size + 2 ≤ j → j < w5.heap.size → wr.heap[j]? = w5.heap[j]?
theorem WsI.start {w w5 : World} {cs : Array Value} {m : Nat} {k : Int} {q : W4} (hn : New w w5) (hb : w5.heap[w.heap.size]? = some (.cells (stc k q) 25 (0, 0))) (hr : w5.heap[w.heap.size + 1]? = some (.cells zst 25 (0, 0))) (hz : cs.size = m ∧ ∀ j, j < m → cs[j]? = some (.int .u64 (W64 0#64))) :
    WsI w w5 (w5.alloc (.cells cs 22)) w5.heap.size m k q 0 := by
  have n1 := (New.refl w5).alloc (.cells cs 22)
  refine ⟨hn.alloc _, (n1.block _ (lt_of_block hb)).trans hb, (n1.block _ (lt_of_block hr)).trans hr, ⟨cs, heap_alloc_new _ _, by omega, fun j hj => ?_⟩, n1.le, fun j _ hj => n1.block j hj⟩
  rw [hz.2 j hj]
  show _ = some (Value.int .u64 (W64 (if j < 0 then wdK k q j else 0#64)))
  rw [if_neg (by omega)]
abbrev put6 (w : World) (ob i b : Nat) (x : BitVec 64) (p : W4) : World := ((((w.setCell ⟨ob, i, none⟩ (.int .u64 (W64 x))).setCell ⟨b, 1, none⟩ (.int .u64 (W64 p.a))).setCell ⟨b, 2, none⟩ (.int .u64 (W64 p.b))).setCell ⟨b, 3, none⟩ (.int .u64 (W64 p.c))).setCell ⟨b, 4, none⟩ (.int .u64 (W64 p.d))
theorem WsI.step {w w5 wr w9 : World} {ob m : Nat} {k : Int} {q : W4} {i : Nat} (h : WsI w w5 wr ob m k q i) (hn : New wr w9) (hi : i < m) (ho : w5.heap.size ≤ ob) (h5 : w.heap.size + 2 ≤ w5.heap.size) :
    WsI w w5 (put6 w9 ob i w.heap.size (wdK k q i) (nxK k (wsK k q i))) ob m k q (i + 1) := by
  have hb := (hn.block _ (lt_of_block h.box)).trans h.box
  have hr := (hn.block _ (lt_of_block h.res)).trans h.res
  have hc := h.row.stay hn
  have hle := hn.le
  have e1 : w.heap.size ≠ ob := by omega
  have e2 : w.heap.size + 1 ≠ ob := by omega
  have e3 : w.heap.size + 1 ≠ w.heap.size := by omega
  refine ⟨?_, ?_, ?_, ?_, ?_, ?_⟩
  · exact (((((h.new.trans hn).setCell (by show w.heap.size ≤ ob; omega) _).setCell (by show w.heap.size ≤ w.heap.size; omega) _).setCell (by show w.heap.size ≤ w.heap.size; omega) _).setCell (by show w.heap.size ≤ w.heap.size; omega) _).setCell (by show w.heap.size ≤ w.heap.size; omega) _
  · have b0 : (w9.setCell ⟨ob, i, none⟩ (.int .u64 (W64 (wdK k q i)))).heap[w.heap.size]? = some (.cells (stc k (wsK k q i)) 25 (0, 0)) := (heap_setCell_other _ _ _ _ e1).trans hb
    have b1 := heap_setCell_same _ w.heap.size 1 _ _ (.int .u64 (W64 (nxK k (wsK k q i)).a)) b0
    have b2 := heap_setCell_same _ w.heap.size 2 _ _ (.int .u64 (W64 (nxK k (wsK k q i)).b)) b1
    have b3 := heap_setCell_same _ w.heap.size 3 _ _ (.int .u64 (W64 (nxK k (wsK k q i)).c)) b2
    exact heap_setCell_same _ w.heap.size 4 _ _ (.int .u64 (W64 (nxK k (wsK k q i)).d)) b3
  · exact (heap_setCell_other _ _ _ _ e3).trans ((heap_setCell_other _ _ _ _ e3).trans ((heap_setCell_other _ _ _ _ e3).trans ((heap_setCell_other _ _ _ _ e3).trans ((heap_setCell_other _ _ _ _ e2).trans hr))))
  · refine CR.keep (CR.keep (CR.keep (CR.keep (hc.put hi (wdK k q i) ?_ fun j hj hji => ?_) e1.symm _) e1.symm _) e1.symm _) e1.symm _
    · show (if i < i + 1 then wdK k q i else 0#64) = _
      rw [if_pos (by omega)]
    · show (if j < i + 1 then wdK k q j else 0#64) = if j < i then wdK k q j else 0#64
      by_cases hj2 : j < i
      · rw [if_pos hj2, if_pos (by omega)]
      · rw [if_neg hj2, if_neg (by omega)]
  · have := h.le
    simp; omega
  · intro j h1 h2
    have f1 : j ≠ w.heap.size := by omega
    have f2 : j ≠ ob := by omega
    exact (heap_setCell_other _ _ _ _ f1).trans ((heap_setCell_other _ _ _ _ f1).trans ((heap_setCell_other _ _ _ _ f1).trans ((heap_setCell_other _ _ _ _ f1).trans ((heap_setCell_other _ _ _ _ f2).trans ((hn.block j (Nat.lt_of_lt_of_le h2 h.le)).trans (h.old j h1 h2))))))
end Go.Proofs.YtadcihkpnpemeaaGreat
namespace Go.Proofs.YtadcihkpnpemeaaGreat
open Go.RowKit Go.Bv
set_option linter.unusedVariables false
set_option maxRecDepth 100000
theorem owg_far {w : World} {base n : Nat} {e : TypeId} {v : Value} {xs : List Value} (h : w.ownsRow base e 1 v n xs) {a : Addr} (hv : v.ownBlock ≠ some a.block) (u : Value) : (w.setCell a u).ownsRow base e 1 v n xs := by
  obtain ⟨hl, h | ⟨g', cap', cur, rfl, hb, hc, h2⟩⟩ := h
  · exact ⟨hl, Or.inl h⟩
  · exact ⟨hl, Or.inr ⟨g', cap', cur, rfl, hb, (heap_setCell_other _ _ _ _ (fun e => hv (by rw [← e]; rfl))).trans hc, h2⟩⟩
theorem owg_new {w w' : World} {base : Nat} {e : TypeId} {size : Nat} {v : Value} {n : Nat} {xs : List Value} (h : w.ownsRow base e size v n xs) (hn : New w w') : w'.ownsRow base e size v n xs := by
  refine ⟨h.1, ?_⟩
  rcases h.2 with h2 | ⟨g, cap, cur, hv, hb, hg, rest⟩
  · exact .inl h2
  · exact .inr ⟨g, cap, cur, hv, hb, (hn.block _ (lt_of_block hg)).trans hg, rest⟩
theorem owg_base {w : World} {b b' : Nat} {e : TypeId} {size : Nat} {v : Value} {n : Nat} {xs : List Value} (h : w.ownsRow b e size v n xs) (hb : b' ≤ b) : w.ownsRow b' e size v n xs := by
  refine ⟨h.1, ?_⟩
  rcases h.2 with h2 | ⟨g, cap, cur, hv, hg, rest⟩
  · exact .inl h2
  · exact .inr ⟨g, cap, cur, hv, by omega, rest⟩
def wlK (k : Int) (q : W4) (m : Nat) : List (BitVec 64) := (List.range m).map (wdK k q)
theorem wlK_succ (k : Int) (q : W4) (m : Nat) : wlK k q (m + 1) = wlK k q m ++ [wdK k q m] := by simp [wlK, List.range_succ]
theorem new_cellsY (w : World) (cs : Array Value) (t : TypeId) : ∀ j u, cs.toList[j]? = some u → (w.alloc (.cells cs t)).cell? ((⟨w.heap.size, 0, none⟩ : Addr).add j) = some u := by
  intro j u h
  rw [add_plain, Nat.zero_add, World.cell?_alloc_new]
  simpa using h
/-- what the document's loop keeps -/
structure RwI (w wr : World) (v : Value) (k : Int) (q : W4) (i : Nat) : Prop where
  new : New w wr
  box : wr.heap[w.heap.size]? = some (.cells (stc k (wsK k q i)) 25 (0, 0))
  res : wr.heap[w.heap.size + 1]? = some (.cells zst 25 (0, 0))
  row : wr.ownsRow (w.heap.size + 2) 22 1 v i ((wlK k q i).map fun y => .int .u64 (W64 y))
abbrev put4s (w : World) (b : Nat) (k : Int) (p : W4) : World := put5 w b (.int .i64 k) (.int .u64 (W64 p.a)) (.int .u64 (W64 p.b)) (.int .u64 (W64 p.c)) (.int .u64 (W64 p.d))
set_option maxHeartbeats 4000000 in
theorem rwords_of (k : Int) (q : W4) (hk : chkK k q = 0) (n : Int) (m : Nat) (hnm : (n < 0 ∧ m = 0) ∨ n = (m : Int)) (hm : m ≤ 4096) (w : World) :
    Calls Tryz.prog 8 #[.agg (stc k q), .int .i64 n] w fun e w' => ∃ a c, e = .returned (.tuple #[.slice a m c, .agg (stc k (wsK k q m))]) ∧ QRow w' a m c (wlK k q m) ∧ (∀ x, a = some x → w.heap.size ≤ x.block) ∧ New w w' := by
  obtain ⟨i0, hi, hz0, hz1, hz2⟩ := info_parts info_cr
  have hz := two_blocksG w (.cells (stc k q) 25) (.cells zst 25)
  have HST : Hid (RwI w ((w.alloc (.cells (stc k q) 25)).alloc (.cells zst 25)) (.slice none 0 0) k q 0) := Lib.hid ⟨hz.2.2, hz.1, hz.2.1, World.ownsRow_nil _ _ _ 1⟩
  have HNM := Lib.hid hnm
  clear hz hnm
  go_enter Tryz.func8, Tryz.ntmps8
  go_wp2_with fail
  go_loopw [6, 7] (fun v iv wr => ∃ i : Nat, i ≤ m ∧ iv = .int .i64 (i : Int) ∧ Hid (RwI w wr v k q i)) (fun _ iv _ => m - (intOf iv).toNat)
  case atStart => exact ⟨0, Nat.zero_le _, rfl, HST⟩
  case round =>
    obtain ⟨i, hi2, rfl, HI⟩ := hrel
    have hI := HI.out
    by_cases hlt : i < m
    · have hln : (i : Int) < n := by rcases HNM.out with h | h <;> omega
      have b0 := cell_of_row _ _ 0 _ _ _ hI.box
      have b1 := cell_of_row _ _ 1 _ _ _ hI.box
      have b2 := cell_of_row _ _ 2 _ _ _ hI.box
      have b3 := cell_of_row _ _ 3 _ _ _ hI.box
      have b4 := cell_of_row _ _ 4 _ _ _ hI.box
      have HCALL := Lib.hid (fun w => rnx_any (chk_ws hk i) w)
      have HBX := Lib.hid hI.box
      have HRES := Lib.hid hI.res
      have HROW := Lib.hid hI.row
      have HNEW := Lib.hid hI.new
      have HWS : Hid (wsK k q (i + 1) = nxK k (wsK k q i)) := Lib.hid rfl
      have HWL := Lib.hid (wlK_succ k q i)
      obtain ⟨qi, hqi⟩ : ∃ z, wsK k q i = z := ⟨_, rfl⟩
      obtain ⟨qn, hqn⟩ : ∃ z, nxK k (wsK k q i) = z := ⟨_, rfl⟩
      obtain ⟨xo, hxo⟩ : ∃ z, wdK k q i = z := ⟨_, rfl⟩
      have hxo2 : ouK k (wsK k q i) = xo := hxo
      rw [hxo2, hqn, hqi] at HCALL
      rw [hqn] at HWS
      rw [hxo] at HWL
      rw [hqi] at b0 b1 b2 b3 b4 HBX
      clear hI hqi hqn hxo hxo2
      go_wp2_with fail
      refine (HCALL.out _).mono ?_
      rintro e w9 ⟨rfl, hn9⟩
      have n10 := hn9.alloc (.cells (stc k qn) 25)
      have hq := heap_alloc_new w9 (.cells (stc k qn) 25)
      have hown := owg_new HROW.out n10
      have hlt9 : w.heap.size + 1 < w9.heap.size := Nat.lt_of_lt_of_le (lt_of_block HRES.out) hn9.le
      have HQ := Lib.hid hq
      have HN10 := Lib.hid n10
      have HLT := Lib.hid hlt9
      have HLE := Lib.hid hn9.le
      clear hq n10 hn9 b0 b1 b2 b3 b4 hlt9
      go_wp2_with (at_builtin; refine wpList_append_own _ rfl _ _ 32 rfl (w.heap.size + 2) 22 i0 (.int .u64 0) 1 8 Tryz.underlying32 hi hz0 hz1 hz2 rfl (by decide) _ i _ rfl (hown.alloc _) ⟨w9.heap.size + 1, 0, none⟩ 1 1 [.int .u64 (W64 xo)] rfl rfl ?c1 ?c2 ?c3 ?c4 ?c5 ?_)
      case c1 => have h := new_cellsY (w9.alloc (.cells (stc k qn) 25)) #[.int .u64 (W64 xo)] 22; rw [show (w9.alloc (.cells (stc k qn) 25)).heap.size = w9.heap.size + 1 from by simp] at h; exact h
      case c2 => intro u hu; simp at hu; subst hu; rfl
      case c3 => unfold maxLen; omega
      case c4 => omega
      case c5 => simp; have := HLT.out; omega
      intro v' w1 how hgr _
      have how2 : w1.ownsRow (w.heap.size + 2) 22 1 v' (i + 1) ((wlK k q (i + 1)).map fun y => .int .u64 (W64 y)) := by
        rw [HWL.out, List.map_append]; exact how
      have HOW := Lib.hid how2
      have hbase := own_base hown
      have n11 := (New.refl (w9.alloc (.cells (stc k qn) 25))).alloc (.cells #[.int .u64 (W64 xo)] 22)
      have hbx1 : w1.heap[w.heap.size]? = some (.cells (stc k qi) 25 (0, 0)) := by
        rw [hgr.block _ (by simp; have := HLT.out; omega) (fun e => by have := hbase _ e.symm; omega), n11.block _ (by simp; have := HLT.out; omega), HN10.out.block _ (lt_of_block HBX.out)]
        exact HBX.out
      have hrs1 : w1.heap[w.heap.size + 1]? = some (.cells zst 25 (0, 0)) := by
        rw [hgr.block _ (by simp; have := HLT.out; omega) (fun e => by have := hbase _ e.symm; omega), n11.block _ (by simp; have := HLT.out; omega), HN10.out.block _ (lt_of_block HRES.out)]
        exact HRES.out
      have hq1 : w1.heap[w9.heap.size]? = some (.cells (stc k qn) 25 (0, 0)) := by
        rw [hgr.block _ (by simp; omega) (fun e => by have h1 := HROW.out.lt _ e.symm; have := HLE.out; omega), n11.block _ (by simp)]
        exact HQ.out
      have hn1 : New w w1 := ((HNEW.out.trans HN10.out).alloc _).grown' hgr (fun kk e => by have := hbase kk e; omega)
      have q0 := cell_of_row _ _ 0 _ _ _ hq1
      have q1 := cell_of_row _ _ 1 _ _ _ hq1
      have q2 := cell_of_row _ _ 2 _ _ _ hq1
      have q3 := cell_of_row _ _ 3 _ _ _ hq1
      have q4 := cell_of_row _ _ 4 _ _ _ hq1
      have e0 := cell_of_row _ _ 0 _ _ _ hbx1
      have e1 := cell_of_row _ _ 1 _ _ _ hbx1
      have e2 := cell_of_row _ _ 2 _ _ _ hbx1
      have e3 := cell_of_row _ _ 3 _ _ _ hbx1
      have e4 := cell_of_row _ _ 4 _ _ _ hbx1
      have ef := fun j => frozen_of_row _ _ j _ _ hbx1
      have hown1 := own_base how2
      have HRI : Hid (RwI w (put4s w1 w.heap.size k qn) v' k q (i + 1)) := Lib.hid (by
        have hp := put5_facts (.int .i64 k) (.int .u64 (W64 qn.a)) (.int .u64 (W64 qn.b)) (.int .u64 (W64 qn.c)) (.int .u64 (W64 qn.d)) hbx1
        have hf : ∀ a : Addr, a.block = w.heap.size → v'.ownBlock ≠ some a.block := fun a ha e => by have := hown1 _ e; omega
        refine ⟨hp.2.2.1 _ hn1 (Nat.le_refl _), ?_, (hp.2.1 _ (by omega)).trans hrs1, owg_far (owg_far (owg_far (owg_far (owg_far how2 (hf _ rfl) _) (hf _ rfl) _) (hf _ rfl) _) (hf _ rfl) _) (hf _ rfl) _⟩
        rw [HWS.out]; exact hp.1)
      clear how how2 hgr hbx1 hrs1 hq1 hn1 hown hown1 hbase n11
      go_wp2
      exact ⟨⟨i + 1, by omega, by go_num, HRI⟩, by simp [intOf]; omega⟩
    · obtain rfl : i = m := by omega
      have hln : ¬ (i : Int) < n := by rcases HNM.out with h | h <;> omega
      obtain ⟨a, c, rfl, hrow⟩ := QRow.of_owns hI.row (by omega)
      have b0 := cell_of_row _ _ 0 _ _ _ hI.box
      have b1 := cell_of_row _ _ 1 _ _ _ hI.box
      have b2 := cell_of_row _ _ 2 _ _ _ hI.box
      have b3 := cell_of_row _ _ 3 _ _ _ hI.box
      have b4 := cell_of_row _ _ 4 _ _ _ hI.box
      have d0 := cell_of_row _ _ 0 _ _ _ hI.res
      have d1 := cell_of_row _ _ 1 _ _ _ hI.res
      have d2 := cell_of_row _ _ 2 _ _ _ hI.res
      have d3 := cell_of_row _ _ 3 _ _ _ hI.res
      have d4 := cell_of_row _ _ 4 _ _ _ hI.res
      have df := fun j => frozen_of_row _ _ j _ _ hI.res
      have HRES := Lib.hid hI.res
      have HNEW := Lib.hid hI.new
      have hob := own_base hI.row
      have HROW : Hid (∀ w' : World, (w.heap.size + 2 ≤ w'.heap.size ∧ wr.heap.size ≤ w'.heap.size ∧ ∀ j, w.heap.size + 2 ≤ j → j < wr.heap.size → w'.heap[j]? = wr.heap[j]?) → QRow w' a i c (wlK k q i)) := Lib.hid (fun w' h => by
        have ho : w'.ownsRow (w.heap.size + 2) 22 1 (.slice a i c) i ((wlK k q i).map fun y => .int .u64 (W64 y)) := by
          refine ⟨hI.row.1, ?_⟩
          rcases hI.row.2 with h2 | ⟨g, cap, cur, hv, hb, hg, rest⟩
          · exact .inl h2
          · exact .inr ⟨g, cap, cur, hv, hb, (h.2.2 g hb (lt_of_block hg)).trans hg, rest⟩
        obtain ⟨a2, c2, e, hr⟩ := QRow.of_owns ho (by omega)
        cases e
        exact hr)
      have HOB2 : Hid (∀ x, a = some x → w.heap.size ≤ x.block) := Lib.hid (fun x e => by subst e; have := hob _ rfl; omega)
      have HLR : Hid (w.heap.size + 2 ≤ wr.heap.size) := Lib.hid (by have := lt_of_block hI.res; omega)
      obtain ⟨qi, hqi⟩ : ∃ z, wsK k q i = z := ⟨_, rfl⟩
      rw [hqi] at b0 b1 b2 b3 b4
      have HQI := Lib.hid hqi
      clear hI hqi hlt hrow hob
      go_wp2_with fail
      go_region
      go_wp2
      have hp := put5_facts (.int .i64 k) (.int .u64 (W64 qi.a)) (.int .u64 (W64 qi.b)) (.int .u64 (W64 qi.c)) (.int .u64 (W64 qi.d)) HRES.out
      refine bodyPost_ret (by simp [results, Tryz.results8, go_sem, d0, d1, d2, d3, d4]; try rfl) rfl ?_
      rw [HQI.out]
      refine ⟨a, c, rfl, HROW.out _ ⟨?_, ?_, ?_⟩, HOB2.out, (hp.2.2.1 _ HNEW.out (by omega)).drew⟩
      · show w.heap.size + 2 ≤ (put5 wr _ _ _ _ _ _).heap.size
        rw [hp.2.2.2]; exact HLR.out
      · show wr.heap.size ≤ (put5 wr _ _ _ _ _ _).heap.size
        rw [hp.2.2.2]; exact Nat.le_refl _
      · intro j h1 h2
        exact hp.2.1 j (by omega)
end Go.Proofs.YtadcihkpnpemeaaGreat
