/- Layer 48: a table of n places: New, made, search, Put, find, Set, Drop. -/
import Derived.Test.YtfmibpgggmajdaaHnoA
namespace Go.Proofs.Ytfmibpgggmajdaa
open Go Go.RowKit Go.Bv Go.Hnd Go.Ali
set_option linter.unusedVariables false
set_option maxRecDepth 100000
/-- a table in the memory -/
structure TM (w : World) (tb b n : Nat) (P : Ps) : Prop where
  tbl : w.heap[tb]? = some (.cells #[.slice (some ⟨b, 0, none⟩) n n] 49 (0, 0))
  row : ∃ cs : Array Value, w.heap[b]? = some (.cells cs 55 (0, 0)) ∧ cs.size = n * 3 ∧ ∀ i, i < n → cs[i * 3]? = some (.int .i64 (P.th i)) ∧ cs[i * 3 + 1]? = some (.bool (P.tk i)) ∧ cs[i * 3 + 2]? = some (.int .u64 (W64 (P.sd i)))
  ne : tb ≠ b
theorem TM.lt {w : World} {tb b n : Nat} {P : Ps} (h : TM w tb b n P) : tb < w.heap.size ∧ b < w.heap.size := by
  obtain ⟨cs, h1, _⟩ := h.row
  exact ⟨lt_of_block h.tbl, lt_of_block h1⟩
theorem TM.stay {w w' : World} {tb b n : Nat} {P : Ps} (h : TM w tb b n P) (hn : New w w') : TM w' tb b n P := by
  obtain ⟨cs, h1, h2⟩ := h.row
  exact ⟨(hn.block _ (lt_of_block h.tbl)).trans h.tbl, ⟨cs, (hn.block _ (lt_of_block h1)).trans h1, h2⟩, h.ne⟩
theorem TM.get {w : World} {tb b n : Nat} {P : Ps} (h : TM w tb b n P) {i : Nat} (hi : i < n) : w.cell? ⟨b, i * 3, none⟩ = some (.int .i64 (P.th i)) ∧ w.cell? ⟨b, i * 3 + 1, none⟩ = some (.bool (P.tk i)) ∧ w.cell? ⟨b, i * 3 + 2, none⟩ = some (.int .u64 (W64 (P.sd i))) := by
  obtain ⟨cs, h1, h2, h3⟩ := h.row
  obtain ⟨a, b', c⟩ := h3 i hi
  exact ⟨(cell_of_row _ _ _ _ _ _ h1).trans a, (cell_of_row _ _ _ _ _ _ h1).trans b', (cell_of_row _ _ _ _ _ _ h1).trans c⟩
theorem TM.free {w : World} {tb b n : Nat} {P : Ps} (h : TM w tb b n P) (j : Nat) : w.frozen? ⟨b, j, none⟩ = false := by
  obtain ⟨cs, h1, _⟩ := h.row
  exact frozen_of_row _ _ _ _ _ h1
/-- nothing but the block b has changed -/
structure On (b : Nat) (w v : World) : Prop where
  size : w.heap.size ≤ v.heap.size
  block : ∀ k, k < w.heap.size → k ≠ b → v.heap[k]? = w.heap[k]?
  new : ∀ W, New W w → W.heap.size ≤ b → New W v
theorem On.of_new {b : Nat} {w v : World} (h : New w v) : On b w v := ⟨h.le, fun k hk _ => h.block k hk, fun _ h2 _ => h2.trans h⟩
theorem On.trans {b : Nat} {u w v : World} (h : On b u w) (k : On b w v) : On b u v :=
  ⟨Nat.le_trans h.size k.size, fun i hi hb => (k.block i (Nat.lt_of_lt_of_le hi h.size) hb).trans (h.block i hi hb), fun W h2 hb => k.new W (h.new W h2 hb) hb⟩
theorem On.setCell {b : Nat} {u w : World} (h : On b u w) (i : Nat) (x : Value) : On b u (w.setCell ⟨b, i, none⟩ x) :=
  ⟨by rw [show (w.setCell ⟨b, i, none⟩ x).heap.size = w.heap.size by simp [World.setCell]]; exact h.size,
   fun k hk hb => (heap_setCell_other _ _ _ _ hb).trans (h.block k hk hb), fun W h2 hb => (h.new W h2 hb).setCell (p := ⟨b, i, none⟩) hb _⟩
/-- one place changed -/
def putP (P : Ps) (i : Nat) (x : Int) (t : Bool) (s : BitVec 64) : Ps := ⟨upd P.th i x, upd P.tk i t, upd P.sd i s⟩
theorem TM.put {w : World} {tb b n : Nat} {P : Ps} (h : TM w tb b n P) {i : Nat} (hi : i < n) (x : Int) (t : Bool) (s : BitVec 64) : TM (((w.setCell ⟨b, i * 3, none⟩ (.int .i64 x)).setCell ⟨b, i * 3 + 1, none⟩ (.bool t)).setCell ⟨b, i * 3 + 2, none⟩ (.int .u64 (W64 s))) tb b n (putP P i x t s) := by
  obtain ⟨cs, h1, h2, h3⟩ := h.row
  refine ⟨?_, ⟨((cs.setIfInBounds (i * 3) (.int .i64 x)).setIfInBounds (i * 3 + 1) (.bool t)).setIfInBounds (i * 3 + 2) (.int .u64 (W64 s)), heap_setCell_same _ b (i * 3 + 2) _ _ _ (heap_setCell_same _ b (i * 3 + 1) _ _ _ (heap_setCell_same _ b (i * 3) _ _ _ h1)), by simp [h2], fun j hj => ?_⟩, h.ne⟩
  · rw [heap_setCell_other _ _ _ _ h.ne, heap_setCell_other _ _ _ _ h.ne, heap_setCell_other _ _ _ _ h.ne]; exact h.tbl
  · obtain ⟨a, b', c⟩ := h3 j hj
    unfold putP
    by_cases e : j = i
    · subst e
      simp only [upd_same, Array.getElem?_setIfInBounds]
      refine ⟨?_, ?_, ?_⟩
      · rw [if_neg (by omega), if_neg (by omega), if_pos trivial, if_pos (by omega)]
      · rw [if_neg (by omega), if_pos trivial, if_pos (by simp; omega)]
      · rw [if_pos trivial, if_pos (by simp; omega)]
    · simp only [upd_other _ _ e, Array.getElem?_setIfInBounds]
      refine ⟨?_, ?_, ?_⟩
      · rw [if_neg (by omega), if_neg (by omega), if_neg (by omega)]; exact a
      · rw [if_neg (by omega), if_neg (by omega), if_neg (by omega)]; exact b'
      · rw [if_neg (by omega), if_neg (by omega), if_neg (by omega)]; exact c
theorem TM.put0 {w : World} {tb b n : Nat} {P : Ps} (h : TM w tb b n P) {i : Nat} (hi : i < n) (x : Int) : TM (w.setCell ⟨b, i * 3, none⟩ (.int .i64 x)) tb b n (putP P i x (P.tk i) (P.sd i)) := by
  obtain ⟨cs, h1, h2, h3⟩ := h.row
  refine ⟨?_, ⟨cs.setIfInBounds (i * 3) (.int .i64 x), heap_setCell_same _ b (i * 3) _ _ _ h1, by simp [h2], fun j hj => ?_⟩, h.ne⟩
  · rw [heap_setCell_other _ _ _ _ h.ne]; exact h.tbl
  · obtain ⟨a, b', c⟩ := h3 j hj
    unfold putP
    by_cases e : j = i
    · subst e
      simp only [upd_same, Array.getElem?_setIfInBounds]
      refine ⟨?_, ?_, ?_⟩
      · rw [if_pos trivial, if_pos (by omega)]
      · rw [if_neg (by omega)]; exact b'
      · rw [if_neg (by omega)]; exact c
    · simp only [upd_other _ _ e, Array.getElem?_setIfInBounds]
      refine ⟨?_, ?_, ?_⟩
      · rw [if_neg (by omega)]; exact a
      · rw [if_neg (by omega)]; exact b'
      · rw [if_neg (by omega)]; exact c
/-- a table's first places -/
def p0 : Ps := ⟨fun _ => 0, fun _ => false, fun _ => 0#64⟩
theorem info_place : (Try.prog.info? 55).map (fun i => (i.zero, i.size, i.bytes)) = some (some (.agg #[.int .i64 0, .bool false, .int .u64 0]), 3, 24) := by kernel_rfl
theorem info3 {T : TypeId} {z : Value} {s b : Nat} (h : (Try.prog.info? T).map (fun i => (i.zero, i.size, i.bytes)) = some (some z, s, b)) : ∃ i0, Try.prog.info? T = some i0 ∧ i0.zero = some z ∧ i0.size = s ∧ i0.bytes = b := by
  cases hi : Try.prog.info? T with
  | none => rw [hi] at h; cases h
  | some i0 =>
    rw [hi] at h
    simp only [Option.map_some, Option.some.injEq, Prod.mk.injEq] at h
    exact ⟨i0, rfl, h.1, h.2.1, h.2.2⟩
theorem make_place (n : Nat) (hn : n ≤ 1000000) (w : World) : (Instr.makeSlice 47 (.int .i64 (n : Int)) (.int .i64 (n : Int))).run Try.prog w = .ok (.slice (some ⟨w.heap.size, 0, none⟩) n n) (w.alloc (.cells (madeCells #[.int .i64 0, .bool false, .int .u64 0] (n * 3)) 55)) := by
  obtain ⟨i0, hi, hz0, hz1, hz2⟩ := info3 info_place
  have hr := run_make (P := Try.prog) w 47 55 i0 (.agg #[.int .i64 0, .bool false, .int .u64 0]) Try.underlying47 hi hz0 .i64 .i64 (n : Int) (n : Int) (by omega) (Int.le_refl _) (by rw [hz2]; omega) (by omega)
  rw [hz1] at hr
  exact hr
theorem made3 (n : Nat) : (madeCells #[Value.int .i64 0, .bool false, .int .u64 0] (n * 3)).size = n * 3 ∧ ∀ i, i < n → (madeCells #[Value.int .i64 0, .bool false, .int .u64 0] (n * 3))[i * 3]? = some (.int .i64 0) ∧ (madeCells #[Value.int .i64 0, .bool false, .int .u64 0] (n * 3))[i * 3 + 1]? = some (.bool false) ∧ (madeCells #[Value.int .i64 0, .bool false, .int .u64 0] (n * 3))[i * 3 + 2]? = some (.int .u64 0) := by
  refine ⟨size_madeCells _ _, fun i hi => ⟨?_, ?_, ?_⟩⟩
  · have : i * 3 < n * 3 := by omega
    simp [madeCells, this, show i * 3 % 3 = 0 by omega]
  · have : i * 3 + 1 < n * 3 := by omega
    simp [madeCells, this, show (i * 3 + 1) % 3 = 1 by omega]
  · have : i * 3 + 2 < n * 3 := by omega
    simp [madeCells, this, show (i * 3 + 2) % 3 = 2 by omega]
/-- how many places a table has -/
def rmN (r : Int) : Nat := if r < 1 then 1 else if 16 < r then 16 else r.toNat
theorem rm_le (r : Int) : 0 < rmN r ∧ rmN r ≤ 16 := by
  unfold rmN
  by_cases h : r < 1
  · rw [if_pos h]; omega
  · rw [if_neg h]
    by_cases h2 : 16 < r
    · rw [if_pos h2]; omega
    · rw [if_neg h2]; omega
theorem rm_is (r : Int) : min (max r 1) 16 = (rmN r : Int) := by
  unfold rmN
  by_cases h : r < 1
  · rw [if_pos h]; omega
  · rw [if_neg h]
    by_cases h2 : 16 < r
    · rw [if_pos h2]; omega
    · rw [if_neg h2]; omega
theorem tm_made (w : World) (n : Nat) : TM ((w.alloc (.cells (madeCells #[.int .i64 0, .bool false, .int .u64 0] (n * 3)) 55)).alloc (.cells #[.slice (some ⟨w.heap.size, 0, none⟩) n n] 49)) (w.heap.size + 1) w.heap.size n p0 ∧ New w ((w.alloc (.cells (madeCells #[.int .i64 0, .bool false, .int .u64 0] (n * 3)) 55)).alloc (.cells #[.slice (some ⟨w.heap.size, 0, none⟩) n n] 49)) := by
  have e1 : (w.alloc (.cells (madeCells #[.int .i64 0, .bool false, .int .u64 0] (n * 3)) 55)).heap.size = w.heap.size + 1 := by simp
  obtain ⟨h1, h2⟩ := made3 n
  refine ⟨⟨by rw [← e1]; exact heap_alloc_new _ _, ⟨_, (((New.refl _).alloc _).block _ (by rw [e1]; omega)).trans (heap_alloc_new w _), h1, fun i hi => ?_⟩, by omega⟩, ((New.refl w).alloc _).alloc _⟩
  obtain ⟨a, b, c⟩ := h2 i hi
  refine ⟨a, b, ?_⟩
  rw [c]
  show some (Value.int .u64 0) = some (Value.int .u64 (W64 0#64))
  rw [W64_lit 0 (by omega)]; rfl
set_option maxHeartbeats 4000000 in
theorem new_any (r : Int) (w : World) : Calls Try.prog 7 #[.int .i64 r] w fun e w' => ∃ tb b, e = .returned (.pointer (some ⟨tb, 0, none⟩)) ∧ w.heap.size ≤ b ∧ w.heap.size ≤ tb ∧ TM w' tb b (rmN r) p0 ∧ New w w' := by
  have HT := Lib.hid (tm_made w)
  rcases (show r < 1 ∨ (1 ≤ r ∧ 16 < r) ∨ (1 ≤ r ∧ r ≤ 16) by omega) with h | ⟨h, h2⟩ | ⟨h, h2⟩
  · have HR : Hid (rmN r = 1) := Lib.hid (by unfold rmN; rw [if_pos h])
    have hm : ∀ w : World, (Instr.makeSlice 47 (.int .i64 1) (.int .i64 1)).run Try.prog w = .ok (.slice (some ⟨w.heap.size, 0, none⟩) 1 1) (w.alloc (.cells (madeCells #[.int .i64 0, .bool false, .int .u64 0] (1 * 3)) 55)) := fun w => make_place 1 (by omega) w
    go_enter Try.func7, Try.ntmps7
    go_wp2
    go_ret
    rw [HR.out]
    exact ⟨_, _, rfl, Nat.le_refl _, Nat.le_succ _, (HT.out 1).1, (HT.out 1).2⟩
  · have HR : Hid (rmN r = 16) := Lib.hid (by unfold rmN; rw [if_neg (by omega), if_pos h2])
    have hm : ∀ w : World, (Instr.makeSlice 47 (.int .i64 16) (.int .i64 16)).run Try.prog w = .ok (.slice (some ⟨w.heap.size, 0, none⟩) 16 16) (w.alloc (.cells (madeCells #[.int .i64 0, .bool false, .int .u64 0] (16 * 3)) 55)) := fun w => make_place 16 (by omega) w
    go_enter Try.func7, Try.ntmps7
    go_wp2
    go_ret
    rw [HR.out]
    exact ⟨_, _, rfl, Nat.le_refl _, Nat.le_succ _, (HT.out 16).1, (HT.out 16).2⟩
  · obtain ⟨n, rfl⟩ : ∃ n : Nat, r = (n : Int) := ⟨r.toNat, by omega⟩
    have HR : Hid (rmN (n : Int) = n) := Lib.hid (by unfold rmN; rw [if_neg (by omega), if_neg (by omega)]; omega)
    have hm := make_place n (by omega)
    go_enter Try.func7, Try.ntmps7
    go_wp2
    go_ret
    rw [HR.out]
    exact ⟨_, _, rfl, Nat.le_refl _, Nat.le_succ _, (HT.out n).1, (HT.out n).2⟩
theorem made_any (tb b n : Nat) (hn : 0 < n) (P : Ps) (w : World) (h : TM w tb b n P) : Calls Try.prog 21 #[.pointer (some ⟨tb, 0, none⟩)] w fun e w' => e = .returned (.bool true) ∧ w' = w := by
  have q0 := cell_of_row _ _ 0 _ _ _ h.tbl
  have hn0 : (0 : Int) < (n : Int) := by omega
  clear h
  go_enter Try.func21, Try.ntmps21
  go_wp2
  go_ret
  exact ⟨rfl, rfl⟩
/-- where a place stands -/
def spV (b : Nat) : Option Nat → Value
  | none => .pointer none
  | some i => .pointer (some ⟨b, i * 3, none⟩)
set_option maxHeartbeats 4000000 in
theorem search_any (tb b n : Nat) (hn : n ≤ 1000) (P : Ps) (G : Nat) (caps : Array Value) (p : Nat → Bool) (w : World) (h : TM w tb b n P) (hG : ∀ (x y : Value) (w : World), (callFunc G (#[x, y] ++ caps)).run Try.prog w = .ok (.enter G (#[x, y] ++ caps)) w)
    (hs : ∀ i w', i < n → New w w' → Calls Try.prog G (#[.int .i64 (i : Int), .agg #[.int .i64 (P.th i), .bool (P.tk i), .int .u64 (W64 (P.sd i))]] ++ caps) w' fun e w'' => e = .returned (.bool (p i)) ∧ New w' w'') :
    Calls Try.prog 24 #[.pointer (some ⟨tb, 0, none⟩), .func (Fn.func G) #[] caps] w fun e w' => e = .returned (.tuple #[spV b (fnd p n), .int .i64 (((fnd p n).getD 0 : Nat) : Int)]) ∧ New w w' := by
  have HS := Lib.hid hs
  have HG := Lib.hid hG
  have HT := Lib.hid h
  have q0 := cell_of_row _ _ 0 _ _ _ h.tbl
  clear hs hG h
  go_enter Try.func24, Try.ntmps24
  go_wp2_with fail
  clear q0
  go_loopw [12] (fun iv wr => ∃ i : Nat, i ≤ n ∧ iv = .int .i64 (i : Int) ∧ Hid (New w wr) ∧ Hid (∀ j, j < i → p j = false)) (fun iv _ => n - (intOf iv).toNat)
  case atStart => exact ⟨0, Nat.zero_le _, rfl, Lib.hid (New.refl _), Lib.hid (fun j hj => absurd hj (by omega))⟩
  case round =>
    obtain ⟨i, hi, rfl, HI, HP⟩ := hrel
    by_cases hlt : (i : Int) < (n : Int)
    · have hi0 : (0 : Int) ≤ (i : Int) := by omega
      have hin : i < n := by omega
      have q0 := cell_of_row _ _ 0 _ _ _ (HT.out.stay HI.out).tbl
      obtain ⟨c0, c1, c2⟩ := (HT.out.stay HI.out).get hin
      have HC := Lib.hid (HS.out i _ hin HI.out)
      rcases hb : p i with _ | _
      · rw [hb] at HC
        have HP2 : Hid (∀ j, j < i + 1 → p j = false) := Lib.hid (fun j hj => by
          by_cases e : j = i
          · subst e; exact hb
          · exact HP.out j (by omega))
        clear hb
        go_wp2_with fail
        rw [HG.out, Oper.upon_enter]
        refine (HC.out).mono ?_
        rintro e w9 ⟨rfl, hI⟩
        have HI9 := Lib.hid (HI.out.trans hI)
        clear hI HC q0 c0 c1 c2
        go_wp2
        exact ⟨⟨i + 1, by omega, by go_num, HI9, HP2⟩, by simp [intOf]; omega⟩
      · rw [hb] at HC
        have HF := Lib.hid (fnd_at hin hb HP.out)
        clear hb
        go_wp2_with fail
        rw [HG.out, Oper.upon_enter]
        refine (HC.out).mono ?_
        rintro e w9 ⟨rfl, hI⟩
        have HI9 := Lib.hid (HI.out.trans hI)
        clear hI HC q0 c0 c1 c2
        have q0 := cell_of_row _ _ 0 _ _ _ (HT.out.stay HI9.out).tbl
        go_wp2
        go_ret2
        rw [HF.out]
        exact ⟨rfl, HI9.out⟩
    · obtain rfl : i = n := by omega
      have HF := Lib.hid (fnd_none.2 HP.out)
      go_wp2
      go_ret2
      rw [HF.out]
      exact ⟨rfl, HI.out⟩
end Go.Proofs.Ytfmibpgggmajdaa
