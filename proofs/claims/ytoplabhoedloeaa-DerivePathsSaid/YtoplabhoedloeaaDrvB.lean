/- Layer 45: Child. -/
import Derived.Test.YtoplabhoedloeaaDrvH
import Derived.Test.YtoplabhoedloeaaDrvA
import Derived.Test.YtoplabhoedloeaaPutA
import Derived.ArgAppend
import Derived.Laws.IdiomStrings
import Derived.Deep.RegionHeld3
namespace Go.Drv
open Go Go.Bv Go.RowKit
set_option linter.unusedVariables false
/-- the bytes of a text, as words of 8 bits -/
def wds (l : List UInt8) : List (BitVec 8) := l.map UInt8.toBitVec
theorem wds_len (l : List UInt8) : (wds l).length = l.length := by unfold wds; simp
/-- one byte more on a slice that lies in a block of its own -/
theorem app1 {P : Program} (t ty e : TypeId) (i : TypeInfo) (ht : P.underlying t = some (.slice e)) (hi : P.info? e = some i) (hz : i.zero = some (.int .u8 0)) (hsize : i.size = 1) (hby : i.bytes = 1)
    (W w : World) (g n cap : Nat) (fz : Nat × Nat) (cur : Array Value) (l : List (BitVec 8)) (hg : w.heap[g]? = some (.cells cur e fz)) (hW : New W w) (hgW : W.heap.size ≤ g) (hcs : cur.size = cap) (hnc : n ≤ cap) (hl : l.length = n) (hn : n ≤ 140737488355327) (hfz : cap ≤ fz.1 ∨ fz.2 = 0) (hcm : cap ≤ maxLen)
    (hc : ∀ j, j < n → cur[j]? = some (.int .u8 (W8 (l.getD j 0)))) (ad : Addr) (c : Nat) (x : BitVec 8) (hx : w.cell? (ad.add 0) = some (.int .u8 (W8 x))) :
    ∃ a' cap' w', (Builtin.append_ #[t, t] ty #[.slice (some ⟨g, 0, none⟩) n cap, .slice (some ad) 1 c]).run P w = .ok (.slice a' (n + 1 : Nat) cap') w' ∧ BRow w' a' (n + 1) cap' (l ++ [x]) ∧ New W w' := by
  have hnews : ∀ (j : Nat) u, [Value.int .u8 (W8 x)][j]? = some u → w.cell? (ad.add j) = some u := by
    intro j u hj
    cases j with
    | zero => simp at hj; subst hj; exact hx
    | succ k => simp at hj
  by_cases hr : n + 1 ≤ cap
  · have h1 := run_append_room_cells (P := P) w t ty e i ht hi g 0 n cap ad 1 c [.int .u8 (W8 x)] (by rw [hsize]; rfl) hnews (by intro u hu; simp at hu; subst hu; rfl) hr
      (by
        intro j hj
        have hj0 : j = 0 := by simpa using hj
        subst hj0
        rw [hsize]
        unfold World.cell?
        simp only [hg]
        simp
        omega)
      (by
        intro j hj
        have hj0 : j = 0 := by simpa using hj
        subst hj0
        rw [hsize]
        unfold World.frozen?
        simp only [hg]
        simp
        omega)
    have hset : w.setCells g (0 + n * i.size) [.int .u8 (W8 x)] = w.setCell ⟨g, n, none⟩ (.int .u8 (W8 x)) := by
      rw [hsize, Nat.zero_add, Nat.mul_one]
      rfl
    rw [hset] at h1
    have hb : (w.setCell ⟨g, n, none⟩ (.int .u8 (W8 x))).heap[g]? = some (.cells (cur.setIfInBounds n (.int .u8 (W8 x))) e fz) := by simp [World.setCell, Array.getElem?_modify, hg]
    refine ⟨_, _, _, h1, ?_, hW.setCell hgW _⟩
    exact {
      len_eq := by rw [List.length_append, hl]; rfl
      le := hr
      most := by omega
      room := by unfold maxLen at hcm; omega
      none := by intro e0; cases e0
      cell := by
        intro b off e0 j hj
        cases e0
        unfold World.cell?
        simp only [hb]
        rw [Nat.zero_add]
        by_cases hjn : j = n
        · subst hjn
          rw [List.getD_eq_getElem?_getD, List.getElem?_append_right (by omega), hl, Nat.sub_self]
          have hlt : j < cur.size := by omega
          simp [hlt]
        · have := hc j (by omega)
          rw [List.getD_eq_getElem?_getD, List.getElem?_append_left (by omega), ← List.getD_eq_getElem?_getD]
          have hne : n ≠ j := fun e1 => hjn e1.symm
          simp only [Array.getElem?_setIfInBounds]
          simp only [if_neg hne]
          simpa using this
      spot := by intro y e0 _; cases e0; rfl
      old := by intro y e0 _; cases e0; exact lt_of_block hb }
  · obtain ⟨v', w', r1, r2, r3⟩ := run_append_arg_grows (P := P) w t ty e i (.int .u8 0) 1 1 ht hi hz hsize hby rfl (by decide) ⟨g, 0, none⟩ n cap (l.map fun y => .int .u8 (W8 y)) (by simp [hl])
      (by
        intro j u hj
        rw [add_plain, Nat.zero_add]
        have hjn : j < n := by
          rcases Nat.lt_or_ge j l.length with h2 | h2
          · omega
          · rw [List.getElem?_map, List.getElem?_eq_none h2] at hj; cases hj
        have h2 := hc j hjn
        rw [List.getElem?_map, List.getElem?_eq_getElem (by omega)] at hj
        rw [List.getD_eq_getElem?_getD, List.getElem?_eq_getElem (by omega)] at h2
        unfold World.cell?
        simp only [hg]
        rw [← hj]
        simpa using h2)
      ad 1 c [.int .u8 (W8 x)] rfl hnews (by omega) (by unfold maxLen; omega) (by omega)
    have r2' : w'.ownsRow w.heap.size e 1 v' (n + 1) ((l ++ [x]).map fun y => .int .u8 (W8 y)) := by
      rw [List.map_append]; exact r2
    obtain ⟨a', cap', rfl, hrow⟩ := BRow.of_owns r2' (by omega)
    exact ⟨a', cap', w', r1, hrow, hW.grown r3⟩
/-- what a converted text is: a block of its own, which nothing of it is frozen -/
structure CB (w : World) (g n cap : Nat) (t : TypeId) (l : List (BitVec 8)) : Prop where
  blk : ∃ cur fz, w.heap[g]? = some (.cells cur t fz) ∧ cur.size = cap ∧ (cap ≤ fz.1 ∨ fz.2 = 0) ∧ ∀ j, j < n → cur[j]? = some (.int .u8 (W8 (l.getD j 0)))
  len : l.length = n
  le : n ≤ cap
  most : cap ≤ maxLen
theorem CB.stay {w w' : World} {g n cap : Nat} {t : TypeId} {l : List (BitVec 8)} (h : CB w g n cap t l) (hn : New w w') : CB w' g n cap t l := by
  obtain ⟨⟨cur, fz, hb, h1⟩, h2, h3, h4⟩ := h
  exact ⟨⟨cur, fz, (hn.block _ (lt_of_block hb)).trans hb, h1⟩, h2, h3, h4⟩
theorem CB.lt {w : World} {g n cap : Nat} {t : TypeId} {l : List (BitVec 8)} (h : CB w g n cap t l) : g < w.heap.size := by
  obtain ⟨⟨cur, fz, hb, h1⟩, h2, h3, h4⟩ := h
  exact lt_of_block hb
theorem CB.row {w : World} {g n cap : Nat} {t : TypeId} {l : List (BitVec 8)} (h : CB w g n cap t l) (hn : n ≤ 140737488355328) : BRow w (some ⟨g, 0, none⟩) n cap l := by
  obtain ⟨⟨cur, fz, hb, h1, h5, h6⟩, h2, h3, h4⟩ := h
  exact {
    len_eq := h2
    le := h3
    most := hn
    room := by unfold maxLen at h4; omega
    none := by intro e0; cases e0
    cell := by
      intro b off e0 j hj
      cases e0
      unfold World.cell?
      simp only [hb]
      rw [Nat.zero_add]
      have := h6 j hj
      simpa using this
    spot := by intro y e0 _; cases e0; rfl
    old := by intro y e0 _; cases e0; exact lt_of_block hb }
/-- a text turned into bytes -/
theorem CB.of_owns {w : World} {base n : Nat} {t : TypeId} {v : Value} {l : List (BitVec 8)} (h : w.ownsRow base t 1 v n (l.map fun x => .int .u8 (W8 x))) (h0 : 0 < n) :
    ∃ g cap, v = .slice (some ⟨g, 0, none⟩) n cap ∧ base ≤ g ∧ CB w g n cap t l := by
  obtain ⟨hl, h⟩ := h
  rw [List.length_map, Nat.mul_one] at hl
  rcases h with ⟨_, h1⟩ | ⟨g, cap, cur, rfl, hb, hc, hle, hm, hs, ht⟩
  · omega
  · refine ⟨g, cap, rfl, hb, ⟨cur, (0, 0), hc, by omega, Or.inr rfl, ?_⟩, hl, hle, hm⟩
    intro j hj
    have e1 : (cur.toList.take (n * 1))[j]? = some (.int .u8 (W8 (l.getD j 0))) := by
      rw [ht, List.getElem?_map, List.getD_eq_getElem?_getD, List.getElem?_eq_getElem (by omega)]; rfl
    rw [List.getElem?_take, if_pos (by omega)] at e1
    simpa using e1
theorem conv_cb {P : Program} (src dst e : TypeId) (l : List UInt8) (w : World) (hs : P.underlying src = some .string) (hd : P.underlying dst = some (.slice e)) (he : P.underlying e = some (.int .u8)) (hl : l.length ≤ maxLen) :
    ∃ cap w', (convert src dst (.string (bs l))).run P w = .ok (.slice (some ⟨w.heap.size, 0, none⟩) l.length cap) w' ∧ CB w' w.heap.size l.length cap e (wds l) ∧ New w w' := by
  have h := run_bytes_of_string (P := P) w src dst e (bs l) hs hd he
  rw [bs_size] at h
  obtain ⟨cap, hcap⟩ : ∃ c, grownCap w l.length 0 e = c := ⟨_, rfl⟩
  have hge : l.length ≤ cap := by rw [← hcap]; exact grownCap_ge w _ _ _
  have hle : cap ≤ maxLen := by rw [← hcap]; exact grownCap_le_maxLen w _ _ _ hl
  rw [hcap] at h
  have hsz : (bytesRow (bs l) cap).size = cap := by
    unfold bytesRow
    rw [Array.size_append, Array.size_map, Array.size_replicate, bs_size]
    show l.toArray.size + _ = _
    rw [List.size_toArray]
    omega
  refine ⟨cap, _, h, ⟨⟨_, _, heap_alloc_new w.drew _, hsz, Or.inl (by rw [hsz]; exact Nat.le_refl _), ?_⟩, wds_len l, hge, hle⟩, (New.refl w).drew.alloc _⟩
  intro j hj
  unfold bytesRow
  have hj2 : j < ((bs l).data.map fun b => Value.int .u8 (b.toNat : Int)).size := by
    rw [Array.size_map]
    show j < l.toArray.size
    rw [List.size_toArray]; exact hj
  rw [Array.getElem?_append_left hj2, Array.getElem?_map]
  show Option.map _ (l.toArray[j]?) = _
  rw [List.getElem?_toArray, List.getElem?_eq_getElem hj]
  unfold wds
  rw [List.getD_eq_getElem?_getD, List.getElem?_map, List.getElem?_eq_getElem hj]
  rfl
theorem step_conv {P : Program} {ops : Array Oper} {o : Oper} {a : Act} {w : World} {K : Act → World → Prop} {Q : Exit → Act → World → Prop} {E : Prop} (hgd : o.guard = none) (src dst e : TypeId) (x : Operand) (ho : o.op = .convert src dst x) (l : List UInt8) (hx : a.eval x = .string (bs l)) (hs : P.underlying src = some .string) (hd : P.underlying dst = some (.slice e)) (he : P.underlying e = some (.int .u8)) (hl : l.length ≤ maxLen)
    (h : ∀ g cap w', w.heap.size ≤ g → CB w' g l.length cap e (wds l) → New w w' → K (a.put o.dst (.slice (some ⟨g, 0, none⟩) l.length cap)) w') :
    if Region.wanted o (yielded ops a.tmps) = true then Oper.wp P o a w K Q else E := by
  have hw : Region.wanted o (yielded ops a.tmps) = true := by simp [Region.wanted, hgd]
  rw [if_pos hw]
  obtain ⟨cap, w', hrun, h1, h2⟩ := conv_cb (P := P) src dst e l w hs hd he hl
  have hk := h _ _ _ (Nat.le_refl _) h1 h2
  clear h h1 h2 hw
  unfold Oper.wp
  generalize a.eval = ρ at hx ⊢
  simp [execOp, ho, hx, hrun, Result.andThen, go_sem]
  exact hk
theorem step_app1 {P : Program} {ops : Array Oper} {o : Oper} {a : Act} {w : World} {K : Act → World → Prop} {Q : Exit → Act → World → Prop} {E : Prop} (hgd : o.guard = none) (s x : Operand) (t e : TypeId) (ho : o.op = .call { callee := .builtin .append, args := #[s, x], argTypes := #[t, t] }) (i : TypeInfo) (ht : P.underlying t = some (.slice e)) (hi : P.info? e = some i) (hz : i.zero = some (.int .u8 0)) (hsize : i.size = 1) (hby : i.bytes = 1)
    (W : World) (g n cap : Nat) (l : List (BitVec 8)) (hs : a.eval s = .slice (some ⟨g, 0, none⟩) n cap) (hn : n ≤ 140737488355327) (ad : Addr) (c : Nat) (y : BitVec 8) (hx : a.eval x = .slice (some ad) 1 c) (hcb : CB w g n cap e l) (hW : New W w) (hgW : W.heap.size ≤ g) (hc : w.cell? (ad.add 0) = some (.int .u8 (W8 y)))
    (h : ∀ a' cap' w', BRow w' a' (n + 1) cap' (l ++ [y]) → New W w' → K (a.put o.dst (.slice a' (n + 1 : Nat) cap')) w') :
    if Region.wanted o (yielded ops a.tmps) = true then Oper.wp P o a w K Q else E := by
  have hw : Region.wanted o (yielded ops a.tmps) = true := by simp [Region.wanted, hgd]
  rw [if_pos hw]
  obtain ⟨⟨cur, fz, hb, h1, h5, h6⟩, h2, h3, h4⟩ := hcb
  obtain ⟨a', cap', w', hrun, r1, r2⟩ := app1 (P := P) t o.type e i ht hi hz hsize hby W w g n cap fz cur l hb hW hgW h1 h3 h2 hn h5 h4 h6 ad c y hc
  unfold Oper.wp
  simp [execOp, ho, resolve, invoke, builtin, hs, hx, hrun, Result.andThen]
  exact h _ _ _ r1 r2
/-- the conversion, as functions of the world -/
theorem conv_fun {P : Program} (src dst e : TypeId) (l : List UInt8) (hs : P.underlying src = some .string) (hd : P.underlying dst = some (.slice e)) (he : P.underlying e = some (.int .u8)) (hl : l.length ≤ maxLen) :
    ∃ (C : World → Nat) (F : World → World), ∀ w, (convert src dst (.string (bs l))).run P w = .ok (.slice (some ⟨w.heap.size, 0, none⟩) l.length (C w)) (F w) ∧ CB (F w) w.heap.size l.length (C w) e (wds l) ∧ New w (F w) :=
  ⟨fun w => Classical.choose (conv_cb (P := P) src dst e l w hs hd he hl), fun w => Classical.choose (Classical.choose_spec (conv_cb (P := P) src dst e l w hs hd he hl)), fun w => Classical.choose_spec (Classical.choose_spec (conv_cb (P := P) src dst e l w hs hd he hl))⟩
theorem CB.size_eq {w : World} {g g' n cap : Nat} {t : TypeId} {l : List (BitVec 8)} (h : CB w g n cap t l) (e : g = g') : CB w g' n cap t l := e ▸ h
theorem drew_size (w : World) (o : Obj) : (w.alloc o).drew.heap.size = w.heap.size + 1 := by
  show (w.alloc o).heap.size = _
  simp
theorem lit_now (w : World) (v : Value) (t : TypeId) : (w.alloc (.cells #[v] t)).cell? ((⟨w.heap.size, 0, none⟩ : Addr).add 0) = some v := by
  rw [add_plain, World.cell?_alloc_new]; rfl
theorem lit_kept {w w' : World} {v : Value} {t : TypeId} (h : New (w.alloc (.cells #[v] t)) w') : w'.cell? ((⟨w.heap.size, 0, none⟩ : Addr).add 0) = some v := by
  rw [add_plain, h.cell (a := ⟨w.heap.size, 0 + 0, none⟩) (by simp), World.cell?_alloc_new]; rfl
theorem ret_two {w w0 w' : World} (h : New w w0) (hn : New w0 w') : New w w' := h.trans hn
end Go.Drv
namespace Go.Proofs.Ytoplabhoedloeaa
open Go Go.RowKit Go.Bv Go.Drv
set_option linter.unusedVariables false
def sd8 (k : BitVec 64 × BitVec 64) : Sd34 := ⟨8, (2, 4, true), Or.inr (Or.inr ⟨rfl, rfl⟩), k⟩
/-- the key that a row of bytes derives -/
def kidB (k : BitVec 64 × BitVec 64) (m : List (BitVec 8)) : BitVec 64 × BitVec 64 := ((hash34 (sd8 k).kd k m).2, (hash34 (sd8 k).kd k m).1)
def kid (k : BitVec 64 × BitVec 64) (l : List UInt8) : BitVec 64 × BitVec 64 := kidB k (wds l ++ [108#8])
def kidE (k : BitVec 64 × BitVec 64) (l : List UInt8) : BitVec 64 × BitVec 64 := if labE l = 0 then kid k l else (0#64, 0#64)
theorem one_q (k : BitVec 64 × BitVec 64) (a : Option Addr) (n c : Nat) (m : List (BitVec 8)) (w : World) (h : BRow w a n c m) :
    Calls Try.prog 19 #[.int .i64 8, .agg #[.int .u64 (W64 k.1), .int .u64 (W64 k.2)], .slice a n c] w fun e w' => e = .returned (.agg #[.int .u64 (W64 (kidB k m).1), .int .u64 (W64 (kidB k m).2)]) ∧ New w w' := by
  have h1 := hone_34 (sd8 k) a n c m w h
  have e1 : (sd8 k).kind = 8 := rfl
  have e2 : (sd8 k).key = k := rfl
  rw [e1, e2] at h1
  unfold kidB
  generalize hash34 (sd8 k).kd k m = z at *
  exact h1
theorem oner_q (k : BitVec 64 × BitVec 64) (a : Option Addr) (n c : Nat) (m : List (BitVec 8)) (w : World) (h : BRow w a n c m) :
    Calls Try.prog 22 #[.int .i64 8, .agg #[.int .u64 (W64 k.1), .int .u64 (W64 k.2)], .slice a n c] w fun e w' => e = .returned (.agg #[.int .u64 (W64 (kidB k m).1), .int .u64 (W64 (kidB k m).2)]) ∧ New w w' := by
  have h1 := hash_ref34 (sd8 k) a n c m w h
  have e1 : (sd8 k).kind = 8 := rfl
  have e2 : (sd8 k).key = k := rfl
  rw [e1, e2] at h1
  unfold kidB
  generalize hash34 (sd8 k).kd k m = z at *
  exact h1
end Go.Proofs.Ytoplabhoedloeaa
