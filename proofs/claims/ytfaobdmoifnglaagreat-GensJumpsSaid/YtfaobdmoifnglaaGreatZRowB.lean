import Derived.Test.YtfaobdmoifnglaaGreatZRot
import Derived.Test.YtfaobdmoifnglaaGreatProg
import Derived.Deep.QuietTactic
import Derived.BigQuiet
section
/- Plain lemmas: slices of bools that are read, as a list. -/
namespace Go.Bv
open Go Go.RowKit
set_option linter.unusedVariables false
/-- a slice of bools that reads as l in the world w: its address, its length, its capacity -/
structure LRow (w : World) (a : Option Addr) (len cap : Nat) (l : List Bool) : Prop where
  len_eq : l.length = len
  le : len ≤ cap
  most : len ≤ 17592186044416
  room : cap ≤ 9223372036854775807
  none : a = none → len = 0 ∧ cap = 0
  cell : ∀ b off, a = some ⟨b, off, Option.none⟩ → ∀ i, i < len → w.cell? ⟨b, off + i, Option.none⟩ = some (.bool (l.getD i false))
  spot : ∀ x, a = some x → 0 < len → x.spot = Option.none
  old : ∀ x, a = some x → 0 < len → x.block < w.heap.size
theorem LRow.stay {w w' : World} {a : Option Addr} {len cap : Nat} {l : List Bool} (h : LRow w a len cap l) (hn : New w w') : LRow w' a len cap l where
  len_eq := h.len_eq
  le := h.le
  most := h.most
  room := h.room
  none := h.none
  cell := fun b off e i hi => by
    have hb := h.old _ e (by omega)
    rw [hn.cell (a := ⟨b, off + i, Option.none⟩) hb]; exact h.cell b off e i hi
  spot := h.spot
  old := fun x e h0 => Nat.lt_of_lt_of_le (h.old x e h0) hn.le
/-- a slice with elements has an address -/
theorem LRow.addr {w : World} {a : Option Addr} {len cap : Nat} {l : List Bool} (h : LRow w a len cap l) (h0 : 0 < len) :
    ∃ b off, a = some ⟨b, off, Option.none⟩ ∧ ∀ i, i < len → w.cell? ⟨b, off + i, Option.none⟩ = some (.bool (l.getD i false)) := by
  cases a with
  | none => have := (h.none rfl).1; omega
  | some x =>
    obtain ⟨b, off, sp⟩ := x
    have hs := h.spot _ rfl h0
    obtain rfl : sp = Option.none := hs
    exact ⟨b, off, rfl, h.cell b off rfl⟩
/-- what append leaves reads as a list of bools -/
theorem LRow.of_owns {w : World} {base : Nat} {e : TypeId} {v : Value} {n : Nat} {l : List Bool} (h : w.ownsRow base e 1 v n (l.map fun x => .bool x)) (hn : n ≤ 17592186044416) :
    ∃ a cap, v = .slice a n cap ∧ LRow w a n cap l := by
  obtain ⟨hl, h⟩ := h
  rw [List.length_map, Nat.mul_one] at hl
  rcases h with ⟨rfl, rfl⟩ | ⟨g, cap, cur, rfl, _, hc, hle, hm, hs, ht⟩
  · exact ⟨Option.none, 0, rfl, ⟨hl, Nat.le_refl _, by omega, by omega, fun _ => ⟨rfl, rfl⟩, (fun _ _ e => by cases e), (fun _ e => by cases e), (fun _ e => by cases e)⟩⟩
  · have hcell : ∀ i, i < n → w.cell? ⟨g, 0 + i, Option.none⟩ = some (.bool (l.getD i false)) := by
      intro i hi
      rw [Nat.zero_add]
      have hi2 : i < l.length := by omega
      have e1 : (cur.toList.take (n * 1))[i]? = some (.bool (l.getD i false)) := by
        rw [ht, List.getElem?_map, List.getD_eq_getElem?_getD, List.getElem?_eq_getElem hi2]; rfl
      rw [List.getElem?_take, if_pos (by omega)] at e1
      unfold World.cell?
      simp only [hc]
      simpa using e1
    refine ⟨some ⟨g, 0, Option.none⟩, cap, rfl, ⟨hl, hle, hn, hm, (fun e => by cases e), ?_, ?_, ?_⟩⟩
    · intro b off e i hi; cases e; exact hcell i hi
    · intro x e _; cases e; rfl
    · intro x e h0; cases e; exact cell_block (hcell 0 h0)
/-- the cells of a slice of bools, as append's law asks for them -/
theorem LRow.olds {w : World} {a : Option Addr} {len cap : Nat} {l : List Bool} (h : LRow w a len cap l) :
    ∀ b, a = some b → ∀ j u, (l.map fun x => Value.bool x)[j]? = some u → w.cell? (b.add j) = some u := by
  intro b e j u hj
  rw [List.getElem?_map] at hj
  have hjl : j < l.length := by
    rcases Nat.lt_or_ge j l.length with h2 | h2
    · exact h2
    · rw [List.getElem?_eq_none h2] at hj; simp at hj
  have hj2 : j < len := by rw [← h.len_eq]; exact hjl
  obtain ⟨b', off, sp⟩ := b
  obtain rfl : sp = Option.none := h.spot _ e (by omega)
  rw [add_plain, h.cell b' off e j hj2, List.getD_eq_getElem?_getD, List.getElem?_eq_getElem hjl]
  rw [List.getElem?_eq_getElem hjl] at hj
  simpa using hj
end Go.Bv
end
section
/- Contract of the document's own Words: whether two lists of words are alike. -/
namespace Go.Proofs.YtfaobdmoifnglaaGreat
open Go.RowKit Go.Bv
set_option linter.unusedVariables false
theorem words_eq {la lb : List (BitVec 64)} {n : Nat} (ha : la.length = n) (hb : lb.length = n) (h : ∀ j, j < n → la.getD j 0 = lb.getD j 0) : la = lb := by
  apply List.ext_getElem (by omega)
  intro j h1 h2
  have := h j (by omega)
  rw [List.getD_eq_getElem?_getD, List.getD_eq_getElem?_getD, List.getElem?_eq_getElem h1, List.getElem?_eq_getElem h2] at this
  simpa using this
set_option maxHeartbeats 1000000 in
theorem words_ref (a b : Option Addr) (na ca nb cb : Nat) (la lb : List (BitVec 64)) (W w : World) (ha : QRow w a na ca la) (hb : QRow w b nb cb lb) (hg : New W w) :
    Calls Tryz.prog 24 #[.slice a na ca, .slice b nb cb] w fun e w' => e = .returned (.bool (la == lb)) ∧ New w w' ∧ New W w' := by
  have hma := ha.most
  have hmb := hb.most
  by_cases hl : na = nb
  · subst hl
    have Hla := Lib.hid ha.len_eq
    have Hlb := Lib.hid hb.len_eq
    go_enter Tryz.func24, Tryz.ntmps24
    go_wp2
    go_loopw [13] (fun i wr => ∃ k : Nat, k ≤ na ∧ i = .int .i64 k ∧ Hid (∀ j, j < k → la.getD j 0 = lb.getD j 0) ∧ New w wr) (fun i _ => na - (intOf i).toNat)
    case atStart => exact ⟨0, by omega, rfl, Lib.hid (fun j hj => by omega), New.refl w⟩
    case round =>
      obtain ⟨k, hk, rfl, H, hn⟩ := hrel
      by_cases hlt : (k : Int) < na
      · obtain ⟨b1, o1, rfl, hc1⟩ := (ha.stay hn).addr (by omega)
        obtain ⟨b2, o2, rfl, hc2⟩ := (hb.stay hn).addr (by omega)
        have c1 := hc1 k (by omega)
        have c2 := hc2 k (by omega)
        clear hc1 hc2
        by_cases hxy : la.getD k 0 = lb.getD k 0
        · have Hxy := Lib.hid hxy
          rw [hxy] at c1
          clear hxy
          generalize lb.getD k 0 = y at c1 c2
          go_wp2
          go_quiet (fail)
          go_wp2
          refine ⟨⟨k + 1, by omega, by go_num, Lib.hid (fun j hj => ?_), hn.drewN nq⟩, by simp [intOf]; omega⟩
          by_cases e : j = k
          · subst e; exact Hxy.out
          · exact H.out j (by omega)
        · have hf : (la == lb) = false := by
            rw [beq_eq_false_iff_ne]; intro e; exact hxy (by rw [e])
          have HF := Lib.hid hf
          have hne : (la.getD k 0 != lb.getD k 0) = true := by rw [bne_iff_ne]; exact hxy
          clear hf hxy
          generalize la.getD k 0 = x at c1 hne
          generalize lb.getD k 0 = y at c2 hne
          go_wp2
          go_quiet (fail)
          go_wp2
          go_ret
          exact ⟨retB HF.out.symm, hn.drewN nq, hg.trans (hn.drewN nq)⟩
      · obtain rfl : k = na := by omega
        go_wp2
        go_ret
        refine ⟨retB ?_, hn, hg.trans hn⟩
        rw [words_eq Hla.out Hlb.out H.out]; simp
  · have hne : ((na : Int) != (nb : Int)) = true := by rw [bne_iff_ne]; omega
    have hf : (la == lb) = false := by
      rw [beq_eq_false_iff_ne]; intro e; exact hl (by rw [← ha.len_eq, ← hb.len_eq, e])
    have HF := Lib.hid hf
    clear hf
    go_enter Tryz.func24, Tryz.ntmps24
    go_wp2
    go_ret
    exact ⟨retB (HF.out).symm, New.refl w, hg⟩
end Go.Proofs.YtfaobdmoifnglaaGreat
end
