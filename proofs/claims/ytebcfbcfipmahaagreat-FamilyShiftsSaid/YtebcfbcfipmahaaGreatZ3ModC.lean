import Derived.Test.YtebcfbcfipmahaaGreatZ3Frame
section
/- Contracts of the document's own Mul and Pow modulo a word and of modn.Pow: for all words. -/
namespace Go.Bv
open Go Go.RowKit
set_option linter.unusedVariables false
theorem mod_lift (A B C n : Nat) : (A % n + (B % n) * C) % n = (A + B * C) % n := by
  rw [Nat.mod_add_mod, Nat.add_mod A, Nat.mod_mul_mod, ← Nat.add_mod]
theorem half_parts (q : BitVec 64) : (q / 2#64).toNat = q.toNat / 2 ∧ (q % 2#64).toNat = q.toNat % 2 := ⟨BitVec.toNat_udiv, BitVec.toNat_umod⟩
theorem odd_test (q : BitVec 64) : (q % 2#64 == 1#64) = decide (q.toNat % 2 = 1) := by
  rw [Bool.eq_iff_iff, beq_iff_eq, decide_eq_true_eq, ← (half_parts q).2]
  exact ⟨fun e => by rw [e]; rfl, fun e => BitVec.eq_of_toNat_eq (by rw [e]; rfl)⟩
theorem and_test (q : BitVec 64) : (q &&& 1#64 == 1#64) = decide (q.toNat % 2 = 1) := by
  rw [Bool.eq_iff_iff, beq_iff_eq, decide_eq_true_eq]
  have h : (q &&& 1#64).toNat = q.toNat % 2 := by rw [BitVec.toNat_and]; exact Nat.and_two_pow_sub_one_eq_mod _ 1
  constructor
  · intro e; rw [← h, e]; rfl
  · intro e; apply BitVec.eq_of_toNat_eq; rw [h, e]; rfl
theorem zero_test {q : BitVec 64} (h : ¬ q = 0#64) : decide (0 < W64 q) = true := decide_eq_true (by have := pos_of_ne h; unfold W64; omega)
theorem md_pow (A B h : Nat) (n : BitVec 64) : md ((md A n).toNat * (md B n).toNat ^ h) n = md (A * B ^ h) n := by
  by_cases hz : n = 0#64
  · subst hz; rw [md_zero, md_zero]
  · apply md_congr
    rw [md_nat hz, md_nat hz, Nat.mul_mod, Nat.mod_mod, Nat.pow_mod, Nat.mod_mod, ← Nat.pow_mod, ← Nat.mul_mod]
theorem md_pow1 (p B h : Nat) (n : BitVec 64) : md (p * (md B n).toNat ^ h) n = md (p * B ^ h) n := by
  by_cases hz : n = 0#64
  · subst hz; rw [md_zero, md_zero]
  · apply md_congr
    rw [md_nat hz, Nat.mul_mod, Nat.pow_mod, Nat.mod_mod, ← Nat.pow_mod, ← Nat.mul_mod]
theorem mul_odd (o x y : Nat) (h : y % 2 = 1) : o + x + (x + x) * (y / 2) = o + x * y := by
  have e : x * y = x * (2 * (y / 2) + 1) := by rw [show 2 * (y / 2) + 1 = y by omega]
  rw [e]; generalize y / 2 = z; grind
theorem mul_even (o x y : Nat) (h : y % 2 = 0) : o + (x + x) * (y / 2) = o + x * y := by
  have e : x * y = x * (2 * (y / 2)) := by rw [show 2 * (y / 2) = y by omega]
  rw [e]; generalize y / 2 = z; grind
end Go.Bv
namespace Go.Proofs.YtebcfbcfipmahaaGreat
open Go.RowKit Go.Bv
set_option linter.unusedVariables false
theorem half_meas {y z : BitVec 64} (h : ¬ y = 0#64) (hz : z.toNat = y.toNat / 2) : (intOf (.int .u64 (W64 z))).toNat < (intOf (.int .u64 (W64 y))).toNat := by
  have e : ∀ z : BitVec 64, (intOf (.int .u64 (W64 z))).toNat = z.toNat := fun z => by simp [intOf, W64]
  have := pos_of_ne h
  rw [e, e, hz]; omega
set_option maxHeartbeats 1000000 in
theorem rmul_any (a b n : BitVec 64) (w : World) :
    Calls Tryz.prog 56 #[.int .u64 (W64 a), .int .u64 (W64 b), .int .u64 (W64 n)] w fun e w' => e = .returned (.int .u64 (W64 (md (a.toNat * b.toNat) n))) ∧ w' = w := by
  by_cases h : n = 0#64
  · subst h
    have HZ := Lib.hid (md_zero (a.toNat * b.toNat))
    go_enter Tryz.func56, Tryz.ntmps56
    go_wp2
    go_ret
    rw [HZ.out, lo_zero]
    exact ⟨rfl, rfl⟩
  · have hb : (n == 0#64) = false := by rw [beq_eq_false_iff_ne]; exact h
    have hp := pos_of_ne h
    have hnz : ¬ W64 n = 0 := by unfold W64; omega
    have HN := Lib.hid h
    have HST : Hid ((0 + (a % n).toNat * b.toNat) % n.toNat = (a.toNat * b.toNat) % n.toNat ∧ (0#64).toNat < n.toNat) := Lib.hid ⟨by rw [Nat.zero_add, BitVec.toNat_umod, Nat.mod_mul_mod], hp⟩
    clear hp h
    go_enter Tryz.func56, Tryz.ntmps56
    go_wp2_with fail
    go_loop [0, 1, 7] (fun A B O => ∃ x y o : BitVec 64, A = .int .u64 (W64 x) ∧ B = .int .u64 (W64 y) ∧ O = .int .u64 (W64 o) ∧ Hid ((o.toNat + x.toNat * y.toNat) % n.toNat = (a.toNat * b.toNat) % n.toNat ∧ o.toNat < n.toNat)) (fun _ B _ => (intOf B).toNat)
    case atStart => exact ⟨_, _, 0#64, rfl, rfl, congrArg (Value.int .u64) lo_zero.symm, HST⟩
    case round =>
      obtain ⟨x, y, o, rfl, rfl, rfl, H⟩ := hrel
      by_cases hy : y = 0#64
      · have hg : decide (0 < W64 y) = false := by subst hy; rw [lo_zero]; rfl
        have HE : Hid (o = md (a.toNat * b.toNat) n) := Lib.hid (md_eq HN.out (by
          obtain ⟨h1, h2⟩ := H.out
          rw [← h1, hy, show (0#64).toNat = 0 from rfl, Nat.mul_zero, Nat.add_zero, Nat.mod_eq_of_lt h2]))
        clear hy H
        go_wp2
        go_ret
        rw [HE.out]
        exact ⟨rfl, rfl⟩
      · have hg := zero_test hy
        have HM := Lib.hid (half_meas hy (half_parts y).1)
        have hodd := odd_test y
        clear hy
        by_cases ho : y.toNat % 2 = 1
        · rw [decide_eq_true ho] at hodd
          have HG : Hid (((md (o.toNat + x.toNat) n).toNat + (md (x.toNat + x.toNat) n).toNat * (y / 2#64).toNat) % n.toNat = (a.toNat * b.toNat) % n.toNat ∧ (md (o.toNat + x.toNat) n).toNat < n.toNat) := Lib.hid ⟨by
            rw [md_nat HN.out, md_nat HN.out, (half_parts y).1, mod_lift, mul_odd _ _ _ ho]; exact H.out.1, md_lt HN.out⟩
          clear H ho
          go_wp2_with (first
            | (go_at_call 55; refine (radd_any _ _ _ _).mono ?_; rintro e w' ⟨rfl, rfl⟩))
          exact ⟨⟨_, _, _, rfl, rfl, rfl, HG⟩, HM.out⟩
        · rw [decide_eq_false ho] at hodd
          have HG : Hid ((o.toNat + (md (x.toNat + x.toNat) n).toNat * (y / 2#64).toNat) % n.toNat = (a.toNat * b.toNat) % n.toNat ∧ o.toNat < n.toNat) := Lib.hid ⟨by
            have h2 := H.out.2
            rw [md_nat HN.out, (half_parts y).1, ← Nat.mod_eq_of_lt h2, mod_lift, mul_even _ _ _ (by omega)]; exact H.out.1, H.out.2⟩
          clear H ho
          go_wp2_with (first
            | (go_at_call 55; refine (radd_any _ _ _ _).mono ?_; rintro e w' ⟨rfl, rfl⟩))
          exact ⟨⟨_, _, _, rfl, rfl, rfl, HG⟩, HM.out⟩
end Go.Proofs.YtebcfbcfipmahaaGreat
end
section
/- Contracts of the document's own Pow and Gcd, and of modn.Odd: for all words. -/
namespace Go.Bv
open Go Go.RowKit
set_option linter.unusedVariables false
theorem md_mul2 (A B : Nat) (n : BitVec 64) : md ((md A n).toNat * (md B n).toNat) n = md (A * B) n := by
  have := md_pow A B 1 n
  rw [Nat.pow_one, Nat.pow_one] at this
  exact this
theorem md_mul1 (A B : Nat) (n : BitVec 64) : md ((md A n).toNat * B) n = md (A * B) n := by
  have h1 := md_pow A B 1 n
  have h2 := md_pow1 (md A n).toNat B 1 n
  rw [Nat.pow_one, Nat.pow_one] at h1 h2
  rw [← h2, h1]
theorem pow_bit (a q j : Nat) : a ^ (q / 2 ^ j) = a ^ (q / 2 ^ (j + 1)) * a ^ (q / 2 ^ (j + 1)) * a ^ (q / 2 ^ j % 2) := by
  rw [← Nat.pow_add, ← Nat.pow_add]
  congr 1
  have : q / 2 ^ (j + 1) = q / 2 ^ j / 2 := by rw [Nat.pow_succ, Nat.div_div_eq_div_mul]
  omega
end Go.Bv
namespace Go.Proofs.YtebcfbcfipmahaaGreat
open Go.RowKit Go.Bv
set_option linter.unusedVariables false
/-- an odd number's inverse, round by round -/
def inv5 (a : BitVec 64) : Nat → BitVec 64
  | 0 => a
  | k + 1 => inv5 a k * (2#64 - a * inv5 a k)
end Go.Proofs.YtebcfbcfipmahaaGreat
end
section
/- Plain lemmas: slices of words of 64 and of 32 bits that are read: their words as a list. -/
namespace Go.Bv
open Go Go.RowKit
theorem cell_block {w : World} {a : Addr} {v : Value} (h : w.cell? a = some v) : a.block < w.heap.size := by
  rcases Nat.lt_or_ge a.block w.heap.size with h2 | h2
  · exact h2
  · exfalso
    unfold World.cell? at h
    rw [Array.getElem?_eq_none h2] at h
    simp at h
theorem add_plain (b off i : Nat) : (⟨b, off, Option.none⟩ : Addr).add i = ⟨b, off + i, Option.none⟩ := by unfold Addr.add; split <;> simp_all
/-- a slice of words that reads as l in the world w: its address, its length, its capacity -/
structure QRow (w : World) (a : Option Addr) (len cap : Nat) (l : List (BitVec 64)) : Prop where
  len_eq : l.length = len
  le : len ≤ cap
  most : len ≤ 17592186044416
  room : cap ≤ 9223372036854775807
  none : a = none → len = 0 ∧ cap = 0
  cell : ∀ b off, a = some ⟨b, off, Option.none⟩ → ∀ i, i < len → w.cell? ⟨b, off + i, Option.none⟩ = some (.int .u64 (W64 (l.getD i 0)))
  spot : ∀ x, a = some x → 0 < len → x.spot = Option.none
  old : ∀ x, a = some x → 0 < len → x.block < w.heap.size
theorem QRow.stay {w w' : World} {a : Option Addr} {len cap : Nat} {l : List (BitVec 64)} (h : QRow w a len cap l) (hn : New w w') : QRow w' a len cap l where
  len_eq := h.len_eq
  le := h.le
  most := h.most
  room := h.room
  none := h.none
  cell := fun b off e i hi => by
    have hb := h.old _ e (by omega)
    rw [hn.cell (a := ⟨b, off + i, Option.none⟩) hb]; exact h.cell b off e i hi
  spot := h.spot
  old := fun x e h0 => Nat.lt_of_lt_of_le (h.old x e h0) hn.le
theorem IRow.words {w : World} {a : Option Addr} {len cap : Nat} {zs : List Int} (h : IRow .u64 w a len cap zs) (hr : cap * 8 ≤ 140737488351232) : ∃ l, QRow w a len cap l := by
  rcases h with ⟨rfl, rfl, rfl, rfl⟩ | ⟨x, rfl, hl, hz, hc, hw⟩
  · exact ⟨[], ⟨rfl, Nat.le_refl _, by omega, by omega, fun _ => ⟨rfl, rfl⟩, (fun _ _ e => by cases e), (fun _ e => by cases e), (fun _ e => by cases e)⟩⟩
  · refine ⟨(zs.take len).map (BitVec.ofInt 64), ⟨by simp; omega, hl, by omega, by omega, (fun e => by cases e), ?_, ?_, ?_⟩⟩
    · intro b off e i hi
      cases e
      have := hc i (by omega)
      rw [add_plain] at this
      rw [this]
      have hi2 : i < zs.length := by omega
      have e1 : zs.getD i 0 = zs[i] := by rw [List.getD_eq_getElem?_getD, List.getElem?_eq_getElem hi2]; rfl
      have e2 : ((zs.take len).map (BitVec.ofInt 64)).getD i 0 = BitVec.ofInt 64 zs[i] := by
        rw [List.getD_eq_getElem?_getD, List.getElem?_map, List.getElem?_take, if_pos hi, List.getElem?_eq_getElem hi2]; rfl
      have hwf := hw zs[i] (List.getElem_mem hi2)
      obtain ⟨X, hX⟩ := ex64 zs[i] (by simp [Lit.wf, IntKind.min, IntKind.max, IntKind.signed, IntKind.bits] at hwf; omega)
      rw [e1, e2, hX, ofInt_W64]
    · intro y e h0; cases e; exact World.cell?_spot (hc 0 (by omega))
    · intro y e h0; cases e
      have := cell_block (hc 0 (by omega))
      simpa [Addr.add] using this
/-- a slice with elements has an address -/
theorem QRow.addr {w : World} {a : Option Addr} {len cap : Nat} {l : List (BitVec 64)} (h : QRow w a len cap l) (h0 : 0 < len) :
    ∃ b off, a = some ⟨b, off, Option.none⟩ ∧ ∀ i, i < len → w.cell? ⟨b, off + i, Option.none⟩ = some (.int .u64 (W64 (l.getD i 0))) := by
  cases a with
  | none => have := (h.none rfl).1; omega
  | some x =>
    obtain ⟨b, off, sp⟩ := x
    have hs := h.spot _ rfl h0
    obtain rfl : sp = Option.none := hs
    exact ⟨b, off, rfl, h.cell b off rfl⟩
/-- what append leaves reads as a list of words -/
theorem QRow.of_owns {w : World} {base : Nat} {e : TypeId} {v : Value} {n : Nat} {l : List (BitVec 64)} (h : w.ownsRow base e 1 v n (l.map fun x => .int .u64 (W64 x))) (hn : n ≤ 17592186044416) :
    ∃ a cap, v = .slice a n cap ∧ QRow w a n cap l := by
  obtain ⟨hl, h⟩ := h
  rw [List.length_map, Nat.mul_one] at hl
  rcases h with ⟨rfl, rfl⟩ | ⟨g, cap, cur, rfl, _, hc, hle, hm, hs, ht⟩
  · exact ⟨Option.none, 0, rfl, ⟨hl, Nat.le_refl _, by omega, by omega, fun _ => ⟨rfl, rfl⟩, (fun _ _ e => by cases e), (fun _ e => by cases e), (fun _ e => by cases e)⟩⟩
  · have hcell : ∀ i, i < n → w.cell? ⟨g, 0 + i, Option.none⟩ = some (.int .u64 (W64 (l.getD i 0))) := by
      intro i hi
      rw [Nat.zero_add]
      have hi2 : i < l.length := by omega
      have e1 : (cur.toList.take (n * 1))[i]? = some (.int .u64 (W64 (l.getD i 0))) := by
        rw [ht, List.getElem?_map, List.getD_eq_getElem?_getD, List.getElem?_eq_getElem hi2]; rfl
      rw [List.getElem?_take, if_pos (by omega)] at e1
      unfold World.cell?
      simp only [hc]
      simpa using e1
    refine ⟨some ⟨g, 0, Option.none⟩, cap, rfl, ⟨hl, hle, hn, hm, (fun e => by cases e), ?_, ?_, ?_⟩⟩
    · intro b off e i hi; cases e; exact hcell i hi
    · intro x e _; cases e; rfl
    · intro x e h0; cases e; exact cell_block (hcell 0 h0)
/-- the cells of a slice of words, as append's law asks for them -/
theorem QRow.olds {w : World} {a : Option Addr} {len cap : Nat} {l : List (BitVec 64)} (h : QRow w a len cap l) :
    ∀ b, a = some b → ∀ j u, (l.map fun x => Value.int .u64 (W64 x))[j]? = some u → w.cell? (b.add j) = some u := by
  intro b e j u hj
  rw [List.getElem?_map] at hj
  have hjl : j < l.length := by
    rcases Nat.lt_or_ge j l.length with h2 | h2
    · exact h2
    · rw [List.getElem?_eq_none h2] at hj; simp at hj
  have hj2 : j < len := by rw [← h.len_eq]; exact hjl
  obtain ⟨b', off, sp⟩ := b
  obtain rfl : sp = Option.none := h.spot _ e (by omega)
  rw [add_plain, h.cell b' off e j hj2, List.getD_eq_getElem?_getD, List.getElem?_eq_getElem hjl]
  rw [List.getElem?_eq_getElem hjl] at hj
  simpa using hj
/-- a slice of words that reads as l in the world w: its address, its length, its capacity -/
structure DRow (w : World) (a : Option Addr) (len cap : Nat) (l : List (BitVec 32)) : Prop where
  len_eq : l.length = len
  le : len ≤ cap
  most : len ≤ 35184372088832
  room : cap ≤ 9223372036854775807
  none : a = none → len = 0 ∧ cap = 0
  cell : ∀ b off, a = some ⟨b, off, Option.none⟩ → ∀ i, i < len → w.cell? ⟨b, off + i, Option.none⟩ = some (.int .u32 (W32 (l.getD i 0)))
  spot : ∀ x, a = some x → 0 < len → x.spot = Option.none
  old : ∀ x, a = some x → 0 < len → x.block < w.heap.size
theorem DRow.stay {w w' : World} {a : Option Addr} {len cap : Nat} {l : List (BitVec 32)} (h : DRow w a len cap l) (hn : New w w') : DRow w' a len cap l where
  len_eq := h.len_eq
  le := h.le
  most := h.most
  room := h.room
  none := h.none
  cell := fun b off e i hi => by
    have hb := h.old _ e (by omega)
    rw [hn.cell (a := ⟨b, off + i, Option.none⟩) hb]; exact h.cell b off e i hi
  spot := h.spot
  old := fun x e h0 => Nat.lt_of_lt_of_le (h.old x e h0) hn.le
/-- a slice with elements has an address -/
theorem DRow.addr {w : World} {a : Option Addr} {len cap : Nat} {l : List (BitVec 32)} (h : DRow w a len cap l) (h0 : 0 < len) :
    ∃ b off, a = some ⟨b, off, Option.none⟩ ∧ ∀ i, i < len → w.cell? ⟨b, off + i, Option.none⟩ = some (.int .u32 (W32 (l.getD i 0))) := by
  cases a with
  | none => have := (h.none rfl).1; omega
  | some x =>
    obtain ⟨b, off, sp⟩ := x
    have hs := h.spot _ rfl h0
    obtain rfl : sp = Option.none := hs
    exact ⟨b, off, rfl, h.cell b off rfl⟩
/-- what append leaves reads as a list of words -/
theorem DRow.of_owns {w : World} {base : Nat} {e : TypeId} {v : Value} {n : Nat} {l : List (BitVec 32)} (h : w.ownsRow base e 1 v n (l.map fun x => .int .u32 (W32 x))) (hn : n ≤ 35184372088832) :
    ∃ a cap, v = .slice a n cap ∧ DRow w a n cap l := by
  obtain ⟨hl, h⟩ := h
  rw [List.length_map, Nat.mul_one] at hl
  rcases h with ⟨rfl, rfl⟩ | ⟨g, cap, cur, rfl, _, hc, hle, hm, hs, ht⟩
  · exact ⟨Option.none, 0, rfl, ⟨hl, Nat.le_refl _, by omega, by omega, fun _ => ⟨rfl, rfl⟩, (fun _ _ e => by cases e), (fun _ e => by cases e), (fun _ e => by cases e)⟩⟩
  · have hcell : ∀ i, i < n → w.cell? ⟨g, 0 + i, Option.none⟩ = some (.int .u32 (W32 (l.getD i 0))) := by
      intro i hi
      rw [Nat.zero_add]
      have hi2 : i < l.length := by omega
      have e1 : (cur.toList.take (n * 1))[i]? = some (.int .u32 (W32 (l.getD i 0))) := by
        rw [ht, List.getElem?_map, List.getD_eq_getElem?_getD, List.getElem?_eq_getElem hi2]; rfl
      rw [List.getElem?_take, if_pos (by omega)] at e1
      unfold World.cell?
      simp only [hc]
      simpa using e1
    refine ⟨some ⟨g, 0, Option.none⟩, cap, rfl, ⟨hl, hle, hn, hm, (fun e => by cases e), ?_, ?_, ?_⟩⟩
    · intro b off e i hi; cases e; exact hcell i hi
    · intro x e _; cases e; rfl
    · intro x e h0; cases e; exact cell_block (hcell 0 h0)
/-- the cells of a slice of words, as append's law asks for them -/
theorem DRow.olds {w : World} {a : Option Addr} {len cap : Nat} {l : List (BitVec 32)} (h : DRow w a len cap l) :
    ∀ b, a = some b → ∀ j u, (l.map fun x => Value.int .u32 (W32 x))[j]? = some u → w.cell? (b.add j) = some u := by
  intro b e j u hj
  rw [List.getElem?_map] at hj
  have hjl : j < l.length := by
    rcases Nat.lt_or_ge j l.length with h2 | h2
    · exact h2
    · rw [List.getElem?_eq_none h2] at hj; simp at hj
  have hj2 : j < len := by rw [← h.len_eq]; exact hjl
  obtain ⟨b', off, sp⟩ := b
  obtain rfl : sp = Option.none := h.spot _ e (by omega)
  rw [add_plain, h.cell b' off e j hj2, List.getD_eq_getElem?_getD, List.getElem?_eq_getElem hjl]
  rw [List.getElem?_eq_getElem hjl] at hj
  simpa using hj
end Go.Bv
end
