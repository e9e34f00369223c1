import Derived.Test.YthkmcnlciefnfaaGreatZ5AliD
section
/- Layer 43: what is wrong with a table: the program's and the document's; what a pair tells. -/
namespace Go.Ali
/-- the error's number of a table -/
def tE (T : BitVec 64) (be : List (BitVec 64)) (al : List Int) : Int :=
  if be.length < 1 ∨ 256 < be.length ∨ al.length ≠ be.length then 5 else if T.toNat = 0 then 8 else if 1099511627776 < T.toNat then 9
  else if (List.range be.length).any (fun i => decide (T.toNat < (be.getD i 0).toNat)) then 9
  else if (List.range be.length).any (fun i => decide (al.getD i 0 < 0 ∨ (be.length : Int) ≤ al.getD i 0)) then 2 else 0
end Go.Ali
namespace Go.Proofs.YthkmcnlciefnfaaGreat
open Go Go.RowKit Go.Bv Go.Ali
set_option linter.unusedVariables false
set_option maxRecDepth 100000
/-- a table that is read -/
structure TL (w : World) (ab : Option Addr) (nb cb : Nat) (aa : Option Addr) (na ca : Nat) (be : List (BitVec 64)) (al : List Int) : Prop where
  b : QRow w ab nb cb be
  a : ZRow w aa na ca al
theorem TL.stay {w w' : World} {ab aa : Option Addr} {nb cb na ca : Nat} {be : List (BitVec 64)} {al : List Int} (h : TL w ab nb cb aa na ca be al) (hn : New w w') : TL w' ab nb cb aa na ca be al := ⟨h.b.stay hn, h.a.stay hn⟩
abbrev tv (T : BitVec 64) (ab : Option Addr) (nb cb : Nat) (aa : Option Addr) (na ca : Nat) : Value := .agg #[.int .u64 (W64 T), .slice ab nb cb, .slice aa na ca]
end Go.Proofs.YthkmcnlciefnfaaGreat
end
section
/- Layer 43: the example (awake); what a pair tells. -/
namespace Go.Proofs.YthkmcnlciefnfaaGreat
open Go Go.RowKit Go.Bv Go.Ali
set_option linter.unusedVariables false
set_option maxRecDepth 100000
theorem TR.open {w : World} {v : Value} {T : BitVec 64} {n : Nat} {be : Nat → BitVec 64} {al : Nat → Nat} (h : TR w v T n be al) (hn : n ≤ 256) (ha : ∀ i, i < n → al i < n) : ∃ g1 g2, v = tv T (some ⟨g1, 0, none⟩) n n (some ⟨g2, 0, none⟩) n n ∧ TL w (some ⟨g1, 0, none⟩) n n (some ⟨g2, 0, none⟩) n n ((List.range n).map be) ((List.range n).map fun i => ((al i : Nat) : Int)) := by
  obtain ⟨g1, g2, e, h1, h2⟩ := h
  refine ⟨g1, g2, e, ⟨by simp, Nat.le_refl _, by omega, by omega, (fun e => by cases e), (fun b off e i hi => ?_), (fun x e _ => by cases e; rfl), (fun x e _ => by cases e; exact h1.lt)⟩, ⟨by simp, Nat.le_refl _, by omega, by omega, (fun e => by cases e), (fun b off e i hi => ?_), (fun x e _ => by cases e; rfl), (fun x e _ => by cases e; exact h2.lt), fun z hz => ?_⟩⟩
  · cases e
    rw [Nat.zero_add, h1.cell hi, List.getD_eq_getElem?_getD, List.getElem?_map, List.getElem?_range hi]; rfl
  · cases e
    rw [Nat.zero_add, h2.cell hi, List.getD_eq_getElem?_getD, List.getElem?_map, List.getElem?_range hi]; rfl
  · obtain ⟨i, hi, rfl⟩ := List.mem_map.1 hz
    have := ha i (List.mem_range.1 hi)
    unfold In64; omega
end Go.Proofs.YthkmcnlciefnfaaGreat
end
section
/- Layer 43: spans of a column, how many pairs of them lie ahead, an item's weight. -/
namespace Go.Ali
/-- how many numbers of a span are below u -/
def szV (f t u : BitVec 64) : BitVec 64 := if u.toNat ≤ f.toNat then 0#64 else (if u.toNat ≤ t.toNat then u else t) - f
/-- the four ends of a column's spans -/
def sp0 (be : List (BitVec 64)) (c : Nat) (item : Int) : BitVec 64 := if (c : Int) = item then be.getD c 0 else 0#64
def sp1 (be : List (BitVec 64)) (al : List Int) (c : Nat) (item : Int) : BitVec 64 := if al.getD c 0 = item then be.getD c 0 else 0#64
def sp2 (T : BitVec 64) (al : List Int) (c : Nat) (item : Int) : BitVec 64 := if al.getD c 0 = item then T else 0#64
/-- what a column counts, up to a number -/
def clV (T : BitVec 64) (be : List (BitVec 64)) (al : List Int) (item : Int) (k : Nat) (u : BitVec 64) : BitVec 64 := szV 0#64 (sp0 be k item) u + szV (sp1 be al k item) (sp2 T al k item) u
/-- the pairs ahead of a pair, in the first k columns -/
def bfK (T : BitVec 64) (be : List (BitVec 64)) (al : List Int) (item c : Int) (u : BitVec 64) : Nat → BitVec 64
  | 0 => 0#64
  | k + 1 => bfK T be al item c u k + (if (k : Int) < c then clV T be al item k T else if (k : Int) = c then clV T be al item k u else 0#64)
end Go.Ali
namespace Go.Proofs.YthkmcnlciefnfaaGreat
open Go Go.RowKit Go.Bv Go.Ali
set_option linter.unusedVariables false
set_option maxRecDepth 100000
end Go.Proofs.YthkmcnlciefnfaaGreat
end
section
/- Layer 43: how many pairs that tell an item lie ahead of a pair. -/
namespace Go.Ali
/-- what a span counts of the column k, if pairs ahead of (c, u) are counted -/
def cfV (T : BitVec 64) (c : Int) (u : BitVec 64) (k : Nat) (f t : BitVec 64) : BitVec 64 := if (k : Int) < c then szV f t T else if (k : Int) = c then szV f t u else 0#64
end Go.Ali
namespace Go.Proofs.YthkmcnlciefnfaaGreat
open Go Go.RowKit Go.Bv Go.Ali
set_option linter.unusedVariables false
set_option maxRecDepth 100000
end Go.Proofs.YthkmcnlciefnfaaGreat
end
section
/- Layer 43: Tell, Weight, Rank. -/
namespace Go.Ali
/-- the item of a pair -/
def tlV (be : List (BitVec 64)) (al : List Int) (c : Nat) (u : BitVec 64) : Int := if u.toNat < (be.getD c 0).toNat then (c : Int) else al.getD c 0
/-- what is wrong with a pair -/
def pE (T : BitVec 64) (be : List (BitVec 64)) (al : List Int) (c : Nat) (u : BitVec 64) : Int := if tE T be al ≠ 0 then tE T be al else if be.length ≤ c ∨ T.toNat ≤ u.toNat then 2 else 0
/-- the item told of a pair, 0 where something is wrong -/
def tV (T : BitVec 64) (be : List (BitVec 64)) (al : List Int) (c : Nat) (u : BitVec 64) : Int := if pE T be al c u = 0 then tlV be al c u else 0
/-- what is wrong with an item -/
def jE (T : BitVec 64) (be : List (BitVec 64)) (al : List Int) (j : Int) : Int := if tE T be al ≠ 0 then tE T be al else if j < 0 ∨ (be.length : Int) ≤ j then 2 else 0
end Go.Ali
namespace Go.Proofs.YthkmcnlciefnfaaGreat
open Go Go.RowKit Go.Bv Go.Ali
set_option linter.unusedVariables false
set_option maxRecDepth 100000
end Go.Proofs.YthkmcnlciefnfaaGreat
end
section
/- Layer 43: Weight, Rank. -/
namespace Go.Ali
/-- how many pairs tell an item, 0 where something is wrong -/
def wtV (T : BitVec 64) (be : List (BitVec 64)) (al : List Int) (j : Int) : BitVec 64 := if jE T be al j = 0 then bfK T be al j (be.length : Int) 0#64 be.length else 0#64
/-- a pair's rank, 0 where something is wrong -/
def rkV (T : BitVec 64) (be : List (BitVec 64)) (al : List Int) (c : Nat) (u : BitVec 64) : BitVec 64 := if pE T be al c u = 0 then bfK T be al (tV T be al c u) (c : Int) u be.length else 0#64
end Go.Ali
namespace Go.Proofs.YthkmcnlciefnfaaGreat
open Go Go.RowKit Go.Bv Go.Ali
set_option linter.unusedVariables false
set_option maxRecDepth 100000
end Go.Proofs.YthkmcnlciefnfaaGreat
end
section
/- Layer 43: the document's Tell and Weight. -/
namespace Go.Ali
/-- the pairs of the first k columns that tell an item -/
def rwK (T : BitVec 64) (be : List (BitVec 64)) (al : List Int) (j : Int) : Nat → BitVec 64
  | 0 => 0#64
  | k + 1 => rwK T be al j k + (if (k : Int) = j then be.getD k 0 else 0#64) + (if al.getD k 0 = j then T - be.getD k 0 else 0#64)
end Go.Ali
namespace Go.Proofs.YthkmcnlciefnfaaGreat
open Go Go.RowKit Go.Bv Go.Ali
set_option linter.unusedVariables false
set_option maxRecDepth 100000
end Go.Proofs.YthkmcnlciefnfaaGreat
end
section
/- Layer 43: the document's Ahead. -/
namespace Go.Ali
def mn (a b : BitVec 64) : BitVec 64 := if a.toNat ≤ b.toNat then a else b
/-- the pairs ahead of a pair in the first k columns that tell an item: the document's -/
def ahK (T : BitVec 64) (be : List (BitVec 64)) (al : List Int) (c : Nat) (u : BitVec 64) (j : Int) : Nat → BitVec 64
  | 0 => 0#64
  | k + 1 => if c < k then ahK T be al c u j k else ahK T be al c u j k + (if (k : Int) = j then mn (if k = c then u else T) (be.getD k 0) else 0#64) + (if al.getD k 0 = j then (if k = c then u else T) - mn (if k = c then u else T) (be.getD k 0) else 0#64)
end Go.Ali
namespace Go.Proofs.YthkmcnlciefnfaaGreat
open Go Go.RowKit Go.Bv Go.Ali
set_option linter.unusedVariables false
set_option maxRecDepth 100000
end Go.Proofs.YthkmcnlciefnfaaGreat
end
section
/- Layer 43: the mathematics of ranks: pairs that tell an item, counted in naturals. -/
namespace Go.Ali
/-- of the column k, the numbers below u that tell j -/
def ptN (be : List (BitVec 64)) (al : List Int) (j : Int) (k u : Nat) : Nat := (if (k : Int) = j then min u (be.getD k 0).toNat else 0) + (if al.getD k 0 = j then u - min u (be.getD k 0).toNat else 0)
/-- the pairs of the first k columns that tell j -/
def wnN (T : Nat) (be : List (BitVec 64)) (al : List Int) (j : Int) : Nat → Nat
  | 0 => 0
  | k + 1 => wnN T be al j k + ptN be al j k T
/-- how many pairs ahead of a pair tell j -/
def rkN (T : Nat) (be : List (BitVec 64)) (al : List Int) (j : Int) (c u : Nat) : Nat := wnN T be al j c + ptN be al j c u
end Go.Ali
end
section
/- Layer 43: the mathematics of weights: in the table that is made of weights, each item is told by n times its weight. -/
namespace Go.Ali
set_option linter.unusedVariables false
/-- what a filled column counts for an item -/
def ctN (T : Nat) (s : St) (j c : Nat) : Nat := if s.fl c then (if c = j then (s.be c).toNat else 0) + (if s.al c = j then T - (s.be c).toNat else 0) else 0
/-- what holds while a table is made -/
structure Inv (n : Nat) (T : BitVec 64) (w : Nat → BitVec 64) (s : St) : Prop where
  bal : Bal n T s
  op : ∀ i, i < n → s.fl i = false → s.be i = T ∧ s.al i = i
  lo : ∀ i, i < n → (s.be i).toNat ≤ T.toNat
  al : ∀ i, i < n → s.al i < n
  wt : ∀ j, j < n → sm (ctN T.toNat s j) n + opn s j = n * (w j).toNat
/-- a table's columns as lists -/
def beL (n : Nat) (s : St) : List (BitVec 64) := (List.range n).map s.be
def alL (n : Nat) (s : St) : List Int := (List.range n).map fun i => ((s.al i : Nat) : Int)
end Go.Ali
namespace Go.Proofs.YthkmcnlciefnfaaGreat
open Go Go.Ali
set_option linter.unusedVariables false
/-- the sum of what all items are told by -/
def totn (l : List (BitVec 64)) : Nat → BitVec 64
  | 0 => 0#64
  | k + 1 => totn l k + BitVec.ofNat 64 l.length * l.getD k 0
end Go.Proofs.YthkmcnlciefnfaaGreat
end
section
/- Layer 43: the document's Check of weights, and their sum. -/
namespace Go.Proofs.YthkmcnlciefnfaaGreat
open Go Go.RowKit Go.Bv Go.Ali
set_option linter.unusedVariables false
set_option maxRecDepth 100000
set_option maxHeartbeats 8000000 in
theorem checkr_43 (a : Option Addr) (n c : Nat) (l : List (BitVec 64)) (w : World) (h : QRow w a n c l) :
    Calls Tryz.prog 25 #[.slice a n c] w fun e w' => e = .returned (.int .i64 (wE l)) ∧ New w w' := by
  have hl := h.len_eq
  have hm := h.most
  by_cases h1 : l.length < 1 ∨ 256 < l.length
  · have HE := Lib.hid (we_len h1)
    rw [hl] at h1
    have h2 : (n : Int) < 1 ∨ (¬ (n : Int) < 1 ∧ (256 : Int) < (n : Int)) := by omega
    clear h1 h hl
    rcases h2 with h2 | ⟨h2, h3⟩
    all_goals (
      go_enter Tryz.func25, Tryz.ntmps25
      go_wp2
      go_ret
      rw [HE.out]
      exact ⟨rfl, New.refl _⟩)
  · have HLE := Lib.hid h1
    have h2 : ¬ (n : Int) < 1 := by omega
    have h3 : ¬ (256 : Int) < (n : Int) := by omega
    obtain ⟨p1, o1, e1, _⟩ := h.addr (by omega)
    subst e1
    have HQ := Lib.hid h
    have HL := Lib.hid hl
    clear h1 h hl
    go_enter Tryz.func25, Tryz.ntmps25
    go_wp2
    go_loopw [3, 16] (fun sv iv wr => ∃ (k : Nat) (b : Bool), k ≤ n ∧ iv = .int .i64 (k : Int) ∧ sv = .bool b ∧ Hid (New w wr) ∧ Hid (∀ i, i < k → (l.getD i 0).toNat ≤ 4294967296) ∧ Hid ((b = false → ∀ i, i < k → (l.getD i 0).toNat = 0) ∧ (b = true → ∃ i, i < k ∧ (l.getD i 0).toNat ≠ 0))) (fun _ iv _ => n - (intOf iv).toNat)
    case atStart => exact ⟨0, false, Nat.zero_le _, rfl, rfl, Lib.hid (New.refl _), Lib.hid (fun i hi => absurd hi (by omega)), Lib.hid ⟨fun _ i hi => absurd hi (by omega), fun e => by cases e⟩⟩
    case round =>
      obtain ⟨k, b, hk, rfl, rfl, HN, HS, HB⟩ := hrel
      by_cases hlt : (k : Int) < (n : Int)
      · have hk0 : (0 : Int) ≤ (k : Int) := by omega
        have hkn : k < n := by omega
        have d1 := (HQ.out.stay HN.out).cell p1 o1 rfl k hkn
        obtain ⟨x, hx⟩ : ∃ x, l.getD k 0 = x := ⟨_, rfl⟩
        rw [hx] at d1
        have HX := Lib.hid hx
        have hd : decide (4294967296 < W64 x) = decide (4294967296 < x.toNat) := decide_eq_decide.2 (by unfold W64; omega)
        have hd0 : decide (0 < W64 x) = decide (0 < x.toNat) := decide_eq_decide.2 (by unfold W64; omega)
        clear hx
        rcases hb : decide (4294967296 < x.toNat) with _ | _
        · rw [hb] at hd
          have HS2 : Hid (∀ i, i < k + 1 → (l.getD i 0).toNat ≤ 4294967296) := Lib.hid (fun i hi => by
            by_cases e : i = k
            · subst e; rw [HX.out]; have := of_decide_eq_false hb; omega
            · exact HS.out i (by omega))
          clear hb
          rcases b with _ | _
          · rcases hb0 : decide (0 < x.toNat) with _ | _
            · rw [hb0] at hd0
              have HB2 : Hid ((false = false → ∀ i, i < k + 1 → (l.getD i 0).toNat = 0) ∧ (false = true → ∃ i, i < k + 1 ∧ (l.getD i 0).toNat ≠ 0)) := Lib.hid ⟨fun _ i hi => by
                by_cases e : i = k
                · subst e; rw [HX.out]; have := of_decide_eq_false hb0; omega
                · exact HB.out.1 rfl i (by omega), fun e => by cases e⟩
              clear hb0
              go_wp2
              exact ⟨⟨k + 1, false, by omega, by go_num, rfl, HN, HS2, HB2⟩, by simp [intOf]; omega⟩
            · rw [hb0] at hd0
              have HB2 : Hid ((true = false → ∀ i, i < k + 1 → (l.getD i 0).toNat = 0) ∧ (true = true → ∃ i, i < k + 1 ∧ (l.getD i 0).toNat ≠ 0)) := Lib.hid ⟨fun e => (by cases e), fun _ => ⟨k, by omega, by rw [HX.out]; have := of_decide_eq_true hb0; omega⟩⟩
              clear hb0
              go_wp2
              exact ⟨⟨k + 1, true, by omega, by go_num, rfl, HN, HS2, HB2⟩, by simp [intOf]; omega⟩
          · have HB2 : Hid ((true = false → ∀ i, i < k + 1 → (l.getD i 0).toNat = 0) ∧ (true = true → ∃ i, i < k + 1 ∧ (l.getD i 0).toNat ≠ 0)) := Lib.hid ⟨fun e => (by cases e), fun _ => by
              obtain ⟨i, h1, h2⟩ := HB.out.2 rfl
              exact ⟨i, by omega, h2⟩⟩
            go_wp2
            exact ⟨⟨k + 1, true, by omega, by go_num, rfl, HN, HS2, HB2⟩, by simp [intOf]; omega⟩
        · rw [hb] at hd
          have HE := Lib.hid (we_big HLE.out (i := k) (by rw [HL.out]; exact hkn) (by rw [HX.out]; exact of_decide_eq_true hb))
          clear hb
          go_wp2
          go_ret
          rw [HE.out]
          exact ⟨rfl, HN.out⟩
      · obtain rfl : k = n := by omega
        rcases b with _ | _
        · have HE := Lib.hid (we_zero HLE.out (by rw [HL.out]; exact HS.out) (by rw [HL.out]; exact HB.out.1 rfl))
          go_wp2
          go_ret
          rw [HE.out]
          exact ⟨rfl, HN.out⟩
        · have HE : Hid (wE l = 0) := Lib.hid (by
            obtain ⟨i, h1, h2⟩ := HB.out.2 rfl
            exact we_ok HLE.out (by rw [HL.out]; exact HS.out) (i := i) (by rw [HL.out]; exact h1) h2)
          go_wp2
          go_ret
          rw [HE.out]
          exact ⟨rfl, HN.out⟩
end Go.Proofs.YthkmcnlciefnfaaGreat
end
