/- Layer 22: what is wrong with rows: the program's checkRows, the document's Same. -/
import Derived.Test.YtadkbpdbbgjkgaaTabW
namespace Go.Tab
/-- the first error of some -/
def fstE (E : Nat → Int) : Nat → Int
  | 0 => 0
  | k + 1 => if fstE E k ≠ 0 then fstE E k else E k
theorem fstE_zero {E : Nat → Int} : ∀ {k : Nat}, (∀ j, j < k → E j = 0) → fstE E k = 0
  | 0, _ => rfl
  | k + 1, h => by
    have := fstE_zero (fun j hj => h j (by omega) : ∀ j, j < k → E j = 0)
    unfold fstE
    rw [if_neg (by rw [this]; simp)]
    exact h k (by omega)
theorem fstE_at {E : Nat → Int} {i : Nat} (h : ∀ j, j < i → E j = 0) (hi : E i ≠ 0) : ∀ {n : Nat}, i < n → fstE E n = E i
  | 0, hn => absurd hn (by omega)
  | n + 1, hn => by
    unfold fstE
    by_cases e : i = n
    · subst e
      rw [if_neg (by rw [fstE_zero h]; simp)]
    · have := fstE_at h hi (n := n) (by omega)
      rw [if_pos (by rw [this]; exact hi), this]
theorem fstE_all {E : Nat → Int} : ∀ {n : Nat}, fstE E n = 0 → ∀ j, j < n → E j = 0
  | 0, _, j, hj => absurd hj (by omega)
  | n + 1, h, j, hj => by
    unfold fstE at h
    by_cases e : fstE E n = 0
    · rw [if_neg (by rw [e]; simp)] at h
      by_cases e2 : j = n
      · subst e2; exact h
      · exact fstE_all e j (by omega)
    · rw [if_pos e] at h; exact absurd h e
end Go.Tab
namespace Go.Proofs.Ytadkbpdbbgjkgaa
open Go Go.RowKit Go.Bv Go.Tab
set_option linter.unusedVariables false
set_option maxRecDepth 100000
theorem noneB {n : Nat} {P : Nat → Bool} (h : ∀ j, j < n → P j = false) : (List.range n).any P = false := by
  rw [List.any_eq_false]
  intro x hx
  rw [h x (List.mem_range.1 hx)]
  decide
/-- rows that came in: of any lengths -/
structure RwX (w : World) (a : Option Addr) (n cg : Nat) (R : Nat → List Int) : Prop where
  le : n ≤ cg
  most : n ≤ 17592186044416
  row : 0 < n → ∃ g gf, a = some ⟨g, gf, none⟩ ∧ ∀ i, i < n → ∃ x c, w.cell? ⟨g, gf + i, none⟩ = some (.slice x (R i).length c) ∧ ZRow w x (R i).length c (R i)
theorem RwX.stay {w w' : World} {a : Option Addr} {n cg : Nat} {R : Nat → List Int} (h : RwX w a n cg R) (hn : New w w') : RwX w' a n cg R := ⟨h.le, h.most, fun h0 => by
  obtain ⟨g, gf, e, hr⟩ := h.row h0
  refine ⟨g, gf, e, fun i hi => ?_⟩
  obtain ⟨x, c, e2, hz⟩ := hr i hi
  exact ⟨x, c, zcell e2 hn, hz.stay hn⟩⟩
/-- the row at i is one of those before it -/
def sameR (R : Nat → List Int) (i : Nat) : Bool := (List.range i).any fun k => R k == R i
/-- the head of the rows may not be -/
def badH (n nb : Nat) (R : Nat → List Int) : Prop := n < 1 ∨ 3 < n ∨ nb ≠ n ∨ (R 0).length < 1
instance (n nb : Nat) (R : Nat → List Int) : Decidable (badH n nb R) := inferInstanceAs (Decidable (_ ∨ _))
/-- the error's number of rows, with so many numbers -/
def rowE (nw n nb : Nat) (R : Nat → List Int) : Int :=
  if badH n nb R then 1
  else if (List.range n).any (fun i => (R i).length != (R 0).length) then 1
  else if fstE (fun i => fitE nw (R i)) n ≠ 0 then fstE (fun i => fitE nw (R i)) n
  else if (List.range n).any (sameR R) then 15 else 0
theorem re_head {nw n nb : Nat} {R : Nat → List Int} (h : badH n nb R) : rowE nw n nb R = 1 := by unfold rowE; rw [if_pos h]
theorem re_long {nw n nb : Nat} {R : Nat → List Int} (h : ¬ badH n nb R) {i : Nat} (hi : i < n) (hl : (R i).length ≠ (R 0).length) : rowE nw n nb R = 1 := by
  unfold rowE
  rw [if_neg h, if_pos (List.any_eq_true.2 ⟨i, List.mem_range.2 hi, by rw [bne_iff_ne]; exact hl⟩)]
theorem re_fit {nw n nb : Nat} {R : Nat → List Int} (h : ¬ badH n nb R) (hl : ∀ i, i < n → (R i).length = (R 0).length) {i : Nat} (hi : i < n) (h1 : ∀ j, j < i → fitE nw (R j) = 0) (h2 : fitE nw (R i) ≠ 0) : rowE nw n nb R = fitE nw (R i) := by
  unfold rowE
  have := fstE_at (E := fun i => fitE nw (R i)) h1 h2 hi
  rw [if_neg h, noneB (fun j hj => by rw [hl j hj]; simp), if_neg (by decide), if_pos (by rw [this]; exact h2), this]
theorem re_same {nw n nb : Nat} {R : Nat → List Int} (h : ¬ badH n nb R) (hl : ∀ i, i < n → (R i).length = (R 0).length) (hf : ∀ i, i < n → fitE nw (R i) = 0) {i k : Nat} (hi : i < n) (hk : k < i) (he : R k = R i) : rowE nw n nb R = 15 := by
  unfold rowE
  rw [if_neg h, noneB (fun j hj => by rw [hl j hj]; simp), if_neg (by decide), if_neg (by rw [fstE_zero hf]; simp), if_pos (List.any_eq_true.2 ⟨i, List.mem_range.2 hi, ?_⟩)]
  unfold sameR
  exact List.any_eq_true.2 ⟨k, List.mem_range.2 hk, by rw [he]; exact beq_self_eq_true _⟩
theorem sameR_no {R : Nat → List Int} {i : Nat} (h : ∀ k, k < i → R k ≠ R i) : sameR R i = false := noneB fun k hk => by rw [beq_eq_false_iff_ne]; exact h k hk
theorem re_ok {nw n nb : Nat} {R : Nat → List Int} (h : ¬ badH n nb R) (hl : ∀ i, i < n → (R i).length = (R 0).length) (hf : ∀ i, i < n → fitE nw (R i) = 0) (hs : ∀ i, i < n → sameR R i = false) : rowE nw n nb R = 0 := by
  unfold rowE
  rw [if_neg h, noneB (fun j hj => by rw [hl j hj]; simp), if_neg (by decide), if_neg (by rw [fstE_zero hf]; simp), noneB hs, if_neg (by decide)]
theorem re_zero {nw n nb : Nat} {R : Nat → List Int} (h : rowE nw n nb R = 0) : 0 < n ∧ n ≤ 3 ∧ nb = n ∧ 0 < (R 0).length ∧ (∀ i, i < n → (R i).length = (R 0).length) ∧ (∀ i, i < n → fitE nw (R i) = 0) ∧ ∀ i j, i < n → j < n → i ≠ j → R i ≠ R j := by
  unfold rowE at h
  by_cases e1 : badH n nb R
  · rw [if_pos e1] at h; cases h
  · rw [if_neg e1] at h
    cases e2 : (List.range n).any (fun i => (R i).length != (R 0).length) with
    | true => rw [e2, if_pos rfl] at h; cases h
    | false =>
      rw [e2, if_neg (by decide)] at h
      by_cases e3 : fstE (fun i => fitE nw (R i)) n = 0
      · rw [if_neg (by rw [e3]; simp)] at h
        cases e4 : (List.range n).any (sameR R) with
        | true => rw [e4, if_pos rfl] at h; cases h
        | false =>
          have hs : ∀ i k, i < n → k < i → R k ≠ R i := by
            intro i k hi hk he
            apply List.any_eq_false.1 e4 i (List.mem_range.2 hi)
            unfold sameR
            exact List.any_eq_true.2 ⟨k, List.mem_range.2 hk, by rw [he]; exact beq_self_eq_true _⟩
          unfold badH at e1
          refine ⟨by omega, by omega, by omega, by omega, fun i hi => ?_, fstE_all e3, fun i j hi hj hij => ?_⟩
          · have := List.any_eq_false.1 e2 i (List.mem_range.2 hi)
            simpa using this
          · by_cases e : i < j
            · exact hs j i hj e
            · exact fun he => hs i j hi (by omega) he.symm
      · rw [if_pos e3] at h; exact absurd h e3
set_option maxHeartbeats 4000000 in
theorem same_ref22 (a b : Option Addr) (m m2 ca cb : Nat) (la lb : List Int) (w : World) (ha : ZRow w a m ca la) (hb : ZRow w b m2 cb lb) :
    Calls Try.prog 48 #[.slice a m ca, .slice b m2 cb] w fun e w' => e = .returned (.bool (la == lb)) ∧ New w w' := by
  have hla := ha.len_eq
  have hlb := hb.len_eq
  have hmost := ha.most
  have HA := Lib.hid ha
  have HB := Lib.hid hb
  clear ha hb
  by_cases hmm : m = m2
  · subst hmm
    go_enter Try.func48, Try.ntmps48
    go_wp2
    go_loopw [13] (fun iv wr => ∃ k : Nat, k ≤ m ∧ iv = .int .i64 (k : Int) ∧ Hid (New w wr) ∧ Hid (∀ j, j < k → la.getD j 0 = lb.getD j 0)) (fun iv _ => m - (intOf iv).toNat)
    case atStart => exact ⟨0, Nat.zero_le _, rfl, Lib.hid (by first | exact New.refl _ | exact (New.refl _).drew), Lib.hid (fun j hj => absurd hj (by omega))⟩
    case round =>
      obtain ⟨k, hk, rfl, HN, HE⟩ := hrel
      by_cases hlt : (k : Int) < (m : Int)
      · have hk0 : (0 : Int) ≤ (k : Int) := by omega
        obtain ⟨p1, o1, rfl, d1⟩ := (HA.out.stay HN.out).addr (by omega)
        obtain ⟨p2, o2, rfl, d2⟩ := (HB.out.stay HN.out).addr (by omega)
        replace d1 := d1 k (by omega)
        replace d2 := d2 k (by omega)
        obtain ⟨x, hx⟩ : ∃ x, la.getD k 0 = x := ⟨_, rfl⟩
        obtain ⟨y, hy⟩ : ∃ y, lb.getD k 0 = y := ⟨_, rfl⟩
        rw [hx] at d1
        rw [hy] at d2
        have HX := Lib.hid hx
        have HY := Lib.hid hy
        have HND := Lib.hid HN.out.drew
        clear hx hy
        by_cases hxy : x = y
        · subst hxy
          have hb : (x != x) = false := by simp
          have HE2 : Hid (∀ j, j < k + 1 → la.getD j 0 = lb.getD j 0) := Lib.hid (fun j hj => by
            by_cases e : j = k
            · subst e; rw [HX.out, HY.out]
            · exact HE.out j (by omega))
          go_wp2
          go_region
          go_wp2
          first
            | exact ⟨⟨k + 1, by omega, by go_num, HN, HE2⟩, by simp [intOf]; omega⟩
            | exact ⟨⟨k + 1, by omega, by go_num, HND, HE2⟩, by simp [intOf]; omega⟩
        · have hb : (x != y) = true := by rw [bne_iff_ne]; exact hxy
          have HF := Lib.hid (ne_at (la := la) (lb := lb) (i := k) (by rw [HX.out, HY.out]; exact hxy))
          go_wp2
          go_region
          go_wp2
          go_ret
          rw [HF.out]
          first | exact ⟨rfl, HN.out⟩ | exact ⟨rfl, HND.out⟩
      · obtain rfl : k = m := by omega
        have HF := Lib.hid (eq_to (by omega) (fun j hj => HE.out j (by omega)) : (la == lb) = true)
        go_wp2
        go_ret
        rw [HF.out]
        exact ⟨rfl, HN.out⟩
  · have hne : ((m : Int) != (m2 : Int)) = true := by rw [bne_iff_ne]; omega
    have HF : Hid ((la == lb) = false) := Lib.hid (by rw [beq_eq_false_iff_ne]; intro e; rw [e] at hla; omega)
    clear hla hlb
    go_enter Try.func48, Try.ntmps48
    go_wp2
    go_ret
    rw [HF.out]
    exact ⟨rfl, New.refl _⟩
set_option maxHeartbeats 8000000 in
theorem check_rows_any (a : Option Addr) (nw ca : Nat) (l : List (BitVec 64)) (ar : Option Addr) (n cg : Nat) (R : Nat → List Int) (b : Option Addr) (nb cb : Nat) (w : World) (ha : QRow w a nw ca l) (h : RwX w ar n cg R) (hnb : nb ≤ 17592186044416) :
    Calls Try.prog 46 #[.slice a nw ca, .slice ar n cg, .slice b nb cb] w fun e w' => e = .returned (.int .i64 (rowE l.length n nb R)) ∧ New w w' := by
  by_cases hbd : badH n nb R
  · have HE := Lib.hid (re_head (nw := l.length) hbd)
    have hmost := h.most
    have h3 : ((n : Int) == 0) = true ∨ (((n : Int) == 0) = false ∧ (3 : Int) < (n : Int)) ∨ (((n : Int) == 0) = false ∧ ¬ (3 : Int) < (n : Int) ∧ ((nb : Int) != (n : Int)) = true) ∨ (((n : Int) == 0) = false ∧ ¬ (3 : Int) < (n : Int) ∧ ((nb : Int) != (n : Int)) = false ∧ 0 < n ∧ (R 0).length = 0) := by
      unfold badH at hbd
      rw [beq_iff_eq, beq_eq_false_iff_ne, bne_iff_ne, bne_eq_false_iff_eq]; omega
    clear hbd ha
    rcases h3 with h3 | ⟨h3, h4⟩ | ⟨h3, h4, h5⟩ | ⟨h3, h4, h5, h6, h7⟩
    · go_enter Try.func46, Try.ntmps46
      go_wp2
      go_ret
      rw [HE.out]
      exact ⟨rfl, New.refl _⟩
    · go_enter Try.func46, Try.ntmps46
      go_wp2
      go_ret
      rw [HE.out]
      exact ⟨rfl, New.refl _⟩
    · go_enter Try.func46, Try.ntmps46
      go_wp2
      go_ret
      rw [HE.out]
      exact ⟨rfl, New.refl _⟩
    · obtain ⟨g, gf, rfl, hr⟩ := h.row h6
      obtain ⟨x, c, f0, _⟩ := hr 0 h6
      rw [h7, Nat.add_zero] at f0
      have h8 : (0 : Int) < (n : Int) := by omega
      clear h hr h6 h7
      go_enter Try.func46, Try.ntmps46
      go_wp2
      go_ret
      rw [HE.out]
      exact ⟨rfl, New.refl _⟩
  · have HBD := Lib.hid hbd
    have hmost := h.most
    have hcg := h.le
    unfold badH at hbd
    have hn1 : 0 < n := by omega
    have hn3 : n ≤ 3 := by omega
    obtain rfl : nb = n := by omega
    obtain ⟨m, hm⟩ : ∃ m, (R 0).length = m := ⟨_, rfl⟩
    have hm0 : 0 < m := by omega
    obtain ⟨g, gf, rfl, hr⟩ := h.row hn1
    have HR := Lib.hid hr
    obtain ⟨x0, c0, f0, y0⟩ := hr 0 hn1
    rw [hm, Nat.add_zero] at f0
    rw [hm] at y0
    have hmm := y0.most
    have h1 : ((nb : Int) == 0) = false := by rw [beq_eq_false_iff_ne]; omega
    have h2 : ¬ (3 : Int) < (nb : Int) := by omega
    have h3 : (0 : Int) < (nb : Int) := by omega
    have h4 : ((m : Int) == 0) = false := by rw [beq_eq_false_iff_ne]; omega
    have HA := Lib.hid ha
    have HF0 := Lib.hid f0
    have HM := Lib.hid hm
    have HGET : Hid (∀ i, i < nb → ∃ x c, (∀ w', New w w' → w'.cell? ⟨g, gf + i, none⟩ = some (.slice x (R i).length c)) ∧ ZRow w x (R i).length c (R i)) := Lib.hid (fun i hi => by
      obtain ⟨x, c, e, hz⟩ := HR.out i hi
      exact ⟨x, c, fun w' hn => zcell e hn, hz⟩)
    clear ha h hbd hr y0 hm HR
    go_enter Try.func46, Try.ntmps46
    go_wp2
    go_loopw [41] (fun iv wr => ∃ k : Nat, k ≤ nb ∧ iv = .int .i64 (k : Int) ∧ Hid (New w wr) ∧ Hid (∀ j, j < k → (R j).length = (R 0).length)) (fun iv _ => nb - (intOf iv).toNat)
    case atStart => exact ⟨0, Nat.zero_le _, rfl, Lib.hid (New.refl _), Lib.hid (fun j hj => absurd hj (by omega))⟩
    case round =>
      obtain ⟨k, hk, rfl, HN, HL⟩ := hrel
      clear f0
      by_cases hlt : (k : Int) < (nb : Int)
      · have hk0 : (0 : Int) ≤ (k : Int) := by omega
        have hkn : k < nb := by omega
        obtain ⟨x1, c1, f1, y1⟩ := HGET.out k hkn
        replace f1 := f1 _ HN.out
        have f0 := zcell HF0.out HN.out
        have hmk := y1.most
        obtain ⟨mk, hmk2⟩ : ∃ mk, (R k).length = mk := ⟨_, rfl⟩
        rw [hmk2] at f1 hmk
        have HMK := Lib.hid hmk2
        clear y1 hmk2
        rcases hb : ((mk : Int) != (m : Int)) with _ | _
        · have HL2 : Hid (∀ j, j < k + 1 → (R j).length = (R 0).length) := Lib.hid (fun j hj => by
            by_cases e : j = k
            · subst e
              rw [bne_eq_false_iff_eq] at hb
              rw [HMK.out, HM.out]; omega
            · exact HL.out j (by omega))
          go_wp2
          exact ⟨⟨k + 1, by omega, by go_num, HN, HL2⟩, by simp [intOf]; omega⟩
        · have HE := Lib.hid (re_long (nw := l.length) HBD.out (i := k) hkn (by rw [HMK.out, HM.out]; rw [bne_iff_ne] at hb; omega))
          go_wp2
          go_ret
          rw [HE.out]
          exact ⟨rfl, HN.out⟩
      · obtain rfl : k = nb := by omega
        have HGT : Hid (∀ i, i < k → ∃ x c, (∀ w', New w w' → w'.cell? ⟨g, gf + i, none⟩ = some (.slice x m c)) ∧ ZRow w x m c (R i)) := Lib.hid (fun i hi => by
          obtain ⟨x, c, e, hz⟩ := HGET.out i hi
          rw [HL.out i hi, HM.out] at e hz
          exact ⟨x, c, e, hz⟩)
        clear HGET
        go_wp2
        go_loopw [55] (fun iv wr => ∃ i : Nat, i ≤ k ∧ iv = .int .i64 (i : Int) ∧ Hid (New w wr) ∧ Hid (∀ j, j < i → fitE l.length (R j) = 0)) (fun iv _ => k - (intOf iv).toNat)
        case atStart => exact ⟨0, Nat.zero_le _, rfl, HN, Lib.hid (fun j hj => absurd hj (by omega))⟩
        case round =>
          clear HN
          obtain ⟨i, hi, rfl, HN, HFI⟩ := hrel
          by_cases hlt2 : (i : Int) < (k : Int)
          · have hi0 : (0 : Int) ≤ (i : Int) := by omega
            have hin : i < k := by omega
            obtain ⟨x1, c1, f1, y1⟩ := HGT.out i hin
            replace f1 := f1 _ HN.out
            have HS := Lib.hid (sum_any a x1 nw ca m c1 l (R i) _ (HA.out.stay HN.out) (y1.stay HN.out))
            by_cases hfe : fitE l.length (R i) = 0
            · rw [hfe] at HS
              have HF2 : Hid (∀ j, j < i + 1 → fitE l.length (R j) = 0) := Lib.hid (fun j hj => by
                by_cases e : j = i
                · subst e; exact hfe
                · exact HFI.out j (by omega))
              clear y1 hfe
              go_wp2_with fail
              refine HS.out.mono ?_
              rintro e w5 ⟨rfl, n5⟩
              have HN5 := Lib.hid (HN.out.trans n5)
              clear n5 HS f1
              go_wp2
              exact ⟨⟨i + 1, by omega, by go_num, HN5, HF2⟩, by simp [intOf]; omega⟩
            · have HE := Lib.hid (re_fit HBD.out (by intro j hj; exact HL.out j hj) hin HFI.out hfe)
              have hb : (fitE l.length (R i) != 0) = true := by rw [bne_iff_ne]; exact hfe
              clear y1 hfe
              generalize fitE l.length (R i) = E at HS HE hb
              go_wp2_with fail
              refine HS.out.mono ?_
              rintro e w5 ⟨rfl, n5⟩
              have HN5 := Lib.hid (HN.out.trans n5)
              clear n5 HS f1
              go_wp2
              go_ret
              rw [HE.out]
              exact ⟨rfl, HN5.out⟩
          · obtain rfl : i = k := by omega
            go_wp2
            go_loopw [71] (fun iv wr => ∃ i3 : Nat, i3 ≤ i ∧ iv = .int .i64 (i3 : Int) ∧ Hid (New w wr) ∧ Hid (∀ j, j < i3 → sameR R j = false)) (fun iv _ => i - (intOf iv).toNat)
            case atStart => exact ⟨0, Nat.zero_le _, rfl, HN, Lib.hid (fun j hj => absurd hj (by omega))⟩
            case round =>
              clear HN
              obtain ⟨i3, hi3, rfl, HN, HSR⟩ := hrel
              by_cases hlt3 : (i3 : Int) < (i : Int)
              · have hi0 : (0 : Int) ≤ (i3 : Int) := by omega
                have hi0k : (i3 : Int) ≤ (cg : Int) := by omega
                have hi3n : i3 < i := by omega
                obtain ⟨a1, c1, f1, y1⟩ := HGT.out i3 hi3n
                replace f1 := f1 _ HN.out
                have HY1 := Lib.hid y1
                clear y1
                go_wp2
                go_loopw [80] (fun iv wr => ∃ j : Nat, j ≤ i3 ∧ iv = .int .i64 (j : Int) ∧ Hid (New w wr) ∧ Hid (∀ q, q < j → R q ≠ R i3)) (fun iv _ => i3 - (intOf iv).toNat)
                case atStart => exact ⟨0, Nat.zero_le _, rfl, HN, Lib.hid (fun j hj => absurd hj (by omega))⟩
                case round =>
                  clear HN f1
                  obtain ⟨j, hj, rfl, HN, HD⟩ := hrel
                  by_cases hlt4 : (j : Int) < (i3 : Int)
                  · have hj0 : (0 : Int) ≤ (j : Int) := by omega
                    obtain ⟨a5, c5, f5, y5⟩ := HGT.out j (by omega)
                    replace f5 := f5 _ HN.out
                    have HE := Lib.hid (equal_any a1 a5 m c1 c5 (R i3) (R j) _ (HY1.out.stay HN.out) (y5.stay HN.out))
                    by_cases heq : R i3 = R j
                    · have HEE := Lib.hid (re_same (nw := l.length) HBD.out (by intro q hq; exact HL.out q hq) (by intro q hq; exact HFI.out q hq) (i := i3) (k := j) hi3n (by omega) heq.symm)
                      rw [heq, beq_self_eq_true] at HE
                      clear y5 heq
                      go_wp2_with fail
                      refine HE.out.mono ?_
                      rintro e w5 ⟨rfl, n5⟩
                      have HN5 := Lib.hid (HN.out.trans n5)
                      clear n5 HE f5
                      go_wp2
                      go_ret
                      rw [HEE.out]
                      exact ⟨rfl, HN5.out⟩
                    · rw [beq_eq_false_iff_ne.2 heq] at HE
                      have HD2 : Hid (∀ q, q < j + 1 → R q ≠ R i3) := Lib.hid (fun q hq => by
                        by_cases e : q = j
                        · subst e; exact fun h => heq h.symm
                        · exact HD.out q (by omega))
                      clear y5 heq
                      go_wp2_with fail
                      refine HE.out.mono ?_
                      rintro e w5 ⟨rfl, n5⟩
                      have HN5 := Lib.hid (HN.out.trans n5)
                      clear n5 HE f5
                      go_wp2
                      exact ⟨⟨j + 1, by omega, by go_num, HN5, HD2⟩, by simp [intOf]; omega⟩
                  · obtain rfl : j = i3 := by omega
                    have HS2 : Hid (∀ q, q < j + 1 → sameR R q = false) := Lib.hid (fun q hq => by
                      by_cases e : q = j
                      · subst e; exact sameR_no HD.out
                      · exact HSR.out q (by omega))
                    go_wp2
                    exact ⟨⟨j + 1, by omega, by go_num, HN, HS2⟩, by simp [intOf]; omega⟩
              · obtain rfl : i3 = i := by omega
                have HE := Lib.hid (re_ok (nw := l.length) HBD.out (by intro q hq; exact HL.out q hq) (by intro q hq; exact HFI.out q hq) HSR.out)
                go_wp2
                go_ret
                rw [HE.out]
                exact ⟨rfl, HN.out⟩
end Go.Proofs.Ytadkbpdbbgjkgaa
