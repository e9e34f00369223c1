/- Layer 43: what is wrong with a table: the program's and the document's; what a pair tells. -/
import Derived.Test.YtbjclkjikclljaaAliD
namespace Go.Ali
/-- the error's number of a table -/
def tE (T : BitVec 64) (be : List (BitVec 64)) (al : List Int) : Int :=
  if be.length < 1 ∨ 256 < be.length ∨ al.length ≠ be.length then 5 else if T.toNat = 0 then 8 else if 1099511627776 < T.toNat then 9
  else if (List.range be.length).any (fun i => decide (T.toNat < (be.getD i 0).toNat)) then 9
  else if (List.range be.length).any (fun i => decide (al.getD i 0 < 0 ∨ (be.length : Int) ≤ al.getD i 0)) then 2 else 0
theorem te_len {T : BitVec 64} {be : List (BitVec 64)} {al : List Int} (h : be.length < 1 ∨ 256 < be.length ∨ al.length ≠ be.length) : tE T be al = 5 := by unfold tE; rw [if_pos h]
theorem te_zero {T : BitVec 64} {be : List (BitVec 64)} {al : List Int} (h : ¬ (be.length < 1 ∨ 256 < be.length ∨ al.length ≠ be.length)) (h2 : T.toNat = 0) : tE T be al = 8 := by unfold tE; rw [if_neg h, if_pos h2]
theorem te_over {T : BitVec 64} {be : List (BitVec 64)} {al : List Int} (h : ¬ (be.length < 1 ∨ 256 < be.length ∨ al.length ≠ be.length)) (h2 : T.toNat ≠ 0) (h3 : 1099511627776 < T.toNat) : tE T be al = 9 := by unfold tE; rw [if_neg h, if_neg h2, if_pos h3]
theorem te_below {T : BitVec 64} {be : List (BitVec 64)} {al : List Int} (h : ¬ (be.length < 1 ∨ 256 < be.length ∨ al.length ≠ be.length)) (h2 : T.toNat ≠ 0) (h3 : ¬ 1099511627776 < T.toNat) {i : Nat} (hi : i < be.length) (h4 : T.toNat < (be.getD i 0).toNat) : tE T be al = 9 := by
  unfold tE; rw [if_neg h, if_neg h2, if_neg h3, if_pos (List.any_eq_true.2 ⟨i, List.mem_range.2 hi, decide_eq_true h4⟩)]
theorem anyno {n : Nat} {P : Nat → Prop} [DecidablePred P] (h : ∀ i, i < n → ¬ P i) : (List.range n).any (fun i => decide (P i)) = false := by
  rw [List.any_eq_false]
  intro x hx
  simp only [decide_eq_true_eq]
  exact h x (List.mem_range.1 hx)
theorem te_item {T : BitVec 64} {be : List (BitVec 64)} {al : List Int} (h : ¬ (be.length < 1 ∨ 256 < be.length ∨ al.length ≠ be.length)) (h2 : T.toNat ≠ 0) (h3 : ¬ 1099511627776 < T.toNat) (h4 : ∀ i, i < be.length → ¬ T.toNat < (be.getD i 0).toNat) {i : Nat} (hi : i < be.length) (h5 : al.getD i 0 < 0 ∨ (be.length : Int) ≤ al.getD i 0) : tE T be al = 2 := by
  unfold tE; rw [if_neg h, if_neg h2, if_neg h3, anyno h4, if_neg (by decide), if_pos (List.any_eq_true.2 ⟨i, List.mem_range.2 hi, decide_eq_true h5⟩)]
theorem te_ok {T : BitVec 64} {be : List (BitVec 64)} {al : List Int} (h : ¬ (be.length < 1 ∨ 256 < be.length ∨ al.length ≠ be.length)) (h2 : T.toNat ≠ 0) (h3 : ¬ 1099511627776 < T.toNat) (h4 : ∀ i, i < be.length → ¬ T.toNat < (be.getD i 0).toNat) (h5 : ∀ i, i < be.length → ¬ (al.getD i 0 < 0 ∨ (be.length : Int) ≤ al.getD i 0)) : tE T be al = 0 := by
  unfold tE; rw [if_neg h, if_neg h2, if_neg h3, anyno h4, if_neg (by decide), anyno h5, if_neg (by decide)]
end Go.Ali
namespace Go.Proofs.Ytbjclkjikclljaa
open Go Go.RowKit Go.Bv Go.Ali
set_option linter.unusedVariables false
set_option maxRecDepth 100000
/-- a table that is read -/
structure TL (w : World) (ab : Option Addr) (nb cb : Nat) (aa : Option Addr) (na ca : Nat) (be : List (BitVec 64)) (al : List Int) : Prop where
  b : QRow w ab nb cb be
  a : ZRow w aa na ca al
theorem TL.stay {w w' : World} {ab aa : Option Addr} {nb cb na ca : Nat} {be : List (BitVec 64)} {al : List Int} (h : TL w ab nb cb aa na ca be al) (hn : New w w') : TL w' ab nb cb aa na ca be al := ⟨h.b.stay hn, h.a.stay hn⟩
abbrev tv (T : BitVec 64) (ab : Option Addr) (nb cb : Nat) (aa : Option Addr) (na ca : Nat) : Value := .agg #[.int .u64 (W64 T), .slice ab nb cb, .slice aa na ca]
set_option maxHeartbeats 8000000 in
theorem check_43 (T : BitVec 64) (ab : Option Addr) (nb cb : Nat) (aa : Option Addr) (na ca : Nat) (be : List (BitVec 64)) (al : List Int) (w : World) (h : TL w ab nb cb aa na ca be al) :
    Calls Try.prog 13 #[tv T ab nb cb aa na ca] w fun e w' => e = .returned (.int .i64 (tE T be al)) ∧ New w w' := by
  have hlb := h.b.len_eq
  have hla := h.a.len_eq
  have hmb := h.b.most
  have hma := h.a.most
  have hbx := heap_alloc_new w (TB (.int .u64 (W64 T)) (.slice ab nb cb) (.slice aa na ca))
  have hn0 := (New.refl w).alloc (TB (.int .u64 (W64 T)) (.slice ab nb cb) (.slice aa na ca))
  have k0 := cell_of_row _ _ 0 _ _ _ hbx
  have k1 := cell_of_row _ _ 1 _ _ _ hbx
  have k2 := cell_of_row _ _ 2 _ _ _ hbx
  have HBX := Lib.hid hbx
  have HN0 := Lib.hid hn0
  clear hbx hn0
  by_cases h1 : be.length < 1 ∨ 256 < be.length ∨ al.length ≠ be.length
  · have HE := Lib.hid (te_len (T := T) h1)
    rw [hlb, hla] at h1
    have h3 : ((nb : Int) == 0) = true ∨ (((nb : Int) == 0) = false ∧ (256 : Int) < (nb : Int)) ∨ (((nb : Int) == 0) = false ∧ ¬ (256 : Int) < (nb : Int) ∧ ((na : Int) != (nb : Int)) = true) := by
      rw [beq_iff_eq, beq_eq_false_iff_ne, bne_iff_ne]; omega
    clear h1 h hlb hla
    rcases h3 with h3 | ⟨h3, h4⟩ | ⟨h3, h4, h5⟩
    all_goals (
      go_enter Try.func13, Try.ntmps13
      go_wp2
      go_ret
      rw [HE.out]
      exact ⟨rfl, HN0.out⟩)
  · have HLE := Lib.hid h1
    have z1 : ((nb : Int) == 0) = false := by rw [beq_eq_false_iff_ne]; omega
    have z2 : ¬ (256 : Int) < (nb : Int) := by omega
    have hj : 0 < nb := by omega
    obtain rfl : na = nb := by omega
    by_cases h2 : T.toNat = 0
    · have HE := Lib.hid (te_zero h1 h2)
      have hT : (T == 0#64) = true := by rw [beq_iff_eq]; exact BitVec.eq_of_toNat_eq h2
      clear h1 h hlb hla h2
      go_enter Try.func13, Try.ntmps13
      go_wp2
      go_ret
      rw [HE.out]
      exact ⟨rfl, HN0.out⟩
    · have hT : (T == 0#64) = false := by rw [beq_eq_false_iff_ne]; intro e; apply h2; rw [e]; rfl
      by_cases h3 : 1099511627776 < T.toNat
      · have HE := Lib.hid (te_over h1 h2 h3)
        have hd : decide (1099511627776 < W64 T) = true := decide_eq_true (by unfold W64; omega)
        clear h1 h hlb hla h2 h3
        go_enter Try.func13, Try.ntmps13
        go_wp2
        go_ret
        rw [HE.out]
        exact ⟨rfl, HN0.out⟩
      · have hd : decide (1099511627776 < W64 T) = false := decide_eq_false (by unfold W64; omega)
        have HT0 := Lib.hid h2
        have HT9 := Lib.hid h3
        obtain ⟨p1, o1, e1, _⟩ := h.b.addr hj
        subst e1
        obtain ⟨p2, o2, e2, _⟩ := h.a.addr hj
        subst e2
        have HB := Lib.hid h.b
        have HA := Lib.hid h.a
        have HLB := Lib.hid hlb
        clear h1 h hlb hla h2 h3
        go_enter Try.func13, Try.ntmps13
        go_wp2
        go_loopw [33] (fun iv wr => ∃ k : Nat, k ≤ na ∧ iv = .int .i64 (k : Int) ∧ Hid (New (w.alloc (TB (.int .u64 (W64 T)) (.slice (some ⟨p1, o1, none⟩) na cb) (.slice (some ⟨p2, o2, none⟩) na ca))) wr) ∧ Hid (∀ i, i < k → ¬ T.toNat < (be.getD i 0).toNat)) (fun iv _ => na - (intOf iv).toNat)
        case atStart => exact ⟨0, Nat.zero_le _, rfl, Lib.hid (New.refl _), Lib.hid (fun i hi => absurd hi (by omega))⟩
        case round =>
          clear k0 k1 k2
          obtain ⟨k, hk, rfl, HN, HS⟩ := hrel
          by_cases hlt : (k : Int) < (na : Int)
          · have hk0 : (0 : Int) ≤ (k : Int) := by omega
            have hkn : k < na := by omega
            have d1 := (HB.out.stay (HN0.out.trans HN.out)).cell p1 o1 rfl k hkn
            have k0 := cell_of_row _ _ 0 _ _ _ (blk_stay HBX.out HN.out)
            obtain ⟨x, hx⟩ : ∃ x, be.getD k 0 = x := ⟨_, rfl⟩
            rw [hx] at d1
            have HX := Lib.hid hx
            have hdd := dlt T x
            clear hx
            rcases hb : decide (T.toNat < x.toNat) with _ | _
            · rw [hb] at hdd
              have HS2 : Hid (∀ i, i < k + 1 → ¬ T.toNat < (be.getD i 0).toNat) := Lib.hid (fun i hi => by
                by_cases e : i = k
                · subst e; rw [HX.out]; exact of_decide_eq_false hb
                · exact HS.out i (by omega))
              clear hb
              go_wp2
              exact ⟨⟨k + 1, by omega, by go_num, HN, HS2⟩, by simp [intOf]; omega⟩
            · rw [hb] at hdd
              have HE := Lib.hid (te_below HLE.out HT0.out HT9.out (i := k) (by rw [HLB.out]; exact hkn) (by rw [HX.out]; exact of_decide_eq_true hb))
              clear hb
              go_wp2
              go_ret
              rw [HE.out]
              exact ⟨rfl, HN0.out.trans HN.out⟩
          · obtain rfl : k = na := by omega
            have k2 := cell_of_row _ _ 2 _ _ _ (blk_stay HBX.out HN.out)
            go_wp2
            go_loopw [45] (fun iv wr => ∃ i : Nat, i ≤ k ∧ iv = .int .i64 (i : Int) ∧ Hid (New w wr) ∧ Hid (∀ j, j < i → ¬ (al.getD j 0 < 0 ∨ (be.length : Int) ≤ al.getD j 0))) (fun iv _ => k - (intOf iv).toNat)
            case atStart => exact ⟨0, Nat.zero_le _, rfl, Lib.hid (HN0.out.trans HN.out), Lib.hid (fun i hi => absurd hi (by omega))⟩
            case round =>
              clear k2
              obtain ⟨i, hi, rfl, HN2, HS2⟩ := hrel
              by_cases hlt2 : (i : Int) < (k : Int)
              · have hi0 : (0 : Int) ≤ (i : Int) := by omega
                have hik : i < k := by omega
                have d1 := (HA.out.stay HN2.out).cell p2 o2 rfl i hik
                obtain ⟨x, hx⟩ : ∃ x, al.getD i 0 = x := ⟨_, rfl⟩
                rw [hx] at d1
                have HX := Lib.hid hx
                clear hx
                by_cases hb1 : x < 0
                · have HE := Lib.hid (te_item HLE.out HT0.out HT9.out (by rw [HLB.out]; exact HS.out) (i := i) (by rw [HLB.out]; exact hik) (by rw [HX.out]; exact Or.inl hb1))
                  go_wp2
                  go_ret
                  rw [HE.out]
                  exact ⟨rfl, HN2.out⟩
                · by_cases hb2 : (k : Int) ≤ x
                  · have HE := Lib.hid (te_item HLE.out HT0.out HT9.out (by rw [HLB.out]; exact HS.out) (i := i) (by rw [HLB.out]; exact hik) (by rw [HX.out, HLB.out]; exact Or.inr hb2))
                    go_wp2
                    go_ret
                    rw [HE.out]
                    exact ⟨rfl, HN2.out⟩
                  · have HS3 : Hid (∀ j, j < i + 1 → ¬ (al.getD j 0 < 0 ∨ (be.length : Int) ≤ al.getD j 0)) := Lib.hid (fun j hj => by
                      by_cases e : j = i
                      · subst e; rw [HX.out, HLB.out]; omega
                      · exact HS2.out j (by omega))
                    go_wp2
                    exact ⟨⟨i + 1, by omega, by go_num, HN2, HS3⟩, by simp [intOf]; omega⟩
              · obtain rfl : i = k := by omega
                have HE := Lib.hid (te_ok HLE.out HT0.out HT9.out (by rw [HLB.out]; exact HS.out) (by intro j hj; rw [HLB.out] at hj; exact HS2.out j hj))
                go_wp2
                go_ret
                rw [HE.out]
                exact ⟨rfl, HN2.out⟩
set_option maxHeartbeats 8000000 in
theorem table_43 (T : BitVec 64) (ab : Option Addr) (nb cb : Nat) (aa : Option Addr) (na ca : Nat) (be : List (BitVec 64)) (al : List Int) (w : World) (h : TL w ab nb cb aa na ca be al) :
    Calls Try.prog 14 #[tv T ab nb cb aa na ca] w fun e w' => e = .returned (.int .i64 (tE T be al)) ∧ New w w' := by
  have hlb := h.b.len_eq
  have hla := h.a.len_eq
  have hmb := h.b.most
  have hma := h.a.most
  have hbx := heap_alloc_new w (TB (.int .u64 (W64 T)) (.slice ab nb cb) (.slice aa na ca))
  have hn0 := (New.refl w).alloc (TB (.int .u64 (W64 T)) (.slice ab nb cb) (.slice aa na ca))
  have k0 := cell_of_row _ _ 0 _ _ _ hbx
  have k1 := cell_of_row _ _ 1 _ _ _ hbx
  have k2 := cell_of_row _ _ 2 _ _ _ hbx
  have HBX := Lib.hid hbx
  have HN0 := Lib.hid hn0
  clear hbx hn0
  by_cases h1 : be.length < 1 ∨ 256 < be.length ∨ al.length ≠ be.length
  · have HE := Lib.hid (te_len (T := T) h1)
    rw [hlb, hla] at h1
    have h3 : (nb : Int) < 1 ∨ (¬ (nb : Int) < 1 ∧ (256 : Int) < (nb : Int)) ∨ (¬ (nb : Int) < 1 ∧ ¬ (256 : Int) < (nb : Int) ∧ ((nb : Int) != (na : Int)) = true) := by
      rw [bne_iff_ne]; omega
    clear h1 h hlb hla
    rcases h3 with h3 | ⟨h3, h4⟩ | ⟨h3, h4, h5⟩
    all_goals (
      go_enter Try.func14, Try.ntmps14
      go_wp2
      go_ret
      rw [HE.out]
      exact ⟨rfl, HN0.out⟩)
  · have HLE := Lib.hid h1
    have z1 : ¬ (nb : Int) < 1 := by omega
    have z2 : ¬ (256 : Int) < (nb : Int) := by omega
    have hj : 0 < nb := by omega
    obtain rfl : na = nb := by omega
    by_cases h2 : T.toNat = 0
    · have HE := Lib.hid (te_zero h1 h2)
      have hT : (T == 0#64) = true := by rw [beq_iff_eq]; exact BitVec.eq_of_toNat_eq h2
      clear h1 h hlb hla h2
      go_enter Try.func14, Try.ntmps14
      go_wp2
      go_ret
      rw [HE.out]
      exact ⟨rfl, HN0.out⟩
    · have hT : (T == 0#64) = false := by rw [beq_eq_false_iff_ne]; intro e; apply h2; rw [e]; rfl
      by_cases h3 : 1099511627776 < T.toNat
      · have HE := Lib.hid (te_over h1 h2 h3)
        have hd : decide (1099511627776 < W64 T) = true := decide_eq_true (by unfold W64; omega)
        clear h1 h hlb hla h2 h3
        go_enter Try.func14, Try.ntmps14
        go_wp2
        go_ret
        rw [HE.out]
        exact ⟨rfl, HN0.out⟩
      · have hd : decide (1099511627776 < W64 T) = false := decide_eq_false (by unfold W64; omega)
        have HT0 := Lib.hid h2
        have HT9 := Lib.hid h3
        obtain ⟨p1, o1, e1, _⟩ := h.b.addr hj
        subst e1
        obtain ⟨p2, o2, e2, _⟩ := h.a.addr hj
        subst e2
        have HB := Lib.hid h.b
        have HA := Lib.hid h.a
        have HLB := Lib.hid hlb
        clear h1 h hlb hla h2 h3
        go_enter Try.func14, Try.ntmps14
        go_wp2
        go_loopw [33] (fun iv wr => ∃ k : Nat, k ≤ na ∧ iv = .int .i64 (k : Int) ∧ Hid (New (w.alloc (TB (.int .u64 (W64 T)) (.slice (some ⟨p1, o1, none⟩) na cb) (.slice (some ⟨p2, o2, none⟩) na ca))) wr) ∧ Hid (∀ i, i < k → ¬ T.toNat < (be.getD i 0).toNat)) (fun iv _ => na - (intOf iv).toNat)
        case atStart => exact ⟨0, Nat.zero_le _, rfl, Lib.hid (New.refl _), Lib.hid (fun i hi => absurd hi (by omega))⟩
        case round =>
          clear k0 k1 k2
          obtain ⟨k, hk, rfl, HN, HS⟩ := hrel
          by_cases hlt : (k : Int) < (na : Int)
          · have hk0 : (0 : Int) ≤ (k : Int) := by omega
            have hkn : k < na := by omega
            have d1 := (HB.out.stay (HN0.out.trans HN.out)).cell p1 o1 rfl k hkn
            have k0 := cell_of_row _ _ 0 _ _ _ (blk_stay HBX.out HN.out)
            obtain ⟨x, hx⟩ : ∃ x, be.getD k 0 = x := ⟨_, rfl⟩
            rw [hx] at d1
            have HX := Lib.hid hx
            have hdd := dlt T x
            clear hx
            rcases hb : decide (T.toNat < x.toNat) with _ | _
            · rw [hb] at hdd
              have HS2 : Hid (∀ i, i < k + 1 → ¬ T.toNat < (be.getD i 0).toNat) := Lib.hid (fun i hi => by
                by_cases e : i = k
                · subst e; rw [HX.out]; exact of_decide_eq_false hb
                · exact HS.out i (by omega))
              clear hb
              go_wp2
              exact ⟨⟨k + 1, by omega, by go_num, HN, HS2⟩, by simp [intOf]; omega⟩
            · rw [hb] at hdd
              have HE := Lib.hid (te_below HLE.out HT0.out HT9.out (i := k) (by rw [HLB.out]; exact hkn) (by rw [HX.out]; exact of_decide_eq_true hb))
              clear hb
              go_wp2
              go_ret
              rw [HE.out]
              exact ⟨rfl, HN0.out.trans HN.out⟩
          · obtain rfl : k = na := by omega
            have k2 := cell_of_row _ _ 2 _ _ _ (blk_stay HBX.out HN.out)
            go_wp2
            go_loopw [45] (fun iv wr => ∃ i : Nat, i ≤ k ∧ iv = .int .i64 (i : Int) ∧ Hid (New w wr) ∧ Hid (∀ j, j < i → ¬ (al.getD j 0 < 0 ∨ (be.length : Int) ≤ al.getD j 0))) (fun iv _ => k - (intOf iv).toNat)
            case atStart => exact ⟨0, Nat.zero_le _, rfl, Lib.hid (HN0.out.trans HN.out), Lib.hid (fun i hi => absurd hi (by omega))⟩
            case round =>
              clear k2
              obtain ⟨i, hi, rfl, HN2, HS2⟩ := hrel
              by_cases hlt2 : (i : Int) < (k : Int)
              · have hi0 : (0 : Int) ≤ (i : Int) := by omega
                have hik : i < k := by omega
                have d1 := (HA.out.stay HN2.out).cell p2 o2 rfl i hik
                obtain ⟨x, hx⟩ : ∃ x, al.getD i 0 = x := ⟨_, rfl⟩
                rw [hx] at d1
                have HX := Lib.hid hx
                clear hx
                by_cases hb1 : x < 0
                · have HE := Lib.hid (te_item HLE.out HT0.out HT9.out (by rw [HLB.out]; exact HS.out) (i := i) (by rw [HLB.out]; exact hik) (by rw [HX.out]; exact Or.inl hb1))
                  go_wp2
                  go_ret
                  rw [HE.out]
                  exact ⟨rfl, HN2.out⟩
                · by_cases hb2 : (k : Int) ≤ x
                  · have HE := Lib.hid (te_item HLE.out HT0.out HT9.out (by rw [HLB.out]; exact HS.out) (i := i) (by rw [HLB.out]; exact hik) (by rw [HX.out, HLB.out]; exact Or.inr hb2))
                    go_wp2
                    go_ret
                    rw [HE.out]
                    exact ⟨rfl, HN2.out⟩
                  · have HS3 : Hid (∀ j, j < i + 1 → ¬ (al.getD j 0 < 0 ∨ (be.length : Int) ≤ al.getD j 0)) := Lib.hid (fun j hj => by
                      by_cases e : j = i
                      · subst e; rw [HX.out, HLB.out]; omega
                      · exact HS2.out j (by omega))
                    go_wp2
                    exact ⟨⟨i + 1, by omega, by go_num, HN2, HS3⟩, by simp [intOf]; omega⟩
              · obtain rfl : i = k := by omega
                have HE := Lib.hid (te_ok HLE.out HT0.out HT9.out (by rw [HLB.out]; exact HS.out) (by intro j hj; rw [HLB.out] at hj; exact HS2.out j hj))
                go_wp2
                go_ret
                rw [HE.out]
                exact ⟨rfl, HN2.out⟩
end Go.Proofs.Ytbjclkjikclljaa
