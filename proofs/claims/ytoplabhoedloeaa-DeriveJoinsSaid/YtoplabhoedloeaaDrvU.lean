/- Layer 45: the document's Parts. -/
import Derived.Test.YtoplabhoedloeaaDrvP
namespace Go.Drv
open Go Go.RowKit Go.Bv
set_option linter.unusedVariables false
theorem bs_ext (l s : List UInt8) (k : Nat) (h : k < l.length) : bs s ++ (bs l).extract k (k + 1) = bs (s ++ [l.getD k 0]) := by
  apply ByteArray.ext
  unfold bs
  rw [List.getD_eq_getElem?_getD, List.getElem?_eq_getElem h]
  apply Array.ext'
  simp
  rw [List.take_add_one]
  simp [h]
theorem take_step (l : List UInt8) (k : Nat) (h : k < l.length) : l.take (k + 1) = l.take k ++ [l.getD k 0] := by
  rw [List.take_add_one, List.getD_eq_getElem?_getD, List.getElem?_eq_getElem h]; rfl
theorem take_cut (l : List UInt8) (k : Nat) (h : k < l.length) (h47 : l.getD k 0 = 47) : ∃ r, spl l = spl (l.take k) ++ spl r := by
  refine ⟨l.drop (k + 1), ?_⟩
  rw [← spl_app]
  congr 1
  have : l.drop k = 47 :: l.drop (k + 1) := by
    rw [List.drop_eq_getElem_cons h]
    rw [List.getD_eq_getElem?_getD, List.getElem?_eq_getElem h] at h47
    have h47 : l[k] = 47 := h47
    rw [h47]
  rw [← this, List.take_append_drop]
/-- the loop of the document's Parts, as far as it has come -/
structure RP (l : List UInt8) (k : Nat) (ps : List (List UInt8)) (s : List UInt8) : Prop where
  at' : k ≤ l.length → spl (l.take k) = ps ++ [s]
  all : k = l.length + 1 → spl l = ps
  good : fstE ps = 0
  short : s.length ≤ k
theorem RP.start (l : List UInt8) : RP l 0 [] [] := ⟨fun _ => by rw [List.take_zero]; rfl, fun h => by omega, rfl, Nat.le_refl _⟩
theorem RP.byte {l : List UInt8} {k : Nat} {ps : List (List UInt8)} {s : List UInt8} (h : RP l k ps s) (hk : k < l.length) (hb : l.getD k 0 ≠ 47) : RP l (k + 1) ps (s ++ [l.getD k 0]) :=
  ⟨fun _ => by rw [take_step l k hk]; exact spl_snoc _ hb _ _ _ (h.at' (by omega)), fun e => by omega, h.good, by have := h.short; simp; omega⟩
theorem RP.part {l : List UInt8} {k : Nat} {ps : List (List UInt8)} {s : List UInt8} (h : RP l k ps s) (hk : k ≤ l.length) (hb : k < l.length → l.getD k 0 = 47) (hs : labE s = 0) : RP l (k + 1) (ps ++ [s]) [] := by
  refine ⟨fun h2 => ?_, fun h2 => ?_, by rw [fst_snoc _ _ h.good]; exact hs, by simp⟩
  · rw [take_step l k (by omega), hb (by omega), spl_sep, h.at' hk]
  · obtain rfl : k = l.length := by omega
    have := h.at' hk
    rwa [List.take_length] at this
theorem RP.bad {l : List UInt8} {k : Nat} {ps : List (List UInt8)} {s : List UInt8} (h : RP l k ps s) (hl : l ≠ []) (hk : k ≤ l.length) (hb : k < l.length → l.getD k 0 = 47) (hs : labE s ≠ 0) : ptE (pts l) = labE s := by
  have h1 : ∃ r, spl l = (ps ++ [s]) ++ r := by
    by_cases hlt : k < l.length
    · obtain ⟨r, hr⟩ := take_cut l k hlt (hb hlt)
      exact ⟨spl r, by rw [hr, h.at' hk]⟩
    · obtain rfl : k = l.length := by omega
      have := h.at' hk
      rw [List.take_length] at this
      exact ⟨[], by rw [this, List.append_nil]⟩
  obtain ⟨r, hr⟩ := h1
  have hp : pts l = (ps ++ [s]) ++ r := by unfold pts; rw [if_neg hl]; exact hr
  have hf : fstE (ps ++ [s]) = labE s := fst_snoc _ _ h.good
  have hf2 : fstE (pts l) = labE s := by rw [hp, fst_app, if_neg (by rw [hf]; exact hs), hf]
  unfold ptE
  rw [hf2, if_pos hs]
theorem RP.end {l : List UInt8} {ps : List (List UInt8)} {s : List UInt8} (h : RP l (l.length + 1) ps s) (hl : l ≠ []) : pts l = ps ∧ ptE (pts l) = if 16 < ps.length then 9 else 0 := by
  have hp : pts l = ps := by unfold pts; rw [if_neg hl]; exact h.all rfl
  refine ⟨hp, ?_⟩
  unfold ptE
  rw [hp, if_neg (by rw [h.good]; decide)]
end Go.Drv
namespace Go.Proofs.Ytoplabhoedloeaa
open Go Go.RowKit Go.Bv Go.Drv
set_option linter.unusedVariables false
set_option maxRecDepth 100000
set_option maxHeartbeats 4000000 in
theorem partsr_q (l : List UInt8) (hlim : l.length ≤ 1000000) (w : World) :
    Calls Try.prog 15 #[.string (bs l)] w fun e w' => PtP 9 w l e w' := by
  obtain ⟨i0, hi, hz0, hz1, hz2⟩ := info_parts info_str
  by_cases hl : l = []
  · subst hl
    have hb : bs [] = ⟨#[]⟩ := rfl
    rw [hb]
    clear hlim hb
    go_enter Try.func15, Try.ntmps15
    go_wp2
    go_ret2
    exact ⟨Or.inr ⟨rfl, _, rfl, World.ownsRow_nil _ _ _ _⟩, New.refl w⟩
  · have hem : (bs l).toList.isEmpty = false := by
      rw [bs_list]
      cases l with
      | nil => exact absurd rfl hl
      | cons x y => rfl
    have HNE := Lib.hid hl
    have hsz := bs_size l
    have HBX := Lib.hid (bs_ext l)
    obtain ⟨n, hn⟩ : ∃ n, l.length = n := ⟨_, rfl⟩
    rw [hn] at hsz hlim
    have HN := Lib.hid hn
    clear hl hn
    go_enter Try.func15, Try.ntmps15
    go_wp2
    go_loopw [4, 5, 6] (fun v sv iv wr => ∃ (k : Nat) (ps : List (List UInt8)) (s : List UInt8), k ≤ n + 1 ∧ iv = .int .i64 (k : Int) ∧ sv = .string (bs s) ∧ Hid (RP l k ps s) ∧ Hid (wr.ownsRow w.heap.size 9 1 v ps.length (ps.map fun x => Value.string (bs x))) ∧ Hid (New w wr) ∧ Hid (ps.length ≤ k)) (fun _ _ iv _ => n + 1 - (intOf iv).toNat)
    case atStart => exact ⟨0, [], [], Nat.zero_le _, rfl, rfl, Lib.hid (RP.start l), Lib.hid (World.ownsRow_nil w _ _ 1), Lib.hid (New.refl w), Lib.hid (Nat.le_refl _)⟩
    case round =>
      obtain ⟨k, ps, s, hk, rfl, rfl, HR, HO, HW, HPL⟩ := hrel
      have hk0 : (0 : Int) ≤ (k : Int) := by omega
      by_cases hle : (k : Int) ≤ (n : Int)
      · by_cases hlt : (k : Int) < (n : Int)
        · have hks : k < (bs l).size := by omega
          have hget := bs_get l k
          obtain ⟨c, hc⟩ : ∃ c, l.getD k 0 = c := ⟨_, rfl⟩
          rw [hc] at hget
          have HC := Lib.hid hc
          by_cases h47 : c = 47
          · have h47i : ((c.toNat : Int) != 47) = false := by
              subst h47; decide
            have HB47 : Hid (k < l.length → l.getD k 0 = 47) := Lib.hid (fun _ => by rw [HC.out]; exact h47)
            clear hc
            have HQ := Lib.hid (labelr_q s wr)
            obtain ⟨e0, he0⟩ : ∃ z, labE s = z := ⟨_, rfl⟩
            rw [he0] at HQ
            have HE0 := Lib.hid he0
            clear he0
            by_cases e00 : e0 = 0
            · have HR2 := Lib.hid (HR.out.part (by rw [HN.out]; omega) HB47.out (by rw [HE0.out]; exact e00))
              subst e00
              have hpk : ps.length ≤ 1000001 := by have := HPL.out; omega
              have HPL2 : Hid ((ps ++ [s]).length ≤ k + 1) := Lib.hid (by have := HPL.out; simp; omega)
              go_wp2_with fail
              refine (HQ.out).mono ?_
              rintro e w' ⟨rfl, hw⟩
              replace hw := hw.symm
              subst hw
              have hown := HO.out
              have hnew := HW.out
              go_wp2_with (at_builtin; refine wpList_append_own _ rfl _ _ 34 rfl w.heap.size 9 i0 (.string ⟨#[]⟩) 1 16 Try.underlying34 hi hz0 hz1 hz2 rfl (by decide) _ ps.length _ rfl (hown.alloc _) ⟨wr.heap.size, 0, none⟩ 1 1 [.string (bs s)] rfl rfl ?c1 ?c2 ?c3 ?c4 ?c5 ?_)
              try (case c1 => exact new_cells wr _ _)
              try (case c2 => first | rfl | (intro u hu; simp at hu; subst hu; rfl))
              try (case c3 => first | (unfold maxLen; omega) | omega)
              try (case c4 => omega)
              try (case c5 => first | (simp; have := hnew.le; omega) | (have := hnew.le; omega))
              intro v' w1 how hgr _
              have HO2 : Hid (w1.ownsRow w.heap.size 9 1 v' (ps ++ [s]).length ((ps ++ [s]).map fun x => Value.string (bs x))) := Lib.hid (by
                rw [List.length_append, List.map_append]; exact how)
              have HN1 := Lib.hid ((hnew.alloc _).grown' hgr (fun k e => (hown.lt k e).1))
              clear how hgr hown hnew
              go_wp2
              exact ⟨⟨k + 1, ps ++ [s], [], by omega, by go_num, rfl, HR2, HO2, HN1, HPL2⟩, by first | (simp [intOf]; done) | (simp [intOf]; omega)⟩
            · have hd : (e0 != 0) = true := by rw [bne_iff_ne]; exact e00
              have HPT := Lib.hid (HR.out.bad HNE.out (by rw [HN.out]; omega) HB47.out (by rw [HE0.out]; exact e00))
              go_wp2_with fail
              refine (HQ.out).mono ?_
              rintro e w' ⟨rfl, hw⟩
              replace hw := hw.symm
              subst hw
              go_wp2
              go_ret2
              rw [HE0.out] at HPT
              exact ⟨Or.inl ⟨by rw [HPT.out]; exact e00, by rw [HPT.out]; rfl⟩, HW.out⟩
          · have h47i : ((c.toNat : Int) != 47) = true := by
              rw [bne_iff_ne]
              intro e
              exact h47 (UInt8.toNat_inj.1 (by show c.toNat = 47; omega))
            have hcat := HBX.out s k (by rw [HN.out]; omega)
            rw [hc] at hcat
            have hss := bs_size s
            have hsl := HR.out.short
            have hlen : ¬ (bs s).size + ((bs l).extract k (k + 1)).size > 9223372036854775807 := by
              have h1 : (bs s ++ (bs l).extract k (k + 1)).size = (bs (s ++ [c])).size := by rw [hcat]
              have h2 : (s ++ [c]).length = s.length + 1 := by simp
              rw [ByteArray.size_append, bs_size (s ++ [c]), h2] at h1
              omega
            have HR2 : Hid (RP l (k + 1) ps (s ++ [c])) := Lib.hid (by
              have := HR.out.byte (by rw [HN.out]; omega) (by rw [HC.out]; exact h47)
              rwa [HC.out] at this)
            have HPL2 : Hid (ps.length ≤ k + 1) := Lib.hid (by have := HPL.out; omega)
            clear hc
            go_wp2
            exact ⟨⟨k + 1, ps, s ++ [c], by omega, by go_num, rfl, HR2, HO, HW, HPL2⟩, by first | (simp [intOf]; done) | (simp [intOf]; omega)⟩
        · obtain rfl : k = n := by omega
          have HB47 : Hid (k < l.length → l.getD k 0 = 47) := Lib.hid (fun h => absurd h (by rw [HN.out]; omega))
          have HQ := Lib.hid (labelr_q s wr)
          obtain ⟨e0, he0⟩ : ∃ z, labE s = z := ⟨_, rfl⟩
          rw [he0] at HQ
          have HE0 := Lib.hid he0
          clear he0
          by_cases e00 : e0 = 0
          · have HR2 := Lib.hid (HR.out.part (by rw [HN.out]; omega) HB47.out (by rw [HE0.out]; exact e00))
            subst e00
            have hpk : ps.length ≤ 1000001 := by have := HPL.out; omega
            have HPL2 : Hid ((ps ++ [s]).length ≤ k + 1) := Lib.hid (by have := HPL.out; simp; omega)
            go_wp2_with fail
            refine (HQ.out).mono ?_
            rintro e w' ⟨rfl, hw⟩
            replace hw := hw.symm
            subst hw
            have hown := HO.out
            have hnew := HW.out
            go_wp2_with (at_builtin; refine wpList_append_own _ rfl _ _ 34 rfl w.heap.size 9 i0 (.string ⟨#[]⟩) 1 16 Try.underlying34 hi hz0 hz1 hz2 rfl (by decide) _ ps.length _ rfl (hown.alloc _) ⟨wr.heap.size, 0, none⟩ 1 1 [.string (bs s)] rfl rfl ?c1 ?c2 ?c3 ?c4 ?c5 ?_)
            try (case c1 => exact new_cells wr _ _)
            try (case c2 => first | rfl | (intro u hu; simp at hu; subst hu; rfl))
            try (case c3 => first | (unfold maxLen; omega) | omega)
            try (case c4 => omega)
            try (case c5 => first | (simp; have := hnew.le; omega) | (have := hnew.le; omega))
            intro v' w1 how hgr _
            have HO2 : Hid (w1.ownsRow w.heap.size 9 1 v' (ps ++ [s]).length ((ps ++ [s]).map fun x => Value.string (bs x))) := Lib.hid (by
              rw [List.length_append, List.map_append]; exact how)
            have HN1 := Lib.hid ((hnew.alloc _).grown' hgr (fun k e => (hown.lt k e).1))
            clear how hgr hown hnew
            go_wp2
            exact ⟨⟨k + 1, ps ++ [s], [], by omega, by go_num, rfl, HR2, HO2, HN1, HPL2⟩, by first | (simp [intOf]; done) | (simp [intOf]; omega)⟩
          · have hd : (e0 != 0) = true := by rw [bne_iff_ne]; exact e00
            have HPT := Lib.hid (HR.out.bad HNE.out (by rw [HN.out]; omega) HB47.out (by rw [HE0.out]; exact e00))
            go_wp2_with fail
            refine (HQ.out).mono ?_
            rintro e w' ⟨rfl, hw⟩
            replace hw := hw.symm
            subst hw
            go_wp2
            go_ret2
            rw [HE0.out] at HPT
            exact ⟨Or.inl ⟨by rw [HPT.out]; exact e00, by rw [HPT.out]; rfl⟩, HW.out⟩
      · obtain rfl : k = n + 1 := by omega
        have HEN := Lib.hid ((show RP l (l.length + 1) ps s by rw [HN.out]; exact HR.out).end HNE.out)
        obtain ⟨a, c, rfl⟩ := own_slice HO.out
        by_cases h16 : (16 : Int) < (ps.length : Int)
        · have HPT : Hid (ptE (pts l) = 9) := Lib.hid (by rw [HEN.out.2, if_pos (by omega)])
          go_wp2
          go_ret2
          exact ⟨Or.inl ⟨by rw [HPT.out]; decide, by rw [HPT.out]; rfl⟩, HW.out⟩
        · have HPT : Hid (ptE (pts l) = 0) := Lib.hid (by rw [HEN.out.2, if_neg (by omega)])
          go_wp2
          go_ret2
          exact ⟨Or.inr ⟨HPT.out, _, rfl, by rw [HEN.out.1]; exact HO.out⟩, HW.out⟩
end Go.Proofs.Ytoplabhoedloeaa
