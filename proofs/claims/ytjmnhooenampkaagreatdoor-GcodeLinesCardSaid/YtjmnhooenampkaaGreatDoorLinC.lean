/- gcode.fromLine, word by word; gcode.Read of any line. · gcode.Read of any line. -/
import Derived.Test.YtjmnhooenampkaaGreatDoorLinA
namespace Go.Proofs.YtjmnhooenampkaaGreatDoor
open Go Go.RowKit Go.Bv
set_option linter.unusedVariables false
set_option maxRecDepth 100000
set_option maxHeartbeats 2000000 in
theorem fl_words (S F L K : Addr) (t F0 : ByteArray) (Gs : List ByteArray) (hp : LnP t F0 Gs) (hsz : t.size ≤ 300) (h1 : ¬ t.size = 0) (hk : ¬ kdL F0 = 0) (m : Nat) (hm : szK (kdL F0) = (m : Int)) (hm1 : 1 ≤ m) (hm4 : m ≤ 4) (hl : Gs.length = m) (w : World) (hs : SenD S F L K w) (hmx : MaxL w) (V : Value) (hV : ∀ w', Calls Tryz.prog 35 #[.agg (stc (kdL F0) (qL Gs m))] w' fun e w2 => e = .returned V ∧ New w' w2) : Calls Tryz.prog 24 #[.string t] w fun e w' => (((∀ g ∈ Gs, (unhex g).isSome = true) ∧ e = .returned (.tuple #[.agg (stc (kdL F0) (qL Gs m)), V])) ∨ (¬ (∀ g ∈ Gs, (unhex g).isSome = true) ∧ e = .returned (.tuple #[.agg zStc, inV sWords (senV F)]))) ∧ New w w' := by
  have HGZ : Hid (∀ g ∈ Gs, g.size ≤ 300) := Lib.hid (by
    intro x hx
    have h9 := hp.eq
    have hle : ∀ (gs : List ByteArray) (f : List UInt8), ∀ y ∈ gs, y.size ≤ (lnJ f (gs.map fun g => g.data.toList)).length := by
      intro gs
      induction gs with
      | nil => intro f y hy; cases hy
      | cons z zs ih =>
        intro f y hy
        show y.size ≤ (f ++ 32 :: lnJ z.data.toList (zs.map fun g => g.data.toList)).length
        rw [List.length_append, List.length_cons]
        rcases List.mem_cons.1 hy with rfl | hy
        · have : ∀ (gs2 : List (List UInt8)) (f2 : List UInt8), f2.length ≤ (lnJ f2 gs2).length := by
            intro gs2 f2
            cases gs2 with
            | nil => exact Nat.le_refl _
            | cons a b => show f2.length ≤ (f2 ++ 32 :: lnJ a b).length; rw [List.length_append]; omega
          have h8 := this (zs.map fun g => g.data.toList) y.data.toList
          have h7 : y.data.toList.length = y.size := rfl
          omega
        · have := ih z.data.toList y hy
          omega
    have h8 := hle Gs F0.data.toList x hx
    rw [← h9] at h8
    have h7 : t.data.toList.length = t.size := rfl
    omega)
  obtain ⟨hp1, hp2⟩ := hp.parts
  have HSP : Hid (∀ w', New w w' → Calls Tryz.prog 42 #[.string t, .string ⟨#[32]⟩] w' fun e w2 => e = .returned (.slice (some ⟨w'.heap.size, 0, none⟩) (Gs.length + 1) (Gs.length + 1)) ∧ w2 = w'.alloc (.cells ((F0 :: Gs).map Value.string).toArray 9)) := Lib.hid (fun w' hn => by
    obtain ⟨m5, hm5⟩ := hmx.stay hn
    have h := Tryz.strings_Split t ⟨#[32]⟩ m5 w' (by omega) hm5 (by decide)
    rw [hp1, hp2] at h
    exact h)
  have hne : t.toList.isEmpty = false := by
    rw [Lib.toList_data, List.isEmpty_eq_false_iff]
    intro e
    have h9 : t.data.toList.length = 0 := by rw [e]; rfl
    exact h1 h9
  obtain ⟨w0, hw0, hb0, hn0⟩ := box5 w zStc
  have HAL := Lib.hid hw0
  have HB := Lib.hid hb0
  have H0 := Lib.hid hn0
  have HS := Lib.hid hs
  have lt0 : 1 < w.heap.size := World.block_lt_of_cell? _ _ hs.f
  have ne0 : ¬ w.heap.size = 0 := by omega
  have ne0' : ¬ 0 = w.heap.size := by omega
  have ne1 : ¬ w.heap.size = 1 := by omega
  have ne1' : ¬ 1 = w.heap.size := by omega
  have HNM := Lib.hid (fun (w' : World) (_ : New w w') => named_yes F0 hk w')
  obtain ⟨k, hkk⟩ : ∃ k, kdL F0 = k := ⟨_, rfl⟩
  rw [hkk] at HNM hm hV ⊢
  have HZ := Lib.hid hm
  have HCH := Lib.hid hV
  have HGL : Hid (Gs.length = m) := Lib.hid hl
  rw [hl] at HSP
  clear hw0 hb0 hn0 hs hmx hk hp hp1 hp2 hsz h1 hm hkk hV hl
  go_enter Tryz.func24, Tryz.ntmps24
  go_wp2_with fail
  rw [HAL.out]
  refine (HSP.out _ H0.out).mono ?_
  rintro e w1 ⟨rfl, hw1⟩
  have hb1 := heap_alloc_new w0 (.cells ((F0 :: Gs).map Value.string).toArray 9)
  have hn1 := (New.refl w0).alloc (.cells ((F0 :: Gs).map Value.string).toArray 9)
  rw [← hw1] at hb1 hn1
  have HP1 := Lib.hid hb1
  have HN1 := Lib.hid hn1
  have c0 : w1.cell? ⟨w0.heap.size, 0, none⟩ = some (.string F0) := cell_of_row _ _ 0 _ _ _ hb1
  obtain ⟨g, hg⟩ : ∃ g, w0.heap.size = g := ⟨_, rfl⟩
  rw [hg] at HP1 c0 ⊢
  clear hw1 hb1 hn1 hg HAL HSP
  go_wp2_with fail
  refine (HNM.out _ (H0.out.trans HN1.out)).mono ?_
  rintro e w2 ⟨rfl, hn2⟩
  have HP2 := Lib.hid ((hn2.block _ (lt_of_block HP1.out)).trans HP1.out)
  have HN2 := Lib.hid (HN1.out.trans hn2)
  clear hn2 c0 HP1 HN1 HNM
  go_wp2_with fail
  refine (size_any k _).mono ?_
  rintro e w3 ⟨rfl, hn3⟩
  rw [HZ.out]
  have HP3 := Lib.hid ((hn3.block _ (lt_of_block HP2.out)).trans HP2.out)
  have HN3 := Lib.hid (HN2.out.trans hn3)
  clear hn3 HP2 HN2
  obtain ⟨w5, hw5, hb5, hn5⟩ := box5 w3 #[.int .i64 k, .int .u64 0, .int .u64 0, .int .u64 0, .int .u64 0]
  have HAL5 := Lib.hid hw5
  have HB5 := Lib.hid hb5
  have HN5 := Lib.hid hn5
  obtain ⟨p9, hp9⟩ : ∃ p, w3.heap.size = p := ⟨_, rfl⟩
  have HP9 : Hid (w3.heap.size = p9) := Lib.hid hp9
  have ha1 : ¬ m + 1 = 1 := by omega
  have ha2 : ¬ m = 0 := by omega
  have ha3 : (1 : Int) ≤ (m : Int) + 1 := by omega
  clear hw5 hb5 hn5 hp9
  go_wp2_with fail
  rw [HAL5.out]
  rw [HP9.out] at HB5 ⊢
  clear HAL5
  go_loopw [46] (fun iv wr => ∃ i : Nat, i ≤ m ∧ iv = .int .i64 (i : Int) ∧ Hid (wr.heap[p9]? = some (.cells (stc k (qL Gs i)) 27 (0, 0))) ∧ Hid (∀ j, j < i → (unhex (Gs.getD j ⟨#[]⟩)).isSome = true) ∧ Hid (New w3 wr)) (fun iv _ => m - (intOf iv).toNat)
  case atStart => exact ⟨0, Nat.zero_le _, rfl, Lib.hid (by rw [qL_zero]; exact HB5.out), Lib.hid (fun j hj => by omega), HN5⟩
  case round =>
    obtain ⟨i, hi, rfl, HBQ, HUS, HNQ⟩ := hrel
    obtain ⟨wq, hwq⟩ : ∃ z, z = wr := ⟨_, rfl⟩
    rw [← hwq] at HBQ HNQ ⊢
    clear hwq HB5 HN5
    by_cases hlt : (i : Int) < (m : Int)
    · have hi0 : (0 : Int) ≤ (i : Int) := by omega
      have hi4 : (i : Int) < 4 := by omega
      have hrow := (HNQ.out.block _ (lt_of_block HP3.out)).trans HP3.out
      have hgl := HGL.out
      have hcell : wq.cell? ⟨g, 1 + i, none⟩ = some (.string (Gs.getD i ⟨#[]⟩)) := by
        rw [cell_of_row _ _ (1 + i) _ _ _ hrow]
        rw [List.getElem?_toArray, List.getElem?_map, Nat.add_comm, List.getElem?_cons_succ, List.getElem?_eq_getElem (by omega), List.getD_eq_getElem?_getD, List.getElem?_eq_getElem (by omega)]; rfl
      have hmem : Gs.getD i ⟨#[]⟩ ∈ Gs := by
        rw [List.getD_eq_getElem?_getD, List.getElem?_eq_getElem (by omega)]; exact List.getElem_mem _
      have HUH := Lib.hid (unhex_any (Gs.getD i ⟨#[]⟩) (by have := HGZ.out _ hmem; omega) wq)
      have hwd : (unhex (Gs.getD i ⟨#[]⟩)).getD 0#64 = wL Gs i := rfl
      rw [hwd] at HUH
      have HMM := Lib.hid hmem
      clear hwd hmem hgl
      cases hus : (unhex (Gs.getD i ⟨#[]⟩)).isSome
      · rw [hus] at HUH
        have HNO : Hid (¬ (∀ g ∈ Gs, (unhex g).isSome = true)) := Lib.hid (fun h => by have := h _ HMM.out; rw [hus] at this; cases this)
        have g0 := (HS.out.stay ((H0.out.trans HN3.out).trans HNQ.out)).f
        have hb := (HNQ.out.block _ (lt_of_block ((HN3.out.block _ (lt_of_block HB.out)).trans HB.out))).trans ((HN3.out.block _ (lt_of_block HB.out)).trans HB.out)
        have k0 := cell_of_row _ _ 0 _ _ _ hb
        have k1 := cell_of_row _ _ 1 _ _ _ hb
        have k2 := cell_of_row _ _ 2 _ _ _ hb
        have k3 := cell_of_row _ _ 3 _ _ _ hb
        have k4 := cell_of_row _ _ 4 _ _ _ hb
        have kf := fun i => frozen_of_row _ _ i _ _ hb
        have HNN := Lib.hid ((H0.out.trans HN3.out).trans HNQ.out)
        clear hb hrow hus HMM
        generalize wL Gs i = x at *
        generalize Gs.getD i ⟨#[]⟩ = hx at *
        go_wp2_with fail
        refine HUH.out.mono ?_
        rintro e wB ⟨rfl, rfl⟩
        go_wp2_with fail
        have SK : Hid (∀ w', Kb17 wB w.heap.size w' → Kb17 wB w.heap.size w' ∧ w'.cell? ⟨1, 0, none⟩ = some (senV F)) := Lib.hid (fun w' h => ⟨h, (cell_eq17 (h.2 1 (World.block_lt_of_cell? _ _ g0) ne1') 0).trans g0⟩)
        have hkb : Kb17 wB w.heap.size wB := Kb17.refl _ _
        go_region_held3 (fun w' => Kb17 wB w.heap.size w' ∧ w'.cell? ⟨1, 0, none⟩ = some (senV F))
          ((refine SK.out _ ?_; repeat (first | with_reducible assumption | with_reducible exact Kb17.refl _ _ | with_reducible refine Kb17.drew ?_ | with_reducible refine Kb17.set ?_ _ _)))
          (fail)
        all_goals
          clear SK
          go_wp2
          refine bodyPost_ret (by simp [results, Tryz.results24, go_sem, k0, k1, k2, k3, k4]; try rfl) rfl ?_
          first | exact ⟨.inr ⟨HNO.out, rfl⟩, set5 HNN.out (by exact Nat.le_refl _) _ _ _ _ _⟩ | exact ⟨.inr ⟨HNO.out, rfl⟩, (set5 HNN.out (by exact Nat.le_refl _) _ _ _ _ _).drew⟩ | exact ⟨.inr ⟨HNO.out, rfl⟩, set5 HNN.out.drew (by exact Nat.le_refl _) _ _ _ _ _⟩
      · rw [hus] at HUH
        have HUS2 : Hid (∀ j, j < i + 1 → (unhex (Gs.getD j ⟨#[]⟩)).isSome = true) := Lib.hid (fun j hj => by
          by_cases e : j = i
          · subst e; exact hus
          · exact HUS.out j (by omega))
        have HS9 := Lib.hid (heap_setCell_same _ p9 (1 + i) _ _ (.int .u64 (W64 (wL Gs i))) HBQ.out)
        have HQS := Lib.hid (qL_set Gs k i (by omega))
        have HNS := Lib.hid (HNQ.out.setCell (p := ⟨p9, 1 + i, none⟩) (by show w3.heap.size ≤ p9; rw [HP9.out]; exact Nat.le_refl _) (.int .u64 (W64 (wL Gs i))))
        have f1 := ok_row k (qL Gs i) 27 wq wq p9 HBQ.out (New.refl _) i (by omega)
        have f2 := frozen_of_row _ _ (1 + i) _ _ HBQ.out
        clear hrow hus HMM
        generalize wL Gs i = x at *
        generalize hhx : Gs.getD i ⟨#[]⟩ = hx at *
        clear hhx
        go_wp2_with fail
        refine HUH.out.mono ?_
        rintro e w' ⟨rfl, rfl⟩
        go_wp2
        exact ⟨⟨i + 1, by omega, by go_num, Lib.hid (by rw [← HQS.out]; exact HS9.out), HUS2, HNS⟩, by simp [intOf]; omega⟩
    · obtain rfl : i = m := by omega
      have HALLS : Hid (∀ g ∈ Gs, (unhex g).isSome = true) := Lib.hid (fun x hx => by
        obtain ⟨j, hj, rfl⟩ := List.mem_iff_getElem.1 hx
        have := HUS.out j (by have := HGL.out; omega)
        rwa [List.getD_eq_getElem?_getD, List.getElem?_eq_getElem hj] at this)
      have HRB := Lib.hid ((HNQ.out.block _ (lt_of_block ((HN3.out.block _ (lt_of_block HB.out)).trans HB.out))).trans ((HN3.out.block _ (lt_of_block HB.out)).trans HB.out))
      have HNEQ : Hid (p9 ≠ w.heap.size) := Lib.hid (by have := lt_of_block ((HN3.out.block _ (lt_of_block HB.out)).trans HB.out); have := HP9.out; omega)
      have HNF := Lib.hid ((H0.out.trans HN3.out).trans HNQ.out)
      clear HB HP3 HN3 hlt ne0 ne0' ne1 ne1' lt0 HS
      go_wp2_with fail
      obtain ⟨r, hr⟩ : ∃ r, w.heap.size = r := ⟨_, rfl⟩
      have HRR : Hid (w.heap.size ≤ r) := Lib.hid (by rw [hr]; exact Nat.le_refl _)
      rw [hr] at HRB HNEQ ⊢
      clear hr
      have SK : Hid (∀ w', Kb17 wq r w' → Kb17 wq r w' ∧ w'.cell? ⟨p9, 0, none⟩ = some (.int .i64 k) ∧ w'.cell? ⟨p9, 1, none⟩ = some (.int .u64 (W64 (qL Gs i).a)) ∧ w'.cell? ⟨p9, 2, none⟩ = some (.int .u64 (W64 (qL Gs i).b)) ∧ w'.cell? ⟨p9, 3, none⟩ = some (.int .u64 (W64 (qL Gs i).c)) ∧ w'.cell? ⟨p9, 4, none⟩ = some (.int .u64 (W64 (qL Gs i).d))) := Lib.hid (fun w' h => ⟨h, cell_of_row _ _ 0 _ _ _ (h.row HBQ.out HNEQ.out), cell_of_row _ _ 1 _ _ _ (h.row HBQ.out HNEQ.out), cell_of_row _ _ 2 _ _ _ (h.row HBQ.out HNEQ.out), cell_of_row _ _ 3 _ _ _ (h.row HBQ.out HNEQ.out), cell_of_row _ _ 4 _ _ _ (h.row HBQ.out HNEQ.out)⟩)
      obtain ⟨_, ce0, ce1, ce2, ce3, ce4⟩ := SK.out wq (Kb17.refl _ _)
      have hkb : Kb17 wq r wq := Kb17.refl _ _
      go_region_held3 (fun w' => Kb17 wq r w' ∧ w'.cell? ⟨p9, 0, none⟩ = some (.int .i64 k) ∧ w'.cell? ⟨p9, 1, none⟩ = some (.int .u64 (W64 (qL Gs i).a)) ∧ w'.cell? ⟨p9, 2, none⟩ = some (.int .u64 (W64 (qL Gs i).b)) ∧ w'.cell? ⟨p9, 3, none⟩ = some (.int .u64 (W64 (qL Gs i).c)) ∧ w'.cell? ⟨p9, 4, none⟩ = some (.int .u64 (W64 (qL Gs i).d)))
        ((refine SK.out _ ?_; repeat (first | with_reducible assumption | with_reducible exact Kb17.refl _ _ | with_reducible refine Kb17.drew ?_ | with_reducible refine Kb17.set ?_ _ _)))
        (first
        | (go_at_call 35
           refine (HCH.out _).mono ?_
           rintro e q1 ⟨rfl, hc1⟩
           have hg1 : New wq q1 := by first | with_reducible exact hc1 | with_reducible exact (New.refl wq).drew.trans hc1
           have hw1 : Kb17 wq r q1 := (Kb17.refl _ _).new hg1
           have hz1 := (hg1.block _ (lt_of_block HRB.out)).trans HRB.out
           have d0 := cell_of_row _ _ 0 _ _ _ hz1
           have d1 := cell_of_row _ _ 1 _ _ _ hz1
           have d2 := cell_of_row _ _ 2 _ _ _ hz1
           have d3 := cell_of_row _ _ 3 _ _ _ hz1
           have d4 := cell_of_row _ _ 4 _ _ _ hz1
           have df := fun i => frozen_of_row _ _ i _ _ hz1
           have HG := Lib.hid (HNF.out.trans hg1)
           clear hz1 hc1 hg1))
      all_goals
        clear SK ce0 ce1 ce2 ce3 ce4
        go_wp2
        refine bodyPost_ret (by simp [results, Tryz.results24, go_sem, d0, d1, d2, d3, d4]; try rfl) rfl ?_
        first | exact ⟨.inl ⟨HALLS.out, rfl⟩, set5 HG.out HRR.out _ _ _ _ _⟩ | exact ⟨.inl ⟨HALLS.out, rfl⟩, (set5 HG.out HRR.out _ _ _ _ _).drew⟩
end Go.Proofs.YtjmnhooenampkaaGreatDoor
namespace Go.Proofs.YtjmnhooenampkaaGreatDoor
open Go Go.RowKit Go.Bv
set_option linter.unusedVariables false
set_option maxRecDepth 100000
set_option maxHeartbeats 1000000 in
theorem read_of (t : ByteArray) (w : World) (st st2 : Array Value) (V : Value) (E : Int) (h5 : ∃ k q, st2 = stc k q)
    (HF : ∀ w2, New w w2 → Calls Tryz.prog 24 #[.string t] w2 fun e w3 => e = .returned (.tuple #[.agg st, V]) ∧ New w2 w3)
    (HT : ∀ w2, New w w2 → Calls Tryz.prog 15 #[.agg st, V] w2 fun e w3 => e = .returned (.tuple #[.agg st2, .int .i64 E]) ∧ New w2 w3) :
    Calls Tryz.prog 11 #[.string t] w fun e w' => e = .returned (.tuple #[.agg st2, .int .i64 E]) ∧ New w w' := by
  obtain ⟨w0, hw0, hb0, hn0⟩ := box5 w zStc
  have HAL := Lib.hid hw0
  have HB := Lib.hid hb0
  have H0 := Lib.hid hn0
  have HF' := Lib.hid HF
  have HT' := Lib.hid HT
  obtain ⟨k, q, rfl⟩ := h5
  clear hw0 hb0 hn0 HF HT
  go_enter Tryz.func11, Tryz.ntmps11
  go_wp2_with fail
  rw [HAL.out]
  refine (HF'.out _ H0.out).mono ?_
  rintro e w1 ⟨rfl, hn1⟩
  have HB1 := Lib.hid ((hn1.block _ (lt_of_block HB.out)).trans HB.out)
  have HN1 := Lib.hid (H0.out.trans hn1)
  clear hn1 HAL HB
  go_wp2_with fail
  refine (HT'.out _ HN1.out).mono ?_
  rintro e w2 ⟨rfl, hn2⟩
  have hb := (hn2.block _ (lt_of_block HB1.out)).trans HB1.out
  have k0 := cell_of_row _ _ 0 _ _ _ hb
  have k1 := cell_of_row _ _ 1 _ _ _ hb
  have k2 := cell_of_row _ _ 2 _ _ _ hb
  have k3 := cell_of_row _ _ 3 _ _ _ hb
  have k4 := cell_of_row _ _ 4 _ _ _ hb
  have kf := fun i => frozen_of_row _ _ i _ _ hb
  have HN2 := Lib.hid (HN1.out.trans hn2)
  clear hb hn2 HB1
  go_wp2_with fail
  refine bodyPost_ret (by simp [results, Tryz.results11, go_sem, k0, k1, k2, k3, k4]; try rfl) rfl ?_
  exact ⟨rfl, set5 HN2.out (by exact Nat.le_refl _) _ _ _ _ _⟩
/-- what is wrong with a line of these parts -/
def lnE (t F0 : ByteArray) (Gs : List ByteArray) : Int :=
  if t.size = 0 then 3 else if kdL F0 = 0 then 6 else if ¬ Gs.length = nK (kdL F0) then 5 else if ¬ (∀ g ∈ Gs, (unhex g).isSome = true) then 5 else chkK (kdL F0) (qL Gs (nK (kdL F0)))
def lnK (t F0 : ByteArray) (Gs : List ByteArray) : Int := if lnE t F0 Gs = 0 then kdL F0 else 0
def lnQ (t F0 : ByteArray) (Gs : List ByteArray) : W4 := if lnE t F0 Gs = 0 then qL Gs (nK (kdL F0)) else zW4
theorem read_bad (t F0 : ByteArray) (Gs : List ByteArray) (w : World) (k : Int) (q : W4) (ty : TypeId) (v : Value) (E : Int) (hE : lnE t F0 Gs = E) (h0 : ¬ E = 0)
    (HF : ∀ w2, New w w2 → Calls Tryz.prog 24 #[.string t] w2 fun e w3 => e = .returned (.tuple #[.agg (stc k q), .iface ty v]) ∧ New w2 w3)
    (HN : ∀ w2, New w w2 → Calls Tryz.prog 30 #[.iface ty v] w2 fun e w3 => e = .returned (.int .i64 E) ∧ New w2 w3) :
    Calls Tryz.prog 11 #[.string t] w fun e w' => e = .returned (.tuple #[.agg (stc (lnK t F0 Gs) (lnQ t F0 Gs)), .int .i64 (lnE t F0 Gs)]) ∧ New w w' := by
  unfold lnK lnQ
  rw [hE, if_neg h0, if_neg h0, ← zStc_is]
  exact read_of t w (stc k q) zStc (.iface ty v) E ⟨_, _, zStc_is⟩ HF (fun w2 h2 => told_err k q ty v E w2 (fun w3 h3 => HN w3 (h2.trans h3)))
theorem read_any (S F L K : Addr) (t F0 : ByteArray) (Gs : List ByteArray) (hp : LnP t F0 Gs) (hsz : t.size ≤ 300) (w : World) (hs : SenD S F L K w) (hg : EtD 8 45 155 w) (hm : MaxL w) :
    Calls Tryz.prog 11 #[.string t] w fun e w' => e = .returned (.tuple #[.agg (stc (lnK t F0 Gs) (lnQ t F0 Gs)), .int .i64 (lnE t F0 Gs)]) ∧ New w w' := by
  obtain ⟨n1, n2, n3, n4, n5, n6⟩ := hs.ne
  have sS : senN S F L K S = 3 := by unfold senN; rw [if_pos rfl]
  have sK : senN S F L K K = 6 := by unfold senN; rw [if_neg (fun e => n3 e.symm), if_neg (fun e => n6 e.symm), if_pos rfl]
  have sF : senN S F L K F = 5 := by unfold senN; rw [if_neg (fun e => n1 e.symm), if_neg n4, if_neg n5]
  by_cases h1 : t.size = 0
  · have hE : lnE t F0 Gs = 3 := by unfold lnE; rw [if_pos h1]
    exact read_bad t F0 Gs w 0 zW4 _ _ 3 hE (by decide) (fun w2 h2 => by rw [← zStc_is]; exact fl_short S F L K t h1 w2 (hs.stay h2)) (fun w2 h2 => by rw [← sS]; exact numE_sen S F L K S w2 (hg.stay h2) (hs.stay h2) (.inl rfl))
  by_cases h2 : kdL F0 = 0
  · have hE : lnE t F0 Gs = 6 := by unfold lnE; rw [if_neg h1, if_pos h2]
    exact read_bad t F0 Gs w 0 zW4 _ _ 6 hE (by decide) (fun w2 h => by rw [← zStc_is]; exact fl_name S F L K t F0 Gs hp hsz h1 h2 w2 (hs.stay h) (hm.stay h)) (fun w2 h => by rw [← sK]; exact numE_in sName S F L K K w2 (hg.stay h) (hs.stay h) (.inr (.inr (.inr rfl))))
  obtain ⟨z1, z2, z3, _, _⟩ := szK_n (kdL_yes h2).1
  by_cases h3 : Gs.length = nK (kdL F0)
  case neg =>
    have hE : lnE t F0 Gs = 5 := by unfold lnE; rw [if_neg h1, if_neg h2, if_pos h3]
    exact read_bad t F0 Gs w 0 zW4 _ _ 5 hE (by decide) (fun w2 h => by rw [← zStc_is]; exact fl_count S F L K t F0 Gs hp hsz h1 h2 _ z1 z2 z3 h3 w2 (hs.stay h) (hm.stay h)) (fun w2 h => by rw [← sF]; exact numE_in sWords S F L K F w2 (hg.stay h) (hs.stay h) (.inr (.inl rfl)))
  have HW : ∀ w2, New w w2 → _ := fun w2 (h : New w w2) => fl_words S F L K t F0 Gs hp hsz h1 h2 _ z1 z2 z3 h3 w2 (hs.stay h) (hm.stay h) _ (fun w' => checked_any (kdL F0) (qL Gs (nK (kdL F0))) w')
  by_cases h4 : ∀ g ∈ Gs, (unhex g).isSome = true
  case neg =>
    have hE : lnE t F0 Gs = 5 := by unfold lnE; rw [if_neg h1, if_neg h2, if_neg (not_not_intro h3), if_pos h4]
    exact read_bad t F0 Gs w 0 zW4 _ _ 5 hE (by decide) (fun w2 h => (HW w2 h).mono fun e w' h9 => by
      rw [← zStc_is]
      rcases h9.1 with h8 | h8
      · exact absurd h8.1 h4
      · exact ⟨h8.2, h9.2⟩) (fun w2 h => by rw [← sF]; exact numE_in sWords S F L K F w2 (hg.stay h) (hs.stay h) (.inr (.inl rfl)))
  have hE : lnE t F0 Gs = chkK (kdL F0) (qL Gs (nK (kdL F0))) := by unfold lnE; rw [if_neg h1, if_neg h2, if_neg (not_not_intro h3), if_neg (not_not_intro h4)]
  have HB : ∀ w2, New w w2 → Calls Tryz.prog 24 #[.string t] w2 fun e w3 => e = .returned (.tuple #[.agg (stc (kdL F0) (qL Gs (nK (kdL F0)))), if chkK (kdL F0) (qL Gs (nK (kdL F0))) = 0 then .nilIface else inV sState (refV (chkK (kdL F0) (qL Gs (nK (kdL F0)))))]) ∧ New w2 w3 := fun w2 h => (HW w2 h).mono fun e w' h9 => by
    rcases h9.1 with h8 | h8
    · exact ⟨h8.2, h9.2⟩
    · exact absurd h4 h8.1
  by_cases h7 : chkK (kdL F0) (qL Gs (nK (kdL F0))) = 0
  · rw [if_pos h7] at HB
    rw [h7] at hE
    unfold lnK lnQ
    rw [hE, if_pos rfl, if_pos rfl]
    exact read_of t w _ _ .nilIface 0 ⟨_, _, rfl⟩ HB (fun w2 _ => told_nil _ _ w2)
  · rw [if_neg h7] at HB
    exact read_bad t F0 Gs w _ _ _ _ _ hE h7 HB (fun w2 h => numE_ref sState _ w2 (hg.stay h))
end Go.Proofs.YtjmnhooenampkaaGreatDoor
