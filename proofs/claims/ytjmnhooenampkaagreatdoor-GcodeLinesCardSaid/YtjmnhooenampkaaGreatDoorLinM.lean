/- Layer 17: what a line tells: the mathematics. -/
import Derived.Test.YtjmnhooenampkaaGreatDoorBakM
namespace Go.Proofs.YtjmnhooenampkaaGreatDoor
open Go Go.RowKit Go.Bv
set_option linter.unusedVariables false
set_option maxRecDepth 100000
theorem ex_lnJ : ∀ l : List UInt8, ∃ f gs, l = lnJ f gs ∧ ∀ x ∈ f :: gs, ∀ b ∈ x, b ≠ 32
  | [] => ⟨[], [], rfl, fun x hx b hb => by rcases List.mem_cons.1 hx with rfl | hx <;> simp at *⟩
  | b :: l => by
    obtain ⟨f, gs, h1, h2⟩ := ex_lnJ l
    by_cases e : b = 32
    · subst e
      refine ⟨[], f :: gs, ?_, fun x hx b hb => ?_⟩
      · rw [h1]; rfl
      · rcases List.mem_cons.1 hx with rfl | hx
        · simp at hb
        · exact h2 x hx b hb
    · refine ⟨b :: f, gs, ?_, fun x hx y hy => ?_⟩
      · rw [h1]
        cases gs <;> rfl
      · rcases List.mem_cons.1 hx with rfl | hx
        · rcases List.mem_cons.1 hy with rfl | hy
          · exact e
          · exact h2 f (List.mem_cons_self ..) y hy
        · exact h2 x (List.mem_cons_of_mem _ hx) y hy
/-- words of a line, each behind a blank -/
def flJ : List (List UInt8) → List UInt8
  | [] => []
  | g :: gs => 32 :: (g ++ flJ gs)
theorem lnJ_fl : ∀ f gs, lnJ f gs = f ++ flJ gs
  | f, [] => by show f = f ++ []; rw [List.append_nil]
  | f, g :: gs => by show f ++ 32 :: lnJ g gs = f ++ 32 :: (g ++ flJ gs); rw [lnJ_fl g gs]
theorem fl_at : ∀ (gs : List (List UInt8)), (∀ g ∈ gs, g.length = 16) → (flJ gs).length = 17 * gs.length ∧ ∀ i, i < gs.length → (flJ gs)[17 * i]? = some 32 ∧ ((flJ gs).drop (17 * i + 1)).take 16 = gs.getD i []
  | [], _ => ⟨rfl, fun i hi => absurd hi (by simp)⟩
  | g :: gs, h => by
    obtain ⟨ih1, ih2⟩ := fl_at gs (fun x hx => h x (List.mem_cons_of_mem _ hx))
    have hg := h g (List.mem_cons_self ..)
    refine ⟨?_, fun i hi => ?_⟩
    · show (32 :: (g ++ flJ gs)).length = _
      rw [List.length_cons, List.length_append, ih1, hg, List.length_cons]; omega
    · cases i with
      | zero =>
        refine ⟨rfl, ?_⟩
        show (g ++ flJ gs).take 16 = g
        rw [← hg, List.take_left]
      | succ i =>
        obtain ⟨a1, a2⟩ := ih2 i (by simpa using hi)
        have e1 : 17 * (i + 1) = (16 + 17 * i) + 1 := by omega
        refine ⟨?_, ?_⟩
        · show (32 :: (g ++ flJ gs))[17 * (i + 1)]? = _
          rw [e1, List.getElem?_cons_succ, List.getElem?_append_right (by omega), hg, show 16 + 17 * i - 16 = 17 * i by omega]
          exact a1
        · show ((32 :: (g ++ flJ gs)).drop (17 * (i + 1) + 1)).take 16 = gs.getD i []
          rw [e1, List.drop_succ_cons, show 16 + 17 * i + 1 = g.length + (17 * i + 1) by omega, ← List.drop_drop, List.drop_left]
          exact a2
theorem fl_of : ∀ (n : Nat) (r : List UInt8), r.length = 17 * n → (∀ i, i < n → r[17 * i]? = some 32) → r = flJ ((List.range n).map fun i => (r.drop (17 * i + 1)).take 16)
  | 0, r, h, _ => by
    have : r = [] := List.eq_nil_of_length_eq_zero (by omega)
    subst this; rfl
  | n + 1, r, h, hb => by
    have h0 := hb 0 (by omega)
    rcases r with _ | ⟨b, r1⟩
    · simp at h
    obtain rfl : b = 32 := by simpa using h0
    have hl : r1.length = 16 + 17 * n := by rw [List.length_cons] at h; omega
    have ih := fl_of n (r1.drop 16) (by rw [List.length_drop]; omega) (fun i hi => by
      have := hb (i + 1) (by omega)
      rw [show 17 * (i + 1) = (16 + 17 * i) + 1 by omega, List.getElem?_cons_succ] at this
      rw [List.getElem?_drop]; exact this)
    rw [List.range_succ_eq_map, List.map_cons, List.map_map]
    show 32 :: r1 = 32 :: (((32 :: r1).drop 1).take 16 ++ flJ _)
    congr 1
    show r1 = r1.take 16 ++ flJ _
    have e : (List.range n).map (fun i => ((r1.drop 16).drop (17 * i + 1)).take 16) = (List.range n).map ((fun i => ((32 :: r1).drop (17 * i + 1)).take 16) ∘ Nat.succ) := by
      apply List.map_congr_left
      intro i _
      show _ = ((32 :: r1).drop (17 * (i + 1) + 1)).take 16
      rw [show 17 * (i + 1) + 1 = (16 + (17 * i + 1)) + 1 by omega, List.drop_succ_cons, List.drop_drop]
    rw [← e, ← ih, List.take_append_drop]
/-- the same text cut at its blanks is the same parts -/
theorem lnJ_inj {f f' : List UInt8} {gs gs' : List (List UInt8)} (h : lnJ f gs = lnJ f' gs') (h1 : ∀ x ∈ f :: gs, ∀ b ∈ x, b ≠ 32) (h2 : ∀ x ∈ f' :: gs', ∀ b ∈ x, b ≠ 32) : f = f' ∧ gs = gs' := by
  have c1 := cnt_lnJ f gs h1
  have c2 := cnt_lnJ f' gs' h2
  rw [h, c2] at c1
  have s1 := spl_lnJ f gs h1
  have s2 := spl_lnJ f' gs' h2
  rw [h, ← c1, s2] at s1
  cases s1
  exact ⟨rfl, rfl⟩
theorem unhex_no {s : ByteArray} (h : (unhex s).isSome = true) : s.size = 16 ∧ ∀ b ∈ s.data.toList, b ≠ 32 := by
  have h16 : s.size = 16 := by
    unfold unhex at h
    by_cases e : s.size = 16
    · exact e
    · rw [if_neg e] at h; cases h
  refine ⟨h16, fun b hb e => ?_⟩
  obtain ⟨i, hi, he⟩ := List.mem_iff_getElem.1 hb
  have hl : s.data.toList.length = 16 := h16
  have hn := unhex_bad s i (by omega) h16 (by
    rw [List.getD_eq_getElem?_getD, List.getElem?_eq_getElem hi, Option.getD_some, he, e]; rfl)
  rw [hn] at h; cases h
/-- the parts of a line: what stands ahead of the first blank, and what stands behind each one -/
structure LnP (t F : ByteArray) (Gs : List ByteArray) : Prop where
  eq : t.data.toList = lnJ F.data.toList (Gs.map fun g => g.data.toList)
  no : ∀ b ∈ F.data.toList, b ≠ 32
  nos : ∀ g ∈ Gs, ∀ b ∈ g.data.toList, b ≠ 32
theorem ex_LnP (t : ByteArray) : ∃ F Gs, LnP t F Gs := by
  obtain ⟨f, gs, h1, h2⟩ := ex_lnJ t.data.toList
  have e : ∀ l : List (List UInt8), (l.map fun g => (⟨g.toArray⟩ : ByteArray)).map (fun g => g.data.toList) = l := fun l => by
    rw [List.map_map]
    exact (List.map_congr_left (fun x _ => rfl)).trans (List.map_id _)
  refine ⟨⟨f.toArray⟩, gs.map fun g => ⟨g.toArray⟩, by rw [e]; exact h1, h2 f (List.mem_cons_self ..), fun g hg b hb => ?_⟩
  obtain ⟨x, hx, rfl⟩ := List.mem_map.1 hg
  exact h2 x (List.mem_cons_of_mem _ hx) b hb
theorem LnP.all {t F : ByteArray} {Gs : List ByteArray} (h : LnP t F Gs) : ∀ x ∈ F.data.toList :: (Gs.map fun g => g.data.toList), ∀ b ∈ x, b ≠ 32 := by
  intro x hx
  rcases List.mem_cons.1 hx with rfl | hx
  · exact h.no
  · obtain ⟨g, hg, rfl⟩ := List.mem_map.1 hx
    exact h.nos g hg
theorem LnP.parts {t F : ByteArray} {Gs : List ByteArray} (h : LnP t F Gs) : Lib.countB t ⟨#[32]⟩ = Gs.length ∧ Lib.splitB ⟨#[32]⟩ 0 Gs.length t = F :: Gs := by
  have hc := cnt_lnJ _ _ h.all
  have hs := spl_lnJ _ _ h.all
  rw [List.length_map, ← h.eq] at hc hs
  refine ⟨hc, ?_⟩
  have h2 := Lib.splitB_data ⟨#[32]⟩ 0 Gs.length t
  have h3 : (Lib.splitB ⟨#[32]⟩ 0 Gs.length t).map (fun s => s.data.toList) = (F :: Gs).map (fun s => s.data.toList) := h2.trans hs
  refine (List.map_inj_right ?_).1 h3
  intro a b hab
  exact ByteArray.ext (Array.toList_inj.1 hab)
/-- the place of a word in a line -/
def atL (F : ByteArray) (i : Nat) : Nat := F.size + 17 * i
/-- a line whose words are right, word by word -/
theorem LnP.right {t F : ByteArray} {Gs : List ByteArray} (h : LnP t F Gs) (hu : ∀ g ∈ Gs, (unhex g).isSome = true) : t.size = F.size + 17 * Gs.length ∧ ∀ i, i < Gs.length → t.data.toList[atL F i]? = some 32 ∧ t.extract (atL F i + 1) (atL F i + 17) = Gs.getD i ⟨#[]⟩ := by
  have h16 : ∀ g ∈ (Gs.map fun g => g.data.toList), g.length = 16 := fun g hg => by
    obtain ⟨x, hx, rfl⟩ := List.mem_map.1 hg
    exact (unhex_no (hu x hx)).1
  obtain ⟨a1, a2⟩ := fl_at _ h16
  rw [List.length_map] at a1 a2
  have he : t.data.toList = F.data.toList ++ flJ (Gs.map fun g => g.data.toList) := by rw [h.eq, lnJ_fl]
  have hF : F.data.toList.length = F.size := rfl
  refine ⟨?_, fun i hi => ?_⟩
  · have : t.data.toList.length = t.size := rfl
    rw [← this, he, List.length_append, a1]; omega
  · obtain ⟨b1, b2⟩ := a2 i hi
    refine ⟨?_, ?_⟩
    · rw [he]
      unfold atL
      rw [List.getElem?_append_right (by omega), hF, Nat.add_sub_cancel_left]
      exact b1
    · apply ByteArray.ext
      apply Array.toList_inj.1
      rw [Lib.extract_data, he]
      unfold atL
      rw [show F.size + 17 * i + 1 = F.data.toList.length + (17 * i + 1) by omega, ← List.drop_drop, List.drop_left, show F.size + 17 * i + 17 - (F.data.toList.length + (17 * i + 1)) = 16 by omega, b2]
      rw [List.getD_eq_getElem?_getD, List.getD_eq_getElem?_getD, List.getElem?_map, List.getElem?_eq_getElem hi]
      rfl
/-- where the document finds each word right, they are the line's parts -/
theorem LnP.doc {t F : ByteArray} {Gs : List ByteArray} (h : LnP t F Gs) {n : Nat} (hl : t.size = F.size + 17 * n) (hb : ∀ i, i < n → t.data.toList[atL F i]? = some 32) (hu : ∀ i, i < n → (unhex (t.extract (atL F i + 1) (atL F i + 17))).isSome = true) :
    Gs = (List.range n).map fun i => t.extract (atL F i + 1) (atL F i + 17) := by
  have he : t.data.toList = F.data.toList ++ flJ (Gs.map fun g => g.data.toList) := by rw [h.eq, lnJ_fl]
  have hF : F.data.toList.length = F.size := rfl
  have ht : t.data.toList.length = t.size := rfl
  have hr : (flJ (Gs.map fun g => g.data.toList)).length = 17 * n := by
    have := congrArg List.length he
    rw [List.length_append] at this; omega
  have hf := fl_of n _ hr (fun i hi => by
    have := hb i hi
    rw [he] at this
    unfold atL at this
    rw [List.getElem?_append_right (by omega), hF, Nat.add_sub_cancel_left] at this
    exact this)
  have hx : ∀ i, (t.extract (atL F i + 1) (atL F i + 17)).data.toList = ((flJ (Gs.map fun g => g.data.toList)).drop (17 * i + 1)).take 16 := fun i => by
    rw [Lib.extract_data, he]
    unfold atL
    rw [show F.size + 17 * i + 1 = F.data.toList.length + (17 * i + 1) by omega, ← List.drop_drop, List.drop_left, show F.size + 17 * i + 17 - (F.data.toList.length + (17 * i + 1)) = 16 by omega]
  have hm : ((List.range n).map fun i => t.extract (atL F i + 1) (atL F i + 17)).map (fun g => g.data.toList) = (List.range n).map fun i => ((flJ (Gs.map fun g => g.data.toList)).drop (17 * i + 1)).take 16 := by
    rw [List.map_map]
    exact List.map_congr_left (fun i _ => hx i)
  have hq : LnP t F ((List.range n).map fun i => t.extract (atL F i + 1) (atL F i + 17)) := by
    refine ⟨?_, h.no, fun g hg => ?_⟩
    · rw [he, hm, lnJ_fl, ← hf]
    · obtain ⟨i, hi, rfl⟩ := List.mem_map.1 hg
      exact (unhex_no (hu i (List.mem_range.1 hi))).2
  have hi := (lnJ_inj (h.eq.symm.trans hq.eq) h.all hq.all).2
  refine (List.map_inj_right ?_).1 hi
  intro a b hab
  exact ByteArray.ext (Array.toList_inj.1 hab)
end Go.Proofs.YtjmnhooenampkaaGreatDoor
