import Derived.Test.YthkmcnlciefnfaaGreatZ5Grow
/- Plain lemmas: a region that draws its order, whose calls come one behind the other, whose loads may read what the region itself writes at its end: one walk in the order of the text. Kinds of operations: 0: it yields one value in every world of the wider class A; 1: in every world of B, and what writes waits for it; 2: a call: from B to B; 3: what writes: from B or A to A. -/
namespace Go.Gro2
open Go Go.Grow
set_option linter.unusedVariables false
section
variable {P : Program} {ops : Array Oper} {md : Region.Mode} {A B : World → Prop} {kd : Nat → Nat}
/-- the class of the worlds as far as it has come: nothing written yet, or something -/
def cls (A B : World → Prop) (p : Bool) : World → Prop := if p then A else B
def still? (kd : Nat → Nat) (k : Nat) : Bool := decide (kd k ≤ 1)
def cK (kd : Nat → Nat) (k : Nat) (p : Bool) : Prop := kd k = 0 ∨ p = false
def CK (A B : World → Prop) (kd : Nat → Nat) (k : Nat) : World → Prop := if kd k = 0 then A else B
def dK (kd : Nat → Nat) (k : Nat) (p : Bool) : Prop := kd k ≠ 2 ∨ p = false
def postK (A B : World → Prop) (kd : Nat → Nat) (k : Nat) : World → Prop := if kd k = 2 then B else A
def nxK (kd : Nat → Nat) (k : Nat) : Bool := decide (kd k ≠ 2)
def step (P : Program) (ops : Array Oper) (A B : World → Prop) (kd : Nat → Nat) (k : Nat) (o : Oper) (K : Bool → (World → Prop) → Act → Prop) (p : Bool) (G : World → Prop) (a : Act) : Prop :=
  if Region.wanted o (yielded ops a.tmps) then
    if still? kd k then cK kd k p ∧ ∃ v, stillIn P o a (CK A B kd k) v ∧ K p G (a.put o.dst v)
    else dK kd k p ∧ ∃ (V : Value → Prop) (R : Value → World → Prop), (∃ v, V v) ∧ (∀ w, cls A B p w → G w → growAt P o a (postK A B kd k) (fun v w => V v ∧ R v w) w) ∧ ∀ v, V v → K (nxK kd k) (R v) (a.put o.dst v)
  else K p G (a.put o.dst undef)
def gOp (P : Program) (ops : Array Oper) (A B : World → Prop) (kd : Nat → Nat) (k : Nat) (K : Bool → (World → Prop) → Act → Prop) (p : Bool) (G : World → Prop) (a : Act) : Prop :=
  match ops[k]? with
  | none => K p G a
  | some o => step P ops A B kd k o K p G a
theorem step_mono {k : Nat} {o : Oper} {K K' : Bool → (World → Prop) → Act → Prop} {p : Bool} {G : World → Prop} {a : Act} (h : ∀ p G a, K p G a → K' p G a) (hh : step P ops A B kd k o K p G a) : step P ops A B kd k o K' p G a := by
  unfold step at *
  split
  · rename_i hw
    rw [if_pos hw] at hh
    split
    · rename_i hc
      rw [if_pos hc] at hh
      obtain ⟨c, v, h1, h2⟩ := hh
      exact ⟨c, v, h1, h _ _ _ h2⟩
    · rename_i hc
      rw [if_neg hc] at hh
      obtain ⟨d, V, R, hv, h1, h2⟩ := hh
      exact ⟨d, V, R, hv, h1, fun v hv => h _ _ _ (h2 v hv)⟩
  · rename_i hw
    rw [if_neg hw] at hh
    exact h _ _ _ hh
theorem gOp_mono {k : Nat} {K K' : Bool → (World → Prop) → Act → Prop} {p : Bool} {G : World → Prop} {a : Act} (h : ∀ p G a, K p G a → K' p G a) (hh : gOp P ops A B kd k K p G a) : gOp P ops A B kd k K' p G a := by
  unfold gOp at *
  split
  · rename_i ho; simp only [ho] at hh; exact h _ _ _ hh
  · rename_i o ho; simp only [ho] at hh; exact step_mono h hh
/-- whatever order is picked from here on -/
def wpAnyG (P : Program) (md : Region.Mode) (ops : Array Oper) (A B : World → Prop) (kd : Nat → Nat) (Q : Bool → (World → Prop) → Act → Prop) : Nat → Array Bool → Bool → (World → Prop) → Act → Prop
  | 0, listed, p, G, a => Region.ready md ops listed = [] ∧ Q p G a
  | fuel + 1, listed, p, G, a =>
    (Region.ready md ops listed = [] → Q p G a) ∧
    ∀ i ∈ Region.ready md ops listed, gOp P ops A B kd i (wpAnyG P md ops A B kd Q fuel (listed.setIfInBounds i true)) p G a
theorem cls_A (hAB : ∀ w, B w → A w) {p : Bool} {w : World} (h : cls A B p w) : A w := by
  unfold cls at h; split at h
  · exact h
  · exact hAB _ h
theorem wpOp_of_gOp (hAB : ∀ w, B w → A w) {i : Nat} {a : Act} {p : Bool} {G : World → Prop} {K : Bool → (World → Prop) → Act → Prop} {K' : Act → World → Prop} {Q' : Exit → Act → World → Prop} {w : World} (hB : cls A B p w) (hG : G w)
    (h : ∀ p G a w', cls A B p w' → G w' → K p G a → K' a w') (hh : gOp P ops A B kd i K p G a) : wpOp P ops Q' i K' a w := by
  unfold gOp at hh
  unfold wpOp
  split
  · rename_i ho; simp only [ho] at hh; exact h _ _ _ _ hB hG hh
  · rename_i o ho
    simp only [ho] at hh
    unfold step at hh
    split
    · rename_i hw
      rw [if_pos hw] at hh
      left
      split at hh
      · obtain ⟨c, v, h1, h2⟩ := hh
        refine wp_of_still (B := CK A B kd i) ?_ h1 (h _ _ _ _ hB hG h2)
        unfold CK
        split
        · exact cls_A hAB hB
        · rename_i h0
          rcases c with c | c
          · exact absurd c h0
          · subst c; exact hB
      · obtain ⟨d, V, R, _, h1, h2⟩ := hh
        refine wp_of_grow (h1 w hB hG) fun v w' b1 b3 => h _ _ _ _ ?_ b3.2 (h2 v b3.1)
        unfold postK at b1
        unfold nxK cls
        split at b1 <;> rename_i hk <;> simp [hk] <;> exact b1
    · rename_i hw
      rw [if_neg hw] at hh
      exact h _ _ _ _ hB hG hh
theorem wpAny_of_grow (hAB : ∀ w, B w → A w) {Q : Bool → (World → Prop) → Act → Prop} {Q' : Exit → Act → World → Prop} (hQ : ∀ p G a w, cls A B p w → G w → Q p G a → Q' .normal a w) : ∀ (fuel : Nat) (listed : Array Bool) (p : Bool) (G : World → Prop) (a : Act) (w : World), cls A B p w → G w →
    wpAnyG P md ops A B kd Q fuel listed p G a → wpAny P md ops Q' fuel listed a w
  | 0, _, _, _, _, _, hB, hG, h => ⟨h.1, hQ _ _ _ _ hB hG h.2⟩
  | fuel + 1, _, _, _, _, _, hB, hG, h => ⟨fun h0 => hQ _ _ _ _ hB hG (h.1 h0), fun i hi => wpOp_of_gOp hAB hB hG (fun p' G' a' w' b g => wpAny_of_grow hAB hQ fuel _ p' G' a' w' b g) (h.2 i hi)⟩
/-- what may not change places -/
def cf (a b : Nat) : Bool := (decide (2 ≤ a) && decide (2 ≤ b)) || (decide (3 ≤ a) && decide (b = 1)) || (decide (a = 1) && decide (3 ≤ b))
theorem step_comm (hAB : ∀ w, B w → A w) {i j : Nat} {oi oj : Oper} (hB : ∃ w, B w) (hap : oi.apart ops oj = true) (hsi : ∀ c b, oi.op ≠ .select c b) (hsj : ∀ c b, oj.op ≠ .select c b) (hcs : ¬ cf (kd i) (kd j) = true)
    {K : Bool → (World → Prop) → Act → Prop} {p : Bool} {G : World → Prop} {a : Act} (h : step P ops A B kd i oi (fun p G a => step P ops A B kd j oj K p G a) p G a) : step P ops A B kd j oj (fun p G a => step P ops A B kd i oi K p G a) p G a := by
  obtain ⟨h1, h2, h3⟩ := Oper.apart_spec hap
  have hC : ∀ k, ∃ w, CK A B kd k w := fun k => by
    obtain ⟨w, hw⟩ := hB
    refine ⟨w, ?_⟩
    unfold CK; split
    · exact hAB _ hw
    · exact hw
  have wi : ∀ (a : Act) (u : Value), Region.wanted oi (yielded ops (a.put oj.dst u).tmps) = Region.wanted oi (yielded ops a.tmps) := fun a u => wanted_put oi a oj.dst u h3
  have wj : ∀ (a : Act) (u : Value), Region.wanted oj (yielded ops (a.put oi.dst u).tmps) = Region.wanted oj (yielded ops a.tmps) := fun a u => wanted_put oj a oi.dst u h1
  have cm : ∀ (a : Act) (v u : Value), (a.put oi.dst v).put oj.dst u = (a.put oj.dst u).put oi.dst v := fun a v u => Act.put_comm a v u h2
  unfold step at *
  simp only [wi, wj] at *
  by_cases hwi : Region.wanted oi (yielded ops a.tmps) = true
  · rw [if_pos hwi] at h
    by_cases hwj : Region.wanted oj (yielded ops a.tmps) = true
    · simp only [hwi, hwj, if_true] at *
      by_cases hci : still? kd i = true
      · have hci0 : still? kd i = true := hci
        rw [if_pos hci] at h
        obtain ⟨ci, v, hv, hk⟩ := h
        split at hk
        · rename_i hcj
          rw [if_pos hcj]
          obtain ⟨cj, u, hu, hk⟩ := hk
          exact ⟨cj, u, (still_put hsj h1).1 hu, by rw [if_pos hci0]; exact ⟨ci, v, (still_put hsi h3).2 hv, by rw [← cm]; exact hk⟩⟩
        · rename_i hcj
          rw [if_neg hcj]
          obtain ⟨dj, V, R, hV, hr, hk⟩ := hk
          have cn : cK kd i (nxK kd j) := by
            unfold cK at ci ⊢
            rcases ci with ci | ci
            · exact Or.inl ci
            · unfold still? at hci hcj
              simp only [decide_eq_true_eq] at hci hcj
              unfold cf at hcs
              unfold nxK
              simp at hcs
              by_cases h0 : kd i = 0
              · exact Or.inl h0
              · right
                simp
                have : kd i = 1 := by omega
                have := hcs.2 this
                omega
          exact ⟨dj, V, R, hV, fun w b g => (grow_put hsj h1).1 (hr w b g), fun u hu => by rw [if_pos hci0]; exact ⟨cn, v, (still_put hsi h3).2 hv, by rw [← cm]; exact hk u hu⟩⟩
      · have hci2 : ¬ still? kd i = true := hci
        rw [if_neg hci2] at h
        obtain ⟨di, V, R, ⟨v0, hv0⟩, hr, hk⟩ := h
        by_cases hcj : still? kd j = true
        · simp only [hcj, if_true] at *
          obtain ⟨cj, u, hu, _⟩ := hk v0 hv0
          rw [still_put hsj h1] at hu
          have cp : cK kd j p := by
            unfold cK at cj ⊢
            rcases cj with cj | cj
            · exact Or.inl cj
            · unfold nxK at cj
              simp at cj
              rcases di with di | di
              · exact absurd cj di
              · exact Or.inr di
          refine ⟨cp, u, hu, ?_⟩
          rw [if_neg hci2]
          refine ⟨di, V, R, ⟨v0, hv0⟩, fun w b g => (grow_put hsi h3).2 (hr w b g), fun v hv => ?_⟩
          obtain ⟨_, u', hu', hk'⟩ := hk v hv
          rw [still_put hsj h1] at hu'
          obtain ⟨w0, hw0⟩ := hC j
          have e : u' = u := stillUpon_one (hu' w0 hw0) (hu w0 hw0)
          rw [← cm, ← e]; exact hk'
        · exfalso
          apply hcs
          unfold still? at hci2 hcj
          simp only [decide_eq_true_eq] at hci2 hcj
          unfold cf
          simp
          omega
    · simp only [hwi, hwj, if_true, Bool.false_eq_true, if_false] at *
      split at h
      · rename_i hci
        rw [if_pos hci]
        obtain ⟨c, v, hv, hk⟩ := h
        exact ⟨c, v, (still_put hsi h3).2 hv, by rw [← cm]; exact hk⟩
      · rename_i hci
        rw [if_neg hci]
        obtain ⟨d, V, R, hV, hr, hk⟩ := h
        exact ⟨d, V, R, hV, fun w b g => (grow_put hsi h3).2 (hr w b g), fun v hv => by rw [← cm]; exact hk v hv⟩
  · rw [if_neg hwi] at h
    by_cases hwj : Region.wanted oj (yielded ops a.tmps) = true
    · simp only [hwi, hwj, if_true, Bool.false_eq_true, if_false] at *
      split at h
      · rename_i hcj
        rw [if_pos hcj]
        obtain ⟨c, u, hu, hk⟩ := h
        exact ⟨c, u, (still_put hsj h1).1 hu, by rw [← cm]; exact hk⟩
      · rename_i hcj
        rw [if_neg hcj]
        obtain ⟨d, V, R, hV, hr, hk⟩ := h
        exact ⟨d, V, R, hV, fun w b g => (grow_put hsj h1).1 (hr w b g), fun u hu => by rw [← cm]; exact hk u hu⟩
    · simp only [hwi, hwj, Bool.false_eq_true, if_false] at *
      rw [← cm]; exact h
/-- of two that may not change places one waits for the other -/
def ordered (md : Region.Mode) (ops : Array Oper) (kd : Nat → Nat) : Bool :=
  let t := table md ops.toList #[]
  let l := (List.range ops.size).filter fun i => decide (1 ≤ kd i)
  l.all fun i => l.all fun j => i == j || !(cf (kd i) (kd j)) || (t.getD j 0).testBit i || (t.getD i 0).testBit j
theorem ordered_spec (h : ordered md ops kd = true) {i j : Nat} (li : i < ops.size) (lj : j < ops.size) (hc : cf (kd i) (kd j) = true) : i = j ∨ Waits md ops j i ∨ Waits md ops i j := by
  have hk : 1 ≤ kd i ∧ 1 ≤ kd j := by
    unfold cf at hc; simp at hc; omega
  have hi : i ∈ (List.range ops.size).filter fun i => decide (1 ≤ kd i) := List.mem_filter.2 ⟨List.mem_range.2 li, by simpa using hk.1⟩
  have hj : j ∈ (List.range ops.size).filter fun i => decide (1 ≤ kd i) := List.mem_filter.2 ⟨List.mem_range.2 lj, by simpa using hk.2⟩
  have h2 := List.all_eq_true.1 (List.all_eq_true.1 h i hi) j hj
  simp only [Bool.or_eq_true, beq_iff_eq, hc, Bool.not_true, Bool.false_eq_true, or_false] at h2
  have ht := table_waits (md := md) (ops := ops) ops.toList #[] (by simp) (by intro k i hk; simp at hk)
  rcases h2 with (h2 | h2) | h2
  · exact Or.inl h2
  · exact Or.inr (Or.inl (ht _ _ h2))
  · exact Or.inr (Or.inr (ht _ _ h2))
theorem not_both {listed : Array Bool} (hd : Down md ops listed) (ho : ordered md ops kd = true) {i j : Nat} (hi : i ∈ Region.ready md ops listed) (hj : j ∈ Region.ready md ops listed) (hne : j ≠ i) : ¬ cf (kd i) (kd j) = true := by
  intro hc
  have li : i < ops.size := by obtain ⟨_, o, h, _⟩ := mem_ready.1 hi; exact (Array.getElem?_eq_some_iff.1 h).1
  have lj : j < ops.size := by obtain ⟨_, o, h, _⟩ := mem_ready.1 hj; exact (Array.getElem?_eq_some_iff.1 h).1
  rcases ordered_spec ho li lj hc with h | h | h
  · exact hne h.symm
  · exact ready_unlisted hi (waits_ready hd hj h)
  · exact ready_unlisted hj (waits_ready hd hi h)
theorem wpAnyG_first (hAB : ∀ w, B w → A w) {Q : Bool → (World → Prop) → Act → Prop} {i : Nat} {oi : Oper} (hB : ∃ w, B w) (hord : ordered md ops kd = true) (hi : ops[i]? = some oi) (hsel : ∀ (j : Nat) (o : Oper) c b, ops[j]? = some o → o.op ≠ .select c b) :
    ∀ (fuel : Nat) (listed : Array Bool) (p : Bool) (G : World → Prop) (a : Act), Down md ops listed →
      (∀ j oj, ops[j]? = some oj → j ≠ i → listed.getD j true = false → (∀ e ∈ oj.after, Region.binds md e = true → e.on ≠ i) → oi.apart ops oj = true) →
      i ∈ Region.ready md ops listed →
      gOp P ops A B kd i (wpAnyG P md ops A B kd Q fuel (listed.setIfInBounds i true)) p G a → wpAnyG P md ops A B kd Q (fuel + 1) listed p G a := by
  intro fuel
  induction fuel with
  | zero =>
    intro listed p G a hd hfree hr H
    refine ⟨fun h => (by rw [h] at hr; cases hr), fun j hj => ?_⟩
    by_cases hji : j = i
    · subst hji; exact H
    · exfalso
      have key : ∀ p' G' a', wpAnyG P md ops A B kd Q 0 (listed.setIfInBounds i true) p' G' a' → False := fun p' G' a' h => by
        have := ready_mono hj hji
        rw [h.1] at this
        cases this
      have H2 := gOp_mono (K' := fun _ _ _ => False) (fun p' G' a' h => key p' G' a' h) H
      unfold gOp at H2
      simp only [hi] at H2
      unfold step at H2
      split at H2
      · split at H2
        · obtain ⟨_, v, _, h2⟩ := H2; exact h2
        · obtain ⟨_, V, R, ⟨v0, hv0⟩, _, h2⟩ := H2; exact h2 v0 hv0
      · exact H2
  | succ fuel ih =>
    intro listed p G a hd hfree hr H
    refine ⟨fun h => (by rw [h] at hr; cases hr), fun j hj => ?_⟩
    by_cases hji : j = i
    · subst hji; exact H
    · obtain ⟨hjun, oj, hoj, hall⟩ := mem_ready.1 hj
      have hnot : ∀ e ∈ oj.after, Region.binds md e = true → e.on ≠ i := fun e he hb heq =>
        ready_unlisted hr (by rw [← heq]; exact hall e he hb)
      have hap := hfree j oj hoj hji hjun hnot
      have h1 : gOp P ops A B kd i (fun p G a => gOp P ops A B kd j (wpAnyG P md ops A B kd Q fuel ((listed.setIfInBounds i true).setIfInBounds j true)) p G a) p G a :=
        gOp_mono (fun p' G' a' h => h.2 j (ready_mono hj hji)) H
      have h2 : gOp P ops A B kd j (fun p G a => gOp P ops A B kd i (wpAnyG P md ops A B kd Q fuel ((listed.setIfInBounds j true).setIfInBounds i true)) p G a) p G a := by
        rw [Array.setIfInBounds_comm _ _ hji]
        unfold gOp at h1 ⊢
        simp only [hi, hoj] at h1 ⊢
        exact step_comm hAB hB hap (fun c b => hsel i oi c b hi) (fun c b => hsel j oj c b hoj) (not_both hd hord hr hj hji) h1
      have hfree' : ∀ k ok, ops[k]? = some ok → k ≠ i → (listed.setIfInBounds j true).getD k true = false →
          (∀ e ∈ ok.after, Region.binds md e = true → e.on ≠ i) → oi.apart ops ok = true := fun k ok hk hki hun hno => by
        refine hfree k ok hk hki ?_ hno
        by_cases hjk : j = k
        · subst hjk; exact hjun
        · rw [getD_set_ne true hjk] at hun; exact hun
      exact gOp_mono (fun p' G' a' h3 => ih (listed.setIfInBounds j true) p' G' a' (down_set hd hj) hfree' (ready_mono hr (Ne.symm hji)) h3) h2
/-- the walk in the order of the text -/
def wpGrow (P : Program) (ops : Array Oper) (A B : World → Prop) (kd : Nat → Nat) (Q : Bool → (World → Prop) → Act → Prop) : List Oper → Nat → Bool → (World → Prop) → Act → Prop
  | [], _, p, G, a => Q p G a
  | o :: rest, k, p, G, a => step P ops A B kd k o (wpGrow P ops A B kd Q rest (k + 1)) p G a
theorem wpAnyG_lex (hAB : ∀ w, B w → A w) {Q : Bool → (World → Prop) → Act → Prop} (hB0 : ∃ w, B w) (hord : ordered md ops kd = true) (hs : Region.noSelect ops = true) : ∀ (l : List Oper) (k : Nat) (listed : Array Bool) (p : Bool) (G : World → Prop) (a : Act), Down md ops listed → (∀ j, l[j]? = ops[k + j]?) →
    Region.lexFrom md ops l.length k listed = true → wpGrow P ops A B kd Q l k p G a → wpAnyG P md ops A B kd Q l.length listed p G a
  | [], _, _, _, _, _, _, _, hB, h => ⟨by simpa [Region.lexFrom] using hB, h⟩
  | o :: l, k, listed, p, G, a, hd, hl, hB, h => by
    have h0 : ops[k]? = some o := by simpa using (hl 0).symm
    simp only [List.length_cons, Region.lexFrom, Bool.and_eq_true] at hB
    obtain ⟨⟨hr, hf⟩, hB'⟩ := hB
    have hr' : k ∈ Region.ready md ops listed := by simpa using hr
    refine wpAnyG_first hAB hB0 hord h0 (Region.noSelect_spec hs) l.length listed p G a hd (Region.free_spec h0 hf) hr' ?_
    unfold gOp
    simp only [h0]
    exact step_mono (fun p' G' a' h2 => wpAnyG_lex hAB hB0 hord hs l (k + 1) _ p' G' a' (down_set hd hr') (fun j => by have := hl (j + 1); simpa [Nat.add_assoc, Nat.add_comm 1 j] using this) hB' h2) h
/-- one walk of the text's order serves every order -/
theorem wp_region_gro2 {id : Nat} {l : List Oper} {Q : Exit → Act → World → Prop} {a : Act} {w : World} (A B : World → Prop) (kl : List Nat) (hm : P.follows .mixedOrders = true) (hL : Region.lexB .any l.toArray = true) (hord : ordered .any l.toArray (fun k => kl.getD k 0) = true) (hAB : ∀ w, B w → A w) (hB : B w.drew)
    (h : wpGrow P l.toArray A B (fun k => kl.getD k 0) (fun p' G' a' => ∀ w', cls A B p' w' → G' w' → Q .normal a' w') l 0 false (fun _ => True) a) : (Code.region id l.toArray true).wp P Q a w := by
  simp only [Region.lexB, Bool.and_eq_true] at hL
  refine wp_region_any hm (wpAny_of_grow (A := A) (B := B) (kd := fun k => kl.getD k 0) hAB (Q := fun p' G' a' => ∀ w', cls A B p' w' → G' w' → Q .normal a' w') (fun _ _ _ w' b g h => h w' b g) _ _ false (fun _ => True) _ _ hB trivial ?_)
  have := wpAnyG_lex (P := P) (A := A) (B := B) (kd := fun k => kl.getD k 0) (md := .any) hAB ⟨_, hB⟩ hord hL.1 l 0 (Array.replicate l.toArray.size false) false (fun _ => True) a (down_none _) (by simp) (by simpa using hL.2) h
  simpa using this
/-- the operations ahead: of kind 0 (cl = A) or 1 (cl = B) all of them -/
def lead (kd : Nat → Nat) (c : Nat) : Nat → List Oper → Bool
  | _, [] => true
  | k, o :: l => decide (kd k = c) && plain o.op && lead kd c (k + 1) l
theorem wpGrow_lead0 {Q : Bool → (World → Prop) → Act → Prop} {p : Bool} {G : World → Prop} : ∀ (l1 l2 : List Oper) (k : Nat) (a : Act), lead kd 0 k l1 = true →
    wpQuiet P ops A (fun a' => wpGrow P ops A B kd Q l2 (k + l1.length) p G a') l1 a → wpGrow P ops A B kd Q (l1 ++ l2) k p G a
  | [], l2, k, a, _, h => h
  | o :: l1, l2, k, a, hl, h => by
    simp only [lead, Bool.and_eq_true, decide_eq_true_eq] at hl
    have e : k + (o :: l1).length = (k + 1) + l1.length := by simp; omega
    rw [e] at h
    show step P ops A B kd k o (wpGrow P ops A B kd Q (l1 ++ l2) (k + 1)) p G a
    unfold step
    unfold wpQuiet at h
    split
    · rename_i hw
      rw [if_pos hw] at h
      rw [if_pos (by unfold still?; simp [hl.1.1])]
      obtain ⟨v, h1, h2⟩ := h
      refine ⟨Or.inl hl.1.1, v, fun w hw => ?_, wpGrow_lead0 l1 l2 (k + 1) _ hl.2 h2⟩
      unfold CK at hw; rw [if_pos hl.1.1] at hw
      exact still_of_quiet hl.1.2 (h1 w hw)
    · rename_i hw
      rw [if_neg hw] at h
      exact wpGrow_lead0 l1 l2 (k + 1) _ hl.2 h
theorem wpGrow_lead1 {Q : Bool → (World → Prop) → Act → Prop} {G : World → Prop} : ∀ (l1 l2 : List Oper) (k : Nat) (a : Act), lead kd 1 k l1 = true →
    wpQuiet P ops B (fun a' => wpGrow P ops A B kd Q l2 (k + l1.length) false G a') l1 a → wpGrow P ops A B kd Q (l1 ++ l2) k false G a
  | [], l2, k, a, _, h => h
  | o :: l1, l2, k, a, hl, h => by
    simp only [lead, Bool.and_eq_true, decide_eq_true_eq] at hl
    have e : k + (o :: l1).length = (k + 1) + l1.length := by simp; omega
    rw [e] at h
    show step P ops A B kd k o (wpGrow P ops A B kd Q (l1 ++ l2) (k + 1)) false G a
    unfold step
    unfold wpQuiet at h
    split
    · rename_i hw
      rw [if_pos hw] at h
      rw [if_pos (by unfold still?; simp [hl.1.1])]
      obtain ⟨v, h1, h2⟩ := h
      refine ⟨Or.inr rfl, v, fun w hw => ?_, wpGrow_lead1 l1 l2 (k + 1) _ hl.2 h2⟩
      unfold CK at hw; rw [if_neg (by omega)] at hw
      exact still_of_quiet hl.1.2 (h1 w hw)
    · rename_i hw
      rw [if_neg hw] at h
      exact wpGrow_lead1 l1 l2 (k + 1) _ hl.2 h
theorem take0 {Q : Bool → (World → Prop) → Act → Prop} {p : Bool} {G : World → Prop} (n : Nat) {l : List Oper} {k : Nat} {a : Act} (hl : lead kd 0 k (l.take n) = true)
    (h : wpQuiet P ops A (fun a' => wpGrow P ops A B kd Q (l.drop n) (k + (l.take n).length) p G a') (l.take n) a) : wpGrow P ops A B kd Q l k p G a := by
  have := wpGrow_lead0 (l.take n) (l.drop n) k a hl h
  rwa [List.take_append_drop] at this
theorem take1 {Q : Bool → (World → Prop) → Act → Prop} {G : World → Prop} (n : Nat) {l : List Oper} {k : Nat} {a : Act} (hl : lead kd 1 k (l.take n) = true)
    (h : wpQuiet P ops B (fun a' => wpGrow P ops A B kd Q (l.drop n) (k + (l.take n).length) false G a') (l.take n) a) : wpGrow P ops A B kd Q l k false G a := by
  have := wpGrow_lead1 (l.take n) (l.drop n) k a hl h
  rwa [List.take_append_drop] at this
/-- a call: what was known is known still, and R -/
theorem call {Q : Bool → (World → Prop) → Act → Prop} {G : World → Prop} {o : Oper} {rest : List Oper} {k : Nat} {a : Act} (V : Value → Prop) (R : Value → World → Prop) (hw : Region.wanted o (yielded ops a.tmps) = true) (hc : kd k = 2) (hV : ∃ v, V v)
    (h : ∀ w, B w → G w → growAt P o a B (fun v w => V v ∧ G w ∧ R v w) w) (hk : ∀ v a', V v → a' = a.put o.dst v → wpGrow P ops A B kd Q rest (k + 1) false (fun w => G w ∧ R v w) a') : wpGrow P ops A B kd Q (o :: rest) k false G a := by
  show step P ops A B kd k o (wpGrow P ops A B kd Q rest (k + 1)) false G a
  unfold step
  rw [if_pos hw, if_neg (by unfold still?; simp [hc])]
  refine ⟨Or.inr rfl, V, fun v w => G w ∧ R v w, hV, ?_, fun v hv => ?_⟩
  · unfold postK; rw [if_pos hc]; exact h
  · have : nxK kd k = false := by unfold nxK; simp [hc]
    rw [this]; exact hk v _ hv rfl
/-- what writes: what is known from there on is R alone -/
theorem turn {Q : Bool → (World → Prop) → Act → Prop} {p : Bool} {G : World → Prop} {o : Oper} {rest : List Oper} {k : Nat} {a : Act} (V : Value → Prop) (R : Value → World → Prop) (hw : Region.wanted o (yielded ops a.tmps) = true) (hc : kd k = 3) (hV : ∃ v, V v)
    (h : ∀ w, cls A B p w → G w → growAt P o a A (fun v w => V v ∧ R v w) w) (hk : ∀ v a', V v → a' = a.put o.dst v → wpGrow P ops A B kd Q rest (k + 1) true (R v) a') : wpGrow P ops A B kd Q (o :: rest) k p G a := by
  show step P ops A B kd k o (wpGrow P ops A B kd Q rest (k + 1)) p G a
  unfold step
  rw [if_pos hw, if_neg (by unfold still?; simp [hc])]
  refine ⟨Or.inl (by omega), V, R, hV, ?_, fun v hv => ?_⟩
  · unfold postK; rw [if_neg (by omega)]; exact h
  · have : nxK kd k = true := by unfold nxK; simp [hc]
    rw [this]; exact hk v _ hv rfl
theorem skip {Q : Bool → (World → Prop) → Act → Prop} {p : Bool} {G : World → Prop} {o : Oper} {rest : List Oper} {k : Nat} {a : Act} (hw : Region.wanted o (yielded ops a.tmps) = false)
    (hk : ∀ a', a' = a.put o.dst undef → wpGrow P ops A B kd Q rest (k + 1) p G a') : wpGrow P ops A B kd Q (o :: rest) k p G a := by
  show step P ops A B kd k o (wpGrow P ops A B kd Q rest (k + 1)) p G a
  unfold step
  rw [if_neg (by rw [hw]; exact Bool.false_ne_true)]
  exact hk _ rfl
theorem nil {Q : Bool → (World → Prop) → Act → Prop} {p : Bool} {G : World → Prop} {k : Nat} {a : Act} (h : Q p G a) : wpGrow P ops A B kd Q [] k p G a := h
end
/-- the region in the classes of the worlds that meet SA and SB, named by an index each -/
theorem wp_region_gro2S {P : Program} {id : Nat} {l : List Oper} {Q : Exit → Act → World → Prop} {a : Act} {w : World} (SA SB : World → Prop) (kl : List Nat) (hm : P.follows .mixedOrders = true) (hL : Region.lexB .any l.toArray = true) (hord : ordered .any l.toArray (fun k => kl.getD k 0) = true) (hAB : ∀ w, SB w → SA w) (hS : SB w.drew)
    (h : ∀ (I J : Type) [Nonempty I] [Nonempty J] (f : I → World) (g : J → World), (∀ n, SA (f n)) → (∀ w', SA w' → ∃ m, w' = f m) → (∀ n, SB (g n)) → (∀ w', SB w' → ∃ m, w' = g m) →
      wpGrow P l.toArray (fun w' => ∃ n, w' = f n) (fun w' => ∃ n, w' = g n) (fun k => kl.getD k 0) (fun p' G' a' => ∀ w', cls (fun w' => ∃ n, w' = f n) (fun w' => ∃ n, w' = g n) p' w' → G' w' → Q .normal a' w') l 0 false (fun _ => True) a) : (Code.region id l.toArray true).wp P Q a w :=
  wp_region_gro2 (fun w' => ∃ n : {x : World // SA x}, w' = n.1) (fun w' => ∃ n : {x : World // SB x}, w' = n.1) kl hm hL hord (fun w ⟨n, e⟩ => ⟨⟨w, hAB _ (e ▸ n.2)⟩, rfl⟩) ⟨⟨w.drew, hS⟩, rfl⟩
    (@h {x : World // SA x} {x : World // SB x} ⟨⟨w.drew, hAB _ hS⟩⟩ ⟨⟨w.drew, hS⟩⟩ Subtype.val Subtype.val (fun n => n.2) (fun w' hw' => ⟨⟨w', hw'⟩, rfl⟩) (fun n => n.2) (fun w' hw' => ⟨⟨w', hw'⟩, rfl⟩))
end Go.Gro2
