import Derived.Deep.QuietTactic
import Derived.BigQuiet
/- Grow's walk, with operations that read what is known only at that point (gs): each of them waits for the calls, or these for it. -/
namespace Go.GrowG
open Go
set_option linter.unusedVariables false
section
variable {P : Program} {ops : Array Oper} {md : Region.Mode} {B : World → Prop} {cs gs : Nat → Bool}
/-- a call: in every world of B that meets G it hands back a value and leaves a world of B that meets G, and R of that value; what is no call yields a value of which R holds there -/
def growUpon (P : Program) (B : World → Prop) (R : Value → World → Prop) (w : World) : Result Next → Prop
  | .ok (.value u) w' => B w' ∧ R u w'
  | .ok .skip w' => B w' ∧ R undef w'
  | .ok (.enter f args) w' => w' = w ∧ Calls P f args w (fun e w'' => ∃ v, e = .returned v ∧ B w'' ∧ R v w'')
  | _ => False
def growAt (P : Program) (o : Oper) (a : Act) (B : World → Prop) (R : Value → World → Prop) (w : World) : Prop := growUpon P B R w ((execOp a.eval o).run P w)
/-- it yields v, in the world that it got -/
def stillUpon (w : World) (v : Value) : Result Next → Prop
  | .ok (.value u) w' => w' = w ∧ u = v
  | .ok .skip w' => w' = w ∧ v = undef
  | _ => False
def stillIn (P : Program) (o : Oper) (a : Act) (B : World → Prop) (v : Value) : Prop := ∀ w, B w → stillUpon w v ((execOp a.eval o).run P w)
theorem stillUpon_one {w : World} {v u : Value} {r : Result Next} (h : stillUpon w v r) (k : stillUpon w u r) : v = u := by
  cases r with
  | ok n w' =>
    cases n <;> simp only [stillUpon] at h k
    case value x => rw [← h.2, ← k.2]
    case skip => rw [h.2, k.2]
  | halt x w' => simp only [stillUpon] at h
/-- the worlds in which an operation's value is wanted -/
def Bg (gs : Nat → Bool) (k : Nat) (B G : World → Prop) : World → Prop := fun w => B w ∧ (gs k = true → G w)
theorem bg_no {k : Nat} {B G G' : World → Prop} (h : gs k = false) : Bg gs k B G = Bg gs k B G' := by
  funext w; unfold Bg; rw [h]; simp
/-- operation number k comes up -/
def step (P : Program) (ops : Array Oper) (B : World → Prop) (cs gs : Nat → Bool) (k : Nat) (o : Oper) (K : (World → Prop) → Act → Prop) (G : World → Prop) (a : Act) : Prop :=
  if Region.wanted o (yielded ops a.tmps) then
    if cs k then ∃ (V : Value → Prop) (R : Value → World → Prop), (∃ v, V v) ∧ (∀ w, B w → G w → growAt P o a B (fun v w => V v ∧ R v w) w) ∧ ∀ v, V v → K (R v) (a.put o.dst v)
    else ∃ v, stillIn P o a (Bg gs k B G) v ∧ K G (a.put o.dst v)
  else K G (a.put o.dst undef)
def gOp (P : Program) (ops : Array Oper) (B : World → Prop) (cs gs : Nat → Bool) (k : Nat) (K : (World → Prop) → Act → Prop) (G : World → Prop) (a : Act) : Prop :=
  match ops[k]? with
  | none => K G a
  | some o => step P ops B cs gs k o K G a
theorem step_mono {k : Nat} {o : Oper} {K K' : (World → Prop) → Act → Prop} {G : World → Prop} {a : Act} (h : ∀ G a, K G a → K' G a) (hh : step P ops B cs gs k o K G a) : step P ops B cs gs k o K' G a := by
  unfold step at *
  split
  · rename_i hw
    rw [if_pos hw] at hh
    split
    · rename_i hc
      rw [if_pos hc] at hh
      obtain ⟨V, R, hv, h1, h2⟩ := hh
      exact ⟨V, R, hv, h1, fun v hv => h _ _ (h2 v hv)⟩
    · rename_i hc
      rw [if_neg hc] at hh
      obtain ⟨v, h1, h2⟩ := hh
      exact ⟨v, h1, h _ _ h2⟩
  · rename_i hw
    rw [if_neg hw] at hh
    exact h _ _ hh
theorem gOp_mono {k : Nat} {K K' : (World → Prop) → Act → Prop} {G : World → Prop} {a : Act} (h : ∀ G a, K G a → K' G a) (hh : gOp P ops B cs gs k K G a) : gOp P ops B cs gs k K' G a := by
  unfold gOp at *
  split
  · rename_i ho; simp only [ho] at hh; exact h _ _ hh
  · rename_i o ho; simp only [ho] at hh; exact step_mono h hh
/-- whatever order is picked from here on -/
def wpAnyG (P : Program) (md : Region.Mode) (ops : Array Oper) (B : World → Prop) (cs gs : Nat → Bool) (Q : (World → Prop) → Act → Prop) : Nat → Array Bool → (World → Prop) → Act → Prop
  | 0, listed, G, a => Region.ready md ops listed = [] ∧ Q G a
  | fuel + 1, listed, G, a =>
    (Region.ready md ops listed = [] → Q G a) ∧
    ∀ i ∈ Region.ready md ops listed, gOp P ops B cs gs i (wpAnyG P md ops B cs gs Q fuel (listed.setIfInBounds i true)) G a
theorem wp_of_still {B : World → Prop} {o : Oper} {a : Act} {v : Value} {K' : Act → World → Prop} {Q' : Exit → Act → World → Prop} {w : World} (hw : B w) (h : stillIn P o a B v) (hk : K' (a.put o.dst v) w) : o.wp P a w K' Q' := by
  have h3 := h w hw
  unfold Oper.wp
  generalize (execOp a.eval o).run P w = r at *
  cases r with
  | ok n w' =>
    cases n <;> simp only [stillUpon] at h3 <;> simp only [Oper.upon]
    case value u => obtain ⟨e1, e2⟩ := h3; rw [e1, e2]; exact hk
    case skip => obtain ⟨e1, e2⟩ := h3; rw [e1, ← e2]; exact hk
  | halt x w' => simp only [stillUpon] at h3
theorem wp_of_grow {o : Oper} {a : Act} {R : Value → World → Prop} {K' : Act → World → Prop} {Q' : Exit → Act → World → Prop} {w : World} (h : growAt P o a B R w)
    (hk : ∀ v w', B w' → R v w' → K' (a.put o.dst v) w') : o.wp P a w K' Q' := by
  unfold growAt at h
  unfold Oper.wp
  generalize (execOp a.eval o).run P w = r at *
  cases r with
  | ok n w' =>
    cases n <;> simp only [growUpon] at h <;> simp only [Oper.upon]
    case value u => exact hk _ _ h.1 h.2
    case skip => exact hk _ _ h.1 h.2
    case enter f args =>
      obtain ⟨e1, hc⟩ := h
      rw [e1]
      exact hc.mono fun e w'' ⟨v, he, h1, h3⟩ => by subst he; exact hk _ _ h1 h3
  | halt x w' => simp only [growUpon] at h
theorem wpOp_of_gOp {i : Nat} {a : Act} {G : World → Prop} {K : (World → Prop) → Act → Prop} {K' : Act → World → Prop} {Q' : Exit → Act → World → Prop} {w : World} (hB : B w) (hG : G w)
    (h : ∀ G a w', B w' → G w' → K G a → K' a w') (hh : gOp P ops B cs gs i K G a) : wpOp P ops Q' i K' a w := by
  unfold gOp at hh
  unfold wpOp
  split
  · rename_i ho; simp only [ho] at hh; exact h _ _ _ hB hG hh
  · rename_i o ho
    simp only [ho] at hh
    unfold step at hh
    split
    · rename_i hw
      rw [if_pos hw] at hh
      left
      split at hh
      · obtain ⟨V, R, _, h1, h2⟩ := hh
        exact wp_of_grow (h1 w hB hG) fun v w' b1 b3 => h _ _ _ b1 b3.2 (h2 v b3.1)
      · obtain ⟨v, h1, h2⟩ := hh
        exact wp_of_still ⟨hB, fun _ => hG⟩ h1 (h _ _ _ hB hG h2)
    · rename_i hw
      rw [if_neg hw] at hh
      exact h _ _ _ hB hG hh
theorem wpAny_of_grow {Q : (World → Prop) → Act → Prop} {Q' : Exit → Act → World → Prop} (hQ : ∀ G a w, B w → G w → Q G a → Q' .normal a w) : ∀ (fuel : Nat) (listed : Array Bool) (G : World → Prop) (a : Act) (w : World), B w → G w →
    wpAnyG P md ops B cs gs Q fuel listed G a → wpAny P md ops Q' fuel listed a w
  | 0, _, _, _, _, hB, hG, h => ⟨h.1, hQ _ _ _ hB hG h.2⟩
  | fuel + 1, _, _, _, _, hB, hG, h => ⟨fun h0 => hQ _ _ _ hB hG (h.1 h0), fun i hi => wpOp_of_gOp hB hG (fun G' a' w' b g => wpAny_of_grow hQ fuel _ G' a' w' b g) (h.2 i hi)⟩
theorem still_put {B : World → Prop} {o : Oper} (hs : ∀ c b, o.op ≠ .select c b) {a : Act} {d : Option Tmp} {v u : Value} (h : ∀ t, d = some t → t ∉ o.looksAt ops) : stillIn P o (a.put d v) B u ↔ stillIn P o a B u := by
  unfold stillIn; rw [execOp_put o hs a d v h]
theorem grow_put {o : Oper} (hs : ∀ c b, o.op ≠ .select c b) {a : Act} {d : Option Tmp} {v : Value} {R : Value → World → Prop} {w : World} (h : ∀ t, d = some t → t ∉ o.looksAt ops) : growAt P o (a.put d v) B R w ↔ growAt P o a B R w := by
  unfold growAt; rw [execOp_put o hs a d v h]
/-- two operations that are apart, not both of them calls: in either order -/
theorem step_comm {i j : Nat} {oi oj : Oper} {G : World → Prop} (hB : ∃ w, B w) (hap : oi.apart ops oj = true) (hsi : ∀ c b, oi.op ≠ .select c b) (hsj : ∀ c b, oj.op ≠ .select c b) (hcs : ¬ (cs i = true ∧ cs j = true)) (hij : ¬ (cs i = true ∧ gs j = true)) (hji : ¬ (gs i = true ∧ cs j = true)) 
        {K : (World → Prop) → Act → Prop} {a : Act} (h : step P ops B cs gs i oi (fun G a => step P ops B cs gs j oj K G a) G a) : step P ops B cs gs j oj (fun G a => step P ops B cs gs i oi K G a) G a := by
  obtain ⟨h1, h2, h3⟩ := Oper.apart_spec hap
  obtain ⟨w0, hw0⟩ := hB
  have wi : ∀ (a : Act) (u : Value), Region.wanted oi (yielded ops (a.put oj.dst u).tmps) = Region.wanted oi (yielded ops a.tmps) := fun a u => wanted_put oi a oj.dst u h3
  have wj : ∀ (a : Act) (u : Value), Region.wanted oj (yielded ops (a.put oi.dst u).tmps) = Region.wanted oj (yielded ops a.tmps) := fun a u => wanted_put oj a oi.dst u h1
  have cm : ∀ (a : Act) (v u : Value), (a.put oi.dst v).put oj.dst u = (a.put oj.dst u).put oi.dst v := fun a v u => Act.put_comm a v u h2
  unfold step at *
  simp only [wi, wj] at *
  by_cases hwi : Region.wanted oi (yielded ops a.tmps) = true
  · rw [if_pos hwi] at h
    by_cases hwj : Region.wanted oj (yielded ops a.tmps) = true
    · simp only [hwi, hwj, if_true] at *
      by_cases hci : cs i = true
      · have hcj : cs j = false := by cases hc : cs j; rfl; exact absurd ⟨hci, hc⟩ hcs
        simp only [hci, hcj, if_true, Bool.false_eq_true, if_false] at *
        have hgj : gs j = false := by cases hc : gs j; rfl; exact absurd ⟨hci, hc⟩ hij
        obtain ⟨V, R, ⟨v0, hv0⟩, hr, hk⟩ := h
        obtain ⟨u, hu, _⟩ := hk v0 hv0
        rw [still_put hsj h1, bg_no (G' := G) hgj] at hu
        refine ⟨u, hu, V, R, ⟨v0, hv0⟩, fun w b g => (grow_put hsi h3).2 (hr w b g), fun v hv => ?_⟩
        obtain ⟨u', hu', hk'⟩ := hk v hv
        rw [still_put hsj h1, bg_no (G' := G) hgj] at hu'
        have hb0 : Bg gs j B G w0 := ⟨hw0, fun h => by rw [hgj] at h; cases h⟩
        have e : u' = u := stillUpon_one (hu' w0 hb0) (hu w0 hb0)
        rw [← cm, ← e]; exact hk'
      · have hci : cs i = false := by cases hc : cs i; rfl; exact absurd hc hci
        simp only [hci, Bool.false_eq_true, if_false] at *
        obtain ⟨v, hv, hk⟩ := h
        split at hk
        · rename_i hcj
          rw [if_pos hcj]
          have hgi : gs i = false := by cases hc : gs i; rfl; exact absurd ⟨hc, hcj⟩ hji
          obtain ⟨V, R, hV, hr, hk⟩ := hk
          exact ⟨V, R, hV, fun w b g => (grow_put hsj h1).1 (hr w b g), fun u hu => ⟨v, (still_put hsi h3).2 (by rw [bg_no (G' := G) hgi]; exact hv), by rw [← cm]; exact hk u hu⟩⟩
        · rename_i hcj
          rw [if_neg hcj]
          obtain ⟨u, hu, hk⟩ := hk
          exact ⟨u, (still_put hsj h1).1 hu, v, (still_put hsi h3).2 hv, by rw [← cm]; exact hk⟩
    · simp only [hwi, hwj, if_true, Bool.false_eq_true, if_false] at *
      by_cases hci : cs i = true
      · simp only [hci, if_true] at *
        obtain ⟨V, R, hV, hr, hk⟩ := h
        exact ⟨V, R, hV, fun w b g => (grow_put hsi h3).2 (hr w b g), fun v hv => by rw [← cm]; exact hk v hv⟩
      · simp only [hci, Bool.false_eq_true, if_false] at *
        obtain ⟨v, hv, hk⟩ := h
        exact ⟨v, (still_put hsi h3).2 hv, by rw [← cm]; exact hk⟩
  · rw [if_neg hwi] at h
    by_cases hwj : Region.wanted oj (yielded ops a.tmps) = true
    · simp only [hwi, hwj, if_true, Bool.false_eq_true, if_false] at *
      split at h
      · rename_i hcj
        rw [if_pos hcj]
        obtain ⟨V, R, hV, hr, hk⟩ := h
        exact ⟨V, R, hV, fun w b g => (grow_put hsj h1).1 (hr w b g), fun u hu => by rw [← cm]; exact hk u hu⟩
      · rename_i hcj
        rw [if_neg hcj]
        obtain ⟨u, hu, hk⟩ := h
        exact ⟨u, (still_put hsj h1).1 hu, by rw [← cm]; exact hk⟩
    · simp only [hwi, hwj, Bool.false_eq_true, if_false] at *
      rw [← cm]; exact h
/-- j waits for i, at last -/
inductive Waits (md : Region.Mode) (ops : Array Oper) : Nat → Nat → Prop
  | one {j : Nat} {o : Oper} {e : Edge} (ho : ops[j]? = some o) (he : e ∈ o.after) (hb : Region.binds md e = true) : Waits md ops j e.on
  | more {j i : Nat} {o : Oper} {e : Edge} (ho : ops[j]? = some o) (he : e ∈ o.after) (hb : Region.binds md e = true) (h : Waits md ops e.on i) : Waits md ops j i
/-- what an operation waits for, as bits, out of those of the operations ahead of it -/
def anc (md : Region.Mode) (t : Array Nat) (l : List Edge) : Nat := l.foldl (fun m e => if Region.binds md e then m ||| (t.getD e.on 0 ||| 2 ^ e.on) else m) 0
def table (md : Region.Mode) : List Oper → Array Nat → Array Nat
  | [], t => t
  | o :: l, t => table md l (t.push (anc md t o.after.toList))
theorem anc_bit {t : Array Nat} {i : Nat} : ∀ (l : List Edge) (m : Nat), (l.foldl (fun m e => if Region.binds md e then m ||| (t.getD e.on 0 ||| 2 ^ e.on) else m) m).testBit i = true →
    m.testBit i = true ∨ ∃ e ∈ l, Region.binds md e = true ∧ ((t.getD e.on 0).testBit i = true ∨ e.on = i)
  | [], m, h => Or.inl h
  | e :: l, m, h => by
    rw [List.foldl_cons] at h
    rcases anc_bit l _ h with h1 | ⟨e', he', h1⟩
    · split at h1
      · rename_i hb
        rw [Nat.testBit_or, Nat.testBit_or, Bool.or_eq_true, Bool.or_eq_true] at h1
        rcases h1 with h1 | h1 | h1
        · exact Or.inl h1
        · exact Or.inr ⟨e, List.mem_cons_self .., hb, Or.inl h1⟩
        · refine Or.inr ⟨e, List.mem_cons_self .., hb, Or.inr ?_⟩
          rw [Nat.testBit_two_pow] at h1
          simpa using h1
      · exact Or.inl h1
    · exact Or.inr ⟨e', List.mem_cons_of_mem _ he', h1⟩
theorem table_waits : ∀ (l : List Oper) (t : Array Nat), (∀ j, l[j]? = ops[t.size + j]?) → (∀ k i, (t.getD k 0).testBit i = true → Waits md ops k i) → ∀ k i, ((table md l t).getD k 0).testBit i = true → Waits md ops k i
  | [], t, _, h, k, i, hk => h k i hk
  | o :: l, t, hl, h, k, i, hk => by
    refine table_waits l (t.push (anc md t o.after.toList)) (fun j => ?_) (fun k i hk => ?_) k i hk
    · have := hl (j + 1)
      rw [Array.size_push, Nat.add_assoc, Nat.add_comm 1 j]; simpa using this
    · have h0 : ops[t.size]? = some o := by simpa using (hl 0).symm
      by_cases hlt : k < t.size
      · exact h k i (by simpa [Array.getElem?_push, hlt, Nat.ne_of_lt hlt] using hk)
      · by_cases he : k = t.size
        · subst he
          have hk2 : (anc md t o.after.toList).testBit i = true := by simpa using hk
          rcases anc_bit _ _ hk2 with h1 | ⟨e, he, hb, h1 | h1⟩
          · simp at h1
          · exact .more h0 (by simpa using he) hb (h _ _ h1)
          · rw [← h1]; exact .one h0 (by simpa using he) hb
        · exfalso
          have : (t.push (anc md t o.after.toList)).getD k 0 = 0 := by
            rw [Array.getD_eq_getD_getElem?, Array.getElem?_eq_none (by simp; omega)]; rfl
          rw [this] at hk; simp at hk
/-- of two calls one waits for the other -/
def ordered (md : Region.Mode) (ops : Array Oper) (cs gs : Nat → Bool) : Bool :=
  let t := table md ops.toList #[]
  let l := (List.range ops.size).filter cs
  let r := (List.range ops.size).filter fun k => cs k || gs k
  l.all fun i => r.all fun j => i == j || (t.getD j 0).testBit i || (t.getD i 0).testBit j
theorem ordered_spec (h : ordered md ops cs gs = true) {i j : Nat} (li : i < ops.size) (lj : j < ops.size) (ci : cs i = true) (cj : cs j = true ∨ gs j = true) : i = j ∨ Waits md ops j i ∨ Waits md ops i j := by
  have hi : i ∈ (List.range ops.size).filter cs := List.mem_filter.2 ⟨List.mem_range.2 li, ci⟩
  have hj : j ∈ (List.range ops.size).filter (fun k => cs k || gs k) := List.mem_filter.2 ⟨List.mem_range.2 lj, by simpa using cj⟩
  have h2 := List.all_eq_true.1 (List.all_eq_true.1 h i hi) j hj
  simp only [Bool.or_eq_true, beq_iff_eq] at h2
  have ht := table_waits (md := md) (ops := ops) ops.toList #[] (by simp) (by intro k i hk; simp at hk)
  rcases h2 with (h2 | h2) | h2
  · exact Or.inl h2
  · exact Or.inr (Or.inl (ht _ _ h2))
  · exact Or.inr (Or.inr (ht _ _ h2))
/-- what is listed waited for what is listed -/
def Down (md : Region.Mode) (ops : Array Oper) (listed : Array Bool) : Prop := ∀ k o, ops[k]? = some o → listed.getD k false = true → ∀ e ∈ o.after, Region.binds md e = true → listed.getD e.on false = true
theorem waits_listed {listed : Array Bool} (hd : Down md ops listed) {k i : Nat} (h : Waits md ops k i) : listed.getD k false = true → listed.getD i false = true := by
  induction h with
  | one ho he hb => intro hk; exact hd _ _ ho hk _ he hb
  | more ho he hb _ ih => intro hk; exact ih (hd _ _ ho hk _ he hb)
theorem waits_ready {listed : Array Bool} (hd : Down md ops listed) {i j : Nat} (hj : j ∈ Region.ready md ops listed) (h : Waits md ops j i) : listed.getD i false = true := by
  obtain ⟨_, o, ho, hall⟩ := mem_ready.1 hj
  cases h with
  | one ho' he hb => rw [ho] at ho'; cases ho'; exact hall _ he hb
  | more ho' he hb h => rw [ho] at ho'; cases ho'; exact waits_listed hd h (hall _ he hb)
theorem down_set {listed : Array Bool} (hd : Down md ops listed) {j : Nat} (hj : j ∈ Region.ready md ops listed) : Down md ops (listed.setIfInBounds j true) := by
  intro k o ho hk e he hb
  by_cases h : j = k
  · subst h
    obtain ⟨_, o', ho', hall⟩ := mem_ready.1 hj
    rw [ho] at ho'; cases ho'
    exact getD_set_true (hall e he hb)
  · rw [getD_set_ne false h] at hk
    exact getD_set_true (hd k o ho hk e he hb)
theorem ready_unlisted {listed : Array Bool} {i : Nat} (h : i ∈ Region.ready md ops listed) (hl : listed.getD i false = true) : False := by
  have h0 := (mem_ready.1 h).1
  rcases Nat.lt_or_ge i listed.size with h' | h'
  · simp [h'] at h0 hl; rw [h0] at hl; cases hl
  · simp [Array.getElem?_eq_none h'] at hl
theorem not_both {listed : Array Bool} (hd : Down md ops listed) (ho : ordered md ops cs gs = true) {i j : Nat} (hi : i ∈ Region.ready md ops listed) (hj : j ∈ Region.ready md ops listed) (hne : j ≠ i) : ¬ (cs i = true ∧ (cs j = true ∨ gs j = true)) := by
  rintro ⟨ci, cj⟩
  have li : i < ops.size := by obtain ⟨_, o, h, _⟩ := mem_ready.1 hi; exact (Array.getElem?_eq_some_iff.1 h).1
  have lj : j < ops.size := by obtain ⟨_, o, h, _⟩ := mem_ready.1 hj; exact (Array.getElem?_eq_some_iff.1 h).1
  rcases ordered_spec ho li lj ci cj with h | h | h
  · exact hne h.symm
  · exact ready_unlisted hi (waits_ready hd hj h)
  · exact ready_unlisted hj (waits_ready hd hi h)
/-- an operation that may come up now may be taken first -/
theorem wpAnyG_first {Q : (World → Prop) → Act → Prop} {i : Nat} {oi : Oper} (hB : ∃ w, B w) (hord : ordered md ops cs gs = true) (hi : ops[i]? = some oi) (hsel : ∀ (j : Nat) (o : Oper) c b, ops[j]? = some o → o.op ≠ .select c b) :
    ∀ (fuel : Nat) (listed : Array Bool) (G : World → Prop) (a : Act), Down md ops listed →
      (∀ j oj, ops[j]? = some oj → j ≠ i → listed.getD j true = false → (∀ e ∈ oj.after, Region.binds md e = true → e.on ≠ i) → oi.apart ops oj = true) →
      i ∈ Region.ready md ops listed →
      gOp P ops B cs gs i (wpAnyG P md ops B cs gs Q fuel (listed.setIfInBounds i true)) G a → wpAnyG P md ops B cs gs Q (fuel + 1) listed G a := by
  intro fuel
  induction fuel with
  | zero =>
    intro listed G a hd hfree hr H
    refine ⟨fun h => (by rw [h] at hr; cases hr), fun j hj => ?_⟩
    by_cases hji : j = i
    · subst hji; exact H
    · exfalso
      -- something else is ready still behind i: but nothing is, at no fuel
      have key : ∀ G' a', wpAnyG P md ops B cs gs Q 0 (listed.setIfInBounds i true) G' a' → False := fun G' a' h => by
        have := ready_mono hj hji
        rw [h.1] at this
        cases this
      have H2 := gOp_mono (K' := fun _ _ => False) (fun G' a' h => key G' a' h) H
      unfold gOp at H2
      simp only [hi] at H2
      unfold step at H2
      split at H2
      · split at H2
        · obtain ⟨V, R, ⟨v0, hv0⟩, _, h2⟩ := H2; exact h2 v0 hv0
        · obtain ⟨v, _, h2⟩ := H2; exact h2
      · exact H2
  | succ fuel ih =>
    intro listed G a hd hfree hr H
    refine ⟨fun h => (by rw [h] at hr; cases hr), fun j hj => ?_⟩
    by_cases hji : j = i
    · subst hji; exact H
    · obtain ⟨hjun, oj, hoj, hall⟩ := mem_ready.1 hj
      have hnot : ∀ e ∈ oj.after, Region.binds md e = true → e.on ≠ i := fun e he hb heq =>
        ready_unlisted hr (by rw [← heq]; exact hall e he hb)
      have hap := hfree j oj hoj hji hjun hnot
      have h1 : gOp P ops B cs gs i (fun G a => gOp P ops B cs gs j (wpAnyG P md ops B cs gs Q fuel ((listed.setIfInBounds i true).setIfInBounds j true)) G a) G a :=
        gOp_mono (fun G' a' h => h.2 j (ready_mono hj hji)) H
      have h2 : gOp P ops B cs gs j (fun G a => gOp P ops B cs gs i (wpAnyG P md ops B cs gs Q fuel ((listed.setIfInBounds j true).setIfInBounds i true)) G a) G a := by
        rw [Array.setIfInBounds_comm _ _ hji]
        unfold gOp at h1 ⊢
        simp only [hi, hoj] at h1 ⊢
        have n1 := not_both hd hord hr hj hji
        have n2 := not_both hd hord hj hr (Ne.symm hji)
        exact step_comm hB hap (fun c b => hsel i oi c b hi) (fun c b => hsel j oj c b hoj) (fun h => n1 ⟨h.1, .inl h.2⟩) (fun h => n1 ⟨h.1, .inr h.2⟩) (fun h => n2 ⟨h.2, .inr h.1⟩) h1
      have hfree' : ∀ k ok, ops[k]? = some ok → k ≠ i → (listed.setIfInBounds j true).getD k true = false →
          (∀ e ∈ ok.after, Region.binds md e = true → e.on ≠ i) → oi.apart ops ok = true := fun k ok hk hki hun hno => by
        refine hfree k ok hk hki ?_ hno
        by_cases hjk : j = k
        · subst hjk; exact hjun
        · rw [getD_set_ne true hjk] at hun; exact hun
      exact gOp_mono (fun G' a' h3 => ih (listed.setIfInBounds j true) G' a' (down_set hd hj) hfree' (ready_mono hr (Ne.symm hji)) h3) h2
/-- the walk in the order of the text -/
def wpGrow (P : Program) (ops : Array Oper) (B : World → Prop) (cs gs : Nat → Bool) (Q : (World → Prop) → Act → Prop) : List Oper → Nat → (World → Prop) → Act → Prop
  | [], _, G, a => Q G a
  | o :: rest, k, G, a => step P ops B cs gs k o (wpGrow P ops B cs gs Q rest (k + 1)) G a
theorem wpAnyG_lex {Q : (World → Prop) → Act → Prop} (hB0 : ∃ w, B w) (hord : ordered md ops cs gs = true) (hs : Region.noSelect ops = true) : ∀ (l : List Oper) (k : Nat) (listed : Array Bool) (G : World → Prop) (a : Act), Down md ops listed → (∀ j, l[j]? = ops[k + j]?) →
    Region.lexFrom md ops l.length k listed = true → wpGrow P ops B cs gs Q l k G a → wpAnyG P md ops B cs gs Q l.length listed G a
  | [], _, _, _, _, _, _, hB, h => ⟨by simpa [Region.lexFrom] using hB, h⟩
  | o :: l, k, listed, G, a, hd, hl, hB, h => by
    have h0 : ops[k]? = some o := by simpa using (hl 0).symm
    simp only [List.length_cons, Region.lexFrom, Bool.and_eq_true] at hB
    obtain ⟨⟨hr, hf⟩, hB'⟩ := hB
    have hr' : k ∈ Region.ready md ops listed := by simpa using hr
    refine wpAnyG_first hB0 hord h0 (Region.noSelect_spec hs) l.length listed G a hd (Region.free_spec h0 hf) hr' ?_
    unfold gOp
    simp only [h0]
    exact step_mono (fun G' a' h2 => wpAnyG_lex hB0 hord hs l (k + 1) _ G' a' (down_set hd hr') (fun j => by have := hl (j + 1); simpa [Nat.add_assoc, Nat.add_comm 1 j] using this) hB' h2) h
theorem down_none (n : Nat) : Down md ops (Array.replicate n false) := by
  intro k o _ hk
  exfalso
  rcases Nat.lt_or_ge k n with h | h
  · simp [h] at hk
  · simp [h] at hk
/-- one walk of the text's order serves every order -/
theorem wp_region_grow {id : Nat} {l : List Oper} {Q : Exit → Act → World → Prop} {a : Act} {w : World} (B G : World → Prop) (cs gs : Nat → Bool) (hm : P.follows .mixedOrders = true) (hL : Region.lexB .any l.toArray = true) (hord : ordered .any l.toArray cs gs = true) (hB : B w.drew) (hG : G w.drew)
    (h : wpGrow P l.toArray B cs gs (fun G' a' => ∀ w', B w' → G' w' → Q .normal a' w') l 0 G a) : (Code.region id l.toArray true).wp P Q a w := by
  simp only [Region.lexB, Bool.and_eq_true] at hL
  refine wp_region_any hm (wpAny_of_grow (B := B) (cs := cs) (gs := gs) (Q := fun G' a' => ∀ w', B w' → G' w' → Q .normal a' w') (fun _ _ w' b g h => h w' b g) _ _ G _ _ hB hG ?_)
  have := wpAnyG_lex (P := P) (B := B) (cs := cs) (gs := gs) (md := .any) ⟨_, hB⟩ hord hL.1 l 0 (Array.replicate l.toArray.size false) G a (down_none _) (by simp) (by simpa using hL.2) h
  simpa using this
/-- operations that never enter a function -/
def plain : Op → Bool
  | .move _ | .assign _ | .pick .. | .load .. | .binOp .. | .unOp .. | .convert .. | .fieldAddr .. | .field .. | .indexAddr .. | .index .. | .extract .. | .build .. | .slice .. | .makeInterface .. | .makeFunc .. => true
  | _ => false
theorem v_still {s : Sem Value} {C : World → Prop} {w : World} {v : Value} (h : Oper.quietUpon P C w v ((do pure (.value (← s)) : Sem Next).run P w)) : stillUpon w v ((do pure (.value (← s)) : Sem Next).run P w) := by
  rw [Sem.run_bind] at *
  cases hs : s.run P w with
  | ok x w' => rw [hs] at h; simpa [Oper.quietUpon, stillUpon] using h
  | halt x w' => rw [hs] at h; simp [Oper.quietUpon] at h
theorem still_of_quiet {o : Oper} {a : Act} {C : World → Prop} {w : World} {v : Value} (hp : plain o.op = true) (h : o.quietAt P a C w v) : stillUpon w v ((execOp a.eval o).run P w) := by
  unfold Oper.quietAt execOp at *
  cases ho : o.op <;> rw [ho] at hp <;> simp only [plain] at hp <;> first | (cases hp; done) | skip
  all_goals simp only [ho] at h ⊢
  all_goals first
    | exact v_still h
    | (simpa [Oper.quietUpon, stillUpon] using h)
    | (rw [Sem.run_bind] at *; rename_i c x y; cases hs : (asBool (a.eval c)).run P w with
        | ok x w' => rw [hs] at h; simpa [Oper.quietUpon, stillUpon] using h
        | halt x w' => rw [hs] at h; simp [Oper.quietUpon] at h)
/-- the operations ahead of the next call: by the quiet walk -/
def lead (cs : Nat → Bool) : Nat → List Oper → Bool
  | _, [] => true
  | k, o :: l => !(cs k) && plain o.op && lead cs (k + 1) l
theorem bg_still {B G : World → Prop} {o : Oper} {a : Act} {k : Nat} {v : Value} (h : stillIn P o a B v) : stillIn P o a (Bg gs k B G) v := fun w hw => h w hw.1
theorem wpGrow_lead {Q : (World → Prop) → Act → Prop} {G : World → Prop} : ∀ (l1 l2 : List Oper) (k : Nat) (a : Act), lead cs k l1 = true →
    wpQuiet P ops B (fun a' => wpGrow P ops B cs gs Q l2 (k + l1.length) G a') l1 a → wpGrow P ops B cs gs Q (l1 ++ l2) k G a
  | [], l2, k, a, _, h => h
  | o :: l1, l2, k, a, hl, h => by
    simp only [lead, Bool.and_eq_true, Bool.not_eq_true'] at hl
    have e : k + (o :: l1).length = (k + 1) + l1.length := by simp; omega
    rw [e] at h
    show step P ops B cs gs k o (wpGrow P ops B cs gs Q (l1 ++ l2) (k + 1)) G a
    unfold step
    unfold wpQuiet at h
    split
    · rename_i hw
      rw [if_pos hw] at h
      rw [if_neg (by rw [hl.1.1]; exact Bool.false_ne_true)]
      obtain ⟨v, h1, h2⟩ := h
      exact ⟨v, bg_still fun w hw => still_of_quiet hl.1.2 (h1 w hw), wpGrow_lead l1 l2 (k + 1) _ hl.2 h2⟩
    · rename_i hw
      rw [if_neg hw] at h
      exact wpGrow_lead l1 l2 (k + 1) _ hl.2 h
theorem wpGrow_take {Q : (World → Prop) → Act → Prop} {G : World → Prop} (n : Nat) {l : List Oper} {k : Nat} {a : Act} (hl : lead cs k (l.take n) = true)
    (h : wpQuiet P ops B (fun a' => wpGrow P ops B cs gs Q (l.drop n) (k + (l.take n).length) G a') (l.take n) a) : wpGrow P ops B cs gs Q l k G a := by
  have := wpGrow_lead (l.take n) (l.drop n) k a hl h
  rwa [List.take_append_drop] at this
/-- a call: what is known from there on is R alone -/
theorem wpGrow_turn {Q : (World → Prop) → Act → Prop} {G : World → Prop} {o : Oper} {rest : List Oper} {k : Nat} {a : Act} (V : Value → Prop) (R : Value → World → Prop) (hw : Region.wanted o (yielded ops a.tmps) = true) (hc : cs k = true) (hV : ∃ v, V v)
    (h : ∀ w, B w → G w → growAt P o a B (fun v w => V v ∧ R v w) w) (hk : ∀ v a', V v → a' = a.put o.dst v → wpGrow P ops B cs gs Q rest (k + 1) (R v) a') : wpGrow P ops B cs gs Q (o :: rest) k G a := by
  show step P ops B cs gs k o (wpGrow P ops B cs gs Q rest (k + 1)) G a
  unfold step
  rw [if_pos hw, if_pos hc]
  exact ⟨V, R, hV, h, fun v hv => hk v _ hv rfl⟩
/-- a call: what was known is known still, and R -/
theorem wpGrow_call {Q : (World → Prop) → Act → Prop} {G : World → Prop} {o : Oper} {rest : List Oper} {k : Nat} {a : Act} (V : Value → Prop) (R : Value → World → Prop) (hw : Region.wanted o (yielded ops a.tmps) = true) (hc : cs k = true) (hV : ∃ v, V v)
    (h : ∀ w, B w → G w → growAt P o a B (fun v w => V v ∧ G w ∧ R v w) w) (hk : ∀ v a', V v → a' = a.put o.dst v → wpGrow P ops B cs gs Q rest (k + 1) (fun w => G w ∧ R v w) a') : wpGrow P ops B cs gs Q (o :: rest) k G a :=
  wpGrow_turn V (fun v w => G w ∧ R v w) hw hc hV h hk
/-- a call that hands back one value -/
theorem wpGrow_one {Q : (World → Prop) → Act → Prop} {G : World → Prop} {o : Oper} {rest : List Oper} {k : Nat} {a : Act} (v : Value) (hw : Region.wanted o (yielded ops a.tmps) = true) (hc : cs k = true)
    (h : ∀ w, B w → G w → growAt P o a B (fun u w => u = v ∧ G w) w) (hk : ∀ a', a' = a.put o.dst v → wpGrow P ops B cs gs Q rest (k + 1) G a') : wpGrow P ops B cs gs Q (o :: rest) k G a := by
  refine wpGrow_turn (fun u => u = v) (fun _ w => G w) hw hc ⟨v, rfl⟩ h (fun u a' hu ha => ?_)
  subst hu
  exact hk a' ha
theorem wpGrow_skip {Q : (World → Prop) → Act → Prop} {G : World → Prop} {o : Oper} {rest : List Oper} {k : Nat} {a : Act} (hw : Region.wanted o (yielded ops a.tmps) = false)
    (hk : ∀ a', a' = a.put o.dst undef → wpGrow P ops B cs gs Q rest (k + 1) G a') : wpGrow P ops B cs gs Q (o :: rest) k G a := by
  show step P ops B cs gs k o (wpGrow P ops B cs gs Q rest (k + 1)) G a
  unfold step
  rw [if_neg (by rw [hw]; exact Bool.false_ne_true)]
  exact hk _ rfl
theorem wpGrow_nil {Q : (World → Prop) → Act → Prop} {G : World → Prop} {k : Nat} {a : Act} (h : Q G a) : wpGrow P ops B cs gs Q [] k G a := h
end
/-- the region in the class of the worlds that meet S, named by an index -/
theorem wp_region_growS {P : Program} {id : Nat} {l : List Oper} {Q : Exit → Act → World → Prop} {a : Act} {w : World} (S G0 : World → Prop) (cs gs : Nat → Bool) (hm : P.follows .mixedOrders = true) (hL : Region.lexB .any l.toArray = true) (hord : ordered .any l.toArray cs gs = true) (hS : S w.drew) (hG : G0 w.drew)
    (h : ∀ (I : Type) [Nonempty I] (f : I → World), (∀ n, S (f n)) → (∀ w', S w' → ∃ m, w' = f m) →
      wpGrow P l.toArray (fun w' => ∃ n, w' = f n) cs gs (fun G' a' => ∀ w', (∃ n, w' = f n) → G' w' → Q .normal a' w') l 0 G0 a) : (Code.region id l.toArray true).wp P Q a w :=
  wp_region_grow (fun w' => ∃ n : {x : World // S x}, w' = n.1) G0 cs gs hm hL hord ⟨⟨w.drew, hS⟩, rfl⟩ hG
    (@h {x : World // S x} ⟨⟨w.drew, hS⟩⟩ Subtype.val (fun n => n.2) (fun w' hw' => ⟨⟨w', hw'⟩, rfl⟩))
attribute [go_sem] growAt growUpon stillUpon
end Go.GrowG
