import Derived.Deep.QuietTactic
import Derived.BigQuiet
import Derived.Test.YtebcfbcfipmahaaGreatZ3Bv
section
/- Plain lemmas: a region that draws its order, whose calls come one behind the other and hand back values that differ from world to world (a fresh slice), and whose other operations only read: one walk in the order of the text; what is known of a call's value is known from there on. What writes or makes memory is taken as a call is. -/
namespace Go.Grow
open Go
set_option linter.unusedVariables false
section
variable {P : Program} {ops : Array Oper} {md : Region.Mode} {B : World → Prop} {cs : Nat → Bool}
/-- a call: in every world of B that meets G it hands back a value and leaves a world of B that meets G, and R of that value; what is no call yields a value of which R holds there -/
def growUpon (P : Program) (B : World → Prop) (R : Value → World → Prop) (w : World) : Result Next → Prop
  | .ok (.value u) w' => B w' ∧ R u w'
  | .ok .skip w' => B w' ∧ R undef w'
  | .ok (.enter f args) w' => w' = w ∧ Calls P f args w (fun e w'' => ∃ v, e = .returned v ∧ B w'' ∧ R v w'')
  | _ => False
def growAt (P : Program) (o : Oper) (a : Act) (B : World → Prop) (R : Value → World → Prop) (w : World) : Prop := growUpon P B R w ((execOp a.eval o).run P w)
/-- it yields v, in the world that it got -/
def stillUpon (w : World) (v : Value) : Result Next → Prop
  | .ok (.value u) w' => w' = w ∧ u = v
  | .ok .skip w' => w' = w ∧ v = undef
  | _ => False
def stillIn (P : Program) (o : Oper) (a : Act) (B : World → Prop) (v : Value) : Prop := ∀ w, B w → stillUpon w v ((execOp a.eval o).run P w)
theorem stillUpon_one {w : World} {v u : Value} {r : Result Next} (h : stillUpon w v r) (k : stillUpon w u r) : v = u := by
  cases r with
  | ok n w' =>
    cases n <;> simp only [stillUpon] at h k
    case value x => rw [← h.2, ← k.2]
    case skip => rw [h.2, k.2]
  | halt x w' => simp only [stillUpon] at h
/-- operation number k comes up -/
def step (P : Program) (ops : Array Oper) (B : World → Prop) (cs : Nat → Bool) (k : Nat) (o : Oper) (K : (World → Prop) → Act → Prop) (G : World → Prop) (a : Act) : Prop :=
  if Region.wanted o (yielded ops a.tmps) then
    if cs k then ∃ (V : Value → Prop) (R : Value → World → Prop), (∃ v, V v) ∧ (∀ w, B w → G w → growAt P o a B (fun v w => V v ∧ R v w) w) ∧ ∀ v, V v → K (R v) (a.put o.dst v)
    else ∃ v, stillIn P o a B v ∧ K G (a.put o.dst v)
  else K G (a.put o.dst undef)
def gOp (P : Program) (ops : Array Oper) (B : World → Prop) (cs : Nat → Bool) (k : Nat) (K : (World → Prop) → Act → Prop) (G : World → Prop) (a : Act) : Prop :=
  match ops[k]? with
  | none => K G a
  | some o => step P ops B cs k o K G a
theorem step_mono {k : Nat} {o : Oper} {K K' : (World → Prop) → Act → Prop} {G : World → Prop} {a : Act} (h : ∀ G a, K G a → K' G a) (hh : step P ops B cs k o K G a) : step P ops B cs k o K' G a := by
  unfold step at *
  split
  · rename_i hw
    rw [if_pos hw] at hh
    split
    · rename_i hc
      rw [if_pos hc] at hh
      obtain ⟨V, R, hv, h1, h2⟩ := hh
      exact ⟨V, R, hv, h1, fun v hv => h _ _ (h2 v hv)⟩
    · rename_i hc
      rw [if_neg hc] at hh
      obtain ⟨v, h1, h2⟩ := hh
      exact ⟨v, h1, h _ _ h2⟩
  · rename_i hw
    rw [if_neg hw] at hh
    exact h _ _ hh
theorem gOp_mono {k : Nat} {K K' : (World → Prop) → Act → Prop} {G : World → Prop} {a : Act} (h : ∀ G a, K G a → K' G a) (hh : gOp P ops B cs k K G a) : gOp P ops B cs k K' G a := by
  unfold gOp at *
  split
  · rename_i ho; simp only [ho] at hh; exact h _ _ hh
  · rename_i o ho; simp only [ho] at hh; exact step_mono h hh
/-- whatever order is picked from here on -/
def wpAnyG (P : Program) (md : Region.Mode) (ops : Array Oper) (B : World → Prop) (cs : Nat → Bool) (Q : (World → Prop) → Act → Prop) : Nat → Array Bool → (World → Prop) → Act → Prop
  | 0, listed, G, a => Region.ready md ops listed = [] ∧ Q G a
  | fuel + 1, listed, G, a =>
    (Region.ready md ops listed = [] → Q G a) ∧
    ∀ i ∈ Region.ready md ops listed, gOp P ops B cs i (wpAnyG P md ops B cs Q fuel (listed.setIfInBounds i true)) G a
theorem wp_of_still {o : Oper} {a : Act} {v : Value} {K' : Act → World → Prop} {Q' : Exit → Act → World → Prop} {w : World} (hw : B w) (h : stillIn P o a B v) (hk : K' (a.put o.dst v) w) : o.wp P a w K' Q' := by
  have h3 := h w hw
  unfold Oper.wp
  generalize (execOp a.eval o).run P w = r at *
  cases r with
  | ok n w' =>
    cases n <;> simp only [stillUpon] at h3 <;> simp only [Oper.upon]
    case value u => obtain ⟨e1, e2⟩ := h3; rw [e1, e2]; exact hk
    case skip => obtain ⟨e1, e2⟩ := h3; rw [e1, ← e2]; exact hk
  | halt x w' => simp only [stillUpon] at h3
theorem wp_of_grow {o : Oper} {a : Act} {R : Value → World → Prop} {K' : Act → World → Prop} {Q' : Exit → Act → World → Prop} {w : World} (h : growAt P o a B R w)
    (hk : ∀ v w', B w' → R v w' → K' (a.put o.dst v) w') : o.wp P a w K' Q' := by
  unfold growAt at h
  unfold Oper.wp
  generalize (execOp a.eval o).run P w = r at *
  cases r with
  | ok n w' =>
    cases n <;> simp only [growUpon] at h <;> simp only [Oper.upon]
    case value u => exact hk _ _ h.1 h.2
    case skip => exact hk _ _ h.1 h.2
    case enter f args =>
      obtain ⟨e1, hc⟩ := h
      rw [e1]
      exact hc.mono fun e w'' ⟨v, he, h1, h3⟩ => by subst he; exact hk _ _ h1 h3
  | halt x w' => simp only [growUpon] at h
theorem wpOp_of_gOp {i : Nat} {a : Act} {G : World → Prop} {K : (World → Prop) → Act → Prop} {K' : Act → World → Prop} {Q' : Exit → Act → World → Prop} {w : World} (hB : B w) (hG : G w)
    (h : ∀ G a w', B w' → G w' → K G a → K' a w') (hh : gOp P ops B cs i K G a) : wpOp P ops Q' i K' a w := by
  unfold gOp at hh
  unfold wpOp
  split
  · rename_i ho; simp only [ho] at hh; exact h _ _ _ hB hG hh
  · rename_i o ho
    simp only [ho] at hh
    unfold step at hh
    split
    · rename_i hw
      rw [if_pos hw] at hh
      left
      split at hh
      · obtain ⟨V, R, _, h1, h2⟩ := hh
        exact wp_of_grow (h1 w hB hG) fun v w' b1 b3 => h _ _ _ b1 b3.2 (h2 v b3.1)
      · obtain ⟨v, h1, h2⟩ := hh
        exact wp_of_still hB h1 (h _ _ _ hB hG h2)
    · rename_i hw
      rw [if_neg hw] at hh
      exact h _ _ _ hB hG hh
theorem wpAny_of_grow {Q : (World → Prop) → Act → Prop} {Q' : Exit → Act → World → Prop} (hQ : ∀ G a w, B w → G w → Q G a → Q' .normal a w) : ∀ (fuel : Nat) (listed : Array Bool) (G : World → Prop) (a : Act) (w : World), B w → G w →
    wpAnyG P md ops B cs Q fuel listed G a → wpAny P md ops Q' fuel listed a w
  | 0, _, _, _, _, hB, hG, h => ⟨h.1, hQ _ _ _ hB hG h.2⟩
  | fuel + 1, _, _, _, _, hB, hG, h => ⟨fun h0 => hQ _ _ _ hB hG (h.1 h0), fun i hi => wpOp_of_gOp hB hG (fun G' a' w' b g => wpAny_of_grow hQ fuel _ G' a' w' b g) (h.2 i hi)⟩
theorem still_put {o : Oper} (hs : ∀ c b, o.op ≠ .select c b) {a : Act} {d : Option Tmp} {v u : Value} (h : ∀ t, d = some t → t ∉ o.looksAt ops) : stillIn P o (a.put d v) B u ↔ stillIn P o a B u := by
  unfold stillIn; rw [execOp_put o hs a d v h]
theorem grow_put {o : Oper} (hs : ∀ c b, o.op ≠ .select c b) {a : Act} {d : Option Tmp} {v : Value} {R : Value → World → Prop} {w : World} (h : ∀ t, d = some t → t ∉ o.looksAt ops) : growAt P o (a.put d v) B R w ↔ growAt P o a B R w := by
  unfold growAt; rw [execOp_put o hs a d v h]
/-- two operations that are apart, not both of them calls: in either order -/
theorem step_comm {i j : Nat} {oi oj : Oper} (hB : ∃ w, B w) (hap : oi.apart ops oj = true) (hsi : ∀ c b, oi.op ≠ .select c b) (hsj : ∀ c b, oj.op ≠ .select c b) (hcs : ¬ (cs i = true ∧ cs j = true))
    {K : (World → Prop) → Act → Prop} {G : World → Prop} {a : Act} (h : step P ops B cs i oi (fun G a => step P ops B cs j oj K G a) G a) : step P ops B cs j oj (fun G a => step P ops B cs i oi K G a) G a := by
  obtain ⟨h1, h2, h3⟩ := Oper.apart_spec hap
  obtain ⟨w0, hw0⟩ := hB
  have wi : ∀ (a : Act) (u : Value), Region.wanted oi (yielded ops (a.put oj.dst u).tmps) = Region.wanted oi (yielded ops a.tmps) := fun a u => wanted_put oi a oj.dst u h3
  have wj : ∀ (a : Act) (u : Value), Region.wanted oj (yielded ops (a.put oi.dst u).tmps) = Region.wanted oj (yielded ops a.tmps) := fun a u => wanted_put oj a oi.dst u h1
  have cm : ∀ (a : Act) (v u : Value), (a.put oi.dst v).put oj.dst u = (a.put oj.dst u).put oi.dst v := fun a v u => Act.put_comm a v u h2
  unfold step at *
  simp only [wi, wj] at *
  by_cases hwi : Region.wanted oi (yielded ops a.tmps) = true
  · rw [if_pos hwi] at h
    by_cases hwj : Region.wanted oj (yielded ops a.tmps) = true
    · simp only [hwi, hwj, if_true] at *
      by_cases hci : cs i = true
      · have hcj : cs j = false := by cases hc : cs j; rfl; exact absurd ⟨hci, hc⟩ hcs
        simp only [hci, hcj, if_true, Bool.false_eq_true, if_false] at *
        obtain ⟨V, R, ⟨v0, hv0⟩, hr, hk⟩ := h
        obtain ⟨u, hu, _⟩ := hk v0 hv0
        rw [still_put hsj h1] at hu
        refine ⟨u, hu, V, R, ⟨v0, hv0⟩, fun w b g => (grow_put hsi h3).2 (hr w b g), fun v hv => ?_⟩
        obtain ⟨u', hu', hk'⟩ := hk v hv
        rw [still_put hsj h1] at hu'
        have e : u' = u := stillUpon_one (hu' w0 hw0) (hu w0 hw0)
        rw [← cm, ← e]; exact hk'
      · have hci : cs i = false := by cases hc : cs i; rfl; exact absurd hc hci
        simp only [hci, Bool.false_eq_true, if_false] at *
        obtain ⟨v, hv, hk⟩ := h
        split at hk
        · rename_i hcj
          rw [if_pos hcj]
          obtain ⟨V, R, hV, hr, hk⟩ := hk
          exact ⟨V, R, hV, fun w b g => (grow_put hsj h1).1 (hr w b g), fun u hu => ⟨v, (still_put hsi h3).2 hv, by rw [← cm]; exact hk u hu⟩⟩
        · rename_i hcj
          rw [if_neg hcj]
          obtain ⟨u, hu, hk⟩ := hk
          exact ⟨u, (still_put hsj h1).1 hu, v, (still_put hsi h3).2 hv, by rw [← cm]; exact hk⟩
    · simp only [hwi, hwj, if_true, Bool.false_eq_true, if_false] at *
      by_cases hci : cs i = true
      · simp only [hci, if_true] at *
        obtain ⟨V, R, hV, hr, hk⟩ := h
        exact ⟨V, R, hV, fun w b g => (grow_put hsi h3).2 (hr w b g), fun v hv => by rw [← cm]; exact hk v hv⟩
      · simp only [hci, Bool.false_eq_true, if_false] at *
        obtain ⟨v, hv, hk⟩ := h
        exact ⟨v, (still_put hsi h3).2 hv, by rw [← cm]; exact hk⟩
  · rw [if_neg hwi] at h
    by_cases hwj : Region.wanted oj (yielded ops a.tmps) = true
    · simp only [hwi, hwj, if_true, Bool.false_eq_true, if_false] at *
      split at h
      · rename_i hcj
        rw [if_pos hcj]
        obtain ⟨V, R, hV, hr, hk⟩ := h
        exact ⟨V, R, hV, fun w b g => (grow_put hsj h1).1 (hr w b g), fun u hu => by rw [← cm]; exact hk u hu⟩
      · rename_i hcj
        rw [if_neg hcj]
        obtain ⟨u, hu, hk⟩ := h
        exact ⟨u, (still_put hsj h1).1 hu, by rw [← cm]; exact hk⟩
    · simp only [hwi, hwj, Bool.false_eq_true, if_false] at *
      rw [← cm]; exact h
/-- j waits for i, at last -/
inductive Waits (md : Region.Mode) (ops : Array Oper) : Nat → Nat → Prop
  | one {j : Nat} {o : Oper} {e : Edge} (ho : ops[j]? = some o) (he : e ∈ o.after) (hb : Region.binds md e = true) : Waits md ops j e.on
  | more {j i : Nat} {o : Oper} {e : Edge} (ho : ops[j]? = some o) (he : e ∈ o.after) (hb : Region.binds md e = true) (h : Waits md ops e.on i) : Waits md ops j i
/-- what an operation waits for, as bits, out of those of the operations ahead of it -/
def anc (md : Region.Mode) (t : Array Nat) (l : List Edge) : Nat := l.foldl (fun m e => if Region.binds md e then m ||| (t.getD e.on 0 ||| 2 ^ e.on) else m) 0
def table (md : Region.Mode) : List Oper → Array Nat → Array Nat
  | [], t => t
  | o :: l, t => table md l (t.push (anc md t o.after.toList))
theorem anc_bit {t : Array Nat} {i : Nat} : ∀ (l : List Edge) (m : Nat), (l.foldl (fun m e => if Region.binds md e then m ||| (t.getD e.on 0 ||| 2 ^ e.on) else m) m).testBit i = true →
    m.testBit i = true ∨ ∃ e ∈ l, Region.binds md e = true ∧ ((t.getD e.on 0).testBit i = true ∨ e.on = i)
  | [], m, h => Or.inl h
  | e :: l, m, h => by
    rw [List.foldl_cons] at h
    rcases anc_bit l _ h with h1 | ⟨e', he', h1⟩
    · split at h1
      · rename_i hb
        rw [Nat.testBit_or, Nat.testBit_or, Bool.or_eq_true, Bool.or_eq_true] at h1
        rcases h1 with h1 | h1 | h1
        · exact Or.inl h1
        · exact Or.inr ⟨e, List.mem_cons_self .., hb, Or.inl h1⟩
        · refine Or.inr ⟨e, List.mem_cons_self .., hb, Or.inr ?_⟩
          rw [Nat.testBit_two_pow] at h1
          simpa using h1
      · exact Or.inl h1
    · exact Or.inr ⟨e', List.mem_cons_of_mem _ he', h1⟩
theorem table_waits : ∀ (l : List Oper) (t : Array Nat), (∀ j, l[j]? = ops[t.size + j]?) → (∀ k i, (t.getD k 0).testBit i = true → Waits md ops k i) → ∀ k i, ((table md l t).getD k 0).testBit i = true → Waits md ops k i
  | [], t, _, h, k, i, hk => h k i hk
  | o :: l, t, hl, h, k, i, hk => by
    refine table_waits l (t.push (anc md t o.after.toList)) (fun j => ?_) (fun k i hk => ?_) k i hk
    · have := hl (j + 1)
      rw [Array.size_push, Nat.add_assoc, Nat.add_comm 1 j]; simpa using this
    · have h0 : ops[t.size]? = some o := by simpa using (hl 0).symm
      by_cases hlt : k < t.size
      · exact h k i (by simpa [Array.getElem?_push, hlt, Nat.ne_of_lt hlt] using hk)
      · by_cases he : k = t.size
        · subst he
          have hk2 : (anc md t o.after.toList).testBit i = true := by simpa using hk
          rcases anc_bit _ _ hk2 with h1 | ⟨e, he, hb, h1 | h1⟩
          · simp at h1
          · exact .more h0 (by simpa using he) hb (h _ _ h1)
          · rw [← h1]; exact .one h0 (by simpa using he) hb
        · exfalso
          have : (t.push (anc md t o.after.toList)).getD k 0 = 0 := by
            rw [Array.getD_eq_getD_getElem?, Array.getElem?_eq_none (by simp; omega)]; rfl
          rw [this] at hk; simp at hk
/-- of two calls one waits for the other -/
def ordered (md : Region.Mode) (ops : Array Oper) (cs : Nat → Bool) : Bool :=
  let t := table md ops.toList #[]
  let l := (List.range ops.size).filter cs
  l.all fun i => l.all fun j => i == j || (t.getD j 0).testBit i || (t.getD i 0).testBit j
theorem ordered_spec (h : ordered md ops cs = true) {i j : Nat} (li : i < ops.size) (lj : j < ops.size) (ci : cs i = true) (cj : cs j = true) : i = j ∨ Waits md ops j i ∨ Waits md ops i j := by
  have hi : i ∈ (List.range ops.size).filter cs := List.mem_filter.2 ⟨List.mem_range.2 li, ci⟩
  have hj : j ∈ (List.range ops.size).filter cs := List.mem_filter.2 ⟨List.mem_range.2 lj, cj⟩
  have h2 := List.all_eq_true.1 (List.all_eq_true.1 h i hi) j hj
  simp only [Bool.or_eq_true, beq_iff_eq] at h2
  have ht := table_waits (md := md) (ops := ops) ops.toList #[] (by simp) (by intro k i hk; simp at hk)
  rcases h2 with (h2 | h2) | h2
  · exact Or.inl h2
  · exact Or.inr (Or.inl (ht _ _ h2))
  · exact Or.inr (Or.inr (ht _ _ h2))
/-- what is listed waited for what is listed -/
def Down (md : Region.Mode) (ops : Array Oper) (listed : Array Bool) : Prop := ∀ k o, ops[k]? = some o → listed.getD k false = true → ∀ e ∈ o.after, Region.binds md e = true → listed.getD e.on false = true
theorem waits_listed {listed : Array Bool} (hd : Down md ops listed) {k i : Nat} (h : Waits md ops k i) : listed.getD k false = true → listed.getD i false = true := by
  induction h with
  | one ho he hb => intro hk; exact hd _ _ ho hk _ he hb
  | more ho he hb _ ih => intro hk; exact ih (hd _ _ ho hk _ he hb)
theorem waits_ready {listed : Array Bool} (hd : Down md ops listed) {i j : Nat} (hj : j ∈ Region.ready md ops listed) (h : Waits md ops j i) : listed.getD i false = true := by
  obtain ⟨_, o, ho, hall⟩ := mem_ready.1 hj
  cases h with
  | one ho' he hb => rw [ho] at ho'; cases ho'; exact hall _ he hb
  | more ho' he hb h => rw [ho] at ho'; cases ho'; exact waits_listed hd h (hall _ he hb)
theorem down_set {listed : Array Bool} (hd : Down md ops listed) {j : Nat} (hj : j ∈ Region.ready md ops listed) : Down md ops (listed.setIfInBounds j true) := by
  intro k o ho hk e he hb
  by_cases h : j = k
  · subst h
    obtain ⟨_, o', ho', hall⟩ := mem_ready.1 hj
    rw [ho] at ho'; cases ho'
    exact getD_set_true (hall e he hb)
  · rw [getD_set_ne false h] at hk
    exact getD_set_true (hd k o ho hk e he hb)
theorem ready_unlisted {listed : Array Bool} {i : Nat} (h : i ∈ Region.ready md ops listed) (hl : listed.getD i false = true) : False := by
  have h0 := (mem_ready.1 h).1
  rcases Nat.lt_or_ge i listed.size with h' | h'
  · simp [h'] at h0 hl; rw [h0] at hl; cases hl
  · simp [Array.getElem?_eq_none h'] at hl
theorem not_both {listed : Array Bool} (hd : Down md ops listed) (ho : ordered md ops cs = true) {i j : Nat} (hi : i ∈ Region.ready md ops listed) (hj : j ∈ Region.ready md ops listed) (hne : j ≠ i) : ¬ (cs i = true ∧ cs j = true) := by
  rintro ⟨ci, cj⟩
  have li : i < ops.size := by obtain ⟨_, o, h, _⟩ := mem_ready.1 hi; exact (Array.getElem?_eq_some_iff.1 h).1
  have lj : j < ops.size := by obtain ⟨_, o, h, _⟩ := mem_ready.1 hj; exact (Array.getElem?_eq_some_iff.1 h).1
  rcases ordered_spec ho li lj ci cj with h | h | h
  · exact hne h.symm
  · exact ready_unlisted hi (waits_ready hd hj h)
  · exact ready_unlisted hj (waits_ready hd hi h)
/-- an operation that may come up now may be taken first -/
theorem wpAnyG_first {Q : (World → Prop) → Act → Prop} {i : Nat} {oi : Oper} (hB : ∃ w, B w) (hord : ordered md ops cs = true) (hi : ops[i]? = some oi) (hsel : ∀ (j : Nat) (o : Oper) c b, ops[j]? = some o → o.op ≠ .select c b) :
    ∀ (fuel : Nat) (listed : Array Bool) (G : World → Prop) (a : Act), Down md ops listed →
      (∀ j oj, ops[j]? = some oj → j ≠ i → listed.getD j true = false → (∀ e ∈ oj.after, Region.binds md e = true → e.on ≠ i) → oi.apart ops oj = true) →
      i ∈ Region.ready md ops listed →
      gOp P ops B cs i (wpAnyG P md ops B cs Q fuel (listed.setIfInBounds i true)) G a → wpAnyG P md ops B cs Q (fuel + 1) listed G a := by
  intro fuel
  induction fuel with
  | zero =>
    intro listed G a hd hfree hr H
    refine ⟨fun h => (by rw [h] at hr; cases hr), fun j hj => ?_⟩
    by_cases hji : j = i
    · subst hji; exact H
    · exfalso
      -- something else is ready still behind i: but nothing is, at no fuel
      have key : ∀ G' a', wpAnyG P md ops B cs Q 0 (listed.setIfInBounds i true) G' a' → False := fun G' a' h => by
        have := ready_mono hj hji
        rw [h.1] at this
        cases this
      have H2 := gOp_mono (K' := fun _ _ => False) (fun G' a' h => key G' a' h) H
      unfold gOp at H2
      simp only [hi] at H2
      unfold step at H2
      split at H2
      · split at H2
        · obtain ⟨V, R, ⟨v0, hv0⟩, _, h2⟩ := H2; exact h2 v0 hv0
        · obtain ⟨v, _, h2⟩ := H2; exact h2
      · exact H2
  | succ fuel ih =>
    intro listed G a hd hfree hr H
    refine ⟨fun h => (by rw [h] at hr; cases hr), fun j hj => ?_⟩
    by_cases hji : j = i
    · subst hji; exact H
    · obtain ⟨hjun, oj, hoj, hall⟩ := mem_ready.1 hj
      have hnot : ∀ e ∈ oj.after, Region.binds md e = true → e.on ≠ i := fun e he hb heq =>
        ready_unlisted hr (by rw [← heq]; exact hall e he hb)
      have hap := hfree j oj hoj hji hjun hnot
      have h1 : gOp P ops B cs i (fun G a => gOp P ops B cs j (wpAnyG P md ops B cs Q fuel ((listed.setIfInBounds i true).setIfInBounds j true)) G a) G a :=
        gOp_mono (fun G' a' h => h.2 j (ready_mono hj hji)) H
      have h2 : gOp P ops B cs j (fun G a => gOp P ops B cs i (wpAnyG P md ops B cs Q fuel ((listed.setIfInBounds j true).setIfInBounds i true)) G a) G a := by
        rw [Array.setIfInBounds_comm _ _ hji]
        unfold gOp at h1 ⊢
        simp only [hi, hoj] at h1 ⊢
        exact step_comm hB hap (fun c b => hsel i oi c b hi) (fun c b => hsel j oj c b hoj) (not_both hd hord hr hj hji) h1
      have hfree' : ∀ k ok, ops[k]? = some ok → k ≠ i → (listed.setIfInBounds j true).getD k true = false →
          (∀ e ∈ ok.after, Region.binds md e = true → e.on ≠ i) → oi.apart ops ok = true := fun k ok hk hki hun hno => by
        refine hfree k ok hk hki ?_ hno
        by_cases hjk : j = k
        · subst hjk; exact hjun
        · rw [getD_set_ne true hjk] at hun; exact hun
      exact gOp_mono (fun G' a' h3 => ih (listed.setIfInBounds j true) G' a' (down_set hd hj) hfree' (ready_mono hr (Ne.symm hji)) h3) h2
/-- the walk in the order of the text -/
def wpGrow (P : Program) (ops : Array Oper) (B : World → Prop) (cs : Nat → Bool) (Q : (World → Prop) → Act → Prop) : List Oper → Nat → (World → Prop) → Act → Prop
  | [], _, G, a => Q G a
  | o :: rest, k, G, a => step P ops B cs k o (wpGrow P ops B cs Q rest (k + 1)) G a
theorem wpAnyG_lex {Q : (World → Prop) → Act → Prop} (hB0 : ∃ w, B w) (hord : ordered md ops cs = true) (hs : Region.noSelect ops = true) : ∀ (l : List Oper) (k : Nat) (listed : Array Bool) (G : World → Prop) (a : Act), Down md ops listed → (∀ j, l[j]? = ops[k + j]?) →
    Region.lexFrom md ops l.length k listed = true → wpGrow P ops B cs Q l k G a → wpAnyG P md ops B cs Q l.length listed G a
  | [], _, _, _, _, _, _, hB, h => ⟨by simpa [Region.lexFrom] using hB, h⟩
  | o :: l, k, listed, G, a, hd, hl, hB, h => by
    have h0 : ops[k]? = some o := by simpa using (hl 0).symm
    simp only [List.length_cons, Region.lexFrom, Bool.and_eq_true] at hB
    obtain ⟨⟨hr, hf⟩, hB'⟩ := hB
    have hr' : k ∈ Region.ready md ops listed := by simpa using hr
    refine wpAnyG_first hB0 hord h0 (Region.noSelect_spec hs) l.length listed G a hd (Region.free_spec h0 hf) hr' ?_
    unfold gOp
    simp only [h0]
    exact step_mono (fun G' a' h2 => wpAnyG_lex hB0 hord hs l (k + 1) _ G' a' (down_set hd hr') (fun j => by have := hl (j + 1); simpa [Nat.add_assoc, Nat.add_comm 1 j] using this) hB' h2) h
theorem down_none (n : Nat) : Down md ops (Array.replicate n false) := by
  intro k o _ hk
  exfalso
  rcases Nat.lt_or_ge k n with h | h
  · simp [h] at hk
  · simp [h] at hk
/-- one walk of the text's order serves every order -/
theorem wp_region_grow {id : Nat} {l : List Oper} {Q : Exit → Act → World → Prop} {a : Act} {w : World} (B G : World → Prop) (cs : Nat → Bool) (hm : P.follows .mixedOrders = true) (hL : Region.lexB .any l.toArray = true) (hord : ordered .any l.toArray cs = true) (hB : B w.drew) (hG : G w.drew)
    (h : wpGrow P l.toArray B cs (fun G' a' => ∀ w', B w' → G' w' → Q .normal a' w') l 0 G a) : (Code.region id l.toArray true).wp P Q a w := by
  simp only [Region.lexB, Bool.and_eq_true] at hL
  refine wp_region_any hm (wpAny_of_grow (B := B) (cs := cs) (Q := fun G' a' => ∀ w', B w' → G' w' → Q .normal a' w') (fun _ _ w' b g h => h w' b g) _ _ G _ _ hB hG ?_)
  have := wpAnyG_lex (P := P) (B := B) (cs := cs) (md := .any) ⟨_, hB⟩ hord hL.1 l 0 (Array.replicate l.toArray.size false) G a (down_none _) (by simp) (by simpa using hL.2) h
  simpa using this
/-- operations that never enter a function -/
def plain : Op → Bool
  | .move _ | .assign _ | .pick .. | .load .. | .binOp .. | .unOp .. | .convert .. | .fieldAddr .. | .field .. | .indexAddr .. | .index .. | .extract .. | .build .. | .slice .. | .makeInterface .. => true
  | _ => false
theorem v_still {s : Sem Value} {C : World → Prop} {w : World} {v : Value} (h : Oper.quietUpon P C w v ((do pure (.value (← s)) : Sem Next).run P w)) : stillUpon w v ((do pure (.value (← s)) : Sem Next).run P w) := by
  rw [Sem.run_bind] at *
  cases hs : s.run P w with
  | ok x w' => rw [hs] at h; simpa [Oper.quietUpon, stillUpon] using h
  | halt x w' => rw [hs] at h; simp [Oper.quietUpon] at h
theorem still_of_quiet {o : Oper} {a : Act} {C : World → Prop} {w : World} {v : Value} (hp : plain o.op = true) (h : o.quietAt P a C w v) : stillUpon w v ((execOp a.eval o).run P w) := by
  unfold Oper.quietAt execOp at *
  cases ho : o.op <;> rw [ho] at hp <;> simp only [plain] at hp <;> first | (cases hp; done) | skip
  all_goals simp only [ho] at h ⊢
  all_goals first
    | exact v_still h
    | (simpa [Oper.quietUpon, stillUpon] using h)
    | (rw [Sem.run_bind] at *; rename_i c x y; cases hs : (asBool (a.eval c)).run P w with
        | ok x w' => rw [hs] at h; simpa [Oper.quietUpon, stillUpon] using h
        | halt x w' => rw [hs] at h; simp [Oper.quietUpon] at h)
/-- the operations ahead of the next call: by the quiet walk -/
def lead (cs : Nat → Bool) : Nat → List Oper → Bool
  | _, [] => true
  | k, o :: l => !(cs k) && plain o.op && lead cs (k + 1) l
theorem wpGrow_lead {Q : (World → Prop) → Act → Prop} {G : World → Prop} : ∀ (l1 l2 : List Oper) (k : Nat) (a : Act), lead cs k l1 = true →
    wpQuiet P ops B (fun a' => wpGrow P ops B cs Q l2 (k + l1.length) G a') l1 a → wpGrow P ops B cs Q (l1 ++ l2) k G a
  | [], l2, k, a, _, h => h
  | o :: l1, l2, k, a, hl, h => by
    simp only [lead, Bool.and_eq_true, Bool.not_eq_true'] at hl
    have e : k + (o :: l1).length = (k + 1) + l1.length := by simp; omega
    rw [e] at h
    show step P ops B cs k o (wpGrow P ops B cs Q (l1 ++ l2) (k + 1)) G a
    unfold step
    unfold wpQuiet at h
    split
    · rename_i hw
      rw [if_pos hw] at h
      rw [if_neg (by rw [hl.1.1]; exact Bool.false_ne_true)]
      obtain ⟨v, h1, h2⟩ := h
      exact ⟨v, fun w hw => still_of_quiet hl.1.2 (h1 w hw), wpGrow_lead l1 l2 (k + 1) _ hl.2 h2⟩
    · rename_i hw
      rw [if_neg hw] at h
      exact wpGrow_lead l1 l2 (k + 1) _ hl.2 h
theorem wpGrow_take {Q : (World → Prop) → Act → Prop} {G : World → Prop} (n : Nat) {l : List Oper} {k : Nat} {a : Act} (hl : lead cs k (l.take n) = true)
    (h : wpQuiet P ops B (fun a' => wpGrow P ops B cs Q (l.drop n) (k + (l.take n).length) G a') (l.take n) a) : wpGrow P ops B cs Q l k G a := by
  have := wpGrow_lead (l.take n) (l.drop n) k a hl h
  rwa [List.take_append_drop] at this
/-- a call: what is known from there on is R alone -/
theorem wpGrow_turn {Q : (World → Prop) → Act → Prop} {G : World → Prop} {o : Oper} {rest : List Oper} {k : Nat} {a : Act} (V : Value → Prop) (R : Value → World → Prop) (hw : Region.wanted o (yielded ops a.tmps) = true) (hc : cs k = true) (hV : ∃ v, V v)
    (h : ∀ w, B w → G w → growAt P o a B (fun v w => V v ∧ R v w) w) (hk : ∀ v a', V v → a' = a.put o.dst v → wpGrow P ops B cs Q rest (k + 1) (R v) a') : wpGrow P ops B cs Q (o :: rest) k G a := by
  show step P ops B cs k o (wpGrow P ops B cs Q rest (k + 1)) G a
  unfold step
  rw [if_pos hw, if_pos hc]
  exact ⟨V, R, hV, h, fun v hv => hk v _ hv rfl⟩
/-- a call: what was known is known still, and R -/
theorem wpGrow_call {Q : (World → Prop) → Act → Prop} {G : World → Prop} {o : Oper} {rest : List Oper} {k : Nat} {a : Act} (V : Value → Prop) (R : Value → World → Prop) (hw : Region.wanted o (yielded ops a.tmps) = true) (hc : cs k = true) (hV : ∃ v, V v)
    (h : ∀ w, B w → G w → growAt P o a B (fun v w => V v ∧ G w ∧ R v w) w) (hk : ∀ v a', V v → a' = a.put o.dst v → wpGrow P ops B cs Q rest (k + 1) (fun w => G w ∧ R v w) a') : wpGrow P ops B cs Q (o :: rest) k G a :=
  wpGrow_turn V (fun v w => G w ∧ R v w) hw hc hV h hk
/-- a call that hands back one value -/
theorem wpGrow_one {Q : (World → Prop) → Act → Prop} {G : World → Prop} {o : Oper} {rest : List Oper} {k : Nat} {a : Act} (v : Value) (hw : Region.wanted o (yielded ops a.tmps) = true) (hc : cs k = true)
    (h : ∀ w, B w → G w → growAt P o a B (fun u w => u = v ∧ G w) w) (hk : ∀ a', a' = a.put o.dst v → wpGrow P ops B cs Q rest (k + 1) G a') : wpGrow P ops B cs Q (o :: rest) k G a := by
  refine wpGrow_turn (fun u => u = v) (fun _ w => G w) hw hc ⟨v, rfl⟩ h (fun u a' hu ha => ?_)
  subst hu
  exact hk a' ha
theorem wpGrow_nil {Q : (World → Prop) → Act → Prop} {G : World → Prop} {k : Nat} {a : Act} (h : Q G a) : wpGrow P ops B cs Q [] k G a := h
end
/-- the region in the class of the worlds that meet S, named by an index -/
theorem wp_region_growS {P : Program} {id : Nat} {l : List Oper} {Q : Exit → Act → World → Prop} {a : Act} {w : World} (S : World → Prop) (cs : Nat → Bool) (hm : P.follows .mixedOrders = true) (hL : Region.lexB .any l.toArray = true) (hord : ordered .any l.toArray cs = true) (hS : S w.drew)
    (h : ∀ (I : Type) [Nonempty I] (f : I → World), (∀ n, S (f n)) → (∀ w', S w' → ∃ m, w' = f m) →
      wpGrow P l.toArray (fun w' => ∃ n, w' = f n) cs (fun G' a' => ∀ w', (∃ n, w' = f n) → G' w' → Q .normal a' w') l 0 (fun _ => True) a) : (Code.region id l.toArray true).wp P Q a w :=
  wp_region_grow (fun w' => ∃ n : {x : World // S x}, w' = n.1) (fun _ => True) cs hm hL hord ⟨⟨w.drew, hS⟩, rfl⟩ trivial
    (@h {x : World // S x} ⟨⟨w.drew, hS⟩⟩ Subtype.val (fun n => n.2) (fun w' hw' => ⟨⟨w', hw'⟩, rfl⟩))
attribute [go_sem] growAt growUpon
end Go.Grow
end
section
/- Plain lemmas: rows of letters, the sum of a row's entries, and words that are changed so that up to three rows' sums change as wanted. -/
namespace Go.Tab
set_option linter.unusedVariables false
/-- the sum of the first m entries of a row -/
def sm (c : Nat → BitVec 64) (r : Nat → Nat) : Nat → BitVec 64
  | 0 => 0#64
  | k + 1 => sm c r k ^^^ c (16 * k + r k)
def up (c : Nat → BitVec 64) (e : Nat) (v : BitVec 64) : Nat → BitVec 64 := fun j => if j = e then v else c j
theorem sm_far (c : Nat → BitVec 64) (r : Nat → Nat) (e : Nat) (v : BitVec 64) : ∀ m : Nat, (∀ i, i < m → 16 * i + r i ≠ e) → sm (up c e v) r m = sm c r m
  | 0, h => rfl
  | m + 1, h => by
    show sm (up c e v) r m ^^^ up c e v (16 * m + r m) = sm c r m ^^^ c (16 * m + r m)
    rw [sm_far c r e v m (fun i hi => h i (by omega))]
    unfold up
    rw [if_neg (h m (by omega))]
theorem ent_inj {r s : Nat → Nat} {i j : Nat} (hr : r i < 16) (hs : s j < 16) (h : 16 * i + r i = 16 * j + s j) : i = j ∧ r i = s j := by omega
theorem sm_here (c : Nat → BitVec 64) (r : Nat → Nat) (p : Nat) (d : BitVec 64) : ∀ m : Nat, p < m → (∀ i, i < m → r i < 16) → sm (up c (16 * p + r p) (c (16 * p + r p) ^^^ d)) r m = sm c r m ^^^ d
  | 0, hp, h => absurd hp (by omega)
  | m + 1, hp, h => by
    show sm _ r m ^^^ up c (16 * p + r p) _ (16 * m + r m) = (sm c r m ^^^ c (16 * m + r m)) ^^^ d
    by_cases e : p = m
    · subst e
      rw [sm_far c r _ _ p (fun i hi he => by have := (ent_inj (h i (by omega)) (h p (by omega)) he).1; omega)]
      unfold up
      rw [if_pos rfl, BitVec.xor_assoc]
    · rw [sm_here c r p d m (by omega) (fun i hi => h i (by omega))]
      have : up c (16 * p + r p) (c (16 * p + r p) ^^^ d) (16 * m + r m) = c (16 * m + r m) := by
        unfold up
        rw [if_neg (fun he => e (ent_inj (h m (by omega)) (h p (by omega)) he).1.symm)]
      rw [this, BitVec.xor_assoc, BitVec.xor_assoc, BitVec.xor_comm d]
/-- sums of changes -/
theorem sm_xor (c d : Nat → BitVec 64) (r : Nat → Nat) : ∀ m : Nat, sm (fun j => c j ^^^ d j) r m = sm c r m ^^^ sm d r m
  | 0 => by simp [sm]
  | m + 1 => by
    show sm _ r m ^^^ (c (16 * m + r m) ^^^ d (16 * m + r m)) = (sm c r m ^^^ c (16 * m + r m)) ^^^ (sm d r m ^^^ d (16 * m + r m))
    rw [sm_xor c d r m]
    generalize c (16 * m + r m) = x
    generalize d (16 * m + r m) = y
    rw [BitVec.xor_assoc, BitVec.xor_assoc, ← BitVec.xor_assoc (sm d r m), BitVec.xor_comm (sm d r m) x, BitVec.xor_assoc]
/-- of the rows that are left the row i alone has its entry at p -/
def own (n : Nat) (R : Nat → Nat → Nat) (left : Nat → Bool) (i p : Nat) : Bool := left i && (List.range n).all fun j => !(left j && decide (j ≠ i) && decide (R j p = R i p))
theorem own_iff {n : Nat} {R : Nat → Nat → Nat} {left : Nat → Bool} {i p : Nat} : own n R left i p = true ↔ left i = true ∧ ∀ j, j < n → left j = true → j ≠ i → R j p ≠ R i p := by
  unfold own
  simp only [Bool.and_eq_true, List.all_eq_true, List.mem_range, Bool.not_eq_true', Bool.and_eq_false_iff, decide_eq_false_iff_not, ne_eq, Decidable.not_not]
  constructor
  · rintro ⟨h1, h2⟩
    refine ⟨h1, fun j hj hl hne => ?_⟩
    rcases h2 j hj with (h | h) | h
    · rw [hl] at h; cases h
    · exact absurd h hne
    · exact h
  · rintro ⟨h1, h2⟩
    refine ⟨h1, fun j hj => ?_⟩
    cases hl : left j
    · exact Or.inl (Or.inl rfl)
    · by_cases e : j = i
      · exact Or.inl (Or.inr e)
      · exact Or.inr (h2 j hj hl e)
/-- the first row and place of that kind: places first, then rows -/
def pairs (m n : Nat) : List (Nat × Nat) := (List.range m).flatMap fun p => (List.range n).map fun i => (i, p)
def aloF (m n : Nat) (R : Nat → Nat → Nat) (left : Nat → Bool) : Nat × Nat := ((pairs m n).find? fun x => own n R left x.1 x.2).getD (0, 0)
theorem pairs_mem {m n : Nat} {x : Nat × Nat} : x ∈ pairs m n ↔ x.1 < n ∧ x.2 < m := by
  obtain ⟨i, p⟩ := x
  simp only [pairs, List.mem_flatMap, List.mem_range, List.mem_map, Prod.mk.injEq]
  constructor
  · rintro ⟨q, hq, j, hj, rfl, rfl⟩; exact ⟨hj, hq⟩
  · rintro ⟨h1, h2⟩; exact ⟨p, h2, i, h1, rfl, rfl⟩
theorem aloF_ok {m n : Nat} {R : Nat → Nat → Nat} {left : Nat → Bool} (h : ∃ i p, i < n ∧ p < m ∧ own n R left i p = true) :
    (aloF m n R left).1 < n ∧ (aloF m n R left).2 < m ∧ own n R left (aloF m n R left).1 (aloF m n R left).2 = true := by
  obtain ⟨i, p, hi, hp, ho⟩ := h
  unfold aloF
  cases hf : (pairs m n).find? fun x => own n R left x.1 x.2 with
  | none =>
    have := List.find?_eq_none.1 hf (i, p) (pairs_mem.2 ⟨hi, hp⟩)
    exact absurd ho this
  | some x =>
    have h1 := List.find?_some hf
    have h2 := pairs_mem.1 (List.mem_of_find?_eq_some hf)
    exact ⟨h2.1, h2.2, h1⟩
/-- what the search finds -/
theorem aloF_at {m n : Nat} {R : Nat → Nat → Nat} {left : Nat → Bool} {i p : Nat} (hi : i < n) (hp : p < m) (ho : own n R left i p = true)
    (h1 : ∀ q, q < p → ∀ j, j < n → own n R left j q = false) (h2 : ∀ j, j < i → own n R left j p = false) : aloF m n R left = (i, p) := by
  have e : pairs m n = (((List.range p).flatMap fun q => (List.range n).map fun j => (j, q)) ++ ((List.range i).map fun j => (j, p))) ++ (i, p) :: ((((List.range' (i + 1) (n - i - 1))).map fun j => (j, p)) ++ ((List.range' (p + 1) (m - p - 1)).flatMap fun q => (List.range n).map fun j => (j, q))) := by
    have em : List.range m = List.range p ++ p :: List.range' (p + 1) (m - p - 1) := by
      rw [List.range_eq_range', List.range_eq_range', show m = p + (1 + (m - p - 1)) by omega, ← List.range'_append_1, ← List.range'_append_1]
      simp [List.range'_one]
    have en : List.range n = List.range i ++ i :: List.range' (i + 1) (n - i - 1) := by
      rw [List.range_eq_range', List.range_eq_range', show n = i + (1 + (n - i - 1)) by omega, ← List.range'_append_1, ← List.range'_append_1]
      simp [List.range'_one]
    unfold pairs
    rw [em, List.flatMap_append, List.flatMap_cons]
    conv => lhs; rhs; lhs; rw [en, List.map_append, List.map_cons]
    simp [List.append_assoc]
  unfold aloF
  rw [e, List.find?_append, List.find?_eq_none.2, Option.none_or, List.find?_cons, ho]
  · rfl
  · intro x hx
    rw [List.mem_append] at hx
    rcases hx with hx | hx
    · obtain ⟨q, hq, hx⟩ := List.mem_flatMap.1 hx
      obtain ⟨j, hj, rfl⟩ := List.mem_map.1 hx
      rw [h1 q (List.mem_range.1 hq) j (List.mem_range.1 hj)]; decide
    · obtain ⟨j, hj, rfl⟩ := List.mem_map.1 hx
      rw [h2 j (List.mem_range.1 hj)]; decide
/-- one round of the order -/
def off (left : Nat → Bool) (i : Nat) : Nat → Bool := fun j => left j && decide (j ≠ i)
def plF (m n : Nat) (R : Nat → Nat → Nat) : Nat → (Nat → Bool) → List (Nat × Nat)
  | 0, left => []
  | k + 1, left => aloF m n R left :: plF m n R k (off left (aloF m n R left).1)
/-- how many are left -/
def cnt (left : Nat → Bool) : Nat → Nat
  | 0 => 0
  | k + 1 => cnt left k + (if left k then 1 else 0)
/-- changes: the last place first -/
def aim1 (m : Nat) (R : Nat → Nat → Nat) (by_ : Nat → BitVec 64) (c : Nat → BitVec 64) (x : Nat × Nat) : Nat → BitVec 64 :=
  up c (16 * x.2 + R x.1 x.2) (c (16 * x.2 + R x.1 x.2) ^^^ (sm c (R x.1) m ^^^ by_ x.1))
def aimF (m : Nat) (R : Nat → Nat → Nat) (by_ : Nat → BitVec 64) : List (Nat × Nat) → (Nat → BitVec 64)
  | [] => fun _ => 0#64
  | x :: l => aim1 m R by_ (aimF m R by_ l) x
/-- rows that are left: where each place is its row's own, all sums come out -/
theorem aim_sums {m n : Nat} {R : Nat → Nat → Nat} (by_ : Nat → BitVec 64) (hR : ∀ i p, i < n → p < m → R i p < 16) :
    ∀ (k : Nat) (left : Nat → Bool), (∀ left' : Nat → Bool, (∀ j, left' j = true → left j = true) → (∃ j, j < n ∧ left' j = true) → ∃ i p, i < n ∧ p < m ∧ own n R left' i p = true) →
      cnt left n = k → ∀ i, i < n → left i = true → sm (aimF m R by_ (plF m n R k left)) (R i) m = by_ i := by
  intro k
  induction k with
  | zero =>
    intro left _ hc i hi hl
    exfalso
    have : ∀ n, i < n → 0 < cnt left n := by
      intro n
      induction n with
      | zero => intro h; omega
      | succ n ih =>
        intro h
        show 0 < cnt left n + _
        by_cases e : i = n
        · subst e; rw [hl]; simp
        · have := ih (by omega); omega
    have := this n hi
    omega
  | succ k ih =>
    intro left hex hc i hi hl
    obtain ⟨g1, g2, g3⟩ := aloF_ok (hex left (fun _ h => h) ⟨i, hi, hl⟩)
    show sm (aim1 m R by_ (aimF m R by_ (plF m n R k (off left (aloF m n R left).1))) (aloF m n R left)) (R i) m = by_ i
    obtain ⟨⟨r, p⟩, hx⟩ : ∃ x, aloF m n R left = x := ⟨_, rfl⟩
    rw [hx] at g1 g2 g3 ⊢
    simp only at g1 g2 g3
    obtain ⟨o1, o2⟩ := own_iff.1 g3
    generalize hc2 : aimF m R by_ (plF m n R k (off left (r, p).1)) = c
    show sm (up c (16 * p + R r p) (c (16 * p + R r p) ^^^ (sm c (R r) m ^^^ by_ r))) (R i) m = by_ i
    by_cases e : i = r
    · subst e
      rw [sm_here c (R i) p _ m g2 (fun j hj => hR i j hi hj), ← BitVec.xor_assoc, BitVec.xor_self, BitVec.zero_xor]
    · rw [sm_far c (R i) _ _ m (fun j hj he => ?_)]
      · rw [← hc2]
        refine ih (off left r) (fun left' h1 h2 => hex left' (fun j hj => ?_) h2) ?_ i hi ?_
        · have := h1 j hj
          unfold off at this
          simp at this
          exact this.1
        · have hcount : ∀ n, r < n → cnt left n = cnt (off left r) n + 1 := by
            have hlow : ∀ n, n ≤ r → cnt (off left r) n = cnt left n := by
              intro n
              induction n with
              | zero => intro _; rfl
              | succ n ih2 =>
                intro h
                show cnt (off left r) n + _ = cnt left n + _
                rw [ih2 (by omega)]
                have : off left r n = left n := by unfold off; rw [decide_eq_true (by omega), Bool.and_true]
                rw [this]
            intro n
            induction n with
            | zero => intro h; omega
            | succ n ih2 =>
              intro h
              show cnt left n + _ = cnt (off left r) n + _ + 1
              by_cases e2 : r = n
              · subst e2
                rw [hlow r (Nat.le_refl _), o1]
                have : off left r r = false := by unfold off; simp
                rw [this]; simp
              · have : off left r n = left n := by unfold off; rw [decide_eq_true (by omega), Bool.and_true]
                rw [ih2 (by omega), this]
                omega
          have := hcount n g1
          omega
        · unfold off; rw [hl]; simp; exact e
      · obtain ⟨rfl, e2⟩ := ent_inj (hR i j hi hj) (hR r p g1 g2) he
        exact o2 i hi hl e e2
/-- of up to three rows that differ, one has an entry of its own somewhere -/
theorem own_ex {m n : Nat} {R : Nat → Nat → Nat} (hn : n ≤ 3) (hm : 0 < m) (hd : ∀ i j, i < n → j < n → i ≠ j → ∃ p, p < m ∧ R i p ≠ R j p) (left : Nat → Bool) (h : ∃ j, j < n ∧ left j = true) :
    ∃ i p, i < n ∧ p < m ∧ own n R left i p = true := by
  obtain ⟨i, hi, hl⟩ := h
  by_cases h2 : ∃ j, j < n ∧ left j = true ∧ j ≠ i
  · obtain ⟨j, hj, hlj, hji⟩ := h2
    obtain ⟨p, hp, hne⟩ := hd i j hi hj (fun e => hji e.symm)
    -- the third row, if it is left, has at p another entry than one of the two
    by_cases h3 : ∃ t, t < n ∧ left t = true ∧ t ≠ i ∧ t ≠ j ∧ R t p = R i p
    · obtain ⟨t, ht, hlt, hti, htj, he⟩ := h3
      refine ⟨j, p, hj, hp, own_iff.2 ⟨hlj, fun s hs hls hsj => ?_⟩⟩
      have : s = i ∨ s = t := by omega
      rcases this with rfl | rfl
      · exact hne
      · rw [he]; exact hne
    · refine ⟨i, p, hi, hp, own_iff.2 ⟨hl, fun s hs hls hsi he => ?_⟩⟩
      by_cases e : s = j
      · subst e; exact hne he.symm
      · exact h3 ⟨s, hs, hls, hsi, e, he⟩
  · refine ⟨i, 0, hi, hm, own_iff.2 ⟨hl, fun s hs hls hsi _ => h2 ⟨s, hs, hls, hsi⟩⟩⟩
/-- which rows are left behind k rounds -/
def lfK (m n : Nat) (R : Nat → Nat → Nat) (left : Nat → Bool) : Nat → (Nat → Bool)
  | 0 => left
  | k + 1 => off (lfK m n R left k) (aloF m n R (lfK m n R left k)).1
theorem lfK_next (m n : Nat) (R : Nat → Nat → Nat) (left : Nat → Bool) : ∀ k : Nat, lfK m n R (off left (aloF m n R left).1) k = lfK m n R left (k + 1)
  | 0 => rfl
  | k + 1 => by
    show off (lfK m n R _ k) _ = off (lfK m n R left (k + 1)) _
    rw [lfK_next m n R left k]
theorem plF_snoc (m n : Nat) (R : Nat → Nat → Nat) : ∀ (k : Nat) (left : Nat → Bool), plF m n R (k + 1) left = plF m n R k left ++ [aloF m n R (lfK m n R left k)]
  | 0, left => rfl
  | k + 1, left => by
    show aloF m n R left :: plF m n R (k + 1) _ = (aloF m n R left :: plF m n R k _) ++ _
    rw [plF_snoc m n R k, lfK_next]
    rfl
theorem plF_len (m n : Nat) (R : Nat → Nat → Nat) : ∀ (k : Nat) (left : Nat → Bool), (plF m n R k left).length = k
  | 0, left => rfl
  | k + 1, left => by show (plF m n R k _).length + 1 = k + 1; rw [plF_len m n R k]
theorem off_low (left : Nat → Bool) (r : Nat) : ∀ n : Nat, n ≤ r → cnt (off left r) n = cnt left n
  | 0, _ => rfl
  | n + 1, h => by
    show cnt (off left r) n + _ = cnt left n + _
    rw [off_low left r n (by omega)]
    have : off left r n = left n := by unfold off; rw [decide_eq_true (by omega), Bool.and_true]
    rw [this]
theorem cnt_off (left : Nat → Bool) (r : Nat) (hl : left r = true) : ∀ n : Nat, r < n → cnt left n = cnt (off left r) n + 1
  | 0, h => absurd h (by omega)
  | n + 1, h => by
    show cnt left n + _ = cnt (off left r) n + _ + 1
    by_cases e2 : r = n
    · subst e2
      rw [off_low left r r (Nat.le_refl _), hl]
      have : off left r r = false := by unfold off; simp
      rw [this]; simp
    · have : off left r n = left n := by unfold off; rw [decide_eq_true (by omega), Bool.and_true]
      rw [cnt_off left r hl n (by omega), this]
      omega
theorem cnt_some (left : Nat → Bool) : ∀ n : Nat, 0 < cnt left n → ∃ j, j < n ∧ left j = true
  | 0, h => absurd h (by show ¬ 0 < 0; omega)
  | n + 1, h => by
    cases e : left n
    · have h2 : cnt left (n + 1) = cnt left n + (if left n then 1 else 0) := rfl
      rw [e] at h2
      obtain ⟨j, hj, hl⟩ := cnt_some left n (by simp at h2; omega)
      exact ⟨j, by omega, hl⟩
    · exact ⟨n, by omega, e⟩
/-- a row is found in each round -/
theorem lfK_ok {m n : Nat} {R : Nat → Nat → Nat} (hn : n ≤ 3) (hm : 0 < m) (hd : ∀ i j, i < n → j < n → i ≠ j → ∃ p, p < m ∧ R i p ≠ R j p) (left : Nat → Bool) (hc : cnt left n = n) :
    ∀ k : Nat, k ≤ n → cnt (lfK m n R left k) n = n - k
  | 0, _ => by rw [Nat.sub_zero]; exact hc
  | k + 1, h => by
    have ih := lfK_ok hn hm hd left hc k (by omega)
    have hs := cnt_some (lfK m n R left k) n (by omega)
    obtain ⟨g1, g2, g3⟩ := aloF_ok (own_ex hn hm hd (lfK m n R left k) hs)
    have := cnt_off (lfK m n R left k) _ (own_iff.1 g3).1 n g1
    show cnt (off (lfK m n R left k) _) n = _
    omega
theorem lfK_ex {m n : Nat} {R : Nat → Nat → Nat} (hn : n ≤ 3) (hm : 0 < m) (hd : ∀ i j, i < n → j < n → i ≠ j → ∃ p, p < m ∧ R i p ≠ R j p) (left : Nat → Bool) (hc : cnt left n = n) (k : Nat) (hk : k < n) :
    ∃ i p, i < n ∧ p < m ∧ own n R (lfK m n R left k) i p = true :=
  own_ex hn hm hd _ (cnt_some _ _ (by rw [lfK_ok hn hm hd left hc k (by omega)]; omega))
theorem cnt_below (N : Nat) : ∀ n : Nat, n ≤ N → cnt (fun j => decide (j < N)) n = n
  | 0, _ => rfl
  | n + 1, h => by show cnt _ n + (if decide (n < N) then 1 else 0) = n + 1; rw [cnt_below N n (by omega), decide_eq_true (by omega)]; rfl
/-- the changes of Aim, with the rows below n left at first -/
theorem aim_below {m n : Nat} {R : Nat → Nat → Nat} (by_ : Nat → BitVec 64) (hn : n ≤ 3) (hm : 0 < m) (hR : ∀ i p, i < n → p < m → R i p < 16) (hd : ∀ i j, i < n → j < n → i ≠ j → ∃ p, p < m ∧ R i p ≠ R j p) (i : Nat) (hi : i < n) :
    sm (aimF m R by_ (plF m n R n (fun j => decide (j < n)))) (R i) m = by_ i :=
  aim_sums by_ hR n _ (fun left' _ h => own_ex hn hm hd left' h) (cnt_below n n (Nat.le_refl _)) i hi (decide_eq_true hi)
end Go.Tab
end
