import Derived.Test.YtoplabhoedloeaaGreatZBoth
import Derived.Test.YtoplabhoedloeaaGreatDivM
import Derived.Defers
import Derived.Recover
import Derived.Laws.Pointers
import Derived.Handy
import Derived.Laws.EntriesVeiled
import Derived.Test.YtoplabhoedloeaaGreatZRow
import Derived.LoopN
import Derived.ChangeKeysEq
import Derived.Laws.StructEq
section
/- The block's contracts, what they share. -/
namespace Go.Bv
open Go Go.RowKit
/-- the block holds no byte -/
def NoBytes (w : World) (q : Nat) : Prop := ∃ cs T fz, w.heap[q]? = some (.cells cs T fz) ∧ ∀ v ∈ cs.toList, ∀ i, v ≠ .int .u8 i
theorem BRow.apart {w : World} {q : Nat} {a : Option Addr} {len cap : Nat} {l : List (BitVec 8)} (h : BRow w a len cap l) (hq : NoBytes w q) : ∀ y, a = some y → 0 < len → y.block ≠ q := by
  intro y e h0 hy
  obtain ⟨cs, T, fz, hb, hcs⟩ := hq
  obtain ⟨b, off, e2, hc⟩ := h.addr h0
  rw [e] at e2
  cases e2
  have hc0 := hc 0 h0
  subst hy
  unfold World.cell? at hc0
  simp only [hb] at hc0
  simp only [Nat.add_zero] at hc0
  have hm : cs[off]? = some (.int .u8 (W8 (l.getD 0 0))) := by simpa using hc0
  exact hcs _ (by rw [← Array.getElem?_toList] at hm; exact List.mem_of_getElem? hm) _ rfl
theorem BRow.buts {w w' : World} {q : Nat} {a : Option Addr} {len cap : Nat} {l : List (BitVec 8)} (h : BRow w a len cap l) (hb : But q w w') (hq : NoBytes w q) : BRow w' a len cap l :=
  h.but hb.size (fun y e h0 => hb.block _ (h.old y e h0) (h.apart hq y e h0))
/-- a size that may be -/
def szN (i : Int) : Nat := (min (max i 1) 64).toNat
theorem szN_in (i : Int) : 1 ≤ szN i ∧ szN i ≤ 64 := by unfold szN; omega
/-- what lies there, for simp to leave alone -/
def Lies (w : World) (p : Nat) (o : Obj) : Prop := w.heap[p]? = some o
theorem brow_none (w : World) : BRow w none 0 0 [] := ⟨rfl, Nat.le_refl _, by omega, by omega, fun _ => ⟨rfl, rfl⟩, (fun _ _ e => by cases e), (fun _ e => by cases e), (fun _ e => by cases e)⟩
end Go.Bv
namespace Go.Proofs.YtoplabhoedloeaaGreat
open Go.RowKit Go.Bv
set_option linter.unusedVariables false
set_option maxHeartbeats 400000 in
theorem size_of (i : Int) (w : World) : Calls Tryz.prog 87 #[.int .i64 i] w fun e w' => e = .returned (.int .i64 (szN i : Nat)) ∧ w' = w := by
  go_enter Tryz.func87, Tryz.ntmps87
  go_wp2
  all_goals (go_ret; refine ⟨retI ?_, rfl⟩; (try split at *) <;> simp only [szN] <;> omega)
end Go.Proofs.YtoplabhoedloeaaGreat
end
section
/- Plain lemmas: a region that draws its order, whose calls come one behind the other, whose loads may read what the region itself writes at its end: one walk in the order of the text. Kinds of operations (4: an alloc, which may come ahead of the calls that stand before it in the text): 0: it yields one value in every world of the wider class A; 1: in every world of B, and what writes waits for it; 2: a call: from B to B; 3: what writes: from B or A to A. -/
namespace Go.Gro3
open Go Go.Grow
set_option linter.unusedVariables false
section
variable {P : Program} {ops : Array Oper} {md : Region.Mode} {A B : World → Prop} {kd : Nat → Nat} {N : World → World → Prop} {AQ : Nat → Nat → World → Prop}
/-- the class of the worlds as far as it has come: nothing written yet, or something -/
def cls (A B : World → Prop) (p : Bool) : World → Prop := if p then A else B
def still? (kd : Nat → Nat) (k : Nat) : Bool := decide (kd k ≤ 1)
def cK (kd : Nat → Nat) (k : Nat) (p : Bool) : Prop := kd k = 0 ∨ p = false
def CK (A B : World → Prop) (kd : Nat → Nat) (k : Nat) : World → Prop := if kd k = 0 then A else B
def dK (kd : Nat → Nat) (k : Nat) (p : Bool) : Prop := kd k ≠ 2 ∨ p = false
def postK (A B : World → Prop) (kd : Nat → Nat) (k : Nat) : World → Prop := if kd k = 2 then B else A
def nxK (kd : Nat → Nat) (k : Nat) : Bool := decide (kd k ≠ 2)
def Stab (N : World → World → Prop) (G : World → Prop) : Prop := ∀ w w', N w w' → G w → G w'
def allocUpon (B : World → Prop) (N : World → World → Prop) (AQ : Nat → World → Prop) (w : World) : Result Next → Prop
  | .ok (.value v) w' => ∃ q, v = .pointer (some ⟨q, 0, none⟩) ∧ B w' ∧ N w w' ∧ AQ q w'
  | _ => False
def allocAt (P : Program) (o : Oper) (a : Act) (B : World → Prop) (N : World → World → Prop) (AQ : Nat → World → Prop) (w : World) : Prop := allocUpon B N AQ w ((execOp a.eval o).run P w)
theorem grow_imp {o : Oper} {a : Act} {C : World → Prop} {R R' : Value → World → Prop} {w : World} (h : ∀ v w', R v w' → R' v w') (hg : growAt P o a C R w) : growAt P o a C R' w := by
  unfold growAt at *
  generalize (execOp a.eval o).run P w = r at *
  cases r with
  | ok n w' =>
    cases n <;> simp only [growUpon] at hg ⊢
    case value u => exact ⟨hg.1, h _ _ hg.2⟩
    case skip => exact ⟨hg.1, h _ _ hg.2⟩
    case enter f args => exact ⟨hg.1, hg.2.mono fun e w'' ⟨v, he, h1, h2⟩ => ⟨v, he, h1, h _ _ h2⟩⟩
  | halt x w' => simp only [growUpon] at hg
theorem alloc_put {o : Oper} (hs : ∀ c b, o.op ≠ .select c b) {a : Act} {d : Option Tmp} {v : Value} {X : Nat → World → Prop} {w : World} (h : ∀ t, d = some t → t ∉ o.looksAt ops) : allocAt P o (a.put d v) B N X w ↔ allocAt P o a B N X w := by
  unfold allocAt; rw [execOp_put o hs a d v h]
def step (P : Program) (ops : Array Oper) (A B : World → Prop) (kd : Nat → Nat) (N : World → World → Prop) (AQ : Nat → Nat → World → Prop) (k : Nat) (o : Oper) (K : Bool → (World → Prop) → Act → Prop) (p : Bool) (G : World → Prop) (a : Act) : Prop :=
  if Region.wanted o (yielded ops a.tmps) then
    if still? kd k then cK kd k p ∧ ∃ v, stillIn P o a (CK A B kd k) v ∧ K p G (a.put o.dst v)
    else if kd k = 4 then p = false ∧ (∀ w, B w → allocAt P o a B N (AQ k) w) ∧ ∀ q, K false (fun w => G w ∧ AQ k q w) (a.put o.dst (.pointer (some ⟨q, 0, none⟩)))
    else dK kd k p ∧ ∃ (V : Value → Prop) (R : Value → World → Prop), (∃ v, V v) ∧ (kd k = 2 → ∀ v, Stab N (R v)) ∧ (∀ w, cls A B p w → G w → growAt P o a (postK A B kd k) (fun v w' => (kd k = 2 → N w w') ∧ V v ∧ R v w') w) ∧ ∀ v, V v → K (nxK kd k) (R v) (a.put o.dst v)
  else K p G (a.put o.dst undef)
def gOp (P : Program) (ops : Array Oper) (A B : World → Prop) (kd : Nat → Nat) (N : World → World → Prop) (AQ : Nat → Nat → World → Prop) (k : Nat) (K : Bool → (World → Prop) → Act → Prop) (p : Bool) (G : World → Prop) (a : Act) : Prop :=
  match ops[k]? with
  | none => K p G a
  | some o => step P ops A B kd N AQ k o K p G a
theorem step_mono {k : Nat} {o : Oper} {K K' : Bool → (World → Prop) → Act → Prop} {p : Bool} {G : World → Prop} {a : Act} (h : ∀ p G a, K p G a → K' p G a) (hh : step P ops A B kd N AQ k o K p G a) : step P ops A B kd N AQ k o K' p G a := by
  unfold step at *
  split
  · rename_i hw
    rw [if_pos hw] at hh
    split
    · rename_i hc
      rw [if_pos hc] at hh
      obtain ⟨c, v, h1, h2⟩ := hh
      exact ⟨c, v, h1, h _ _ _ h2⟩
    · rename_i hc
      rw [if_neg hc] at hh
      split
      · rename_i h4
        rw [if_pos h4] at hh
        exact ⟨hh.1, hh.2.1, fun q => h _ _ _ (hh.2.2 q)⟩
      · rename_i h4
        rw [if_neg h4] at hh
        obtain ⟨d, V, R, hv, hs, h1, h2⟩ := hh
        exact ⟨d, V, R, hv, hs, h1, fun v hv => h _ _ _ (h2 v hv)⟩
  · rename_i hw
    rw [if_neg hw] at hh
    exact h _ _ _ hh
theorem gOp_mono {k : Nat} {K K' : Bool → (World → Prop) → Act → Prop} {p : Bool} {G : World → Prop} {a : Act} (h : ∀ p G a, K p G a → K' p G a) (hh : gOp P ops A B kd N AQ k K p G a) : gOp P ops A B kd N AQ k K' p G a := by
  unfold gOp at *
  split
  · rename_i ho; simp only [ho] at hh; exact h _ _ _ hh
  · rename_i o ho; simp only [ho] at hh; exact step_mono h hh
/-- whatever order is picked from here on -/
def wpAnyG (P : Program) (md : Region.Mode) (ops : Array Oper) (A B : World → Prop) (kd : Nat → Nat) (N : World → World → Prop) (AQ : Nat → Nat → World → Prop) (Q : Bool → (World → Prop) → Act → Prop) : Nat → Array Bool → Bool → (World → Prop) → Act → Prop
  | 0, listed, p, G, a => Region.ready md ops listed = [] ∧ Q p G a
  | fuel + 1, listed, p, G, a =>
    (Region.ready md ops listed = [] → Q p G a) ∧
    ∀ i ∈ Region.ready md ops listed, gOp P ops A B kd N AQ i (wpAnyG P md ops A B kd N AQ Q fuel (listed.setIfInBounds i true)) p G a
theorem cls_A (hAB : ∀ w, B w → A w) {p : Bool} {w : World} (h : cls A B p w) : A w := by
  unfold cls at h; split at h
  · exact h
  · exact hAB _ h
theorem wpOp_of_gOp (hAB : ∀ w, B w → A w) {i : Nat} {a : Act} {p : Bool} {G : World → Prop} {K : Bool → (World → Prop) → Act → Prop} {K' : Act → World → Prop} {Q' : Exit → Act → World → Prop} {w : World} (hB : cls A B p w) (hst : p = false → Stab N G) (hAQ : ∀ k q, Stab N (AQ k q)) (hG : G w)
    (h : ∀ p G a w', cls A B p w' → (p = false → Stab N G) → G w' → K p G a → K' a w') (hh : gOp P ops A B kd N AQ i K p G a) : wpOp P ops Q' i K' a w := by
  unfold gOp at hh
  unfold wpOp
  split
  · rename_i ho; simp only [ho] at hh; exact h _ _ _ _ hB hst hG hh
  · rename_i o ho
    simp only [ho] at hh
    unfold step at hh
    split
    · rename_i hw
      rw [if_pos hw] at hh
      left
      split at hh
      · obtain ⟨c, v, h1, h2⟩ := hh
        refine wp_of_still (B := CK A B kd i) ?_ h1 (h _ _ _ _ hB hst hG h2)
        unfold CK
        split
        · exact cls_A hAB hB
        · rename_i h0
          rcases c with c | c
          · exact absurd c h0
          · subst c; exact hB
      · split at hh
        · obtain ⟨hp, h1, h2⟩ := hh
          subst hp
          have h3 := h1 w hB
          unfold allocAt at h3
          unfold Oper.wp
          generalize (execOp a.eval o).run P w = r at *
          cases r with
          | ok n w' =>
            cases n <;> simp only [allocUpon] at h3 <;> simp only [Oper.upon]
            case value u =>
              obtain ⟨q, hv, hb, hn, hq⟩ := h3
              subst hv
              exact h false _ _ _ (show cls A B false w' from hb) (fun _ w1 w2 n12 g => ⟨hst rfl _ _ n12 g.1, hAQ _ _ _ _ n12 g.2⟩) ⟨hst rfl _ _ hn hG, hq⟩ (h2 q)
          | halt x w' => simp only [allocUpon] at h3
        · obtain ⟨d, V, R, _, hs, h1, h2⟩ := hh
          refine wp_of_grow (h1 w hB hG) fun v w' b1 b3 => h _ _ _ _ ?_ ?_ b3.2.2 (h2 v b3.2.1)
          · unfold postK at b1
            unfold nxK cls
            split at b1 <;> rename_i hk <;> simp [hk] <;> exact b1
          · intro hnx
            unfold nxK at hnx
            simp at hnx
            exact hs hnx v
    · rename_i hw
      rw [if_neg hw] at hh
      exact h _ _ _ _ hB hst hG hh
theorem wpAny_of_grow (hAB : ∀ w, B w → A w) (hAQ : ∀ k q, Stab N (AQ k q)) {Q : Bool → (World → Prop) → Act → Prop} {Q' : Exit → Act → World → Prop} (hQ : ∀ p G a w, cls A B p w → G w → Q p G a → Q' .normal a w) : ∀ (fuel : Nat) (listed : Array Bool) (p : Bool) (G : World → Prop) (a : Act) (w : World), cls A B p w → (p = false → Stab N G) → G w →
    wpAnyG P md ops A B kd N AQ Q fuel listed p G a → wpAny P md ops Q' fuel listed a w
  | 0, _, _, _, _, _, hB, hst, hG, h => ⟨h.1, hQ _ _ _ _ hB hG h.2⟩
  | fuel + 1, _, _, _, _, _, hB, hst, hG, h => ⟨fun h0 => hQ _ _ _ _ hB hG (h.1 h0), fun i hi => wpOp_of_gOp hAB hB hst hAQ hG (fun p' G' a' w' b s g => wpAny_of_grow hAB hAQ hQ fuel _ p' G' a' w' b s g) (h.2 i hi)⟩
/-- what may not change places -/
def cf (a b : Nat) : Bool := (decide (2 ≤ a) && decide (2 ≤ b) && !(decide (a = 2) && decide (b = 4))) || (decide (a = 3) && decide (b = 1)) || (decide (a = 1) && decide (b = 3)) || decide (5 ≤ a) || decide (5 ≤ b)
theorem kd_le {a b : Nat} (h : ¬ cf a b = true) : a ≤ 4 ∧ b ≤ 4 ∧ (a = 2 → b ≤ 1 ∨ b = 4) ∧ (3 ≤ a → b ≤ 1) ∧ (a = 3 → b ≠ 1) ∧ (a = 1 → b ≠ 3) := by
  unfold cf at h
  simp at h
  omega
theorem step_comm (hAB : ∀ w, B w → A w) (hAQ : ∀ k q, Stab N (AQ k q)) {i j : Nat} {oi oj : Oper} (hB : ∃ w, B w) (hap : oi.apart ops oj = true) (hsi : ∀ c b, oi.op ≠ .select c b) (hsj : ∀ c b, oj.op ≠ .select c b) (hcs : ¬ cf (kd i) (kd j) = true)
    {K : Bool → (World → Prop) → Act → Prop} {p : Bool} {G : World → Prop} {a : Act} (h : step P ops A B kd N AQ i oi (fun p G a => step P ops A B kd N AQ j oj K p G a) p G a) : step P ops A B kd N AQ j oj (fun p G a => step P ops A B kd N AQ i oi K p G a) p G a := by
  obtain ⟨h1, h2, h3⟩ := Oper.apart_spec hap
  obtain ⟨l1, l2, l3, l4, l5, l6⟩ := kd_le hcs
  have hC : ∀ k, ∃ w, CK A B kd k w := fun k => by
    obtain ⟨w, hw⟩ := hB
    refine ⟨w, ?_⟩
    unfold CK; split
    · exact hAB _ hw
    · exact hw
  have wi : ∀ (a : Act) (u : Value), Region.wanted oi (yielded ops (a.put oj.dst u).tmps) = Region.wanted oi (yielded ops a.tmps) := fun a u => wanted_put oi a oj.dst u h3
  have wj : ∀ (a : Act) (u : Value), Region.wanted oj (yielded ops (a.put oi.dst u).tmps) = Region.wanted oj (yielded ops a.tmps) := fun a u => wanted_put oj a oi.dst u h1
  have cm : ∀ (a : Act) (v u : Value), (a.put oi.dst v).put oj.dst u = (a.put oj.dst u).put oi.dst v := fun a v u => Act.put_comm a v u h2
  unfold step at *
  simp only [wi, wj] at *
  by_cases hwi : Region.wanted oi (yielded ops a.tmps) = true
  · rw [if_pos hwi] at h
    by_cases hwj : Region.wanted oj (yielded ops a.tmps) = true
    · simp only [hwi, hwj, if_true] at *
      by_cases hci : still? kd i = true
      · rw [if_pos hci] at h
        obtain ⟨ci, v, hv, hk⟩ := h
        by_cases hcj : still? kd j = true
        · rw [if_pos hcj] at hk ⊢
          obtain ⟨cj, u, hu, hk⟩ := hk
          exact ⟨cj, u, (still_put hsj h1).1 hu, by rw [if_pos hci]; exact ⟨ci, v, (still_put hsi h3).2 hv, by rw [← cm]; exact hk⟩⟩
        · rw [if_neg hcj] at hk ⊢
          by_cases h4 : kd j = 4
          · rw [if_pos h4] at hk ⊢
            obtain ⟨hp, ha, hk⟩ := hk
            exact ⟨hp, fun w b => (alloc_put hsj h1).1 (ha w b), fun q => by rw [if_pos hci]; exact ⟨Or.inr rfl, v, (still_put hsi h3).2 hv, by rw [← cm]; exact hk q⟩⟩
          · rw [if_neg h4] at hk ⊢
            obtain ⟨dj, V, R, hV, hs, hr, hk⟩ := hk
            have cn : cK kd i (nxK kd j) := by
              unfold cK at ci ⊢
              rcases ci with ci | ci
              · exact Or.inl ci
              · by_cases h0 : kd i = 0
                · exact Or.inl h0
                · right
                  have hi1 : kd i = 1 := by unfold still? at hci; simp only [decide_eq_true_eq] at hci; omega
                  have hj2 : ¬ kd j ≤ 1 := by unfold still? at hcj; simpa using hcj
                  unfold nxK; simp
                  have := l6 hi1
                  omega
            exact ⟨dj, V, R, hV, hs, fun w b g => (grow_put hsj h1).1 (hr w b g), fun u hu => by rw [if_pos hci]; exact ⟨cn, v, (still_put hsi h3).2 hv, by rw [← cm]; exact hk u hu⟩⟩
      · have hi2 : ¬ kd i ≤ 1 := by unfold still? at hci; simpa using hci
        rw [if_neg hci] at h
        by_cases h4 : kd i = 4
        · rw [if_pos h4] at h
          obtain ⟨hp, ha, hk⟩ := h
          have hcj : still? kd j = true := by unfold still?; simp; exact l4 (by omega)
          rw [if_pos hcj]
          have hk0 := hk 0
          rw [if_pos hcj] at hk0
          obtain ⟨cj, u, hu, _⟩ := hk0
          rw [still_put hsj h1] at hu
          refine ⟨Or.inr hp, u, hu, ?_⟩
          rw [if_neg hci, if_pos h4]
          refine ⟨hp, fun w b => (alloc_put hsi h3).2 (ha w b), fun q => ?_⟩
          have hkq := hk q
          rw [if_pos hcj] at hkq
          obtain ⟨_, u', hu', hk'⟩ := hkq
          rw [still_put hsj h1] at hu'
          obtain ⟨w0, hw0⟩ := hC j
          have e : u' = u := stillUpon_one (hu' w0 hw0) (hu w0 hw0)
          rw [← cm, ← e]; exact hk'
        · rw [if_neg h4] at h
          obtain ⟨di, V, R, ⟨v0, hv0⟩, hs, hr, hk⟩ := h
          by_cases hcj : still? kd j = true
          · rw [if_pos hcj]
            have hk0 := hk v0 hv0
            rw [if_pos hcj] at hk0
            obtain ⟨cj, u, hu, _⟩ := hk0
            rw [still_put hsj h1] at hu
            have cp : cK kd j p := by
              unfold cK at cj ⊢
              rcases cj with cj | cj
              · exact Or.inl cj
              · unfold nxK at cj
                simp at cj
                rcases di with di | di
                · exact absurd cj di
                · exact Or.inr di
            refine ⟨cp, u, hu, ?_⟩
            rw [if_neg hci, if_neg h4]
            refine ⟨di, V, R, ⟨v0, hv0⟩, hs, fun w b g => (grow_put hsi h3).2 (hr w b g), fun v hv => ?_⟩
            have hkv := hk v hv
            rw [if_pos hcj] at hkv
            obtain ⟨_, u', hu', hk'⟩ := hkv
            rw [still_put hsj h1] at hu'
            obtain ⟨w0, hw0⟩ := hC j
            have e : u' = u := stillUpon_one (hu' w0 hw0) (hu w0 hw0)
            rw [← cm, ← e]; exact hk'
          · have hj2 : ¬ kd j ≤ 1 := by unfold still? at hcj; simpa using hcj
            have hi3 : kd i = 2 := by
              rcases Nat.lt_or_ge (kd i) 3 with h5 | h5
              · omega
              · have := l4 h5; omega
            have hj4 : kd j = 4 := by have := l3 hi3; omega
            rw [if_neg hcj, if_pos hj4]
            have hp : p = false := by
              unfold dK at di
              rcases di with di | di
              · exact absurd hi3 di
              · exact di
            have hk0 := hk v0 hv0
            rw [if_neg hcj, if_pos hj4] at hk0
            refine ⟨hp, fun w b => (alloc_put hsj h1).1 (hk0.2.1 w b), fun q => ?_⟩
            rw [if_neg hci, if_neg h4]
            subst hp
            refine ⟨Or.inr rfl, V, fun v w => R v w ∧ AQ j q w, ⟨v0, hv0⟩, fun _ v w w' n g => ⟨hs hi3 v w w' n g.1, hAQ _ _ _ _ n g.2⟩, fun w b g => ?_, fun v hv => ?_⟩
            · exact grow_imp (fun v w' hh => ⟨hh.1, hh.2.1, hh.2.2, hAQ _ _ _ _ (hh.1 hi3) g.2⟩) ((grow_put hsi h3).2 (hr w b g.1))
            · have hkv := hk v hv
              rw [if_neg hcj, if_pos hj4] at hkv
              rw [← cm]
              have e : nxK kd i = false := by unfold nxK; simp [hi3]
              rw [e]; exact hkv.2.2 q
    · simp only [hwi, hwj, if_true, Bool.false_eq_true, if_false] at *
      by_cases hci : still? kd i = true
      · rw [if_pos hci] at h ⊢
        obtain ⟨c, v, hv, hk⟩ := h
        exact ⟨c, v, (still_put hsi h3).2 hv, by rw [← cm]; exact hk⟩
      · rw [if_neg hci] at h ⊢
        by_cases h4 : kd i = 4
        · rw [if_pos h4] at h ⊢
          exact ⟨h.1, fun w b => (alloc_put hsi h3).2 (h.2.1 w b), fun q => by rw [← cm]; exact h.2.2 q⟩
        · rw [if_neg h4] at h ⊢
          obtain ⟨d, V, R, hV, hs, hr, hk⟩ := h
          exact ⟨d, V, R, hV, hs, fun w b g => (grow_put hsi h3).2 (hr w b g), fun v hv => by rw [← cm]; exact hk v hv⟩
  · rw [if_neg hwi] at h
    by_cases hwj : Region.wanted oj (yielded ops a.tmps) = true
    · simp only [hwi, hwj, if_true, Bool.false_eq_true, if_false] at *
      by_cases hcj : still? kd j = true
      · rw [if_pos hcj] at h ⊢
        obtain ⟨c, u, hu, hk⟩ := h
        exact ⟨c, u, (still_put hsj h1).1 hu, by rw [← cm]; exact hk⟩
      · rw [if_neg hcj] at h ⊢
        by_cases h4 : kd j = 4
        · rw [if_pos h4] at h ⊢
          exact ⟨h.1, fun w b => (alloc_put hsj h1).1 (h.2.1 w b), fun q => by rw [← cm]; exact h.2.2 q⟩
        · rw [if_neg h4] at h ⊢
          obtain ⟨d, V, R, hV, hs, hr, hk⟩ := h
          exact ⟨d, V, R, hV, hs, fun w b g => (grow_put hsj h1).1 (hr w b g), fun u hu => by rw [← cm]; exact hk u hu⟩
    · simp only [hwi, hwj, Bool.false_eq_true, if_false] at *
      rw [← cm]; exact h
/-- of two that may not change places one waits for the other -/
def ordered (md : Region.Mode) (ops : Array Oper) (kd : Nat → Nat) : Bool :=
  let t := table md ops.toList #[]
  let l := (List.range ops.size).filter fun i => decide (1 ≤ kd i)
  l.all fun i => l.all fun j => decide (j ≤ i) || !(cf (kd i) (kd j)) || (t.getD j 0).testBit i || (t.getD i 0).testBit j
theorem ordered_spec (h : ordered md ops kd = true) {i j : Nat} (hij : i < j) (li : i < ops.size) (lj : j < ops.size) (hc : cf (kd i) (kd j) = true) (h5 : kd i ≤ 4 ∧ kd j ≤ 4) : Waits md ops j i ∨ Waits md ops i j := by
  have hk : 1 ≤ kd i ∧ 1 ≤ kd j := by
    unfold cf at hc; simp at hc; omega
  have hi : i ∈ (List.range ops.size).filter fun i => decide (1 ≤ kd i) := List.mem_filter.2 ⟨List.mem_range.2 li, by simpa using hk.1⟩
  have hj : j ∈ (List.range ops.size).filter fun i => decide (1 ≤ kd i) := List.mem_filter.2 ⟨List.mem_range.2 lj, by simpa using hk.2⟩
  have h2 := List.all_eq_true.1 (List.all_eq_true.1 h i hi) j hj
  simp only [Bool.or_eq_true, decide_eq_true_eq, hc, Bool.not_true, Bool.false_eq_true, or_false] at h2
  have ht := table_waits (md := md) (ops := ops) ops.toList #[] (by simp) (by intro k i hk; simp at hk)
  rcases h2 with (h2 | h2) | h2
  · omega
  · exact Or.inl (ht _ _ h2)
  · exact Or.inr (ht _ _ h2)
theorem not_both {listed : Array Bool} (hd : Down md ops listed) (h5 : ∀ k, kd k ≤ 4) (ho : ordered md ops kd = true) {i j : Nat} (hi : i ∈ Region.ready md ops listed) (hj : j ∈ Region.ready md ops listed) (hne : i < j) : ¬ cf (kd i) (kd j) = true := by
  intro hc
  have li : i < ops.size := by obtain ⟨_, o, h, _⟩ := mem_ready.1 hi; exact (Array.getElem?_eq_some_iff.1 h).1
  have lj : j < ops.size := by obtain ⟨_, o, h, _⟩ := mem_ready.1 hj; exact (Array.getElem?_eq_some_iff.1 h).1
  rcases ordered_spec ho hne li lj hc ⟨h5 _, h5 _⟩ with h | h
  · exact ready_unlisted hi (waits_ready hd hj h)
  · exact ready_unlisted hj (waits_ready hd hi h)
theorem getD_set_tt {l : Array Bool} {j k : Nat} (h : l.getD k true = true) : (l.setIfInBounds j true).getD k true = true := by
  by_cases hjk : j = k
  · subst hjk
    rw [Array.getD_eq_getD_getElem?, Array.getElem?_setIfInBounds]
    split
    · split <;> rfl
    · rw [← Array.getD_eq_getD_getElem?]; exact h
  · rw [getD_set_ne true hjk]; exact h
theorem getD_set_self {l : Array Bool} {k : Nat} : (l.setIfInBounds k true).getD k true = true := by
  rw [Array.getD_eq_getD_getElem?, Array.getElem?_setIfInBounds]
  simp
  split <;> rfl
theorem wpAnyG_first (hAB : ∀ w, B w → A w) (hAQ : ∀ k q, Stab N (AQ k q)) (h5 : ∀ k, kd k ≤ 4) {Q : Bool → (World → Prop) → Act → Prop} {i : Nat} {oi : Oper} (hB : ∃ w, B w) (hord : ordered md ops kd = true) (hi : ops[i]? = some oi) (hsel : ∀ (j : Nat) (o : Oper) c b, ops[j]? = some o → o.op ≠ .select c b) :
    ∀ (fuel : Nat) (listed : Array Bool) (p : Bool) (G : World → Prop) (a : Act), Down md ops listed → (∀ j, j < i → listed.getD j true = true) →
      (∀ j oj, ops[j]? = some oj → j ≠ i → listed.getD j true = false → (∀ e ∈ oj.after, Region.binds md e = true → e.on ≠ i) → oi.apart ops oj = true) →
      i ∈ Region.ready md ops listed →
      gOp P ops A B kd N AQ i (wpAnyG P md ops A B kd N AQ Q fuel (listed.setIfInBounds i true)) p G a → wpAnyG P md ops A B kd N AQ Q (fuel + 1) listed p G a := by
  intro fuel
  induction fuel with
  | zero =>
    intro listed p G a hd hlow hfree hr H
    refine ⟨fun h => (by rw [h] at hr; cases hr), fun j hj => ?_⟩
    by_cases hji : j = i
    · subst hji; exact H
    · exfalso
      have key : ∀ p' G' a', wpAnyG P md ops A B kd N AQ Q 0 (listed.setIfInBounds i true) p' G' a' → False := fun p' G' a' h => by
        have := ready_mono hj hji
        rw [h.1] at this
        cases this
      have H2 := gOp_mono (K' := fun _ _ _ => False) (fun p' G' a' h => key p' G' a' h) H
      unfold gOp at H2
      simp only [hi] at H2
      unfold step at H2
      split at H2
      · split at H2
        · obtain ⟨_, v, _, h2⟩ := H2; exact h2
        · split at H2
          · exact H2.2.2 0
          · obtain ⟨_, V, R, ⟨v0, hv0⟩, _, _, h2⟩ := H2; exact h2 v0 hv0
      · exact H2
  | succ fuel ih =>
    intro listed p G a hd hlow hfree hr H
    refine ⟨fun h => (by rw [h] at hr; cases hr), fun j hj => ?_⟩
    by_cases hji : j = i
    · subst hji; exact H
    · obtain ⟨hjun, oj, hoj, hall⟩ := mem_ready.1 hj
      have hnot : ∀ e ∈ oj.after, Region.binds md e = true → e.on ≠ i := fun e he hb heq =>
        ready_unlisted hr (by rw [← heq]; exact hall e he hb)
      have hap := hfree j oj hoj hji hjun hnot
      have hlt : i < j := by
        rcases Nat.lt_or_ge i j with h | h
        · exact h
        · have h6 := hlow j (by omega)
          rw [hjun] at h6; cases h6
      have h1 : gOp P ops A B kd N AQ i (fun p G a => gOp P ops A B kd N AQ j (wpAnyG P md ops A B kd N AQ Q fuel ((listed.setIfInBounds i true).setIfInBounds j true)) p G a) p G a :=
        gOp_mono (fun p' G' a' h => h.2 j (ready_mono hj hji)) H
      have h2 : gOp P ops A B kd N AQ j (fun p G a => gOp P ops A B kd N AQ i (wpAnyG P md ops A B kd N AQ Q fuel ((listed.setIfInBounds j true).setIfInBounds i true)) p G a) p G a := by
        rw [Array.setIfInBounds_comm _ _ hji]
        unfold gOp at h1 ⊢
        simp only [hi, hoj] at h1 ⊢
        exact step_comm hAB hAQ hB hap (fun c b => hsel i oi c b hi) (fun c b => hsel j oj c b hoj) (not_both hd h5 hord hr hj hlt) h1
      have hfree' : ∀ k ok, ops[k]? = some ok → k ≠ i → (listed.setIfInBounds j true).getD k true = false →
          (∀ e ∈ ok.after, Region.binds md e = true → e.on ≠ i) → oi.apart ops ok = true := fun k ok hk hki hun hno => by
        refine hfree k ok hk hki ?_ hno
        by_cases hjk : j = k
        · subst hjk; exact hjun
        · rw [getD_set_ne true hjk] at hun; exact hun
      exact gOp_mono (fun p' G' a' h3 => ih (listed.setIfInBounds j true) p' G' a' (down_set hd hj) (fun k hk => getD_set_tt (hlow k hk)) hfree' (ready_mono hr (Ne.symm hji)) h3) h2
/-- the walk in the order of the text -/
def wpGrow (P : Program) (ops : Array Oper) (A B : World → Prop) (kd : Nat → Nat) (N : World → World → Prop) (AQ : Nat → Nat → World → Prop) (Q : Bool → (World → Prop) → Act → Prop) : List Oper → Nat → Bool → (World → Prop) → Act → Prop
  | [], _, p, G, a => Q p G a
  | o :: rest, k, p, G, a => step P ops A B kd N AQ k o (wpGrow P ops A B kd N AQ Q rest (k + 1)) p G a
theorem wpAnyG_lex (hAB : ∀ w, B w → A w) (hAQ : ∀ k q, Stab N (AQ k q)) (h5 : ∀ k, kd k ≤ 4) {Q : Bool → (World → Prop) → Act → Prop} (hB0 : ∃ w, B w) (hord : ordered md ops kd = true) (hs : Region.noSelect ops = true) : ∀ (l : List Oper) (k : Nat) (listed : Array Bool) (p : Bool) (G : World → Prop) (a : Act), Down md ops listed → (∀ j, j < k → listed.getD j true = true) → (∀ j, l[j]? = ops[k + j]?) →
    Region.lexFrom md ops l.length k listed = true → wpGrow P ops A B kd N AQ Q l k p G a → wpAnyG P md ops A B kd N AQ Q l.length listed p G a
  | [], _, _, _, _, _, _, _, _, hB, h => ⟨by simpa [Region.lexFrom] using hB, h⟩
  | o :: l, k, listed, p, G, a, hd, hlow, hl, hB, h => by
    have h0 : ops[k]? = some o := by simpa using (hl 0).symm
    simp only [List.length_cons, Region.lexFrom, Bool.and_eq_true] at hB
    obtain ⟨⟨hr, hf⟩, hB'⟩ := hB
    have hr' : k ∈ Region.ready md ops listed := by simpa using hr
    refine wpAnyG_first hAB hAQ h5 hB0 hord h0 (Region.noSelect_spec hs) l.length listed p G a hd hlow (Region.free_spec h0 hf) hr' ?_
    unfold gOp
    simp only [h0]
    exact step_mono (fun p' G' a' h2 => wpAnyG_lex hAB hAQ h5 hB0 hord hs l (k + 1) _ p' G' a' (down_set hd hr') (fun j hj => by
      by_cases h6 : j = k
      · subst h6; exact getD_set_self
      · exact getD_set_tt (hlow j (by omega))) (fun j => by have := hl (j + 1); simpa [Nat.add_assoc, Nat.add_comm 1 j] using this) hB' h2) h
/-- one walk of the text's order serves every order -/
theorem wp_region_gro3 {id : Nat} {l : List Oper} {Q : Exit → Act → World → Prop} {a : Act} {w : World} (A B : World → Prop) (kl : List Nat) (N : World → World → Prop) (AQ : Nat → Nat → World → Prop) (hm : P.follows .mixedOrders = true) (hL : Region.lexB .any l.toArray = true) (hord : ordered .any l.toArray (fun k => min (kl.getD k 0) 4) = true) (hAQ : ∀ k q, Stab N (AQ k q)) (hAB : ∀ w, B w → A w) (hB : B w.drew)
    (h : wpGrow P l.toArray A B (fun k => min (kl.getD k 0) 4) N AQ (fun p' G' a' => ∀ w', cls A B p' w' → G' w' → Q .normal a' w') l 0 false (fun _ => True) a) : (Code.region id l.toArray true).wp P Q a w := by
  simp only [Region.lexB, Bool.and_eq_true] at hL
  refine wp_region_any hm (wpAny_of_grow (A := A) (B := B) (kd := fun k => min (kl.getD k 0) 4) (N := N) (AQ := AQ) hAB hAQ (Q := fun p' G' a' => ∀ w', cls A B p' w' → G' w' → Q .normal a' w') (fun _ _ _ w' b g h => h w' b g) _ _ false (fun _ => True) _ _ hB (fun _ _ _ _ _ => trivial) trivial ?_)
  have := wpAnyG_lex (P := P) (A := A) (B := B) (kd := fun k => min (kl.getD k 0) 4) (N := N) (AQ := AQ) (md := .any) hAB hAQ (fun k => Nat.min_le_right _ _) ⟨_, hB⟩ hord hL.1 l 0 (Array.replicate l.toArray.size false) false (fun _ => True) a (down_none _) (fun j hj => absurd hj (Nat.not_lt_zero _)) (by simp) (by simpa using hL.2) h
  simpa using this
/-- the operations ahead: of kind 0 (cl = A) or 1 (cl = B) all of them -/
def lead (kd : Nat → Nat) (c : Nat) : Nat → List Oper → Bool
  | _, [] => true
  | k, o :: l => decide (kd k = c) && plain o.op && lead kd c (k + 1) l
theorem wpGrow_lead0 {Q : Bool → (World → Prop) → Act → Prop} {p : Bool} {G : World → Prop} : ∀ (l1 l2 : List Oper) (k : Nat) (a : Act), lead kd 0 k l1 = true →
    wpQuiet P ops A (fun a' => wpGrow P ops A B kd N AQ Q l2 (k + l1.length) p G a') l1 a → wpGrow P ops A B kd N AQ Q (l1 ++ l2) k p G a
  | [], l2, k, a, _, h => h
  | o :: l1, l2, k, a, hl, h => by
    simp only [lead, Bool.and_eq_true, decide_eq_true_eq] at hl
    have e : k + (o :: l1).length = (k + 1) + l1.length := by simp; omega
    rw [e] at h
    show step P ops A B kd N AQ k o (wpGrow P ops A B kd N AQ Q (l1 ++ l2) (k + 1)) p G a
    unfold step
    unfold wpQuiet at h
    split
    · rename_i hw
      rw [if_pos hw] at h
      rw [if_pos (by unfold still?; simp [hl.1.1])]
      obtain ⟨v, h1, h2⟩ := h
      refine ⟨Or.inl hl.1.1, v, fun w hw => ?_, wpGrow_lead0 l1 l2 (k + 1) _ hl.2 h2⟩
      unfold CK at hw; rw [if_pos hl.1.1] at hw
      exact still_of_quiet hl.1.2 (h1 w hw)
    · rename_i hw
      rw [if_neg hw] at h
      exact wpGrow_lead0 l1 l2 (k + 1) _ hl.2 h
theorem wpGrow_lead1 {Q : Bool → (World → Prop) → Act → Prop} {G : World → Prop} : ∀ (l1 l2 : List Oper) (k : Nat) (a : Act), lead kd 1 k l1 = true →
    wpQuiet P ops B (fun a' => wpGrow P ops A B kd N AQ Q l2 (k + l1.length) false G a') l1 a → wpGrow P ops A B kd N AQ Q (l1 ++ l2) k false G a
  | [], l2, k, a, _, h => h
  | o :: l1, l2, k, a, hl, h => by
    simp only [lead, Bool.and_eq_true, decide_eq_true_eq] at hl
    have e : k + (o :: l1).length = (k + 1) + l1.length := by simp; omega
    rw [e] at h
    show step P ops A B kd N AQ k o (wpGrow P ops A B kd N AQ Q (l1 ++ l2) (k + 1)) false G a
    unfold step
    unfold wpQuiet at h
    split
    · rename_i hw
      rw [if_pos hw] at h
      rw [if_pos (by unfold still?; simp [hl.1.1])]
      obtain ⟨v, h1, h2⟩ := h
      refine ⟨Or.inr rfl, v, fun w hw => ?_, wpGrow_lead1 l1 l2 (k + 1) _ hl.2 h2⟩
      unfold CK at hw; rw [if_neg (by omega)] at hw
      exact still_of_quiet hl.1.2 (h1 w hw)
    · rename_i hw
      rw [if_neg hw] at h
      exact wpGrow_lead1 l1 l2 (k + 1) _ hl.2 h
theorem take0 {Q : Bool → (World → Prop) → Act → Prop} {p : Bool} {G : World → Prop} (n : Nat) {l : List Oper} {k : Nat} {a : Act} (hl : lead kd 0 k (l.take n) = true)
    (h : wpQuiet P ops A (fun a' => wpGrow P ops A B kd N AQ Q (l.drop n) (k + (l.take n).length) p G a') (l.take n) a) : wpGrow P ops A B kd N AQ Q l k p G a := by
  have := wpGrow_lead0 (l.take n) (l.drop n) k a hl h
  rwa [List.take_append_drop] at this
theorem take1 {Q : Bool → (World → Prop) → Act → Prop} {G : World → Prop} (n : Nat) {l : List Oper} {k : Nat} {a : Act} (hl : lead kd 1 k (l.take n) = true)
    (h : wpQuiet P ops B (fun a' => wpGrow P ops A B kd N AQ Q (l.drop n) (k + (l.take n).length) false G a') (l.take n) a) : wpGrow P ops A B kd N AQ Q l k false G a := by
  have := wpGrow_lead1 (l.take n) (l.drop n) k a hl h
  rwa [List.take_append_drop] at this
/-- a nil check of a pointer that points somewhere -/
theorem check {Q : Bool → (World → Prop) → Act → Prop} {p : Bool} {G : World → Prop} {o : Oper} {rest : List Oper} {k : Nat} {a : Act} (x : Operand) (q : Addr) (hop : o.op = .nilCheck x) (hw : Region.wanted o (yielded ops a.tmps) = true) (hc : kd k = 0) (he : a.eval x = .pointer (some q))
    (hk : ∀ a', a' = a.put o.dst (.pointer (some q)) → wpGrow P ops A B kd N AQ Q rest (k + 1) p G a') : wpGrow P ops A B kd N AQ Q (o :: rest) k p G a := by
  show step P ops A B kd N AQ k o (wpGrow P ops A B kd N AQ Q rest (k + 1)) p G a
  unfold step
  rw [if_pos hw, if_pos (by unfold still?; simp [hc])]
  refine ⟨Or.inl hc, .pointer (some q), fun w _ => ?_, hk _ rfl⟩
  unfold execOp
  simp only [hop, he]
  exact ⟨rfl, rfl⟩
/-- a call: what is known from there on is R alone -/
theorem callt {Q : Bool → (World → Prop) → Act → Prop} {G : World → Prop} {o : Oper} {rest : List Oper} {k : Nat} {a : Act} (V : Value → Prop) (R : Value → World → Prop) (hw : Region.wanted o (yielded ops a.tmps) = true) (hc : kd k = 2) (hV : ∃ v, V v) (hs : ∀ v, Stab N (R v))
    (h : ∀ w, B w → G w → growAt P o a B (fun v w' => N w w' ∧ V v ∧ R v w') w) (hk : ∀ v a', V v → a' = a.put o.dst v → wpGrow P ops A B kd N AQ Q rest (k + 1) false (R v) a') : wpGrow P ops A B kd N AQ Q (o :: rest) k false G a := by
  show step P ops A B kd N AQ k o (wpGrow P ops A B kd N AQ Q rest (k + 1)) false G a
  unfold step
  rw [if_pos hw, if_neg (by unfold still?; simp [hc]), if_neg (by omega)]
  refine ⟨Or.inr rfl, V, R, hV, fun _ => hs, ?_, fun v hv => ?_⟩
  · intro w b g
    unfold postK; rw [if_pos hc]; exact grow_imp (fun v w' hh => ⟨fun _ => hh.1, hh.2⟩) (h w b g)
  · have : nxK kd k = false := by unfold nxK; simp [hc]
    rw [this]; exact hk v _ hv rfl
/-- the length of a slice -/
theorem blen {Q : Bool → (World → Prop) → Act → Prop} {p : Bool} {G : World → Prop} {o : Oper} {rest : List Oper} {k : Nat} {a : Act} (x : Operand) (T E : TypeId) (ad : Option Addr) (n c : Nat) (hop : o.op = .call { callee := .builtin .len, args := #[x], argTypes := #[T] }) (hw : Region.wanted o (yielded ops a.tmps) = true) (hc : kd k = 0) (hu : P.underlying T = some (.slice E)) (he : a.eval x = .slice ad n c)
    (hk : ∀ a', a' = a.put o.dst (.int .i64 n) → wpGrow P ops A B kd N AQ Q rest (k + 1) p G a') : wpGrow P ops A B kd N AQ Q (o :: rest) k p G a := by
  show step P ops A B kd N AQ k o (wpGrow P ops A B kd N AQ Q rest (k + 1)) p G a
  unfold step
  rw [if_pos hw, if_pos (by unfold still?; simp [hc])]
  refine ⟨Or.inl hc, .int .i64 n, fun w _ => ?_, hk _ rfl⟩
  generalize a.eval = ρ at he ⊢
  simp [execOp, hop, resolve, invoke, builtin, he, go_sem, stillUpon, Builtin.len_, run_underlying hu]
/-- an alloc -/
theorem alloc {Q : Bool → (World → Prop) → Act → Prop} {G : World → Prop} {o : Oper} {rest : List Oper} {k : Nat} {a : Act} (hw : Region.wanted o (yielded ops a.tmps) = true) (hc : kd k = 4)
    (h : ∀ w, B w → allocAt P o a B N (AQ k) w) (hk : ∀ q a', a' = a.put o.dst (.pointer (some ⟨q, 0, none⟩)) → wpGrow P ops A B kd N AQ Q rest (k + 1) false (fun w => G w ∧ AQ k q w) a') : wpGrow P ops A B kd N AQ Q (o :: rest) k false G a := by
  show step P ops A B kd N AQ k o (wpGrow P ops A B kd N AQ Q rest (k + 1)) false G a
  unfold step
  rw [if_pos hw, if_neg (by unfold still?; simp [hc]), if_pos hc]
  exact ⟨rfl, h, fun q => hk q _ rfl⟩
/-- what writes: what is known from there on is R alone -/
theorem turn {Q : Bool → (World → Prop) → Act → Prop} {p : Bool} {G : World → Prop} {o : Oper} {rest : List Oper} {k : Nat} {a : Act} (V : Value → Prop) (R : Value → World → Prop) (hw : Region.wanted o (yielded ops a.tmps) = true) (hc : kd k = 3) (hV : ∃ v, V v)
    (h : ∀ w, cls A B p w → G w → growAt P o a A (fun v w => V v ∧ R v w) w) (hk : ∀ v a', V v → a' = a.put o.dst v → wpGrow P ops A B kd N AQ Q rest (k + 1) true (R v) a') : wpGrow P ops A B kd N AQ Q (o :: rest) k p G a := by
  show step P ops A B kd N AQ k o (wpGrow P ops A B kd N AQ Q rest (k + 1)) p G a
  unfold step
  rw [if_pos hw, if_neg (by unfold still?; simp [hc]), if_neg (by omega)]
  refine ⟨Or.inl (by omega), V, R, hV, fun h2 => absurd h2 (by omega), ?_, fun v hv => ?_⟩
  · intro w b g
    unfold postK; rw [if_neg (by omega)]; exact grow_imp (fun v w' hh => ⟨fun h2 => absurd h2 (by omega), hh⟩) (h w b g)
  · have : nxK kd k = true := by unfold nxK; simp [hc]
    rw [this]; exact hk v _ hv rfl
theorem skip {Q : Bool → (World → Prop) → Act → Prop} {p : Bool} {G : World → Prop} {o : Oper} {rest : List Oper} {k : Nat} {a : Act} (hw : Region.wanted o (yielded ops a.tmps) = false)
    (hk : ∀ a', a' = a.put o.dst undef → wpGrow P ops A B kd N AQ Q rest (k + 1) p G a') : wpGrow P ops A B kd N AQ Q (o :: rest) k p G a := by
  show step P ops A B kd N AQ k o (wpGrow P ops A B kd N AQ Q rest (k + 1)) p G a
  unfold step
  rw [if_neg (by rw [hw]; exact Bool.false_ne_true)]
  exact hk _ rfl
theorem nil {Q : Bool → (World → Prop) → Act → Prop} {p : Bool} {G : World → Prop} {k : Nat} {a : Act} (h : Q p G a) : wpGrow P ops A B kd N AQ Q [] k p G a := h
end
/-- the region in the classes of the worlds that meet SA and SB, named by an index each -/
theorem wp_region_gro3S {P : Program} {id : Nat} {l : List Oper} {Q : Exit → Act → World → Prop} {a : Act} {w : World} (SA SB : World → Prop) (kl : List Nat) (N : World → World → Prop) (AQ : Nat → Nat → World → Prop) (hm : P.follows .mixedOrders = true) (hL : Region.lexB .any l.toArray = true) (hord : ordered .any l.toArray (fun k => min (kl.getD k 0) 4) = true) (hAQ : ∀ k q, Stab N (AQ k q)) (hAB : ∀ w, SB w → SA w) (hS : SB w.drew)
    (h : ∀ (I J : Type) [Nonempty I] [Nonempty J] (f : I → World) (g : J → World), (∀ n, SA (f n)) → (∀ w', SA w' → ∃ m, w' = f m) → (∀ n, SB (g n)) → (∀ w', SB w' → ∃ m, w' = g m) →
      wpGrow P l.toArray (fun w' => ∃ n, w' = f n) (fun w' => ∃ n, w' = g n) (fun k => min (kl.getD k 0) 4) N AQ (fun p' G' a' => ∀ w', cls (fun w' => ∃ n, w' = f n) (fun w' => ∃ n, w' = g n) p' w' → G' w' → Q .normal a' w') l 0 false (fun _ => True) a) : (Code.region id l.toArray true).wp P Q a w :=
  wp_region_gro3 (fun w' => ∃ n : {x : World // SA x}, w' = n.1) (fun w' => ∃ n : {x : World // SB x}, w' = n.1) kl N AQ hm hL hord hAQ (fun w ⟨n, e⟩ => ⟨⟨w, hAB _ (e ▸ n.2)⟩, rfl⟩) ⟨⟨w.drew, hS⟩, rfl⟩
    (@h {x : World // SA x} {x : World // SB x} ⟨⟨w.drew, hAB _ hS⟩⟩ ⟨⟨w.drew, hS⟩⟩ Subtype.val Subtype.val (fun n => n.2) (fun w' hw' => ⟨⟨w', hw'⟩, rfl⟩) (fun n => n.2) (fun w' hw' => ⟨⟨w', hw'⟩, rfl⟩))
attribute [go_sem] allocAt allocUpon
end Go.Gro3
end
section
/- Layer 34: rounds. -/
namespace Go.Proofs.YtoplabhoedloeaaGreat
open Go.RowKit Go.Bv
set_option linter.unusedVariables false
/-- one round -/
def one34 (s : BitVec 64 × BitVec 64 × BitVec 64 × BitVec 64) : BitVec 64 × BitVec 64 × BitVec 64 × BitVec 64 :=
  (((s.1 + s.2.1).rotateLeft 32 + (s.2.2.2.rotateLeft 16 ^^^ (s.2.2.1 + s.2.2.2))),
   (s.2.1.rotateLeft 13 ^^^ (s.1 + s.2.1)).rotateLeft 17 ^^^ (s.2.2.1 + s.2.2.2 + (s.2.1.rotateLeft 13 ^^^ (s.1 + s.2.1))),
   (s.2.2.1 + s.2.2.2 + (s.2.1.rotateLeft 13 ^^^ (s.1 + s.2.1))).rotateLeft 32,
   (s.2.2.2.rotateLeft 16 ^^^ (s.2.2.1 + s.2.2.2)).rotateLeft 21 ^^^ ((s.1 + s.2.1).rotateLeft 32 + (s.2.2.2.rotateLeft 16 ^^^ (s.2.2.1 + s.2.2.2))))
def itr34 : Nat → BitVec 64 × BitVec 64 × BitVec 64 × BitVec 64 → BitVec 64 × BitVec 64 × BitVec 64 × BitVec 64
  | 0, s => s
  | n + 1, s => one34 (itr34 n s)
def fst34 (s : BitVec 64 × BitVec 64 × BitVec 64 × BitVec 64) (m : BitVec 64) : BitVec 64 × BitVec 64 × BitVec 64 × BitVec 64 := (s.1 ^^^ m, s.2.1, s.2.2.1, s.2.2.2)
def snd34 (s : BitVec 64 × BitVec 64 × BitVec 64 × BitVec 64) (m : BitVec 64) : BitVec 64 × BitVec 64 × BitVec 64 × BitVec 64 := (s.1, s.2.1 ^^^ m, s.2.2.1, s.2.2.2)
def thd34 (s : BitVec 64 × BitVec 64 × BitVec 64 × BitVec 64) (m : BitVec 64) : BitVec 64 × BitVec 64 × BitVec 64 × BitVec 64 := (s.1, s.2.1, s.2.2.1 ^^^ m, s.2.2.2)
def lst34 (s : BitVec 64 × BitVec 64 × BitVec 64 × BitVec 64) (m : BitVec 64) : BitVec 64 × BitVec 64 × BitVec 64 × BitVec 64 := (s.1, s.2.1, s.2.2.1, s.2.2.2 ^^^ m)
def word34 (r : Nat) (s : BitVec 64 × BitVec 64 × BitVec 64 × BitVec 64) (m : BitVec 64) : BitVec 64 × BitVec 64 × BitVec 64 × BitVec 64 := fst34 (itr34 r (lst34 s m)) m
/-- a block -/
def stp34 (kd : Nat × Nat × Bool) (s : BitVec 64 × BitVec 64 × BitVec 64 × BitVec 64) (l : List (BitVec 8)) : BitVec 64 × BitVec 64 × BitVec 64 × BitVec 64 := word34 kd.1 s (rd l 0 8)
def base34 (hi lo : BitVec 64) : BitVec 64 × BitVec 64 × BitVec 64 × BitVec 64 := (lo ^^^ 8317987319222330741#64, hi ^^^ 7237128888997146477#64, lo ^^^ 7816392313619706465#64, hi ^^^ 8387220255154660723#64)
def start34 (kd : Nat × Nat × Bool) (key : BitVec 64 × BitVec 64) : BitVec 64 × BitVec 64 × BitVec 64 × BitVec 64 := if kd.2.2 then snd34 (base34 key.1 key.2) 238#64 else base34 key.1 key.2
def xor34 (s : BitVec 64 × BitVec 64 × BitVec 64 × BitVec 64) : BitVec 64 := s.1 ^^^ s.2.1 ^^^ s.2.2.1 ^^^ s.2.2.2
/-- what comes at the end: the lower word and the upper one -/
def tell34 (kd : Nat × Nat × Bool) (s : BitVec 64 × BitVec 64 × BitVec 64 × BitVec 64) : BitVec 64 × BitVec 64 :=
  if kd.2.2 then (xor34 (itr34 kd.2.1 (thd34 s 238#64)), xor34 (itr34 kd.2.1 (snd34 (itr34 kd.2.1 (thd34 s 238#64)) 221#64)))
  else (xor34 (itr34 kd.2.1 (thd34 s 255#64)), 0#64)
def end34 (kd : Nat × Nat × Bool) (s : BitVec 64 × BitVec 64 × BitVec 64 × BitVec 64) (tl : List (BitVec 8)) (lg : BitVec 64) : BitVec 64 × BitVec 64 := tell34 kd (word34 kd.1 s (rd tl 0 8 ||| lg <<< 56))
/-- the hash -/
def hash34 (kd : Nat × Nat × Bool) (key : BitVec 64 × BitVec 64) (l : List (BitVec 8)) : BitVec 64 × BitVec 64 := end34 kd (bState 8 (stp34 kd) (start34 kd key) l) (bTail 8 l) (BitVec.ofNat 64 l.length)
/-- the kinds -/
def KD (kind : Int) (kd : Nat × Nat × Bool) : Prop := (kind = 6 ∧ kd = (2, 4, false)) ∨ (kind = 7 ∧ kd = (1, 3, false)) ∨ (kind = 8 ∧ kd = (2, 4, true))
def lenOf34 : Value → Nat
  | .slice _ n _ => n
  | _ => 0
theorem rot64_n (y : BitVec 64) (n : Nat) (hn : n < 64) (w : World) : Calls Tryz.prog 94 #[.int .u64 (W64 y), .int .i64 n] w fun e w' => e = .returned (.int .u64 (W64 (y.rotateLeft n))) ∧ w' = w := by
  have h := rot64_anyD (W64 y) (b64 _) n w
  rw [ofInt_W64, show ((n : Int) % 64).toNat = n by omega] at h
  exact h
set_option maxRecDepth 100000 in
set_option maxHeartbeats 8000000 in
theorem rounds_34s (s : BitVec 64 × BitVec 64 × BitVec 64 × BitVec 64) (n : Nat) (hn : n ≤ 100) (w : World) : Calls Tryz.prog 92 #[.agg #[.int .u64 (W64 (s.1)), .int .u64 (W64 (s.2.1)), .int .u64 (W64 (s.2.2.1)), .int .u64 (W64 (s.2.2.2))], .int .i64 (n : Int)] w fun e w' => e = .returned (.agg #[.int .u64 (W64 ((itr34 n s).1)), .int .u64 (W64 ((itr34 n s).2.1)), .int .u64 (W64 ((itr34 n s).2.2.1)), .int .u64 (W64 ((itr34 n s).2.2.2))]) ∧ New w w' := by
  have HZ := Lib.hid (two_blocksD w (.cells #[.int .u64 (W64 (s.1)), .int .u64 (W64 (s.2.1)), .int .u64 (W64 (s.2.2.1)), .int .u64 (W64 (s.2.2.2))] 77) (.cells #[.int .u64 0, .int .u64 0, .int .u64 0, .int .u64 0] 77))
  go_enter Tryz.func92, Tryz.ntmps92
  go_wp2_with fail
  go_loopw [6] (fun i wr => ∃ k : Nat, k ≤ n ∧ i = .int .i64 (k : Int) ∧ wr.heap[w.heap.size]? = some (.cells #[.int .u64 (W64 ((itr34 k s).1)), .int .u64 (W64 ((itr34 k s).2.1)), .int .u64 (W64 ((itr34 k s).2.2.1)), .int .u64 (W64 ((itr34 k s).2.2.2))] 77 (0, 0)) ∧ wr.heap[w.heap.size + 1]? = some (.cells #[.int .u64 0, .int .u64 0, .int .u64 0, .int .u64 0] 77 (0, 0)) ∧ New w wr) (fun i _ => n - (intOf i).toNat)
  case atStart => exact ⟨0, Nat.zero_le _, rfl, HZ.out.1, HZ.out.2.1, HZ.out.2.2⟩
  case round =>
    clear HZ
    obtain ⟨k, hk, rfl, ha, ho, hnw⟩ := hrel
    have HA := Lib.hid ha
    have HO := Lib.hid ho
    have HN := Lib.hid hnw
    clear ha ho hnw
    have hsu : itr34 (k + 1) s = one34 (itr34 k s) := rfl
    have HSU := Lib.hid hsu
    clear hsu
    obtain ⟨cur, hcur⟩ : ∃ z, itr34 k s = z := ⟨_, rfl⟩
    rw [hcur] at HA HSU
    have HCUR := Lib.hid hcur
    clear hcur
    obtain ⟨a0, a1, a2, a3⟩ := cur
    obtain ⟨w0, hw0⟩ : ∃ z, wr = z := ⟨_, rfl⟩
    subst hw0
    by_cases hlt : (k : Int) < (n : Int)
    · have hone := HSU.out
      unfold one34 at hone
      simp only at hone
      obtain ⟨p0, hnm⟩ : ∃ z, a0 + a1 = z := ⟨_, rfl⟩
      rw [hnm] at hone
      have HP0 := Lib.hid hnm
      clear hnm
      have HR1 := Lib.hid (rot64_n a1 13 (by decide))
      obtain ⟨r1, hnm⟩ : ∃ z, a1.rotateLeft 13 = z := ⟨_, rfl⟩
      rw [hnm] at HR1 hone
      clear hnm
      obtain ⟨p1, hnm⟩ : ∃ z, r1 ^^^ p0 = z := ⟨_, rfl⟩
      rw [hnm] at hone
      have HP1 := Lib.hid hnm
      clear hnm
      have HR2 := Lib.hid (rot64_n p0 32 (by decide))
      obtain ⟨q0, hnm⟩ : ∃ z, p0.rotateLeft 32 = z := ⟨_, rfl⟩
      rw [hnm] at HR2 hone
      clear hnm
      obtain ⟨p2, hnm⟩ : ∃ z, a2 + a3 = z := ⟨_, rfl⟩
      rw [hnm] at hone
      have HP2 := Lib.hid hnm
      clear hnm
      have HR3 := Lib.hid (rot64_n a3 16 (by decide))
      obtain ⟨r3, hnm⟩ : ∃ z, a3.rotateLeft 16 = z := ⟨_, rfl⟩
      rw [hnm] at HR3 hone
      clear hnm
      obtain ⟨p3, hnm⟩ : ∃ z, r3 ^^^ p2 = z := ⟨_, rfl⟩
      rw [hnm] at hone
      have HP3 := Lib.hid hnm
      clear hnm
      obtain ⟨e0, hnm⟩ : ∃ z, q0 + p3 = z := ⟨_, rfl⟩
      rw [hnm] at hone
      have HE0 := Lib.hid hnm
      clear hnm
      have HR4 := Lib.hid (rot64_n p3 21 (by decide))
      obtain ⟨r4, hnm⟩ : ∃ z, p3.rotateLeft 21 = z := ⟨_, rfl⟩
      rw [hnm] at HR4 hone
      clear hnm
      obtain ⟨e3, hnm⟩ : ∃ z, r4 ^^^ e0 = z := ⟨_, rfl⟩
      rw [hnm] at hone
      have HE3 := Lib.hid hnm
      clear hnm
      obtain ⟨f2, hnm⟩ : ∃ z, p2 + p1 = z := ⟨_, rfl⟩
      rw [hnm] at hone
      have HF2 := Lib.hid hnm
      clear hnm
      have HR5 := Lib.hid (rot64_n p1 17 (by decide))
      obtain ⟨r5, hnm⟩ : ∃ z, p1.rotateLeft 17 = z := ⟨_, rfl⟩
      rw [hnm] at HR5 hone
      clear hnm
      obtain ⟨e1, hnm⟩ : ∃ z, r5 ^^^ f2 = z := ⟨_, rfl⟩
      rw [hnm] at hone
      have HE1 := Lib.hid hnm
      clear hnm
      have HR6 := Lib.hid (rot64_n f2 32 (by decide))
      obtain ⟨e2, hnm⟩ : ∃ z, f2.rotateLeft 32 = z := ⟨_, rfl⟩
      rw [hnm] at HR6 hone
      clear hnm
      have HONE := Lib.hid hone
      clear hone HSU
      have c0 := cell_of_row _ _ 0 _ _ _ HA.out
      have c1 := cell_of_row _ _ 1 _ _ _ HA.out
      have c2 := cell_of_row _ _ 2 _ _ _ HA.out
      have c3 := cell_of_row _ _ 3 _ _ _ HA.out
      have cf := fun i => frozen_of_row _ _ i _ _ HA.out
      have hv := HP0.out
      go_wp2_with fail
      clear hv c0 c1 c2 c3 cf HP0
      have hs0 := heap_setCell_same wr w.heap.size 0 _ _ (.int .u64 (W64 p0)) HA.out
      have ho0 := heap_setCell_other wr ⟨w.heap.size, 0, none⟩ (w.heap.size + 1) (.int .u64 (W64 p0)) (by show w.heap.size + 1 ≠ w.heap.size; omega)
      have hn0 := HN.out.setCell (p := ⟨w.heap.size, 0, none⟩) (Nat.le_refl _) (.int .u64 (W64 p0))
      replace HO := Lib.hid (ho0.trans HO.out)
      clear HA HN ho0 
      generalize hw : (World.setCell wr ⟨w.heap.size, 0, none⟩ (.int .u64 (W64 p0))) = w1 at *
      have HA := Lib.hid (show w1.heap[w.heap.size]? = some (.cells #[.int .u64 (W64 p0), .int .u64 (W64 a1), .int .u64 (W64 a2), .int .u64 (W64 a3)] 77 (0, 0)) from hs0)
      have HN := Lib.hid hn0
      clear hs0 hn0 hw
      refine Gro3.wp_region_gro3S (fun w' => (∃ u0 u1 u2 u3 : Value, w'.heap[w.heap.size]? = some (.cells #[u0, u1, u2, u3] 77 (0, 0))) ∧ w'.heap[w.heap.size + 1]? = some (.cells #[.int .u64 0, .int .u64 0, .int .u64 0, .int .u64 0] 77 (0, 0)) ∧ New w w') (fun w' => w'.heap[w.heap.size]? = some (.cells #[.int .u64 (W64 p0), .int .u64 (W64 a1), .int .u64 (W64 a2), .int .u64 (W64 a3)] 77 (0, 0)) ∧ w'.heap[w.heap.size + 1]? = some (.cells #[.int .u64 0, .int .u64 0, .int .u64 0, .int .u64 0] 77 (0, 0)) ∧ New w w') [0,1,2,0,1,0,0,3] New (fun _ _ _ => True) (by kernel_rfl) (by kernel_rfl) (by kernel_rfl) (fun _ _ _ _ _ _ => trivial) (fun w' hw' => ⟨⟨_, _, _, _, hw'.1⟩, hw'.2⟩) (⟨HA.out, HO.out, HN.out.drew⟩) ?_
      intro I J _ _ f g hfa hba hgb hbb
      have HFA := Lib.hid hfa
      have HBA := Lib.hid hba
      have HGB := Lib.hid hgb
      have HBB := Lib.hid hbb
      have fa := fun n => cell_of_row _ _ 1 _ _ _ (hgb n).1
      have fb := fun n => cell_of_row _ _ 0 _ _ _ (hgb n).1
      clear hfa hba hgb hbb
      refine Gro3.take0 1 (by kernel_rfl) ?_
      simp only [List.take, List.drop, List.length]
      repeat (go_big_quiet_step (fail))
      refine wpQuiet_nil ?_
      refine Gro3.take1 1 (by kernel_rfl) ?_
      simp only [List.take, List.drop, List.length]
      repeat (go_big_quiet_step (fail))
      refine wpQuiet_nil ?_
      refine Gro3.callt (fun v => v = .int .u64 (W64 r1)) (fun _ _ => True) rfl rfl (⟨_, rfl⟩) (fun _ _ _ _ _ => trivial) (fun w1 hB hG => ?_) (fun v1 A1 hv1 hA => ?_)
      · obtain ⟨nq, rfl⟩ := hB
        clear fa fb
        go_simp
        refine (HR1.out _).mono ?_
        rintro e w2 ⟨rfl, rfl⟩
        first | exact ⟨_, rfl, ⟨nq, rfl⟩, New.refl _, rfl⟩ | exact ⟨_, rfl, ⟨nq, rfl⟩, New.refl _, rfl, trivial⟩ | exact ⟨⟨nq, rfl⟩, New.refl _⟩
      simp [Act.put] at hA
      subst hA
      obtain rfl := hv1
      refine Gro3.take0 1 (by kernel_rfl) ?_
      simp only [List.take, List.drop, List.length]
      repeat (go_big_quiet_step (fail))
      refine wpQuiet_nil ?_
      refine Gro3.take1 1 (by kernel_rfl) ?_
      simp only [List.take, List.drop, List.length]
      repeat (go_big_quiet_step (fail))
      refine wpQuiet_nil ?_
      have hv := HP1.out
      refine Gro3.take0 2 (by kernel_rfl) ?_
      simp only [List.take, List.drop, List.length]
      repeat (go_big_quiet_step (fail))
      refine wpQuiet_nil ?_
      clear hv
      refine Gro3.turn (fun v => v = undef) (fun _ w9 => Lies w9 w.heap.size (.cells #[.int .u64 (W64 p0), .int .u64 (W64 p1), .int .u64 (W64 a2), .int .u64 (W64 a3)] 77 (0, 0))) rfl rfl ⟨_, rfl⟩ (fun w1 hB hG => ?_) (fun v2 A2 hv2 hA => ?_)
      · obtain ⟨nq, rfl⟩ : ∃ nq, w1 = g nq := hB
        have HX := Lib.hid (HGB.out nq)
        have c0 := cell_of_row _ _ 1 _ _ _ HX.out.1
        have cf := fun i => frozen_of_row _ _ i _ _ HX.out.1
        have h0 := heap_setCell_same _ w.heap.size 1 _ _ (.int .u64 (W64 p1)) HX.out.1
        have HLI := Lib.hid (show Lies _ _ _ from h0)
        have HOT := Lib.hid (heap_setCell_other (g nq) ⟨w.heap.size, 1, none⟩ (w.heap.size + 1) (.int .u64 (W64 p1)) (by show w.heap.size + 1 ≠ w.heap.size; omega))
        clear h0 fa fb
        go_simp
        exact ⟨HBA.out _ ⟨⟨_, _, _, _, HLI.out⟩, HOT.out.trans HX.out.2.1, HX.out.2.2.setCell (Nat.le_refl _) _⟩, HLI.out⟩
      simp [Act.put] at hA
      subst hA
      refine Gro3.nil ?_
      rintro w11 ⟨n9, rfl⟩ hG
      have hF := HFA.out n9
      replace HA := Lib.hid (show (f n9).heap[w.heap.size]? = _ from hG)
      replace HO := Lib.hid hF.2.1
      replace HN := Lib.hid hF.2.2
      clear HFA HBA HGB HBB hG hF fa fb HP1 HR1
      generalize f n9 = w2 at *
      have c0 := cell_of_row _ _ 0 _ _ _ HA.out
      have c1 := cell_of_row _ _ 1 _ _ _ HA.out
      have c2 := cell_of_row _ _ 2 _ _ _ HA.out
      have c3 := cell_of_row _ _ 3 _ _ _ HA.out
      have cf := fun i => frozen_of_row _ _ i _ _ HA.out
      go_wp2_with fail
      refine (HR2.out _).mono ?_
      rintro e w9 ⟨rfl, hw9⟩
      replace hw9 := hw9.symm
      subst hw9
      have hv := HP2.out
      go_wp2_with fail
      clear hv c0 c1 c2 c3 cf HP2 HR2
      have hs0 := heap_setCell_same w2 w.heap.size 0 _ _ (.int .u64 (W64 q0)) HA.out
      have ho0 := heap_setCell_other w2 ⟨w.heap.size, 0, none⟩ (w.heap.size + 1) (.int .u64 (W64 q0)) (by show w.heap.size + 1 ≠ w.heap.size; omega)
      have hn0 := HN.out.setCell (p := ⟨w.heap.size, 0, none⟩) (Nat.le_refl _) (.int .u64 (W64 q0))
      have hs1 := heap_setCell_same _ w.heap.size 2 _ _ (.int .u64 (W64 p2)) hs0
      have ho1 := heap_setCell_other (World.setCell w2 ⟨w.heap.size, 0, none⟩ (.int .u64 (W64 q0))) ⟨w.heap.size, 2, none⟩ (w.heap.size + 1) (.int .u64 (W64 p2)) (by show w.heap.size + 1 ≠ w.heap.size; omega)
      have hn1 := hn0.setCell (p := ⟨w.heap.size, 2, none⟩) (Nat.le_refl _) (.int .u64 (W64 p2))
      replace HO := Lib.hid (ho1.trans (ho0.trans HO.out))
      clear HA HN ho0 ho1 hs0 hn0
      generalize hw : (World.setCell (World.setCell w2 ⟨w.heap.size, 0, none⟩ (.int .u64 (W64 q0))) ⟨w.heap.size, 2, none⟩ (.int .u64 (W64 p2))) = w3 at *
      have HA := Lib.hid (show w3.heap[w.heap.size]? = some (.cells #[.int .u64 (W64 q0), .int .u64 (W64 p1), .int .u64 (W64 p2), .int .u64 (W64 a3)] 77 (0, 0)) from hs1)
      have HN := Lib.hid hn1
      clear hs1 hn1 hw
      refine Gro3.wp_region_gro3S (fun w' => (∃ u0 u1 u2 u3 : Value, w'.heap[w.heap.size]? = some (.cells #[u0, u1, u2, u3] 77 (0, 0))) ∧ w'.heap[w.heap.size + 1]? = some (.cells #[.int .u64 0, .int .u64 0, .int .u64 0, .int .u64 0] 77 (0, 0)) ∧ New w w') (fun w' => w'.heap[w.heap.size]? = some (.cells #[.int .u64 (W64 q0), .int .u64 (W64 p1), .int .u64 (W64 p2), .int .u64 (W64 a3)] 77 (0, 0)) ∧ w'.heap[w.heap.size + 1]? = some (.cells #[.int .u64 0, .int .u64 0, .int .u64 0, .int .u64 0] 77 (0, 0)) ∧ New w w') [0,1,2,0,1,0,0,3] New (fun _ _ _ => True) (by kernel_rfl) (by kernel_rfl) (by kernel_rfl) (fun _ _ _ _ _ _ => trivial) (fun w' hw' => ⟨⟨_, _, _, _, hw'.1⟩, hw'.2⟩) (⟨HA.out, HO.out, HN.out.drew⟩) ?_
      intro I J _ _ f g hfa hba hgb hbb
      have HFA := Lib.hid hfa
      have HBA := Lib.hid hba
      have HGB := Lib.hid hgb
      have HBB := Lib.hid hbb
      have fa := fun n => cell_of_row _ _ 3 _ _ _ (hgb n).1
      have fb := fun n => cell_of_row _ _ 2 _ _ _ (hgb n).1
      clear hfa hba hgb hbb
      refine Gro3.take0 1 (by kernel_rfl) ?_
      simp only [List.take, List.drop, List.length]
      repeat (go_big_quiet_step (fail))
      refine wpQuiet_nil ?_
      refine Gro3.take1 1 (by kernel_rfl) ?_
      simp only [List.take, List.drop, List.length]
      repeat (go_big_quiet_step (fail))
      refine wpQuiet_nil ?_
      refine Gro3.callt (fun v => v = .int .u64 (W64 r3)) (fun _ _ => True) rfl rfl (⟨_, rfl⟩) (fun _ _ _ _ _ => trivial) (fun w1 hB hG => ?_) (fun v1 A1 hv1 hA => ?_)
      · obtain ⟨nq, rfl⟩ := hB
        clear fa fb
        go_simp
        refine (HR3.out _).mono ?_
        rintro e w2 ⟨rfl, rfl⟩
        first | exact ⟨_, rfl, ⟨nq, rfl⟩, New.refl _, rfl⟩ | exact ⟨_, rfl, ⟨nq, rfl⟩, New.refl _, rfl, trivial⟩ | exact ⟨⟨nq, rfl⟩, New.refl _⟩
      simp [Act.put] at hA
      subst hA
      obtain rfl := hv1
      refine Gro3.take0 1 (by kernel_rfl) ?_
      simp only [List.take, List.drop, List.length]
      repeat (go_big_quiet_step (fail))
      refine wpQuiet_nil ?_
      refine Gro3.take1 1 (by kernel_rfl) ?_
      simp only [List.take, List.drop, List.length]
      repeat (go_big_quiet_step (fail))
      refine wpQuiet_nil ?_
      have hv := HP3.out
      refine Gro3.take0 2 (by kernel_rfl) ?_
      simp only [List.take, List.drop, List.length]
      repeat (go_big_quiet_step (fail))
      refine wpQuiet_nil ?_
      clear hv
      refine Gro3.turn (fun v => v = undef) (fun _ w9 => Lies w9 w.heap.size (.cells #[.int .u64 (W64 q0), .int .u64 (W64 p1), .int .u64 (W64 p2), .int .u64 (W64 p3)] 77 (0, 0))) rfl rfl ⟨_, rfl⟩ (fun w1 hB hG => ?_) (fun v2 A2 hv2 hA => ?_)
      · obtain ⟨nq, rfl⟩ : ∃ nq, w1 = g nq := hB
        have HX := Lib.hid (HGB.out nq)
        have c0 := cell_of_row _ _ 3 _ _ _ HX.out.1
        have cf := fun i => frozen_of_row _ _ i _ _ HX.out.1
        have h0 := heap_setCell_same _ w.heap.size 3 _ _ (.int .u64 (W64 p3)) HX.out.1
        have HLI := Lib.hid (show Lies _ _ _ from h0)
        have HOT := Lib.hid (heap_setCell_other (g nq) ⟨w.heap.size, 3, none⟩ (w.heap.size + 1) (.int .u64 (W64 p3)) (by show w.heap.size + 1 ≠ w.heap.size; omega))
        clear h0 fa fb
        go_simp
        exact ⟨HBA.out _ ⟨⟨_, _, _, _, HLI.out⟩, HOT.out.trans HX.out.2.1, HX.out.2.2.setCell (Nat.le_refl _) _⟩, HLI.out⟩
      simp [Act.put] at hA
      subst hA
      refine Gro3.nil ?_
      rintro w11 ⟨n9, rfl⟩ hG
      have hF := HFA.out n9
      replace HA := Lib.hid (show (f n9).heap[w.heap.size]? = _ from hG)
      replace HO := Lib.hid hF.2.1
      replace HN := Lib.hid hF.2.2
      clear HFA HBA HGB HBB hG hF fa fb HP3 HR3
      generalize f n9 = w4 at *
      have c0 := cell_of_row _ _ 0 _ _ _ HA.out
      have c1 := cell_of_row _ _ 1 _ _ _ HA.out
      have c2 := cell_of_row _ _ 2 _ _ _ HA.out
      have c3 := cell_of_row _ _ 3 _ _ _ HA.out
      have cf := fun i => frozen_of_row _ _ i _ _ HA.out
      have hv := HE0.out
      go_wp2_with fail
      clear hv c0 c1 c2 c3 cf HE0
      have hs0 := heap_setCell_same w4 w.heap.size 0 _ _ (.int .u64 (W64 e0)) HA.out
      have ho0 := heap_setCell_other w4 ⟨w.heap.size, 0, none⟩ (w.heap.size + 1) (.int .u64 (W64 e0)) (by show w.heap.size + 1 ≠ w.heap.size; omega)
      have hn0 := HN.out.setCell (p := ⟨w.heap.size, 0, none⟩) (Nat.le_refl _) (.int .u64 (W64 e0))
      replace HO := Lib.hid (ho0.trans HO.out)
      clear HA HN ho0 
      generalize hw : (World.setCell w4 ⟨w.heap.size, 0, none⟩ (.int .u64 (W64 e0))) = w5 at *
      have HA := Lib.hid (show w5.heap[w.heap.size]? = some (.cells #[.int .u64 (W64 e0), .int .u64 (W64 p1), .int .u64 (W64 p2), .int .u64 (W64 p3)] 77 (0, 0)) from hs0)
      have HN := Lib.hid hn0
      clear hs0 hn0 hw
      refine Gro3.wp_region_gro3S (fun w' => (∃ u0 u1 u2 u3 : Value, w'.heap[w.heap.size]? = some (.cells #[u0, u1, u2, u3] 77 (0, 0))) ∧ w'.heap[w.heap.size + 1]? = some (.cells #[.int .u64 0, .int .u64 0, .int .u64 0, .int .u64 0] 77 (0, 0)) ∧ New w w') (fun w' => w'.heap[w.heap.size]? = some (.cells #[.int .u64 (W64 e0), .int .u64 (W64 p1), .int .u64 (W64 p2), .int .u64 (W64 p3)] 77 (0, 0)) ∧ w'.heap[w.heap.size + 1]? = some (.cells #[.int .u64 0, .int .u64 0, .int .u64 0, .int .u64 0] 77 (0, 0)) ∧ New w w') [0,1,2,0,1,0,0,3] New (fun _ _ _ => True) (by kernel_rfl) (by kernel_rfl) (by kernel_rfl) (fun _ _ _ _ _ _ => trivial) (fun w' hw' => ⟨⟨_, _, _, _, hw'.1⟩, hw'.2⟩) (⟨HA.out, HO.out, HN.out.drew⟩) ?_
      intro I J _ _ f g hfa hba hgb hbb
      have HFA := Lib.hid hfa
      have HBA := Lib.hid hba
      have HGB := Lib.hid hgb
      have HBB := Lib.hid hbb
      have fa := fun n => cell_of_row _ _ 3 _ _ _ (hgb n).1
      have fb := fun n => cell_of_row _ _ 0 _ _ _ (hgb n).1
      clear hfa hba hgb hbb
      refine Gro3.take0 1 (by kernel_rfl) ?_
      simp only [List.take, List.drop, List.length]
      repeat (go_big_quiet_step (fail))
      refine wpQuiet_nil ?_
      refine Gro3.take1 1 (by kernel_rfl) ?_
      simp only [List.take, List.drop, List.length]
      repeat (go_big_quiet_step (fail))
      refine wpQuiet_nil ?_
      refine Gro3.callt (fun v => v = .int .u64 (W64 r4)) (fun _ _ => True) rfl rfl (⟨_, rfl⟩) (fun _ _ _ _ _ => trivial) (fun w1 hB hG => ?_) (fun v1 A1 hv1 hA => ?_)
      · obtain ⟨nq, rfl⟩ := hB
        clear fa fb
        go_simp
        refine (HR4.out _).mono ?_
        rintro e w2 ⟨rfl, rfl⟩
        first | exact ⟨_, rfl, ⟨nq, rfl⟩, New.refl _, rfl⟩ | exact ⟨_, rfl, ⟨nq, rfl⟩, New.refl _, rfl, trivial⟩ | exact ⟨⟨nq, rfl⟩, New.refl _⟩
      simp [Act.put] at hA
      subst hA
      obtain rfl := hv1
      refine Gro3.take0 1 (by kernel_rfl) ?_
      simp only [List.take, List.drop, List.length]
      repeat (go_big_quiet_step (fail))
      refine wpQuiet_nil ?_
      refine Gro3.take1 1 (by kernel_rfl) ?_
      simp only [List.take, List.drop, List.length]
      repeat (go_big_quiet_step (fail))
      refine wpQuiet_nil ?_
      have hv := HE3.out
      refine Gro3.take0 2 (by kernel_rfl) ?_
      simp only [List.take, List.drop, List.length]
      repeat (go_big_quiet_step (fail))
      refine wpQuiet_nil ?_
      clear hv
      refine Gro3.turn (fun v => v = undef) (fun _ w9 => Lies w9 w.heap.size (.cells #[.int .u64 (W64 e0), .int .u64 (W64 p1), .int .u64 (W64 p2), .int .u64 (W64 e3)] 77 (0, 0))) rfl rfl ⟨_, rfl⟩ (fun w1 hB hG => ?_) (fun v2 A2 hv2 hA => ?_)
      · obtain ⟨nq, rfl⟩ : ∃ nq, w1 = g nq := hB
        have HX := Lib.hid (HGB.out nq)
        have c0 := cell_of_row _ _ 3 _ _ _ HX.out.1
        have cf := fun i => frozen_of_row _ _ i _ _ HX.out.1
        have h0 := heap_setCell_same _ w.heap.size 3 _ _ (.int .u64 (W64 e3)) HX.out.1
        have HLI := Lib.hid (show Lies _ _ _ from h0)
        have HOT := Lib.hid (heap_setCell_other (g nq) ⟨w.heap.size, 3, none⟩ (w.heap.size + 1) (.int .u64 (W64 e3)) (by show w.heap.size + 1 ≠ w.heap.size; omega))
        clear h0 fa fb
        go_simp
        exact ⟨HBA.out _ ⟨⟨_, _, _, _, HLI.out⟩, HOT.out.trans HX.out.2.1, HX.out.2.2.setCell (Nat.le_refl _) _⟩, HLI.out⟩
      simp [Act.put] at hA
      subst hA
      refine Gro3.nil ?_
      rintro w11 ⟨n9, rfl⟩ hG
      have hF := HFA.out n9
      replace HA := Lib.hid (show (f n9).heap[w.heap.size]? = _ from hG)
      replace HO := Lib.hid hF.2.1
      replace HN := Lib.hid hF.2.2
      clear HFA HBA HGB HBB hG hF fa fb HE3 HR4
      generalize f n9 = w6 at *
      have c0 := cell_of_row _ _ 0 _ _ _ HA.out
      have c1 := cell_of_row _ _ 1 _ _ _ HA.out
      have c2 := cell_of_row _ _ 2 _ _ _ HA.out
      have c3 := cell_of_row _ _ 3 _ _ _ HA.out
      have cf := fun i => frozen_of_row _ _ i _ _ HA.out
      have hv := HF2.out
      go_wp2_with fail
      clear hv c0 c1 c2 c3 cf HF2
      have hs0 := heap_setCell_same w6 w.heap.size 2 _ _ (.int .u64 (W64 f2)) HA.out
      have ho0 := heap_setCell_other w6 ⟨w.heap.size, 2, none⟩ (w.heap.size + 1) (.int .u64 (W64 f2)) (by show w.heap.size + 1 ≠ w.heap.size; omega)
      have hn0 := HN.out.setCell (p := ⟨w.heap.size, 2, none⟩) (Nat.le_refl _) (.int .u64 (W64 f2))
      replace HO := Lib.hid (ho0.trans HO.out)
      clear HA HN ho0 
      generalize hw : (World.setCell w6 ⟨w.heap.size, 2, none⟩ (.int .u64 (W64 f2))) = w7 at *
      have HA := Lib.hid (show w7.heap[w.heap.size]? = some (.cells #[.int .u64 (W64 e0), .int .u64 (W64 p1), .int .u64 (W64 f2), .int .u64 (W64 e3)] 77 (0, 0)) from hs0)
      have HN := Lib.hid hn0
      clear hs0 hn0 hw
      refine Gro3.wp_region_gro3S (fun w' => (∃ u0 u1 u2 u3 : Value, w'.heap[w.heap.size]? = some (.cells #[u0, u1, u2, u3] 77 (0, 0))) ∧ w'.heap[w.heap.size + 1]? = some (.cells #[.int .u64 0, .int .u64 0, .int .u64 0, .int .u64 0] 77 (0, 0)) ∧ New w w') (fun w' => w'.heap[w.heap.size]? = some (.cells #[.int .u64 (W64 e0), .int .u64 (W64 p1), .int .u64 (W64 f2), .int .u64 (W64 e3)] 77 (0, 0)) ∧ w'.heap[w.heap.size + 1]? = some (.cells #[.int .u64 0, .int .u64 0, .int .u64 0, .int .u64 0] 77 (0, 0)) ∧ New w w') [0,1,2,0,1,0,0,3] New (fun _ _ _ => True) (by kernel_rfl) (by kernel_rfl) (by kernel_rfl) (fun _ _ _ _ _ _ => trivial) (fun w' hw' => ⟨⟨_, _, _, _, hw'.1⟩, hw'.2⟩) (⟨HA.out, HO.out, HN.out.drew⟩) ?_
      intro I J _ _ f g hfa hba hgb hbb
      have HFA := Lib.hid hfa
      have HBA := Lib.hid hba
      have HGB := Lib.hid hgb
      have HBB := Lib.hid hbb
      have fa := fun n => cell_of_row _ _ 1 _ _ _ (hgb n).1
      have fb := fun n => cell_of_row _ _ 2 _ _ _ (hgb n).1
      clear hfa hba hgb hbb
      refine Gro3.take0 1 (by kernel_rfl) ?_
      simp only [List.take, List.drop, List.length]
      repeat (go_big_quiet_step (fail))
      refine wpQuiet_nil ?_
      refine Gro3.take1 1 (by kernel_rfl) ?_
      simp only [List.take, List.drop, List.length]
      repeat (go_big_quiet_step (fail))
      refine wpQuiet_nil ?_
      refine Gro3.callt (fun v => v = .int .u64 (W64 r5)) (fun _ _ => True) rfl rfl (⟨_, rfl⟩) (fun _ _ _ _ _ => trivial) (fun w1 hB hG => ?_) (fun v1 A1 hv1 hA => ?_)
      · obtain ⟨nq, rfl⟩ := hB
        clear fa fb
        go_simp
        refine (HR5.out _).mono ?_
        rintro e w2 ⟨rfl, rfl⟩
        first | exact ⟨_, rfl, ⟨nq, rfl⟩, New.refl _, rfl⟩ | exact ⟨_, rfl, ⟨nq, rfl⟩, New.refl _, rfl, trivial⟩ | exact ⟨⟨nq, rfl⟩, New.refl _⟩
      simp [Act.put] at hA
      subst hA
      obtain rfl := hv1
      refine Gro3.take0 1 (by kernel_rfl) ?_
      simp only [List.take, List.drop, List.length]
      repeat (go_big_quiet_step (fail))
      refine wpQuiet_nil ?_
      refine Gro3.take1 1 (by kernel_rfl) ?_
      simp only [List.take, List.drop, List.length]
      repeat (go_big_quiet_step (fail))
      refine wpQuiet_nil ?_
      have hv := HE1.out
      refine Gro3.take0 2 (by kernel_rfl) ?_
      simp only [List.take, List.drop, List.length]
      repeat (go_big_quiet_step (fail))
      refine wpQuiet_nil ?_
      clear hv
      refine Gro3.turn (fun v => v = undef) (fun _ w9 => Lies w9 w.heap.size (.cells #[.int .u64 (W64 e0), .int .u64 (W64 e1), .int .u64 (W64 f2), .int .u64 (W64 e3)] 77 (0, 0))) rfl rfl ⟨_, rfl⟩ (fun w1 hB hG => ?_) (fun v2 A2 hv2 hA => ?_)
      · obtain ⟨nq, rfl⟩ : ∃ nq, w1 = g nq := hB
        have HX := Lib.hid (HGB.out nq)
        have c0 := cell_of_row _ _ 1 _ _ _ HX.out.1
        have cf := fun i => frozen_of_row _ _ i _ _ HX.out.1
        have h0 := heap_setCell_same _ w.heap.size 1 _ _ (.int .u64 (W64 e1)) HX.out.1
        have HLI := Lib.hid (show Lies _ _ _ from h0)
        have HOT := Lib.hid (heap_setCell_other (g nq) ⟨w.heap.size, 1, none⟩ (w.heap.size + 1) (.int .u64 (W64 e1)) (by show w.heap.size + 1 ≠ w.heap.size; omega))
        clear h0 fa fb
        go_simp
        exact ⟨HBA.out _ ⟨⟨_, _, _, _, HLI.out⟩, HOT.out.trans HX.out.2.1, HX.out.2.2.setCell (Nat.le_refl _) _⟩, HLI.out⟩
      simp [Act.put] at hA
      subst hA
      refine Gro3.nil ?_
      rintro w11 ⟨n9, rfl⟩ hG
      have hF := HFA.out n9
      replace HA := Lib.hid (show (f n9).heap[w.heap.size]? = _ from hG)
      replace HO := Lib.hid hF.2.1
      replace HN := Lib.hid hF.2.2
      clear HFA HBA HGB HBB hG hF fa fb HE1 HR5
      generalize f n9 = w8 at *
      have c0 := cell_of_row _ _ 0 _ _ _ HA.out
      have c1 := cell_of_row _ _ 1 _ _ _ HA.out
      have c2 := cell_of_row _ _ 2 _ _ _ HA.out
      have c3 := cell_of_row _ _ 3 _ _ _ HA.out
      have cf := fun i => frozen_of_row _ _ i _ _ HA.out
      go_wp2_with fail
      refine (HR6.out _).mono ?_
      rintro e w9 ⟨rfl, hw9⟩
      replace hw9 := hw9.symm
      subst hw9
      go_wp2
      refine ⟨⟨k + 1, by omega, by go_num, ?_, ?_, HN.out.setCell (Nat.le_refl _) _⟩, by simp [intOf]; omega⟩
      · rw [HONE.out]; exact heap_setCell_same _ w.heap.size 2 _ _ (.int .u64 (W64 e2)) HA.out
      · rw [heap_setCell_other _ _ _ _ (by show w.heap.size + 1 ≠ w.heap.size; omega)]; exact HO.out
    · obtain rfl : k = n := by omega
      clear HSU
      have z0 := cell_of_row _ _ 0 _ _ _ HO.out
      have z1 := cell_of_row _ _ 1 _ _ _ HO.out
      have z2 := cell_of_row _ _ 2 _ _ _ HO.out
      have z3 := cell_of_row _ _ 3 _ _ _ HO.out
      have c0 := cell_of_row _ _ 0 _ _ _ HA.out
      have c1 := cell_of_row _ _ 1 _ _ _ HA.out
      have c2 := cell_of_row _ _ 2 _ _ _ HA.out
      have c3 := cell_of_row _ _ 3 _ _ _ HA.out
      have zf := fun i => frozen_of_row _ _ i _ _ HO.out
      go_wp2
      refine bodyPost_ret (by simp [results, Tryz.results92, go_sem, z0, z1, z2, z3]; try rfl) rfl ?_
      rw [HCUR.out]
      exact ⟨rfl, ((((HN.out.setCell (by show w.heap.size ≤ w.heap.size + 1; omega) _).setCell (by show w.heap.size ≤ w.heap.size + 1; omega) _).setCell (by show w.heap.size ≤ w.heap.size + 1; omega) _).setCell (by show w.heap.size ≤ w.heap.size + 1; omega) _)⟩
end Go.Proofs.YtoplabhoedloeaaGreat
end
section
/- Equality of results and lanes of hashes. -/
namespace Go.Bv
open Go Go.RowKit
theorem put4h {w : World} {q : Nat} {u0 u1 u2 u3 : Value} {T : TypeId} (v0 v1 v2 v3 : Value) (h : w.heap[q]? = some (.cells #[u0, u1, u2, u3] T (0, 0))) :
    ((((((((w).setCell ⟨q, 0, none⟩ v0)).setCell ⟨q, 1, none⟩ v1)).setCell ⟨q, 2, none⟩ v2)).setCell ⟨q, 3, none⟩ v3).heap[q]? = some (.cells #[v0, v1, v2, v3] T (0, 0)) ∧ (∀ j, j ≠ q → ((((((((w).setCell ⟨q, 0, none⟩ v0)).setCell ⟨q, 1, none⟩ v1)).setCell ⟨q, 2, none⟩ v2)).setCell ⟨q, 3, none⟩ v3).heap[j]? = w.heap[j]?) ∧ (∀ W : World, New W w → W.heap.size ≤ q → New W ((((((((w).setCell ⟨q, 0, none⟩ v0)).setCell ⟨q, 1, none⟩ v1)).setCell ⟨q, 2, none⟩ v2)).setCell ⟨q, 3, none⟩ v3)) := by
  refine ⟨?_, fun j hj => ?_, fun W hn hq => ?_⟩
  · have h0 := heap_setCell_same w q 0 _ _ v0 h
    have h1 := heap_setCell_same _ q 1 _ _ v1 h0
    have h2 := heap_setCell_same _ q 2 _ _ v2 h1
    have h3 := heap_setCell_same _ q 3 _ _ v3 h2
    exact h3
  · rw [heap_setCell_other _ _ _ _ hj, heap_setCell_other _ _ _ _ hj, heap_setCell_other _ _ _ _ hj, heap_setCell_other _ _ _ _ hj]
  · exact (((hn.setCell (by exact hq) _).setCell (by exact hq) _).setCell (by exact hq) _).setCell (by exact hq) _
end Go.Bv
namespace Go.Proofs.YtoplabhoedloeaaGreat
open Go.RowKit Go.Bv
set_option linter.unusedVariables false
theorem info4h : (Tryz.prog.info? 22).isSome = true := by kernel_rfl
theorem plain4h : Tryz.prog.plainKey 22 = true := by kernel_rfl
theorem cells4h : Tryz.prog.cellsOf 22 = 1 := by kernel_rfl
theorem eq4h (w : World) (x0 x1 x2 x3 y0 y1 y2 y3 : BitVec 64) :
    (Op.equalIn 10000 26 (.agg #[.int .u64 (W64 x0), .int .u64 (W64 x1), .int .u64 (W64 x2), .int .u64 (W64 x3)]) (.agg #[.int .u64 (W64 y0), .int .u64 (W64 y1), .int .u64 (W64 y2), .int .u64 (W64 y3)])).run Tryz.prog w =
      .ok (x0 == y0 && (x1 == y1 && (x2 == y2 && x3 == y3))) w := by
  obtain ⟨i, hi⟩ := Option.isSome_iff_exists.1 info4h
  rw [run_equalIn_array w 9999 _ _ Tryz.underlying26 hi, cells4h, show List.range 4 = [0, 1, 2, 3] from rfl]
  have hu := Tryz.underlying22
  have e0 := run_part_plain (w := w) (v := .int .u64 (W64 x0)) plain4h (xs := #[.int .u64 (W64 x0), .int .u64 (W64 x1), .int .u64 (W64 x2), .int .u64 (W64 x3)]) (off := 0) rfl
  have e1 := run_part_plain (w := w) (v := .int .u64 (W64 x1)) plain4h (xs := #[.int .u64 (W64 x0), .int .u64 (W64 x1), .int .u64 (W64 x2), .int .u64 (W64 x3)]) (off := 1) rfl
  have e2 := run_part_plain (w := w) (v := .int .u64 (W64 x2)) plain4h (xs := #[.int .u64 (W64 x0), .int .u64 (W64 x1), .int .u64 (W64 x2), .int .u64 (W64 x3)]) (off := 2) rfl
  have e3 := run_part_plain (w := w) (v := .int .u64 (W64 x3)) plain4h (xs := #[.int .u64 (W64 x0), .int .u64 (W64 x1), .int .u64 (W64 x2), .int .u64 (W64 x3)]) (off := 3) rfl
  have f0 := run_part_plain (w := w) (v := .int .u64 (W64 y0)) plain4h (xs := #[.int .u64 (W64 y0), .int .u64 (W64 y1), .int .u64 (W64 y2), .int .u64 (W64 y3)]) (off := 0) rfl
  have f1 := run_part_plain (w := w) (v := .int .u64 (W64 y1)) plain4h (xs := #[.int .u64 (W64 y0), .int .u64 (W64 y1), .int .u64 (W64 y2), .int .u64 (W64 y3)]) (off := 1) rfl
  have f2 := run_part_plain (w := w) (v := .int .u64 (W64 y2)) plain4h (xs := #[.int .u64 (W64 y0), .int .u64 (W64 y1), .int .u64 (W64 y2), .int .u64 (W64 y3)]) (off := 2) rfl
  have f3 := run_part_plain (w := w) (v := .int .u64 (W64 y3)) plain4h (xs := #[.int .u64 (W64 y0), .int .u64 (W64 y1), .int .u64 (W64 y2), .int .u64 (W64 y3)]) (off := 3) rfl
  have g0 := run_equalIn_int (w := w) 9998 _ .u64 .u64 (W64 x0) (W64 y0) hu
  have g1 := run_equalIn_int (w := w) 9998 _ .u64 .u64 (W64 x1) (W64 y1) hu
  have g2 := run_equalIn_int (w := w) 9998 _ .u64 .u64 (W64 x2) (W64 y2) hu
  have g3 := run_equalIn_int (w := w) 9998 _ .u64 .u64 (W64 x3) (W64 y3) hu
  rw [eq_u64] at g0 g1 g2 g3
  simp only [Op.eqItems, Sem.run_bind, Nat.mul_one, e0, f0, g0, Result.andThen_ok]
  rcases h0 : x0 == y0 <;> rcases h1 : x1 == y1 <;> rcases h2 : x2 == y2 <;> rcases h3 : x3 == y3 <;> rw [h1] at g1 <;> rw [h2] at g2 <;> rw [h3] at g3 <;> simp [Sem.run_bind, e1, e2, e3, f1, f2, f3, g1, g2, g3]
theorem plainUh : Tryz.prog.plainKey 22 = true := by kernel_rfl
theorem fieldsUh : ((Tryz.prog.fieldsOf 24).toList.map fun f => (f.type, f.offset, decide (f.name = "_"))) = [(22, 0, false), (22, 1, false)] := by kernel_rfl
theorem eqUh (w : World) (x1 y1 x0 y0 : BitVec 64) :
    (Op.equalIn 10000 24 (.agg #[.int .u64 (W64 x1), .int .u64 (W64 x0)]) (.agg #[.int .u64 (W64 y1), .int .u64 (W64 y0)])).run Tryz.prog w = .ok (x1 == y1 && x0 == y0) w := by
  have hu := Tryz.underlying22
  have g1 := run_equalIn_int (w := w) 9998 _ .u64 .u64 (W64 x1) (W64 y1) hu
  have g0 := run_equalIn_int (w := w) 9998 _ .u64 .u64 (W64 x0) (W64 y0) hu
  rw [eq_u64] at g1 g0
  have e1 := run_part_plain (w := w) (v := .int .u64 (W64 x1)) plainUh (xs := #[.int .u64 (W64 x1), .int .u64 (W64 x0)]) (off := 0) rfl
  have e0 := run_part_plain (w := w) (v := .int .u64 (W64 x0)) plainUh (xs := #[.int .u64 (W64 x1), .int .u64 (W64 x0)]) (off := 1) rfl
  have f1 := run_part_plain (w := w) (v := .int .u64 (W64 y1)) plainUh (xs := #[.int .u64 (W64 y1), .int .u64 (W64 y0)]) (off := 0) rfl
  have f0 := run_part_plain (w := w) (v := .int .u64 (W64 y0)) plainUh (xs := #[.int .u64 (W64 y1), .int .u64 (W64 y0)]) (off := 1) rfl
  rw [run_equalIn_struct w 9999 _ _ _ (by kernel_rfl) (by kernel_rfl)]
  have hfs := fieldsUh
  generalize (Tryz.prog.fieldsOf 24).toList = fs at hfs
  obtain ⟨a, l1, rfl, ha, h1⟩ := List.map_eq_cons_iff.1 hfs
  obtain ⟨b, l2, rfl, hb, h2⟩ := List.map_eq_cons_iff.1 h1
  obtain rfl := List.map_eq_nil_iff.1 h2
  simp only [Prod.mk.injEq, decide_eq_false_iff_not] at ha hb
  obtain ⟨t1, o1, n1⟩ := ha
  obtain ⟨t2, o2, n2⟩ := hb
  simp only [Op.eqFields, t1, o1, n1, t2, o2, n2, ne_eq, not_false_eq_true, if_true, Sem.run_bind, e1, f1, g1, Result.andThen_ok]
  rcases h1 : x1 == y1 <;> rcases h0 : x0 == y0 <;> rw [h0] at g0 <;> simp [Sem.run_bind, e0, f0, g0]
theorem eqUs (w : World) (x1 x0 : BitVec 64) : (Op.equalIn 10000 24 (.agg #[.int .u64 (W64 x1), .int .u64 (W64 x0)]) (.agg #[.int .u64 (W64 x1), .int .u64 (W64 x0)])).run Tryz.prog w = .ok true w := by
  have h := eqUh w x1 x1 x0 x0
  simpa using h
theorem eqUz (w : World) : (Op.equalIn 10000 24 (.agg #[.int .u64 0, .int .u64 0]) (.agg #[.int .u64 0, .int .u64 0])).run Tryz.prog w = .ok true w := by
  have h := eqUs w 0#64 0#64
  rwa [show W64 0#64 = 0 by decide] at h
theorem eq4s (w : World) (x0 x1 x2 x3 : BitVec 64) : (Op.equalIn 10000 26 (.agg #[.int .u64 (W64 x0), .int .u64 (W64 x1), .int .u64 (W64 x2), .int .u64 (W64 x3)]) (.agg #[.int .u64 (W64 x0), .int .u64 (W64 x1), .int .u64 (W64 x2), .int .u64 (W64 x3)])).run Tryz.prog w = .ok true w := by
  have h := eq4h w x0 x1 x2 x3 x0 x1 x2 x3
  simpa using h
theorem eq4zz (w : World) : (Op.equalIn 10000 26 (.agg #[.int .u64 0, .int .u64 0, .int .u64 0, .int .u64 0]) (.agg #[.int .u64 0, .int .u64 0, .int .u64 0, .int .u64 0])).run Tryz.prog w = .ok true w := by
  have h := eq4s w 0#64 0#64 0#64 0#64
  rwa [show W64 0#64 = 0 by decide] at h
/-- two words, and zeros, against four words -/
theorem eq4p (w : World) (x0 x1 x2 x3 y0 y1 : BitVec 64) : (Op.equalIn 10000 26 (.agg #[.int .u64 (W64 x0), .int .u64 (W64 x1), .int .u64 (W64 x2), .int .u64 (W64 x3)]) (.agg #[.int .u64 (W64 y0), .int .u64 (W64 y1), .int .u64 0, .int .u64 0])).run Tryz.prog w = .ok (x0 == y0 && (x1 == y1 && (x2 == 0#64 && x3 == 0#64))) w := by
  have h := eq4h w x0 x1 x2 x3 y0 y1 0#64 0#64
  rwa [show W64 0#64 = 0 by decide] at h
theorem eq4q (w : World) (x0 x1 : BitVec 64) : (Op.equalIn 10000 26 (.agg #[.int .u64 (W64 x0), .int .u64 (W64 x1), .int .u64 0, .int .u64 0]) (.agg #[.int .u64 (W64 x0), .int .u64 (W64 x1), .int .u64 0, .int .u64 0])).run Tryz.prog w = .ok true w := by
  have h := eq4s w x0 x1 0#64 0#64
  rwa [show W64 0#64 = 0 by decide] at h
end Go.Proofs.YtoplabhoedloeaaGreat
end
section
/- Layer 34: word, a block, start, what a kind is. -/
namespace Go.Proofs.YtoplabhoedloeaaGreat
open Go.RowKit Go.Bv
set_option linter.unusedVariables false
theorem three_all34 (w : World) (A B C : Obj) : (((w.alloc A).alloc B).alloc C).heap[w.heap.size]? = some A ∧ (((w.alloc A).alloc B).alloc C).heap[w.heap.size + 1]? = some B ∧ (((w.alloc A).alloc B).alloc C).heap[w.heap.size + 1 + 1]? = some C ∧ New w (((w.alloc A).alloc B).alloc C) := by
  have h := two_blocksD w A B
  have e2 : ((w.alloc A).alloc B).heap.size = w.heap.size + 1 + 1 := by simp
  refine ⟨?_, ?_, ?_, h.2.2.alloc _⟩
  · rw [((New.refl ((w.alloc A).alloc B)).alloc C).block _ (by rw [e2]; omega)]; exact h.1
  · rw [((New.refl ((w.alloc A).alloc B)).alloc C).block _ (by rw [e2]; omega)]; exact h.2.1
  · rw [← e2]; exact heap_alloc_new _ _
theorem joined_34s (s : BitVec 64 × BitVec 64 × BitVec 64 × BitVec 64) (w : World) : Calls Tryz.prog 91 #[.agg #[.int .u64 (W64 (s.1)), .int .u64 (W64 (s.2.1)), .int .u64 (W64 (s.2.2.1)), .int .u64 (W64 (s.2.2.2))]] w fun e w' => e = .returned (.int .u64 (W64 (xor34 s))) ∧ New w w' := by
  unfold xor34
  go_enter Tryz.func91, Tryz.ntmps91
  go_wp2
  go_ret
  exact ⟨rfl, (New.refl w).alloc _⟩
set_option maxRecDepth 100000 in
set_option maxHeartbeats 4000000 in
theorem word_34s (kd : Nat × Nat × Bool) (hk : kd.1 ≤ 100) (s : BitVec 64 × BitVec 64 × BitVec 64 × BitVec 64) (m : BitVec 64) (w : World) : Calls Tryz.prog 89 #[(.agg #[.int .i64 (kd.1 : Nat), .int .i64 (kd.2.1 : Nat), .bool kd.2.2]), .agg #[.int .u64 (W64 (s.1)), .int .u64 (W64 (s.2.1)), .int .u64 (W64 (s.2.2.1)), .int .u64 (W64 (s.2.2.2))], .int .u64 (W64 m)] w fun e w' => e = .returned (.agg #[.int .u64 (W64 ((word34 kd.1 s m).1)), .int .u64 (W64 ((word34 kd.1 s m).2.1)), .int .u64 (W64 ((word34 kd.1 s m).2.2.1)), .int .u64 (W64 ((word34 kd.1 s m).2.2.2))]) ∧ New w w' := by
  obtain ⟨s0, s1, s2, s3⟩ := s
  unfold word34 lst34 fst34
  simp only
  have HR := Lib.hid (rounds_34s (s0, s1, s2, s3 ^^^ m) kd.1 hk)
  obtain ⟨⟨t0, t1, t2, t3⟩, ht⟩ : ∃ z, itr34 kd.1 (s0, s1, s2, s3 ^^^ m) = z := ⟨_, rfl⟩
  rw [ht] at HR
  rw [ht]
  clear ht
  simp only
  have HZ := Lib.hid (three_all34 w (.cells #[.int .i64 (kd.1 : Nat), .int .i64 (kd.2.1 : Nat), .bool kd.2.2] 74) (.cells #[.int .u64 (W64 s0), .int .u64 (W64 s1), .int .u64 (W64 s2), .int .u64 (W64 (s3 ^^^ m))] 77) (.cells #[.int .u64 0, .int .u64 0, .int .u64 0, .int .u64 0] 77))
  go_enter Tryz.func89, Tryz.ntmps89
  go_wp2_with fail
  refine (HR.out _).mono ?_
  rintro e w9 ⟨rfl, hn⟩
  have HA := Lib.hid ((hn.block _ (lt_of_block HZ.out.2.1)).trans HZ.out.2.1)
  have HO := Lib.hid ((hn.block _ (lt_of_block HZ.out.2.2.1)).trans HZ.out.2.2.1)
  have HN := Lib.hid (HZ.out.2.2.2.trans hn)
  clear hn HZ HR
  have c0 := cell_of_row _ _ 0 _ _ _ HA.out
  have c1 := cell_of_row _ _ 1 _ _ _ HA.out
  have c2 := cell_of_row _ _ 2 _ _ _ HA.out
  have c3 := cell_of_row _ _ 3 _ _ _ HA.out
  have cf := fun i => frozen_of_row _ _ i _ _ HA.out
  go_simp
  first | go_skip | go_guarded | go_step | go_upon | go_in | go_back
  first | go_skip | go_guarded | go_step | go_upon | go_in | go_back
  first | go_skip | go_guarded | go_step | go_upon | go_in | go_back
  first | go_skip | go_guarded | go_step | go_upon | go_in | go_back
  first | go_skip | go_guarded | go_step | go_upon | go_in | go_back
  first | go_skip | go_guarded | go_step | go_upon | go_in | go_back
  first | go_skip | go_guarded | go_step | go_upon | go_in | go_back
  first | go_skip | go_guarded | go_step | go_upon | go_in | go_back
  have hp := put4h (.int .u64 (W64 t0)) (.int .u64 (W64 t1)) (.int .u64 (W64 t2)) (.int .u64 (W64 t3)) HA.out
  replace HO := Lib.hid ((hp.2.1 _ (by omega)).trans HO.out)
  replace HN := Lib.hid (hp.2.2 _ HN.out (by omega))
  have HA2 := Lib.hid hp.1
  clear hp HA c0 c1 c2 c3 cf
  generalize World.setCell (World.setCell (World.setCell (World.setCell w9 ⟨w.heap.size + 1, 0, none⟩ (.int .u64 (W64 t0))) ⟨w.heap.size + 1, 1, none⟩ (.int .u64 (W64 t1))) ⟨w.heap.size + 1, 2, none⟩ (.int .u64 (W64 t2))) ⟨w.heap.size + 1, 3, none⟩ (.int .u64 (W64 t3)) = w8 at *
  have c0 := cell_of_row _ _ 0 _ _ _ HA2.out
  have c1 := cell_of_row _ _ 1 _ _ _ HA2.out
  have c2 := cell_of_row _ _ 2 _ _ _ HA2.out
  have c3 := cell_of_row _ _ 3 _ _ _ HA2.out
  have cf := fun i => frozen_of_row _ _ i _ _ HA2.out
  first | go_skip | go_guarded | go_step | go_upon | go_in | go_back
  first | go_skip | go_guarded | go_step | go_upon | go_in | go_back
  first | go_skip | go_guarded | go_step | go_upon | go_in | go_back
  first | go_skip | go_guarded | go_step | go_upon | go_in | go_back
  first | go_skip | go_guarded | go_step | go_upon | go_in | go_back
  first | go_skip | go_guarded | go_step | go_upon | go_in | go_back
  first | go_skip | go_guarded | go_step | go_upon | go_in | go_back
  first | go_skip | go_guarded | go_step | go_upon | go_in | go_back
  first | go_skip | go_guarded | go_step | go_upon | go_in | go_back
  first | go_skip | go_guarded | go_step | go_upon | go_in | go_back
  first | go_skip | go_guarded | go_step | go_upon | go_in | go_back
  first | go_skip | go_guarded | go_step | go_upon | go_in | go_back
  first | go_skip | go_guarded | go_step | go_upon | go_in | go_back
  first | go_skip | go_guarded | go_step | go_upon | go_in | go_back
  first | go_skip | go_guarded | go_step | go_upon | go_in | go_back
  first | go_skip | go_guarded | go_step | go_upon | go_in | go_back
  first | go_skip | go_guarded | go_step | go_upon | go_in | go_back
  first | go_skip | go_guarded | go_step | go_upon | go_in | go_back
  replace HO := Lib.hid ((heap_setCell_other w8 ⟨w.heap.size + 1, 0, none⟩ (w.heap.size + 1 + 1) (.int .u64 (W64 (t0 ^^^ m))) (by show w.heap.size + 1 + 1 ≠ w.heap.size + 1; omega)).trans HO.out)
  replace HN := Lib.hid (HN.out.setCell (p := ⟨w.heap.size + 1, 0, none⟩) (by show w.heap.size ≤ w.heap.size + 1; omega) (.int .u64 (W64 (t0 ^^^ m))))
  have h3 := heap_setCell_same w8 (w.heap.size + 1) 0 _ _ (.int .u64 (W64 (t0 ^^^ m))) HA2.out
  clear c0 c1 c2 c3 cf HA2
  generalize World.setCell w8 ⟨w.heap.size + 1, 0, none⟩ (.int .u64 (W64 (t0 ^^^ m))) = w7 at *
  have HA3 := Lib.hid (show w7.heap[w.heap.size + 1]? = some (.cells #[.int .u64 (W64 (t0 ^^^ m)), .int .u64 (W64 t1), .int .u64 (W64 t2), .int .u64 (W64 t3)] 77 (0, 0)) from h3)
  clear h3
  have c0 := cell_of_row _ _ 0 _ _ _ HA3.out
  have c1 := cell_of_row _ _ 1 _ _ _ HA3.out
  have c2 := cell_of_row _ _ 2 _ _ _ HA3.out
  have c3 := cell_of_row _ _ 3 _ _ _ HA3.out
  have cf := fun i => frozen_of_row _ _ i _ _ HA3.out
  have z0 := cell_of_row _ _ 0 _ _ _ HO.out
  have z1 := cell_of_row _ _ 1 _ _ _ HO.out
  have z2 := cell_of_row _ _ 2 _ _ _ HO.out
  have z3 := cell_of_row _ _ 3 _ _ _ HO.out
  have zf := fun i => frozen_of_row _ _ i _ _ HO.out
  go_wp2
  refine bodyPost_ret (by simp [results, Tryz.results89, go_sem, z0, z1, z2, z3]; try rfl) rfl ?_
  exact ⟨rfl, ((((HN.out.setCell (by show w.heap.size ≤ w.heap.size + 1 + 1; omega) _).setCell (by show w.heap.size ≤ w.heap.size + 1 + 1; omega) _).setCell (by show w.heap.size ≤ w.heap.size + 1 + 1; omega) _).setCell (by show w.heap.size ≤ w.heap.size + 1 + 1; omega) _)⟩
theorem tail_first34 (l : List (BitVec 8)) (n : Nat) (h : l.length = n) : num (fun i => l.getD i 0) (min n 8) = rd l 0 8 := by
  have e : (fun i => l.getD i 0) = fun i => l.getD (0 + i) 0 := by funext i; rw [Nat.zero_add]
  unfold rd
  rw [e]
  refine (num_short (fun i => l.getD (0 + i) 0) (min n 8) 8 (by omega) (fun i h1 h2 => ?_)).symm
  · have : n ≤ i := by omega
    simp [List.getD_eq_getElem?_getD, List.getElem?_eq_none (show l.length ≤ i by omega)]
set_option maxRecDepth 100000 in
set_option maxHeartbeats 4000000 in
theorem step_34s (kd : Nat × Nat × Bool) (hk : kd.1 ≤ 100) (s : BitVec 64 × BitVec 64 × BitVec 64 × BitVec 64) (a : Option Addr) (cap : Nat) (l : List (BitVec 8)) (w : World) (h : BRow w a 8 cap l) : Calls Tryz.prog 36 #[(.agg #[.int .i64 (kd.1 : Nat), .int .i64 (kd.2.1 : Nat), .bool kd.2.2]), .agg #[.int .u64 (W64 (s.1)), .int .u64 (W64 (s.2.1)), .int .u64 (W64 (s.2.2.1)), .int .u64 (W64 (s.2.2.2))], .slice a 8 cap] w fun e w' => e = .returned (.agg #[.int .u64 (W64 ((stp34 kd s l).1)), .int .u64 (W64 ((stp34 kd s l).2.1)), .int .u64 (W64 ((stp34 kd s l).2.2.1)), .int .u64 (W64 ((stp34 kd s l).2.2.2))]) ∧ New w w' := by
  have HT := Lib.hid (fun w' (hn : New w w') => tail_any a 8 cap l w' (h.stay hn))
  rw [tail_first34 l 8 h.len_eq] at HT
  unfold stp34
  obtain ⟨kk, hkk⟩ : ∃ z, rd l 0 8 = z := ⟨_, rfl⟩
  rw [hkk] at HT
  rw [hkk]
  clear hkk h
  have HW := Lib.hid (word_34s kd hk s kk)
  obtain ⟨t, ht⟩ : ∃ z, word34 kd.1 s kk = z := ⟨_, rfl⟩
  rw [ht] at HW
  rw [ht]
  clear ht hk
  have HZ := Lib.hid (three_all34 w (.cells #[.int .i64 (kd.1 : Nat), .int .i64 (kd.2.1 : Nat), .bool kd.2.2] 74) (.cells #[.int .u64 (W64 (s.1)), .int .u64 (W64 (s.2.1)), .int .u64 (W64 (s.2.2.1)), .int .u64 (W64 (s.2.2.2))] 77) (.cells #[.int .u64 0, .int .u64 0, .int .u64 0, .int .u64 0] 77))
  go_enter Tryz.func36, Tryz.ntmps36
  go_wp2_with fail
  refine Gro3.wp_region_gro3S (fun w' => (∃ u0 u1 u2 u3 : Value, w'.heap[w.heap.size + 1 + 1]? = some (.cells #[u0, u1, u2, u3] 77 (0, 0))) ∧ New w w') (fun w' => w'.heap[w.heap.size]? = some (.cells #[.int .i64 (kd.1 : Nat), .int .i64 (kd.2.1 : Nat), .bool kd.2.2] 74 (0, 0)) ∧ w'.heap[w.heap.size + 1]? = some (.cells #[.int .u64 (W64 (s.1)), .int .u64 (W64 (s.2.1)), .int .u64 (W64 (s.2.2.1)), .int .u64 (W64 (s.2.2.2))] 77 (0, 0)) ∧ w'.heap[w.heap.size + 1 + 1]? = some (.cells #[.int .u64 0, .int .u64 0, .int .u64 0, .int .u64 0] 77 (0, 0)) ∧ New w w') [1,1,0,2,2,3] New (fun _ _ _ => True) (by kernel_rfl) (by kernel_rfl) (by kernel_rfl) (fun _ _ _ _ _ _ => trivial) (fun w' hw' => ⟨⟨_, _, _, _, hw'.2.2.1⟩, hw'.2.2.2⟩) (⟨HZ.out.1, HZ.out.2.1, HZ.out.2.2.1, HZ.out.2.2.2.drew⟩) ?_
  intro I J _ _ f g hfa hba hgb hbb
  have HFA := Lib.hid hfa
  have HBA := Lib.hid hba
  have HGB := Lib.hid hgb
  have HBB := Lib.hid hbb
  have fv0 := fun n => cell_of_row _ _ 0 _ _ _ (hgb n).1
  have fv1 := fun n => cell_of_row _ _ 1 _ _ _ (hgb n).1
  have fv2 := fun n => cell_of_row _ _ 2 _ _ _ (hgb n).1
  have fs0 := fun n => cell_of_row _ _ 0 _ _ _ (hgb n).2.1
  have fs1 := fun n => cell_of_row _ _ 1 _ _ _ (hgb n).2.1
  have fs2 := fun n => cell_of_row _ _ 2 _ _ _ (hgb n).2.1
  have fs3 := fun n => cell_of_row _ _ 3 _ _ _ (hgb n).2.1
  clear hfa hba hgb hbb
  refine Gro3.take1 2 (by kernel_rfl) ?_
  simp only [List.take, List.drop, List.length]
  repeat (go_big_quiet_step (fail))
  refine wpQuiet_nil ?_
  refine Gro3.take0 1 (by kernel_rfl) ?_
  simp only [List.take, List.drop, List.length]
  repeat (go_big_quiet_step (fail))
  refine wpQuiet_nil ?_
  refine Gro3.callt (fun v => v = .int .u64 (W64 kk)) (fun _ _ => True) rfl rfl (⟨_, rfl⟩) (fun _ _ _ _ _ => trivial) (fun w1 hB hG => ?_) (fun v1 A1 hv1 hA => ?_)
  · obtain ⟨nq, rfl⟩ := hB
    clear fv0 fv1 fv2 fs0 fs1 fs2 fs3
    go_simp
    refine (HT.out _ (HGB.out nq).2.2.2).mono ?_
    rintro e w2 ⟨rfl, rfl⟩
    first | exact ⟨_, rfl, ⟨nq, rfl⟩, New.refl _, rfl⟩ | exact ⟨_, rfl, ⟨nq, rfl⟩, New.refl _, rfl, trivial⟩ | exact ⟨⟨nq, rfl⟩, New.refl _⟩
  simp [Act.put] at hA
  subst hA
  obtain rfl := hv1
  refine Gro3.callt (fun v => v = .agg #[.int .u64 (W64 (t.1)), .int .u64 (W64 (t.2.1)), .int .u64 (W64 (t.2.2.1)), .int .u64 (W64 (t.2.2.2))]) (fun _ _ => True) rfl rfl (⟨_, rfl⟩) (fun _ _ _ _ _ => trivial) (fun w1 hB hG => ?_) (fun v2 A2 hv2 hA => ?_)
  · obtain ⟨nq, rfl⟩ := hB
    clear fv0 fv1 fv2 fs0 fs1 fs2 fs3
    go_simp
    refine (HW.out _).mono ?_
    rintro e w2 ⟨rfl, hn⟩
    have HX := HBB.out _ ⟨(hn.block _ (lt_of_block (HGB.out nq).1)).trans (HGB.out nq).1, (hn.block _ (lt_of_block (HGB.out nq).2.1)).trans (HGB.out nq).2.1, (hn.block _ (lt_of_block (HGB.out nq).2.2.1)).trans (HGB.out nq).2.2.1, (HGB.out nq).2.2.2.trans hn⟩
    first | exact ⟨_, rfl, HX, hn, rfl⟩ | exact ⟨_, rfl, HX, hn, rfl, trivial⟩ | exact ⟨rfl, HX, hn⟩ | exact ⟨HX, hn, rfl⟩ | exact ⟨HX, hn⟩
  simp [Act.put] at hA
  subst hA
  obtain rfl := hv2
  refine Gro3.turn (fun v => v = undef) (fun _ w9 => Lies w9 (w.heap.size + 1 + 1) (.cells #[.int .u64 (W64 (t.1)), .int .u64 (W64 (t.2.1)), .int .u64 (W64 (t.2.2.1)), .int .u64 (W64 (t.2.2.2))] 77 (0, 0))) rfl rfl ⟨_, rfl⟩ (fun w1 hB hG => ?_) (fun v3 A3 hv3 hA => ?_)
  · obtain ⟨nq, rfl⟩ : ∃ nq, w1 = g nq := hB
    have HX := Lib.hid (HGB.out nq)
    have c0 := cell_of_row _ _ 0 _ _ _ HX.out.2.2.1
    have c1 := cell_of_row _ _ 1 _ _ _ HX.out.2.2.1
    have c2 := cell_of_row _ _ 2 _ _ _ HX.out.2.2.1
    have c3 := cell_of_row _ _ 3 _ _ _ HX.out.2.2.1
    have cf := fun i => frozen_of_row _ _ i _ _ HX.out.2.2.1
    have HP := Lib.hid (put4h (.int .u64 (W64 (t.1))) (.int .u64 (W64 (t.2.1))) (.int .u64 (W64 (t.2.2.1))) (.int .u64 (W64 (t.2.2.2))) HX.out.2.2.1)
    have HLI := Lib.hid (show Lies _ _ _ from HP.out.1)
    clear fv0 fv1 fv2 fs0 fs1 fs2 fs3
    go_simp
    exact ⟨HBA.out _ ⟨⟨_, _, _, _, HLI.out⟩, HP.out.2.2 _ HX.out.2.2.2 (by omega)⟩, HLI.out⟩
  simp [Act.put] at hA
  subst hA
  refine Gro3.nil ?_
  rintro w11 ⟨n9, rfl⟩ hG
  have HRZ := Lib.hid (show (f n9).heap[w.heap.size + 1 + 1]? = _ from hG)
  have HNZ := Lib.hid (HFA.out n9).2
  clear HFA HBA HGB HBB hG fv0 fv1 fv2 fs0 fs1 fs2 fs3 HZ HT HW
  generalize f n9 = w11 at *
  have z0 := cell_of_row _ _ 0 _ _ _ HRZ.out
  have z1 := cell_of_row _ _ 1 _ _ _ HRZ.out
  have z2 := cell_of_row _ _ 2 _ _ _ HRZ.out
  have z3 := cell_of_row _ _ 3 _ _ _ HRZ.out
  go_wp2
  refine bodyPost_ret (by simp [results, Tryz.results36, go_sem, z0, z1, z2, z3]; try rfl) rfl ?_
  exact ⟨rfl, HNZ.out⟩
set_option maxRecDepth 100000 in
set_option maxHeartbeats 1000000 in
theorem start_34s (kd : Nat × Nat × Bool) (key : BitVec 64 × BitVec 64) (w : World) : Calls Tryz.prog 35 #[(.agg #[.int .i64 (kd.1 : Nat), .int .i64 (kd.2.1 : Nat), .bool kd.2.2]), .agg #[.int .u64 (W64 key.1), .int .u64 (W64 key.2)]] w fun e w' => e = .returned (.agg #[.int .u64 (W64 ((start34 kd key).1)), .int .u64 (W64 ((start34 kd key).2.1)), .int .u64 (W64 ((start34 kd key).2.2.1)), .int .u64 (W64 ((start34 kd key).2.2.2))]) ∧ New w w' := by
  obtain ⟨r, q, g⟩ := kd
  obtain ⟨hi, lo⟩ := key
  cases g
  · have e : start34 (r, q, false) (hi, lo) = base34 hi lo := rfl
    rw [e]
    clear e
    unfold base34
    simp only
    go_enter Tryz.func35, Tryz.ntmps35
    go_wp2
    go_returns
    exact ⟨rfl, ((((New.refl w).alloc _).alloc _).alloc _).alloc _⟩
  · have e : start34 (r, q, true) (hi, lo) = snd34 (base34 hi lo) 238#64 := rfl
    rw [e]
    clear e
    unfold base34 snd34
    simp only
    go_enter Tryz.func35, Tryz.ntmps35
    go_wp2
    go_returns
    exact ⟨rfl, ((((New.refl w).alloc _).alloc _).alloc _).alloc _⟩
set_option maxRecDepth 100000 in
set_option maxHeartbeats 1000000 in
theorem variant_34s (kind : Int) (kd : Nat × Nat × Bool) (h : KD kind kd) (w : World) : Calls Tryz.prog 33 #[.int .i64 kind] w fun e w' => e = .returned (.tuple #[(.agg #[.int .i64 (kd.1 : Nat), .int .i64 (kd.2.1 : Nat), .bool kd.2.2]), .bool true]) ∧ New w w' := by
  rcases h with ⟨rfl, rfl⟩ | ⟨rfl, rfl⟩ | ⟨rfl, rfl⟩
  all_goals
    go_enter Tryz.func33, Tryz.ntmps33
    go_wp2
    go_returns
    exact ⟨rfl, ((New.refl w).alloc _).alloc _⟩
set_option maxHeartbeats 1000000 in
theorem variant_no_34s (kind : Int) (h6 : ¬ kind = 6) (h7 : ¬ kind = 7) (h8 : ¬ kind = 8) (w : World) : Calls Tryz.prog 33 #[.int .i64 kind] w fun e w' => e = .returned (.tuple #[.agg #[.int .i64 0, .int .i64 0, .bool false], .bool false]) ∧ New w w' := by
  go_enter Tryz.func33, Tryz.ntmps33
  go_wp2
  go_returns
  exact ⟨rfl, ((New.refl w).alloc _).alloc _⟩
end Go.Proofs.YtoplabhoedloeaaGreat
end
