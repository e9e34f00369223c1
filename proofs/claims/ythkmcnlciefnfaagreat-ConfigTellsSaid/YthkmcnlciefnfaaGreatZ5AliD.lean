import Derived.Test.YthkmcnlciefnfaaGreatZ5AliB
/- Layer 43: Build, and what is wrong with weights: the program's and the document's. -/
namespace Go.Ali
/-- the error's number of weights -/
def wE (l : List (BitVec 64)) : Int :=
  if l.length < 1 ∨ 256 < l.length then 1 else if (List.range l.length).any (fun i => decide (4294967296 < (l.getD i 0).toNat)) then 9 else if (List.range l.length).all (fun i => decide ((l.getD i 0).toNat = 0)) then 8 else 0
/-- the sum of the first k weights -/
def tot (l : List (BitVec 64)) : Nat → BitVec 64
  | 0 => 0#64
  | k + 1 => tot l k + l.getD k 0
theorem tot_nat {l : List (BitVec 64)} : ∀ {k : Nat}, k ≤ 256 → (∀ i, i < k → (l.getD i 0).toNat ≤ 4294967296) → (tot l k).toNat = sm (fun i => (l.getD i 0).toNat) k
  | 0, _, _ => rfl
  | k + 1, hk, h => by
    have ih := tot_nat (l := l) (k := k) (by omega) (fun i hi => h i (by omega))
    have h1 := h k (by omega)
    have h2 := sm_le (f := fun i => (l.getD i 0).toNat) (b := 4294967296) (n := k) (fun i hi => h i (by omega))
    show (tot l k + l.getD k 0).toNat = sm _ k + (l.getD k 0).toNat
    rw [BitVec.toNat_add, ih]
    have h3 : k * 4294967296 ≤ 256 * 4294967296 := Nat.mul_le_mul (by omega) (Nat.le_refl _)
    exact Nat.mod_eq_of_lt (by omega)
theorem sm_pos {f : Nat → Nat} : ∀ {n i : Nat}, i < n → f i ≤ sm f n
  | 0, i, h => absurd h (by omega)
  | n + 1, i, h => by
    show f i ≤ sm f n + f n
    by_cases e : i = n
    · subst e; omega
    · have := sm_pos (f := f) (n := n) (i := i) (by omega); omega
theorem we_len {l : List (BitVec 64)} (h : l.length < 1 ∨ 256 < l.length) : wE l = 1 := by unfold wE; rw [if_pos h]
theorem we_big {l : List (BitVec 64)} (h : ¬ (l.length < 1 ∨ 256 < l.length)) {i : Nat} (hi : i < l.length) (hb : 4294967296 < (l.getD i 0).toNat) : wE l = 9 := by
  unfold wE
  rw [if_neg h, if_pos (List.any_eq_true.2 ⟨i, List.mem_range.2 hi, decide_eq_true hb⟩)]
theorem we_none {l : List (BitVec 64)} (h : ∀ i, i < l.length → (l.getD i 0).toNat ≤ 4294967296) : (List.range l.length).any (fun i => decide (4294967296 < (l.getD i 0).toNat)) = false := by
  rw [List.any_eq_false]
  intro x hx
  have := h x (List.mem_range.1 hx)
  simp only [decide_eq_true_eq]; omega
theorem we_zero {l : List (BitVec 64)} (h : ¬ (l.length < 1 ∨ 256 < l.length)) (h2 : ∀ i, i < l.length → (l.getD i 0).toNat ≤ 4294967296) (h3 : ∀ i, i < l.length → (l.getD i 0).toNat = 0) : wE l = 8 := by
  unfold wE
  rw [if_neg h, we_none h2, if_neg (by decide), if_pos (List.all_eq_true.2 fun x hx => decide_eq_true (h3 x (List.mem_range.1 hx)))]
theorem we_ok {l : List (BitVec 64)} (h : ¬ (l.length < 1 ∨ 256 < l.length)) (h2 : ∀ i, i < l.length → (l.getD i 0).toNat ≤ 4294967296) {i : Nat} (hi : i < l.length) (h3 : (l.getD i 0).toNat ≠ 0) : wE l = 0 := by
  unfold wE
  have : (List.range l.length).all (fun i => decide ((l.getD i 0).toNat = 0)) = false := by
    rw [List.all_eq_false]
    exact ⟨i, List.mem_range.2 hi, by simp only [decide_eq_true_eq]; exact h3⟩
  rw [if_neg h, we_none h2, if_neg (by decide), this, if_neg (by decide)]
/-- a sum of no more than 256 small numbers is 0 just if all are -/
theorem tot_zero {l : List (BitVec 64)} (h : ¬ (l.length < 1 ∨ 256 < l.length)) (h2 : ∀ i, i < l.length → (l.getD i 0).toNat ≤ 4294967296) : (tot l l.length == 0#64) = (List.range l.length).all (fun i => decide ((l.getD i 0).toNat = 0)) := by
  have ht := tot_nat (l := l) (k := l.length) (by omega) h2
  rw [Bool.eq_iff_iff, beq_iff_eq, List.all_eq_true]
  constructor
  · intro e x hx
    have h1 := sm_pos (f := fun i => (l.getD i 0).toNat) (List.mem_range.1 hx)
    have h0 : (tot l l.length).toNat = 0 := by rw [e]; rfl
    simp only [decide_eq_true_eq]
    omega
  · intro e
    apply BitVec.eq_of_toNat_eq
    rw [ht, sm_congr (g := fun _ => 0) (fun i hi => by have := e i (List.mem_range.2 hi); simpa using this)]
    have : ∀ n, sm (fun _ => 0) n = 0 := by
      intro n
      induction n with
      | zero => rfl
      | succ n ih => show sm _ n + 0 = 0; rw [ih]
    rw [this]; rfl
end Go.Ali
namespace Go.Proofs.YthkmcnlciefnfaaGreat
open Go Go.RowKit Go.Bv Go.Ali
set_option linter.unusedVariables false
set_option maxRecDepth 100000
/-- a table lies in two rows -/
def TR (w : World) (v : Value) (T : BitVec 64) (n : Nat) (be : Nat → BitVec 64) (al : Nat → Nat) : Prop := ∃ g1 g2, v = .agg #[.int .u64 (W64 T), .slice (some ⟨g1, 0, none⟩) n n, .slice (some ⟨g2, 0, none⟩) n n] ∧ w.rowIs g1 22 n (fun i => .int .u64 (W64 (be i))) ∧ w.rowIs g2 3 n (fun i => .int .i64 ((al i : Nat) : Int))
theorem TR.stay {w w' : World} {v : Value} {T : BitVec 64} {n : Nat} {be : Nat → BitVec 64} {al : Nat → Nat} (h : TR w v T n be al) (hn : New w w') : TR w' v T n be al := by
  obtain ⟨g1, g2, e, h1, h2⟩ := h
  exact ⟨g1, g2, e, ris_stay h1 hn, ris_stay h2 hn⟩
/-- the table's columns -/
def cols (l : List (BitVec 64)) : St := run l.length (tot l l.length) l.length (st0 l.length (tot l l.length) (fun i => l.getD i 0))
abbrev noT : Value := .agg #[.int .u64 0, .slice none 0 0, .slice none 0 0]
set_option maxHeartbeats 8000000 in
theorem build_any (a : Option Addr) (n c : Nat) (l : List (BitVec 64)) (w : World) (h : QRow w a n c l) :
    Calls Tryz.prog 46 #[.slice a n c] w fun e w' => ∃ v, e = .returned (.tuple #[v, .int .i64 (wE l)]) ∧ (wE l = 0 → TR w' v (tot l n) n (cols l).be (cols l).al) ∧ (wE l ≠ 0 → v = noT) ∧ New w w' := by
  have hl := h.len_eq
  have hm := h.most
  have hres := heap_alloc_new w (TB (.int .u64 0) (.slice none 0 0) (.slice none 0 0))
  by_cases h1 : l.length < 1 ∨ 256 < l.length
  · have hE := we_len h1
    rw [hE]
    rw [hl] at h1
    have h2 : ((n : Int) == 0) = true ∨ (((n : Int) == 0) = false ∧ (256 : Int) < (n : Int)) := by
      rw [beq_iff_eq, beq_eq_false_iff_ne]; omega
    have r0 := cell_of_row _ _ 0 _ _ _ hres
    have r1 := cell_of_row _ _ 1 _ _ _ hres
    have r2 := cell_of_row _ _ 2 _ _ _ hres
    have rf := fun i => frozen_of_row _ _ i _ _ hres
    clear h1 hE h hl
    rcases h2 with h2 | ⟨h2, h3⟩
    all_goals (
      go_enter Tryz.func46, Tryz.ntmps46
      go_wp2
      refine bodyPost_ret (by simp [results, Tryz.results46, go_sem]; try rfl) rfl ?_
      exact ⟨_, rfl, (fun e => by cases e), (fun _ => rfl), (New.refl _).alloc _⟩)
  · have HLE := Lib.hid h1
    have h2 : ((n : Int) == 0) = false := by rw [beq_eq_false_iff_ne]; omega
    have h3 : ¬ (256 : Int) < (n : Int) := by omega
    have hn0 : 0 < n := by omega
    have hn256 : n ≤ 256 := by omega
    obtain ⟨p1, o1, e1, _⟩ := h.addr hn0
    subst e1
    have HQ := Lib.hid h
    have HL := Lib.hid hl
    have HST : Hid (New w (w.alloc (TB (.int .u64 0) (.slice none 0 0) (.slice none 0 0))) ∧ (w.alloc (TB (.int .u64 0) (.slice none 0 0) (.slice none 0 0))).heap[w.heap.size]? = some (TB (.int .u64 0) (.slice none 0 0) (.slice none 0 0))) := Lib.hid ⟨(New.refl _).alloc _, hres⟩
    have HT0 : Hid (Value.int .u64 0 = .int .u64 (W64 (tot l 0))) := Lib.hid wz43
    clear h1 h hl hres
    go_enter Tryz.func46, Tryz.ntmps46
    go_wp2
    go_loopw [4, 18] (fun tv iv wr => ∃ k : Nat, k ≤ n ∧ iv = .int .i64 (k : Int) ∧ tv = .int .u64 (W64 (tot l k)) ∧ Hid (New w wr ∧ wr.heap[w.heap.size]? = some (TB (.int .u64 0) (.slice none 0 0) (.slice none 0 0))) ∧ Hid (∀ i, i < k → (l.getD i 0).toNat ≤ 4294967296)) (fun _ iv _ => n - (intOf iv).toNat)
    case atStart => exact ⟨0, Nat.zero_le _, rfl, HT0.out, HST, Lib.hid (fun i hi => absurd hi (by omega))⟩
    case round =>
      clear HST HT0
      obtain ⟨k, hk, rfl, rfl, HI, HS⟩ := hrel
      by_cases hlt : (k : Int) < (n : Int)
      · have hk0 : (0 : Int) ≤ (k : Int) := by omega
        have hkn : k < n := by omega
        have d1 := (HQ.out.stay HI.out.1).cell p1 o1 rfl k hkn
        have HTK : Hid (tot l (k + 1) = tot l k + l.getD k 0) := Lib.hid rfl
        obtain ⟨x, hx⟩ : ∃ x, l.getD k 0 = x := ⟨_, rfl⟩
        rw [hx] at d1 HTK
        have HX := Lib.hid hx
        have hd : decide (4294967296 < W64 x) = decide (4294967296 < x.toNat) := decide_eq_decide.2 (by unfold W64; omega)
        obtain ⟨tk, htk⟩ : ∃ tk, tot l k = tk := ⟨_, rfl⟩
        rw [htk] at HTK ⊢
        clear hx htk
        rcases hb : decide (4294967296 < x.toNat) with _ | _
        · rw [hb] at hd
          have HS2 : Hid (∀ i, i < k + 1 → (l.getD i 0).toNat ≤ 4294967296) := Lib.hid (fun i hi => by
            by_cases e : i = k
            · subst e; rw [HX.out]; have := of_decide_eq_false hb; omega
            · exact HS.out i (by omega))
          clear hb
          go_wp2
          exact ⟨⟨k + 1, by omega, by go_num, by rw [HTK.out], HI, HS2⟩, by simp [intOf]; omega⟩
        · rw [hb] at hd
          have HE := Lib.hid (we_big HLE.out (i := k) (by rw [HL.out]; exact hkn) (by rw [HX.out]; exact of_decide_eq_true hb))
          have r0 := cell_of_row _ _ 0 _ _ _ HI.out.2
          have r1 := cell_of_row _ _ 1 _ _ _ HI.out.2
          have r2 := cell_of_row _ _ 2 _ _ _ HI.out.2
          have rf := fun i => frozen_of_row _ _ i _ _ HI.out.2
          clear hb
          go_wp2
          refine bodyPost_ret (by simp [results, Tryz.results46, go_sem, r0, r1, r2]; try rfl) rfl ?_
          rw [HE.out]
          exact ⟨_, rfl, (fun e => by cases e), (fun _ => rfl), ((HI.out.1.setCell (p := ⟨w.heap.size, 0, none⟩) (Nat.le_refl _) _).setCell (p := ⟨w.heap.size, 1, none⟩) (Nat.le_refl _) _).setCell (p := ⟨w.heap.size, 2, none⟩) (Nat.le_refl _) _⟩
      · obtain rfl : k = n := by omega
        have hz := tot_zero HLE.out (by rw [HL.out]; exact HS.out)
        rw [HL.out] at hz
        have r0 := cell_of_row _ _ 0 _ _ _ HI.out.2
        have r1 := cell_of_row _ _ 1 _ _ _ HI.out.2
        have r2 := cell_of_row _ _ 2 _ _ _ HI.out.2
        have rf := fun i => frozen_of_row _ _ i _ _ HI.out.2
        rcases hb : (List.range k).all (fun i => decide ((l.getD i 0).toNat = 0)) with _ | _
        · rw [hb] at hz
          obtain ⟨i0, hi0, hi1⟩ := List.all_eq_false.1 hb
          have HE := Lib.hid (we_ok HLE.out (by rw [HL.out]; exact HS.out) (i := i0) (by rw [HL.out]; exact List.mem_range.1 hi0) (by simpa using hi1))
          have HF := Lib.hid (fill_q (some ⟨p1, o1, none⟩) k c l (tot l k) wr (HQ.out.stay HI.out.1) hn0 hn256)
          have HCO : Hid (run k (tot l k) k (st0 k (tot l k) (fun i => l.getD i 0)) = cols l) := Lib.hid (by unfold cols; rw [HL.out])
          obtain ⟨T, hT⟩ : ∃ T, tot l k = T := ⟨_, rfl⟩
          rw [hT] at HF HCO hz ⊢
          have HT := Lib.hid hT
          clear hb hi0 hi1 hT r0 r1 r2 rf
          go_wp2_with fail
          refine HF.out.mono ?_
          rintro e w5 ⟨g1, g2, rfl, q1, q2, n5⟩
          rw [HCO.out] at q1 q2
          have hb5 := blk_stay HI.out.2 n5
          have r0 := cell_of_row _ _ 0 _ _ _ hb5
          have r1 := cell_of_row _ _ 1 _ _ _ hb5
          have r2 := cell_of_row _ _ 2 _ _ _ hb5
          have rf := fun i => frozen_of_row _ _ i _ _ hb5
          have hne1 : g1 ≠ w.heap.size := fun e => by subst e; obtain ⟨cs, z1, _⟩ := q1; rw [hb5] at z1; cases z1
          have hne2 : g2 ≠ w.heap.size := fun e => by subst e; obtain ⟨cs, z1, _⟩ := q2; rw [hb5] at z1; cases z1
          have HR : Hid (∀ v0 v1 v2 : Value, New w (((w5.setCell ⟨w.heap.size, 0, none⟩ v0).setCell ⟨w.heap.size, 1, none⟩ v1).setCell ⟨w.heap.size, 2, none⟩ v2) ∧ TR (((w5.setCell ⟨w.heap.size, 0, none⟩ v0).setCell ⟨w.heap.size, 1, none⟩ v1).setCell ⟨w.heap.size, 2, none⟩ v2) (.agg #[.int .u64 (W64 T), .slice (some ⟨g1, 0, none⟩) k k, .slice (some ⟨g2, 0, none⟩) k k]) T k (cols l).be (cols l).al) := Lib.hid (fun v0 v1 v2 =>
            ⟨(((HI.out.1.trans n5).setCell (p := ⟨w.heap.size, 0, none⟩) (Nat.le_refl _) _).setCell (p := ⟨w.heap.size, 1, none⟩) (Nat.le_refl _) _).setCell (p := ⟨w.heap.size, 2, none⟩) (Nat.le_refl _) _, g1, g2, rfl, ((q1.setOther hne1 _).setOther hne1 _).setOther hne1 _, ((q2.setOther hne2 _).setOther hne2 _).setOther hne2 _⟩)
          clear q1 q2 n5 hb5 hne1 hne2 HF HCO
          go_wp2
          refine bodyPost_ret (by simp [results, Tryz.results46, go_sem, r0, r1, r2]; try rfl) rfl ?_
          rw [HE.out, HT.out]
          obtain ⟨z1, z2⟩ := HR.out _ _ _
          exact ⟨_, rfl, (fun _ => z2), (fun e => absurd rfl e), z1⟩
        · rw [hb] at hz
          have HE := Lib.hid (we_zero HLE.out (by rw [HL.out]; exact HS.out) (by
            rw [HL.out]
            intro i hi
            have := List.all_eq_true.1 hb i (List.mem_range.2 hi)
            simpa using this))
          clear hb
          obtain ⟨T, hT⟩ : ∃ T, tot l k = T := ⟨_, rfl⟩
          rw [hT] at hz ⊢
          clear hT
          go_wp2
          refine bodyPost_ret (by simp [results, Tryz.results46, go_sem, r0, r1, r2]; try rfl) rfl ?_
          rw [HE.out]
          exact ⟨_, rfl, (fun e => by cases e), (fun _ => rfl), ((HI.out.1.setCell (p := ⟨w.heap.size, 0, none⟩) (Nat.le_refl _) _).setCell (p := ⟨w.heap.size, 1, none⟩) (Nat.le_refl _) _).setCell (p := ⟨w.heap.size, 2, none⟩) (Nat.le_refl _) _⟩
end Go.Proofs.YthkmcnlciefnfaaGreat
