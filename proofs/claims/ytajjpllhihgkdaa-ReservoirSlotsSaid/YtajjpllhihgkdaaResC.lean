/- reservoir.Order; the document's own Slots and Order. -/
import Derived.Test.YtajjpllhihgkdaaResB
namespace Go.Proofs.Ytajjpllhihgkdaa
open Go Go.RowKit Go.Bv
set_option linter.unusedVariables false
theorem sw_same (f : Nat → Nat) (x : Nat) : sw f x x = f := by
  funext y
  unfold sw
  by_cases e : y = x
  · rw [if_pos e, e]
  · rw [if_neg e, if_neg e]
theorem own_form {w : World} {base : Nat} {e : TypeId} {v : Value} {n : Nat} {xs : List Value} (h : w.ownsRow base e 1 v n xs) : ∃ p cap, v = .slice p n cap := by
  rcases h.2 with ⟨rfl, rfl⟩ | ⟨g, cap, cur, rfl, _⟩
  · exact ⟨_, _, rfl⟩
  · exact ⟨_, _, rfl⟩
set_option maxRecDepth 100000 in
set_option maxHeartbeats 2000000 in
theorem od_visit (n k : Nat) (hk : k ≤ n) (hn : n ≤ 256) (a : Option Addr) (m c : Nat) (d : List Int) (w : World) (h : ZRow w a m c d) (hd : rdI n k d) (w5 w6 : World) (B g : Nat) (hB : w.heap.size ≤ B) (hn1 : New w w5) (how : w5.ownsRow B 3 1 (.slice (some ⟨g, 0, none⟩) k k) k ((liI (fun x => x) k).map fun x => .int .i64 x)) (g1 : w6.heap[w5.heap.size + 1]? = some (.cells #[.int .i64 (k : Int)] 3 (0, 0))) (g2 : w6.heap[w5.heap.size + 1 + 1]? = some (.cells #[.slice a m c] 22 (0, 0))) (gn : New (w5.alloc (.cells #[.slice (some ⟨g, 0, none⟩) k k] 22)) w6) :
    Calls Try.prog 53 #[.func (Fn.func 36) #[] #[.pointer (some ⟨w5.heap.size, 0, none⟩)], .pointer (some ⟨w5.heap.size + 1 + 1, 0, none⟩), .pointer (some ⟨w5.heap.size + 1, 0, none⟩)] w6 fun e w' => e = .returned (.tuple #[]) ∧ ∃ v, w'.heap[w5.heap.size]? = some (.cells #[v] 22 (0, 0)) ∧ w'.ownsRow B 3 1 v n ((odI n k d).map fun x => .int .i64 x) ∧ New w w' := by
  have hm : m = n - k := by rw [← h.len_eq]; exact hd.1
  have hF := rdI_F hd
  have hb5 := heap_alloc_new w5 (.cells #[.slice (some ⟨g, 0, none⟩) k k] 22)
  have hn55 : New w5 (w5.alloc (.cells #[.slice (some ⟨g, 0, none⟩) k k] 22)) := (New.refl w5).alloc _
  have hg6 := ow_in how
  have z1 := hn1.le
  have hb6 : w6.heap[w5.heap.size]? = some (.cells #[.slice (some ⟨g, 0, none⟩) k k] 22 (0, 0)) := (gn.block _ (lt_of_block hb5)).trans hb5
  have ho6 := ow_new (ow_new how hn55) gn
  have hn6 : New w w6 := (hn1.trans hn55).trans gn
  have hG : ∀ (x y : Value) (w' : World), (callFunc 36 (#[x, y] ++ #[.pointer (some ⟨w5.heap.size, 0, none⟩)])).run Try.prog w' = .ok (.enter 36 (#[x, y] ++ #[.pointer (some ⟨w5.heap.size, 0, none⟩)])) w' := fun x y w' => by kernel_rfl
  obtain ⟨P, hP⟩ : ∃ P : Nat → World → Prop, P = fun i w' => ∃ v, w'.heap[w5.heap.size]? = some (.cells #[v] 22 (0, 0)) ∧ w'.ownsRow B 3 1 v (k + i) ((liI (oS k (fnI d) i) (k + i)).map fun x => .int .i64 x) ∧ (v.ownBlock ≠ some w5.heap.size ∧ v.ownBlock ≠ some (w5.heap.size + 1) ∧ v.ownBlock ≠ some (w5.heap.size + 1 + 1)) ∧ w'.heap[w5.heap.size + 1 + 1]? = some (.cells #[.slice a m c] 22 (0, 0)) ∧ w'.heap[w5.heap.size + 1]? = some (.cells #[.int .i64 (k : Int)] 3 (0, 0)) ∧ New w w' := ⟨_, rfl⟩
  have hob : ∀ q, w5.heap.size ≤ q → (Value.slice (some ⟨g, 0, none⟩) k k).ownBlock ≠ some q := fun q hq e => by
    have e2 : g = q := by simpa [Value.ownBlock] using e
    omega
  have p0 : P 0 w6 := by rw [hP]; exact ⟨_, hb6, ho6, ⟨hob _ (by omega), hob _ (by omega), hob _ (by omega)⟩, g2, g1, hn6⟩
  have pb : ∀ i w', P i w' → w'.heap[w5.heap.size + 1 + 1]? = some (.cells #[.slice a m c] 22 (0, 0)) ∧ w'.heap[w5.heap.size + 1]? = some (.cells #[.int .i64 (k : Int)] 3 (0, 0)) ∧ ZRow w' a m c d := fun i w' hI => by
    rw [hP] at hI
    obtain ⟨v, _, _, _, q1, q2, q3⟩ := hI
    exact ⟨q1, q2, h.stay q3⟩
  have ps : ∀ i w', i < m → P i w' → Calls Try.prog 36 (#[.int .i64 ((k + i : Nat) : Int), .int .i64 (d.getD i 0)] ++ #[.pointer (some ⟨w5.heap.size, 0, none⟩)]) w' fun e w'' => e = .returned (.tuple #[]) ∧ P (i + 1) w'' := fun i w' hi hI => by
    rw [hP] at hI ⊢
    obtain ⟨v, i1, i2, ⟨i3, i4, i5⟩, i6, i7, i8⟩ := hI
    have hdi := hd.2 i (by omega)
    obtain ⟨x, hx⟩ : ∃ x : Nat, d.getD i 0 = (x : Int) := ⟨(d.getD i 0).toNat, by omega⟩
    have hfx : fnI d i = x := by unfold fnI; rw [hx]; rfl
    rw [hx]
    have l6 := lt_of_block i6
    have l7 := lt_of_block i7
    have l8 := i8.le
    refine (od1_q w5.heap.size B (k + i) x v (oS k (fnI d) i) w' (by have := (ow_in how).1; omega) (by omega) (by omega) (oS_high hF i (by omega) (k + i) (Nat.le_refl _)) i1 i3 i2).mono ?_
    rintro e w9 ⟨rfl, v', j1, j2, j3, j4, j5, j6⟩
    have hst : oS k (fnI d) (i + 1) = sw (oS k (fnI d) i) (k + i) x := by show sw _ _ _ = _; rw [hfx]
    have hno : ∀ q, q < w'.heap.size → v.ownBlock ≠ some q → v'.ownBlock ≠ some q := fun q hq h1 h2 => by
      rcases j4 q h2 with h3 | h3
      · exact h1 h3
      · omega
    refine ⟨rfl, v', j1, ?_, ⟨hno _ (by omega) i3, hno _ (by omega) i4, hno _ (by omega) i5⟩, (j3 _ l6 (by omega) i5).trans i6, (j3 _ l7 (by omega) i4).trans i7, j6 w i8 (by omega) hB⟩
    rw [hst, show k + (i + 1) = k + i + 1 by omega]
    exact j2
  refine (arr1_q k m a c d (w5.heap.size + 1 + 1) (w5.heap.size + 1) 36 #[.pointer (some ⟨w5.heap.size, 0, none⟩)] P w6 (by omega) hG p0 pb ps).mono ?_
  rintro e w' ⟨he, hh⟩
  rw [hP] at hh
  obtain ⟨v, q1, q2, _, _, _, q3⟩ := hh
  refine ⟨he, v, q1, ?_, q3⟩
  unfold odI
  rw [hm, show k + (n - k) = n by omega] at q2
  exact q2
set_option maxRecDepth 100000 in
set_option maxHeartbeats 2000000 in
theorem order_q (n k : Nat) (hk : k ≤ n) (hn : n ≤ 256) (a : Option Addr) (m c : Nat) (d : List Int) (w : World) (h : ZRow w a m c d) (hd : rdI n k d) :
    Calls Try.prog 10 #[.int .i64 (n : Int), .int .i64 (k : Int), .slice a m c] w fun e w' => ∃ a' c', e = .returned (.tuple #[.slice a' (n : Nat) c', .int .i64 0]) ∧ ZRow w' a' n c' (odI n k d) ∧ New w w' := by
  have hF := rdI_F hd
  have HC := Lib.hid (cd_q n k hk hn a m c d w h)
  rw [show rdE n k d = 0 by unfold rdE; rw [rdB_iff.2 hd]; rfl] at HC
  have HS := Lib.hid (fun w => sorted_42 k w (by omega))
  have HV := Lib.hid (fun w5 w6 B g hB hn1 how g1 g2 gn => od_visit n k hk hn a m c d w h hd w5 w6 B g hB hn1 how g1 g2 gn)
  have HIN : Hid (∀ z ∈ odI n k d, In64 z) := Lib.hid (in64_li _ (fun x hx => by have := oS_lt hF (n - k) (Nat.le_refl _) n (by omega) x hx; omega))
  clear h hd hF
  go_enter Try.func10, Try.ntmps10
  go_wp2_with fail
  refine HC.out.mono ?_
  rintro e w3 ⟨rfl, hn3⟩
  have HN3 := Lib.hid hn3
  clear hn3 HC
  go_wp2_with fail
  refine (HS.out _).mono ?_
  rintro e w5 ⟨g, rfl, how, hn5⟩
  have HO := Lib.hid how
  have HN5 := Lib.hid hn5
  clear how hn5 HS
  have HAR := Lib.hid (arr_q (k : Int) a m c (w5.alloc (.cells #[.slice (some ⟨g, 0, none⟩) k k] 22)))
  have HV2 := Lib.hid (fun w6 g1 g2 gn => HV.out w5 w6 w3.heap.size g HN3.out.le (HN3.out.trans HN5.out) HO.out g1 g2 gn)
  rw [show (w5.alloc (.cells #[.slice (some ⟨g, 0, none⟩) k k] 22)).heap.size = w5.heap.size + 1 by simp] at HAR
  go_wp2_with fail
  refine HAR.out.mono ?_
  rintro e w6 ⟨rfl, g1, g2, gn⟩
  replace HV2 := Lib.hid (HV2.out w6 g1 g2 gn)
  clear g1 g2 gn HV HAR
  go_wp2_with fail
  refine HV2.out.mono ?_
  rintro e w7 ⟨rfl, v, g3, how, hn7⟩
  have k7 := cell_of_row _ _ 0 _ _ _ g3
  obtain ⟨a', c', rfl, hz⟩ := ZRow.of_owns how (by omega) HIN.out
  have HZ := Lib.hid hz
  have HN7 := Lib.hid hn7
  clear g3 how hn7 hz HV2
  go_wp2
  go_ret2
  exact ⟨_, _, rfl, HZ.out, HN7.out⟩
/-- the slots that are told so far: the first s of them, and of the next one what the first i decisions say -/
def rsL (k m : Nat) (d : Nat → Nat) (s i : Nat) : List Int := liI (fun x => if x < s then oS k d m x else if x = s then oS k d i x else x) k
theorem rsL_next (k m : Nat) (d : Nat → Nat) (s : Nat) : rsL k m d s m = rsL k m d (s + 1) 0 := liI_ext (fun x _ => by
  by_cases h1 : x < s
  · rw [if_pos h1, if_pos (by omega)]
  · rw [if_neg h1]
    by_cases h2 : x = s
    · rw [if_pos h2, if_pos (by omega)]
    · rw [if_neg h2, if_neg (by omega)]
      by_cases h3 : x = s + 1
      · rw [if_pos h3]; rfl
      · rw [if_neg h3])
theorem rsL_zero (k m : Nat) (d : Nat → Nat) : rsL k m d 0 0 = liI (fun x => x) k := liI_ext (fun x _ => by
  rw [if_neg (by omega)]
  by_cases h : x = 0
  · rw [if_pos h]; rfl
  · rw [if_neg h])
theorem rsL_all (k m : Nat) (d : Nat → Nat) : rsL k m d k 0 = liI (oS k d m) k := liI_ext (fun x hx => by rw [if_pos hx])
theorem rsL_yes {k m : Nat} {d : Nat → Nat} {s i : Nat} (hs : s < k) (h : oS k d (i + 1) s = k + i) : (rsL k m d s i).set s ((k + i : Nat) : Int) = rsL k m d s (i + 1) := by
  unfold rsL
  rw [liI_set _ _ hs]
  apply liI_ext
  intro x hx
  by_cases e : x = s
  · subst e; rw [if_pos rfl, if_neg (by omega), if_pos rfl, h]
  · rw [if_neg e, if_neg e, if_neg e]
theorem rsL_no {k m : Nat} {d : Nat → Nat} {s i : Nat} (h : oS k d (i + 1) s = oS k d i s) : rsL k m d s i = rsL k m d s (i + 1) := liI_ext (fun x _ => by
  by_cases e : x = s
  · subst e; rw [if_neg (by omega), if_pos rfl, if_neg (by omega), if_pos rfl, h]
  · rw [if_neg e, if_neg e])
set_option maxRecDepth 100000 in
set_option maxHeartbeats 4000000 in
theorem slotsr_42 (n k : Nat) (hk : k ≤ n) (hn : n ≤ 256) (a : Option Addr) (m c : Nat) (d : List Int) (w : World) (h : ZRow w a m c d) (hd : rdI n k d) :
    Calls Try.prog 15 #[.int .i64 (n : Int), .int .i64 (k : Int), .slice a m c] w fun e w' => ∃ a' c', e = .returned (.slice a' (k : Nat) c') ∧ ZRow w' a' k c' (slI n k d) ∧ New w w' := by
  have hF := rdI_F hd
  have hmn : m = n - k := by rw [← h.len_eq]; exact hd.1
  have HH := Lib.hid h
  have HD := Lib.hid (fun i (hi : i < m) => hd.2 i (by omega))
  have HF : Hid (∀ j, j < m → ∀ x, x < k → oS k (fnI d) (j + 1) x = if fnI d j = x then k + j else oS k (fnI d) j x) := Lib.hid (fun j hj x hx => oS_low hF (by omega) hx)
  have HSL : Hid (slI n k d = liI (oS k (fnI d) m) k) := Lib.hid (by unfold slI; rw [hmn])
  have HLT : Hid (∀ x, x < k → oS k (fnI d) m x < n) := Lib.hid (fun x hx => oS_lt hF m (by omega) n (by omega) x (by omega))
  have hkm : k + m ≤ 256 := by omega
  have HR := Lib.hid (fun w => row_ref40 k w (by omega))
  clear h hd hF hmn
  go_enter Try.func15, Try.ntmps15
  go_wp2_with fail
  refine (HR.out _).mono ?_
  rintro e w1 ⟨v, rfl, how, hn1⟩
  obtain ⟨p0, cap0, rfl⟩ := own_form how
  have HO := Lib.hid how
  have HN := Lib.hid hn1
  clear how hn1 HR
  go_wp2_with fail
  go_loopw [15] (fun iv wr => ∃ s : Nat, s ≤ k ∧ iv = .int .i64 (s : Int) ∧ wr.ownsRow w.heap.size 3 1 (.slice p0 k cap0) k ((rsL k m (fnI d) s 0).map fun x => .int .i64 x) ∧ New w wr) (fun iv _ => k - (intOf iv).toNat)
  case atStart => exact ⟨0, Nat.zero_le _, rfl, by rw [rsL_zero]; exact HO.out, HN.out⟩
  case round =>
    clear HO HN
    obtain ⟨s, hs, rfl, hown, hnew⟩ := hrel
    by_cases hlt : (s : Int) < (k : Int)
    · have hs0 : (0 : Int) ≤ (s : Int) := by omega
      have hsk : s < k := by omega
      obtain ⟨g, cap, he0, hg, hgs, hgc, hgc2⟩ := ow_shape hown (by omega)
      cases he0
      have HO := Lib.hid hown
      have HN := Lib.hid hnew
      clear hown hnew hgs
      go_wp2_with fail
      go_loopw [20] (fun jv wr => ∃ i : Nat, i ≤ m ∧ jv = .int .i64 (i : Int) ∧ wr.ownsRow w.heap.size 3 1 (.slice (some ⟨g, 0, none⟩) k cap0) k ((rsL k m (fnI d) s i).map fun x => .int .i64 x) ∧ New w wr) (fun jv _ => m - (intOf jv).toNat)
      case atStart => exact ⟨0, Nat.zero_le _, rfl, HO.out, HN.out⟩
      case round =>
        clear HO HN
        obtain ⟨i, hi, rfl, hown, hnew⟩ := hrel
        by_cases hlt2 : (i : Int) < (m : Int)
        · have hi0 : (0 : Int) ≤ (i : Int) := by omega
          obtain ⟨b, off, rfl, hc⟩ := (HH.out.stay hnew).addr (by omega)
          have c1 := hc i (by omega)
          have hdi := HD.out i (by omega)
          have hst := HF.out i (by omega) s hsk
          obtain ⟨x, hx⟩ : ∃ x : Nat, d.getD i 0 = (x : Int) := ⟨(d.getD i 0).toNat, by omega⟩
          have hfx : fnI d i = x := by unfold fnI; rw [hx]; rfl
          rw [hfx] at hst
          rw [hx] at c1
          obtain ⟨r, hr⟩ : ∃ r, k + i = r := ⟨_, rfl⟩
          have hri : (k : Int) + (i : Int) = (r : Int) := by omega
          clear hc hdi hx hfx
          by_cases he : x = s
          · subst he
            rw [if_pos rfl] at hst
            have HS2 := Lib.hid (rsL_yes (k := k) (m := m) (d := fnI d) hsk hst)
            rw [hr] at HS2
            obtain ⟨c2, f2⟩ := ow_int hown (k := x) hsk
            have HO2 : Hid ((wr.setCell ⟨g, x, none⟩ (.int .i64 (r : Nat))).ownsRow w.heap.size 3 1 (.slice (some ⟨g, 0, none⟩) k cap0) k ((rsL k m (fnI d) x (i + 1)).map fun x => .int .i64 x)) := Lib.hid (by
              rw [← HS2.out, List.map_set]; exact ow_set hown x _)
            have HN2 : Hid (New w (wr.setCell ⟨g, x, none⟩ (.int .i64 (r : Nat)))) := Lib.hid (hnew.setCell hg _)
            have hb : ((x : Int) == (x : Int)) = true := by simp
            clear hown hnew hst HS2
            go_wp2
            exact ⟨⟨i + 1, by omega, by go_num, HO2.out, HN2.out⟩, by simp [intOf]; omega⟩
          · rw [if_neg he] at hst
            have HO2 : Hid (wr.ownsRow w.heap.size 3 1 (.slice (some ⟨g, 0, none⟩) k cap0) k ((rsL k m (fnI d) s (i + 1)).map fun x => .int .i64 x)) := Lib.hid (by
              rw [← rsL_no (k := k) (m := m) hst]; exact hown)
            have hb : ((x : Int) == (s : Int)) = false := by rw [beq_eq_false_iff_ne]; omega
            clear hown hst
            go_wp2
            exact ⟨⟨i + 1, by omega, by go_num, HO2.out, hnew⟩, by simp [intOf]; omega⟩
        · obtain rfl : i = m := by omega
          have HO2 : Hid (wr.ownsRow w.heap.size 3 1 (.slice (some ⟨g, 0, none⟩) k cap0) k ((rsL k i (fnI d) (s + 1) 0).map fun x => .int .i64 x)) := Lib.hid (by
            rw [← rsL_next]; exact hown)
          clear hown
          go_wp2
          exact ⟨⟨s + 1, by omega, by go_num, HO2.out, hnew⟩, by simp [intOf]; omega⟩
    · obtain rfl : s = k := by omega
      rw [rsL_all, ← HSL.out] at hown
      obtain ⟨a', c', he0, hz⟩ := ZRow.of_owns hown (by omega) (by rw [HSL.out]; exact in64_li _ (fun x hx => by have := HLT.out x hx; omega))
      cases he0
      have HZ := Lib.hid hz
      have HN := Lib.hid hnew
      clear hown hz hnew
      go_wp2
      go_ret
      exact ⟨_, _, rfl, HZ.out, HN.out⟩
set_option maxRecDepth 100000 in
set_option maxHeartbeats 4000000 in
theorem orderr_42 (n k : Nat) (hk : k ≤ n) (hn : n ≤ 256) (a : Option Addr) (m c : Nat) (d : List Int) (w : World) (h : ZRow w a m c d) (hd : rdI n k d) :
    Calls Try.prog 16 #[.int .i64 (n : Int), .int .i64 (k : Int), .slice a m c] w fun e w' => ∃ a' c', e = .returned (.slice a' (n : Nat) c') ∧ ZRow w' a' n c' (odI n k d) ∧ New w w' := by
  obtain ⟨i0, hi, hz0, hz1, hz2⟩ := info_parts info_int40
  have hF := rdI_F hd
  have hmn : m = n - k := by rw [← h.len_eq]; exact hd.1
  have HH := Lib.hid h
  have HD := Lib.hid (fun i (hi : i < m) => hd.2 i (by omega))
  have HHI : Hid (∀ j, j ≤ m → oS k (fnI d) j (k + j) = k + j) := Lib.hid (fun j hj => oS_high hF j (by omega) _ (Nat.le_refl _))
  have HOD : Hid (odI n k d = liI (oS k (fnI d) m) (k + m)) := Lib.hid (by unfold odI; rw [hmn, show k + (n - k) = n by omega])
  have HLT : Hid (∀ x, x < k + m → oS k (fnI d) m x < n) := Lib.hid (fun x hx => oS_lt hF m (by omega) n (by omega) x (by omega))
  have HKM : Hid (k + m = n) := Lib.hid (by omega)
  have hkm : k + m ≤ 256 := by omega
  have HR := Lib.hid (fun w => row_ref40 k w (by omega))
  clear h hd hF hmn
  go_enter Try.func16, Try.ntmps16
  go_wp2_with fail
  refine (HR.out _).mono ?_
  rintro e w1 ⟨v, rfl, how, hn1⟩
  have HO := Lib.hid how
  have HN := Lib.hid hn1
  clear how hn1 HR
  go_wp2_with fail
  go_loopw [7, 14] (fun v iv wr => ∃ i : Nat, i ≤ m ∧ iv = .int .i64 (i : Int) ∧ wr.ownsRow w.heap.size 3 1 v (k + i) ((liI (oS k (fnI d) i) (k + i)).map fun x => .int .i64 x) ∧ New w wr) (fun _ iv _ => m - (intOf iv).toNat)
  case atStart => exact ⟨0, Nat.zero_le _, rfl, HO.out, HN.out⟩
  case round =>
    clear HO HN
    obtain ⟨i, hi9, rfl, hown, hnew⟩ := hrel
    obtain ⟨wq, hwq⟩ : ∃ z, z = wr := ⟨_, rfl⟩
    rw [← hwq] at hown hnew ⊢
    clear hwq
    by_cases hlt : (i : Int) < (m : Int)
    · have hi0 : (0 : Int) ≤ (i : Int) := by omega
      obtain ⟨b, off, rfl, hc⟩ := (HH.out.stay hnew).addr (by omega)
      have c1 := hc i (by omega)
      have hdi := HD.out i (by omega)
      have hhi := HHI.out i (by omega)
      obtain ⟨x, hx⟩ : ∃ x : Nat, d.getD i 0 = (x : Int) := ⟨(d.getD i 0).toNat, by omega⟩
      have hfx : fnI d i = x := by unfold fnI; rw [hx]; rfl
      have HST : Hid (oS k (fnI d) (i + 1) = sw (oS k (fnI d) i) (k + i) x) := Lib.hid (by show sw _ _ _ = _; rw [hfx])
      rw [hx] at c1
      obtain ⟨r, hr⟩ : ∃ r, k + i = r := ⟨_, rfl⟩
      have hri : (k : Int) + (i : Int) = (r : Int) := by omega
      have hr1 : k + (i + 1) = r + 1 := by omega
      have hxr : x ≤ r := by omega
      obtain ⟨f, hf⟩ : ∃ f, oS k (fnI d) i = f := ⟨_, rfl⟩
      rw [hf, hr] at hown hhi HST
      have hr256 : r ≤ 256 := by omega
      clear hc hdi hx hfx hf hr
      by_cases he : x = r
      · subst he
        have hb : ((x : Int) == (x : Int)) = true := by simp
        have HE : Hid (liI (sw f x x) (x + 1) = liI f x ++ [(x : Int)]) := Lib.hid (by
          rw [sw_same, liI_succ, hhi])
        go_wp2_with (at_builtin; refine wpList_append_own _ rfl _ _ 22 rfl w.heap.size 3 i0 (.int .i64 0) 1 8 Try.underlying22 hi hz0 hz1 hz2 rfl (by decide) _ x _ rfl (hown.alloc _) ⟨wq.heap.size, 0, none⟩ 1 1 [.int .i64 (x : Int)] rfl rfl ?c1 ?c2 ?c3 ?c4 ?c5 ?_)
        try (case c1 => exact one_cell wq _ _)
        try (case c2 => first | rfl | (intro u hu; simp at hu; subst hu; rfl))
        try (case c3 => first | (unfold maxLen; omega) | omega)
        try (case c4 => omega)
        try (case c5 => first | (simp; have := hnew.le; omega) | (have := hnew.le; omega))
        intro v' w2 how hgr _
        have HO2 : Hid (w2.ownsRow w.heap.size 3 1 v' (k + (i + 1)) ((liI (oS k (fnI d) (i + 1)) (k + (i + 1))).map fun x => .int .i64 x)) := Lib.hid (by
          rw [HST.out, hr1, HE.out, List.map_append]; exact how)
        have HN1 := Lib.hid ((hnew.alloc _).grown' hgr (own_base hown))
        clear how hgr hown hnew
        go_wp2
        exact ⟨⟨i + 1, by omega, by go_num, HO2.out, HN1.out⟩, by simp [intOf]; omega⟩
      · have hb : ((x : Int) == (r : Int)) = false := by rw [beq_eq_false_iff_ne]; omega
        have hxr2 : x < r := by omega
        obtain ⟨g, cap, rfl, hg, hgs, hgc, hgc2⟩ := ow_shape hown (by omega)
        obtain ⟨c2, f2⟩ := ow_int hown (k := x) hxr2
        rw [liI_get f hxr2] at c2
        have hx0 : (0 : Int) ≤ (x : Int) := by omega
        have hx1 : (x : Int) < (r : Int) := by omega
        have HE : Hid ((liI f r ++ [((f x : Nat) : Int)]).set x (r : Int) = liI (sw f r x) (r + 1)) := Lib.hid (by
          rw [← liI_sw f (show r < r + 1 by omega) (show x < r + 1 by omega), hhi]
          congr 1
          rw [liI_succ, List.set_append_right _ _ (by rw [liI_len]; exact Nat.le_refl _), liI_len, Nat.sub_self]
          rfl)
        go_wp2_with (at_builtin; refine wpList_append_own _ rfl _ _ 22 rfl w.heap.size 3 i0 (.int .i64 0) 1 8 Try.underlying22 hi hz0 hz1 hz2 rfl (by decide) _ r _ rfl (hown.alloc _) ⟨wq.heap.size, 0, none⟩ 1 1 [.int .i64 ((f x : Nat) : Int)] rfl rfl ?d1 ?d2 ?d3 ?d4 ?d5 ?_)
        try (case d1 => exact one_cell wq _ _)
        try (case d2 => first | rfl | (intro u hu; simp at hu; subst hu; rfl))
        try (case d3 => first | (unfold maxLen; omega) | omega)
        try (case d4 => omega)
        try (case d5 => first | (simp; have := hnew.le; omega) | (have := hnew.le; omega))
        intro v' w2 how hgr _
        have hn2 := (hnew.alloc _).grown' hgr (own_base hown)
        have how2 : w2.ownsRow w.heap.size 3 1 v' (r + 1) ((liI f r ++ [((f x : Nat) : Int)]).map fun x => .int .i64 x) := by rw [List.map_append]; exact how
        obtain ⟨g2, cap2, rfl, hg2, _, _, _⟩ := ow_shape how2 (by omega)
        obtain ⟨c3, f3⟩ := ow_int how2 (k := x) (by omega)
        have HO2 : Hid ((w2.setCell ⟨g2, x, none⟩ (.int .i64 (r : Int))).ownsRow w.heap.size 3 1 (.slice (some ⟨g2, 0, none⟩) (r + 1 : Nat) cap2) (k + (i + 1)) ((liI (oS k (fnI d) (i + 1)) (k + (i + 1))).map fun x => .int .i64 x)) := Lib.hid (by
          rw [HST.out, hr1, ← HE.out, List.map_set]; exact ow_set how2 x _)
        have HN1 : Hid (New w (w2.setCell ⟨g2, x, none⟩ (.int .i64 (r : Int)))) := Lib.hid (hn2.setCell hg2 _)
        have hx2 : (x : Int) < (r : Int) + 1 := by omega
        clear how hgr hown hnew how2 hn2
        go_wp2
        exact ⟨⟨i + 1, by omega, by go_num, HO2.out, HN1.out⟩, by simp [intOf]; omega⟩
    · obtain rfl : i = m := by omega
      rw [← HOD.out, HKM.out] at hown
      obtain ⟨a', c', rfl, hz⟩ := ZRow.of_owns hown (by omega) (by rw [HOD.out]; exact in64_li _ (fun x hx => by have := HLT.out x hx; omega))
      have HZ := Lib.hid hz
      have HN := Lib.hid hnew
      clear hown hz hnew
      go_wp2
      go_ret
      exact ⟨_, _, rfl, HZ.out, HN.out⟩
end Go.Proofs.Ytajjpllhihgkdaa
