/- reservoir.Undo; the document's From; the law ReservoirUndoes. -/
import Derived.Test.YtajjpllhihgkdaaResD
import Derived.Deep.DeepCutAuto
import Derived.Deep.RegionHeld3
namespace Go.Bv
open Go Go.RowKit
set_option linter.unusedVariables false
theorem ixF_congr {f g : Nat → Nat} {v : Nat} : ∀ {c}, (∀ x, x < c → f x = g x) → ixF f v c = ixF g v c
  | 0, _ => rfl
  | c + 1, h => by
    show (if ixF f v c < c then ixF f v c else if f c = v then c else c + 1) = (if ixF g v c < c then ixF g v c else if g c = v then c else c + 1)
    rw [ixF_congr (fun x hx => h x (by omega)), h c (by omega)]
theorem unF_congr {p q : Nat → Nat} {n : Nat} (hp : orF p n) (h : ∀ x, x < n → p x = q x) : ∀ t, t ≤ n → ∀ x, x < n → unF p n t x = unF q n t x
  | 0, _, x, hx => h x hx
  | t + 1, ht, x, hx => by
    have ih := unF_congr hp h t (by omega)
    have hon := unF_on hp t (by omega)
    have hix : ixF (unF p n t) (n - 1 - t) (n - t) = ixF (unF q n t) (n - 1 - t) (n - t) := ixF_congr (fun y hy => ih y (by omega))
    obtain ⟨j, hj, he⟩ := onF_has hon (v := n - 1 - t) (by omega)
    have h1 := ixF_some hj he
    show sw (unF p n t) (n - 1 - t) (ixF (unF p n t) (n - 1 - t) (n - t)) x = sw (unF q n t) (n - 1 - t) (ixF (unF q n t) (n - 1 - t) (n - t)) x
    rw [← hix]
    unfold sw
    rw [ih (n - 1 - t) (by omega), ih _ (show ixF (unF p n t) (n - 1 - t) (n - t) < n by omega), ih x hx]
theorem unD_congr {p q : Nat → Nat} {n k : Nat} (hp : orF p n) (h : ∀ x, x < n → p x = q x) {i : Nat} (hi : k + i < n) : unD p n k i = unD q n k i := by
  unfold unD
  exact ixF_congr (fun x hx => unF_congr hp h _ (by omega) x (by omega))
theorem frS_congr (f : Nat → Nat) (k : Nat) {d e : Nat → Nat} : ∀ m, (∀ i, i < m → d i = e i) → frS f k d m = frS f k e m
  | 0, _ => rfl
  | m + 1, h => by
    show sw (frS f k d m) _ (d m) = sw (frS f k e m) _ (e m)
    rw [frS_congr f k m (fun i hi => h i (by omega)), h m (by omega)]
theorem frS_high {f : Nat → Nat} {k m n : Nat} {d : Nat → Nat} (hf : ∀ x, k ≤ x → x < n → f x = x) (h : rtD k m d) : ∀ j, j ≤ m → ∀ x, k + j ≤ x → x < n → frS f k d j x = x
  | 0, _, x, h1, h2 => hf x h1 h2
  | j + 1, hj, x, h1, h2 => by
    have h3 := h j (by omega)
    show sw (frS f k d j) (k + j) (d j) x = x
    unfold sw
    rw [if_neg (by omega), if_neg (by omega)]
    exact frS_high hf h j (by omega) x (by omega) h2
theorem frS_lt {f : Nat → Nat} {k m n : Nat} {d : Nat → Nat} (hf : ∀ x, x < n → f x < n) (h : rtD k m d) : ∀ j, j ≤ m → k + j ≤ n → ∀ x, x < n → frS f k d j x < n
  | 0, _, _, x, hx => hf x hx
  | j + 1, hj, hn, x, hx => sw_lt (by omega) (by have := h j (by omega); omega) (frS_lt hf h j (by omega) (by omega)) x hx
/-- what is told of an order: decisions, and what stood there at first -/
def udI (n k : Nat) (p : List Int) : List Int := liI (unD (fnI p) n k) (n - k)
def ufI (n k : Nat) (p : List Int) : List Int := liI (unF (fnI p) n (n - k)) k
theorem udI_rd {n k : Nat} {p : List Int} (hp : isO p) (hn : p.length = n) (hk : k ≤ n) : rdI n k (udI n k p) := by
  have h := unD_rt (k := k) (n := n) (by have := fnI_or hp; rwa [hn] at this)
  refine ⟨liI_len _ _, fun i hi => ?_⟩
  unfold udI
  rw [liI_get _ hi]
  have := h i hi
  omega
theorem onF_or {f : Nat → Nat} {c n : Nat} (h : onF f c n) : isO (liI f c) := by
  unfold isO
  rw [liI_len]
  refine ⟨fun j hj => ?_, fun j k hj hk he => ?_⟩
  · rw [liI_get _ hj]; have := h.1 j hj; omega
  · rw [liI_get _ (by omega), liI_get _ hk] at he
    have := h.2.1 j k (by omega) hk (by omega)
    omega
theorem ufI_or {n k : Nat} {p : List Int} (hp : isO p) (hn : p.length = n) (hk : k ≤ n) : isO (ufI n k p) := by
  have h := unF_on (n := n) (by have := fnI_or hp; rwa [hn] at this) (n - k) (by omega)
  rw [show n - (n - k) = k by omega] at h
  exact onF_or h
theorem fr_udI {n k : Nat} {p : List Int} (hp : isO p) (hn : p.length = n) (hk : k ≤ n) : liI (frS (unF (fnI p) n (n - k)) k (fnI (udI n k p)) (n - k)) n = p := by
  have he : ∀ i, i < n - k → fnI (udI n k p) i = unD (fnI p) n k i := fun i hi => fnI_li _ hi
  rw [frS_congr _ k (n - k) he, fr_un hk (n - k) (Nat.le_refl _), Nat.sub_self]
  have h := li_fn (p := p) (fun j hj => (hp.1 j hj).1)
  rw [hn] at h
  exact h
theorem ud_od {n k : Nat} {d : List Int} (hk : k ≤ n) (h : rdI n k d) : udI n k (odI n k d) = d := by
  have hF := rdI_F h
  have ho := fnI_or (odI_or hk h)
  rw [odI_len] at ho
  have hd := li_fn (p := d) (fun j hj => (h.2 j (by rw [← h.1]; exact hj)).1)
  rw [h.1] at hd
  unfold udI
  refine (liI_ext fun x hx => ?_).trans hd
  rw [unD_congr (q := oS k (fnI d) (n - k)) ho (fun y hy => fnI_li _ hy) (by omega)]
  exact unD_od hk hF hx
theorem uf_od {n k : Nat} {d : List Int} (hk : k ≤ n) (h : rdI n k d) : ufI n k (odI n k d) = liI (fun x => x) k := by
  have hF := rdI_F h
  have ho := fnI_or (odI_or hk h)
  rw [odI_len] at ho
  unfold ufI
  refine liI_ext fun x hx => ?_
  rw [unF_congr (q := oS k (fnI d) (n - k)) ho (fun y hy => fnI_li _ hy) (n - k) (by omega) x (by omega), un_od hk hF (n - k) (Nat.le_refl _), Nat.sub_self]
  rfl
/-- the decisions told so far, from the last one down -/
def ucL (p : Nat → Nat) (n k t : Nat) : List Int := liI (fun i => if n - k ≤ i + t then unD p n k i else 0) (n - k)
theorem ucL_zero (p : Nat → Nat) (n k : Nat) : ucL p n k 0 = liI (fun _ => 0) (n - k) := liI_ext (fun x hx => if_neg (by omega))
theorem ucL_all (p : Nat → Nat) (n k : Nat) : ucL p n k (n - k) = liI (unD p n k) (n - k) := liI_ext (fun x hx => if_pos (by omega))
theorem ucL_set (p : Nat → Nat) {n k t i : Nat} (h : n - k = i + t + 1) : (ucL p n k t).set i ((unD p n k i : Nat) : Int) = ucL p n k (t + 1) := by
  unfold ucL
  rw [liI_set _ _ (by omega)]
  apply liI_ext
  intro x hx
  by_cases e : x = i
  · subst e; rw [if_pos rfl, if_pos (by omega)]
  · rw [if_neg e]
    by_cases e2 : n - k ≤ x + t
    · rw [if_pos e2, if_pos (by omega)]
    · rw [if_neg e2, if_neg (by omega)]
end Go.Bv
namespace Go.Proofs.Ytajjpllhihgkdaa
open Go Go.RowKit Go.Bv
set_option linter.unusedVariables false
theorem own_below {w : World} {base size : Nat} {e : TypeId} {v : Value} {n : Nat} {xs : List Value} (h : w.ownsRow base e size v n xs) : ∀ g, v.ownBlock = some g → g < w.heap.size := by
  intro g hg
  rcases h.2 with ⟨rfl, _⟩ | ⟨g', cap, cur, rfl, hb, hc, _⟩
  · cases hg
  · have e : g' = g := by simpa [Value.ownBlock] using hg
    subst e
    exact lt_of_block hc
theorem index_q (a : Option Addr) (m cap v : Nat) (f : Nat → Nat) (w : World) (h : ZRow w a m cap (liI f m)) (hv : ixF f v m < m) :
    Calls Try.prog 39 #[.slice a m cap, .int .i64 (v : Int)] w fun e w' => e = .returned (.int .i64 ((ixF f v m : Nat) : Int)) ∧ w' = w := by
  have hm := h.most
  have HH := Lib.hid h
  have HV := Lib.hid hv
  have HLE : Hid (∀ c, c ≤ m → ixF f v c = c ∨ ixF f v m = ixF f v c) := Lib.hid (fun c hc => by
    by_cases e : ixF f v c < c
    · right
      have key : ∀ d, ixF f v (c + d) = ixF f v c := fun d => by
        induction d with
        | zero => rfl
        | succ d ih =>
          show (if ixF f v (c + d) < c + d then ixF f v (c + d) else _) = _
          rw [if_pos (by omega), ih]
      have := key (m - c)
      rwa [show c + (m - c) = m by omega] at this
    · left; have := ixF_le f v c; omega)
  have HST : Hid (∀ c, c < m → ixF f v c = c → f c = v → ixF f v m = c) := Lib.hid (fun c hc h1 h2 => by
    have e : ixF f v (c + 1) = c := by
      show (if ixF f v c < c then ixF f v c else if f c = v then c else c + 1) = c
      rw [if_neg (by omega), if_pos h2]
    rcases HLE.out (c + 1) (by omega) with h3 | h3
    · omega
    · omega)
  have HNO : Hid (∀ c, ixF f v c = c → f c ≠ v → ixF f v (c + 1) = c + 1) := Lib.hid (fun c h1 h2 => by
    show (if ixF f v c < c then ixF f v c else if f c = v then c else c + 1) = c + 1
    rw [if_neg (by omega), if_neg h2])
  clear h hv HLE
  go_enter Try.func39, Try.ntmps39
  go_wp2_with fail
  go_loop [8] (fun iv => ∃ j : Nat, j ≤ m ∧ iv = .int .i64 (j : Int) ∧ Hid (ixF f v j = j)) (fun iv => m - (intOf iv).toNat)
  case atStart => exact ⟨0, Nat.zero_le _, rfl, Lib.hid rfl⟩
  case round =>
    obtain ⟨j, hj, rfl, HJ⟩ := hrel
    by_cases hlt : (j : Int) < (m : Int)
    · have hj0 : (0 : Int) ≤ (j : Int) := by omega
      obtain ⟨b, off, rfl, hc⟩ := HH.out.addr (by omega)
      have c1 := hc j (by omega)
      rw [liI_get _ (by omega)] at c1
      clear hc
      by_cases he : f j = v
      · have HF := Lib.hid (HST.out j (by omega) HJ.out he)
        rw [he] at c1
        have hb : ((v : Int) == (v : Int)) = true := by simp
        go_wp2
        go_ret
        rw [HF.out]; exact ⟨rfl, rfl⟩
      · have HF := Lib.hid (HNO.out j HJ.out he)
        have hb : ((v : Int) == ((f j : Nat) : Int)) = false := by rw [beq_eq_false_iff_ne]; omega
        go_wp2
        exact ⟨⟨j + 1, by omega, by go_num, HF⟩, by simp [intOf]; omega⟩
    · obtain rfl : j = m := by omega
      exact absurd HV.out (by rw [HJ.out]; omega)
theorem undo_err (n k : Int) (a : Option Addr) (m c : Nat) (w : World) (h : ¬ ckE n k = 0) :
    Calls Try.prog 17 #[.int .i64 n, .int .i64 k, .slice a m c] w fun e w' => e = .returned (.tuple #[.slice none 0 0, .slice none 0 0, .int .i64 (ckE n k)]) ∧ w' = w := by
  have HC := Lib.hid (check_42 n k w)
  obtain ⟨z, hz⟩ : ∃ z, ckE n k = z := ⟨_, rfl⟩
  rw [hz] at HC h ⊢
  clear hz
  have hb : (z != 0) = true := by simpa using h
  go_enter Try.func17, Try.ntmps17
  go_wp2_with fail
  refine HC.out.mono ?_
  rintro e w' ⟨rfl, hw⟩
  replace hw := hw.symm
  subst hw
  go_wp2
  go_ret3
  exact ⟨rfl, rfl⟩
theorem undo_bad (n k : Nat) (hk : k ≤ n) (hn : n ≤ 256) (a : Option Addr) (m c : Nat) (p : List Int) (w : World) (h : ZRow w a m c p) (hb : ¬ (m = n ∧ isO p)) :
    Calls Try.prog 17 #[.int .i64 (n : Int), .int .i64 (k : Int), .slice a m c] w fun e w' => e = .returned (.tuple #[.slice none 0 0, .slice none 0 0, .int .i64 2]) ∧ New w w' := by
  have HC := Lib.hid (check_42 (n : Int) (k : Int) w)
  rw [show ckE (n : Int) (k : Int) = 0 from by unfold ckE; rw [if_neg (by omega), if_neg (by omega)]] at HC
  by_cases hm : m = n
  · subst hm
    have HI := Lib.hid (is_40 a m c p w h (by omega))
    rw [isB_no (fun h2 => hb ⟨rfl, h2⟩)] at HI
    have hb2 : ((m : Int) != (m : Int)) = false := by simp
    clear h hb
    go_enter Try.func17, Try.ntmps17
    go_wp2_with fail
    refine HC.out.mono ?_
    rintro e w' ⟨rfl, hw⟩
    replace hw := hw.symm
    subst hw
    go_wp2_with fail
    refine HI.out.mono ?_
    rintro e w9 ⟨rfl, hn9⟩
    have HN := Lib.hid hn9
    clear hn9
    go_wp2
    go_ret3
    exact ⟨rfl, HN.out⟩
  · have hb2 : ((m : Int) != (n : Int)) = true := by simp; omega
    clear h hb
    go_enter Try.func17, Try.ntmps17
    go_wp2_with fail
    refine HC.out.mono ?_
    rintro e w' ⟨rfl, hw⟩
    replace hw := hw.symm
    subst hw
    go_wp2
    go_ret3
    exact ⟨rfl, New.refl _⟩
set_option maxRecDepth 100000 in
set_option maxHeartbeats 4000000 in
theorem undo_qo (n k : Nat) (hk : k ≤ n) (hn : n ≤ 256) (a : Option Addr) (c : Nat) (p : List Int) (w : World) (h : ZRow w a n c p) (hp : isO p) :
    Calls Try.prog 17 #[.int .i64 (n : Int), .int .i64 (k : Int), .slice a n c] w fun e w' => ∃ g2 a2 c2 B2, e = .returned (.tuple #[.slice (some ⟨g2, 0, none⟩) (n - k : Nat) (n - k : Nat), .slice a2 (k : Nat) c2, .int .i64 0]) ∧ w'.ownsRow w.heap.size 3 1 (.slice (some ⟨g2, 0, none⟩) (n - k : Nat) (n - k : Nat)) (n - k) ((udI n k p).map fun x => .int .i64 x) ∧ (∀ z ∈ udI n k p, In64 z) ∧ g2 < B2 ∧ w'.ownsRow B2 3 1 (.slice a2 (k : Nat) c2) k ((ufI n k p).map fun x => .int .i64 x) ∧ (∀ z ∈ ufI n k p, In64 z) ∧ New w w' := by
  have HC := Lib.hid (check_42 (n : Int) (k : Int) w)
  rw [show ckE (n : Int) (k : Int) = 0 from by unfold ckE; rw [if_neg (by omega), if_neg (by omega)]] at HC
  have HI := Lib.hid (is_40 a n c p w h (by omega))
  rw [isB_iff.2 hp] at HI
  have hb2 : ((n : Int) != (n : Int)) = false := by simp
  have HCL := Lib.hid (fun w' (hn' : New w w') => clone_z a n c p w' (h.stay hn'))
  have hor := fnI_or hp
  rw [h.len_eq] at hor
  have HOR := Lib.hid hor
  have HP0 : Hid (liI (fnI p) n = p) := Lib.hid (by
    have h9 := li_fn (p := p) (fun j hj => (hp.1 j hj).1)
    rwa [h.len_eq] at h9)
  obtain ⟨K, hK⟩ : ∃ K, n - k = K := ⟨_, rfl⟩
  have hji : (n : Int) - (k : Int) = (K : Int) := by omega
  have HKK := Lib.hid hK
  have hmk : ∀ W : World, (Instr.makeSlice 22 (.int .i64 (K : Int)) (.int .i64 (K : Int))).run Try.prog W = .ok (.slice (some ⟨W.heap.size, 0, none⟩) K K) (W.alloc (.cells (madeCells #[.int .i64 0] K) 3)) := fun W => make_int K (by omega) _ W rfl
  have hwK : IntKind.i64.wrap (K : Int) = (K : Int) := by unfold IntKind.wrap; simp [IntKind.signed, IntKind.bits]; omega
  have hK256 : K ≤ 256 := by omega
  rw [hK]
  clear h hp hor hK
  go_enter Try.func17, Try.ntmps17
  go_wp2_with fail
  refine HC.out.mono ?_
  rintro e w' ⟨rfl, hw⟩
  replace hw := hw.symm
  subst hw
  go_wp2_with fail
  refine HI.out.mono ?_
  rintro e w9 ⟨rfl, hn9⟩
  have HN9 := Lib.hid hn9
  replace HCL := Lib.hid (fun w' (h : New w9 w') => HCL.out w' (hn9.trans h))
  clear hn9 HC HI
  go_wp2_with fail
  go_cut [10, 11] (fun r d wx => ∃ g2, d = .slice (some ⟨g2, 0, none⟩) K K ∧ wx.ownsRow w9.heap.size 3 1 r n (p.map fun x => .int .i64 x) ∧ wx.ownsRow w9.heap.size 3 1 (.slice (some ⟨g2, 0, none⟩) K K) K ((liI (fun _ => 0) K).map fun x => .int .i64 x) ∧ r.ownBlock ≠ some g2 ∧ New w9 wx)
  case first =>
    go_region_held3 (fun w' => New w9 w')
      ((first | with_reducible assumption | with_reducible exact (New.refl _).drew | with_reducible exact New.drew (by assumption) | with_reducible exact ((New.refl _).alloc _).drew | with_reducible exact (((New.refl _).drew).alloc _).drew | with_reducible exact ((New.refl _).drew).alloc _ | with_reducible exact New.alloc (by assumption) _))
      (first
      | (go_at_call 38
         refine (HCL.out _ (by first | with_reducible assumption | with_reducible exact (New.refl _).drew | with_reducible exact New.drew (by assumption) | with_reducible exact ((New.refl _).alloc _).drew | with_reducible exact (((New.refl _).drew).alloc _).drew | with_reducible exact ((New.refl _).drew).alloc _ | with_reducible exact New.alloc (by assumption) _)).mono ?_
         rintro e w4 ⟨vr, rfl, how, hn4⟩
         have hn5 : New w9 w4 := by first
           | with_reducible exact (New.refl w9).drew.trans hn4
           | with_reducible exact ((New.refl w9).drew.alloc _).trans hn4
           | with_reducible exact ((New.refl w9).alloc _).drew.trans hn4
           | with_reducible exact (((New.refl w9).drew.alloc _).drew).trans hn4
           | with_reducible exact (New.refl w9).trans hn4))
    all_goals (
      go_wp2_with fail
      go_meet
      case rel => first
        | exact ⟨_, rfl, ow_base how (by simp), ow_new (ow_made w9 _ _ _ K _ (Nat.le_refl _) (by omega) (by rw [made_toList, zeros_li]) (by rw [List.length_map, liI_len])) ((New.refl _).drew.trans hn4), (fun e => by have := own_base how _ e; simp at this; omega), hn5⟩
        | exact ⟨_, rfl, ow_new (ow_base how (by simp)) ((New.refl _).alloc _), ow_made w4 _ _ _ K _ hn5.le (by omega) (by rw [made_toList, zeros_li]) (by rw [List.length_map, liI_len]), (fun e => by have := own_below how _ e; omega), hn5.alloc _⟩)
  case rest =>
    obtain ⟨g2, rfl, ho1, ho2, hg12, hn⟩ := hcut
    obtain ⟨pr, cr, rfl⟩ := own_form ho1
    clear hmk hwK
    rw [← HP0.out] at ho1
    have HO1 := Lib.hid ho1
    have HO2 := Lib.hid ho2
    have HN := Lib.hid (HN9.out.trans hn)
    have HG2 := Lib.hid hg12
    have HB9 : Hid (w.heap.size ≤ w9.heap.size) := Lib.hid HN9.out.le
    have HZ0 := Lib.hid (ucL_zero (fnI p) n k)
    have HIX : Hid (∀ t, t < K → ixF (unF (fnI p) n t) (n - 1 - t) (n - t) < n - t) := Lib.hid (fun t ht => by
      obtain ⟨j, hj, he⟩ := onF_has (unF_on HOR.out t (by have := HKK.out; omega)) (v := n - 1 - t) (by have := HKK.out; omega)
      exact ixF_some hj he)
    have HLT : Hid (∀ t, t ≤ K → ∀ x, x < n - t → unF (fnI p) n t x < n - t) := Lib.hid (fun t ht => (unF_on HOR.out t (by have := HKK.out; omega)).1)
    clear ho1 ho2 hn hg12 HOR HP0 HN9
    go_wp2_with fail
    go_loopw [10, 12] (fun rv iv wr => ∃ (t : Nat) (z : Int) , t ≤ K ∧ iv = .int .i64 z ∧ Hid (z = (n : Int) - 1 - (t : Int)) ∧ rv = .slice pr (n - t : Nat) cr ∧ wr.ownsRow w9.heap.size 3 1 (.slice pr (n - t : Nat) cr) (n - t) ((liI (unF (fnI p) n t) (n - t)).map fun x => .int .i64 x) ∧ wr.ownsRow w9.heap.size 3 1 (.slice (some ⟨g2, 0, none⟩) K K) K ((ucL (fnI p) n k t).map fun x => .int .i64 x) ∧ New w wr) (fun _ iv _ => (intOf iv + 1).toNat)
    case atStart => exact ⟨0, _, Nat.zero_le _, rfl, Lib.hid (by omega), rfl, HO1.out, (by rw [HZ0.out, HKK.out]; exact HO2.out), HN.out⟩
    case round =>
      clear HO1 HO2 HN
      obtain ⟨t, z, ht, rfl, HZ, rfl, h1, h2, hnew⟩ := hrel
      have hKK := HKK.out
      have hz := HZ.out
      obtain ⟨wq, hwq⟩ : ∃ z, z = wr := ⟨_, rfl⟩
      rw [← hwq] at h1 h2 hnew ⊢
      clear hwq
      by_cases hlt : t < K
      · obtain ⟨j, hj⟩ : ∃ j, n - 1 - t = j := ⟨_, rfl⟩
        have hnt : n - t = j + 1 := by omega
        have hnt2 : n - (t + 1) = j := by omega
        obtain rfl : z = (j : Int) := by omega
        have hix := HIX.out t hlt
        have hlf := HLT.out t ht
        rw [hnt] at h1 hix hlf ⊢
        rw [hj] at hix
        obtain ⟨i, hi⟩ : ∃ i, j - k = i := ⟨_, rfl⟩
        have hji2 : (j : Int) - (k : Int) = (i : Int) := by omega
        have HU : Hid (unF (fnI p) n (t + 1) = sw (unF (fnI p) n t) j (ixF (unF (fnI p) n t) j (j + 1))) := Lib.hid (by
          show sw (unF (fnI p) n t) (n - 1 - t) (ixF (unF (fnI p) n t) (n - 1 - t) (n - t)) = _
          rw [hj, hnt])
        have HS2 : Hid ((ucL (fnI p) n k t).set i ((ixF (unF (fnI p) n t) j (j + 1) : Nat) : Int) = ucL (fnI p) n k (t + 1)) := Lib.hid (by
          rw [← ucL_set (fnI p) (n := n) (k := k) (t := t) (i := i) (by omega)]
          have e : unD (fnI p) n k i = ixF (unF (fnI p) n t) j (j + 1) := by
            unfold unD
            rw [show k + i = j by omega, show n - 1 - j = t by omega]
          rw [e])
        obtain ⟨f, hf⟩ : ∃ f, unF (fnI p) n t = f := ⟨_, rfl⟩
        rw [hf] at h1 hix hlf HU HS2
        obtain ⟨g, cap, he, hg, hgs, hgc, hgc2⟩ := ow_shape h1 (by omega)
        cases he
        obtain ⟨_, _, he, hzr⟩ := ZRow.of_owns h1 (by omega) (in64_li _ (fun x hx => by have := hlf x hx; omega))
        cases he
        have HX := Lib.hid (index_q _ _ _ j f wq hzr hix)
        obtain ⟨q, hq⟩ : ∃ q, ixF f j (j + 1) = q := ⟨_, rfl⟩
        rw [hq] at HX hix HU HS2
        have hne : g ≠ g2 := fun e => HG2.out (by rw [e]; rfl)
        obtain ⟨d1, e1⟩ := ow_int h2 (k := i) (by omega)
        have hv2 : (Value.slice (some ⟨g2, 0, none⟩) K K).ownBlock ≠ some g := by
          simp [Value.ownBlock]; exact fun e => hne e.symm
        have hv1 : (Value.slice (some ⟨g, 0, none⟩) (j + 1) cr).ownBlock ≠ some g2 := by
          simp [Value.ownBlock]; exact hne
        have k1 := ow_far h1 (a := ⟨g2, i, none⟩) hv1 (.int .i64 (q : Nat))
        have k2 := ow_set h2 i (.int .i64 (q : Nat))
        have hgb2 := (ow_in h2).1
        obtain ⟨cj, fj⟩ := ow_int k1 (k := j) (by omega)
        obtain ⟨cq, fq⟩ := ow_int k1 (k := q) (by omega)
        rw [liI_get _ (show j < j + 1 by omega)] at cj
        have k3 := ow_set k1 q (.int .i64 ((f j : Nat) : Int))
        have k4 := ow_cut k3 (m := j) (by omega)
        have HR1 : Hid (((wq.setCell ⟨g2, i, none⟩ (.int .i64 (q : Nat))).setCell ⟨g, q, none⟩ (.int .i64 ((f j : Nat) : Int))).ownsRow w9.heap.size 3 1 (.slice (some ⟨g, 0, none⟩) (n - (t + 1) : Nat) cr) (n - (t + 1)) ((liI (unF (fnI p) n (t + 1)) (n - (t + 1))).map fun x => .int .i64 x)) := Lib.hid (by
          rw [hnt2, HU.out, ← row_next f (show q ≤ j by omega), List.map_take, List.map_set]
          exact k4)
        have HR2 : Hid (((wq.setCell ⟨g2, i, none⟩ (.int .i64 (q : Nat))).setCell ⟨g, q, none⟩ (.int .i64 ((f j : Nat) : Int))).ownsRow w9.heap.size 3 1 (.slice (some ⟨g2, 0, none⟩) K K) K ((ucL (fnI p) n k (t + 1)).map fun x => .int .i64 x)) := Lib.hid (by
          rw [← HS2.out, List.map_set]
          exact ow_far k2 (a := ⟨g, q, none⟩) hv2 _)
        have HNN : Hid (New w ((wq.setCell ⟨g2, i, none⟩ (.int .i64 (q : Nat))).setCell ⟨g, q, none⟩ (.int .i64 ((f j : Nat) : Int)))) := Lib.hid ((hnew.setCell (p := ⟨g2, i, none⟩) (Nat.le_trans HB9.out hgb2) _).setCell (p := ⟨g, q, none⟩) (Nat.le_trans HB9.out hg) _)
        have hkj : (k : Int) ≤ (j : Int) := by omega
        have hj0 : (0 : Int) ≤ (j : Int) := by omega
        have hj1 : (j : Int) < (j : Int) + 1 := by omega
        have hjc : (j : Int) ≤ (cr : Int) := by omega
        have hq0 : (0 : Int) ≤ (q : Int) := by omega
        have hq1 : (q : Int) < (j : Int) + 1 := by omega
        have hi0 : (0 : Int) ≤ (i : Int) := by omega
        have hiK : (i : Int) < (K : Int) := by omega
        have HZ2 : Hid ((j : Int) - 1 = (n : Int) - 1 - ((t + 1 : Nat) : Int)) := Lib.hid (by omega)
        have HT9 : Hid (n - (t + 1) = j) := Lib.hid hnt2
        have HT1 : Hid (t + 1 ≤ K) := Lib.hid hlt
        clear h1 h2 hnew k1 k2 k3 k4 hzr hf hq hz hKK hj hnt hnt2 hi hix hlf
        go_wp2_with fail
        refine HX.out.mono ?_
        rintro e w' ⟨rfl, hw⟩
        replace hw := hw.symm
        subst hw
        clear HX
        go_wp2
        exact ⟨⟨t + 1, _, HT1.out, rfl, HZ2, by rw [HT9.out], HR1.out, HR2.out, HNN.out⟩, by first | (simp [intOf]; done) | (simp [intOf]; omega)⟩
      · obtain rfl : t = K := by omega
        have hnk : n - t = k := by omega
        rw [hnk] at h1 ⊢
        have hzk : z < (k : Int) := by omega
        have hlf := HLT.out t (Nat.le_refl _)
        rw [hnk] at hlf
        obtain ⟨_, _, he, hz1⟩ := ZRow.of_owns h1 (by omega) (in64_li _ (fun x hx => by have := hlf x hx; omega))
        cases he
        have hua : ucL (fnI p) n k t = udI n k p := by rw [← hKK]; exact ucL_all _ _ _
        rw [hua] at h2
        have HIU : Hid (∀ z ∈ udI n k p, In64 z) := Lib.hid (by
          unfold udI
          rw [hKK]
          exact in64_li _ (fun x hx => by
            have := ixF_le (unF (fnI p) n (n - 1 - (k + x))) (k + x) (k + x + 1)
            unfold unD
            omega))
        have HG3 : Hid (g2 < wq.heap.size) := Lib.hid (ow_in h2).2.1
        have HZ2 := Lib.hid (ow_base h2 HB9.out)
        have HUF : Hid (liI (unF (fnI p) n t) k = ufI n k p) := Lib.hid (by unfold ufI; rw [hKK])
        have HCZ := Lib.hid (clone_z _ _ _ _ wq hz1)
        rw [HUF.out] at HCZ
        have HN := Lib.hid hnew
        have HIN : Hid (∀ z ∈ ufI n k p, In64 z) := Lib.hid (by rw [← HUF.out]; exact in64_li _ (fun x hx => by have := hlf x hx; omega))
        clear h1 h2 hnew hz1 hua hz hKK hnk hlf
        go_wp2_with fail
        refine HCZ.out.mono ?_
        rintro e w8 ⟨v, rfl, how, hn8⟩
        obtain ⟨a', c', rfl⟩ := own_form how
        have HZ3 := Lib.hid how
        replace HZ2 := Lib.hid (ow_new HZ2.out hn8)
        replace HN := Lib.hid (HN.out.trans hn8)
        clear how hn8 HCZ
        go_wp2
        go_ret3
        exact ⟨_, _, _, _, rfl, HZ2.out, HIU.out, HG3.out, HZ3.out, HIN.out, HN.out⟩
theorem undo_q (n k : Nat) (hk : k ≤ n) (hn : n ≤ 256) (a : Option Addr) (c : Nat) (p : List Int) (w : World) (h : ZRow w a n c p) (hp : isO p) :
    Calls Try.prog 17 #[.int .i64 (n : Int), .int .i64 (k : Int), .slice a n c] w fun e w' => ∃ a1 c1 a2 c2, e = .returned (.tuple #[.slice a1 (n - k : Nat) c1, .slice a2 (k : Nat) c2, .int .i64 0]) ∧ ZRow w' a1 (n - k) c1 (udI n k p) ∧ ZRow w' a2 k c2 (ufI n k p) ∧ New w w' := by
  refine (undo_qo n k hk hn a c p w h hp).mono ?_
  rintro e w' ⟨g2, a2, c2, B2, rfl, h1, h2, h3, h4, h5, h6⟩
  obtain ⟨_, _, he, z1⟩ := ZRow.of_owns h1 (by omega) h2
  cases he
  obtain ⟨_, _, he, z2⟩ := ZRow.of_owns h4 (by omega) h5
  cases he
  exact ⟨_, _, _, _, rfl, z1, z2, h6⟩
set_option maxRecDepth 100000 in
set_option maxHeartbeats 4000000 in
theorem from_42 (k m n : Nat) (hkm : k + m ≤ 256) (hkn : k + m = n) (a b : Option Addr) (ca cb : Nat) (f0 : Nat → Nat) (d : List Int) (w : World) (hf : ZRow w a k ca (liI f0 k)) (h : ZRow w b m cb d) (hd : ∀ i, i < m → 0 ≤ d.getD i 0 ∧ d.getD i 0 ≤ (k : Int) + (i : Int)) (hhi : ∀ x, k ≤ x → x < n → f0 x = x) (hlt : ∀ x, x < n → f0 x < n) :
    Calls Try.prog 19 #[.slice a k ca, .slice b m cb] w fun e w' => ∃ a' c', e = .returned (.slice a' (k + m : Nat) c') ∧ ZRow w' a' (k + m) c' (liI (frS f0 k (fnI d) m) (k + m)) ∧ New w w' := by
  obtain ⟨i0, hi, hz0, hz1, hz2⟩ := info_parts info_int40
  have hrt : rtD k m (fnI d) := fun i hi => by have := hd i hi; unfold fnI; omega
  have HH := Lib.hid h
  have HD := Lib.hid hd
  have HHI : Hid (∀ j, j < m → frS f0 k (fnI d) j (k + j) = k + j) := Lib.hid (fun j hj => frS_high (n := n) hhi hrt j (by omega) _ (Nat.le_refl _) (by omega))
  have HLT : Hid (∀ x, x < k + m → frS f0 k (fnI d) m x < n) := Lib.hid (fun x hx => frS_lt hlt hrt m (Nat.le_refl _) (by omega) x (by omega))
  have HF := Lib.hid hf
  have HKN := Lib.hid hkn
  clear h hd hhi hlt hrt hf hkn
  have hHK : Hid (∀ w', New w w' → ∀ v, w'.ownsRow w.heap.size 3 1 v k ((liI f0 k).map fun x => .int .i64 x) → w'.ownsRow w.heap.size 3 1 v (k + 0) ((liI (frS f0 k (fnI d) 0) (k + 0)).map fun x => .int .i64 x)) := Lib.hid (fun _ _ _ h => h)
  rcases a with _ | x
  · obtain ⟨rfl, rfl⟩ := HF.out.none rfl
    go_enter Try.func19, Try.ntmps19
    have HO := Lib.hid (hHK.out w (New.refl _) _ (World.ownsRow_nil w _ _ 1))
    have HN := Lib.hid (New.refl w)
    clear hHK HF
    go_wp2_with fail
    go_loopw [5, 14] (fun v iv wr => ∃ i : Nat, i ≤ m ∧ iv = .int .i64 (i : Int) ∧ wr.ownsRow w.heap.size 3 1 v (0 + i) ((liI (frS f0 0 (fnI d) i) (0 + i)).map fun x => .int .i64 x) ∧ New w wr) (fun _ iv _ => m - (intOf iv).toNat)
    case atStart => exact ⟨0, Nat.zero_le _, rfl, HO.out, HN.out⟩
    case round =>
      clear HO HN
      obtain ⟨i, hi9, rfl, hown, hnew⟩ := hrel
      obtain ⟨wq, hwq⟩ : ∃ z, z = wr := ⟨_, rfl⟩
      rw [← hwq] at hown hnew ⊢
      clear hwq
      by_cases hlt : (i : Int) < (m : Int)
      · have hi0 : (0 : Int) ≤ (i : Int) := by omega
        obtain ⟨b, off, rfl, hc⟩ := (HH.out.stay hnew).addr (by omega)
        have c1 := hc i (by omega)
        have hdi := HD.out i (by omega)
        have hhi := HHI.out i (by omega)
        obtain ⟨x, hx⟩ : ∃ x : Nat, d.getD i 0 = (x : Int) := ⟨(d.getD i 0).toNat, by omega⟩
        have hfx : fnI d i = x := by unfold fnI; rw [hx]; rfl
        have HST : Hid (frS f0 0 (fnI d) (i + 1) = sw (frS f0 0 (fnI d) i) (0 + i) x) := Lib.hid (by show sw _ _ _ = _; rw [hfx])
        rw [hx] at c1
        obtain ⟨r, hr⟩ : ∃ r, 0 + i = r := ⟨_, rfl⟩
        have hri : (0 : Int) + (i : Int) = (r : Int) := by omega
        have hr1 : 0 + (i + 1) = r + 1 := by omega
        have hxr : x ≤ r := by omega
        obtain ⟨f, hf⟩ : ∃ f, frS f0 0 (fnI d) i = f := ⟨_, rfl⟩
        rw [hf, hr] at hown hhi HST
        have hr256 : r ≤ 256 := by omega
        clear hc hdi hx hfx hf hr
        by_cases he : x = r
        · subst he
          have hb : ((x : Int) == (x : Int)) = true := by simp
          have HE : Hid (liI (sw f x x) (x + 1) = liI f x ++ [(x : Int)]) := Lib.hid (by
            rw [sw_same, liI_succ, hhi])
          go_wp2_with (at_builtin; refine wpList_append_own _ rfl _ _ 22 rfl w.heap.size 3 i0 (.int .i64 0) 1 8 Try.underlying22 hi hz0 hz1 hz2 rfl (by decide) _ x _ rfl (hown.alloc _) ⟨wq.heap.size, 0, none⟩ 1 1 [.int .i64 (x : Int)] rfl rfl ?c1 ?c2 ?c3 ?c4 ?c5 ?_)
          try (case c1 => exact one_cell wq _ _)
          try (case c2 => first | rfl | (intro u hu; simp at hu; subst hu; rfl))
          try (case c3 => first | (unfold maxLen; omega) | omega)
          try (case c4 => omega)
          try (case c5 => first | (simp; have := hnew.le; omega) | (have := hnew.le; omega))
          intro v' w2 how hgr _
          have HO2 : Hid (w2.ownsRow w.heap.size 3 1 v' (0 + (i + 1)) ((liI (frS f0 0 (fnI d) (i + 1)) (0 + (i + 1))).map fun x => .int .i64 x)) := Lib.hid (by
            rw [HST.out, hr1, HE.out, List.map_append]; exact how)
          have HN1 := Lib.hid ((hnew.alloc _).grown' hgr (own_base hown))
          clear how hgr hown hnew
          go_wp2
          exact ⟨⟨i + 1, by omega, by go_num, HO2.out, HN1.out⟩, by simp [intOf]; omega⟩
        · have hb : ((x : Int) == (r : Int)) = false := by rw [beq_eq_false_iff_ne]; omega
          have hxr2 : x < r := by omega
          obtain ⟨g, cap, rfl, hg, hgs, hgc, hgc2⟩ := ow_shape hown (by omega)
          obtain ⟨c2, f2⟩ := ow_int hown (k := x) hxr2
          rw [liI_get f hxr2] at c2
          have hx0 : (0 : Int) ≤ (x : Int) := by omega
          have hx1 : (x : Int) < (r : Int) := by omega
          have HE : Hid ((liI f r ++ [((f x : Nat) : Int)]).set x (r : Int) = liI (sw f r x) (r + 1)) := Lib.hid (by
            rw [← liI_sw f (show r < r + 1 by omega) (show x < r + 1 by omega), hhi]
            congr 1
            rw [liI_succ, List.set_append_right _ _ (by rw [liI_len]; exact Nat.le_refl _), liI_len, Nat.sub_self]
            rfl)
          go_wp2_with (at_builtin; refine wpList_append_own _ rfl _ _ 22 rfl w.heap.size 3 i0 (.int .i64 0) 1 8 Try.underlying22 hi hz0 hz1 hz2 rfl (by decide) _ r _ rfl (hown.alloc _) ⟨wq.heap.size, 0, none⟩ 1 1 [.int .i64 ((f x : Nat) : Int)] rfl rfl ?d1 ?d2 ?d3 ?d4 ?d5 ?_)
          try (case d1 => exact one_cell wq _ _)
          try (case d2 => first | rfl | (intro u hu; simp at hu; subst hu; rfl))
          try (case d3 => first | (unfold maxLen; omega) | omega)
          try (case d4 => omega)
          try (case d5 => first | (simp; have := hnew.le; omega) | (have := hnew.le; omega))
          intro v' w2 how hgr _
          have hn2 := (hnew.alloc _).grown' hgr (own_base hown)
          have how2 : w2.ownsRow w.heap.size 3 1 v' (r + 1) ((liI f r ++ [((f x : Nat) : Int)]).map fun x => .int .i64 x) := by rw [List.map_append]; exact how
          obtain ⟨g2, cap2, rfl, hg2, _, _, _⟩ := ow_shape how2 (by omega)
          obtain ⟨c3, f3⟩ := ow_int how2 (k := x) (by omega)
          have HO2 : Hid ((w2.setCell ⟨g2, x, none⟩ (.int .i64 (r : Int))).ownsRow w.heap.size 3 1 (.slice (some ⟨g2, 0, none⟩) (r + 1 : Nat) cap2) (0 + (i + 1)) ((liI (frS f0 0 (fnI d) (i + 1)) (0 + (i + 1))).map fun x => .int .i64 x)) := Lib.hid (by
            rw [HST.out, hr1, ← HE.out, List.map_set]; exact ow_set how2 x _)
          have HN1 : Hid (New w (w2.setCell ⟨g2, x, none⟩ (.int .i64 (r : Int)))) := Lib.hid (hn2.setCell hg2 _)
          have hx2 : (x : Int) < (r : Int) + 1 := by omega
          clear how hgr hown hnew how2 hn2
          go_wp2
          exact ⟨⟨i + 1, by omega, by go_num, HO2.out, HN1.out⟩, by simp [intOf]; omega⟩
      · obtain rfl : i = m := by omega
        obtain ⟨a', c', rfl, hz⟩ := ZRow.of_owns hown (by omega) (in64_li _ (fun x hx => by have := HLT.out x hx; have := HKN.out; omega))
        have HZ := Lib.hid hz
        have HN := Lib.hid hnew
        clear hown hz hnew
        go_wp2
        go_ret
        exact ⟨_, _, rfl, (by have h9 := HZ.out; rw [Nat.zero_add] at h9; exact h9), HN.out⟩
  · go_enter Try.func19, Try.ntmps19
    go_wp2_with (at_builtin; refine wpList_append_own _ rfl _ _ 22 rfl w.heap.size 3 i0 (.int .i64 0) 1 8 Try.underlying22 hi hz0 hz1 hz2 rfl (by decide) _ 0 [] rfl (World.ownsRow_nil w _ _ 1) x k ca ((liI f0 k).map fun x => .int .i64 x) rfl ?f1 ?f2 ?f3 ?f4 ?f5 ?f6 ?_)
    try (case f1 => rw [List.length_map, liI_len]; omega)
    try (case f2 => intro j u hj; exact HF.out.olds x rfl j u hj)
    try (case f3 => intro u hu; rw [List.mem_map] at hu; obtain ⟨y, _, rfl⟩ := hu; rfl)
    try (case f4 => unfold maxLen; omega)
    try (case f5 => omega)
    try (case f6 => exact Nat.le_refl _)
    intro v1 w1 how hgr _
    have HN := Lib.hid ((New.refl w).grown' hgr (fun k hk => by cases hk))
    have HO := Lib.hid (hHK.out w1 HN.out _ (by simpa using how))
    clear how hgr hHK HF
    go_wp2_with fail
    go_loopw [5, 14] (fun v iv wr => ∃ i : Nat, i ≤ m ∧ iv = .int .i64 (i : Int) ∧ wr.ownsRow w.heap.size 3 1 v (k + i) ((liI (frS f0 k (fnI d) i) (k + i)).map fun x => .int .i64 x) ∧ New w wr) (fun _ iv _ => m - (intOf iv).toNat)
    case atStart => exact ⟨0, Nat.zero_le _, rfl, HO.out, HN.out⟩
    case round =>
      clear HO HN
      obtain ⟨i, hi9, rfl, hown, hnew⟩ := hrel
      obtain ⟨wq, hwq⟩ : ∃ z, z = wr := ⟨_, rfl⟩
      rw [← hwq] at hown hnew ⊢
      clear hwq
      by_cases hlt : (i : Int) < (m : Int)
      · have hi0 : (0 : Int) ≤ (i : Int) := by omega
        obtain ⟨b, off, rfl, hc⟩ := (HH.out.stay hnew).addr (by omega)
        have c1 := hc i (by omega)
        have hdi := HD.out i (by omega)
        have hhi := HHI.out i (by omega)
        obtain ⟨x, hx⟩ : ∃ x : Nat, d.getD i 0 = (x : Int) := ⟨(d.getD i 0).toNat, by omega⟩
        have hfx : fnI d i = x := by unfold fnI; rw [hx]; rfl
        have HST : Hid (frS f0 k (fnI d) (i + 1) = sw (frS f0 k (fnI d) i) (k + i) x) := Lib.hid (by show sw _ _ _ = _; rw [hfx])
        rw [hx] at c1
        obtain ⟨r, hr⟩ : ∃ r, k + i = r := ⟨_, rfl⟩
        have hri : (k : Int) + (i : Int) = (r : Int) := by omega
        have hr1 : k + (i + 1) = r + 1 := by omega
        have hxr : x ≤ r := by omega
        obtain ⟨f, hf⟩ : ∃ f, frS f0 k (fnI d) i = f := ⟨_, rfl⟩
        rw [hf, hr] at hown hhi HST
        have hr256 : r ≤ 256 := by omega
        clear hc hdi hx hfx hf hr
        by_cases he : x = r
        · subst he
          have hb : ((x : Int) == (x : Int)) = true := by simp
          have HE : Hid (liI (sw f x x) (x + 1) = liI f x ++ [(x : Int)]) := Lib.hid (by
            rw [sw_same, liI_succ, hhi])
          go_wp2_with (at_builtin; refine wpList_append_own _ rfl _ _ 22 rfl w.heap.size 3 i0 (.int .i64 0) 1 8 Try.underlying22 hi hz0 hz1 hz2 rfl (by decide) _ x _ rfl (hown.alloc _) ⟨wq.heap.size, 0, none⟩ 1 1 [.int .i64 (x : Int)] rfl rfl ?c1 ?c2 ?c3 ?c4 ?c5 ?_)
          try (case c1 => exact one_cell wq _ _)
          try (case c2 => first | rfl | (intro u hu; simp at hu; subst hu; rfl))
          try (case c3 => first | (unfold maxLen; omega) | omega)
          try (case c4 => omega)
          try (case c5 => first | (simp; have := hnew.le; omega) | (have := hnew.le; omega))
          intro v' w2 how hgr _
          have HO2 : Hid (w2.ownsRow w.heap.size 3 1 v' (k + (i + 1)) ((liI (frS f0 k (fnI d) (i + 1)) (k + (i + 1))).map fun x => .int .i64 x)) := Lib.hid (by
            rw [HST.out, hr1, HE.out, List.map_append]; exact how)
          have HN1 := Lib.hid ((hnew.alloc _).grown' hgr (own_base hown))
          clear how hgr hown hnew
          go_wp2
          exact ⟨⟨i + 1, by omega, by go_num, HO2.out, HN1.out⟩, by simp [intOf]; omega⟩
        · have hb : ((x : Int) == (r : Int)) = false := by rw [beq_eq_false_iff_ne]; omega
          have hxr2 : x < r := by omega
          obtain ⟨g, cap, rfl, hg, hgs, hgc, hgc2⟩ := ow_shape hown (by omega)
          obtain ⟨c2, f2⟩ := ow_int hown (k := x) hxr2
          rw [liI_get f hxr2] at c2
          have hx0 : (0 : Int) ≤ (x : Int) := by omega
          have hx1 : (x : Int) < (r : Int) := by omega
          have HE : Hid ((liI f r ++ [((f x : Nat) : Int)]).set x (r : Int) = liI (sw f r x) (r + 1)) := Lib.hid (by
            rw [← liI_sw f (show r < r + 1 by omega) (show x < r + 1 by omega), hhi]
            congr 1
            rw [liI_succ, List.set_append_right _ _ (by rw [liI_len]; exact Nat.le_refl _), liI_len, Nat.sub_self]
            rfl)
          go_wp2_with (at_builtin; refine wpList_append_own _ rfl _ _ 22 rfl w.heap.size 3 i0 (.int .i64 0) 1 8 Try.underlying22 hi hz0 hz1 hz2 rfl (by decide) _ r _ rfl (hown.alloc _) ⟨wq.heap.size, 0, none⟩ 1 1 [.int .i64 ((f x : Nat) : Int)] rfl rfl ?d1 ?d2 ?d3 ?d4 ?d5 ?_)
          try (case d1 => exact one_cell wq _ _)
          try (case d2 => first | rfl | (intro u hu; simp at hu; subst hu; rfl))
          try (case d3 => first | (unfold maxLen; omega) | omega)
          try (case d4 => omega)
          try (case d5 => first | (simp; have := hnew.le; omega) | (have := hnew.le; omega))
          intro v' w2 how hgr _
          have hn2 := (hnew.alloc _).grown' hgr (own_base hown)
          have how2 : w2.ownsRow w.heap.size 3 1 v' (r + 1) ((liI f r ++ [((f x : Nat) : Int)]).map fun x => .int .i64 x) := by rw [List.map_append]; exact how
          obtain ⟨g2, cap2, rfl, hg2, _, _, _⟩ := ow_shape how2 (by omega)
          obtain ⟨c3, f3⟩ := ow_int how2 (k := x) (by omega)
          have HO2 : Hid ((w2.setCell ⟨g2, x, none⟩ (.int .i64 (r : Int))).ownsRow w.heap.size 3 1 (.slice (some ⟨g2, 0, none⟩) (r + 1 : Nat) cap2) (k + (i + 1)) ((liI (frS f0 k (fnI d) (i + 1)) (k + (i + 1))).map fun x => .int .i64 x)) := Lib.hid (by
            rw [HST.out, hr1, ← HE.out, List.map_set]; exact ow_set how2 x _)
          have HN1 : Hid (New w (w2.setCell ⟨g2, x, none⟩ (.int .i64 (r : Int)))) := Lib.hid (hn2.setCell hg2 _)
          have hx2 : (x : Int) < (r : Int) + 1 := by omega
          clear how hgr hown hnew how2 hn2
          go_wp2
          exact ⟨⟨i + 1, by omega, by go_num, HO2.out, HN1.out⟩, by simp [intOf]; omega⟩
      · obtain rfl : i = m := by omega
        obtain ⟨a', c', rfl, hz⟩ := ZRow.of_owns hown (by omega) (in64_li _ (fun x hx => by have := HLT.out x hx; have := HKN.out; omega))
        have HZ := Lib.hid hz
        have HN := Lib.hid hnew
        clear hown hz hnew
        go_wp2
        go_ret
        exact ⟨_, _, rfl, HZ.out, HN.out⟩
end Go.Proofs.Ytajjpllhihgkdaa
