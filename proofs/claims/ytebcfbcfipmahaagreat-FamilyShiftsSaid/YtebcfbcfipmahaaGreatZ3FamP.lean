import Derived.Test.YtebcfbcfipmahaaGreatZ3FamN
import Derived.Test.YtebcfbcfipmahaaGreatZ3FamF
import Derived.Test.YtebcfbcfipmahaaGreatZ3MadM
section
/- Layer 27: the document's Target and Aimed. -/
namespace Go.Proofs.YtebcfbcfipmahaaGreat
open Go Go.RowKit Go.Bv Go.Tab
set_option linter.unusedVariables false
set_option maxRecDepth 100000
theorem rkey_any (k : Int) (hk : okF k = true) (x : BitVec 64) (w : World) : Calls Tryz.prog 29 #[.int .i64 k, .int .u64 (W64 x)] w fun e w' => e = .returned (.bool (keyK k x)) ∧ New w w' := by
  rcases okF_k hk with rfl | rfl | rfl | rfl | rfl | rfl | rfl | rfl
  · exact rkey_1 x w
  · exact rkey_2 x w
  · exact rkey_3 x w
  · exact rkey_4 x w
  · exact rkey_5 x w
  · exact rkey_6 x w
  · exact rkey_7 x w
  · exact rkey_8 x w
/-- whether a number may be a target -/
def tarK (k b : Int) (y : BitVec 64) : Bool := if k = 1 then decide (y.toNat < PP) else y >>> b.toNat == 0#64
theorem low_is (y : BitVec 64) (m : Nat) (hm : m ≤ 64) : (lowN y m == y) = (y >>> m == 0#64) := by
  have h := low_same y m hm
  rw [bne] at h
  exact Bool.not_inj h
theorem rtar_27 (k b : Int) (a : Option Addr) (n c : Nat) (y : BitVec 64) (w : World) (hb1 : 1 ≤ b) (hb2 : b ≤ 64) : Calls Tryz.prog 43 #[.agg (sdc k b a n c), .int .u64 (W64 y)] w fun e w' => e = .returned (.bool (tarK k b y)) ∧ New w w' := by
  by_cases h1 : k = 1
  · subst h1
    by_cases hp : y.toNat < PP
    · rw [show tarK 1 b y = true from decide_eq_true hp]
      have hw : decide (W64 y < 2305843009213693951) = true := decide_eq_true (by unfold W64; unfold PP at hp; omega)
      clear hp hb1 hb2
      go_enter Tryz.func43, Tryz.ntmps43
      go_wp2
      go_ret
      exact ⟨rfl, (New.refl _).alloc _⟩
    · rw [show tarK 1 b y = false from decide_eq_false hp]
      have hw : decide (W64 y < 2305843009213693951) = false := decide_eq_false (by unfold W64; unfold PP at hp; omega)
      clear hp hb1 hb2
      go_enter Tryz.func43, Tryz.ntmps43
      go_wp2
      go_ret
      exact ⟨rfl, (New.refl _).alloc _⟩
  · have hk1 : (k == 1) = false := beq_eq_false_iff_ne.2 h1
    have e : tarK k b y = (lowN y b.toNat == y) := by unfold tarK; rw [if_neg h1, low_is _ _ (by omega)]
    rw [e]
    have HL := Lib.hid (fun w => low_ref y b b.toNat (by omega) (by omega) w)
    clear e h1 hb1 hb2
    generalize lowN y b.toNat = ly at *
    go_enter Tryz.func43, Tryz.ntmps43
    go_wp2_with fail
    refine (HL.out _).mono ?_
    rintro e w1 ⟨rfl, rfl⟩
    go_wp2
    go_ret
    exact ⟨rfl, (New.refl _).alloc _⟩
/-- a key or a target at i that may not be -/
def bad27 (k b : Int) (xl yl : List (BitVec 64)) (i : Nat) : Bool := !(keyK k (xl.getD i 0)) || !(tarK k b (yl.getD i 0))
/-- the error's number of a seed, keys and targets -/
def amE (k b : Int) (l xl yl : List (BitVec 64)) : Int :=
  if chF k b l ≠ 0 then chF k b l else if tgK k l.length = 0 then 6 else if (xl.length : Int) < 1 ∨ tgK k l.length < (xl.length : Int) ∨ xl.length ≠ yl.length then 1 else if (List.range xl.length).any (bad27 k b xl yl) then 2 else if (List.range xl.length).any (same2 xl) then 15 else 0
structure AmL (k b : Int) (l xl yl : List (BitVec 64)) : Prop where
  ch : chF k b l = 0
  tg : tgK k l.length ≠ 0
  ln : ¬ ((xl.length : Int) < 1 ∨ tgK k l.length < (xl.length : Int) ∨ xl.length ≠ yl.length)
theorem AmL.is {k b : Int} {l xl yl : List (BitVec 64)} (h : AmL k b l xl yl) : amE k b l xl yl = if (List.range xl.length).any (bad27 k b xl yl) then 2 else if (List.range xl.length).any (same2 xl) then 15 else 0 := by
  unfold amE; rw [if_neg (not_not_intro h.ch), if_neg h.tg, if_neg h.ln]
theorem AmL.bad {k b : Int} {l xl yl : List (BitVec 64)} (h : AmL k b l xl yl) {i : Nat} (hi : i < xl.length) (hb : bad27 k b xl yl i = true) : amE k b l xl yl = 2 := by
  rw [h.is, if_pos (List.any_eq_true.2 ⟨i, List.mem_range.2 hi, hb⟩)]
theorem AmL.same {k b : Int} {l xl yl : List (BitVec 64)} (h : AmL k b l xl yl) (h2 : ∀ j, j < xl.length → bad27 k b xl yl j = false) {i q : Nat} (hi : i < xl.length) (hk : q < i) (hb : xl.getD q 0 = xl.getD i 0) : amE k b l xl yl = 15 := by
  rw [h.is, none_bad h2, if_neg (by decide), if_pos (List.any_eq_true.2 ⟨i, List.mem_range.2 hi, ?_⟩)]
  unfold same2
  exact List.any_eq_true.2 ⟨q, List.mem_range.2 hk, by rw [hb]; exact beq_self_eq_true _⟩
theorem AmL.ok {k b : Int} {l xl yl : List (BitVec 64)} (h : AmL k b l xl yl) (h2 : ∀ j, j < xl.length → bad27 k b xl yl j = false) (h3 : ∀ j, j < xl.length → same2 xl j = false) : amE k b l xl yl = 0 := by
  rw [h.is, none_bad h2, if_neg (by decide), none_bad h3, if_neg (by decide)]
theorem bits_of {k b : Int} {l : List (BitVec 64)} (h : chF k b l = 0) : okF k = true ∧ 1 ≤ b ∧ b ≤ 64 := by
  obtain ⟨hok, _, _, h3, h4, _⟩ := chF_ok rfl h
  refine ⟨hok, ?_⟩
  rcases okF_k hok with rfl | rfl | rfl | rfl | rfl | rfl | rfl | rfl
  · have e1 : lbF 1 = 61 := rfl
    have e2 : mbF 1 = 61 := rfl
    omega
  · have e1 : lbF 2 = 1 := rfl
    have e2 : mbF 2 = 64 := rfl
    omega
  · have e1 : lbF 3 = 1 := rfl
    have e2 : mbF 3 = 32 := rfl
    omega
  · have e1 : lbF 4 = 1 := rfl
    have e2 : mbF 4 = 64 := rfl
    omega
  · have e1 : lbF 5 = 1 := rfl
    have e2 : mbF 5 = 64 := rfl
    omega
  · have e1 : lbF 6 = 1 := rfl
    have e2 : mbF 6 = 64 := rfl
    omega
  · have e1 : lbF 7 = 1 := rfl
    have e2 : mbF 7 = 64 := rfl
    omega
  · have e1 : lbF 8 = 61 := rfl
    have e2 : mbF 8 = 61 := rfl
    omega
set_option maxHeartbeats 8000000 in
theorem raimed_27 (k b : Int) (a : Option Addr) (n c : Nat) (l : List (BitVec 64)) (x : Option Addr) (nx cx : Nat) (xl : List (BitVec 64)) (y : Option Addr) (ny cy : Nat) (yl : List (BitVec 64)) (w : World) (h : QRow w a n c l) (hx : QRow w x nx cx xl) (hy : QRow w y ny cy yl) :
    Calls Tryz.prog 24 #[.agg (sdc k b a n c), .slice x nx cx, .slice y ny cy] w fun e w' => e = .returned (.int .i64 (amE k b l xl yl)) ∧ New w w' := by
  generalize hW : w.alloc (.cells (sdc k b a n c) 30) = w0
  have HB : Hid (w0.heap[w.heap.size]? = some (.cells (sdc k b a n c) 30 (0, 0))) := Lib.hid (by rw [← hW]; exact heap_alloc_new w _)
  have HN : Hid (New w w0) := Lib.hid (by rw [← hW]; exact (New.refl w).alloc _)
  have HCK := Lib.hid (rcheck_27 k b a n c l w0 (h.stay HN.out))
  have HTG := Lib.hid (fun (w' : World) (hn : New w0 w') => rtogether_27 k b a n c l w' ((h.stay HN.out).stay hn))
  have c0 := cell_of_row _ _ 0 _ _ _ HB.out
  have c1 := cell_of_row _ _ 1 _ _ _ HB.out
  have c2 := cell_of_row _ _ 2 _ _ _ HB.out
  by_cases hz : chF k b l = 0
  case neg =>
    have HE : Hid (amE k b l xl yl = chF k b l) := Lib.hid (by unfold amE; rw [if_pos hz])
    have hcb : (chF k b l != 0) = true := by rw [bne_iff_ne]; exact hz
    rw [HE.out]
    clear hz HE h hx hy HTG
    generalize chF k b l = ch at *
    go_enter Tryz.func24, Tryz.ntmps24
    go_wp2_with fail
    refine HCK.out.mono ?_
    rintro e w1 ⟨rfl, hn1⟩
    have HN1 := Lib.hid (HN.out.trans hn1)
    clear hn1
    go_wp2
    go_ret
    exact ⟨rfl, HN1.out⟩
  have HCHF := Lib.hid hz
  rw [hz] at HCK HTG
  simp only [if_true] at HTG
  have hlen := h.len_eq
  by_cases ht : tgK k n = 0
  · have HE : Hid (amE k b l xl yl = 6) := Lib.hid (by unfold amE; rw [if_neg (not_not_intro hz), if_pos (by rw [hlen]; exact ht)])
    rw [HE.out]
    rw [ht] at HTG
    clear hz HE h hx hy ht hlen
    go_enter Tryz.func24, Tryz.ntmps24
    go_wp2_with fail
    refine HCK.out.mono ?_
    rintro e w1 ⟨rfl, hn1⟩
    have HN1 := Lib.hid (HN.out.trans hn1)
    have HT2 := Lib.hid (HTG.out w1 hn1)
    have hb := (hn1.block _ (lt_of_block HB.out)).trans HB.out
    clear c0 c1 c2
    have c0 := cell_of_row _ _ 0 _ _ _ hb
    have c1 := cell_of_row _ _ 1 _ _ _ hb
    have c2 := cell_of_row _ _ 2 _ _ _ hb
    clear hn1 hb HTG HCK
    go_wp2_with fail
    refine HT2.out.mono ?_
    rintro e w2 ⟨rfl, hn2⟩
    have HN2 := Lib.hid (HN1.out.trans hn2)
    clear hn2
    go_wp2
    go_ret
    exact ⟨rfl, HN2.out⟩
  have HTN : Hid (tgK k l.length ≠ 0) := Lib.hid (by rw [hlen]; exact ht)
  have hlx := hx.len_eq
  have hly := hy.len_eq
  have hn0 := n_pos hlen hz
  have hxn := hx.none
  obtain ⟨hok, hb1, hb2⟩ := bits_of hz
  obtain ⟨tT, hT⟩ : ∃ t, tgK k n = t := ⟨_, rfl⟩
  rw [hT] at HTG ht
  have htb : (tT == 0) = false := beq_eq_false_iff_ne.2 ht
  by_cases h2 : (xl.length : Int) < 1 ∨ tgK k l.length < (xl.length : Int) ∨ xl.length ≠ yl.length
  · have HE : Hid (amE k b l xl yl = 1) := Lib.hid (by unfold amE; rw [if_neg (not_not_intro hz), if_neg HTN.out, if_pos h2])
    rw [HE.out]
    rw [hlx, hly, hlen, hT] at h2
    have h3 : (nx : Int) < 1 ∨ (¬ (nx : Int) < 1 ∧ tT < (nx : Int)) ∨ (¬ (nx : Int) < 1 ∧ ¬ tT < (nx : Int) ∧ ((nx : Int) != (ny : Int)) = true) := by
      rw [bne_iff_ne]; omega
    clear h2 hx hy hlx hly hz ht hT HE h hlen hn0 hok hb1 hb2 hxn
    rcases h3 with h3 | ⟨h3, h4⟩ | ⟨h3, h4, h5⟩
    all_goals (
      go_enter Tryz.func24, Tryz.ntmps24
      go_wp2_with fail
      refine HCK.out.mono ?_
      rintro e w1 ⟨rfl, hn1⟩
      have HN1 := Lib.hid (HN.out.trans hn1)
      have HT2 := Lib.hid (HTG.out w1 hn1)
      have hb := (hn1.block _ (lt_of_block HB.out)).trans HB.out
      clear c0 c1 c2
      have c0 := cell_of_row _ _ 0 _ _ _ hb
      have c1 := cell_of_row _ _ 1 _ _ _ hb
      have c2 := cell_of_row _ _ 2 _ _ _ hb
      clear hn1 hb HTG HCK
      go_wp2_with fail
      refine HT2.out.mono ?_
      rintro e w2 ⟨rfl, hn2⟩
      have HN2 := Lib.hid (HN1.out.trans hn2)
      clear hn2
      go_wp2
      go_ret
      exact ⟨rfl, HN2.out⟩)
  have HAM : Hid (AmL k b l xl yl) := Lib.hid ⟨hz, HTN.out, h2⟩
  have hn1 : 0 < nx := by omega
  obtain rfl : ny = nx := by omega
  have h3 : ¬ (ny : Int) < 1 := by omega
  have h4 : ¬ tT < (ny : Int) := by rw [hlx, hlen, hT] at h2; omega
  have h5 : ((ny : Int) != (ny : Int)) = false := by simp
  have hnm : (ny : Int) ≤ 4611686018427387904 := by have := hx.le; have := hx.most; omega
  obtain ⟨p1, o1, e1, _⟩ := hx.addr hn1
  subst e1
  obtain ⟨p2, o2, e2, _⟩ := hy.addr hn1
  subst e2
  have HX := Lib.hid hx
  have HY := Lib.hid hy
  have HLX := Lib.hid hlx
  have HKY := Lib.hid (fun z w => rkey_any k hok z w)
  have HTA := Lib.hid (fun z w => rtar_27 k b a n c z w hb1 hb2)
  have HBX := Lib.hid (fun (w' : World) (hn : New w0 w') => (hn.block _ (lt_of_block HB.out)).trans HB.out)
  clear h2 hx hy hlx hly hz ht hT h hlen hn0 hok hb1 hb2 hxn
  go_enter Tryz.func24, Tryz.ntmps24
  go_wp2_with fail
  refine HCK.out.mono ?_
  rintro e w1 ⟨rfl, hn1'⟩
  have HN1 := Lib.hid hn1'
  have HT2 := Lib.hid (HTG.out w1 hn1')
  have hb := HBX.out _ hn1'
  clear c0 c1 c2
  have c0 := cell_of_row _ _ 0 _ _ _ hb
  have c1 := cell_of_row _ _ 1 _ _ _ hb
  have c2 := cell_of_row _ _ 2 _ _ _ hb
  clear hn1' hb HTG HCK
  go_wp2_with fail
  refine HT2.out.mono ?_
  rintro e w2 ⟨rfl, hn2⟩
  have HN2 := Lib.hid (HN1.out.trans hn2)
  clear hn2 HT2 HN1 c0 c1 c2
  go_wp2_with fail
  go_loopw [39] (fun iv wr => ∃ q : Nat, q ≤ ny ∧ iv = .int .i64 (q : Int) ∧ Hid (New w0 wr) ∧ Hid (∀ j, j < q → bad27 k b xl yl j = false)) (fun iv _ => ny - (intOf iv).toNat)
  case atStart => exact ⟨0, Nat.zero_le _, rfl, HN2, Lib.hid (fun j hj => absurd hj (by omega))⟩
  case round =>
    obtain ⟨q, hq, rfl, HNQ, HG⟩ := hrel
    by_cases hlt : (q : Int) < (ny : Int)
    · have hk0 : (0 : Int) ≤ (q : Int) := by omega
      have hkn : q < ny := by omega
      have HBAD : Hid (bad27 k b xl yl q = (!(keyK k (xl.getD q 0)) || !(tarK k b (yl.getD q 0)))) := Lib.hid rfl
      have hc1 : ∀ w', New wr w' → w'.cell? ⟨p1, o1 + q, none⟩ = some (.int .u64 (W64 (xl.getD q 0))) := fun w' hn => (HX.out.stay (HN.out.trans (HNQ.out.trans hn))).cell p1 o1 rfl q hkn
      have hc2 : ∀ w', New wr w' → w'.cell? ⟨p2, o2 + q, none⟩ = some (.int .u64 (W64 (yl.getD q 0))) := fun w' hn => (HY.out.stay (HN.out.trans (HNQ.out.trans hn))).cell p2 o2 rfl q hkn
      have HTB := Lib.hid (fun hb => HAM.out.bad (i := q) (by rw [HLX.out]; exact hkn) hb)
      have HK1 := Lib.hid (fun w => HKY.out (xl.getD q 0) w)
      have HT1 := Lib.hid (fun w => HTA.out (yl.getD q 0) w)
      obtain ⟨bx, hbx⟩ : ∃ bx, keyK k (xl.getD q 0) = bx := ⟨_, rfl⟩
      obtain ⟨by_, hby⟩ : ∃ by_, tarK k b (yl.getD q 0) = by_ := ⟨_, rfl⟩
      rw [hbx] at HBAD HK1
      rw [hby] at HBAD HT1
      clear hbx hby
      generalize xl.getD q 0 = xv at *
      generalize yl.getD q 0 = yv at *
      rcases bx with _ | _ <;> rcases by_ with _ | _
      all_goals (
        go_wp2_with fail
        refine wp_region_class (fun w' => New wr w') (by kernel_rfl) (by kernel_rfl) (New.refl wr).drew ?_
        intro I _ f hall hback
        have s0 := fun n => hc1 _ (hall n)
        have s1 := fun n => hc2 _ (hall n)
        have s2 := fun n => cell_of_row _ _ 0 _ _ _ (HBX.out _ (HNQ.out.trans (hall n)))
        have s3 := fun n => cell_of_row _ _ 1 _ _ _ (HBX.out _ (HNQ.out.trans (hall n)))
        have s4 := fun n => cell_of_row _ _ 2 _ _ _ (HBX.out _ (HNQ.out.trans (hall n)))
        have HALL := Lib.hid hall
        have HSTEP : Hid (∀ n w', New (f n) w' → ∃ m, w' = f m) := Lib.hid fun n w' hn => hback w' ((hall n).trans hn)
        clear hall hback hc1 hc2
        repeat (go_big_quiet_step (first
          | (go_at_call 29; refine class_new HSTEP.out (HK1.out _))
          | (go_at_call 43; refine class_new HSTEP.out (HT1.out _))))
        refine wpQuiet_nil ?_
        rintro w9 ⟨n1, hw1⟩
        have hS := HALL.out n1
        rw [← hw1] at hS
        have HN9 := Lib.hid (HNQ.out.trans hS)
        clear HALL HSTEP hw1 hS s0 s1 s2 s3 s4
        go_wp2)
      · have HE := Lib.hid (HTB.out (by rw [HBAD.out]; rfl))
        go_ret
        rw [HE.out]
        exact ⟨rfl, HN.out.trans HN9.out⟩
      · have HE := Lib.hid (HTB.out (by rw [HBAD.out]; rfl))
        go_ret
        rw [HE.out]
        exact ⟨rfl, HN.out.trans HN9.out⟩
      · have HE := Lib.hid (HTB.out (by rw [HBAD.out]; rfl))
        go_ret
        rw [HE.out]
        exact ⟨rfl, HN.out.trans HN9.out⟩
      · have HG2 : Hid (∀ j, j < q + 1 → bad27 k b xl yl j = false) := Lib.hid (fun j hj => by
          by_cases e : j = q
          · subst e; rw [HBAD.out]; rfl
          · exact HG.out j (by omega))
        exact ⟨⟨q + 1, by omega, by go_num, HN9, HG2⟩, by simp [intOf]; omega⟩
    · obtain rfl : q = ny := by omega
      go_wp2
      go_loopw [62] (fun iv wr => ∃ i : Nat, i ≤ q ∧ iv = .int .i64 (i : Int) ∧ Hid (New w0 wr) ∧ Hid (∀ j, j < i → same2 xl j = false)) (fun iv _ => q - (intOf iv).toNat)
      case atStart => exact ⟨0, Nat.zero_le _, rfl, HNQ, Lib.hid (fun j hj => absurd hj (by omega))⟩
      case round =>
        clear HNQ
        obtain ⟨i, hi, rfl, HNI, HS⟩ := hrel
        by_cases hlt2 : (i : Int) < (q : Int)
        · have hi0 : (0 : Int) ≤ (i : Int) := by omega
          have hin : i < q := by omega
          obtain ⟨xv, hxv⟩ : ∃ xv, xl.getD i 0 = xv := ⟨_, rfl⟩
          have HXV := Lib.hid hxv
          clear hxv
          go_wp2
          go_loopw [11] (fun iv wr => ∃ j : Nat, j ≤ i ∧ iv = .int .i64 (j : Int) ∧ Hid (New w0 wr) ∧ Hid (∀ q, q < j → xl.getD q 0 ≠ xl.getD i 0)) (fun iv _ => i - (intOf iv).toNat)
          case atStart => exact ⟨0, Nat.zero_le _, rfl, HNI, Lib.hid (fun j hj => absurd hj (by omega))⟩
          case round =>
            clear HNI
            obtain ⟨j, hj, rfl, HNJ, HD⟩ := hrel
            by_cases hlt3 : (j : Int) < (i : Int)
            · have hj0 : (0 : Int) ≤ (j : Int) := by omega
              have hjk : (j : Int) < (q : Int) := by omega
              have d1 := (HX.out.stay (HN.out.trans HNJ.out)).cell p1 o1 rfl i hin
              have d2 := (HX.out.stay (HN.out.trans HNJ.out)).cell p1 o1 rfl j (by omega)
              obtain ⟨yv, hyv⟩ : ∃ yv, xl.getD j 0 = yv := ⟨_, rfl⟩
              rw [hyv] at d2
              rw [HXV.out] at d1
              have HYV := Lib.hid hyv
              clear hyv
              rcases hb : (yv == xv) with _ | _
              · have HD2 : Hid (∀ q, q < j + 1 → xl.getD q 0 ≠ xl.getD i 0) := Lib.hid (fun q hq => by
                  by_cases e : q = j
                  · subst e; rw [HYV.out, HXV.out]; exact beq_eq_false_iff_ne.1 hb
                  · exact HD.out q (by omega))
                have HND := Lib.hid HNJ.out.drew
                go_wp2
                go_region
                go_wp2
                first
                  | exact ⟨⟨j + 1, by omega, by go_num, HNJ, HD2⟩, by simp [intOf]; omega⟩
                  | exact ⟨⟨j + 1, by omega, by go_num, HND, HD2⟩, by simp [intOf]; omega⟩
              · have HE := Lib.hid (HAM.out.same (by rw [HLX.out]; exact HG.out) (i := i) (q := j) (by rw [HLX.out]; exact hin) (by omega) (by rw [HYV.out, HXV.out]; exact beq_iff_eq.1 hb))
                have HND := Lib.hid HNJ.out.drew
                go_wp2
                go_region
                go_wp2
                go_ret
                rw [HE.out]
                first | exact ⟨rfl, HN.out.trans HNJ.out⟩ | exact ⟨rfl, HN.out.trans HND.out⟩
            · obtain rfl : j = i := by omega
              have HS2 : Hid (∀ q, q < j + 1 → same2 xl q = false) := Lib.hid (fun q hq => by
                by_cases e : q = j
                · subst e; exact same2_no HD.out
                · exact HS.out q (by omega))
              go_wp2
              exact ⟨⟨j + 1, by omega, by go_num, HNJ, HS2⟩, by simp [intOf]; omega⟩
        · obtain rfl : i = q := by omega
          have HE := Lib.hid (HAM.out.ok (by rw [HLX.out]; exact HG.out) (by rw [HLX.out]; exact HS.out))
          go_wp2
          go_ret
          rw [HE.out]
          exact ⟨rfl, HN.out.trans HNI.out⟩
end Go.Proofs.YtebcfbcfipmahaaGreat
end
section
/- The law MaddEvals, walked. -/
namespace Go.Proofs.YtebcfbcfipmahaaGreat
open Go.RowKit Go.Bv
set_option linter.unusedVariables false
end Go.Proofs.YtebcfbcfipmahaaGreat
end
section
/- The document's Low of layer 21. -/
namespace Go.Bv
open Go Go.RowKit
end Go.Bv
namespace Go.Proofs.YtebcfbcfipmahaaGreat
open Go Go.RowKit Go.Bv
set_option linter.unusedVariables false
end Go.Proofs.YtebcfbcfipmahaaGreat
end
section
/- The law MaddStays, walked. -/
namespace Go.Proofs.YtebcfbcfipmahaaGreat
open Go Go.RowKit Go.Bv
set_option linter.unusedVariables false
end Go.Proofs.YtebcfbcfipmahaaGreat
end
section
/- madd.Shift as a whole, and MaddStays. -/
namespace Go.Bv
open Go Go.RowKit
theorem sl_high {wd a k inv r : Nat} : slN wd a k inv r / 2 ^ (wd - k) = a / 2 ^ (wd - k) := by
  unfold slN
  have hP := Nat.two_pow_pos (wd - k)
  generalize 2 ^ (wd - k) = P at *
  generalize r / 2 ^ k * inv = s
  have h1 := Nat.mod_lt s hP
  have h2 := Nat.div_add_mod a P
  rw [show a - a % P = P * (a / P) by omega, Nat.add_mul_div_left _ _ hP, Nat.div_eq_of_lt h1, Nat.zero_add]
theorem inv2_low {o : Nat} (ho : o % 2 = 1) {n : Nat} (hn : n ≤ 128) : o * inv2 o % 2 ^ n = 1 % 2 ^ n := by
  have h := inv2_one o (by unfold loN; rw [BitVec.toNat_ofNat]; omega)
  rw [← mod_small (n := o * inv2 o) hn, h]
theorem ad_lt (wd at' a x : Nat) : adN wd at' a x < 2 ^ wd := Nat.mod_lt _ (Nat.two_pow_pos _)
end Go.Bv
namespace Go.Proofs.YtebcfbcfipmahaaGreat
open Go Go.RowKit Go.Bv
set_option linter.unusedVariables false
theorem shift_right (A B wd kd j : Nat) (hA : A < 2 ^ wd) (hB : B < 2 ^ wd) (hwk : wd = 2 * kd) (hkd : kd ≤ 64) (hjk : j ≤ kd) (hj1 : 1 ≤ j) (x y u v : BitVec 64) (hx : x.toNat < 2 ^ kd) (hy : y.toNat < 2 ^ kd) (hu : u.toNat < 2 ^ j) (hv : v.toNat < 2 ^ j) (hne : x ≠ y) (kind : Int) (HS : Hid (∀ w : World, Calls Tryz.prog 126 #[.int .i64 kind] w fun e w' => e = .returned (.tuple #[.agg #[.int .i64 (wd : Int), .int .i64 (kd : Int), .int .i64 (kd : Int)], .bool true]) ∧ New w w')) :
    ∃ C D, C < 2 ^ wd ∧ D < 2 ^ wd ∧ lnN wd C D x.toNat = hdN wd j (lnN wd A B x.toNat) u.toNat ∧ lnN wd C D y.toNat = hdN wd j (lnN wd A B y.toNat) v.toNat ∧
      (∀ w : World, Calls Tryz.prog 87 #[.int .i64 kind, .int .i64 (j : Int), .agg #[.int .u64 (W64 (hiN (A))), .int .u64 (W64 (loN (A)))], .agg #[.int .u64 (W64 (hiN (B))), .int .u64 (W64 (loN (B)))], .int .u64 (W64 x), .int .u64 (W64 y), .int .u64 (W64 u), .int .u64 (W64 v)] w fun e w' => e = .returned (.tuple #[.agg #[.int .u64 (W64 (hiN (C))), .int .u64 (W64 (loN (C)))], .agg #[.int .u64 (W64 (hiN (D))), .int .u64 (W64 (loN (D)))], .int .i64 0]) ∧ New w w') ∧
      (∀ w : World, Calls Tryz.prog 87 #[.int .i64 kind, .int .i64 (j : Int), .agg #[.int .u64 (W64 (hiN (C))), .int .u64 (W64 (loN (C)))], .agg #[.int .u64 (W64 (hiN (D))), .int .u64 (W64 (loN (D)))], .int .u64 (W64 x), .int .u64 (W64 y), .int .u64 (W64 (loN (lnN wd A B x.toNat / 2 ^ (wd - j)))), .int .u64 (W64 (loN (lnN wd A B y.toNat / 2 ^ (wd - j))))] w fun e w' => e = .returned (.tuple #[.agg #[.int .u64 (W64 (hiN (A))), .int .u64 (W64 (loN (A)))], .agg #[.int .u64 (W64 (hiN (B))), .int .u64 (W64 (loN (B)))], .int .i64 0]) ∧ New w w') := by
  have hwd : wd ≤ 128 := by omega
  have hjw : j ≤ wd := by omega
  have hP : 2 ^ wd ≤ 2 ^ 128 := Nat.pow_le_pow_right (by decide) hwd
  have hQ : 2 ^ j ≤ 2 ^ 64 := Nat.pow_le_pow_right (by decide) (by omega)
  have hxy : (x == y) = false := beq_false_of_ne hne
  have hnn : x.toNat ≠ y.toNat := fun e => hne (BitVec.eq_of_toNat_eq e)
  obtain ⟨k, o, hrun, ho, hk, hlow⟩ := run_parts hkd hx hy hnn
  have hx128 : x.toNat < 2 ^ 128 := by have := x.isLt; omega
  have hy128 : y.toNat < 2 ^ 128 := by have := y.isLt; omega
  have hinv := inv2_low ho (show wd - k ≤ 128 by omega)
  have fit : ∀ (z : BitVec 64) (n : Nat), z.toNat < 2 ^ n → Hid (∀ w : World, Calls Tryz.prog 127 #[.int .u64 (W64 z), .int .i64 (n : Int)] w fun e w' => e = .returned (.bool true) ∧ New w w') := fun z n h => Lib.hid fun w => by
    have := fits_a z n w
    rw [shr_none, decide_eq_true h] at this
    exact this
  have hA2 : A < 2 ^ 128 := by omega
  have hB2 : B < 2 ^ 128 := by omega
  have s1 := madshift_ok A B wd kd j k o hA hB hwd hjw hkd (by omega) x y u v hrun ho hk hu hv hxy kind (Lib.hid (check_ok A B wd kd hA2 hB2 hwd kind (j : Int) (by omega) (by omega) hA hB HS)) HS (fit x kd hx) (fit y kd hy) (fit u j hu) (fit v j hv)
  obtain ⟨t1, t2⟩ := shift_there (A := A) (B := B) (x := x.toNat) (y := y.toNat) hwd hjw (show k ≤ wd - j by omega) hu hv hx128 hy128 hrun hlow hinv A
  have hc := sl_high (wd := wd) (a := A) (k := k) (inv := inv2 o) (r := dfN (hdN wd j (lnN wd A B x.toNat) u.toNat) (hdN wd j (lnN wd A B y.toNat) v.toNat))
  have hC := sl_lt A k (inv2 o) (dfN (hdN wd j (lnN wd A B x.toNat) u.toNat) (hdN wd j (lnN wd A B y.toNat) v.toNat)) (show k ≤ wd by omega) hA
  have hD := ad_lt wd (hdN wd j (lnN wd A B x.toNat) u.toNat) (slN wd A k (inv2 o) (dfN (hdN wd j (lnN wd A B x.toNat) u.toNat) (hdN wd j (lnN wd A B y.toNat) v.toNat))) x.toNat
  generalize adN wd (hdN wd j (lnN wd A B x.toNat) u.toNat) (slN wd A k (inv2 o) (dfN (hdN wd j (lnN wd A B x.toNat) u.toNat) (hdN wd j (lnN wd A B y.toNat) v.toNat))) x.toNat = D at *
  generalize slN wd A k (inv2 o) (dfN (hdN wd j (lnN wd A B x.toNat) u.toNat) (hdN wd j (lnN wd A B y.toNat) v.toNat)) = C at *
  refine ⟨C, D, hC, hD, t1, t2, s1, ?_⟩
  have word : ∀ z : Nat, (loN (lnN wd A B z / 2 ^ (wd - j))).toNat = lnN wd A B z / 2 ^ (wd - j) ∧ lnN wd A B z / 2 ^ (wd - j) < 2 ^ j := fun z => by
    have h1 := ln_lt wd A B z
    have h2 : lnN wd A B z / 2 ^ (wd - j) < 2 ^ j := by
      rw [Nat.div_lt_iff_lt_mul (Nat.two_pow_pos _), ← Nat.pow_add, show j + (wd - j) = wd by omega]; exact h1
    refine ⟨?_, h2⟩
    unfold loN
    rw [BitVec.toNat_ofNat, Nat.mod_eq_of_lt (by omega)]
  have wx := word x.toNat
  have wy := word y.toNat
  have hC2 : C < 2 ^ 128 := by omega
  have hD2 : D < 2 ^ 128 := by omega
  have s2 := madshift_ok C D wd kd j k o hC hD hwd hjw hkd (by omega) x y (loN (lnN wd A B x.toNat / 2 ^ (wd - j))) (loN (lnN wd A B y.toNat / 2 ^ (wd - j))) hrun ho hk (by rw [wx.1]; exact wx.2) (by rw [wy.1]; exact wy.2) hxy kind (Lib.hid (check_ok C D wd kd hC2 hD2 hwd kind (j : Int) (by omega) (by omega) hC hD HS)) HS (fit x kd hx) (fit y kd hy) (fit _ j (by rw [wx.1]; exact wx.2)) (fit _ j (by rw [wy.1]; exact wy.2))
  have b1 : hdN wd j (lnN wd C D x.toNat) (loN (lnN wd A B x.toNat / 2 ^ (wd - j))).toNat = lnN wd A B x.toNat := by
    rw [wx.1, t1]; exact hd_back _ hd_mod
  have b2 : hdN wd j (lnN wd C D y.toNat) (loN (lnN wd A B y.toNat / 2 ^ (wd - j))).toNat = lnN wd A B y.toNat := by
    rw [wy.1, t2]; exact hd_back _ hd_mod
  rw [b1, b2] at s2
  obtain ⟨r1, r2⟩ := shift_back (A := A) (B := B) (x := x.toNat) (y := y.toNat) hwd (show k ≤ wd by omega) hB hx128 hy128 hrun hlow hinv C hc
  rw [r1, r2] at s2
  exact s2
end Go.Proofs.YtebcfbcfipmahaaGreat
end
