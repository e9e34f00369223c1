import Derived.Test.YtebcfbcfipmahaaGreatZ3FamL
/- Layer 27: the document's values. -/
namespace Go.Proofs.YtebcfbcfipmahaaGreat
open Go.RowKit Go.Bv
set_option linter.unusedVariables false
set_option maxRecDepth 100000
/-- whether a word is a key of a kind -/
def keyK (k : Int) (x : BitVec 64) : Bool := if k = 1 then decide (x.toNat < PP) else (kyF k == 64 || decide (x.toNat < 4294967296))
theorem rkey_1 (x : BitVec 64) (w : World) : Calls Tryz.prog 29 #[.int .i64 1, .int .u64 (W64 x)] w fun e w' => e = .returned (.bool (keyK 1 x)) ∧ New w w' := by
  by_cases hp : x.toNat < PP
  · rw [show keyK 1 x = true from decide_eq_true hp]
    have hw : decide (W64 x < 2305843009213693951) = true := decide_eq_true (by unfold W64; unfold PP at hp; omega)
    clear hp
    go_enter Tryz.func29, Tryz.ntmps29
    go_wp2
    go_ret
    exact ⟨rfl, New.refl _⟩
  · rw [show keyK 1 x = false from decide_eq_false hp]
    have hw : decide (W64 x < 2305843009213693951) = false := decide_eq_false (by unfold W64; unfold PP at hp; omega)
    clear hp
    go_enter Tryz.func29, Tryz.ntmps29
    go_wp2
    go_ret
    exact ⟨rfl, New.refl _⟩
theorem rkey_2 (x : BitVec 64) (w : World) : Calls Tryz.prog 29 #[.int .i64 2, .int .u64 (W64 x)] w fun e w' => e = .returned (.bool (keyK 2 x)) ∧ New w w' := by
  rw [show keyK 2 x = true from rfl]
  have HK := Lib.hid (fun w => rkeys_27 2 w)
  rw [show kyF 2 = 64 from rfl] at HK
  go_enter Tryz.func29, Tryz.ntmps29
  go_wp2_with fail
  refine (HK.out _).mono ?_
  rintro e w1 ⟨rfl, hn⟩
  go_wp2
  go_ret
  exact ⟨rfl, hn⟩
theorem rkey_3 (x : BitVec 64) (w : World) : Calls Tryz.prog 29 #[.int .i64 3, .int .u64 (W64 x)] w fun e w' => e = .returned (.bool (keyK 3 x)) ∧ New w w' := by
  have HK := Lib.hid (fun w => rkeys_27 3 w)
  rw [show kyF 3 = 32 from rfl] at HK
  by_cases hp : x.toNat < 4294967296
  · rw [show keyK 3 x = true from by unfold keyK; rw [if_neg (by omega), decide_eq_true hp, Bool.or_true]]
    have hw : decide (W64 x < 4294967296) = true := decide_eq_true (by unfold W64; omega)
    clear hp
    go_enter Tryz.func29, Tryz.ntmps29
    go_wp2_with fail
    refine (HK.out _).mono ?_
    rintro e w1 ⟨rfl, hn⟩
    go_wp2
    go_ret
    exact ⟨rfl, hn⟩
  · rw [show keyK 3 x = false from by unfold keyK; rw [if_neg (by omega), decide_eq_false hp, Bool.or_false]; rfl]
    have hw : decide (W64 x < 4294967296) = false := decide_eq_false (by unfold W64; omega)
    clear hp
    go_enter Tryz.func29, Tryz.ntmps29
    go_wp2_with fail
    refine (HK.out _).mono ?_
    rintro e w1 ⟨rfl, hn⟩
    go_wp2
    go_ret
    exact ⟨rfl, hn⟩
theorem rkey_4 (x : BitVec 64) (w : World) : Calls Tryz.prog 29 #[.int .i64 4, .int .u64 (W64 x)] w fun e w' => e = .returned (.bool (keyK 4 x)) ∧ New w w' := by
  rw [show keyK 4 x = true from rfl]
  have HK := Lib.hid (fun w => rkeys_27 4 w)
  rw [show kyF 4 = 64 from rfl] at HK
  go_enter Tryz.func29, Tryz.ntmps29
  go_wp2_with fail
  refine (HK.out _).mono ?_
  rintro e w1 ⟨rfl, hn⟩
  go_wp2
  go_ret
  exact ⟨rfl, hn⟩
theorem rkey_5 (x : BitVec 64) (w : World) : Calls Tryz.prog 29 #[.int .i64 5, .int .u64 (W64 x)] w fun e w' => e = .returned (.bool (keyK 5 x)) ∧ New w w' := by
  have HK := Lib.hid (fun w => rkeys_27 5 w)
  rw [show kyF 5 = 32 from rfl] at HK
  by_cases hp : x.toNat < 4294967296
  · rw [show keyK 5 x = true from by unfold keyK; rw [if_neg (by omega), decide_eq_true hp, Bool.or_true]]
    have hw : decide (W64 x < 4294967296) = true := decide_eq_true (by unfold W64; omega)
    clear hp
    go_enter Tryz.func29, Tryz.ntmps29
    go_wp2_with fail
    refine (HK.out _).mono ?_
    rintro e w1 ⟨rfl, hn⟩
    go_wp2
    go_ret
    exact ⟨rfl, hn⟩
  · rw [show keyK 5 x = false from by unfold keyK; rw [if_neg (by omega), decide_eq_false hp, Bool.or_false]; rfl]
    have hw : decide (W64 x < 4294967296) = false := decide_eq_false (by unfold W64; omega)
    clear hp
    go_enter Tryz.func29, Tryz.ntmps29
    go_wp2_with fail
    refine (HK.out _).mono ?_
    rintro e w1 ⟨rfl, hn⟩
    go_wp2
    go_ret
    exact ⟨rfl, hn⟩
theorem rkey_6 (x : BitVec 64) (w : World) : Calls Tryz.prog 29 #[.int .i64 6, .int .u64 (W64 x)] w fun e w' => e = .returned (.bool (keyK 6 x)) ∧ New w w' := by
  have HK := Lib.hid (fun w => rkeys_27 6 w)
  rw [show kyF 6 = 32 from rfl] at HK
  by_cases hp : x.toNat < 4294967296
  · rw [show keyK 6 x = true from by unfold keyK; rw [if_neg (by omega), decide_eq_true hp, Bool.or_true]]
    have hw : decide (W64 x < 4294967296) = true := decide_eq_true (by unfold W64; omega)
    clear hp
    go_enter Tryz.func29, Tryz.ntmps29
    go_wp2_with fail
    refine (HK.out _).mono ?_
    rintro e w1 ⟨rfl, hn⟩
    go_wp2
    go_ret
    exact ⟨rfl, hn⟩
  · rw [show keyK 6 x = false from by unfold keyK; rw [if_neg (by omega), decide_eq_false hp, Bool.or_false]; rfl]
    have hw : decide (W64 x < 4294967296) = false := decide_eq_false (by unfold W64; omega)
    clear hp
    go_enter Tryz.func29, Tryz.ntmps29
    go_wp2_with fail
    refine (HK.out _).mono ?_
    rintro e w1 ⟨rfl, hn⟩
    go_wp2
    go_ret
    exact ⟨rfl, hn⟩
theorem rkey_7 (x : BitVec 64) (w : World) : Calls Tryz.prog 29 #[.int .i64 7, .int .u64 (W64 x)] w fun e w' => e = .returned (.bool (keyK 7 x)) ∧ New w w' := by
  have HK := Lib.hid (fun w => rkeys_27 7 w)
  rw [show kyF 7 = 32 from rfl] at HK
  by_cases hp : x.toNat < 4294967296
  · rw [show keyK 7 x = true from by unfold keyK; rw [if_neg (by omega), decide_eq_true hp, Bool.or_true]]
    have hw : decide (W64 x < 4294967296) = true := decide_eq_true (by unfold W64; omega)
    clear hp
    go_enter Tryz.func29, Tryz.ntmps29
    go_wp2_with fail
    refine (HK.out _).mono ?_
    rintro e w1 ⟨rfl, hn⟩
    go_wp2
    go_ret
    exact ⟨rfl, hn⟩
  · rw [show keyK 7 x = false from by unfold keyK; rw [if_neg (by omega), decide_eq_false hp, Bool.or_false]; rfl]
    have hw : decide (W64 x < 4294967296) = false := decide_eq_false (by unfold W64; omega)
    clear hp
    go_enter Tryz.func29, Tryz.ntmps29
    go_wp2_with fail
    refine (HK.out _).mono ?_
    rintro e w1 ⟨rfl, hn⟩
    go_wp2
    go_ret
    exact ⟨rfl, hn⟩
theorem rkey_8 (x : BitVec 64) (w : World) : Calls Tryz.prog 29 #[.int .i64 8, .int .u64 (W64 x)] w fun e w' => e = .returned (.bool (keyK 8 x)) ∧ New w w' := by
  rw [show keyK 8 x = true from rfl]
  have HK := Lib.hid (fun w => rkeys_27 8 w)
  rw [show kyF 8 = 64 from rfl] at HK
  go_enter Tryz.func29, Tryz.ntmps29
  go_wp2_with fail
  refine (HK.out _).mono ?_
  rintro e w1 ⟨rfl, hn⟩
  go_wp2
  go_ret
  exact ⟨rfl, hn⟩
theorem big_fit (x : BitVec 64) : fitK 3 x = decide (x.toNat < 4294967296) := by
  have hx := x.isLt
  unfold fitK
  rw [show kdK 3 = 32 from rfl]
  by_cases h : x.toNat < 4294967296
  · rw [decide_eq_true h, beq_iff_eq]
    apply BitVec.eq_of_toNat_eq
    rw [BitVec.toNat_ushiftRight, Nat.shiftRight_eq_div_pow]
    exact Nat.div_eq_of_lt h
  · rw [decide_eq_false h, beq_eq_false_iff_ne]
    intro e
    have := congrArg BitVec.toNat e
    rw [BitVec.toNat_ushiftRight, Nat.shiftRight_eq_div_pow] at this
    have h2 : (0#64 : BitVec 64).toNat = 0 := rfl
    rw [h2] at this
    omega
theorem fit_wide (x : BitVec 64) : fitK 4 x = true := by
  unfold fitK
  rw [show kdK 4 = 64 from rfl, beq_iff_eq]
  apply BitVec.eq_of_toNat_eq
  rw [BitVec.toNat_ushiftRight, Nat.shiftRight_eq_div_pow]
  exact Nat.div_eq_of_lt x.isLt
theorem chF_poly {b : Int} {l : List (BitVec 64)} (hz : chF 1 b l = 0) : chkC l = 0 := (chF_ok rfl hz).2.2.2.2.2
theorem tab_chk {k b : Int} {l : List (BitVec 64)} (hz : chF k b l = 0) (hk : k = 5 ∨ k = 6 ∨ k = 7) : chk b l.length (if k = 5 then 128 else if k = 6 then 240 else 320) = 0 := by
  obtain ⟨_, h1, h2, h3, h4, _⟩ := chF_ok rfl hz
  have e : lsF k = (if k = 5 then 128 else if k = 6 then 240 else 320) ∧ msF k = lsF k ∧ lbF k = 1 ∧ mbF k = 64 := by rcases hk with rfl | rfl | rfl <;> exact ⟨rfl, rfl, rfl, rfl⟩
  obtain ⟨e1, e2, e3, e4⟩ := e
  rw [← e1]
  unfold chk
  rw [if_neg (by omega), if_neg (by omega)]
theorem key_no {k b : Int} {l : List (BitVec 64)} {x : BitVec 64} (hz : chF k b l = 0) (hk : keyK k x = false) : vF k b l x = 0#64 ∧ eF k b l x = 2 := by
  rcases okF_k (chF_ok rfl hz).1 with rfl | rfl | rfl | rfl | rfl | rfl | rfl | rfl
  · have hp : ¬ x.toNat < PP := of_decide_eq_false hk
    have e : evC l x = 2 := by unfold evC; rw [if_neg (by rw [chF_poly hz]; decide), if_pos (by omega)]
    show evP l x = 0#64 ∧ evC l x = 2
    refine ⟨?_, e⟩
    unfold evP
    rw [e, if_neg (by decide)]
  · exact absurd (show true = false from hk) (by decide)
  · have hf : fitK 3 x = false := by rw [big_fit]; exact hk
    show vSum 3 b l x = 0#64 ∧ eSum 3 x = 2
    unfold vSum eSum
    rw [hf]
    exact ⟨rfl, rfl⟩
  · exact absurd (show true = false from hk) (by decide)
  · have hp : ¬ x.toNat < 4294967296 := of_decide_eq_false hk
    have hck : chk b l.length 128 = 0 := tab_chk hz (Or.inl rfl)
    have e : evE b l.length 128 x = 2 := by unfold evE; rw [if_neg (by rw [hck]; decide), if_neg hp]
    show evV l b 128 x = 0#64 ∧ evE b l.length 128 x = 2
    refine ⟨?_, e⟩
    unfold evV
    rw [e, if_neg (by decide)]
  · have hp : ¬ x.toNat < 4294967296 := of_decide_eq_false hk
    have hck : chk b l.length 240 = 0 := tab_chk hz (Or.inr (Or.inl rfl))
    have e : evE b l.length 240 x = 2 := by unfold evE; rw [if_neg (by rw [hck]; decide), if_neg hp]
    show teV l b x = 0#64 ∧ evE b l.length 240 x = 2
    refine ⟨?_, e⟩
    unfold teV
    rw [e, if_neg (by decide)]
  · have hp : ¬ x.toNat < 4294967296 := of_decide_eq_false hk
    have hck : chk b l.length 320 = 0 := tab_chk hz (Or.inr (Or.inr rfl))
    have e : evE b l.length 320 x = 2 := by unfold evE; rw [if_neg (by rw [hck]; decide), if_neg hp]
    show meV l b x = 0#64 ∧ evE b l.length 320 x = 2
    refine ⟨?_, e⟩
    unfold meV
    rw [e, if_neg (by decide)]
  · exact absurd (show true = false from hk) (by decide)
set_option maxHeartbeats 4000000 in
theorem reval_1 (b : Int) (g off n c : Nat) (l : List (BitVec 64)) (x : BitVec 64) (w : World) (h : QRow w (some ⟨g, off, none⟩) n c l) (hz : chF 1 b l = 0) : Calls Tryz.prog 16 #[.agg (sdc 1 b (some ⟨g, off, none⟩) n c), .int .u64 (W64 x)] w fun e w' => e = .returned (.tuple #[.int .u64 (W64 (vF 1 b l x)), .int .i64 (eF 1 b l x)]) ∧ New w w' := by
  have hn0 := n_pos h.len_eq hz
  have HWR := Lib.hid h
  generalize hW : w.alloc (.cells (sdc 1 b (some ⟨g, off, none⟩) n c) 30) = w0
  have HB : Hid (w0.heap[w.heap.size]? = some (.cells (sdc 1 b (some ⟨g, off, none⟩) n c) 30 (0, 0))) := Lib.hid (by rw [← hW]; exact heap_alloc_new w _)
  have HN : Hid (New w w0) := Lib.hid (by rw [← hW]; exact (New.refl w).alloc _)
  have HROW := Lib.hid (h.stay HN.out)
  have HRC := Lib.hid (rcheck_27 1 b (some ⟨g, off, none⟩) n c l w0 HROW.out)
  rw [hz] at HRC
  have HKY := Lib.hid (fun w => rkey_1 x w)
  cases hky : keyK 1 x
  · obtain ⟨ev, ee⟩ := key_no hz hky
    rw [ev, ee]
    rw [hky] at HKY
    clear hz hky ev ee
    have c0 := cell_of_row _ _ 0 _ _ _ HB.out
    have c1 := cell_of_row _ _ 1 _ _ _ HB.out
    have c2 := cell_of_row _ _ 2 _ _ _ HB.out
    go_enter Tryz.func16, Tryz.ntmps16
    go_wp2_with fail
    refine HRC.out.mono ?_
    rintro e w1 ⟨rfl, hn1⟩
    replace HB := Lib.hid ((hn1.block _ (lt_of_block HB.out)).trans HB.out)
    replace HN := Lib.hid (HN.out.trans hn1)
    clear c0 c1 c2 HRC hn1
    have c0 := cell_of_row _ _ 0 _ _ _ HB.out
    have c1 := cell_of_row _ _ 1 _ _ _ HB.out
    have c2 := cell_of_row _ _ 2 _ _ _ HB.out
    go_wp2_with fail
    refine (HKY.out _).mono ?_
    rintro e w2 ⟨rfl, hn2⟩
    replace HB := Lib.hid ((hn2.block _ (lt_of_block HB.out)).trans HB.out)
    replace HN := Lib.hid (HN.out.trans hn2)
    clear c0 c1 c2 HKY hn2
    go_wp2
    go_ret2
    exact ⟨rfl, HN.out⟩
  rw [hky] at HKY
  have hp : x.toNat < PP := of_decide_eq_true hky
  have ee : evC l x = 0 := by unfold evC; rw [if_neg (by rw [chF_poly hz]; decide), if_neg (by omega)]
  have ev : evP l x = mp (nv l x) := by unfold evP; rw [if_pos ee]
  rw [show eF 1 b l x = 0 from ee, show vF 1 b l x = mp (nv l x) from ev]
  have HVL := Lib.hid (fun (w' : World) (hn : New w w') => value_q (some ⟨g, off, none⟩) n c l x w' (HWR.out.stay hn))
  clear hp ee ev hz hky
  have c0 := cell_of_row _ _ 0 _ _ _ HB.out
  have c1 := cell_of_row _ _ 1 _ _ _ HB.out
  have c2 := cell_of_row _ _ 2 _ _ _ HB.out
  go_enter Tryz.func16, Tryz.ntmps16
  go_wp2_with fail
  refine HRC.out.mono ?_
  rintro e w1 ⟨rfl, hn1⟩
  replace HB := Lib.hid ((hn1.block _ (lt_of_block HB.out)).trans HB.out)
  replace HN := Lib.hid (HN.out.trans hn1)
  clear c0 c1 c2 HRC hn1
  have c0 := cell_of_row _ _ 0 _ _ _ HB.out
  have c1 := cell_of_row _ _ 1 _ _ _ HB.out
  have c2 := cell_of_row _ _ 2 _ _ _ HB.out
  go_wp2_with fail
  refine (HKY.out _).mono ?_
  rintro e w2 ⟨rfl, hn2⟩
  replace HB := Lib.hid ((hn2.block _ (lt_of_block HB.out)).trans HB.out)
  replace HN := Lib.hid (HN.out.trans hn2)
  clear c0 c1 c2 HKY hn2
  have c0 := cell_of_row _ _ 0 _ _ _ HB.out
  have c1 := cell_of_row _ _ 1 _ _ _ HB.out
  have c2 := cell_of_row _ _ 2 _ _ _ HB.out
  go_wp2_with fail
  refine (HVL.out _ HN.out).mono ?_
  rintro e w3 ⟨rfl, rfl⟩
  clear c0 c1 c2
  go_wp2
  go_ret2
  exact ⟨rfl, HN.out⟩
set_option maxHeartbeats 4000000 in
theorem reval_2 (b : Int) (g off n c : Nat) (l : List (BitVec 64)) (x : BitVec 64) (w : World) (h : QRow w (some ⟨g, off, none⟩) n c l) (hz : chF 2 b l = 0) : Calls Tryz.prog 16 #[.agg (sdc 2 b (some ⟨g, off, none⟩) n c), .int .u64 (W64 x)] w fun e w' => e = .returned (.tuple #[.int .u64 (W64 (vF 2 b l x)), .int .i64 (eF 2 b l x)]) ∧ New w w' := by
  have hn0 := n_pos h.len_eq hz
  have HWR := Lib.hid h
  generalize hW : w.alloc (.cells (sdc 2 b (some ⟨g, off, none⟩) n c) 30) = w0
  have HB : Hid (w0.heap[w.heap.size]? = some (.cells (sdc 2 b (some ⟨g, off, none⟩) n c) 30 (0, 0))) := Lib.hid (by rw [← hW]; exact heap_alloc_new w _)
  have HN : Hid (New w w0) := Lib.hid (by rw [← hW]; exact (New.refl w).alloc _)
  have HROW := Lib.hid (h.stay HN.out)
  have HRC := Lib.hid (rcheck_27 2 b (some ⟨g, off, none⟩) n c l w0 HROW.out)
  rw [hz] at HRC
  have HKY := Lib.hid (fun w => rkey_2 x w)
  rw [show keyK 2 x = true from rfl] at HKY
  obtain ⟨j, s, hj, h1, hjs, _⟩ := chkM_good (show chkM (l.getD 0 0#64) b = 0 from (chF_ok rfl hz).2.2.2.2.2)
  have HM := Lib.hid (fun w => top_m (l.getD 0 0#64 * x) j s hjs w)
  rw [← hj] at HM
  have ev : vF 2 b l x = (l.getD 0 0#64 * x) >>> s := by show vOdd b l x = _; unfold vOdd; rw [show 64 - b.toNat = s by omega]
  rw [ev, show eF 2 b l x = 0 from rfl]
  have HZ : Hid (∀ w' : World, New w w' → w'.cell? ⟨g, off, none⟩ = some (.int .u64 (W64 (l.getD 0 0#64)))) := Lib.hid (fun w' hn => (HWR.out.stay hn).cell g off rfl 0 hn0)
  have hpos : ¬ (n : Int) ≤ 0 := by omega
  clear ev hz h1 hj hjs
  have c0 := cell_of_row _ _ 0 _ _ _ HB.out
  have c1 := cell_of_row _ _ 1 _ _ _ HB.out
  have c2 := cell_of_row _ _ 2 _ _ _ HB.out
  go_enter Tryz.func16, Tryz.ntmps16
  go_wp2_with fail
  refine HRC.out.mono ?_
  rintro e w1 ⟨rfl, hn1⟩
  replace HB := Lib.hid ((hn1.block _ (lt_of_block HB.out)).trans HB.out)
  replace HN := Lib.hid (HN.out.trans hn1)
  clear c0 c1 c2 HRC hn1
  have c0 := cell_of_row _ _ 0 _ _ _ HB.out
  have c1 := cell_of_row _ _ 1 _ _ _ HB.out
  have c2 := cell_of_row _ _ 2 _ _ _ HB.out
  go_wp2_with fail
  refine (HKY.out _).mono ?_
  rintro e w2 ⟨rfl, hn2⟩
  replace HB := Lib.hid ((hn2.block _ (lt_of_block HB.out)).trans HB.out)
  replace HN := Lib.hid (HN.out.trans hn2)
  clear c0 c1 c2 HKY hn2
  have HN2 := Lib.hid HN.out
  have c0 := cell_of_row _ _ 0 _ _ _ HB.out
  have c1 := cell_of_row _ _ 1 _ _ _ HB.out
  have c2 := cell_of_row _ _ 2 _ _ _ HB.out
  go_wp2_with fail
  clear c0 c1 c2
  go_wp2_with fail
  refine wp_region_class (fun w' => (w'.heap[w.heap.size]? = some (.cells (sdc 2 b (some ⟨g, off, none⟩) n c) 30 (0, 0))) ∧ New w2 w') (by kernel_rfl) (by kernel_rfl) ⟨((New.refl w2).drew.block _ (lt_of_block HB.out)).trans HB.out, (New.refl _).drew⟩ ?_
  intro I _ f hall hback
  have HSTEP : Hid (∀ n w', New (f n) w' → ∃ m, w' = f m) := Lib.hid fun n w' hn => hback w' ⟨(hn.block _ (lt_of_block (hall n).1)).trans (hall n).1, (hall n).2.trans hn⟩
  have HALL := Lib.hid fun n => (hall n).2
  have s0 := fun n => cell_of_row _ _ 0 _ _ _ ((hall n).1)
  have s1 := fun n => cell_of_row _ _ 1 _ _ _ ((hall n).1)
  have s2 := fun n => cell_of_row _ _ 2 _ _ _ ((hall n).1)
  have z0 := fun n => HZ.out _ (HN2.out.trans (hall n).2)
  clear hall hback
  repeat (go_big_quiet_step (first
    | (go_at_call 31; refine class_same (HM.out _))))
  refine wpQuiet_nil ?_
  rintro w9 ⟨n1, hw1⟩
  have hS := HALL.out n1
  rw [← hw1] at hS
  replace HB := Lib.hid ((hS.block _ (lt_of_block HB.out)).trans HB.out)
  replace HN := Lib.hid (HN.out.trans hS)
  clear z0 HALL HSTEP hw1 hS s0 s1 s2
  go_wp2
  go_ret2
  exact ⟨rfl, HN.out⟩
set_option maxHeartbeats 4000000 in
theorem reval_3 (b : Int) (g off n c : Nat) (l : List (BitVec 64)) (x : BitVec 64) (w : World) (h : QRow w (some ⟨g, off, none⟩) n c l) (hz : chF 3 b l = 0) : Calls Tryz.prog 16 #[.agg (sdc 3 b (some ⟨g, off, none⟩) n c), .int .u64 (W64 x)] w fun e w' => e = .returned (.tuple #[.int .u64 (W64 (vF 3 b l x)), .int .i64 (eF 3 b l x)]) ∧ New w w' := by
  have hn0 := n_pos h.len_eq hz
  have HWR := Lib.hid h
  generalize hW : w.alloc (.cells (sdc 3 b (some ⟨g, off, none⟩) n c) 30) = w0
  have HB : Hid (w0.heap[w.heap.size]? = some (.cells (sdc 3 b (some ⟨g, off, none⟩) n c) 30 (0, 0))) := Lib.hid (by rw [← hW]; exact heap_alloc_new w _)
  have HN : Hid (New w w0) := Lib.hid (by rw [← hW]; exact (New.refl w).alloc _)
  have HROW := Lib.hid (h.stay HN.out)
  have HRC := Lib.hid (rcheck_27 3 b (some ⟨g, off, none⟩) n c l w0 HROW.out)
  rw [hz] at HRC
  have HKY := Lib.hid (fun w => rkey_3 x w)
  cases hky : keyK 3 x
  · obtain ⟨ev, ee⟩ := key_no hz hky
    rw [ev, ee]
    rw [hky] at HKY
    clear hz hky ev ee
    have c0 := cell_of_row _ _ 0 _ _ _ HB.out
    have c1 := cell_of_row _ _ 1 _ _ _ HB.out
    have c2 := cell_of_row _ _ 2 _ _ _ HB.out
    go_enter Tryz.func16, Tryz.ntmps16
    go_wp2_with fail
    refine HRC.out.mono ?_
    rintro e w1 ⟨rfl, hn1⟩
    replace HB := Lib.hid ((hn1.block _ (lt_of_block HB.out)).trans HB.out)
    replace HN := Lib.hid (HN.out.trans hn1)
    clear c0 c1 c2 HRC hn1
    have c0 := cell_of_row _ _ 0 _ _ _ HB.out
    have c1 := cell_of_row _ _ 1 _ _ _ HB.out
    have c2 := cell_of_row _ _ 2 _ _ _ HB.out
    go_wp2_with fail
    refine (HKY.out _).mono ?_
    rintro e w2 ⟨rfl, hn2⟩
    replace HB := Lib.hid ((hn2.block _ (lt_of_block HB.out)).trans HB.out)
    replace HN := Lib.hid (HN.out.trans hn2)
    clear c0 c1 c2 HKY hn2
    go_wp2
    go_ret2
    exact ⟨rfl, HN.out⟩
  rw [hky] at HKY
  have hf : fitK 3 x = true := by rw [big_fit]; exact hky
  obtain ⟨_, q1, q2, q3, q4, _⟩ := chF_ok h.len_eq hz
  have u1 : lsF 3 = 2 := rfl
  have u2 : msF 3 = 2 := rfl
  have u3 : lbF 3 = 1 := rfl
  have u4 : mbF 3 = 32 := rfl
  obtain ⟨j, rfl⟩ : ∃ j : Nat, b = (j : Int) := ⟨b.toNat, by omega⟩
  have hA : numA 3 l < 2 ^ 128 := Nat.lt_of_lt_of_le (show numA 3 l < 2 ^ 64 from by have := (l.getD 0 0#64).isLt; unfold numA; rw [if_pos rfl]; omega) (by decide)
  have hB : numB 3 l < 2 ^ 128 := Nat.lt_of_lt_of_le (show numB 3 l < 2 ^ 64 from by have := (l.getD 1 0#64).isLt; unfold numB; rw [if_pos rfl]; omega) (by decide)
  have HM := Lib.hid (fun w => reval_a (numA 3 l) (numB 3 l) 64 j x 3 hA hB (by omega) (by omega) (Lib.hid (fun w => rwidth_add w)) w)
  have HPR := Lib.hid (fun (w' : World) (hn : New w w') => pair_3 (j : Int) g off n c l w' (HWR.out.stay hn) (by omega))
  have ev : vF 3 (j : Int) l x = loN ((numA 3 l * x.toNat + numB 3 l) % 2 ^ 64 / 2 ^ (64 - j)) := by
    show vSum 3 (j : Int) l x = _
    unfold vSum
    rw [if_pos hf]
    rfl
  have ee : eF 3 (j : Int) l x = 0 := by
    show eSum 3 x = 0
    unfold eSum
    rw [if_pos hf]
  rw [ev, ee]
  clear ev ee hf hz q1 q2 q3 q4 u1 u2 u3 u4 hA hB hky
  generalize numA 3 l = A at *
  generalize numB 3 l = B at *
  generalize loN ((A * x.toNat + B) % 2 ^ 64 / 2 ^ (64 - j)) = v at *
  have c0 := cell_of_row _ _ 0 _ _ _ HB.out
  have c1 := cell_of_row _ _ 1 _ _ _ HB.out
  have c2 := cell_of_row _ _ 2 _ _ _ HB.out
  go_enter Tryz.func16, Tryz.ntmps16
  go_wp2_with fail
  refine HRC.out.mono ?_
  rintro e w1 ⟨rfl, hn1⟩
  replace HB := Lib.hid ((hn1.block _ (lt_of_block HB.out)).trans HB.out)
  replace HN := Lib.hid (HN.out.trans hn1)
  clear c0 c1 c2 HRC hn1
  have c0 := cell_of_row _ _ 0 _ _ _ HB.out
  have c1 := cell_of_row _ _ 1 _ _ _ HB.out
  have c2 := cell_of_row _ _ 2 _ _ _ HB.out
  go_wp2_with fail
  refine (HKY.out _).mono ?_
  rintro e w2 ⟨rfl, hn2⟩
  replace HB := Lib.hid ((hn2.block _ (lt_of_block HB.out)).trans HB.out)
  replace HN := Lib.hid (HN.out.trans hn2)
  clear c0 c1 c2 HKY hn2
  have c0 := cell_of_row _ _ 0 _ _ _ HB.out
  have c1 := cell_of_row _ _ 1 _ _ _ HB.out
  have c2 := cell_of_row _ _ 2 _ _ _ HB.out
  go_wp2_with fail
  refine (HPR.out _ HN.out).mono ?_
  rintro e w3 ⟨rfl, hn3⟩
  have HP := Lib.hid (two_blocks w3 (.cells #[.int .u64 (W64 (hiN (A))), .int .u64 (W64 (loN (A)))] 63) (.cells #[.int .u64 (W64 (hiN (B))), .int .u64 (W64 (loN (B)))] 63))
  have hb := (((hn3.alloc (.cells #[.int .u64 (W64 (hiN (A))), .int .u64 (W64 (loN (A)))] 63)).alloc (.cells #[.int .u64 (W64 (hiN (B))), .int .u64 (W64 (loN (B)))] 63)).block _ (lt_of_block HB.out)).trans HB.out
  replace HN := Lib.hid (HN.out.trans ((hn3.alloc (.cells #[.int .u64 (W64 (hiN (A))), .int .u64 (W64 (loN (A)))] 63)).alloc (.cells #[.int .u64 (W64 (hiN (B))), .int .u64 (W64 (loN (B)))] 63)))
  clear c0 c1 c2 hn3 HPR
  have c0 := cell_of_row _ _ 0 _ _ _ hb
  have c1 := cell_of_row _ _ 1 _ _ _ hb
  have c2 := cell_of_row _ _ 2 _ _ _ hb
  clear hb
  go_wp2_with fail
  refine (HM.out _).mono ?_
  rintro e w4 ⟨rfl, hn4⟩
  replace HN := Lib.hid (HN.out.trans hn4)
  clear hn4 HM c0 c1 c2
  go_wp2
  go_ret2
  exact ⟨rfl, HN.out⟩
set_option maxHeartbeats 4000000 in
theorem reval_4 (b : Int) (g off n c : Nat) (l : List (BitVec 64)) (x : BitVec 64) (w : World) (h : QRow w (some ⟨g, off, none⟩) n c l) (hz : chF 4 b l = 0) : Calls Tryz.prog 16 #[.agg (sdc 4 b (some ⟨g, off, none⟩) n c), .int .u64 (W64 x)] w fun e w' => e = .returned (.tuple #[.int .u64 (W64 (vF 4 b l x)), .int .i64 (eF 4 b l x)]) ∧ New w w' := by
  have hn0 := n_pos h.len_eq hz
  have HWR := Lib.hid h
  generalize hW : w.alloc (.cells (sdc 4 b (some ⟨g, off, none⟩) n c) 30) = w0
  have HB : Hid (w0.heap[w.heap.size]? = some (.cells (sdc 4 b (some ⟨g, off, none⟩) n c) 30 (0, 0))) := Lib.hid (by rw [← hW]; exact heap_alloc_new w _)
  have HN : Hid (New w w0) := Lib.hid (by rw [← hW]; exact (New.refl w).alloc _)
  have HROW := Lib.hid (h.stay HN.out)
  have HRC := Lib.hid (rcheck_27 4 b (some ⟨g, off, none⟩) n c l w0 HROW.out)
  rw [hz] at HRC
  have HKY := Lib.hid (fun w => rkey_4 x w)
  rw [show keyK 4 x = true from rfl] at HKY
  have hf : fitK 4 x = true := fit_wide x
  obtain ⟨_, q1, q2, q3, q4, _⟩ := chF_ok h.len_eq hz
  have u1 : lsF 4 = 4 := rfl
  have u2 : msF 4 = 4 := rfl
  have u3 : lbF 4 = 1 := rfl
  have u4 : mbF 4 = 64 := rfl
  obtain ⟨j, rfl⟩ : ∃ j : Nat, b = (j : Int) := ⟨b.toNat, by omega⟩
  have hA : numA 4 l < 2 ^ 128 := Nat.lt_of_lt_of_le (show numA 4 l < 2 ^ 128 from by have := (l.getD 0 0#64).isLt; have := (l.getD 1 0#64).isLt; unfold numA; rw [if_neg (by omega)]; omega) (by decide)
  have hB : numB 4 l < 2 ^ 128 := Nat.lt_of_lt_of_le (show numB 4 l < 2 ^ 128 from by have := (l.getD 2 0#64).isLt; have := (l.getD 3 0#64).isLt; unfold numB; rw [if_neg (by omega)]; omega) (by decide)
  have HM := Lib.hid (fun w => reval_a (numA 4 l) (numB 4 l) 128 j x 4 hA hB (by omega) (by omega) (Lib.hid (fun w => rwidth_wide w)) w)
  have HPR := Lib.hid (fun (w' : World) (hn : New w w') => pair_4 (j : Int) g off n c l w' (HWR.out.stay hn) (by omega))
  have ev : vF 4 (j : Int) l x = loN ((numA 4 l * x.toNat + numB 4 l) % 2 ^ 128 / 2 ^ (128 - j)) := by
    show vSum 4 (j : Int) l x = _
    unfold vSum
    rw [if_pos hf]
    rfl
  have ee : eF 4 (j : Int) l x = 0 := by
    show eSum 4 x = 0
    unfold eSum
    rw [if_pos hf]
  rw [ev, ee]
  clear ev ee hf hz q1 q2 q3 q4 u1 u2 u3 u4 hA hB
  generalize numA 4 l = A at *
  generalize numB 4 l = B at *
  generalize loN ((A * x.toNat + B) % 2 ^ 128 / 2 ^ (128 - j)) = v at *
  have c0 := cell_of_row _ _ 0 _ _ _ HB.out
  have c1 := cell_of_row _ _ 1 _ _ _ HB.out
  have c2 := cell_of_row _ _ 2 _ _ _ HB.out
  go_enter Tryz.func16, Tryz.ntmps16
  go_wp2_with fail
  refine HRC.out.mono ?_
  rintro e w1 ⟨rfl, hn1⟩
  replace HB := Lib.hid ((hn1.block _ (lt_of_block HB.out)).trans HB.out)
  replace HN := Lib.hid (HN.out.trans hn1)
  clear c0 c1 c2 HRC hn1
  have c0 := cell_of_row _ _ 0 _ _ _ HB.out
  have c1 := cell_of_row _ _ 1 _ _ _ HB.out
  have c2 := cell_of_row _ _ 2 _ _ _ HB.out
  go_wp2_with fail
  refine (HKY.out _).mono ?_
  rintro e w2 ⟨rfl, hn2⟩
  replace HB := Lib.hid ((hn2.block _ (lt_of_block HB.out)).trans HB.out)
  replace HN := Lib.hid (HN.out.trans hn2)
  clear c0 c1 c2 HKY hn2
  have c0 := cell_of_row _ _ 0 _ _ _ HB.out
  have c1 := cell_of_row _ _ 1 _ _ _ HB.out
  have c2 := cell_of_row _ _ 2 _ _ _ HB.out
  go_wp2_with fail
  refine (HPR.out _ HN.out).mono ?_
  rintro e w3 ⟨rfl, hn3⟩
  have HP := Lib.hid (two_blocks w3 (.cells #[.int .u64 (W64 (hiN (A))), .int .u64 (W64 (loN (A)))] 63) (.cells #[.int .u64 (W64 (hiN (B))), .int .u64 (W64 (loN (B)))] 63))
  have hb := (((hn3.alloc (.cells #[.int .u64 (W64 (hiN (A))), .int .u64 (W64 (loN (A)))] 63)).alloc (.cells #[.int .u64 (W64 (hiN (B))), .int .u64 (W64 (loN (B)))] 63)).block _ (lt_of_block HB.out)).trans HB.out
  replace HN := Lib.hid (HN.out.trans ((hn3.alloc (.cells #[.int .u64 (W64 (hiN (A))), .int .u64 (W64 (loN (A)))] 63)).alloc (.cells #[.int .u64 (W64 (hiN (B))), .int .u64 (W64 (loN (B)))] 63)))
  clear c0 c1 c2 hn3 HPR
  have c0 := cell_of_row _ _ 0 _ _ _ hb
  have c1 := cell_of_row _ _ 1 _ _ _ hb
  have c2 := cell_of_row _ _ 2 _ _ _ hb
  clear hb
  go_wp2_with fail
  refine (HM.out _).mono ?_
  rintro e w4 ⟨rfl, hn4⟩
  replace HN := Lib.hid (HN.out.trans hn4)
  clear hn4 HM c0 c1 c2
  go_wp2
  go_ret2
  exact ⟨rfl, HN.out⟩
set_option maxHeartbeats 4000000 in
theorem reval_5 (b : Int) (g off n c : Nat) (l : List (BitVec 64)) (x : BitVec 64) (w : World) (h : QRow w (some ⟨g, off, none⟩) n c l) (hz : chF 5 b l = 0) : Calls Tryz.prog 16 #[.agg (sdc 5 b (some ⟨g, off, none⟩) n c), .int .u64 (W64 x)] w fun e w' => e = .returned (.tuple #[.int .u64 (W64 (vF 5 b l x)), .int .i64 (eF 5 b l x)]) ∧ New w w' := by
  have hn0 := n_pos h.len_eq hz
  have HWR := Lib.hid h
  generalize hW : w.alloc (.cells (sdc 5 b (some ⟨g, off, none⟩) n c) 30) = w0
  have HB : Hid (w0.heap[w.heap.size]? = some (.cells (sdc 5 b (some ⟨g, off, none⟩) n c) 30 (0, 0))) := Lib.hid (by rw [← hW]; exact heap_alloc_new w _)
  have HN : Hid (New w w0) := Lib.hid (by rw [← hW]; exact (New.refl w).alloc _)
  have HROW := Lib.hid (h.stay HN.out)
  have HRC := Lib.hid (rcheck_27 5 b (some ⟨g, off, none⟩) n c l w0 HROW.out)
  rw [hz] at HRC
  have HKY := Lib.hid (fun w => rkey_5 x w)
  cases hky : keyK 5 x
  · obtain ⟨ev, ee⟩ := key_no hz hky
    rw [ev, ee]
    rw [hky] at HKY
    clear hz hky ev ee
    have c0 := cell_of_row _ _ 0 _ _ _ HB.out
    have c1 := cell_of_row _ _ 1 _ _ _ HB.out
    have c2 := cell_of_row _ _ 2 _ _ _ HB.out
    go_enter Tryz.func16, Tryz.ntmps16
    go_wp2_with fail
    refine HRC.out.mono ?_
    rintro e w1 ⟨rfl, hn1⟩
    replace HB := Lib.hid ((hn1.block _ (lt_of_block HB.out)).trans HB.out)
    replace HN := Lib.hid (HN.out.trans hn1)
    clear c0 c1 c2 HRC hn1
    have c0 := cell_of_row _ _ 0 _ _ _ HB.out
    have c1 := cell_of_row _ _ 1 _ _ _ HB.out
    have c2 := cell_of_row _ _ 2 _ _ _ HB.out
    go_wp2_with fail
    refine (HKY.out _).mono ?_
    rintro e w2 ⟨rfl, hn2⟩
    replace HB := Lib.hid ((hn2.block _ (lt_of_block HB.out)).trans HB.out)
    replace HN := Lib.hid (HN.out.trans hn2)
    clear c0 c1 c2 HKY hn2
    go_wp2
    go_ret2
    exact ⟨rfl, HN.out⟩
  rw [hky] at HKY
  have HM := Lib.hid (fun (w' : World) (hn : New w w') => eval_ref (some ⟨g, off, none⟩) n c l b x w' (HWR.out.stay hn))
  have HV : Hid (evV l b 128 x = vF 5 b l x) := Lib.hid rfl
  have HE : Hid (evE b l.length 128 x = eF 5 b l x) := Lib.hid rfl
  rw [HV.out, HE.out] at HM
  clear HV HE hz hky
  have c0 := cell_of_row _ _ 0 _ _ _ HB.out
  have c1 := cell_of_row _ _ 1 _ _ _ HB.out
  have c2 := cell_of_row _ _ 2 _ _ _ HB.out
  go_enter Tryz.func16, Tryz.ntmps16
  go_wp2_with fail
  refine HRC.out.mono ?_
  rintro e w1 ⟨rfl, hn1⟩
  replace HB := Lib.hid ((hn1.block _ (lt_of_block HB.out)).trans HB.out)
  replace HN := Lib.hid (HN.out.trans hn1)
  clear c0 c1 c2 HRC hn1
  have c0 := cell_of_row _ _ 0 _ _ _ HB.out
  have c1 := cell_of_row _ _ 1 _ _ _ HB.out
  have c2 := cell_of_row _ _ 2 _ _ _ HB.out
  go_wp2_with fail
  refine (HKY.out _).mono ?_
  rintro e w2 ⟨rfl, hn2⟩
  replace HB := Lib.hid ((hn2.block _ (lt_of_block HB.out)).trans HB.out)
  replace HN := Lib.hid (HN.out.trans hn2)
  clear c0 c1 c2 HKY hn2
  have c0 := cell_of_row _ _ 0 _ _ _ HB.out
  have c1 := cell_of_row _ _ 1 _ _ _ HB.out
  have c2 := cell_of_row _ _ 2 _ _ _ HB.out
  go_wp2_with fail
  refine (HM.out _ HN.out).mono ?_
  rintro e w3 ⟨rfl, hn3⟩
  replace HN := Lib.hid (HN.out.trans hn3)
  clear c0 c1 c2 hn3
  go_wp2
  go_ret2
  exact ⟨rfl, HN.out⟩
set_option maxHeartbeats 4000000 in
theorem reval_6 (b : Int) (g off n c : Nat) (l : List (BitVec 64)) (x : BitVec 64) (w : World) (h : QRow w (some ⟨g, off, none⟩) n c l) (hz : chF 6 b l = 0) : Calls Tryz.prog 16 #[.agg (sdc 6 b (some ⟨g, off, none⟩) n c), .int .u64 (W64 x)] w fun e w' => e = .returned (.tuple #[.int .u64 (W64 (vF 6 b l x)), .int .i64 (eF 6 b l x)]) ∧ New w w' := by
  have hn0 := n_pos h.len_eq hz
  have HWR := Lib.hid h
  generalize hW : w.alloc (.cells (sdc 6 b (some ⟨g, off, none⟩) n c) 30) = w0
  have HB : Hid (w0.heap[w.heap.size]? = some (.cells (sdc 6 b (some ⟨g, off, none⟩) n c) 30 (0, 0))) := Lib.hid (by rw [← hW]; exact heap_alloc_new w _)
  have HN : Hid (New w w0) := Lib.hid (by rw [← hW]; exact (New.refl w).alloc _)
  have HROW := Lib.hid (h.stay HN.out)
  have HRC := Lib.hid (rcheck_27 6 b (some ⟨g, off, none⟩) n c l w0 HROW.out)
  rw [hz] at HRC
  have HKY := Lib.hid (fun w => rkey_6 x w)
  cases hky : keyK 6 x
  · obtain ⟨ev, ee⟩ := key_no hz hky
    rw [ev, ee]
    rw [hky] at HKY
    clear hz hky ev ee
    have c0 := cell_of_row _ _ 0 _ _ _ HB.out
    have c1 := cell_of_row _ _ 1 _ _ _ HB.out
    have c2 := cell_of_row _ _ 2 _ _ _ HB.out
    go_enter Tryz.func16, Tryz.ntmps16
    go_wp2_with fail
    refine HRC.out.mono ?_
    rintro e w1 ⟨rfl, hn1⟩
    replace HB := Lib.hid ((hn1.block _ (lt_of_block HB.out)).trans HB.out)
    replace HN := Lib.hid (HN.out.trans hn1)
    clear c0 c1 c2 HRC hn1
    have c0 := cell_of_row _ _ 0 _ _ _ HB.out
    have c1 := cell_of_row _ _ 1 _ _ _ HB.out
    have c2 := cell_of_row _ _ 2 _ _ _ HB.out
    go_wp2_with fail
    refine (HKY.out _).mono ?_
    rintro e w2 ⟨rfl, hn2⟩
    replace HB := Lib.hid ((hn2.block _ (lt_of_block HB.out)).trans HB.out)
    replace HN := Lib.hid (HN.out.trans hn2)
    clear c0 c1 c2 HKY hn2
    go_wp2
    go_ret2
    exact ⟨rfl, HN.out⟩
  rw [hky] at HKY
  have HM := Lib.hid (fun (w' : World) (hn : New w w') => evalt_ref (some ⟨g, off, none⟩) n c l b x w' (HWR.out.stay hn))
  have HV : Hid (teV l b x = vF 6 b l x) := Lib.hid rfl
  have HE : Hid (evE b l.length 240 x = eF 6 b l x) := Lib.hid rfl
  rw [HV.out, HE.out] at HM
  clear HV HE hz hky
  have c0 := cell_of_row _ _ 0 _ _ _ HB.out
  have c1 := cell_of_row _ _ 1 _ _ _ HB.out
  have c2 := cell_of_row _ _ 2 _ _ _ HB.out
  go_enter Tryz.func16, Tryz.ntmps16
  go_wp2_with fail
  refine HRC.out.mono ?_
  rintro e w1 ⟨rfl, hn1⟩
  replace HB := Lib.hid ((hn1.block _ (lt_of_block HB.out)).trans HB.out)
  replace HN := Lib.hid (HN.out.trans hn1)
  clear c0 c1 c2 HRC hn1
  have c0 := cell_of_row _ _ 0 _ _ _ HB.out
  have c1 := cell_of_row _ _ 1 _ _ _ HB.out
  have c2 := cell_of_row _ _ 2 _ _ _ HB.out
  go_wp2_with fail
  refine (HKY.out _).mono ?_
  rintro e w2 ⟨rfl, hn2⟩
  replace HB := Lib.hid ((hn2.block _ (lt_of_block HB.out)).trans HB.out)
  replace HN := Lib.hid (HN.out.trans hn2)
  clear c0 c1 c2 HKY hn2
  have c0 := cell_of_row _ _ 0 _ _ _ HB.out
  have c1 := cell_of_row _ _ 1 _ _ _ HB.out
  have c2 := cell_of_row _ _ 2 _ _ _ HB.out
  go_wp2_with fail
  refine (HM.out _ HN.out).mono ?_
  rintro e w3 ⟨rfl, hn3⟩
  replace HN := Lib.hid (HN.out.trans hn3)
  clear c0 c1 c2 hn3
  go_wp2
  go_ret2
  exact ⟨rfl, HN.out⟩
set_option maxHeartbeats 4000000 in
theorem reval_7 (b : Int) (g off n c : Nat) (l : List (BitVec 64)) (x : BitVec 64) (w : World) (h : QRow w (some ⟨g, off, none⟩) n c l) (hz : chF 7 b l = 0) : Calls Tryz.prog 16 #[.agg (sdc 7 b (some ⟨g, off, none⟩) n c), .int .u64 (W64 x)] w fun e w' => e = .returned (.tuple #[.int .u64 (W64 (vF 7 b l x)), .int .i64 (eF 7 b l x)]) ∧ New w w' := by
  have hn0 := n_pos h.len_eq hz
  have HWR := Lib.hid h
  generalize hW : w.alloc (.cells (sdc 7 b (some ⟨g, off, none⟩) n c) 30) = w0
  have HB : Hid (w0.heap[w.heap.size]? = some (.cells (sdc 7 b (some ⟨g, off, none⟩) n c) 30 (0, 0))) := Lib.hid (by rw [← hW]; exact heap_alloc_new w _)
  have HN : Hid (New w w0) := Lib.hid (by rw [← hW]; exact (New.refl w).alloc _)
  have HROW := Lib.hid (h.stay HN.out)
  have HRC := Lib.hid (rcheck_27 7 b (some ⟨g, off, none⟩) n c l w0 HROW.out)
  rw [hz] at HRC
  have HKY := Lib.hid (fun w => rkey_7 x w)
  cases hky : keyK 7 x
  · obtain ⟨ev, ee⟩ := key_no hz hky
    rw [ev, ee]
    rw [hky] at HKY
    clear hz hky ev ee
    have c0 := cell_of_row _ _ 0 _ _ _ HB.out
    have c1 := cell_of_row _ _ 1 _ _ _ HB.out
    have c2 := cell_of_row _ _ 2 _ _ _ HB.out
    go_enter Tryz.func16, Tryz.ntmps16
    go_wp2_with fail
    refine HRC.out.mono ?_
    rintro e w1 ⟨rfl, hn1⟩
    replace HB := Lib.hid ((hn1.block _ (lt_of_block HB.out)).trans HB.out)
    replace HN := Lib.hid (HN.out.trans hn1)
    clear c0 c1 c2 HRC hn1
    have c0 := cell_of_row _ _ 0 _ _ _ HB.out
    have c1 := cell_of_row _ _ 1 _ _ _ HB.out
    have c2 := cell_of_row _ _ 2 _ _ _ HB.out
    go_wp2_with fail
    refine (HKY.out _).mono ?_
    rintro e w2 ⟨rfl, hn2⟩
    replace HB := Lib.hid ((hn2.block _ (lt_of_block HB.out)).trans HB.out)
    replace HN := Lib.hid (HN.out.trans hn2)
    clear c0 c1 c2 HKY hn2
    go_wp2
    go_ret2
    exact ⟨rfl, HN.out⟩
  rw [hky] at HKY
  have HM := Lib.hid (fun (w' : World) (hn : New w w') => evalm_ref (some ⟨g, off, none⟩) n c l b x w' (HWR.out.stay hn))
  have HV : Hid (meV l b x = vF 7 b l x) := Lib.hid rfl
  have HE : Hid (evE b l.length 320 x = eF 7 b l x) := Lib.hid rfl
  rw [HV.out, HE.out] at HM
  clear HV HE hz hky
  have c0 := cell_of_row _ _ 0 _ _ _ HB.out
  have c1 := cell_of_row _ _ 1 _ _ _ HB.out
  have c2 := cell_of_row _ _ 2 _ _ _ HB.out
  go_enter Tryz.func16, Tryz.ntmps16
  go_wp2_with fail
  refine HRC.out.mono ?_
  rintro e w1 ⟨rfl, hn1⟩
  replace HB := Lib.hid ((hn1.block _ (lt_of_block HB.out)).trans HB.out)
  replace HN := Lib.hid (HN.out.trans hn1)
  clear c0 c1 c2 HRC hn1
  have c0 := cell_of_row _ _ 0 _ _ _ HB.out
  have c1 := cell_of_row _ _ 1 _ _ _ HB.out
  have c2 := cell_of_row _ _ 2 _ _ _ HB.out
  go_wp2_with fail
  refine (HKY.out _).mono ?_
  rintro e w2 ⟨rfl, hn2⟩
  replace HB := Lib.hid ((hn2.block _ (lt_of_block HB.out)).trans HB.out)
  replace HN := Lib.hid (HN.out.trans hn2)
  clear c0 c1 c2 HKY hn2
  have c0 := cell_of_row _ _ 0 _ _ _ HB.out
  have c1 := cell_of_row _ _ 1 _ _ _ HB.out
  have c2 := cell_of_row _ _ 2 _ _ _ HB.out
  go_wp2_with fail
  refine (HM.out _ HN.out).mono ?_
  rintro e w3 ⟨rfl, hn3⟩
  replace HN := Lib.hid (HN.out.trans hn3)
  clear c0 c1 c2 hn3
  go_wp2
  go_ret2
  exact ⟨rfl, HN.out⟩
set_option maxHeartbeats 4000000 in
theorem reval_8 (b : Int) (g off n c : Nat) (l : List (BitVec 64)) (x : BitVec 64) (w : World) (h : QRow w (some ⟨g, off, none⟩) n c l) (hz : chF 8 b l = 0) : Calls Tryz.prog 16 #[.agg (sdc 8 b (some ⟨g, off, none⟩) n c), .int .u64 (W64 x)] w fun e w' => e = .returned (.tuple #[.int .u64 (W64 (vF 8 b l x)), .int .i64 (eF 8 b l x)]) ∧ New w w' := by
  have hn0 := n_pos h.len_eq hz
  have HWR := Lib.hid h
  generalize hW : w.alloc (.cells (sdc 8 b (some ⟨g, off, none⟩) n c) 30) = w0
  have HB : Hid (w0.heap[w.heap.size]? = some (.cells (sdc 8 b (some ⟨g, off, none⟩) n c) 30 (0, 0))) := Lib.hid (by rw [← hW]; exact heap_alloc_new w _)
  have HN : Hid (New w w0) := Lib.hid (by rw [← hW]; exact (New.refl w).alloc _)
  have HROW := Lib.hid (h.stay HN.out)
  have HRC := Lib.hid (rcheck_27 8 b (some ⟨g, off, none⟩) n c l w0 HROW.out)
  rw [hz] at HRC
  have HKY := Lib.hid (fun w => rkey_8 x w)
  rw [show keyK 8 x = true from rfl] at HKY
  have HZ : Hid (∀ w' : World, New w w' → w'.cell? ⟨g, off, none⟩ = some (.int .u64 (W64 (l.getD 0 0#64)))) := Lib.hid (fun w' hn => (HWR.out.stay hn).cell g off rfl 0 hn0)
  have HS := Lib.hid (fun (w' : World) (a1 : Option Addr) (c1 : Nat) (hr : BRow w' a1 8 c1 (bytes x 8)) => reval25_q (l.getD 0 0#64) a1 8 c1 (bytes x 8) w' hr)
  have HPU : Hid (∀ w' : World, Calls Tryz.prog 37 #[.int .u64 (W64 x), .int .i64 8] w' fun e w2 => ∃ v, e = .returned v ∧ (SV 8 v ∧ SR (bytes x 8) 8 v w2) ∧ New w' w2) := Lib.hid (fun w' => (bytes_ref (W64 x) (by unfold W64; have := x.isLt; omega) 8 (by omega) w' w' (New.refl _)).mono fun e w2 ⟨a2, c2, he, hr, hn, _⟩ => ⟨_, he, ⟨⟨a2, c2, rfl⟩, fun a3 c3 e3 => by cases e3; rw [ofInt_W64] at hr; exact hr⟩, hn⟩)
  obtain ⟨v, hv0⟩ : ∃ z, seV (l.getD 0 0#64) (bytes x 8) = z := ⟨_, rfl⟩
  obtain ⟨ee, he0⟩ : ∃ z, seE (l.getD 0 0#64) 8 = z := ⟨_, rfl⟩
  rw [show vF 8 b l x = seV (l.getD 0 0#64) (bytes x 8) from rfl, show eF 8 b l x = seE (l.getD 0 0#64) 8 from rfl]
  rw [hv0, he0] at HS ⊢
  have hpos : ¬ (n : Int) ≤ 0 := by omega
  clear hv0 he0 hz
  have c0 := cell_of_row _ _ 0 _ _ _ HB.out
  have c1 := cell_of_row _ _ 1 _ _ _ HB.out
  have c2 := cell_of_row _ _ 2 _ _ _ HB.out
  go_enter Tryz.func16, Tryz.ntmps16
  go_wp2_with fail
  refine HRC.out.mono ?_
  rintro e w1 ⟨rfl, hn1⟩
  replace HB := Lib.hid ((hn1.block _ (lt_of_block HB.out)).trans HB.out)
  replace HN := Lib.hid (HN.out.trans hn1)
  clear c0 c1 c2 HRC hn1
  have c0 := cell_of_row _ _ 0 _ _ _ HB.out
  have c1 := cell_of_row _ _ 1 _ _ _ HB.out
  have c2 := cell_of_row _ _ 2 _ _ _ HB.out
  go_wp2_with fail
  refine (HKY.out _).mono ?_
  rintro e w2 ⟨rfl, hn2⟩
  replace HB := Lib.hid ((hn2.block _ (lt_of_block HB.out)).trans HB.out)
  replace HN := Lib.hid (HN.out.trans hn2)
  clear c0 c1 c2 HKY hn2
  have HN2 := Lib.hid HN.out
  have c0 := cell_of_row _ _ 0 _ _ _ HB.out
  have c1 := cell_of_row _ _ 1 _ _ _ HB.out
  have c2 := cell_of_row _ _ 2 _ _ _ HB.out
  go_wp2_with fail
  refine Grow.wp_region_growS (fun w' => w'.heap[w.heap.size]? = some (.cells (sdc 8 b (some ⟨g, off, none⟩) n c) 30 (0, 0)) ∧ New w2 w') (fun k => [5, 6].contains k) (by kernel_rfl) (by kernel_rfl) (by kernel_rfl) ⟨((New.refl _).drew.block _ (lt_of_block HB.out)).trans HB.out, (New.refl _).drew⟩ ?_
  intro I _ f hall hback
  have HALL := Lib.hid hall
  have HSTEP : Hid (∀ n w', New (f n) w' → ∃ m, w' = f m) := Lib.hid fun n w' hn => hback w' ⟨(hn.block _ (lt_of_block (hall n).1)).trans (hall n).1, (hall n).2.trans hn⟩
  have s0 := fun n => cell_of_row _ _ 0 _ _ _ (hall n).1
  have s1 := fun n => cell_of_row _ _ 1 _ _ _ (hall n).1
  have s2 := fun n => cell_of_row _ _ 2 _ _ _ (hall n).1
  have z0 := fun n => HZ.out _ (HN2.out.trans (hall n).2)
  clear hall hback c0 c1 c2
  refine Grow.wpGrow_take 5 (by kernel_rfl) ?_
  simp only [List.take, List.drop, List.length]
  repeat (go_big_quiet_step (fail))
  refine wpQuiet_nil ?_
  refine Grow.wpGrow_call (SV 8) (SR (bytes x 8) 8) rfl rfl (SV.some _) (fun w1 hB hG => ?_) (fun v1 A1 hv1 hA => ?_)
  · obtain ⟨n, rfl⟩ := hB
    go_simp
    refine (HPU.out _).mono ?_
    rintro e w2 ⟨v, rfl, hv, hn⟩
    obtain ⟨hva, hvb⟩ := hv
    exact ⟨_, rfl, HSTEP.out _ _ hn, hva, hvb⟩
  simp [Act.put] at hA
  subst hA
  obtain ⟨a1, c1, rfl⟩ := hv1
  refine Grow.wpGrow_one (.tuple #[.int .u64 (W64 v), .int .i64 ee]) rfl rfl (fun w1 hB hG => ?_) (fun A2 hA => ?_)
  · obtain ⟨n, rfl⟩ := hB
    go_simp
    refine (HS.out _ _ _ hG.2.row).mono ?_
    rintro e w2 ⟨rfl, hn⟩
    first | exact ⟨_, rfl, HSTEP.out _ _ hn, rfl, hG.2.stay hn⟩ | exact ⟨rfl, HSTEP.out _ _ hn, hG.2.stay hn⟩
  simp [Act.put] at hA
  subst hA
  refine Grow.wpGrow_take 4 (by kernel_rfl) ?_
  simp only [List.take, List.drop, List.length]
  repeat (go_big_quiet_step (fail))
  refine wpQuiet_nil ?_
  refine Grow.wpGrow_nil ?_
  rintro w9 ⟨n9, rfl⟩ hG
  have HN5 := Lib.hid (HN.out.trans (HALL.out n9).2)
  clear HALL HSTEP s0 s1 s2 z0 hG
  generalize f n9 = w10 at *
  go_wp2
  go_ret2
  exact ⟨rfl, HN5.out⟩
theorem reval_any (k b : Int) (g off n c : Nat) (l : List (BitVec 64)) (x : BitVec 64) (w : World) (h : QRow w (some ⟨g, off, none⟩) n c l) (hz : chF k b l = 0) : Calls Tryz.prog 16 #[.agg (sdc k b (some ⟨g, off, none⟩) n c), .int .u64 (W64 x)] w fun e w' => e = .returned (.tuple #[.int .u64 (W64 (vF k b l x)), .int .i64 (eF k b l x)]) ∧ New w w' := by
  rcases okF_k (chF_ok rfl hz).1 with rfl | rfl | rfl | rfl | rfl | rfl | rfl | rfl
  · exact reval_1 b g off n c l x w h hz
  · exact reval_2 b g off n c l x w h hz
  · exact reval_3 b g off n c l x w h hz
  · exact reval_4 b g off n c l x w h hz
  · exact reval_5 b g off n c l x w h hz
  · exact reval_6 b g off n c l x w h hz
  · exact reval_7 b g off n c l x w h hz
  · exact reval_8 b g off n c l x w h hz
end Go.Proofs.YtebcfbcfipmahaaGreat
