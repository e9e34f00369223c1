/- Layer 43: AliasBuilds. -/
import Derived.Test.YtbjclkjikclljaaAlbG
import Derived.Deep.RegionHeld3
import Derived.Deep.DeepCutAuto
namespace Go.Proofs.Ytbjclkjikclljaa
open Go Go.RowKit Go.Bv Go.Ali
set_option linter.unusedVariables false
set_option maxRecDepth 100000
theorem tl_none (w : World) : TL w none 0 0 none 0 0 [] [] :=
  ⟨⟨rfl, Nat.le_refl _, by omega, by omega, fun _ => ⟨rfl, rfl⟩, (fun _ _ e => by cases e), (fun _ e => by cases e), (fun _ e => by cases e)⟩, ⟨rfl, Nat.le_refl _, by omega, by omega, fun _ => ⟨rfl, rfl⟩, (fun _ _ e => by cases e), (fun _ e => by cases e), (fun _ e => by cases e), (fun z hz => by cases hz)⟩⟩
set_option maxHeartbeats 8000000 in
theorem builds_43_no (a : Option Addr) (n c : Nat) (l : List (BitVec 64)) (hE : wE l ≠ 0) (w : World) (h : QRow w a n c l) :
    Calls Try.prog 3 #[.slice a n c] w fun e w' => e = .returned (.bool true) ∧ New w w' := by
  have HC : Hid (∀ w', New w w' → Calls Try.prog 10 #[.slice a n c] w' fun e w2 => e = .returned (.int .i64 (wE l)) ∧ New w' w2) := Lib.hid (fun w' hn => checkr_43 a n c l w' (h.stay hn))
  have HB : Hid (∀ w', New w w' → Calls Try.prog 9 #[.slice a n c] w' fun e w2 => e = .returned (.tuple #[noT, .int .i64 (wE l)]) ∧ New w' w2) := Lib.hid (fun w' hn => by
    refine (build_any a n c l w' (h.stay hn)).mono ?_
    rintro e w2 ⟨v, rfl, _, q2, q3⟩
    rw [q2 hE]
    exact ⟨rfl, q3⟩)
  have HS : Hid (∀ w', Calls Try.prog 11 #[noT, noT] w' fun e w2 => e = .returned (.bool true) ∧ New w' w2) := Lib.hid (fun w' => by
    have h0 : W64 0#64 = 0 := W64_lit 0 (by omega)
    have := same_43 0#64 none 0 0 none 0 none 0 none 0 [] [] w' (tl_none w') (tl_none w')
    unfold tv at this
    rw [h0] at this
    exact this)
  obtain ⟨z, hz⟩ : ∃ z, wE l = z := ⟨_, rfl⟩
  rw [hz] at HC HB hE
  have hb : (z != 0) = true := by rw [bne_iff_ne]; exact hE
  clear hE hz h
  go_enter Try.func3, Try.ntmps3
  go_wp2_with fail
  refine (awake43 _).mono ?_
  rintro e w1 ⟨rfl, n1⟩
  have HN1 := Lib.hid n1
  clear n1
  go_wp2_with fail
  refine (HB.out _ HN1.out).mono ?_
  rintro e w2 ⟨rfl, n2⟩
  have hbx := heap_alloc_new w2 (TB (.int .u64 0) (.slice none 0 0) (.slice none 0 0))
  have HN2 := Lib.hid ((HN1.out.trans n2).alloc (TB (.int .u64 0) (.slice none 0 0) (.slice none 0 0)))
  obtain ⟨w3, hw3⟩ : ∃ w3, w2.alloc (TB (.int .u64 0) (.slice none 0 0) (.slice none 0 0)) = w3 := ⟨_, rfl⟩
  rw [hw3] at hbx HN2
  have HW3 := Lib.hid hw3
  have HBX := Lib.hid hbx
  clear n2 HB hw3 hbx
  go_wp2_with fail
  rw [HW3.out]
  refine (HC.out _ HN2.out).mono ?_
  rintro e w4 ⟨rfl, n4⟩
  have k0 := cell_of_row _ _ 0 _ _ _ (blk_stay HBX.out n4)
  have k1 := cell_of_row _ _ 1 _ _ _ (blk_stay HBX.out n4)
  have k2 := cell_of_row _ _ 2 _ _ _ (blk_stay HBX.out n4)
  have HN4 := Lib.hid (HN2.out.trans n4)
  clear n4 HC HW3
  go_wp2_with fail
  refine (HS.out _).mono ?_
  rintro e w5 ⟨rfl, n5⟩
  have HN5 := Lib.hid (HN4.out.trans n5)
  clear n5 k0 k1 k2 HS
  go_wp2
  go_ret
  exact ⟨rfl, HN5.out⟩
set_option maxHeartbeats 16000000 in
theorem builds_43_ok (a : Option Addr) (n c : Nat) (l : List (BitVec 64)) (hE : wE l = 0) (w : World) (h : QRow w a n c l) :
    Calls Try.prog 3 #[.slice a n c] w fun e w' => e = .returned (.bool true) ∧ New w w' := by
  have hl := h.len_eq
  obtain ⟨h1, h2, h3, h4⟩ := we_good hE
  obtain ⟨h5, hinv, hst⟩ := cols_good hE
  have HTE := Lib.hid (te_cols hE)
  have HAL : Hid (∀ i, i < n → (cols l).al i < n) := Lib.hid (by rw [← hl]; exact hinv.al)
  rw [hl] at HTE
  have hn0 : 0 < n := by omega
  have hn256 : n ≤ 256 := by omega
  have HC : Hid (∀ w', New w w' → Calls Try.prog 10 #[.slice a n c] w' fun e w2 => e = .returned (.int .i64 0) ∧ New w' w2) := Lib.hid (fun w' hn => by rw [← hE]; exact checkr_43 _ n c l w' (h.stay hn))
  have HBU : Hid (∀ w', New w w' → Calls Try.prog 9 #[.slice a n c] w' fun e w2 => ∃ g1 g2, e = .returned (.tuple #[tv (tot l n) (some ⟨g1, 0, none⟩) n n (some ⟨g2, 0, none⟩) n n, .int .i64 0]) ∧ TL w2 (some ⟨g1, 0, none⟩) n n (some ⟨g2, 0, none⟩) n n (beL n (cols l)) (alL n (cols l)) ∧ New w' w2) := Lib.hid (fun w' hn => by
    refine (build_any _ n c l w' (h.stay hn)).mono ?_
    rintro e w2 ⟨v, rfl, q1, _, q3⟩
    obtain ⟨g1, g2, rfl, ht⟩ := (q1 hE).open hn256 HAL.out
    rw [hE]
    exact ⟨g1, g2, rfl, ht, q3⟩)
  have HBR : Hid (∀ w', New w w' → Calls Try.prog 12 #[.slice a n c] w' fun e w2 => ∃ ab cb aa ca, e = .returned (tv (tot l n) ab n cb aa n ca) ∧ TL w2 ab n cb aa n ca (beL n (cols l)) (alL n (cols l)) ∧ New w' w2) := Lib.hid (fun w' hn => buildr_43 a n c l hE w' (h.stay hn))
  obtain ⟨T, hT⟩ : ∃ T, tot l n = T := ⟨_, rfl⟩
  rw [hT] at HTE HBU HBR
  obtain ⟨be, hbe⟩ : ∃ be, beL n (cols l) = be := ⟨_, rfl⟩
  obtain ⟨al, hal⟩ : ∃ al, alL n (cols l) = al := ⟨_, rfl⟩
  rw [hbe, hal] at HTE HBU HBR
  clear hE h1 h2 h3 h4 h5 hinv hst hl h hT hbe hal HAL
  go_enter Try.func3, Try.ntmps3
  go_wp2_with fail
  refine (awake43 _).mono ?_
  rintro e w1 ⟨rfl, n1⟩
  have HN1 := Lib.hid n1
  clear n1
  go_wp2_with fail
  refine (HBU.out _ HN1.out).mono ?_
  rintro e w3 ⟨g1, g2, rfl, ht3, n3⟩
  have hnx := (New.refl w3).alloc (TB (.int .u64 (W64 T)) (.slice (some ⟨g1, 0, none⟩) n n) (.slice (some ⟨g2, 0, none⟩) n n))
  have HN3 := Lib.hid ((HN1.out.trans n3).trans hnx)
  have HTL : Hid (∀ w', New (w3.alloc (TB (.int .u64 (W64 T)) (.slice (some ⟨g1, 0, none⟩) n n) (.slice (some ⟨g2, 0, none⟩) n n))) w' → TL w' (some ⟨g1, 0, none⟩) n n (some ⟨g2, 0, none⟩) n n be al) := Lib.hid (fun w' q => ht3.stay (hnx.trans q))
  have HBX : Hid (∀ w', New (w3.alloc (TB (.int .u64 (W64 T)) (.slice (some ⟨g1, 0, none⟩) n n) (.slice (some ⟨g2, 0, none⟩) n n))) w' → w'.heap[w3.heap.size]? = some (TB (.int .u64 (W64 T)) (.slice (some ⟨g1, 0, none⟩) n n) (.slice (some ⟨g2, 0, none⟩) n n))) := Lib.hid bx_stay
  clear n3 ht3 hnx HBU
  obtain ⟨w0, hw0⟩ : ∃ w0, w3.alloc (TB (.int .u64 (W64 T)) (.slice (some ⟨g1, 0, none⟩) n n) (.slice (some ⟨g2, 0, none⟩) n n)) = w0 := ⟨_, rfl⟩
  rw [hw0] at HN3 HTL HBX
  have HW0 := Lib.hid hw0
  clear hw0
  go_wp2_with (rw [HW0.out])
  refine (HC.out _ HN3.out).mono ?_
  rintro e w4 ⟨rfl, n4⟩
  have HN4 := Lib.hid n4
  have HNB : Hid (∀ w', New w4 w' → New w w') := Lib.hid (fun w' q => (HN3.out.trans HN4.out).trans q)
  have HT4 : Hid (∀ w', New w4 w' → TL w' (some ⟨g1, 0, none⟩) n n (some ⟨g2, 0, none⟩) n n be al) := Lib.hid (fun w' q => HTL.out w' (HN4.out.trans q))
  have HB4 : Hid (∀ w', New w4 w' → w'.heap[w3.heap.size]? = some (TB (.int .u64 (W64 T)) (.slice (some ⟨g1, 0, none⟩) n n) (.slice (some ⟨g2, 0, none⟩) n n))) := Lib.hid (fun w' q => HBX.out w' (HN4.out.trans q))
  have HBR4 : Hid (∀ w', New w4 w' → Calls Try.prog 12 #[.slice a n c] w' fun e w2 => ∃ ab cb aa ca, e = .returned (tv T ab n cb aa n ca) ∧ TL w2 ab n cb aa n ca be al ∧ New w' w2) := Lib.hid (fun w' q => HBR.out w' (HNB.out w' q))
  have HCK : Hid (∀ w', New w4 w' → Calls Try.prog 13 #[tv T (some ⟨g1, 0, none⟩) n n (some ⟨g2, 0, none⟩) n n] w' fun e w2 => e = .returned (.int .i64 0) ∧ New w' w2) := Lib.hid (fun w' q => by rw [← HTE.out]; exact check_43 T _ n n _ n n be al w' (HT4.out w' q))
  have HSM : Hid (∀ w' ab cb aa ca, New w4 w' → TL w' ab n cb aa n ca be al → Calls Try.prog 11 #[tv T (some ⟨g1, 0, none⟩) n n (some ⟨g2, 0, none⟩) n n, tv T ab n cb aa n ca] w' fun e w2 => e = .returned (.bool true) ∧ New w' w2) := Lib.hid (fun w' ab cb aa ca q ht => same_43 T _ n n _ n ab cb aa ca be al w' (HT4.out w' q) ht)
  have SK : Hid (∀ w', New w4 w' → New w4 w' ∧ w'.cell? ⟨w3.heap.size, 0, none⟩ = some (.int .u64 (W64 T)) ∧ w'.cell? ⟨w3.heap.size, 1, none⟩ = some (.slice (some ⟨g1, 0, none⟩) n n) ∧ w'.cell? ⟨w3.heap.size, 2, none⟩ = some (.slice (some ⟨g2, 0, none⟩) n n)) := Lib.hid (fun w' hn => by
    have h1 := HB4.out w' hn
    exact ⟨hn, cell_of_row _ _ 0 _ _ _ h1, cell_of_row _ _ 1 _ _ _ h1, cell_of_row _ _ 2 _ _ _ h1⟩)
  obtain ⟨_, k0, k1, k2⟩ := SK.out w4 (New.refl _)
  clear n4 HC HBX HTL HN3 HN1 HN4 HBR HW0 HB4 HTE HT4
  go_wp2_with fail
  go_cut [2] (fun v wx => v = .bool true ∧ New w4 wx)
  case first =>
    go_region_held3 (fun w' => New w4 w' ∧ w'.cell? ⟨w3.heap.size, 0, none⟩ = some (.int .u64 (W64 T)) ∧ w'.cell? ⟨w3.heap.size, 1, none⟩ = some (.slice (some ⟨g1, 0, none⟩) n n) ∧ w'.cell? ⟨w3.heap.size, 2, none⟩ = some (.slice (some ⟨g2, 0, none⟩) n n))
      ((refine SK.out _ ?_; first | with_reducible assumption | with_reducible exact (New.refl _).drew | with_reducible exact New.drew (by assumption)))
      (first
      | (go_at_call 12
         refine (HBR4.out _ (by first | with_reducible exact (New.refl _).drew | with_reducible exact New.refl _)).mono ?_
         rintro e w5 ⟨ab, cb, aa, ca, rfl, ht, hn5⟩
         have hn6 : New w4 w5 := by first | with_reducible exact (New.refl w4).drew.trans hn5 | with_reducible exact hn5
         have HQF := Lib.hid ht
         clear ht hn5)
      | (go_at_call 11
         refine (HSM.out _ _ _ _ _ (by first | with_reducible exact hn6 | with_reducible exact hn6.drew) (by first | with_reducible exact HQF.out | with_reducible exact HQF.out.stay (New.refl _).drew)).mono ?_
         rintro e w6 ⟨rfl, hn⟩
         have hn7 : New w4 w6 := by first | with_reducible exact hn6.trans hn | with_reducible exact hn6.drew.trans hn
         clear hn)
      | (go_at_call 13
         refine (HCK.out _ (by first | with_reducible exact hn7 | with_reducible exact hn7.drew)).mono ?_
         rintro e w8 ⟨rfl, hn⟩
         have hn8 : New w4 w8 := by first | with_reducible exact hn7.trans hn | with_reducible exact hn7.drew.trans hn
         clear hn))
    all_goals (
      go_wp2_with fail
      go_meet
      case rel => first | with_reducible exact ⟨rfl, hn8⟩ | with_reducible exact ⟨rfl, hn8.drew⟩)
  case rest =>
    obtain ⟨rfl, hn9⟩ := hcut
    have HN9 := Lib.hid (HNB.out _ hn9)
    clear hn9
    apply_assumption
    refine wp_ret ?_
    refine bodyPost_ret (by simp [results, Try.results3, go_sem]; try rfl) rfl ?_
    exact ⟨rfl, HN9.out⟩
theorem AliasBuilds_walk (W : World) (a0 : Option Addr) (n0 m0 : Nat) (z0 : List Int) (w0 : IRow .u64 W a0 n0 m0 z0) (r0 : m0 * 8 ≤ 140737488351232) :
    Calls Try.prog 3 #[.slice a0 n0 m0] W fun e w' => e = .returned (.bool true) ∧ Below W.heap.size W w' := by
  obtain ⟨l, h⟩ := w0.words r0
  by_cases hE : wE l = 0
  · exact builds_43_ok a0 n0 m0 l hE W h
  · exact builds_43_no a0 n0 m0 l hE W h
end Go.Proofs.Ytbjclkjikclljaa
