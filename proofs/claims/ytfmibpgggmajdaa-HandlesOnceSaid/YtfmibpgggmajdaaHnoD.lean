/- Layer 48: the mathematics of handles that were told; HandlesOnce. -/
import Derived.Test.YtfmibpgggmajdaaHnoC
import Derived.Deep.AppendLies
import Derived.Test.YtfmibpgggmajdaaRowQ
namespace Go.Hnd
open Go Go.Bv Go.Ali
set_option linter.unusedVariables false
theorem hd_nat {s : BitVec 64} {i : Nat} (hi : i < 16) (hs : s.toNat ≤ 1000) : (hd s i).toNat = i + 16 * s.toNat := by
  unfold hd
  rw [BitVec.toNat_add, BitVec.toNat_mul, BitVec.toNat_ofNat]
  have : (16#64).toNat = 16 := rfl
  rw [this]
  omega
/-- what was told so far: handles of places, stored no later than what is there -/
structure Tol48 (L : List (BitVec 64)) (n k : Nat) (P : Ps) : Prop where
  old : ∀ x, x ∈ L → ∃ i s, i < n ∧ s.toNat ≤ (P.sd i).toNat ∧ x = hd s i
  few : ∀ i, i < n → (P.sd i).toNat ≤ k
  len : L.length ≤ k
theorem Tol48.start (n : Nat) (P : Ps) (h : ∀ i, P.sd i = 0#64) : Tol48 [] n 0 P := ⟨fun x hx => (by cases hx), fun i _ => (by rw [h i]; exact Nat.le_refl _), Nat.le_refl _⟩
theorem Tol48.none {L : List (BitVec 64)} {n k : Nat} {P : Ps} (h : Tol48 L n k P) : Tol48 L n (k + 1) P := ⟨h.old, fun i hi => Nat.le_succ_of_le (h.few i hi), Nat.le_succ_of_le h.len⟩
theorem Tol48.same {L : List (BitVec 64)} {n k : Nat} {P Q : Ps} (h : Tol48 L n k P) (hq : ∀ i, Q.sd i = P.sd i) : Tol48 L n (k + 1) Q :=
  ⟨fun x hx => by obtain ⟨i, s, a, b, c⟩ := h.old x hx; exact ⟨i, s, a, by rw [hq]; exact b, c⟩, fun i hi => by rw [hq]; exact Nat.le_succ_of_le (h.few i hi), Nat.le_succ_of_le h.len⟩
theorem sd_one {s : BitVec 64} (h : s.toNat ≤ 999) : (s + 1#64).toNat = s.toNat + 1 := by
  rw [BitVec.toNat_add]
  have : (1#64).toNat = 1 := rfl
  rw [this]; omega
theorem Tol48.new {L : List (BitVec 64)} {n k : Nat} {P : Ps} (h : Tol48 L n k P) (hn : n ≤ 16) (hk : k ≤ 900) {i : Nat} (hi : i < n) : ∀ x, x ∈ L → x ≠ hd (P.sd i + 1#64) i := by
  intro x hx e
  obtain ⟨j, s, a, b, c⟩ := h.old x hx
  have h1 := h.few i hi
  have h2 := h.few j a
  have h3 := sd_one (s := P.sd i) (by omega)
  have h4 := hd_nat (s := P.sd i + 1#64) (i := i) (by omega) (by omega)
  have h5 := hd_nat (s := s) (i := j) (by omega) (by omega)
  rw [← e, c, h5] at h4
  have : j = i := by omega
  subst this
  omega
theorem Tol48.put {L : List (BitVec 64)} {n k : Nat} {P Q : Ps} (h : Tol48 L n k P) (hk : k ≤ 900) {i : Nat} (hi : i < n) (hq : Q.sd = upd P.sd i (P.sd i + 1#64)) : Tol48 (L ++ [hd (P.sd i + 1#64) i]) n (k + 1) Q := by
  have h1 := h.few i hi
  have h3 := sd_one (s := P.sd i) (by omega)
  refine ⟨fun x hx => ?_, fun j hj => ?_, by rw [List.length_append]; have := h.len; simp; omega⟩
  · rcases List.mem_append.1 hx with hx | hx
    · obtain ⟨j, s, a, b, c⟩ := h.old x hx
      refine ⟨j, s, a, ?_, c⟩
      rw [hq]
      by_cases e : j = i
      · subst e; rw [upd_same]; omega
      · rw [upd_other _ _ e]; exact b
    · have e : x = hd (P.sd i + 1#64) i := by simpa using hx
      exact ⟨i, P.sd i + 1#64, hi, by rw [hq, upd_same]; exact Nat.le_refl _, e⟩
  · rw [hq]
    by_cases e : j = i
    · subst e; rw [upd_same]; omega
    · rw [upd_other _ _ e]; exact Nat.le_succ_of_le (h.few j hj)
end Go.Hnd
namespace Go.Proofs.Ytfmibpgggmajdaa
open Go Go.RowKit Go.Bv Go.Hnd Go.Ali
set_option linter.unusedVariables false
set_option maxRecDepth 100000
/-- a slice of ops -/
structure OpRow (w : World) (a : Option Addr) (n m : Nat) (kd : Nat → Int) (hh : Nat → BitVec 64) (nn : Nat → Int) : Prop where
  most : n ≤ 17592186044416
  at0 : 0 < n → ∃ b off, a = some ⟨b, off, none⟩ ∧ ∀ i, i < n → w.cell? ⟨b, off + i * 3, none⟩ = some (.int .i64 (kd i)) ∧ w.cell? ⟨b, off + i * 3 + 1, none⟩ = some (.int .u64 (W64 (hh i))) ∧ w.cell? ⟨b, off + i * 3 + 2, none⟩ = some (.int .i64 (nn i))
theorem OpRow.stay {w w' : World} {a : Option Addr} {n m : Nat} {kd : Nat → Int} {hh : Nat → BitVec 64} {nn : Nat → Int} (h : OpRow w a n m kd hh nn) (hn : New w w') : OpRow w' a n m kd hh nn := by
  refine ⟨h.most, fun h0 => ?_⟩
  obtain ⟨b, off, e, hc⟩ := h.at0 h0
  refine ⟨b, off, e, fun i hi => ?_⟩
  obtain ⟨c0, c1, c2⟩ := hc i hi
  exact ⟨(hn.cell (cell_block c0)).trans c0, (hn.cell (cell_block c1)).trans c1, (hn.cell (cell_block c2)).trans c2⟩
theorem ow_blk48 {w w' : World} {base size : Nat} {e : TypeId} {v : Value} {n : Nat} {xs : List Value} (h : w.ownsRow base e size v n xs) (hb : ∀ g, v.ownBlock = some g → w'.heap[g]? = w.heap[g]?) : w'.ownsRow base e size v n xs := by
  refine ⟨h.1, ?_⟩
  rcases h.2 with h2 | ⟨g, cap, cur, rfl, hg, hc, rest⟩
  · exact .inl h2
  · exact .inr ⟨g, cap, cur, rfl, hg, (hb g rfl).trans hc, rest⟩
theorem ow_lt48 {w : World} {base size : Nat} {e : TypeId} {v : Value} {n : Nat} {xs : List Value} (h : w.ownsRow base e size v n xs) : ∀ g, v.ownBlock = some g → base ≤ g ∧ g < w.heap.size := by
  intro g hg
  rcases h.2 with ⟨rfl, _⟩ | ⟨g', cap, cur, rfl, hb, hc, _⟩
  · cases hg
  · have e : g' = g := by simpa [Value.ownBlock] using hg
    subst e
    exact ⟨hb, lt_of_block hc⟩
theorem TM.grown {w w' : World} {tb b n B : Nat} {P : Ps} (h : TM w tb b n P) {r : Option Nat} (hg : w.grownBy w' r) (hr : ∀ g, r = some g → B ≤ g) (h1 : tb < B) (h2 : b < B) : TM w' tb b n P := by
  obtain ⟨cs, h3, h4⟩ := h.row
  exact ⟨(hg.block _ (lt_of_block h.tbl) (fun e => by have := hr _ e.symm; omega)).trans h.tbl, ⟨cs, (hg.block _ (lt_of_block h3) (fun e => by have := hr _ e.symm; omega)).trans h3, h4⟩, h.ne⟩
theorem info_w48 : (Try.prog.info? 28).map (fun i => (i.zero, i.size, i.bytes)) = some (some (.int .u64 0), 1, 8) := by kernel_rfl
theorem news1_48 (w : World) (v : Value) (t : TypeId) : ∀ j u, [v][j]? = some u → (w.alloc (.cells #[v] t)).cell? ((⟨w.heap.size, 0, none⟩ : Addr).add j) = some u := by
  intro j u h
  rw [add_plain, Nat.zero_add, World.cell?_alloc_new]
  simpa using h
/-- what stands behind k ops -/
structure OnI (W wr : World) (B tb b n k : Nat) (tv : Value) (P : Ps) (L : List (BitVec 64)) : Prop where
  new : New W wr
  tm : TM wr tb b n P
  row : wr.ownsRow B 28 1 tv L.length (L.map fun x => .int .u64 (W64 x))
  told : Tol48 L n k P
  le : B ≤ wr.heap.size
theorem OnI.on {W wr w2 : World} {B tb b n k k' : Nat} {tv : Value} {P Q : Ps} {L : List (BitVec 64)} (h : OnI W wr B tb b n k tv P L) (ho : On b wr w2) (hW : W.heap.size ≤ b) (hb : b < B) (ht : TM w2 tb b n Q) (hl : Tol48 L n k' Q) : OnI W w2 B tb b n k' tv Q L :=
  ⟨ho.new W h.new hW, ht, ow_blk48 h.row (fun g hg => ho.block g (ow_lt48 h.row g hg).2 (by have := (ow_lt48 h.row g hg).1; omega)), hl, Nat.le_trans h.le ho.size⟩
set_option maxHeartbeats 16000000 in
theorem once_48 (r : Int) (a : Option Addr) (m c : Nat) (kd : Nat → Int) (hh : Nat → BitVec 64) (nn : Nat → Int) (W : World) (ho : OpRow W a m c kd hh nn) :
    Calls Try.prog 4 #[.int .i64 r, .slice a m c] W fun e w' => e = .returned (.bool true) ∧ New W w' := by
  have hmost := ho.most
  have HO := Lib.hid ho
  have HNR := Lib.hid (rm_le r)
  have HIN := Lib.hid (info3 info_w48)
  clear ho
  by_cases hs : (120 : Int) < (m : Int)
  · go_enter Try.func4, Try.ntmps4
    go_wp2_with fail
    refine (awake48 _).mono ?_
    rintro e w1 ⟨rfl, n1⟩
    have HN1 := Lib.hid n1
    clear n1
    go_wp2
    go_ret
    exact ⟨rfl, HN1.out⟩
  · go_enter Try.func4, Try.ntmps4
    go_wp2_with fail
    refine (awake48 _).mono ?_
    rintro e w1 ⟨rfl, n1⟩
    have HN1 := Lib.hid n1
    clear n1
    go_wp2_with fail
    refine (new_any r _).mono ?_
    rintro e w2 ⟨tb, b, rfl, hb1, hb2, ht, n2⟩
    obtain ⟨n, hn⟩ : ∃ n, rmN r = n := ⟨_, rfl⟩
    rw [hn] at ht HNR
    have HBB : Hid (W.heap.size ≤ b ∧ b < w2.heap.size ∧ tb < w2.heap.size) := Lib.hid ⟨Nat.le_trans HN1.out.le hb1, ht.lt.2, ht.lt.1⟩
    have HI0 : Hid (OnI W w2 w2.heap.size tb b n 0 (.slice none 0 0) p0 []) := Lib.hid ⟨HN1.out.trans n2, ht, World.ownsRow_nil _ _ _ 1, Tol48.start n p0 (fun _ => rfl), Nat.le_refl _⟩
    clear hb1 hb2 ht n2 hn HN1
    obtain ⟨B, hB⟩ : ∃ B, w2.heap.size = B := ⟨_, rfl⟩
    rw [hB] at HBB HI0
    clear hB
    go_wp2_with fail
    go_loopw [6, 22] (fun tv iv wr => ∃ (k : Nat) (P : Ps) (L : List (BitVec 64)), k ≤ m ∧ iv = .int .i64 (k : Int) ∧ Hid (OnI W wr B tb b n k tv P L)) (fun _ iv _ => m - (intOf iv).toNat)
    case atStart => exact ⟨0, p0, [], Nat.zero_le _, rfl, HI0⟩
    case round =>
      clear HI0
      obtain ⟨tv, htv⟩ : ∃ z, u6 = z := ⟨_, rfl⟩
      rw [htv] at hrel ⊢
      clear htv
      obtain ⟨k, P, L, hk, rfl, HI⟩ := hrel
      by_cases hlt : (k : Int) < (m : Int)
      · have hk0 : (0 : Int) ≤ (k : Int) := by omega
        have hkm : k < m := by omega
        obtain ⟨gb, go, e1, hc⟩ := (HO.out.stay HI.out.new).at0 (by omega)
        subst e1
        obtain ⟨c0, c1, c2⟩ := hc k hkm
        obtain ⟨kk, hkk⟩ : ∃ z, kd k = z := ⟨_, rfl⟩
        obtain ⟨hx, hhx⟩ : ∃ z, hh k = z := ⟨_, rfl⟩
        obtain ⟨nx, hnx⟩ : ∃ z, nn k = z := ⟨_, rfl⟩
        rw [hkk] at c0
        rw [hhx] at c1
        rw [hnx] at c2
        have hbx := heap_alloc_new wr (.cells #[.int .i64 kk, .int .u64 (W64 hx), .int .i64 nx] 30)
        have hna := (New.refl wr).alloc (.cells #[.int .i64 kk, .int .u64 (W64 hx), .int .i64 nx] 30)
        have HIA : Hid (OnI W (wr.alloc (.cells #[.int .i64 kk, .int .u64 (W64 hx), .int .i64 nx] 30)) B tb b n k tv P L) := Lib.hid (HI.out.on (On.of_new hna) HBB.out.1 HBB.out.2.1 (HI.out.tm.stay hna) HI.out.told)
        have HBX := Lib.hid hbx
        have HLB : Hid (wr.heap.size ≠ b) := Lib.hid (by have := HI.out.le; have := HBB.out.2.1; omega)
        have k0 := cell_of_row _ _ 0 _ _ _ hbx
        have k1 := cell_of_row _ _ 1 _ _ _ hbx
        have k2 := cell_of_row _ _ 2 _ _ _ hbx
        clear hc hkk hhx hnx hbx hna
        by_cases h0 : kk = 0
        · subst h0
          have HPU := Lib.hid (put_any tb b n HNR.out.1 (by have := HNR.out.2; omega) P nx _ HIA.out.tm)
          go_wp2_with fail
          refine HPU.out.mono ?_
          intro e w4 hp
          unfold PutP at hp
          rcases hp with ⟨i, hfi, rfl, ht4, ho4⟩ | ⟨hfi, rfl, n4⟩
          · have hin := (fnd_some hfi).1
            have hkb : k ≤ 900 := by omega
            have HNE := Lib.hid (HI.out.told.new HNR.out.2 hkb hin)
            have HTOLD : Hid (Tol48 (L ++ [hd (P.sd i + 1#64) i]) n (k + 1) (putP P i nx true (P.sd i + 1#64))) := Lib.hid (HI.out.told.put hkb hin rfl)
            have HLN : Hid (L.length ≤ 120) := Lib.hid (by have := HI.out.told.len; omega)
            have HNW := Lib.hid (ho4.new W HIA.out.new HBB.out.1)
            have hr4 := ow_blk48 HIA.out.row (fun g hg => ho4.block g (ow_lt48 HIA.out.row g hg).2 (by have := (ow_lt48 HIA.out.row g hg).1; have := HBB.out.2.1; omega))
            have HLE : Hid (B ≤ w4.heap.size) := Lib.hid (Nat.le_trans HIA.out.le ho4.size)
            have HT4 := Lib.hid ht4
            obtain ⟨ta, tc, rfl, hq4⟩ := QRow.of_owns hr4 (by have := HLN.out; omega)
            obtain ⟨ln, hln⟩ : ∃ z, L.length = z := ⟨_, rfl⟩
            rw [hln] at hr4 hq4 HLN ⊢
            obtain ⟨y, hy⟩ : ∃ z, hd (P.sd i + 1#64) i = z := ⟨_, rfl⟩
            rw [hy] at HNE HTOLD ⊢
            have HR := Lib.hid hr4
            have HQ := Lib.hid hq4
            obtain ⟨i0, hi, hz0, hz1, hz2⟩ := HIN.out
            have hln120 : ln ≤ 120 := HLN.out
            clear hr4 hq4 hln hy ht4 ho4 hfi k0 k1 k2 c0 c1 c2 HPU hkb HIA HI
            go_wp2_with fail
            go_loopw [38] (fun iv wx => ∃ q : Nat, q ≤ ln ∧ iv = .int .i64 (q : Int) ∧ wx = w4) (fun iv _ => ln - (intOf iv).toNat)
            case atStart => exact ⟨0, Nat.zero_le _, rfl, rfl⟩
            case round =>
              obtain ⟨q, hq, rfl, rfl⟩ := hrel
              by_cases hlt2 : (q : Int) < (ln : Int)
              · have hq0 : (0 : Int) ≤ (q : Int) := by omega
                have hqn : q < ln := by omega
                obtain ⟨p1, o1, e1, d1⟩ := HQ.out.addr (by omega)
                subst e1
                replace d1 := d1 q hqn
                have hne := HNE.out (L.getD q 0) (by rw [List.getD_eq_getElem?_getD, List.getElem?_eq_getElem (by rw [HQ.out.len_eq]; exact hqn)]; exact List.getElem_mem _)
                obtain ⟨x, hx2⟩ : ∃ x, L.getD q 0 = x := ⟨_, rfl⟩
                rw [hx2] at d1
                rw [hx2] at hne
                have hb2 : (W64 x == W64 y) = false := by
                  rw [beq_eq_false_iff_ne]; intro e; apply hne; unfold W64 at e; exact BitVec.eq_of_toNat_eq (by omega)
                clear hne
                clear hx2
                go_wp2
                exact ⟨⟨q + 1, by omega, by go_num, by first | rfl | trivial⟩, by simp [intOf]; omega⟩
              · obtain rfl : q = ln := by omega
                have hown := HR.out
                have hle := HLE.out
                go_wp2_with (at_builtin; refine wpList_append_lies _ rfl _ _ 34 rfl B 28 i0 (.int .u64 0) 1 8 Try.underlying34 hi hz0 hz1 hz2 rfl (by decide) _ q _ rfl (hown.alloc _) ⟨wr.heap.size, 0, none⟩ 1 1 [.int .u64 (W64 y)] rfl rfl ?a1 ?b1 (by decide) ?d1 ?e1 ?f1 (wr.heap.size + 1) (by simp) ?_)
                try (case a1 => exact news1_48 _ _ _)
                try (case b1 => first | (intro u hu; simp at hu; subst hu; rfl) | rfl)
                try (case d1 => first | (unfold maxLen; have := HLN.out; omega) | (have := HLN.out; omega))
                try (case e1 => have := HLN.out; omega)
                try (case f1 => first | (simp; omega) | omega)
                intro g1 cc1 w6 how hgr hat hlt6
                have hna := (New.refl wr).alloc (.cells #[.int .u64 (W64 y)] 28)
                have hbs := fun g e => (ow_lt48 hown g e).1
                have HFIN : Hid (OnI W w6 B tb b n (k + 1) (.slice (some ⟨g1, 0, none⟩) (q + 1) cc1) (putP P i nx true (P.sd i + 1#64)) (L ++ [y])) := Lib.hid ⟨(HNW.out.trans hna).grown' hgr (fun g e => by have := hbs g e; have := HBB.out.1; have := HBB.out.2.1; omega), (HT4.out.stay hna).grown hgr (B := B) hbs HBB.out.2.2 HBB.out.2.1, by rw [List.length_append, List.map_append, HQ.out.len_eq]; exact how, HTOLD.out, by have := hgr.size; have := hna.le; omega⟩
                clear how hgr hat hlt6 hna hbs hown
                go_wp2
                exact ⟨⟨k + 1, _, _, by omega, by go_num, HFIN⟩, by simp [intOf]; omega⟩
          · have HFIN : Hid (OnI W w4 B tb b n (k + 1) tv P L) := Lib.hid (HIA.out.on (On.of_new n4) HBB.out.1 HBB.out.2.1 (HIA.out.tm.stay n4) HI.out.told.none)
            have HLN : Hid (L.length ≤ 120) := Lib.hid (by have := HI.out.told.len; omega)
            obtain ⟨ta, tc, rfl, hq4⟩ := QRow.of_owns HFIN.out.row (by have := HLN.out; omega)
            obtain ⟨ln, hln⟩ : ∃ z, L.length = z := ⟨_, rfl⟩
            rw [hln] at hq4 HLN ⊢
            have HFI2 := HFIN
            rw [hln] at HFIN
            have HQ := Lib.hid hq4
            have hln120 : ln ≤ 120 := HLN.out
            clear hq4 n4 hfi k0 k1 k2 c0 c1 c2 HPU HIA HI HFI2
            go_wp2_with fail
            go_loopw [38] (fun iv wx => ∃ q : Nat, q ≤ ln ∧ iv = .int .i64 (q : Int) ∧ wx = w4) (fun iv _ => ln - (intOf iv).toNat)
            case atStart => exact ⟨0, Nat.zero_le _, rfl, rfl⟩
            case round =>
              obtain ⟨q, hq, rfl, rfl⟩ := hrel
              by_cases hlt2 : (q : Int) < (ln : Int)
              · have hq0 : (0 : Int) ≤ (q : Int) := by omega
                have hqn : q < ln := by omega
                obtain ⟨p1, o1, e1, d1⟩ := HQ.out.addr (by omega)
                subst e1
                replace d1 := d1 q hqn
                obtain ⟨x, hx2⟩ : ∃ x, L.getD q 0 = x := ⟨_, rfl⟩
                rw [hx2] at d1
                clear hx2
                go_wp2
                exact ⟨⟨q + 1, by omega, by go_num, by first | rfl | trivial⟩, by simp [intOf]; omega⟩
              · obtain rfl : q = ln := by omega
                go_wp2
                exact ⟨⟨k + 1, _, _, by omega, by go_num, HFIN⟩, by simp [intOf]; omega⟩
        · have hk0' : (kk == 0) = false := by rw [beq_eq_false_iff_ne]; exact h0
          by_cases h2 : kk = 2
          · subst h2
            have HSE := Lib.hid (set_any tb b n HNR.out.1 (by have := HNR.out.2; omega) P hx nx _ HIA.out.tm)
            go_wp2_with fail
            refine HSE.out.mono ?_
            intro e w4 hp
            unfold SetP at hp
            rcases hp with ⟨i, hfi, rfl, ht4, ho4⟩ | ⟨hfi, rfl, n4⟩
            · have HFIN : Hid (OnI W w4 B tb b n (k + 1) tv (putP P i nx (P.tk i) (P.sd i)) L) := Lib.hid (HIA.out.on ho4 HBB.out.1 HBB.out.2.1 ht4 (HI.out.told.same (fun j => by
                show upd P.sd i (P.sd i) j = P.sd j
                unfold upd; split <;> simp_all)))
              have hb4 := (ho4.block _ (lt_of_block HBX.out) HLB.out).trans HBX.out
              clear ht4 ho4 k0 k1 k2 c0 c1 c2 hfi HSE
              have k0 := cell_of_row _ _ 0 _ _ _ hb4
              clear hb4
              go_wp2
              exact ⟨⟨k + 1, _, _, by omega, by go_num, HFIN⟩, by simp [intOf]; omega⟩
            · have HFIN : Hid (OnI W w4 B tb b n (k + 1) tv P L) := Lib.hid (HIA.out.on (On.of_new n4) HBB.out.1 HBB.out.2.1 (HIA.out.tm.stay n4) HI.out.told.none)
              have hb4 := (n4.block _ (lt_of_block HBX.out)).trans HBX.out
              clear n4 k0 k1 k2 c0 c1 c2 hfi HSE
              have k0 := cell_of_row _ _ 0 _ _ _ hb4
              clear hb4
              go_wp2
              exact ⟨⟨k + 1, _, _, by omega, by go_num, HFIN⟩, by simp [intOf]; omega⟩
          · have hk2' : (kk == 2) = false := by rw [beq_eq_false_iff_ne]; exact h2
            by_cases h3 : kk = 3
            · subst h3
              have HSE := Lib.hid (drop_any tb b n HNR.out.1 (by have := HNR.out.2; omega) P hx _ HIA.out.tm)
              go_wp2_with fail
              refine HSE.out.mono ?_
              intro e w4 hp
              unfold SetP at hp
              rcases hp with ⟨i, hfi, rfl, ht4, ho4⟩ | ⟨hfi, rfl, n4⟩
              · have HFIN : Hid (OnI W w4 B tb b n (k + 1) tv (putP P i 0 false (P.sd i)) L) := Lib.hid (HIA.out.on ho4 HBB.out.1 HBB.out.2.1 ht4 (HI.out.told.same (fun j => by
                  show upd P.sd i (P.sd i) j = P.sd j
                  unfold upd; split <;> simp_all)))
                clear ht4 ho4 k0 k1 k2 c0 c1 c2 hfi HSE
                go_wp2
                exact ⟨⟨k + 1, _, _, by omega, by go_num, HFIN⟩, by simp [intOf]; omega⟩
              · have HFIN : Hid (OnI W w4 B tb b n (k + 1) tv P L) := Lib.hid (HIA.out.on (On.of_new n4) HBB.out.1 HBB.out.2.1 (HIA.out.tm.stay n4) HI.out.told.none)
                clear n4 k0 k1 k2 c0 c1 c2 hfi HSE
                go_wp2
                exact ⟨⟨k + 1, _, _, by omega, by go_num, HFIN⟩, by simp [intOf]; omega⟩
            · have hk3' : (kk == 3) = false := by rw [beq_eq_false_iff_ne]; exact h3
              have HFIN : Hid (OnI W (wr.alloc (.cells #[.int .i64 kk, .int .u64 (W64 hx), .int .i64 nx] 30)) B tb b n (k + 1) tv P L) := Lib.hid ⟨HIA.out.new, HIA.out.tm, HIA.out.row, HI.out.told.none, HIA.out.le⟩
              go_wp2
              exact ⟨⟨k + 1, _, _, by omega, by go_num, HFIN⟩, by simp [intOf]; omega⟩
      · obtain rfl : k = m := by omega
        go_wp2
        go_ret
        exact ⟨rfl, HI.out.new⟩
end Go.Proofs.Ytfmibpgggmajdaa
