import Derived.Test.YthkmcnlciefnfaaGreatZ5GsE
/- All generators, by their kinds: Check, the program's and the document's. -/
namespace Go.Proofs.YthkmcnlciefnfaaGreat
open Go.RowKit Go.Bv
set_option linter.unusedVariables false
set_option maxHeartbeats 800000 in
theorem check_any (k : Int) (q : W4) (w : World) : Calls Tryz.prog 43 #[.agg (stc k q)] w fun e w' => e = .returned (.int .i64 (chkK k q)) ∧ New w w' := by
  go_enter Tryz.func43, Tryz.ntmps43
  go_wp2_with fail
  refine (gin_any k q _).mono ?_
  rintro e w' ⟨⟨cs, rfl, hv⟩, hn⟩
  have hN := ((New.refl w).alloc _).trans hn
  rcases hv with ⟨hz, g, rfl, hg⟩ | ⟨hz, rfl⟩
  · clear hn
    go_wp2_with fail
    go_ret
    exact ⟨by rw [hz]; rfl, hN.alloc _⟩
  · clear hn
    go_wp2_with fail
    go_ret
    exact ⟨rfl, hN.alloc _⟩
theorem low_mod (x : BitVec 64) : x % 2#64 = x &&& 1#64 := by
  apply BitVec.eq_of_toNat_eq
  rw [BitVec.toNat_umod, BitVec.toNat_and]
  show x.toNat % 2 = x.toNat &&& 1
  rw [Nat.and_one_is_mod]
set_option linter.unusedSimpArgs false in
set_option maxRecDepth 100000 in
set_option maxHeartbeats 8000000 in
theorem rchk1 (q : W4) (w : World) : Calls Tryz.prog 17 #[.agg (stc 1 q)] w fun e w' => e = .returned (.int .i64 (chkK 1 q)) ∧ New w w' := by
  have hb := heap_alloc_new w (.cells (stc 1 q) 38)
  have HZ := Lib.hid hb
  clear hb
  rcases ha : (q.a != 0#64)
  · rcases hb : (q.b != 0#64)
    · rcases hc : (q.c != 0#64)
      · rcases hd : (q.d != 0#64)
        · go_enter Tryz.func17, Tryz.ntmps17
          go_wp2_with fail
          refine (rsize_any 1 _).mono ?_
          rintro e w' ⟨rfl, hn⟩
          rw [show szK 1 = 1 from rfl]
          have hx := (hn.block _ (lt_of_block HZ.out)).trans HZ.out
          have k0 := cell_of_row _ _ 0 _ _ _ hx
          have k1 := cell_of_row _ _ 1 _ _ _ hx
          have k2 := cell_of_row _ _ 2 _ _ _ hx
          have k3 := cell_of_row _ _ 3 _ _ _ hx
          have k4 := cell_of_row _ _ 4 _ _ _ hx
          have HN := Lib.hid (((New.refl w).alloc _).trans hn)
          clear hx hn
          go_wp2_with fail
          go_rounds 5
          go_ret
          refine ⟨?_, HN.out⟩
          clear k0 k1 k2 k3 k4 HN
          simp at ha hb hc hd
          first
            | (simp [chkK, okK, formK, szK, badK, W4.no, *]; done)
            | (exfalso; simp_all; done)
        · go_enter Tryz.func17, Tryz.ntmps17
          go_wp2_with fail
          refine (rsize_any 1 _).mono ?_
          rintro e w' ⟨rfl, hn⟩
          rw [show szK 1 = 1 from rfl]
          have hx := (hn.block _ (lt_of_block HZ.out)).trans HZ.out
          have k0 := cell_of_row _ _ 0 _ _ _ hx
          have k1 := cell_of_row _ _ 1 _ _ _ hx
          have k2 := cell_of_row _ _ 2 _ _ _ hx
          have k3 := cell_of_row _ _ 3 _ _ _ hx
          have k4 := cell_of_row _ _ 4 _ _ _ hx
          have HN := Lib.hid (((New.refl w).alloc _).trans hn)
          clear hx hn
          go_wp2_with fail
          go_rounds 5
          go_ret
          refine ⟨?_, HN.out⟩
          clear k0 k1 k2 k3 k4 HN
          simp at ha hb hc hd
          first
            | (simp [chkK, okK, formK, szK, badK, W4.no, *]; done)
            | (exfalso; simp_all; done)
      · go_enter Tryz.func17, Tryz.ntmps17
        go_wp2_with fail
        refine (rsize_any 1 _).mono ?_
        rintro e w' ⟨rfl, hn⟩
        rw [show szK 1 = 1 from rfl]
        have hx := (hn.block _ (lt_of_block HZ.out)).trans HZ.out
        have k0 := cell_of_row _ _ 0 _ _ _ hx
        have k1 := cell_of_row _ _ 1 _ _ _ hx
        have k2 := cell_of_row _ _ 2 _ _ _ hx
        have k3 := cell_of_row _ _ 3 _ _ _ hx
        have k4 := cell_of_row _ _ 4 _ _ _ hx
        have HN := Lib.hid (((New.refl w).alloc _).trans hn)
        clear hx hn
        go_wp2_with fail
        go_rounds 5
        go_ret
        refine ⟨?_, HN.out⟩
        clear k0 k1 k2 k3 k4 HN
        simp at ha hb hc
        first
          | (simp [chkK, okK, formK, szK, badK, W4.no, *]; done)
          | (exfalso; simp_all; done)
    · go_enter Tryz.func17, Tryz.ntmps17
      go_wp2_with fail
      refine (rsize_any 1 _).mono ?_
      rintro e w' ⟨rfl, hn⟩
      rw [show szK 1 = 1 from rfl]
      have hx := (hn.block _ (lt_of_block HZ.out)).trans HZ.out
      have k0 := cell_of_row _ _ 0 _ _ _ hx
      have k1 := cell_of_row _ _ 1 _ _ _ hx
      have k2 := cell_of_row _ _ 2 _ _ _ hx
      have k3 := cell_of_row _ _ 3 _ _ _ hx
      have k4 := cell_of_row _ _ 4 _ _ _ hx
      have HN := Lib.hid (((New.refl w).alloc _).trans hn)
      clear hx hn
      go_wp2_with fail
      go_rounds 5
      go_ret
      refine ⟨?_, HN.out⟩
      clear k0 k1 k2 k3 k4 HN
      simp at ha hb
      first
        | (simp [chkK, okK, formK, szK, badK, W4.no, *]; done)
        | (exfalso; simp_all; done)
  · rcases hb : (q.b != 0#64)
    · rcases hc : (q.c != 0#64)
      · rcases hd : (q.d != 0#64)
        · go_enter Tryz.func17, Tryz.ntmps17
          go_wp2_with fail
          refine (rsize_any 1 _).mono ?_
          rintro e w' ⟨rfl, hn⟩
          rw [show szK 1 = 1 from rfl]
          have hx := (hn.block _ (lt_of_block HZ.out)).trans HZ.out
          have k0 := cell_of_row _ _ 0 _ _ _ hx
          have k1 := cell_of_row _ _ 1 _ _ _ hx
          have k2 := cell_of_row _ _ 2 _ _ _ hx
          have k3 := cell_of_row _ _ 3 _ _ _ hx
          have k4 := cell_of_row _ _ 4 _ _ _ hx
          have HN := Lib.hid (((New.refl w).alloc _).trans hn)
          clear hx hn
          go_wp2_with fail
          go_rounds 5
          go_ret
          refine ⟨?_, HN.out⟩
          clear k0 k1 k2 k3 k4 HN
          simp at ha hb hc hd
          first
            | (simp [chkK, okK, formK, szK, badK, W4.no, *]; done)
            | (exfalso; simp_all; done)
        · go_enter Tryz.func17, Tryz.ntmps17
          go_wp2_with fail
          refine (rsize_any 1 _).mono ?_
          rintro e w' ⟨rfl, hn⟩
          rw [show szK 1 = 1 from rfl]
          have hx := (hn.block _ (lt_of_block HZ.out)).trans HZ.out
          have k0 := cell_of_row _ _ 0 _ _ _ hx
          have k1 := cell_of_row _ _ 1 _ _ _ hx
          have k2 := cell_of_row _ _ 2 _ _ _ hx
          have k3 := cell_of_row _ _ 3 _ _ _ hx
          have k4 := cell_of_row _ _ 4 _ _ _ hx
          have HN := Lib.hid (((New.refl w).alloc _).trans hn)
          clear hx hn
          go_wp2_with fail
          go_rounds 5
          go_ret
          refine ⟨?_, HN.out⟩
          clear k0 k1 k2 k3 k4 HN
          simp at ha hb hc hd
          first
            | (simp [chkK, okK, formK, szK, badK, W4.no, *]; done)
            | (exfalso; simp_all; done)
      · go_enter Tryz.func17, Tryz.ntmps17
        go_wp2_with fail
        refine (rsize_any 1 _).mono ?_
        rintro e w' ⟨rfl, hn⟩
        rw [show szK 1 = 1 from rfl]
        have hx := (hn.block _ (lt_of_block HZ.out)).trans HZ.out
        have k0 := cell_of_row _ _ 0 _ _ _ hx
        have k1 := cell_of_row _ _ 1 _ _ _ hx
        have k2 := cell_of_row _ _ 2 _ _ _ hx
        have k3 := cell_of_row _ _ 3 _ _ _ hx
        have k4 := cell_of_row _ _ 4 _ _ _ hx
        have HN := Lib.hid (((New.refl w).alloc _).trans hn)
        clear hx hn
        go_wp2_with fail
        go_rounds 5
        go_ret
        refine ⟨?_, HN.out⟩
        clear k0 k1 k2 k3 k4 HN
        simp at ha hb hc
        first
          | (simp [chkK, okK, formK, szK, badK, W4.no, *]; done)
          | (exfalso; simp_all; done)
    · go_enter Tryz.func17, Tryz.ntmps17
      go_wp2_with fail
      refine (rsize_any 1 _).mono ?_
      rintro e w' ⟨rfl, hn⟩
      rw [show szK 1 = 1 from rfl]
      have hx := (hn.block _ (lt_of_block HZ.out)).trans HZ.out
      have k0 := cell_of_row _ _ 0 _ _ _ hx
      have k1 := cell_of_row _ _ 1 _ _ _ hx
      have k2 := cell_of_row _ _ 2 _ _ _ hx
      have k3 := cell_of_row _ _ 3 _ _ _ hx
      have k4 := cell_of_row _ _ 4 _ _ _ hx
      have HN := Lib.hid (((New.refl w).alloc _).trans hn)
      clear hx hn
      go_wp2_with fail
      go_rounds 5
      go_ret
      refine ⟨?_, HN.out⟩
      clear k0 k1 k2 k3 k4 HN
      simp at ha hb
      first
        | (simp [chkK, okK, formK, szK, badK, W4.no, *]; done)
        | (exfalso; simp_all; done)
set_option linter.unusedSimpArgs false in
set_option maxRecDepth 100000 in
set_option maxHeartbeats 8000000 in
theorem rchk2 (q : W4) (w : World) : Calls Tryz.prog 17 #[.agg (stc 2 q)] w fun e w' => e = .returned (.int .i64 (chkK 2 q)) ∧ New w w' := by
  have hb := heap_alloc_new w (.cells (stc 2 q) 38)
  have HZ := Lib.hid hb
  clear hb
  rcases ha : (q.a != 0#64)
  · rcases hb : (q.b != 0#64)
    · rcases hc : (q.c != 0#64)
      · rcases hd : (q.d != 0#64)
        · go_enter Tryz.func17, Tryz.ntmps17
          go_wp2_with fail
          refine (rsize_any 2 _).mono ?_
          rintro e w' ⟨rfl, hn⟩
          rw [show szK 2 = 4 from rfl]
          have hx := (hn.block _ (lt_of_block HZ.out)).trans HZ.out
          have k0 := cell_of_row _ _ 0 _ _ _ hx
          have k1 := cell_of_row _ _ 1 _ _ _ hx
          have k2 := cell_of_row _ _ 2 _ _ _ hx
          have k3 := cell_of_row _ _ 3 _ _ _ hx
          have k4 := cell_of_row _ _ 4 _ _ _ hx
          have HN := Lib.hid (((New.refl w).alloc _).trans hn)
          clear hx hn
          go_wp2_with fail
          go_rounds 5
          go_ret
          refine ⟨?_, HN.out⟩
          clear k0 k1 k2 k3 k4 HN
          simp at ha hb hc hd
          first
            | (simp [chkK, okK, formK, szK, badK, W4.no, *]; done)
            | (exfalso; simp_all; done)
        · go_enter Tryz.func17, Tryz.ntmps17
          go_wp2_with fail
          refine (rsize_any 2 _).mono ?_
          rintro e w' ⟨rfl, hn⟩
          rw [show szK 2 = 4 from rfl]
          have hx := (hn.block _ (lt_of_block HZ.out)).trans HZ.out
          have k0 := cell_of_row _ _ 0 _ _ _ hx
          have k1 := cell_of_row _ _ 1 _ _ _ hx
          have k2 := cell_of_row _ _ 2 _ _ _ hx
          have k3 := cell_of_row _ _ 3 _ _ _ hx
          have k4 := cell_of_row _ _ 4 _ _ _ hx
          have HN := Lib.hid (((New.refl w).alloc _).trans hn)
          clear hx hn
          go_wp2_with fail
          go_rounds 5
          go_ret
          refine ⟨?_, HN.out⟩
          clear k0 k1 k2 k3 k4 HN
          simp at ha hb hc hd
          first
            | (simp [chkK, okK, formK, szK, badK, W4.no, *]; done)
            | (exfalso; simp_all; done)
      · go_enter Tryz.func17, Tryz.ntmps17
        go_wp2_with fail
        refine (rsize_any 2 _).mono ?_
        rintro e w' ⟨rfl, hn⟩
        rw [show szK 2 = 4 from rfl]
        have hx := (hn.block _ (lt_of_block HZ.out)).trans HZ.out
        have k0 := cell_of_row _ _ 0 _ _ _ hx
        have k1 := cell_of_row _ _ 1 _ _ _ hx
        have k2 := cell_of_row _ _ 2 _ _ _ hx
        have k3 := cell_of_row _ _ 3 _ _ _ hx
        have k4 := cell_of_row _ _ 4 _ _ _ hx
        have HN := Lib.hid (((New.refl w).alloc _).trans hn)
        clear hx hn
        go_wp2_with fail
        go_rounds 5
        go_ret
        refine ⟨?_, HN.out⟩
        clear k0 k1 k2 k3 k4 HN
        simp at ha hb hc
        first
          | (simp [chkK, okK, formK, szK, badK, W4.no, *]; done)
          | (exfalso; simp_all; done)
    · go_enter Tryz.func17, Tryz.ntmps17
      go_wp2_with fail
      refine (rsize_any 2 _).mono ?_
      rintro e w' ⟨rfl, hn⟩
      rw [show szK 2 = 4 from rfl]
      have hx := (hn.block _ (lt_of_block HZ.out)).trans HZ.out
      have k0 := cell_of_row _ _ 0 _ _ _ hx
      have k1 := cell_of_row _ _ 1 _ _ _ hx
      have k2 := cell_of_row _ _ 2 _ _ _ hx
      have k3 := cell_of_row _ _ 3 _ _ _ hx
      have k4 := cell_of_row _ _ 4 _ _ _ hx
      have HN := Lib.hid (((New.refl w).alloc _).trans hn)
      clear hx hn
      go_wp2_with fail
      go_rounds 5
      go_ret
      refine ⟨?_, HN.out⟩
      clear k0 k1 k2 k3 k4 HN
      simp at ha hb
      first
        | (simp [chkK, okK, formK, szK, badK, W4.no, *]; done)
        | (exfalso; simp_all; done)
  · go_enter Tryz.func17, Tryz.ntmps17
    go_wp2_with fail
    refine (rsize_any 2 _).mono ?_
    rintro e w' ⟨rfl, hn⟩
    rw [show szK 2 = 4 from rfl]
    have hx := (hn.block _ (lt_of_block HZ.out)).trans HZ.out
    have k0 := cell_of_row _ _ 0 _ _ _ hx
    have k1 := cell_of_row _ _ 1 _ _ _ hx
    have k2 := cell_of_row _ _ 2 _ _ _ hx
    have k3 := cell_of_row _ _ 3 _ _ _ hx
    have k4 := cell_of_row _ _ 4 _ _ _ hx
    have HN := Lib.hid (((New.refl w).alloc _).trans hn)
    clear hx hn
    go_wp2_with fail
    go_rounds 5
    go_ret
    refine ⟨?_, HN.out⟩
    clear k0 k1 k2 k3 k4 HN
    simp at ha
    first
      | (simp [chkK, okK, formK, szK, badK, W4.no, *]; done)
      | (exfalso; simp_all; done)
set_option linter.unusedSimpArgs false in
set_option maxRecDepth 100000 in
set_option maxHeartbeats 8000000 in
theorem rchk3 (q : W4) (w : World) : Calls Tryz.prog 17 #[.agg (stc 3 q)] w fun e w' => e = .returned (.int .i64 (chkK 3 q)) ∧ New w w' := by
  have hb := heap_alloc_new w (.cells (stc 3 q) 38)
  have HZ := Lib.hid hb
  clear hb
  rcases ha : (q.a != 0#64)
  · rcases hb : (q.b != 0#64)
    · rcases hc : (q.c != 0#64)
      · rcases hd : (q.d != 0#64)
        · go_enter Tryz.func17, Tryz.ntmps17
          go_wp2_with fail
          refine (rsize_any 3 _).mono ?_
          rintro e w' ⟨rfl, hn⟩
          rw [show szK 3 = 4 from rfl]
          have hx := (hn.block _ (lt_of_block HZ.out)).trans HZ.out
          have k0 := cell_of_row _ _ 0 _ _ _ hx
          have k1 := cell_of_row _ _ 1 _ _ _ hx
          have k2 := cell_of_row _ _ 2 _ _ _ hx
          have k3 := cell_of_row _ _ 3 _ _ _ hx
          have k4 := cell_of_row _ _ 4 _ _ _ hx
          have HN := Lib.hid (((New.refl w).alloc _).trans hn)
          clear hx hn
          go_wp2_with fail
          go_rounds 5
          go_ret
          refine ⟨?_, HN.out⟩
          clear k0 k1 k2 k3 k4 HN
          simp at ha hb hc hd
          first
            | (simp [chkK, okK, formK, szK, badK, W4.no, *]; done)
            | (exfalso; simp_all; done)
        · go_enter Tryz.func17, Tryz.ntmps17
          go_wp2_with fail
          refine (rsize_any 3 _).mono ?_
          rintro e w' ⟨rfl, hn⟩
          rw [show szK 3 = 4 from rfl]
          have hx := (hn.block _ (lt_of_block HZ.out)).trans HZ.out
          have k0 := cell_of_row _ _ 0 _ _ _ hx
          have k1 := cell_of_row _ _ 1 _ _ _ hx
          have k2 := cell_of_row _ _ 2 _ _ _ hx
          have k3 := cell_of_row _ _ 3 _ _ _ hx
          have k4 := cell_of_row _ _ 4 _ _ _ hx
          have HN := Lib.hid (((New.refl w).alloc _).trans hn)
          clear hx hn
          go_wp2_with fail
          go_rounds 5
          go_ret
          refine ⟨?_, HN.out⟩
          clear k0 k1 k2 k3 k4 HN
          simp at ha hb hc hd
          first
            | (simp [chkK, okK, formK, szK, badK, W4.no, *]; done)
            | (exfalso; simp_all; done)
      · go_enter Tryz.func17, Tryz.ntmps17
        go_wp2_with fail
        refine (rsize_any 3 _).mono ?_
        rintro e w' ⟨rfl, hn⟩
        rw [show szK 3 = 4 from rfl]
        have hx := (hn.block _ (lt_of_block HZ.out)).trans HZ.out
        have k0 := cell_of_row _ _ 0 _ _ _ hx
        have k1 := cell_of_row _ _ 1 _ _ _ hx
        have k2 := cell_of_row _ _ 2 _ _ _ hx
        have k3 := cell_of_row _ _ 3 _ _ _ hx
        have k4 := cell_of_row _ _ 4 _ _ _ hx
        have HN := Lib.hid (((New.refl w).alloc _).trans hn)
        clear hx hn
        go_wp2_with fail
        go_rounds 5
        go_ret
        refine ⟨?_, HN.out⟩
        clear k0 k1 k2 k3 k4 HN
        simp at ha hb hc
        first
          | (simp [chkK, okK, formK, szK, badK, W4.no, *]; done)
          | (exfalso; simp_all; done)
    · go_enter Tryz.func17, Tryz.ntmps17
      go_wp2_with fail
      refine (rsize_any 3 _).mono ?_
      rintro e w' ⟨rfl, hn⟩
      rw [show szK 3 = 4 from rfl]
      have hx := (hn.block _ (lt_of_block HZ.out)).trans HZ.out
      have k0 := cell_of_row _ _ 0 _ _ _ hx
      have k1 := cell_of_row _ _ 1 _ _ _ hx
      have k2 := cell_of_row _ _ 2 _ _ _ hx
      have k3 := cell_of_row _ _ 3 _ _ _ hx
      have k4 := cell_of_row _ _ 4 _ _ _ hx
      have HN := Lib.hid (((New.refl w).alloc _).trans hn)
      clear hx hn
      go_wp2_with fail
      go_rounds 5
      go_ret
      refine ⟨?_, HN.out⟩
      clear k0 k1 k2 k3 k4 HN
      simp at ha hb
      first
        | (simp [chkK, okK, formK, szK, badK, W4.no, *]; done)
        | (exfalso; simp_all; done)
  · go_enter Tryz.func17, Tryz.ntmps17
    go_wp2_with fail
    refine (rsize_any 3 _).mono ?_
    rintro e w' ⟨rfl, hn⟩
    rw [show szK 3 = 4 from rfl]
    have hx := (hn.block _ (lt_of_block HZ.out)).trans HZ.out
    have k0 := cell_of_row _ _ 0 _ _ _ hx
    have k1 := cell_of_row _ _ 1 _ _ _ hx
    have k2 := cell_of_row _ _ 2 _ _ _ hx
    have k3 := cell_of_row _ _ 3 _ _ _ hx
    have k4 := cell_of_row _ _ 4 _ _ _ hx
    have HN := Lib.hid (((New.refl w).alloc _).trans hn)
    clear hx hn
    go_wp2_with fail
    go_rounds 5
    go_ret
    refine ⟨?_, HN.out⟩
    clear k0 k1 k2 k3 k4 HN
    simp at ha
    first
      | (simp [chkK, okK, formK, szK, badK, W4.no, *]; done)
      | (exfalso; simp_all; done)
set_option linter.unusedSimpArgs false in
set_option maxRecDepth 100000 in
set_option maxHeartbeats 8000000 in
theorem rchk4 (q : W4) (w : World) : Calls Tryz.prog 17 #[.agg (stc 4 q)] w fun e w' => e = .returned (.int .i64 (chkK 4 q)) ∧ New w w' := by
  have hb := heap_alloc_new w (.cells (stc 4 q) 38)
  have HZ := Lib.hid hb
  clear hb
  rcases ha : (q.a != 0#64)
  · rcases hb : (q.b != 0#64)
    · rcases hc : (q.c != 0#64)
      · rcases hd : (q.d != 0#64)
        · go_enter Tryz.func17, Tryz.ntmps17
          go_wp2_with fail
          refine (rsize_any 4 _).mono ?_
          rintro e w' ⟨rfl, hn⟩
          rw [show szK 4 = 4 from rfl]
          have hx := (hn.block _ (lt_of_block HZ.out)).trans HZ.out
          have k0 := cell_of_row _ _ 0 _ _ _ hx
          have k1 := cell_of_row _ _ 1 _ _ _ hx
          have k2 := cell_of_row _ _ 2 _ _ _ hx
          have k3 := cell_of_row _ _ 3 _ _ _ hx
          have k4 := cell_of_row _ _ 4 _ _ _ hx
          have HN := Lib.hid (((New.refl w).alloc _).trans hn)
          clear hx hn
          go_wp2_with fail
          go_rounds 5
          go_ret
          refine ⟨?_, HN.out⟩
          clear k0 k1 k2 k3 k4 HN
          simp at ha hb hc hd
          first
            | (simp [chkK, okK, formK, szK, badK, W4.no, *]; done)
            | (exfalso; simp_all; done)
        · go_enter Tryz.func17, Tryz.ntmps17
          go_wp2_with fail
          refine (rsize_any 4 _).mono ?_
          rintro e w' ⟨rfl, hn⟩
          rw [show szK 4 = 4 from rfl]
          have hx := (hn.block _ (lt_of_block HZ.out)).trans HZ.out
          have k0 := cell_of_row _ _ 0 _ _ _ hx
          have k1 := cell_of_row _ _ 1 _ _ _ hx
          have k2 := cell_of_row _ _ 2 _ _ _ hx
          have k3 := cell_of_row _ _ 3 _ _ _ hx
          have k4 := cell_of_row _ _ 4 _ _ _ hx
          have HN := Lib.hid (((New.refl w).alloc _).trans hn)
          clear hx hn
          go_wp2_with fail
          go_rounds 5
          go_ret
          refine ⟨?_, HN.out⟩
          clear k0 k1 k2 k3 k4 HN
          simp at ha hb hc hd
          first
            | (simp [chkK, okK, formK, szK, badK, W4.no, *]; done)
            | (exfalso; simp_all; done)
      · go_enter Tryz.func17, Tryz.ntmps17
        go_wp2_with fail
        refine (rsize_any 4 _).mono ?_
        rintro e w' ⟨rfl, hn⟩
        rw [show szK 4 = 4 from rfl]
        have hx := (hn.block _ (lt_of_block HZ.out)).trans HZ.out
        have k0 := cell_of_row _ _ 0 _ _ _ hx
        have k1 := cell_of_row _ _ 1 _ _ _ hx
        have k2 := cell_of_row _ _ 2 _ _ _ hx
        have k3 := cell_of_row _ _ 3 _ _ _ hx
        have k4 := cell_of_row _ _ 4 _ _ _ hx
        have HN := Lib.hid (((New.refl w).alloc _).trans hn)
        clear hx hn
        go_wp2_with fail
        go_rounds 5
        go_ret
        refine ⟨?_, HN.out⟩
        clear k0 k1 k2 k3 k4 HN
        simp at ha hb hc
        first
          | (simp [chkK, okK, formK, szK, badK, W4.no, *]; done)
          | (exfalso; simp_all; done)
    · go_enter Tryz.func17, Tryz.ntmps17
      go_wp2_with fail
      refine (rsize_any 4 _).mono ?_
      rintro e w' ⟨rfl, hn⟩
      rw [show szK 4 = 4 from rfl]
      have hx := (hn.block _ (lt_of_block HZ.out)).trans HZ.out
      have k0 := cell_of_row _ _ 0 _ _ _ hx
      have k1 := cell_of_row _ _ 1 _ _ _ hx
      have k2 := cell_of_row _ _ 2 _ _ _ hx
      have k3 := cell_of_row _ _ 3 _ _ _ hx
      have k4 := cell_of_row _ _ 4 _ _ _ hx
      have HN := Lib.hid (((New.refl w).alloc _).trans hn)
      clear hx hn
      go_wp2_with fail
      go_rounds 5
      go_ret
      refine ⟨?_, HN.out⟩
      clear k0 k1 k2 k3 k4 HN
      simp at ha hb
      first
        | (simp [chkK, okK, formK, szK, badK, W4.no, *]; done)
        | (exfalso; simp_all; done)
  · go_enter Tryz.func17, Tryz.ntmps17
    go_wp2_with fail
    refine (rsize_any 4 _).mono ?_
    rintro e w' ⟨rfl, hn⟩
    rw [show szK 4 = 4 from rfl]
    have hx := (hn.block _ (lt_of_block HZ.out)).trans HZ.out
    have k0 := cell_of_row _ _ 0 _ _ _ hx
    have k1 := cell_of_row _ _ 1 _ _ _ hx
    have k2 := cell_of_row _ _ 2 _ _ _ hx
    have k3 := cell_of_row _ _ 3 _ _ _ hx
    have k4 := cell_of_row _ _ 4 _ _ _ hx
    have HN := Lib.hid (((New.refl w).alloc _).trans hn)
    clear hx hn
    go_wp2_with fail
    go_rounds 5
    go_ret
    refine ⟨?_, HN.out⟩
    clear k0 k1 k2 k3 k4 HN
    simp at ha
    first
      | (simp [chkK, okK, formK, szK, badK, W4.no, *]; done)
      | (exfalso; simp_all; done)
set_option linter.unusedSimpArgs false in
set_option maxRecDepth 100000 in
set_option maxHeartbeats 8000000 in
theorem rchk5 (q : W4) (w : World) : Calls Tryz.prog 17 #[.agg (stc 5 q)] w fun e w' => e = .returned (.int .i64 (chkK 5 q)) ∧ New w w' := by
  have hb := heap_alloc_new w (.cells (stc 5 q) 38)
  have HZ := Lib.hid hb
  clear hb
  rcases ha : (q.a != 0#64)
  · rcases hb : (q.b != 0#64)
    · rcases hc : (q.c != 0#64)
      · rcases hd : (q.d != 0#64)
        · go_enter Tryz.func17, Tryz.ntmps17
          go_wp2_with fail
          refine (rsize_any 5 _).mono ?_
          rintro e w' ⟨rfl, hn⟩
          rw [show szK 5 = 2 from rfl]
          have hx := (hn.block _ (lt_of_block HZ.out)).trans HZ.out
          have k0 := cell_of_row _ _ 0 _ _ _ hx
          have k1 := cell_of_row _ _ 1 _ _ _ hx
          have k2 := cell_of_row _ _ 2 _ _ _ hx
          have k3 := cell_of_row _ _ 3 _ _ _ hx
          have k4 := cell_of_row _ _ 4 _ _ _ hx
          have HN := Lib.hid (((New.refl w).alloc _).trans hn)
          clear hx hn
          go_wp2_with fail
          go_rounds 5
          go_ret
          refine ⟨?_, HN.out⟩
          clear k0 k1 k2 k3 k4 HN
          simp at ha hb hc hd
          first
            | (simp [chkK, okK, formK, szK, badK, W4.no, *]; done)
            | (exfalso; simp_all; done)
        · go_enter Tryz.func17, Tryz.ntmps17
          go_wp2_with fail
          refine (rsize_any 5 _).mono ?_
          rintro e w' ⟨rfl, hn⟩
          rw [show szK 5 = 2 from rfl]
          have hx := (hn.block _ (lt_of_block HZ.out)).trans HZ.out
          have k0 := cell_of_row _ _ 0 _ _ _ hx
          have k1 := cell_of_row _ _ 1 _ _ _ hx
          have k2 := cell_of_row _ _ 2 _ _ _ hx
          have k3 := cell_of_row _ _ 3 _ _ _ hx
          have k4 := cell_of_row _ _ 4 _ _ _ hx
          have HN := Lib.hid (((New.refl w).alloc _).trans hn)
          clear hx hn
          go_wp2_with fail
          go_rounds 5
          go_ret
          refine ⟨?_, HN.out⟩
          clear k0 k1 k2 k3 k4 HN
          simp at ha hb hc hd
          first
            | (simp [chkK, okK, formK, szK, badK, W4.no, *]; done)
            | (exfalso; simp_all; done)
      · go_enter Tryz.func17, Tryz.ntmps17
        go_wp2_with fail
        refine (rsize_any 5 _).mono ?_
        rintro e w' ⟨rfl, hn⟩
        rw [show szK 5 = 2 from rfl]
        have hx := (hn.block _ (lt_of_block HZ.out)).trans HZ.out
        have k0 := cell_of_row _ _ 0 _ _ _ hx
        have k1 := cell_of_row _ _ 1 _ _ _ hx
        have k2 := cell_of_row _ _ 2 _ _ _ hx
        have k3 := cell_of_row _ _ 3 _ _ _ hx
        have k4 := cell_of_row _ _ 4 _ _ _ hx
        have HN := Lib.hid (((New.refl w).alloc _).trans hn)
        clear hx hn
        go_wp2_with fail
        go_rounds 5
        go_ret
        refine ⟨?_, HN.out⟩
        clear k0 k1 k2 k3 k4 HN
        simp at ha hb hc
        first
          | (simp [chkK, okK, formK, szK, badK, W4.no, *]; done)
          | (exfalso; simp_all; done)
    · rcases hc : (q.c != 0#64)
      · rcases hd : (q.d != 0#64)
        · go_enter Tryz.func17, Tryz.ntmps17
          go_wp2_with fail
          refine (rsize_any 5 _).mono ?_
          rintro e w' ⟨rfl, hn⟩
          rw [show szK 5 = 2 from rfl]
          have hx := (hn.block _ (lt_of_block HZ.out)).trans HZ.out
          have k0 := cell_of_row _ _ 0 _ _ _ hx
          have k1 := cell_of_row _ _ 1 _ _ _ hx
          have k2 := cell_of_row _ _ 2 _ _ _ hx
          have k3 := cell_of_row _ _ 3 _ _ _ hx
          have k4 := cell_of_row _ _ 4 _ _ _ hx
          have HN := Lib.hid (((New.refl w).alloc _).trans hn)
          clear hx hn
          go_wp2_with fail
          go_rounds 5
          go_ret
          refine ⟨?_, HN.out⟩
          clear k0 k1 k2 k3 k4 HN
          simp at ha hb hc hd
          first
            | (simp [chkK, okK, formK, szK, badK, W4.no, *]; done)
            | (exfalso; simp_all; done)
        · go_enter Tryz.func17, Tryz.ntmps17
          go_wp2_with fail
          refine (rsize_any 5 _).mono ?_
          rintro e w' ⟨rfl, hn⟩
          rw [show szK 5 = 2 from rfl]
          have hx := (hn.block _ (lt_of_block HZ.out)).trans HZ.out
          have k0 := cell_of_row _ _ 0 _ _ _ hx
          have k1 := cell_of_row _ _ 1 _ _ _ hx
          have k2 := cell_of_row _ _ 2 _ _ _ hx
          have k3 := cell_of_row _ _ 3 _ _ _ hx
          have k4 := cell_of_row _ _ 4 _ _ _ hx
          have HN := Lib.hid (((New.refl w).alloc _).trans hn)
          clear hx hn
          go_wp2_with fail
          go_rounds 5
          go_ret
          refine ⟨?_, HN.out⟩
          clear k0 k1 k2 k3 k4 HN
          simp at ha hb hc hd
          first
            | (simp [chkK, okK, formK, szK, badK, W4.no, *]; done)
            | (exfalso; simp_all; done)
      · go_enter Tryz.func17, Tryz.ntmps17
        go_wp2_with fail
        refine (rsize_any 5 _).mono ?_
        rintro e w' ⟨rfl, hn⟩
        rw [show szK 5 = 2 from rfl]
        have hx := (hn.block _ (lt_of_block HZ.out)).trans HZ.out
        have k0 := cell_of_row _ _ 0 _ _ _ hx
        have k1 := cell_of_row _ _ 1 _ _ _ hx
        have k2 := cell_of_row _ _ 2 _ _ _ hx
        have k3 := cell_of_row _ _ 3 _ _ _ hx
        have k4 := cell_of_row _ _ 4 _ _ _ hx
        have HN := Lib.hid (((New.refl w).alloc _).trans hn)
        clear hx hn
        go_wp2_with fail
        go_rounds 5
        go_ret
        refine ⟨?_, HN.out⟩
        clear k0 k1 k2 k3 k4 HN
        simp at ha hb hc
        first
          | (simp [chkK, okK, formK, szK, badK, W4.no, *]; done)
          | (exfalso; simp_all; done)
  · rcases hc : (q.c != 0#64)
    · rcases hd : (q.d != 0#64)
      · go_enter Tryz.func17, Tryz.ntmps17
        go_wp2_with fail
        refine (rsize_any 5 _).mono ?_
        rintro e w' ⟨rfl, hn⟩
        rw [show szK 5 = 2 from rfl]
        have hx := (hn.block _ (lt_of_block HZ.out)).trans HZ.out
        have k0 := cell_of_row _ _ 0 _ _ _ hx
        have k1 := cell_of_row _ _ 1 _ _ _ hx
        have k2 := cell_of_row _ _ 2 _ _ _ hx
        have k3 := cell_of_row _ _ 3 _ _ _ hx
        have k4 := cell_of_row _ _ 4 _ _ _ hx
        have HN := Lib.hid (((New.refl w).alloc _).trans hn)
        clear hx hn
        go_wp2_with fail
        go_rounds 5
        go_ret
        refine ⟨?_, HN.out⟩
        clear k0 k1 k2 k3 k4 HN
        simp at ha hc hd
        first
          | (simp [chkK, okK, formK, szK, badK, W4.no, *]; done)
          | (exfalso; simp_all; done)
      · go_enter Tryz.func17, Tryz.ntmps17
        go_wp2_with fail
        refine (rsize_any 5 _).mono ?_
        rintro e w' ⟨rfl, hn⟩
        rw [show szK 5 = 2 from rfl]
        have hx := (hn.block _ (lt_of_block HZ.out)).trans HZ.out
        have k0 := cell_of_row _ _ 0 _ _ _ hx
        have k1 := cell_of_row _ _ 1 _ _ _ hx
        have k2 := cell_of_row _ _ 2 _ _ _ hx
        have k3 := cell_of_row _ _ 3 _ _ _ hx
        have k4 := cell_of_row _ _ 4 _ _ _ hx
        have HN := Lib.hid (((New.refl w).alloc _).trans hn)
        clear hx hn
        go_wp2_with fail
        go_rounds 5
        go_ret
        refine ⟨?_, HN.out⟩
        clear k0 k1 k2 k3 k4 HN
        simp at ha hc hd
        first
          | (simp [chkK, okK, formK, szK, badK, W4.no, *]; done)
          | (exfalso; simp_all; done)
    · go_enter Tryz.func17, Tryz.ntmps17
      go_wp2_with fail
      refine (rsize_any 5 _).mono ?_
      rintro e w' ⟨rfl, hn⟩
      rw [show szK 5 = 2 from rfl]
      have hx := (hn.block _ (lt_of_block HZ.out)).trans HZ.out
      have k0 := cell_of_row _ _ 0 _ _ _ hx
      have k1 := cell_of_row _ _ 1 _ _ _ hx
      have k2 := cell_of_row _ _ 2 _ _ _ hx
      have k3 := cell_of_row _ _ 3 _ _ _ hx
      have k4 := cell_of_row _ _ 4 _ _ _ hx
      have HN := Lib.hid (((New.refl w).alloc _).trans hn)
      clear hx hn
      go_wp2_with fail
      go_rounds 5
      go_ret
      refine ⟨?_, HN.out⟩
      clear k0 k1 k2 k3 k4 HN
      simp at ha hc
      first
        | (simp [chkK, okK, formK, szK, badK, W4.no, *]; done)
        | (exfalso; simp_all; done)
set_option linter.unusedSimpArgs false in
set_option maxRecDepth 100000 in
set_option maxHeartbeats 8000000 in
theorem rchk6 (q : W4) (w : World) : Calls Tryz.prog 17 #[.agg (stc 6 q)] w fun e w' => e = .returned (.int .i64 (chkK 6 q)) ∧ New w w' := by
  have hb := heap_alloc_new w (.cells (stc 6 q) 38)
  have HZ := Lib.hid hb
  clear hb
  rcases ha : (q.a != 0#64)
  · rcases hb : (q.b != 0#64)
    · rcases hc : (q.c != 0#64)
      · rcases hd : (q.d != 0#64)
        · go_enter Tryz.func17, Tryz.ntmps17
          go_wp2_with fail
          refine (rsize_any 6 _).mono ?_
          rintro e w' ⟨rfl, hn⟩
          rw [show szK 6 = 2 from rfl]
          have hx := (hn.block _ (lt_of_block HZ.out)).trans HZ.out
          have k0 := cell_of_row _ _ 0 _ _ _ hx
          have k1 := cell_of_row _ _ 1 _ _ _ hx
          have k2 := cell_of_row _ _ 2 _ _ _ hx
          have k3 := cell_of_row _ _ 3 _ _ _ hx
          have k4 := cell_of_row _ _ 4 _ _ _ hx
          have HN := Lib.hid (((New.refl w).alloc _).trans hn)
          clear hx hn
          go_wp2_with fail
          go_rounds 5
          go_ret
          refine ⟨?_, HN.out⟩
          clear k0 k1 k2 k3 k4 HN
          simp at ha hb hc hd
          first
            | (simp [chkK, okK, formK, szK, badK, W4.no, *]; done)
            | (exfalso; simp_all; done)
        · go_enter Tryz.func17, Tryz.ntmps17
          go_wp2_with fail
          refine (rsize_any 6 _).mono ?_
          rintro e w' ⟨rfl, hn⟩
          rw [show szK 6 = 2 from rfl]
          have hx := (hn.block _ (lt_of_block HZ.out)).trans HZ.out
          have k0 := cell_of_row _ _ 0 _ _ _ hx
          have k1 := cell_of_row _ _ 1 _ _ _ hx
          have k2 := cell_of_row _ _ 2 _ _ _ hx
          have k3 := cell_of_row _ _ 3 _ _ _ hx
          have k4 := cell_of_row _ _ 4 _ _ _ hx
          have HN := Lib.hid (((New.refl w).alloc _).trans hn)
          clear hx hn
          go_wp2_with fail
          go_rounds 5
          go_ret
          refine ⟨?_, HN.out⟩
          clear k0 k1 k2 k3 k4 HN
          simp at ha hb hc hd
          first
            | (simp [chkK, okK, formK, szK, badK, W4.no, *]; done)
            | (exfalso; simp_all; done)
      · go_enter Tryz.func17, Tryz.ntmps17
        go_wp2_with fail
        refine (rsize_any 6 _).mono ?_
        rintro e w' ⟨rfl, hn⟩
        rw [show szK 6 = 2 from rfl]
        have hx := (hn.block _ (lt_of_block HZ.out)).trans HZ.out
        have k0 := cell_of_row _ _ 0 _ _ _ hx
        have k1 := cell_of_row _ _ 1 _ _ _ hx
        have k2 := cell_of_row _ _ 2 _ _ _ hx
        have k3 := cell_of_row _ _ 3 _ _ _ hx
        have k4 := cell_of_row _ _ 4 _ _ _ hx
        have HN := Lib.hid (((New.refl w).alloc _).trans hn)
        clear hx hn
        go_wp2_with fail
        go_rounds 5
        go_ret
        refine ⟨?_, HN.out⟩
        clear k0 k1 k2 k3 k4 HN
        simp at ha hb hc
        first
          | (simp [chkK, okK, formK, szK, badK, W4.no, *]; done)
          | (exfalso; simp_all; done)
    · rcases hc : (q.c != 0#64)
      · rcases hd : (q.d != 0#64)
        · go_enter Tryz.func17, Tryz.ntmps17
          go_wp2_with fail
          refine (rsize_any 6 _).mono ?_
          rintro e w' ⟨rfl, hn⟩
          rw [show szK 6 = 2 from rfl]
          have hx := (hn.block _ (lt_of_block HZ.out)).trans HZ.out
          have k0 := cell_of_row _ _ 0 _ _ _ hx
          have k1 := cell_of_row _ _ 1 _ _ _ hx
          have k2 := cell_of_row _ _ 2 _ _ _ hx
          have k3 := cell_of_row _ _ 3 _ _ _ hx
          have k4 := cell_of_row _ _ 4 _ _ _ hx
          have HN := Lib.hid (((New.refl w).alloc _).trans hn)
          clear hx hn
          go_wp2_with fail
          go_rounds 5
          go_ret
          refine ⟨?_, HN.out⟩
          clear k0 k1 k2 k3 k4 HN
          simp at ha hb hc hd
          first
            | (simp [chkK, okK, formK, szK, badK, W4.no, *]; done)
            | (exfalso; simp_all; done)
        · go_enter Tryz.func17, Tryz.ntmps17
          go_wp2_with fail
          refine (rsize_any 6 _).mono ?_
          rintro e w' ⟨rfl, hn⟩
          rw [show szK 6 = 2 from rfl]
          have hx := (hn.block _ (lt_of_block HZ.out)).trans HZ.out
          have k0 := cell_of_row _ _ 0 _ _ _ hx
          have k1 := cell_of_row _ _ 1 _ _ _ hx
          have k2 := cell_of_row _ _ 2 _ _ _ hx
          have k3 := cell_of_row _ _ 3 _ _ _ hx
          have k4 := cell_of_row _ _ 4 _ _ _ hx
          have HN := Lib.hid (((New.refl w).alloc _).trans hn)
          clear hx hn
          go_wp2_with fail
          go_rounds 5
          go_ret
          refine ⟨?_, HN.out⟩
          clear k0 k1 k2 k3 k4 HN
          simp at ha hb hc hd
          first
            | (simp [chkK, okK, formK, szK, badK, W4.no, *]; done)
            | (exfalso; simp_all; done)
      · go_enter Tryz.func17, Tryz.ntmps17
        go_wp2_with fail
        refine (rsize_any 6 _).mono ?_
        rintro e w' ⟨rfl, hn⟩
        rw [show szK 6 = 2 from rfl]
        have hx := (hn.block _ (lt_of_block HZ.out)).trans HZ.out
        have k0 := cell_of_row _ _ 0 _ _ _ hx
        have k1 := cell_of_row _ _ 1 _ _ _ hx
        have k2 := cell_of_row _ _ 2 _ _ _ hx
        have k3 := cell_of_row _ _ 3 _ _ _ hx
        have k4 := cell_of_row _ _ 4 _ _ _ hx
        have HN := Lib.hid (((New.refl w).alloc _).trans hn)
        clear hx hn
        go_wp2_with fail
        go_rounds 5
        go_ret
        refine ⟨?_, HN.out⟩
        clear k0 k1 k2 k3 k4 HN
        simp at ha hb hc
        first
          | (simp [chkK, okK, formK, szK, badK, W4.no, *]; done)
          | (exfalso; simp_all; done)
  · rcases hc : (q.c != 0#64)
    · rcases hd : (q.d != 0#64)
      · go_enter Tryz.func17, Tryz.ntmps17
        go_wp2_with fail
        refine (rsize_any 6 _).mono ?_
        rintro e w' ⟨rfl, hn⟩
        rw [show szK 6 = 2 from rfl]
        have hx := (hn.block _ (lt_of_block HZ.out)).trans HZ.out
        have k0 := cell_of_row _ _ 0 _ _ _ hx
        have k1 := cell_of_row _ _ 1 _ _ _ hx
        have k2 := cell_of_row _ _ 2 _ _ _ hx
        have k3 := cell_of_row _ _ 3 _ _ _ hx
        have k4 := cell_of_row _ _ 4 _ _ _ hx
        have HN := Lib.hid (((New.refl w).alloc _).trans hn)
        clear hx hn
        go_wp2_with fail
        go_rounds 5
        go_ret
        refine ⟨?_, HN.out⟩
        clear k0 k1 k2 k3 k4 HN
        simp at ha hc hd
        first
          | (simp [chkK, okK, formK, szK, badK, W4.no, *]; done)
          | (exfalso; simp_all; done)
      · go_enter Tryz.func17, Tryz.ntmps17
        go_wp2_with fail
        refine (rsize_any 6 _).mono ?_
        rintro e w' ⟨rfl, hn⟩
        rw [show szK 6 = 2 from rfl]
        have hx := (hn.block _ (lt_of_block HZ.out)).trans HZ.out
        have k0 := cell_of_row _ _ 0 _ _ _ hx
        have k1 := cell_of_row _ _ 1 _ _ _ hx
        have k2 := cell_of_row _ _ 2 _ _ _ hx
        have k3 := cell_of_row _ _ 3 _ _ _ hx
        have k4 := cell_of_row _ _ 4 _ _ _ hx
        have HN := Lib.hid (((New.refl w).alloc _).trans hn)
        clear hx hn
        go_wp2_with fail
        go_rounds 5
        go_ret
        refine ⟨?_, HN.out⟩
        clear k0 k1 k2 k3 k4 HN
        simp at ha hc hd
        first
          | (simp [chkK, okK, formK, szK, badK, W4.no, *]; done)
          | (exfalso; simp_all; done)
    · go_enter Tryz.func17, Tryz.ntmps17
      go_wp2_with fail
      refine (rsize_any 6 _).mono ?_
      rintro e w' ⟨rfl, hn⟩
      rw [show szK 6 = 2 from rfl]
      have hx := (hn.block _ (lt_of_block HZ.out)).trans HZ.out
      have k0 := cell_of_row _ _ 0 _ _ _ hx
      have k1 := cell_of_row _ _ 1 _ _ _ hx
      have k2 := cell_of_row _ _ 2 _ _ _ hx
      have k3 := cell_of_row _ _ 3 _ _ _ hx
      have k4 := cell_of_row _ _ 4 _ _ _ hx
      have HN := Lib.hid (((New.refl w).alloc _).trans hn)
      clear hx hn
      go_wp2_with fail
      go_rounds 5
      go_ret
      refine ⟨?_, HN.out⟩
      clear k0 k1 k2 k3 k4 HN
      simp at ha hc
      first
        | (simp [chkK, okK, formK, szK, badK, W4.no, *]; done)
        | (exfalso; simp_all; done)
set_option linter.unusedSimpArgs false in
set_option maxRecDepth 100000 in
set_option maxHeartbeats 8000000 in
theorem rchk7 (q : W4) (w : World) : Calls Tryz.prog 17 #[.agg (stc 7 q)] w fun e w' => e = .returned (.int .i64 (chkK 7 q)) ∧ New w w' := by
  have hb := heap_alloc_new w (.cells (stc 7 q) 38)
  have HZ := Lib.hid hb
  clear hb
  rcases ha : (q.a != 0#64)
  · rcases hb : (q.b != 0#64)
    · rcases hc : (q.c != 0#64)
      · rcases hd : (q.d != 0#64)
        · rcases he : (q.b % 2#64 == 0#64)
          · go_enter Tryz.func17, Tryz.ntmps17
            go_wp2_with fail
            refine (rsize_any 7 _).mono ?_
            rintro e w' ⟨rfl, hn⟩
            rw [show szK 7 = 2 from rfl]
            have hx := (hn.block _ (lt_of_block HZ.out)).trans HZ.out
            have k0 := cell_of_row _ _ 0 _ _ _ hx
            have k1 := cell_of_row _ _ 1 _ _ _ hx
            have k2 := cell_of_row _ _ 2 _ _ _ hx
            have k3 := cell_of_row _ _ 3 _ _ _ hx
            have k4 := cell_of_row _ _ 4 _ _ _ hx
            have HN := Lib.hid (((New.refl w).alloc _).trans hn)
            clear hx hn
            go_wp2_with fail
            go_rounds 5
            go_ret
            refine ⟨?_, HN.out⟩
            clear k0 k1 k2 k3 k4 HN
            rw [low_mod] at he
            simp at ha hb hc hd he
            first
              | (simp [chkK, okK, formK, szK, badK, W4.no, *]; done)
              | (exfalso; simp_all; done)
          · go_enter Tryz.func17, Tryz.ntmps17
            go_wp2_with fail
            refine (rsize_any 7 _).mono ?_
            rintro e w' ⟨rfl, hn⟩
            rw [show szK 7 = 2 from rfl]
            have hx := (hn.block _ (lt_of_block HZ.out)).trans HZ.out
            have k0 := cell_of_row _ _ 0 _ _ _ hx
            have k1 := cell_of_row _ _ 1 _ _ _ hx
            have k2 := cell_of_row _ _ 2 _ _ _ hx
            have k3 := cell_of_row _ _ 3 _ _ _ hx
            have k4 := cell_of_row _ _ 4 _ _ _ hx
            have HN := Lib.hid (((New.refl w).alloc _).trans hn)
            clear hx hn
            go_wp2_with fail
            go_rounds 5
            go_ret
            refine ⟨?_, HN.out⟩
            clear k0 k1 k2 k3 k4 HN
            rw [low_mod] at he
            simp at ha hb hc hd he
            first
              | (simp [chkK, okK, formK, szK, badK, W4.no, *]; done)
              | (exfalso; simp_all; done)
        · go_enter Tryz.func17, Tryz.ntmps17
          go_wp2_with fail
          refine (rsize_any 7 _).mono ?_
          rintro e w' ⟨rfl, hn⟩
          rw [show szK 7 = 2 from rfl]
          have hx := (hn.block _ (lt_of_block HZ.out)).trans HZ.out
          have k0 := cell_of_row _ _ 0 _ _ _ hx
          have k1 := cell_of_row _ _ 1 _ _ _ hx
          have k2 := cell_of_row _ _ 2 _ _ _ hx
          have k3 := cell_of_row _ _ 3 _ _ _ hx
          have k4 := cell_of_row _ _ 4 _ _ _ hx
          have HN := Lib.hid (((New.refl w).alloc _).trans hn)
          clear hx hn
          go_wp2_with fail
          go_rounds 5
          go_ret
          refine ⟨?_, HN.out⟩
          clear k0 k1 k2 k3 k4 HN
          simp at ha hb hc hd
          first
            | (simp [chkK, okK, formK, szK, badK, W4.no, *]; done)
            | (exfalso; simp_all; done)
      · go_enter Tryz.func17, Tryz.ntmps17
        go_wp2_with fail
        refine (rsize_any 7 _).mono ?_
        rintro e w' ⟨rfl, hn⟩
        rw [show szK 7 = 2 from rfl]
        have hx := (hn.block _ (lt_of_block HZ.out)).trans HZ.out
        have k0 := cell_of_row _ _ 0 _ _ _ hx
        have k1 := cell_of_row _ _ 1 _ _ _ hx
        have k2 := cell_of_row _ _ 2 _ _ _ hx
        have k3 := cell_of_row _ _ 3 _ _ _ hx
        have k4 := cell_of_row _ _ 4 _ _ _ hx
        have HN := Lib.hid (((New.refl w).alloc _).trans hn)
        clear hx hn
        go_wp2_with fail
        go_rounds 5
        go_ret
        refine ⟨?_, HN.out⟩
        clear k0 k1 k2 k3 k4 HN
        simp at ha hb hc
        first
          | (simp [chkK, okK, formK, szK, badK, W4.no, *]; done)
          | (exfalso; simp_all; done)
    · rcases hc : (q.c != 0#64)
      · rcases hd : (q.d != 0#64)
        · rcases he : (q.b % 2#64 == 0#64)
          · go_enter Tryz.func17, Tryz.ntmps17
            go_wp2_with fail
            refine (rsize_any 7 _).mono ?_
            rintro e w' ⟨rfl, hn⟩
            rw [show szK 7 = 2 from rfl]
            have hx := (hn.block _ (lt_of_block HZ.out)).trans HZ.out
            have k0 := cell_of_row _ _ 0 _ _ _ hx
            have k1 := cell_of_row _ _ 1 _ _ _ hx
            have k2 := cell_of_row _ _ 2 _ _ _ hx
            have k3 := cell_of_row _ _ 3 _ _ _ hx
            have k4 := cell_of_row _ _ 4 _ _ _ hx
            have HN := Lib.hid (((New.refl w).alloc _).trans hn)
            clear hx hn
            go_wp2_with fail
            go_rounds 5
            go_ret
            refine ⟨?_, HN.out⟩
            clear k0 k1 k2 k3 k4 HN
            rw [low_mod] at he
            simp at ha hb hc hd he
            first
              | (simp [chkK, okK, formK, szK, badK, W4.no, *]; done)
              | (exfalso; simp_all; done)
          · go_enter Tryz.func17, Tryz.ntmps17
            go_wp2_with fail
            refine (rsize_any 7 _).mono ?_
            rintro e w' ⟨rfl, hn⟩
            rw [show szK 7 = 2 from rfl]
            have hx := (hn.block _ (lt_of_block HZ.out)).trans HZ.out
            have k0 := cell_of_row _ _ 0 _ _ _ hx
            have k1 := cell_of_row _ _ 1 _ _ _ hx
            have k2 := cell_of_row _ _ 2 _ _ _ hx
            have k3 := cell_of_row _ _ 3 _ _ _ hx
            have k4 := cell_of_row _ _ 4 _ _ _ hx
            have HN := Lib.hid (((New.refl w).alloc _).trans hn)
            clear hx hn
            go_wp2_with fail
            go_rounds 5
            go_ret
            refine ⟨?_, HN.out⟩
            clear k0 k1 k2 k3 k4 HN
            rw [low_mod] at he
            simp at ha hb hc hd he
            first
              | (simp [chkK, okK, formK, szK, badK, W4.no, *]; done)
              | (exfalso; simp_all; done)
        · go_enter Tryz.func17, Tryz.ntmps17
          go_wp2_with fail
          refine (rsize_any 7 _).mono ?_
          rintro e w' ⟨rfl, hn⟩
          rw [show szK 7 = 2 from rfl]
          have hx := (hn.block _ (lt_of_block HZ.out)).trans HZ.out
          have k0 := cell_of_row _ _ 0 _ _ _ hx
          have k1 := cell_of_row _ _ 1 _ _ _ hx
          have k2 := cell_of_row _ _ 2 _ _ _ hx
          have k3 := cell_of_row _ _ 3 _ _ _ hx
          have k4 := cell_of_row _ _ 4 _ _ _ hx
          have HN := Lib.hid (((New.refl w).alloc _).trans hn)
          clear hx hn
          go_wp2_with fail
          go_rounds 5
          go_ret
          refine ⟨?_, HN.out⟩
          clear k0 k1 k2 k3 k4 HN
          simp at ha hb hc hd
          first
            | (simp [chkK, okK, formK, szK, badK, W4.no, *]; done)
            | (exfalso; simp_all; done)
      · go_enter Tryz.func17, Tryz.ntmps17
        go_wp2_with fail
        refine (rsize_any 7 _).mono ?_
        rintro e w' ⟨rfl, hn⟩
        rw [show szK 7 = 2 from rfl]
        have hx := (hn.block _ (lt_of_block HZ.out)).trans HZ.out
        have k0 := cell_of_row _ _ 0 _ _ _ hx
        have k1 := cell_of_row _ _ 1 _ _ _ hx
        have k2 := cell_of_row _ _ 2 _ _ _ hx
        have k3 := cell_of_row _ _ 3 _ _ _ hx
        have k4 := cell_of_row _ _ 4 _ _ _ hx
        have HN := Lib.hid (((New.refl w).alloc _).trans hn)
        clear hx hn
        go_wp2_with fail
        go_rounds 5
        go_ret
        refine ⟨?_, HN.out⟩
        clear k0 k1 k2 k3 k4 HN
        simp at ha hb hc
        first
          | (simp [chkK, okK, formK, szK, badK, W4.no, *]; done)
          | (exfalso; simp_all; done)
  · rcases hc : (q.c != 0#64)
    · rcases hd : (q.d != 0#64)
      · rcases he : (q.b % 2#64 == 0#64)
        · go_enter Tryz.func17, Tryz.ntmps17
          go_wp2_with fail
          refine (rsize_any 7 _).mono ?_
          rintro e w' ⟨rfl, hn⟩
          rw [show szK 7 = 2 from rfl]
          have hx := (hn.block _ (lt_of_block HZ.out)).trans HZ.out
          have k0 := cell_of_row _ _ 0 _ _ _ hx
          have k1 := cell_of_row _ _ 1 _ _ _ hx
          have k2 := cell_of_row _ _ 2 _ _ _ hx
          have k3 := cell_of_row _ _ 3 _ _ _ hx
          have k4 := cell_of_row _ _ 4 _ _ _ hx
          have HN := Lib.hid (((New.refl w).alloc _).trans hn)
          clear hx hn
          go_wp2_with fail
          go_rounds 5
          go_ret
          refine ⟨?_, HN.out⟩
          clear k0 k1 k2 k3 k4 HN
          rw [low_mod] at he
          simp at ha hc hd he
          first
            | (simp [chkK, okK, formK, szK, badK, W4.no, *]; done)
            | (exfalso; simp_all; done)
        · go_enter Tryz.func17, Tryz.ntmps17
          go_wp2_with fail
          refine (rsize_any 7 _).mono ?_
          rintro e w' ⟨rfl, hn⟩
          rw [show szK 7 = 2 from rfl]
          have hx := (hn.block _ (lt_of_block HZ.out)).trans HZ.out
          have k0 := cell_of_row _ _ 0 _ _ _ hx
          have k1 := cell_of_row _ _ 1 _ _ _ hx
          have k2 := cell_of_row _ _ 2 _ _ _ hx
          have k3 := cell_of_row _ _ 3 _ _ _ hx
          have k4 := cell_of_row _ _ 4 _ _ _ hx
          have HN := Lib.hid (((New.refl w).alloc _).trans hn)
          clear hx hn
          go_wp2_with fail
          go_rounds 5
          go_ret
          refine ⟨?_, HN.out⟩
          clear k0 k1 k2 k3 k4 HN
          rw [low_mod] at he
          simp at ha hc hd he
          first
            | (simp [chkK, okK, formK, szK, badK, W4.no, *]; done)
            | (exfalso; simp_all; done)
      · go_enter Tryz.func17, Tryz.ntmps17
        go_wp2_with fail
        refine (rsize_any 7 _).mono ?_
        rintro e w' ⟨rfl, hn⟩
        rw [show szK 7 = 2 from rfl]
        have hx := (hn.block _ (lt_of_block HZ.out)).trans HZ.out
        have k0 := cell_of_row _ _ 0 _ _ _ hx
        have k1 := cell_of_row _ _ 1 _ _ _ hx
        have k2 := cell_of_row _ _ 2 _ _ _ hx
        have k3 := cell_of_row _ _ 3 _ _ _ hx
        have k4 := cell_of_row _ _ 4 _ _ _ hx
        have HN := Lib.hid (((New.refl w).alloc _).trans hn)
        clear hx hn
        go_wp2_with fail
        go_rounds 5
        go_ret
        refine ⟨?_, HN.out⟩
        clear k0 k1 k2 k3 k4 HN
        simp at ha hc hd
        first
          | (simp [chkK, okK, formK, szK, badK, W4.no, *]; done)
          | (exfalso; simp_all; done)
    · go_enter Tryz.func17, Tryz.ntmps17
      go_wp2_with fail
      refine (rsize_any 7 _).mono ?_
      rintro e w' ⟨rfl, hn⟩
      rw [show szK 7 = 2 from rfl]
      have hx := (hn.block _ (lt_of_block HZ.out)).trans HZ.out
      have k0 := cell_of_row _ _ 0 _ _ _ hx
      have k1 := cell_of_row _ _ 1 _ _ _ hx
      have k2 := cell_of_row _ _ 2 _ _ _ hx
      have k3 := cell_of_row _ _ 3 _ _ _ hx
      have k4 := cell_of_row _ _ 4 _ _ _ hx
      have HN := Lib.hid (((New.refl w).alloc _).trans hn)
      clear hx hn
      go_wp2_with fail
      go_rounds 5
      go_ret
      refine ⟨?_, HN.out⟩
      clear k0 k1 k2 k3 k4 HN
      simp at ha hc
      first
        | (simp [chkK, okK, formK, szK, badK, W4.no, *]; done)
        | (exfalso; simp_all; done)
set_option linter.unusedSimpArgs false in
set_option maxRecDepth 100000 in
set_option maxHeartbeats 8000000 in
theorem rchk8 (q : W4) (w : World) : Calls Tryz.prog 17 #[.agg (stc 8 q)] w fun e w' => e = .returned (.int .i64 (chkK 8 q)) ∧ New w w' := by
  have hb := heap_alloc_new w (.cells (stc 8 q) 38)
  have HZ := Lib.hid hb
  clear hb
  rcases ha : (q.a != 0#64)
  · rcases hb : (q.b != 0#64)
    · rcases hc : (q.c != 0#64)
      · rcases hd : (q.d != 0#64)
        · rcases he : (q.c % 2#64 == 0#64)
          · go_enter Tryz.func17, Tryz.ntmps17
            go_wp2_with fail
            refine (rsize_any 8 _).mono ?_
            rintro e w' ⟨rfl, hn⟩
            rw [show szK 8 = 4 from rfl]
            have hx := (hn.block _ (lt_of_block HZ.out)).trans HZ.out
            have k0 := cell_of_row _ _ 0 _ _ _ hx
            have k1 := cell_of_row _ _ 1 _ _ _ hx
            have k2 := cell_of_row _ _ 2 _ _ _ hx
            have k3 := cell_of_row _ _ 3 _ _ _ hx
            have k4 := cell_of_row _ _ 4 _ _ _ hx
            have HN := Lib.hid (((New.refl w).alloc _).trans hn)
            clear hx hn
            go_wp2_with fail
            go_rounds 5
            go_ret
            refine ⟨?_, HN.out⟩
            clear k0 k1 k2 k3 k4 HN
            rw [low_mod] at he
            simp at ha hb hc hd he
            first
              | (simp [chkK, okK, formK, szK, badK, W4.no, *]; done)
              | (exfalso; simp_all; done)
          · go_enter Tryz.func17, Tryz.ntmps17
            go_wp2_with fail
            refine (rsize_any 8 _).mono ?_
            rintro e w' ⟨rfl, hn⟩
            rw [show szK 8 = 4 from rfl]
            have hx := (hn.block _ (lt_of_block HZ.out)).trans HZ.out
            have k0 := cell_of_row _ _ 0 _ _ _ hx
            have k1 := cell_of_row _ _ 1 _ _ _ hx
            have k2 := cell_of_row _ _ 2 _ _ _ hx
            have k3 := cell_of_row _ _ 3 _ _ _ hx
            have k4 := cell_of_row _ _ 4 _ _ _ hx
            have HN := Lib.hid (((New.refl w).alloc _).trans hn)
            clear hx hn
            go_wp2_with fail
            go_rounds 5
            go_ret
            refine ⟨?_, HN.out⟩
            clear k0 k1 k2 k3 k4 HN
            rw [low_mod] at he
            simp at ha hb hc hd he
            first
              | (simp [chkK, okK, formK, szK, badK, W4.no, *]; done)
              | (exfalso; simp_all; done)
        · rcases he : (q.c % 2#64 == 0#64)
          · go_enter Tryz.func17, Tryz.ntmps17
            go_wp2_with fail
            refine (rsize_any 8 _).mono ?_
            rintro e w' ⟨rfl, hn⟩
            rw [show szK 8 = 4 from rfl]
            have hx := (hn.block _ (lt_of_block HZ.out)).trans HZ.out
            have k0 := cell_of_row _ _ 0 _ _ _ hx
            have k1 := cell_of_row _ _ 1 _ _ _ hx
            have k2 := cell_of_row _ _ 2 _ _ _ hx
            have k3 := cell_of_row _ _ 3 _ _ _ hx
            have k4 := cell_of_row _ _ 4 _ _ _ hx
            have HN := Lib.hid (((New.refl w).alloc _).trans hn)
            clear hx hn
            go_wp2_with fail
            go_rounds 5
            go_ret
            refine ⟨?_, HN.out⟩
            clear k0 k1 k2 k3 k4 HN
            rw [low_mod] at he
            simp at ha hb hc hd he
            first
              | (simp [chkK, okK, formK, szK, badK, W4.no, *]; done)
              | (exfalso; simp_all; done)
          · go_enter Tryz.func17, Tryz.ntmps17
            go_wp2_with fail
            refine (rsize_any 8 _).mono ?_
            rintro e w' ⟨rfl, hn⟩
            rw [show szK 8 = 4 from rfl]
            have hx := (hn.block _ (lt_of_block HZ.out)).trans HZ.out
            have k0 := cell_of_row _ _ 0 _ _ _ hx
            have k1 := cell_of_row _ _ 1 _ _ _ hx
            have k2 := cell_of_row _ _ 2 _ _ _ hx
            have k3 := cell_of_row _ _ 3 _ _ _ hx
            have k4 := cell_of_row _ _ 4 _ _ _ hx
            have HN := Lib.hid (((New.refl w).alloc _).trans hn)
            clear hx hn
            go_wp2_with fail
            go_rounds 5
            go_ret
            refine ⟨?_, HN.out⟩
            clear k0 k1 k2 k3 k4 HN
            rw [low_mod] at he
            simp at ha hb hc hd he
            first
              | (simp [chkK, okK, formK, szK, badK, W4.no, *]; done)
              | (exfalso; simp_all; done)
      · rcases he : (q.c % 2#64 == 0#64)
        · go_enter Tryz.func17, Tryz.ntmps17
          go_wp2_with fail
          refine (rsize_any 8 _).mono ?_
          rintro e w' ⟨rfl, hn⟩
          rw [show szK 8 = 4 from rfl]
          have hx := (hn.block _ (lt_of_block HZ.out)).trans HZ.out
          have k0 := cell_of_row _ _ 0 _ _ _ hx
          have k1 := cell_of_row _ _ 1 _ _ _ hx
          have k2 := cell_of_row _ _ 2 _ _ _ hx
          have k3 := cell_of_row _ _ 3 _ _ _ hx
          have k4 := cell_of_row _ _ 4 _ _ _ hx
          have HN := Lib.hid (((New.refl w).alloc _).trans hn)
          clear hx hn
          go_wp2_with fail
          go_rounds 5
          go_ret
          refine ⟨?_, HN.out⟩
          clear k0 k1 k2 k3 k4 HN
          rw [low_mod] at he
          simp at ha hb hc he
          first
            | (simp [chkK, okK, formK, szK, badK, W4.no, *]; done)
            | (exfalso; simp_all; done)
        · go_enter Tryz.func17, Tryz.ntmps17
          go_wp2_with fail
          refine (rsize_any 8 _).mono ?_
          rintro e w' ⟨rfl, hn⟩
          rw [show szK 8 = 4 from rfl]
          have hx := (hn.block _ (lt_of_block HZ.out)).trans HZ.out
          have k0 := cell_of_row _ _ 0 _ _ _ hx
          have k1 := cell_of_row _ _ 1 _ _ _ hx
          have k2 := cell_of_row _ _ 2 _ _ _ hx
          have k3 := cell_of_row _ _ 3 _ _ _ hx
          have k4 := cell_of_row _ _ 4 _ _ _ hx
          have HN := Lib.hid (((New.refl w).alloc _).trans hn)
          clear hx hn
          go_wp2_with fail
          go_rounds 5
          go_ret
          refine ⟨?_, HN.out⟩
          clear k0 k1 k2 k3 k4 HN
          rw [low_mod] at he
          simp at ha hb hc he
          first
            | (simp [chkK, okK, formK, szK, badK, W4.no, *]; done)
            | (exfalso; simp_all; done)
    · rcases he : (q.c % 2#64 == 0#64)
      · go_enter Tryz.func17, Tryz.ntmps17
        go_wp2_with fail
        refine (rsize_any 8 _).mono ?_
        rintro e w' ⟨rfl, hn⟩
        rw [show szK 8 = 4 from rfl]
        have hx := (hn.block _ (lt_of_block HZ.out)).trans HZ.out
        have k0 := cell_of_row _ _ 0 _ _ _ hx
        have k1 := cell_of_row _ _ 1 _ _ _ hx
        have k2 := cell_of_row _ _ 2 _ _ _ hx
        have k3 := cell_of_row _ _ 3 _ _ _ hx
        have k4 := cell_of_row _ _ 4 _ _ _ hx
        have HN := Lib.hid (((New.refl w).alloc _).trans hn)
        clear hx hn
        go_wp2_with fail
        go_rounds 5
        go_ret
        refine ⟨?_, HN.out⟩
        clear k0 k1 k2 k3 k4 HN
        rw [low_mod] at he
        simp at ha hb he
        first
          | (simp [chkK, okK, formK, szK, badK, W4.no, *]; done)
          | (exfalso; simp_all; done)
      · go_enter Tryz.func17, Tryz.ntmps17
        go_wp2_with fail
        refine (rsize_any 8 _).mono ?_
        rintro e w' ⟨rfl, hn⟩
        rw [show szK 8 = 4 from rfl]
        have hx := (hn.block _ (lt_of_block HZ.out)).trans HZ.out
        have k0 := cell_of_row _ _ 0 _ _ _ hx
        have k1 := cell_of_row _ _ 1 _ _ _ hx
        have k2 := cell_of_row _ _ 2 _ _ _ hx
        have k3 := cell_of_row _ _ 3 _ _ _ hx
        have k4 := cell_of_row _ _ 4 _ _ _ hx
        have HN := Lib.hid (((New.refl w).alloc _).trans hn)
        clear hx hn
        go_wp2_with fail
        go_rounds 5
        go_ret
        refine ⟨?_, HN.out⟩
        clear k0 k1 k2 k3 k4 HN
        rw [low_mod] at he
        simp at ha hb he
        first
          | (simp [chkK, okK, formK, szK, badK, W4.no, *]; done)
          | (exfalso; simp_all; done)
  · rcases he : (q.c % 2#64 == 0#64)
    · go_enter Tryz.func17, Tryz.ntmps17
      go_wp2_with fail
      refine (rsize_any 8 _).mono ?_
      rintro e w' ⟨rfl, hn⟩
      rw [show szK 8 = 4 from rfl]
      have hx := (hn.block _ (lt_of_block HZ.out)).trans HZ.out
      have k0 := cell_of_row _ _ 0 _ _ _ hx
      have k1 := cell_of_row _ _ 1 _ _ _ hx
      have k2 := cell_of_row _ _ 2 _ _ _ hx
      have k3 := cell_of_row _ _ 3 _ _ _ hx
      have k4 := cell_of_row _ _ 4 _ _ _ hx
      have HN := Lib.hid (((New.refl w).alloc _).trans hn)
      clear hx hn
      go_wp2_with fail
      go_rounds 5
      go_ret
      refine ⟨?_, HN.out⟩
      clear k0 k1 k2 k3 k4 HN
      rw [low_mod] at he
      simp at ha he
      first
        | (simp [chkK, okK, formK, szK, badK, W4.no, *]; done)
        | (exfalso; simp_all; done)
    · go_enter Tryz.func17, Tryz.ntmps17
      go_wp2_with fail
      refine (rsize_any 8 _).mono ?_
      rintro e w' ⟨rfl, hn⟩
      rw [show szK 8 = 4 from rfl]
      have hx := (hn.block _ (lt_of_block HZ.out)).trans HZ.out
      have k0 := cell_of_row _ _ 0 _ _ _ hx
      have k1 := cell_of_row _ _ 1 _ _ _ hx
      have k2 := cell_of_row _ _ 2 _ _ _ hx
      have k3 := cell_of_row _ _ 3 _ _ _ hx
      have k4 := cell_of_row _ _ 4 _ _ _ hx
      have HN := Lib.hid (((New.refl w).alloc _).trans hn)
      clear hx hn
      go_wp2_with fail
      go_rounds 5
      go_ret
      refine ⟨?_, HN.out⟩
      clear k0 k1 k2 k3 k4 HN
      rw [low_mod] at he
      simp at ha he
      first
        | (simp [chkK, okK, formK, szK, badK, W4.no, *]; done)
        | (exfalso; simp_all; done)
theorem rcheck_any (k : Int) (q : W4) (w : World) : Calls Tryz.prog 17 #[.agg (stc k q)] w fun e w' => e = .returned (.int .i64 (chkK k q)) ∧ New w w' := by
  rcases hk : okK k
  · have hs : szK k = 0 := by unfold okK at hk; simp at hk; unfold szK; repeat (rw [if_neg (by omega)])
    have e : chkK k q = 6 := by unfold chkK; rw [if_pos hk]
    rw [e]
    have hb := heap_alloc_new w (.cells (stc k q) 38)
    have HZ := Lib.hid hb
    clear hb
    go_enter Tryz.func17, Tryz.ntmps17
    go_wp2_with fail
    refine (rsize_any k _).mono ?_
    rintro e w' ⟨rfl, hn⟩
    go_wp2_with fail
    go_ret
    exact ⟨rfl, ((New.refl w).alloc _).trans hn⟩
  · unfold okK at hk; simp at hk
    have h8 : k = 1 ∨ k = 2 ∨ k = 3 ∨ k = 4 ∨ k = 5 ∨ k = 6 ∨ k = 7 ∨ k = 8 := by omega
    rcases h8 with rfl | rfl | rfl | rfl | rfl | rfl | rfl | rfl
    · exact rchk1 q w
    · exact rchk2 q w
    · exact rchk3 q w
    · exact rchk4 q w
    · exact rchk5 q w
    · exact rchk6 q w
    · exact rchk7 q w
    · exact rchk8 q w
end Go.Proofs.YthkmcnlciefnfaaGreat
