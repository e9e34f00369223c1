import Derived.Test.YtadcihkpnpemeaaGreatYFedQ
section
/- The law TapeCopies: what its loops keep. -/
namespace Go.Proofs.YtadcihkpnpemeaaGreat
open Go.RowKit Go.Bv
set_option linter.unusedVariables false
set_option maxRecDepth 100000

def eT (l : List (BitVec 64)) (i : Nat) : Int := if i < l.length then 0 else 7
theorem next_sat (b g c : Nat) (a : Option Addr) (cap : Nat) (l : List (BitVec 64)) (i : Nat) (w : World) (h : Tp w b g c a cap l (min i l.length)) :
    Calls Tryz.prog 11 #[.pointer (some ⟨b, 0, none⟩)] w fun e w' => e = .returned (.tuple #[.int .u64 (W64 (l.getD i 0)), .int .i64 (eT l i)]) ∧ ∃ g', Tp w' b g' c a cap l (min (i + 1) l.length) ∧ But2 b g w w' ∧ (g' = g ∨ w.heap.size ≤ g') := by
  by_cases hi : i < l.length
  · rw [Nat.min_eq_left (by omega)] at h
    rw [Nat.min_eq_left (by omega), show eT l i = 0 by unfold eT; rw [if_pos hi]]
    exact next_some_p b g c a cap l i hi w h
  · rw [Nat.min_eq_right (by omega)] at h
    rw [Nat.min_eq_right (by omega), show eT l i = 7 by unfold eT; rw [if_neg hi]]
    have hd : l.getD i 0 = 0#64 := by rw [List.getD_eq_getElem?_getD, List.getElem?_eq_none (by omega)]; rfl
    rw [hd, W64z]
    refine (next_none b g l w h.tape).mono ?_
    rintro e w' ⟨rfl, rfl⟩
    exact ⟨rfl, g, h, But2.refl _ _ _, Or.inl rfl⟩
/-- what the first loop keeps -/
structure CpS (W wr : World) (b g c : Nat) (a : Option Addr) (cap : Nat) (l : List (BitVec 64)) (bf gf : Nat) (kd : Int) (q : W4) (i : Nat) : Prop where
  tp : Tp wr b g c a cap l (min i l.length)
  fd : Fed wr bf gf kd q 30 i
  new : New W wr
  gb : b ≤ g
  bb : b < bf
  bg : b < gf
  n1 : g ≠ bf
  n2 : g ≠ gf
structure CpN (W wr : World) (b g c : Nat) (a : Option Addr) (cap : Nat) (l : List (BitVec 64)) (i : Nat) : Prop where
  tp : Tp wr b g c a cap l (min i l.length)
  new : New W wr
  gb : b ≤ g
theorem nil_row (w : World) : QRow w none 0 0 [] := ⟨rfl, Nat.le_refl _, by omega, by omega, (fun _ => ⟨rfl, rfl⟩), (fun b off e => by cases e), (fun x e => by cases e), (fun x e => by cases e)⟩
theorem set_here (l : List (BitVec 64)) (i : Nat) (x : BitVec 64) (h : i < l.length) : (l.set i x).getD i 0 = x := by
  rw [List.getD_eq_getElem?_getD, List.getElem?_set_self h]; rfl
theorem set_else (l : List (BitVec 64)) (i j : Nat) (x : BitVec 64) (h : j ≠ i) : (l.set i x).getD j 0 = l.getD j 0 := by
  rw [List.getD_eq_getElem?_getD, List.getElem?_set_ne (by omega), ← List.getD_eq_getElem?_getD]
structure Ap (b g x y : Nat) : Prop where
  n1 : b ≠ x
  n2 : b ≠ y
  n3 : g ≠ x
  n4 : g ≠ y
theorem Ap.symm {b g x y : Nat} (h : Ap b g x y) : Ap x y b g := ⟨h.n1.symm, h.n3.symm, h.n2.symm, h.n4.symm⟩
theorem Ap.move {b g x y g' s : Nat} (h : Ap b g x y) (hg : g' = g ∨ s ≤ g') (hx : x < s) (hy : y < s) : Ap b g' x y :=
  ⟨h.n1, h.n2, by rcases hg with e | e; (rw [e]; exact h.n3); omega, by rcases hg with e | e; (rw [e]; exact h.n4); omega⟩
theorem Ap.new {b g x y s : Nat} (hb : b < s) (hg : g < s) (hx : s ≤ x) (hy : s ≤ y) : Ap b g x y := ⟨by omega, by omega, by omega, by omega⟩
theorem le_move {b g g' s : Nat} (h : b ≤ g) (hb : b < s) (hg : g' = g ∨ s ≤ g') : b ≤ g' := by rcases hg with e | e <;> omega
theorem Tp.ap {w w' : World} {b g c b3 g3 L : Nat} {a : Option Addr} {cap : Nat} {l : List (BitVec 64)} {k : Nat} (h : Tp w b g c a cap l k) (hb : But2 b3 g3 w w') (ha : Ap b g b3 g3) (hc : c < L) (hr : ∀ y, a = some y → 0 < l.length → y.block < L) (h3 : L ≤ b3) (h4 : L ≤ g3) : Tp w' b g c a cap l k :=
  h.but hb ha.n1 ha.n2 ha.n3 ha.n4 (by omega) (by omega) (fun y e h0 => by have := hr y e h0; omega)
theorem Fed.ap {w w' : World} {b g b3 g3 : Nat} {kd : Int} {q : W4} {m k : Nat} (h : Fed w b g kd q m k) (hb : But2 b3 g3 w w') (ha : Ap b g b3 g3) : Fed w' b g kd q m k := h.but hb ha.n1 ha.n2 ha.n3 ha.n4
structure Quad (W w : World) (c : Nat) (a : Option Addr) (cap : Nat) (l : List (BitVec 64)) (b g b2 g2 k1 k2 : Nat) (bf gf b4 g4 : Nat) (kd : Int) (q : W4) (k3 k4 : Nat) : Prop where
  f1 : Tp w b g c a cap l k1
  f2 : Tp w b2 g2 c a cap l k2
  f3 : Fed w bf gf kd q 30 k3
  f4 : Fed w b4 g4 kd q 30 k4
  new : New W w
  hw : W.heap.size ≤ b
  hc : c < b
  hr : ∀ y, a = some y → 0 < l.length → y.block < b
  lg1 : b ≤ g
  lb2 : b ≤ b2
  lg2 : b ≤ g2
  lb3 : b ≤ bf
  lg3 : b ≤ gf
  lb4 : b ≤ b4
  lg4 : b ≤ g4
  a12 : Ap b g b2 g2
  a13 : Ap b g bf gf
  a14 : Ap b g b4 g4
  a23 : Ap b2 g2 bf gf
  a24 : Ap b2 g2 b4 g4
  a34 : Ap bf gf b4 g4
theorem Quad.m1 {W w w' : World} {c : Nat} {a : Option Addr} {cap : Nat} {l : List (BitVec 64)} {b g b2 g2 k1 k2 : Nat} {bf gf b4 g4 : Nat} {kd : Int} {q : W4} {k3 k4 : Nat} (h : Quad W w c a cap l b g b2 g2 k1 k2 bf gf b4 g4 kd q k3 k4) {g' k' : Nat} (hn : Tp w' b g' c a cap l k') (hb : But2 b g w w') (hg : g' = g ∨ w.heap.size ≤ g') : Quad W w' c a cap l b g' b2 g2 k' k2 bf gf b4 g4 kd q k3 k4 where
  f1 := hn
  f2 := h.f2.ap hb (h.a12.symm) h.hc h.hr (Nat.le_refl _) h.lg1
  f3 := h.f3.ap hb (h.a13.symm)
  f4 := h.f4.ap hb (h.a14.symm)
  new := hb.new W h.new (Nat.le_trans h.hw (Nat.le_refl _)) (Nat.le_trans h.hw h.lg1)
  hw := h.hw
  hc := h.hc
  hr := h.hr
  lg1 := le_move h.lg1 h.f1.lt.1 hg
  lb2 := h.lb2
  lg2 := h.lg2
  lb3 := h.lb3
  lg3 := h.lg3
  lb4 := h.lb4
  lg4 := h.lg4
  a12 := h.a12.move hg h.f2.lt.1 h.f2.lt.2
  a13 := h.a13.move hg h.f3.lt.1 h.f3.lt.2
  a14 := h.a14.move hg h.f4.lt.1 h.f4.lt.2
  a23 := h.a23
  a24 := h.a24
  a34 := h.a34
theorem Quad.m2 {W w w' : World} {c : Nat} {a : Option Addr} {cap : Nat} {l : List (BitVec 64)} {b g b2 g2 k1 k2 : Nat} {bf gf b4 g4 : Nat} {kd : Int} {q : W4} {k3 k4 : Nat} (h : Quad W w c a cap l b g b2 g2 k1 k2 bf gf b4 g4 kd q k3 k4) {g' k' : Nat} (hn : Tp w' b2 g' c a cap l k') (hb : But2 b2 g2 w w') (hg : g' = g2 ∨ w.heap.size ≤ g') : Quad W w' c a cap l b g b2 g' k1 k' bf gf b4 g4 kd q k3 k4 where
  f1 := h.f1.ap hb (h.a12) h.hc h.hr h.lb2 h.lg2
  f2 := hn
  f3 := h.f3.ap hb (h.a23.symm)
  f4 := h.f4.ap hb (h.a24.symm)
  new := hb.new W h.new (Nat.le_trans h.hw h.lb2) (Nat.le_trans h.hw h.lg2)
  hw := h.hw
  hc := h.hc
  hr := h.hr
  lg1 := h.lg1
  lb2 := h.lb2
  lg2 := le_move h.lg2 h.f1.lt.1 hg
  lb3 := h.lb3
  lg3 := h.lg3
  lb4 := h.lb4
  lg4 := h.lg4
  a12 := (h.a12.symm.move hg h.f1.lt.1 h.f1.lt.2).symm
  a13 := h.a13
  a14 := h.a14
  a23 := h.a23.move hg h.f3.lt.1 h.f3.lt.2
  a24 := h.a24.move hg h.f4.lt.1 h.f4.lt.2
  a34 := h.a34
theorem Quad.m3 {W w w' : World} {c : Nat} {a : Option Addr} {cap : Nat} {l : List (BitVec 64)} {b g b2 g2 k1 k2 : Nat} {bf gf b4 g4 : Nat} {kd : Int} {q : W4} {k3 k4 : Nat} (h : Quad W w c a cap l b g b2 g2 k1 k2 bf gf b4 g4 kd q k3 k4) {g' k' : Nat} (hn : Fed w' bf g' kd q 30 k') (hb : But2 bf gf w w') (hg : g' = gf ∨ w.heap.size ≤ g') : Quad W w' c a cap l b g b2 g2 k1 k2 bf g' b4 g4 kd q k' k4 where
  f1 := h.f1.ap hb (h.a13) h.hc h.hr h.lb3 h.lg3
  f2 := h.f2.ap hb (h.a23) h.hc h.hr h.lb3 h.lg3
  f3 := hn
  f4 := h.f4.ap hb (h.a34.symm)
  new := hb.new W h.new (Nat.le_trans h.hw h.lb3) (Nat.le_trans h.hw h.lg3)
  hw := h.hw
  hc := h.hc
  hr := h.hr
  lg1 := h.lg1
  lb2 := h.lb2
  lg2 := h.lg2
  lb3 := h.lb3
  lg3 := le_move h.lg3 h.f1.lt.1 hg
  lb4 := h.lb4
  lg4 := h.lg4
  a12 := h.a12
  a13 := (h.a13.symm.move hg h.f1.lt.1 h.f1.lt.2).symm
  a14 := h.a14
  a23 := (h.a23.symm.move hg h.f2.lt.1 h.f2.lt.2).symm
  a24 := h.a24
  a34 := h.a34.move hg h.f4.lt.1 h.f4.lt.2
theorem Quad.m4 {W w w' : World} {c : Nat} {a : Option Addr} {cap : Nat} {l : List (BitVec 64)} {b g b2 g2 k1 k2 : Nat} {bf gf b4 g4 : Nat} {kd : Int} {q : W4} {k3 k4 : Nat} (h : Quad W w c a cap l b g b2 g2 k1 k2 bf gf b4 g4 kd q k3 k4) {g' k' : Nat} (hn : Fed w' b4 g' kd q 30 k') (hb : But2 b4 g4 w w') (hg : g' = g4 ∨ w.heap.size ≤ g') : Quad W w' c a cap l b g b2 g2 k1 k2 bf gf b4 g' kd q k3 k' where
  f1 := h.f1.ap hb (h.a14) h.hc h.hr h.lb4 h.lg4
  f2 := h.f2.ap hb (h.a24) h.hc h.hr h.lb4 h.lg4
  f3 := h.f3.ap hb (h.a34)
  f4 := hn
  new := hb.new W h.new (Nat.le_trans h.hw h.lb4) (Nat.le_trans h.hw h.lg4)
  hw := h.hw
  hc := h.hc
  hr := h.hr
  lg1 := h.lg1
  lb2 := h.lb2
  lg2 := h.lg2
  lb3 := h.lb3
  lg3 := h.lg3
  lb4 := h.lb4
  lg4 := le_move h.lg4 h.f1.lt.1 hg
  a12 := h.a12
  a13 := h.a13
  a14 := (h.a14.symm.move hg h.f1.lt.1 h.f1.lt.2).symm
  a23 := h.a23
  a24 := (h.a24.symm.move hg h.f2.lt.1 h.f2.lt.2).symm
  a34 := (h.a34.symm.move hg h.f3.lt.1 h.f3.lt.2).symm
structure Pair (W w : World) (c : Nat) (a : Option Addr) (cap : Nat) (l : List (BitVec 64)) (b g b2 g2 k1 k2 : Nat) : Prop where
  f1 : Tp w b g c a cap l k1
  f2 : Tp w b2 g2 c a cap l k2
  new : New W w
  hw : W.heap.size ≤ b
  hc : c < b
  hr : ∀ y, a = some y → 0 < l.length → y.block < b
  lg1 : b ≤ g
  lb2 : b ≤ b2
  lg2 : b ≤ g2
  a12 : Ap b g b2 g2
theorem Pair.m1 {W w w' : World} {c : Nat} {a : Option Addr} {cap : Nat} {l : List (BitVec 64)} {b g b2 g2 k1 k2 : Nat} (h : Pair W w c a cap l b g b2 g2 k1 k2) {g' k' : Nat} (hn : Tp w' b g' c a cap l k') (hb : But2 b g w w') (hg : g' = g ∨ w.heap.size ≤ g') : Pair W w' c a cap l b g' b2 g2 k' k2 where
  f1 := hn
  f2 := h.f2.ap hb (h.a12.symm) h.hc h.hr (Nat.le_refl _) h.lg1
  new := hb.new W h.new (Nat.le_trans h.hw (Nat.le_refl _)) (Nat.le_trans h.hw h.lg1)
  hw := h.hw
  hc := h.hc
  hr := h.hr
  lg1 := le_move h.lg1 h.f1.lt.1 hg
  lb2 := h.lb2
  lg2 := h.lg2
  a12 := h.a12.move hg h.f2.lt.1 h.f2.lt.2
theorem Pair.m2 {W w w' : World} {c : Nat} {a : Option Addr} {cap : Nat} {l : List (BitVec 64)} {b g b2 g2 k1 k2 : Nat} (h : Pair W w c a cap l b g b2 g2 k1 k2) {g' k' : Nat} (hn : Tp w' b2 g' c a cap l k') (hb : But2 b2 g2 w w') (hg : g' = g2 ∨ w.heap.size ≤ g') : Pair W w' c a cap l b g b2 g' k1 k' where
  f1 := h.f1.ap hb (h.a12) h.hc h.hr h.lb2 h.lg2
  f2 := hn
  new := hb.new W h.new (Nat.le_trans h.hw h.lb2) (Nat.le_trans h.hw h.lg2)
  hw := h.hw
  hc := h.hc
  hr := h.hr
  lg1 := h.lg1
  lb2 := h.lb2
  lg2 := le_move h.lg2 h.f1.lt.1 hg
  a12 := (h.a12.symm.move hg h.f1.lt.1 h.f1.lt.2).symm
end Go.Proofs.YtadcihkpnpemeaaGreat
end
section
/- The law TapeCopies: a generator that is right. -/
namespace Go.Proofs.YtadcihkpnpemeaaGreat
open Go.RowKit Go.Bv
set_option linter.unusedVariables false
set_option maxRecDepth 100000
set_option maxHeartbeats 8000000 in
theorem copies_ok (W : World) (a0 : Option Addr) (n0 m0 : Nat) (l : List (BitVec 64)) (hl : QRow W a0 n0 m0 l) (hn100 : n0 ≤ 100) (kd : Int) (q : W4) (hk : chkK kd q = 0) (n : Nat) (hn20 : n ≤ 20) (at_ : Int) (x : BitVec 64) :
    Calls Tryz.prog 4 #[.slice a0 n0 m0, .agg (stc kd q), .int .i64 (n : Int), .int .i64 at_, .int .u64 (W64 x)] W fun e w' => e = .returned (.bool true) ∧ New W w' := by
  obtain rfl := hl.len_eq
  have h1 : ¬ (100 : Int) < (l.length : Int) := by omega
  have h2 : ¬ (n : Int) < 0 := by omega
  have h3 : ¬ (20 : Int) < (n : Int) := by omega
  have hmost := hl.most
  have hle := hl.le
  have hroom := hl.room
  have HQ := Lib.hid hl
  have HB0 := Lib.hid (heap_alloc_new W (.cells (stc kd q) 25))
  have HN0 := Lib.hid ((New.refl W).alloc (.cells (stc kd q) 25))
  have HF := Lib.hid (fun w => fed_ok kd q 30 30 (Or.inr rfl) (by omega) hk w)
  clear hl hk
  go_enter Tryz.func4, Tryz.ntmps4
  go_wp2_with fail
  refine (awake_37 _).mono ?_
  rintro e w1 ⟨rfl, n1⟩
  have hb := (n1.block _ (lt_of_block HB0.out)).trans HB0.out
  have HB1 := Lib.hid hb
  have HN1 := Lib.hid (HN0.out.trans n1)
  clear hb n1 HB0 HN0
  go_wp2_with fail
  refine (new_t a0 _ m0 l _ (HQ.out.stay HN1.out)).mono ?_
  rintro e w2 ⟨b, rfl, hbl, ht, n2⟩
  have hb := (n2.block _ (lt_of_block HB1.out)).trans HB1.out
  have x0 := cell_of_row _ _ 0 _ _ _ hb
  have x1 := cell_of_row _ _ 1 _ _ _ hb
  have x2 := cell_of_row _ _ 2 _ _ _ hb
  have x3 := cell_of_row _ _ 3 _ _ _ hb
  have x4 := cell_of_row _ _ 4 _ _ _ hb
  obtain ⟨c, a, cap, htp, hcb, hrb⟩ := ht.tp
  have HWB := Lib.hid (show W.heap.size ≤ b by have := HN1.out.le; omega)
  have HTP := Lib.hid htp
  have HN2 := Lib.hid (HN1.out.trans n2)
  have HRB := Lib.hid hrb
  have HCB := Lib.hid hcb
  clear hb n2 ht htp hbl HB1 HN1 hrb hcb
  go_wp2_with fail
  refine (HF.out _).mono ?_
  rintro e w3 ⟨bf, rfl, hbf, hfd, n3⟩
  have HST : Hid (CpS W w3 b b c a cap l bf bf kd q 0) := Lib.hid (by
    have hlt := HTP.out.lt
    refine ⟨?_, hfd, HN2.out.trans n3, Nat.le_refl _, by omega, by omega, by omega, by omega⟩
    rw [Nat.zero_min]; exact HTP.out.stay n3)
  clear hbf hfd n3 HTP HN2 HF x0 x1 x2 x3 x4
  go_wp2_with fail
  go_loopw [14] (fun iv wr => ∃ i g gf : Nat, i ≤ n ∧ iv = .int .i64 (i : Int) ∧ Hid (CpS W wr b g c a cap l bf gf kd q i)) (fun iv _ => n - (intOf iv).toNat)
  case atStart => exact ⟨0, b, bf, Nat.zero_le _, rfl, HST⟩
  case round =>
    obtain ⟨i, g, gf, hi, rfl, HI⟩ := hrel
    clear HST
    by_cases hlt : (i : Int) < (n : Int)
    · go_wp2_with fail
      refine (next_sat b g c a cap l i wr HI.out.tp).mono ?_
      rintro e w5 ⟨rfl, g2, ht2, hbut, hg2⟩
      have HT5 := Lib.hid ht2
      have HF5 := Lib.hid (HI.out.fd.but hbut (by have := HI.out.bb; omega) HI.out.n1.symm (by have := HI.out.bg; omega) HI.out.n2.symm)
      have HN5 := Lib.hid (hbut.new W HI.out.new HWB.out (by have := HWB.out; have := HI.out.gb; omega))
      have HG2 := Lib.hid hg2
      have HSZ := Lib.hid hbut.size
      clear ht2 hbut hg2
      go_wp2_with fail
      refine (next_some_f bf gf kd q 30 i (by omega) _ HF5.out).mono ?_
      rintro e w6 ⟨rfl, gf2, hf2, hbut, hgf2⟩
      have HST2 : Hid (CpS W w6 b g2 c a cap l bf gf2 kd q (i + 1)) := Lib.hid (by
        have hc := HCB.out
        have e1 := HI.out.gb
        have e2 := HI.out.bb
        have e3 := HI.out.bg
        have e4 := HI.out.n1
        have e5 := HI.out.n2
        have hlt1 := HI.out.tp.lt
        have hlt2 := HI.out.fd.lt
        have hlt3 := HT5.out.lt
        have hwb := HWB.out
        have hsz := HSZ.out
        have e6 : b ≤ g2 := by rcases HG2.out with e | e <;> omega
        have e7 : g2 ≠ bf := by rcases HG2.out with e | e <;> omega
        have e8 : g2 ≠ gf := by rcases HG2.out with e | e <;> omega
        refine ⟨HT5.out.but hbut (by omega) (by omega) e7 e8 (by omega) (by omega) (fun y e h0 => by have := HRB.out y e h0; omega), hf2, hbut.new W HN5.out (by omega) (by omega), e6, e2, ?_, e7, ?_⟩
        · rcases hgf2 with e | e <;> omega
        · rcases hgf2 with e | e <;> omega)
      clear hf2 hbut hgf2
      go_wp2
      exact ⟨⟨i + 1, g2, gf2, by omega, by go_num, HST2⟩, by simp [intOf]; omega⟩
    · obtain rfl : n = i := by omega
      go_wp2_with fail
      refine (clone_p b g c a cap l _ wr HI.out.tp).mono ?_
      rintro e w7 ⟨b2, g3, rfl, ht2, hb2, hg3, n7⟩
      have HU7 := Lib.hid ht2
      have HB7 := Lib.hid (And.intro hb2 hg3)
      have HNN7 := Lib.hid n7
      clear ht2 hb2 hg3 n7
      go_wp2_with fail
      refine (clone_f bf gf kd q 30 n _ (HI.out.fd.stay HNN7.out)).mono ?_
      rintro e w8 ⟨b4, g4, rfl, hf4, hb4, hg4, n8⟩
      have HD : Hid (Quad W w8 c a cap l b g b2 g3 (min n l.length) (min n l.length) bf gf b4 g4 kd q n n) := Lib.hid (by
        have l1 := HI.out.tp.lt
        have l2 := HI.out.fd.lt
        have l3 := HU7.out.lt
        have hs := HNN7.out.le
        have hb2 := HB7.out.1
        have hg3 := HB7.out.2
        have e2 := HI.out.bb
        have e3 := HI.out.bg
        have hgb := HI.out.gb
        exact {
          f1 := HI.out.tp.stay (HNN7.out.trans n8)
          f2 := HU7.out.stay n8
          f3 := HI.out.fd.stay (HNN7.out.trans n8)
          f4 := hf4
          new := HI.out.new.trans (HNN7.out.trans n8)
          hw := HWB.out
          hc := HCB.out
          hr := HRB.out
          lg1 := HI.out.gb
          lb2 := by omega
          lg2 := by omega
          lb3 := by omega
          lg3 := by omega
          lb4 := by omega
          lg4 := by omega
          a12 := Ap.new l1.1 l1.2 hb2 hg3
          a13 := ⟨by omega, by omega, HI.out.n1, HI.out.n2⟩
          a14 := Ap.new (s := w7.heap.size) (by omega) (by omega) hb4 hg4
          a23 := (Ap.new l2.1 l2.2 hb2 hg3).symm
          a24 := Ap.new l3.1 l3.2 hb4 hg4
          a34 := Ap.new (s := w7.heap.size) (by omega) (by omega) hb4 hg4 })
      clear hf4 hb4 hg4 n8 HB7 HNN7 HU7 HI HWB HCB HRB
      go_wp2_with fail
      refine (next_sat b g c a cap l n _ HD.out.f1).mono ?_
      rintro e w9 ⟨rfl, h1, hm, hbut, hg⟩
      replace HD := Lib.hid (HD.out.m1 hm hbut hg)
      clear hm hbut hg
      go_wp2_with fail
      refine (next_sat b2 g3 c a cap l n _ HD.out.f2).mono ?_
      rintro e w10 ⟨rfl, h2, hm, hbut, hg⟩
      replace HD := Lib.hid (HD.out.m2 hm hbut hg)
      clear hm hbut hg
      go_wp2_with fail
      refine (next_some_f bf gf kd q 30 n (by omega) _ HD.out.f3).mono ?_
      rintro e w11 ⟨rfl, h3, hm, hbut, hg⟩
      replace HD := Lib.hid (HD.out.m3 hm hbut hg)
      clear hm hbut hg
      go_wp2_with fail
      refine (next_some_f b4 g4 kd q 30 n (by omega) _ HD.out.f4).mono ?_
      rintro e w12 ⟨rfl, h4, hm, hbut, hg⟩
      replace HD := Lib.hid (HD.out.m4 hm hbut hg)
      clear hm hbut hg
      obtain ⟨kt, hkt⟩ : ∃ kt, min (n + 1) l.length = kt := ⟨_, rfl⟩
      rw [hkt] at HD
      clear hkt
      go_wp2_with fail
      refine (used_t _ _ l kt _ HD.out.f1.tape).mono ?_
      rintro e wq ⟨rfl, hw⟩
      replace hw := hw.symm
      subst hw
      go_wp2_with fail
      refine (used_t _ _ l kt _ HD.out.f2.tape).mono ?_
      rintro e wq ⟨rfl, hw⟩
      replace hw := hw.symm
      subst hw
      go_wp2_with fail
      refine (taken_f _ _ kd q 30 (n + 1) _ HD.out.f3).mono ?_
      rintro e v1 ⟨a5, c5, rfl, hq5, n5⟩
      have HQ5 := Lib.hid hq5
      have HF4 := Lib.hid (HD.out.f4.stay n5)
      have HN5 := Lib.hid (HD.out.new.trans n5)
      clear hq5 n5
      go_wp2_with fail
      refine (taken_f _ _ kd q 30 (n + 1) _ HF4.out).mono ?_
      rintro e v2 ⟨a6, c6, rfl, hq6, n6⟩
      have HQ6 := Lib.hid hq6
      have HQ52 := Lib.hid (HQ5.out.stay n6)
      have HN6 := Lib.hid (HN5.out.trans n6)
      clear hq6 n6
      go_wp2_with fail
      refine (words_ref _ _ _ _ _ _ _ _ W _ HQ52.out HQ6.out HN6.out).mono ?_
      rintro e v3 ⟨rfl, _, n7⟩
      rw [beq_self_eq_true]
      have HN7 := Lib.hid n7
      clear n7 HN6 HD HQ5 HQ6 HQ52 HF4 HN5
      by_cases hat : at_ < 0 ∨ (l.length : Int) ≤ at_
      · go_wp2_with fail
        refine (put_no a0 _ m0 at_ x hat _).mono ?_
        rintro e wq ⟨rfl, hw⟩
        replace hw := hw.symm
        subst hw
        rcases hat with h4 | h5
        · go_wp2
          go_ret
          exact ⟨rfl, HN7.out⟩
        · have h4 : ¬ at_ < 0 := by omega
          go_wp2
          go_ret
          exact ⟨rfl, HN7.out⟩
      · obtain ⟨j, rfl⟩ : ∃ j : Nat, at_ = (j : Int) := ⟨at_.toNat, by omega⟩
        have hj : j < l.length := by omega
        have h4 : ¬ (j : Int) < 0 := by omega
        have h5 : ¬ (l.length : Int) ≤ (j : Int) := by omega
        go_wp2_with fail
        refine (put_at a0 _ m0 l j x hj _ (HQ.out.stay HN7.out)).mono ?_
        rintro e wp ⟨a7, c7, rfl, hq7, n8⟩
        obtain ⟨p7, o7, rfl, -⟩ := hq7.addr (by omega)
        obtain ⟨p0, o0, rfl, -⟩ := HQ.out.addr (by omega)
        have hle7 := hq7.le
        have hroom7 := hq7.room
        have HQ7 := Lib.hid hq7
        have HQ0 := Lib.hid (HQ.out.stay (HN7.out.trans n8))
        have HN8 := Lib.hid (HN7.out.trans n8)
        clear hq7 n8 HQ HN7
        go_wp2_with fail
        go_loopw [141] (fun iv wr => ∃ k : Nat, k ≤ l.length ∧ iv = .int .i64 (k : Int) ∧ New wp wr) (fun iv _ => l.length - (intOf iv).toNat)
        case atStart => exact ⟨0, Nat.zero_le _, rfl, New.refl _⟩
        case round =>
          obtain ⟨k, hk, rfl, hnew⟩ := hrel
          by_cases hlt : (k : Int) < (l.length : Int)
          · have hk0 : (0 : Int) ≤ (k : Int) := by omega
            obtain ⟨p0', o0', e0, d0⟩ := (HQ0.out.stay hnew).addr (by omega)
            cases e0
            obtain ⟨p7', o7', e7, d7⟩ := (HQ7.out.stay hnew).addr (by omega)
            cases e7
            replace d0 := d0 k (by omega)
            replace d7 := d7 k (by omega)
            have HNW := Lib.hid hnew
            clear hnew
            by_cases hkj : k = j
            · subst hkj
              rw [set_here l k x hj] at d7
              have hb1 : ((k : Int) == (k : Int)) = true := by simp
              have hb2 : ((k : Int) != (k : Int)) = false := by simp
              go_wp2
              go_quiet (fail)
              go_wp2
              exact ⟨⟨k + 1, by omega, by go_num, HNW.out.drewN nq⟩, by simp [intOf]; omega⟩
            · rw [set_else l j k x hkj] at d7
              have hb1 : ((k : Int) == (j : Int)) = false := by rw [beq_eq_false_iff_ne]; omega
              have hb2 : ((k : Int) != (j : Int)) = true := by rw [bne_iff_ne]; omega
              obtain ⟨z, hz⟩ : ∃ z, l.getD k 0 = z := ⟨_, rfl⟩
              rw [hz] at d0 d7
              clear hz
              go_wp2
              go_quiet (fail)
              go_wp2
              exact ⟨⟨k + 1, by omega, by go_num, HNW.out.drewN nq⟩, by simp [intOf]; omega⟩
          · obtain rfl : k = l.length := by omega
            have HN9 := Lib.hid (HN8.out.trans hnew)
            clear hnew
            go_wp2_with fail
            refine (next_nil _).mono ?_
            rintro e wq ⟨rfl, hw⟩
            replace hw := hw.symm
            subst hw
            go_wp2_with fail
            refine (used_nil _).mono ?_
            rintro e wq ⟨rfl, hw⟩
            replace hw := hw.symm
            subst hw
            go_wp2_with fail
            refine (left_nil _).mono ?_
            rintro e wq ⟨rfl, hw⟩
            replace hw := hw.symm
            subst hw
            go_wp2_with fail
            refine (taken_nil _).mono ?_
            rintro e wq ⟨rfl, hw⟩
            replace hw := hw.symm
            subst hw
            go_wp2_with fail
            refine (clone_nil _).mono ?_
            rintro e wq ⟨rfl, hw⟩
            replace hw := hw.symm
            subst hw
            go_wp2
            go_ret
            exact ⟨rfl, HN9.out⟩
end Go.Proofs.YtadcihkpnpemeaaGreat
end
section
/- The law TapeCopies: no generator. -/
namespace Go.Proofs.YtadcihkpnpemeaaGreat
open Go.RowKit Go.Bv
set_option linter.unusedVariables false
set_option maxRecDepth 100000
set_option maxHeartbeats 8000000 in
theorem copies_nil (W : World) (a0 : Option Addr) (n0 m0 : Nat) (l : List (BitVec 64)) (hl : QRow W a0 n0 m0 l) (hn100 : n0 ≤ 100) (kd : Int) (q : W4) (hk : ¬ chkK kd q = 0) (n : Nat) (hn20 : n ≤ 20) (at_ : Int) (x : BitVec 64) :
    Calls Tryz.prog 4 #[.slice a0 n0 m0, .agg (stc kd q), .int .i64 (n : Int), .int .i64 at_, .int .u64 (W64 x)] W fun e w' => e = .returned (.bool true) ∧ New W w' := by
  obtain rfl := hl.len_eq
  have h1 : ¬ (100 : Int) < (l.length : Int) := by omega
  have h2 : ¬ (n : Int) < 0 := by omega
  have h3 : ¬ (20 : Int) < (n : Int) := by omega
  have hmost := hl.most
  have hle := hl.le
  have hroom := hl.room
  have HQ := Lib.hid hl
  have HB0 := Lib.hid (heap_alloc_new W (.cells (stc kd q) 25))
  have HN0 := Lib.hid ((New.refl W).alloc (.cells (stc kd q) 25))
  have HF := Lib.hid (fun w => fed_bad kd q 30 hk w)
  obtain ⟨ce, hce⟩ : ∃ ce, chkK kd q = ce := ⟨_, rfl⟩
  rw [hce] at HF
  clear hl hk hce
  go_enter Tryz.func4, Tryz.ntmps4
  go_wp2_with fail
  refine (awake_37 _).mono ?_
  rintro e w1 ⟨rfl, n1⟩
  have hb := (n1.block _ (lt_of_block HB0.out)).trans HB0.out
  have HB1 := Lib.hid hb
  have HN1 := Lib.hid (HN0.out.trans n1)
  clear hb n1 HB0 HN0
  go_wp2_with fail
  refine (new_t a0 _ m0 l _ (HQ.out.stay HN1.out)).mono ?_
  rintro e w2 ⟨b, rfl, hbl, ht, n2⟩
  have hb := (n2.block _ (lt_of_block HB1.out)).trans HB1.out
  have x0 := cell_of_row _ _ 0 _ _ _ hb
  have x1 := cell_of_row _ _ 1 _ _ _ hb
  have x2 := cell_of_row _ _ 2 _ _ _ hb
  have x3 := cell_of_row _ _ 3 _ _ _ hb
  have x4 := cell_of_row _ _ 4 _ _ _ hb
  obtain ⟨c, a, cap, htp, hcb, hrb⟩ := ht.tp
  have HWB := Lib.hid (show W.heap.size ≤ b by have := HN1.out.le; omega)
  have HTP := Lib.hid htp
  have HN2 := Lib.hid (HN1.out.trans n2)
  have HRB := Lib.hid hrb
  have HCB := Lib.hid hcb
  clear hb n2 ht htp hbl HB1 HN1 hrb hcb
  go_wp2_with fail
  refine (HF.out _).mono ?_
  rintro e w3 ⟨rfl, n3⟩
  have HST : Hid (CpN W w3 b b c a cap l 0) := Lib.hid (by
    refine ⟨?_, HN2.out.trans n3, Nat.le_refl _⟩
    rw [Nat.zero_min]; exact HTP.out.stay n3)
  clear n3 HTP HN2 HF x0 x1 x2 x3 x4
  go_wp2_with fail
  go_loopw [14] (fun iv wr => ∃ i g : Nat, i ≤ n ∧ iv = .int .i64 (i : Int) ∧ Hid (CpN W wr b g c a cap l i)) (fun iv _ => n - (intOf iv).toNat)
  case atStart => exact ⟨0, b, Nat.zero_le _, rfl, HST⟩
  case round =>
    obtain ⟨i, g, hi, rfl, HI⟩ := hrel
    clear HST
    by_cases hlt : (i : Int) < (n : Int)
    · go_wp2_with fail
      refine (next_sat b g c a cap l i wr HI.out.tp).mono ?_
      rintro e w5 ⟨rfl, g2, ht2, hbut, hg2⟩
      have HST2 : Hid (CpN W w5 b g2 c a cap l (i + 1)) := Lib.hid (by
        have e1 := HI.out.gb
        have hlt1 := HI.out.tp.lt
        have hwb := HWB.out
        exact ⟨ht2, hbut.new W HI.out.new hwb (by omega), by rcases hg2 with e | e <;> omega⟩)
      clear ht2 hbut hg2
      go_wp2_with fail
      refine (next_nil _).mono ?_
      rintro e wq ⟨rfl, hw⟩
      replace hw := hw.symm
      subst hw
      go_wp2
      exact ⟨⟨i + 1, g2, by omega, by go_num, HST2⟩, by simp [intOf]; omega⟩
    · obtain rfl : n = i := by omega
      go_wp2_with fail
      refine (clone_p b g c a cap l _ wr HI.out.tp).mono ?_
      rintro e w7 ⟨b2, g3, rfl, ht2, hb2, hg3, n7⟩
      have HU7 := Lib.hid ht2
      have HB7 := Lib.hid (And.intro hb2 hg3)
      have HNN7 := Lib.hid n7
      clear ht2 hb2 hg3 n7
      go_wp2_with fail
      refine (clone_nil _).mono ?_
      rintro e wq ⟨rfl, hw⟩
      replace hw := hw.symm
      subst hw
      have HD : Hid (Pair W w7 c a cap l b g b2 g3 (min n l.length) (min n l.length)) := Lib.hid (by
        have l1 := HI.out.tp.lt
        have hb2 := HB7.out.1
        have hg3 := HB7.out.2
        exact {
          f1 := HI.out.tp.stay HNN7.out
          f2 := HU7.out
          new := HI.out.new.trans HNN7.out
          hw := HWB.out
          hc := HCB.out
          hr := HRB.out
          lg1 := HI.out.gb
          lb2 := by omega
          lg2 := by omega
          a12 := Ap.new l1.1 l1.2 hb2 hg3 })
      clear HB7 HNN7 HU7 HI HWB HCB HRB
      go_wp2_with fail
      refine (next_sat b g c a cap l n _ HD.out.f1).mono ?_
      rintro e w9 ⟨rfl, h1, hm, hbut, hg⟩
      replace HD := Lib.hid (HD.out.m1 hm hbut hg)
      clear hm hbut hg
      go_wp2_with fail
      refine (next_sat b2 g3 c a cap l n _ HD.out.f2).mono ?_
      rintro e w10 ⟨rfl, h2, hm, hbut, hg⟩
      replace HD := Lib.hid (HD.out.m2 hm hbut hg)
      clear hm hbut hg
      go_wp2_with fail
      refine (next_nil _).mono ?_
      rintro e wq ⟨rfl, hw⟩
      replace hw := hw.symm
      subst hw
      go_wp2_with fail
      refine (next_nil _).mono ?_
      rintro e wq ⟨rfl, hw⟩
      replace hw := hw.symm
      subst hw
      obtain ⟨kt, hkt⟩ : ∃ kt, min (n + 1) l.length = kt := ⟨_, rfl⟩
      rw [hkt] at HD
      clear hkt
      go_wp2_with fail
      refine (used_t _ _ l kt _ HD.out.f1.tape).mono ?_
      rintro e wq ⟨rfl, hw⟩
      replace hw := hw.symm
      subst hw
      go_wp2_with fail
      refine (used_t _ _ l kt _ HD.out.f2.tape).mono ?_
      rintro e wq ⟨rfl, hw⟩
      replace hw := hw.symm
      subst hw
      have HN6 := Lib.hid HD.out.new
      go_wp2_with fail
      refine (taken_nil _).mono ?_
      rintro e wq ⟨rfl, hw⟩
      replace hw := hw.symm
      subst hw
      go_wp2_with fail
      refine (taken_nil _).mono ?_
      rintro e wq ⟨rfl, hw⟩
      replace hw := hw.symm
      subst hw
      have HQ52 := fun w => Lib.hid (nil_row w)
      go_wp2_with fail
      refine (words_ref _ _ _ _ _ _ _ _ W _ (nil_row _) (nil_row _) HN6.out).mono ?_
      rintro e v3 ⟨rfl, _, n7⟩
      rw [beq_self_eq_true]
      have HN7 := Lib.hid n7
      clear n7 HN6 HD HQ52
      by_cases hat : at_ < 0 ∨ (l.length : Int) ≤ at_
      · go_wp2_with fail
        refine (put_no a0 _ m0 at_ x hat _).mono ?_
        rintro e wq ⟨rfl, hw⟩
        replace hw := hw.symm
        subst hw
        rcases hat with h4 | h5
        · go_wp2
          go_ret
          exact ⟨rfl, HN7.out⟩
        · have h4 : ¬ at_ < 0 := by omega
          go_wp2
          go_ret
          exact ⟨rfl, HN7.out⟩
      · obtain ⟨j, rfl⟩ : ∃ j : Nat, at_ = (j : Int) := ⟨at_.toNat, by omega⟩
        have hj : j < l.length := by omega
        have h4 : ¬ (j : Int) < 0 := by omega
        have h5 : ¬ (l.length : Int) ≤ (j : Int) := by omega
        go_wp2_with fail
        refine (put_at a0 _ m0 l j x hj _ (HQ.out.stay HN7.out)).mono ?_
        rintro e wp ⟨a7, c7, rfl, hq7, n8⟩
        obtain ⟨p7, o7, rfl, -⟩ := hq7.addr (by omega)
        obtain ⟨p0, o0, rfl, -⟩ := HQ.out.addr (by omega)
        have hle7 := hq7.le
        have hroom7 := hq7.room
        have HQ7 := Lib.hid hq7
        have HQ0 := Lib.hid (HQ.out.stay (HN7.out.trans n8))
        have HN8 := Lib.hid (HN7.out.trans n8)
        clear hq7 n8 HQ HN7
        go_wp2_with fail
        go_loopw [141] (fun iv wr => ∃ k : Nat, k ≤ l.length ∧ iv = .int .i64 (k : Int) ∧ New wp wr) (fun iv _ => l.length - (intOf iv).toNat)
        case atStart => exact ⟨0, Nat.zero_le _, rfl, New.refl _⟩
        case round =>
          obtain ⟨k, hk, rfl, hnew⟩ := hrel
          by_cases hlt : (k : Int) < (l.length : Int)
          · have hk0 : (0 : Int) ≤ (k : Int) := by omega
            obtain ⟨p0', o0', e0, d0⟩ := (HQ0.out.stay hnew).addr (by omega)
            cases e0
            obtain ⟨p7', o7', e7, d7⟩ := (HQ7.out.stay hnew).addr (by omega)
            cases e7
            replace d0 := d0 k (by omega)
            replace d7 := d7 k (by omega)
            have HNW := Lib.hid hnew
            clear hnew
            by_cases hkj : k = j
            · subst hkj
              rw [set_here l k x hj] at d7
              have hb1 : ((k : Int) == (k : Int)) = true := by simp
              have hb2 : ((k : Int) != (k : Int)) = false := by simp
              go_wp2
              go_quiet (fail)
              go_wp2
              exact ⟨⟨k + 1, by omega, by go_num, HNW.out.drewN nq⟩, by simp [intOf]; omega⟩
            · rw [set_else l j k x hkj] at d7
              have hb1 : ((k : Int) == (j : Int)) = false := by rw [beq_eq_false_iff_ne]; omega
              have hb2 : ((k : Int) != (j : Int)) = true := by rw [bne_iff_ne]; omega
              obtain ⟨z, hz⟩ : ∃ z, l.getD k 0 = z := ⟨_, rfl⟩
              rw [hz] at d0 d7
              clear hz
              go_wp2
              go_quiet (fail)
              go_wp2
              exact ⟨⟨k + 1, by omega, by go_num, HNW.out.drewN nq⟩, by simp [intOf]; omega⟩
          · obtain rfl : k = l.length := by omega
            have HN9 := Lib.hid (HN8.out.trans hnew)
            clear hnew
            go_wp2_with fail
            refine (next_nil _).mono ?_
            rintro e wq ⟨rfl, hw⟩
            replace hw := hw.symm
            subst hw
            go_wp2_with fail
            refine (used_nil _).mono ?_
            rintro e wq ⟨rfl, hw⟩
            replace hw := hw.symm
            subst hw
            go_wp2_with fail
            refine (left_nil _).mono ?_
            rintro e wq ⟨rfl, hw⟩
            replace hw := hw.symm
            subst hw
            go_wp2_with fail
            refine (taken_nil _).mono ?_
            rintro e wq ⟨rfl, hw⟩
            replace hw := hw.symm
            subst hw
            go_wp2_with fail
            refine (clone_nil _).mono ?_
            rintro e wq ⟨rfl, hw⟩
            replace hw := hw.symm
            subst hw
            go_wp2
            go_ret
            exact ⟨rfl, HN9.out⟩
end Go.Proofs.YtadcihkpnpemeaaGreat
end
section
/- The law TapeCopies: for every row, every state, all numbers. -/
namespace Go.Proofs.YtadcihkpnpemeaaGreat
open Go.RowKit Go.Bv
set_option linter.unusedVariables false
set_option maxRecDepth 100000
set_option maxHeartbeats 2000000 in
theorem copies_out (W : World) (a0 : Option Addr) (n0 m0 : Nat) (kd : Int) (q : W4) (n at_ : Int) (x : BitVec 64) (hout : (100 < (n0 : Int)) ∨ n < 0 ∨ 20 < n) :
    Calls Tryz.prog 4 #[.slice a0 n0 m0, .agg (stc kd q), .int .i64 n, .int .i64 at_, .int .u64 (W64 x)] W fun e w' => e = .returned (.bool true) ∧ New W w' := by
  have HN0 := Lib.hid ((New.refl W).alloc (.cells (stc kd q) 25))
  go_enter Tryz.func4, Tryz.ntmps4
  go_wp2_with fail
  refine (awake_37 _).mono ?_
  rintro e w1 ⟨rfl, n1⟩
  have HN1 := Lib.hid (HN0.out.trans n1)
  clear n1 HN0
  by_cases h1 : (100 : Int) < (n0 : Int)
  · go_wp2
    go_ret
    exact ⟨rfl, HN1.out⟩
  · by_cases h2 : n < 0
    · go_wp2
      go_ret
      exact ⟨rfl, HN1.out⟩
    · have h3 : (20 : Int) < n := by omega
      clear hout
      go_wp2
      go_ret
      exact ⟨rfl, HN1.out⟩
theorem TapeCopies_walk (W : World) (a0 : Option Addr) (n0 m0 : Nat) (z0 : List Int) (w0 : IRow .u64 W a0 n0 m0 z0) (r0 : m0 * 8 ≤ 140737488351232) (x1_0 : Int) (b1_0 : -9223372036854775808 ≤ x1_0 ∧ x1_0 ≤ 9223372036854775807) (x1_1 : BitVec 64) (x1_2 : BitVec 64) (x1_3 : BitVec 64) (x1_4 : BitVec 64) (a2 : Int) (w2 : (Lit.int .i64 a2).wf = true) (a3 : Int) (w3 : (Lit.int .i64 a3).wf = true) (a4 : Int) (w4 : (Lit.int .u64 a4).wf = true) :
    Calls Tryz.prog 4 #[.slice a0 n0 m0, .agg #[.int .i64 x1_0, .int .u64 (W64 x1_1), .int .u64 (W64 x1_2), .int .u64 (W64 x1_3), .int .u64 (W64 x1_4)], .int .i64 a2, .int .i64 a3, .int .u64 a4] W fun e w' => e = .returned (.bool true) ∧ Below W.heap.size W w' := by
  obtain ⟨l0, hl0⟩ := w0.words r0
  obtain ⟨x, rfl⟩ := ex64 a4 (by simp [Lit.wf, IntKind.min, IntKind.max, IntKind.signed, IntKind.bits] at w4; omega)
  obtain ⟨q, hq⟩ : ∃ q : W4, q = ⟨x1_1, x1_2, x1_3, x1_4⟩ := ⟨_, rfl⟩
  have hcells : #[Value.int .i64 x1_0, .int .u64 (W64 x1_1), .int .u64 (W64 x1_2), .int .u64 (W64 x1_3), .int .u64 (W64 x1_4)] = stc x1_0 q := by rw [hq]
  rw [hcells]
  clear hcells hq
  by_cases hout : (100 < (n0 : Int)) ∨ a2 < 0 ∨ 20 < a2
  · exact copies_out W a0 n0 m0 x1_0 q a2 a3 x hout
  · obtain ⟨n, rfl⟩ : ∃ n : Nat, a2 = (n : Int) := ⟨a2.toNat, by omega⟩
    by_cases hk : chkK x1_0 q = 0
    · exact copies_ok W a0 n0 m0 l0 hl0 (by omega) x1_0 q hk n (by omega) a3 x
    · exact copies_nil W a0 n0 m0 l0 hl0 (by omega) x1_0 q hk n (by omega) a3 x
end Go.Proofs.YtadcihkpnpemeaaGreat
end
