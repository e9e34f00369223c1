import Derived.Test.YtebcfbcfipmahaaGreatZ3FamM
import Derived.Test.YtebcfbcfipmahaaGreatZ3MxB
import Derived.Test.YtebcfbcfipmahaaGreatZ3ThrI
import Derived.Test.YtebcfbcfipmahaaGreatZ3ThrH
import Derived.Test.YtebcfbcfipmahaaGreatZ3StrG
section
/- Layer 27: what any seed brings any key to, or what is wrong; how many keys it maps evenly: the walk of the statement FamilyEvals. -/
namespace Go.Proofs.YtebcfbcfipmahaaGreat
open Go.RowKit Go.Bv
set_option linter.unusedVariables false
set_option maxRecDepth 100000
set_option maxHeartbeats 2000000 in
theorem rtogether_27 (k b : Int) (a : Option Addr) (n c : Nat) (l : List (BitVec 64)) (w : World) (h : QRow w a n c l) : Calls Tryz.prog 20 #[.agg (sdc k b a n c)] w fun e w' => e = .returned (.int .i64 (if chF k b l = 0 then tgK k n else 0)) ∧ New w w' := by
  generalize hW : w.alloc (.cells (sdc k b a n c) 30) = w0
  have HB : Hid (w0.heap[w.heap.size]? = some (.cells (sdc k b a n c) 30 (0, 0))) := Lib.hid (by rw [← hW]; exact heap_alloc_new w _)
  have HN : Hid (New w w0) := Lib.hid (by rw [← hW]; exact (New.refl w).alloc _)
  have HROW := Lib.hid (h.stay HN.out)
  have HRC := Lib.hid (rcheck_27 k b a n c l w0 HROW.out)
  by_cases hz : chF k b l = 0
  · rw [hz] at HRC
    rw [if_pos hz]
    have hl := h.len_eq
    rcases okF_k (chF_ok rfl hz).1 with rfl | rfl | rfl | rfl | rfl | rfl | rfl | rfl
    · have HV : Hid (tgK 1 n = (n : Int)) := Lib.hid rfl
      have c0 := cell_of_row _ _ 0 _ _ _ HB.out
      have c1 := cell_of_row _ _ 1 _ _ _ HB.out
      have c2 := cell_of_row _ _ 2 _ _ _ HB.out
      go_enter Tryz.func20, Tryz.ntmps20
      go_wp2_with fail
      refine HRC.out.mono ?_
      rintro e w1 ⟨rfl, hn1⟩
      have hb := (hn1.block _ (lt_of_block HB.out)).trans HB.out
      have HN1 := Lib.hid (HN.out.trans hn1)
      clear c0 c1 c2 hn1
      have c0 := cell_of_row _ _ 0 _ _ _ hb
      have c1 := cell_of_row _ _ 1 _ _ _ hb
      have c2 := cell_of_row _ _ 2 _ _ _ hb
      clear hb
      go_wp2
      go_ret
      exact ⟨by rw [HV.out]; rfl, HN1.out⟩
    · have HV : Hid (tgK 2 n = 0) := Lib.hid rfl
      have c0 := cell_of_row _ _ 0 _ _ _ HB.out
      have c1 := cell_of_row _ _ 1 _ _ _ HB.out
      have c2 := cell_of_row _ _ 2 _ _ _ HB.out
      go_enter Tryz.func20, Tryz.ntmps20
      go_wp2_with fail
      refine HRC.out.mono ?_
      rintro e w1 ⟨rfl, hn1⟩
      have hb := (hn1.block _ (lt_of_block HB.out)).trans HB.out
      have HN1 := Lib.hid (HN.out.trans hn1)
      clear c0 c1 c2 hn1
      have c0 := cell_of_row _ _ 0 _ _ _ hb
      have c1 := cell_of_row _ _ 1 _ _ _ hb
      have c2 := cell_of_row _ _ 2 _ _ _ hb
      have hb2 := (((New.refl w1).alloc (.cells #[.int .i64 0, .int .i64 0, .int .i64 2, .int .i64 2, .int .i64 3, .int .i64 3, .int .i64 3, .int .i64 0] 3)).block _ (lt_of_block hb)).trans hb
      have d0 := cell_of_row _ _ 0 _ _ _ hb2
      clear hb hb2
      go_wp2
      go_ret
      exact ⟨by rw [HV.out]; rfl, HN1.out.alloc _⟩
    · have HV : Hid (tgK 3 n = 2) := Lib.hid rfl
      have c0 := cell_of_row _ _ 0 _ _ _ HB.out
      have c1 := cell_of_row _ _ 1 _ _ _ HB.out
      have c2 := cell_of_row _ _ 2 _ _ _ HB.out
      go_enter Tryz.func20, Tryz.ntmps20
      go_wp2_with fail
      refine HRC.out.mono ?_
      rintro e w1 ⟨rfl, hn1⟩
      have hb := (hn1.block _ (lt_of_block HB.out)).trans HB.out
      have HN1 := Lib.hid (HN.out.trans hn1)
      clear c0 c1 c2 hn1
      have c0 := cell_of_row _ _ 0 _ _ _ hb
      have c1 := cell_of_row _ _ 1 _ _ _ hb
      have c2 := cell_of_row _ _ 2 _ _ _ hb
      have hb2 := (((New.refl w1).alloc (.cells #[.int .i64 0, .int .i64 0, .int .i64 2, .int .i64 2, .int .i64 3, .int .i64 3, .int .i64 3, .int .i64 0] 3)).block _ (lt_of_block hb)).trans hb
      have d0 := cell_of_row _ _ 0 _ _ _ hb2
      clear hb hb2
      go_wp2
      go_ret
      exact ⟨by rw [HV.out]; rfl, HN1.out.alloc _⟩
    · have HV : Hid (tgK 4 n = 2) := Lib.hid rfl
      have c0 := cell_of_row _ _ 0 _ _ _ HB.out
      have c1 := cell_of_row _ _ 1 _ _ _ HB.out
      have c2 := cell_of_row _ _ 2 _ _ _ HB.out
      go_enter Tryz.func20, Tryz.ntmps20
      go_wp2_with fail
      refine HRC.out.mono ?_
      rintro e w1 ⟨rfl, hn1⟩
      have hb := (hn1.block _ (lt_of_block HB.out)).trans HB.out
      have HN1 := Lib.hid (HN.out.trans hn1)
      clear c0 c1 c2 hn1
      have c0 := cell_of_row _ _ 0 _ _ _ hb
      have c1 := cell_of_row _ _ 1 _ _ _ hb
      have c2 := cell_of_row _ _ 2 _ _ _ hb
      have hb2 := (((New.refl w1).alloc (.cells #[.int .i64 0, .int .i64 0, .int .i64 2, .int .i64 2, .int .i64 3, .int .i64 3, .int .i64 3, .int .i64 0] 3)).block _ (lt_of_block hb)).trans hb
      have d0 := cell_of_row _ _ 0 _ _ _ hb2
      clear hb hb2
      go_wp2
      go_ret
      exact ⟨by rw [HV.out]; rfl, HN1.out.alloc _⟩
    · have HV : Hid (tgK 5 n = 3) := Lib.hid rfl
      have c0 := cell_of_row _ _ 0 _ _ _ HB.out
      have c1 := cell_of_row _ _ 1 _ _ _ HB.out
      have c2 := cell_of_row _ _ 2 _ _ _ HB.out
      go_enter Tryz.func20, Tryz.ntmps20
      go_wp2_with fail
      refine HRC.out.mono ?_
      rintro e w1 ⟨rfl, hn1⟩
      have hb := (hn1.block _ (lt_of_block HB.out)).trans HB.out
      have HN1 := Lib.hid (HN.out.trans hn1)
      clear c0 c1 c2 hn1
      have c0 := cell_of_row _ _ 0 _ _ _ hb
      have c1 := cell_of_row _ _ 1 _ _ _ hb
      have c2 := cell_of_row _ _ 2 _ _ _ hb
      have hb2 := (((New.refl w1).alloc (.cells #[.int .i64 0, .int .i64 0, .int .i64 2, .int .i64 2, .int .i64 3, .int .i64 3, .int .i64 3, .int .i64 0] 3)).block _ (lt_of_block hb)).trans hb
      have d0 := cell_of_row _ _ 0 _ _ _ hb2
      clear hb hb2
      go_wp2
      go_ret
      exact ⟨by rw [HV.out]; rfl, HN1.out.alloc _⟩
    · have HV : Hid (tgK 6 n = 3) := Lib.hid rfl
      have c0 := cell_of_row _ _ 0 _ _ _ HB.out
      have c1 := cell_of_row _ _ 1 _ _ _ HB.out
      have c2 := cell_of_row _ _ 2 _ _ _ HB.out
      go_enter Tryz.func20, Tryz.ntmps20
      go_wp2_with fail
      refine HRC.out.mono ?_
      rintro e w1 ⟨rfl, hn1⟩
      have hb := (hn1.block _ (lt_of_block HB.out)).trans HB.out
      have HN1 := Lib.hid (HN.out.trans hn1)
      clear c0 c1 c2 hn1
      have c0 := cell_of_row _ _ 0 _ _ _ hb
      have c1 := cell_of_row _ _ 1 _ _ _ hb
      have c2 := cell_of_row _ _ 2 _ _ _ hb
      have hb2 := (((New.refl w1).alloc (.cells #[.int .i64 0, .int .i64 0, .int .i64 2, .int .i64 2, .int .i64 3, .int .i64 3, .int .i64 3, .int .i64 0] 3)).block _ (lt_of_block hb)).trans hb
      have d0 := cell_of_row _ _ 0 _ _ _ hb2
      clear hb hb2
      go_wp2
      go_ret
      exact ⟨by rw [HV.out]; rfl, HN1.out.alloc _⟩
    · have HV : Hid (tgK 7 n = 3) := Lib.hid rfl
      have c0 := cell_of_row _ _ 0 _ _ _ HB.out
      have c1 := cell_of_row _ _ 1 _ _ _ HB.out
      have c2 := cell_of_row _ _ 2 _ _ _ HB.out
      go_enter Tryz.func20, Tryz.ntmps20
      go_wp2_with fail
      refine HRC.out.mono ?_
      rintro e w1 ⟨rfl, hn1⟩
      have hb := (hn1.block _ (lt_of_block HB.out)).trans HB.out
      have HN1 := Lib.hid (HN.out.trans hn1)
      clear c0 c1 c2 hn1
      have c0 := cell_of_row _ _ 0 _ _ _ hb
      have c1 := cell_of_row _ _ 1 _ _ _ hb
      have c2 := cell_of_row _ _ 2 _ _ _ hb
      have hb2 := (((New.refl w1).alloc (.cells #[.int .i64 0, .int .i64 0, .int .i64 2, .int .i64 2, .int .i64 3, .int .i64 3, .int .i64 3, .int .i64 0] 3)).block _ (lt_of_block hb)).trans hb
      have d0 := cell_of_row _ _ 0 _ _ _ hb2
      clear hb hb2
      go_wp2
      go_ret
      exact ⟨by rw [HV.out]; rfl, HN1.out.alloc _⟩
    · have HV : Hid (tgK 8 n = 0) := Lib.hid rfl
      have c0 := cell_of_row _ _ 0 _ _ _ HB.out
      have c1 := cell_of_row _ _ 1 _ _ _ HB.out
      have c2 := cell_of_row _ _ 2 _ _ _ HB.out
      go_enter Tryz.func20, Tryz.ntmps20
      go_wp2_with fail
      refine HRC.out.mono ?_
      rintro e w1 ⟨rfl, hn1⟩
      have hb := (hn1.block _ (lt_of_block HB.out)).trans HB.out
      have HN1 := Lib.hid (HN.out.trans hn1)
      clear c0 c1 c2 hn1
      have c0 := cell_of_row _ _ 0 _ _ _ hb
      have c1 := cell_of_row _ _ 1 _ _ _ hb
      have c2 := cell_of_row _ _ 2 _ _ _ hb
      have hb2 := (((New.refl w1).alloc (.cells #[.int .i64 0, .int .i64 0, .int .i64 2, .int .i64 2, .int .i64 3, .int .i64 3, .int .i64 3, .int .i64 0] 3)).block _ (lt_of_block hb)).trans hb
      have d0 := cell_of_row _ _ 0 _ _ _ hb2
      clear hb hb2
      go_wp2
      go_ret
      exact ⟨by rw [HV.out]; rfl, HN1.out.alloc _⟩
  · rw [if_neg hz]
    have hzb : (chF k b l != 0) = true := by rw [bne_iff_ne]; exact hz
    clear hz
    have c0 := cell_of_row _ _ 0 _ _ _ HB.out
    have c1 := cell_of_row _ _ 1 _ _ _ HB.out
    have c2 := cell_of_row _ _ 2 _ _ _ HB.out
    go_enter Tryz.func20, Tryz.ntmps20
    go_wp2_with fail
    refine HRC.out.mono ?_
    rintro e w1 ⟨rfl, hn1⟩
    have HN1 := Lib.hid (HN.out.trans hn1)
    clear c0 c1 c2 hn1
    go_wp2
    go_ret
    exact ⟨rfl, HN1.out⟩
end Go.Proofs.YtebcfbcfipmahaaGreat
end
section
/- Layer 27: what the kinds' shift functions hand back: coefficients and tables. -/
namespace Go.Proofs.YtebcfbcfipmahaaGreat
open Go Go.RowKit Go.Bv Go.Tab
set_option linter.unusedVariables false
set_option maxRecDepth 100000
/-- words and an error's number -/
def SHR (w w' : World) (n : Nat) (e : Ending) (E : Int) (l' : List (BitVec 64)) : Prop :=
  ((E ≠ 0 ∧ e = .returned (.tuple #[.slice none 0 0, .int .i64 E])) ∨ (E = 0 ∧ ∃ a' c', e = .returned (.tuple #[.slice a' n c', .int .i64 0]) ∧ QRow w' a' n c' l')) ∧ New w w'
theorem thr_shr (a : Option Addr) (n c : Nat) (l : List (BitVec 64)) (x : Option Addr) (nx cx : Nat) (xl : List (BitVec 64)) (y : Option Addr) (ny cy : Nat) (yl : List (BitVec 64)) (w : World) (h : QRow w a n c l) (hx : QRow w x nx cx xl) (hy : QRow w y ny cy yl) :
    Calls Tryz.prog 76 #[.slice a n c, .slice x nx cx, .slice y ny cy] w fun e w' => SHR w w' n e (shE l xl yl) (sh l xl yl) := by
  by_cases h0 : shE l xl yl = 0
  · refine (sh_ok a x y n c nx cx ny cy l xl yl w h hx hy h0).mono ?_
    rintro e w' ⟨a', c', rfl, hr, hn⟩
    exact ⟨.inr ⟨h0, a', c', rfl, hr⟩, hn⟩
  · refine (sh_no a x y n c nx cx ny cy l xl yl w h hx hy h0).mono ?_
    rintro e w' ⟨rfl, hn⟩
    exact ⟨.inl ⟨h0, rfl⟩, hn⟩
theorem own_shr {w w' : World} {v : Value} {n : Nat} {l : List (BitVec 64)} {E : Int} (hE : E = 0) (hn : n ≤ 17592186044416) (h : w'.ownsRow w.heap.size 31 1 v n (l.map fun x => .int .u64 (W64 x))) (hw : New w w') : SHR w w' n (.returned (.tuple #[v, .int .i64 0])) E l := by
  obtain ⟨a', c', rfl, hr⟩ := QRow.of_owns h hn
  exact ⟨.inr ⟨hE, a', c', rfl, hr⟩, hw⟩
theorem tab_shr (a : Option Addr) (n c : Nat) (l : List (BitVec 64)) (b : Int) (x : Option Addr) (nx cx : Nat) (xl : List (BitVec 64)) (y : Option Addr) (ny cy : Nat) (yl : List (BitVec 64)) (w : World) (h : QRow w a n c l) (hx : QRow w x nx cx xl) (hy : QRow w y ny cy yl) :
    Calls Tryz.prog 49 #[.slice a n c, .int .i64 b, .slice x nx cx, .slice y ny cy] w fun e w' => SHR w w' n e (csE b l.length 128 xl yl) (shL l b xl yl) := by
  by_cases h0 : csE b l.length 128 xl yl = 0
  · have hg := good_of h0
    have hl : yl.length = xl.length := (tg_zero hg.tg).2.2.1
    obtain rfl : ny = nx := by rw [← hx.len_eq, ← hy.len_eq, hl]
    have hn : n ≤ 17592186044416 := by have := hg.len; rw [h.len_eq] at this; omega
    refine (shift_ok a n c l b x ny cx xl y cy yl w h hx hy h0).mono ?_
    rintro e w' ⟨v, rfl, ho, hw⟩
    exact own_shr h0 hn ho hw
  · refine (shift_no a n c l b x nx cx xl y ny cy yl w h hx hy h0).mono ?_
    rintro e w' ⟨rfl, hn⟩
    exact ⟨.inl ⟨h0, rfl⟩, hn⟩
theorem twi_shr (a : Option Addr) (n c : Nat) (l : List (BitVec 64)) (b : Int) (x : Option Addr) (nx cx : Nat) (xl : List (BitVec 64)) (y : Option Addr) (ny cy : Nat) (yl : List (BitVec 64)) (w : World) (h : QRow w a n c l) (hx : QRow w x nx cx xl) (hy : QRow w y ny cy yl) :
    Calls Tryz.prog 51 #[.slice a n c, .int .i64 b, .slice x nx cx, .slice y ny cy] w fun e w' => SHR w w' n e (csN b l.length 240 xl yl) (twL l b xl yl) := by
  by_cases h0 : csN b l.length 240 xl yl = 0
  · have hg := goodT_of h0
    have hl : yl.length = xl.length := (tg_zero hg.tg).2.2.1
    obtain rfl : ny = nx := by rw [← hx.len_eq, ← hy.len_eq, hl]
    obtain rfl : n = 240 := by rw [← h.len_eq]; exact hg.len
    refine (tshift_ok a c l b x ny cx xl y cy yl w h hx hy h0).mono ?_
    rintro e w' ⟨v, rfl, ho, hw⟩
    exact own_shr h0 (by omega) ho hw
  · refine (tshift_no a n c l b x nx cx xl y ny cy yl w h hx hy h0).mono ?_
    rintro e w' ⟨rfl, hn⟩
    exact ⟨.inl ⟨h0, rfl⟩, hn⟩
theorem mix_shr (a : Option Addr) (n c : Nat) (l : List (BitVec 64)) (b : Int) (x : Option Addr) (nx cx : Nat) (xl : List (BitVec 64)) (y : Option Addr) (ny cy : Nat) (yl : List (BitVec 64)) (w : World) (h : QRow w a n c l) (hx : QRow w x nx cx xl) (hy : QRow w y ny cy yl) :
    Calls Tryz.prog 53 #[.slice a n c, .int .i64 b, .slice x nx cx, .slice y ny cy] w fun e w' => SHR w w' n e (csN b l.length 320 xl yl) (miL l b xl yl) := by
  by_cases h0 : csN b l.length 320 xl yl = 0
  · have hg := goodM_of h0
    have hl : yl.length = xl.length := (tg_zero hg.tg).2.2.1
    obtain rfl : ny = nx := by rw [← hx.len_eq, ← hy.len_eq, hl]
    obtain rfl : n = 320 := by rw [← h.len_eq]; exact hg.len
    refine (mshift_ok a c l b x ny cx xl y cy yl w h hx hy h0).mono ?_
    rintro e w' ⟨v, rfl, ho, hw⟩
    exact own_shr h0 (by omega) ho hw
  · refine (mshift_no a n c l b x nx cx xl y ny cy yl w h hx hy h0).mono ?_
    rintro e w' ⟨rfl, hn⟩
    exact ⟨.inl ⟨h0, rfl⟩, hn⟩
theorem shp_poly (b : Int) (a : Option Addr) (n c : Nat) (l : List (BitVec 64)) (x : Option Addr) (nx cx : Nat) (xl : List (BitVec 64)) (y : Option Addr) (ny cy : Nat) (yl : List (BitVec 64)) (w : World) (h : QRow w a n c l) (hx : QRow w x nx cx xl) (hy : QRow w y ny cy yl) :
    Calls Tryz.prog 75 #[.agg (sdc 1 b a n c), .slice x nx cx, .slice y ny cy] w fun e w' => SHR w w' n e (shE l xl yl) (sh l xl yl) := by
  generalize hW : w.alloc (.cells (sdc 1 b a n c) 30) = w0
  have HB : Hid (w0.heap[w.heap.size]? = some (.cells (sdc 1 b a n c) 30 (0, 0))) := Lib.hid (by rw [← hW]; exact heap_alloc_new w _)
  have HN : Hid (New w w0) := Lib.hid (by rw [← hW]; exact (New.refl w).alloc _)
  have HM := Lib.hid (thr_shr a n c l x nx cx xl y ny cy yl w0 (h.stay HN.out) (hx.stay HN.out) (hy.stay HN.out))
  clear h hx hy
  generalize shE l xl yl = EE at *
  generalize sh l xl yl = LL at *
  have c1 := cell_of_row _ _ 1 _ _ _ HB.out
  have c2 := cell_of_row _ _ 2 _ _ _ HB.out
  go_enter Tryz.func75, Tryz.ntmps75
  go_wp2_with fail
  refine HM.out.mono ?_
  rintro e w1 ⟨hr, hn1⟩
  have HN1 := Lib.hid (HN.out.trans hn1)
  clear c1 c2 hn1 HM
  rcases hr with ⟨h0, rfl⟩ | ⟨h0, a', c', rfl, hr⟩
  · have H0 := Lib.hid h0
    clear h0
    go_wp2
    go_ret2
    exact ⟨.inl ⟨H0.out, rfl⟩, HN1.out⟩
  · have H0 := Lib.hid h0
    have HR := Lib.hid hr
    clear h0 hr
    go_wp2
    go_ret2
    exact ⟨.inr ⟨H0.out, a', c', rfl, HR.out⟩, HN1.out⟩
theorem shp_tab5 (b : Int) (a : Option Addr) (n c : Nat) (l : List (BitVec 64)) (x : Option Addr) (nx cx : Nat) (xl : List (BitVec 64)) (y : Option Addr) (ny cy : Nat) (yl : List (BitVec 64)) (q : Nat) (w : World) (h : QRow w a n c l) (hx : QRow w x nx cx xl) (hy : QRow w y ny cy yl) (hq : w.heap[q]? = some (.cells #[.func (Fn.func (shFm 5)) #[] #[]] 102 (0, 0))) :
    Calls Tryz.prog 89 #[.agg (sdc 5 b a n c), .slice x nx cx, .slice y ny cy, .pointer (some ⟨q, 0, none⟩)] w fun e w' => SHR w w' n e (csE b l.length 128 xl yl) (shL l b xl yl) := by
  generalize hW : w.alloc (.cells (sdc 5 b a n c) 30) = w0
  have HB : Hid (w0.heap[w.heap.size]? = some (.cells (sdc 5 b a n c) 30 (0, 0))) := Lib.hid (by rw [← hW]; exact heap_alloc_new w _)
  have HN : Hid (New w w0) := Lib.hid (by rw [← hW]; exact (New.refl w).alloc _)
  have HM := Lib.hid (tab_shr a n c l b x nx cx xl y ny cy yl w0 (h.stay HN.out) (hx.stay HN.out) (hy.stay HN.out))
  have hq2 : w0.heap[q]? = some (.cells #[.func (Fn.func 49) #[] #[]] 102 (0, 0)) := (HN.out.block _ (lt_of_block hq)).trans hq
  have z0 := cell_of_row _ _ 0 _ _ _ hq2
  clear hq hq2
  clear h hx hy
  generalize csE b l.length 128 xl yl = EE at *
  generalize shL l b xl yl = LL at *
  have c1 := cell_of_row _ _ 1 _ _ _ HB.out
  have c2 := cell_of_row _ _ 2 _ _ _ HB.out
  go_enter Tryz.func89, Tryz.ntmps89
  go_wp2_with fail
  refine HM.out.mono ?_
  rintro e w1 ⟨hr, hn1⟩
  have HN1 := Lib.hid (HN.out.trans hn1)
  clear c1 c2 hn1 HM z0
  rcases hr with ⟨h0, rfl⟩ | ⟨h0, a', c', rfl, hr⟩
  · have H0 := Lib.hid h0
    clear h0
    go_wp2
    go_ret2
    exact ⟨.inl ⟨H0.out, rfl⟩, HN1.out⟩
  · have H0 := Lib.hid h0
    have HR := Lib.hid hr
    clear h0 hr
    go_wp2
    go_ret2
    exact ⟨.inr ⟨H0.out, a', c', rfl, HR.out⟩, HN1.out⟩
theorem shp_tab6 (b : Int) (a : Option Addr) (n c : Nat) (l : List (BitVec 64)) (x : Option Addr) (nx cx : Nat) (xl : List (BitVec 64)) (y : Option Addr) (ny cy : Nat) (yl : List (BitVec 64)) (q : Nat) (w : World) (h : QRow w a n c l) (hx : QRow w x nx cx xl) (hy : QRow w y ny cy yl) (hq : w.heap[q]? = some (.cells #[.func (Fn.func (shFm 6)) #[] #[]] 102 (0, 0))) :
    Calls Tryz.prog 89 #[.agg (sdc 6 b a n c), .slice x nx cx, .slice y ny cy, .pointer (some ⟨q, 0, none⟩)] w fun e w' => SHR w w' n e (csN b l.length 240 xl yl) (twL l b xl yl) := by
  generalize hW : w.alloc (.cells (sdc 6 b a n c) 30) = w0
  have HB : Hid (w0.heap[w.heap.size]? = some (.cells (sdc 6 b a n c) 30 (0, 0))) := Lib.hid (by rw [← hW]; exact heap_alloc_new w _)
  have HN : Hid (New w w0) := Lib.hid (by rw [← hW]; exact (New.refl w).alloc _)
  have HM := Lib.hid (twi_shr a n c l b x nx cx xl y ny cy yl w0 (h.stay HN.out) (hx.stay HN.out) (hy.stay HN.out))
  have hq2 : w0.heap[q]? = some (.cells #[.func (Fn.func 51) #[] #[]] 102 (0, 0)) := (HN.out.block _ (lt_of_block hq)).trans hq
  have z0 := cell_of_row _ _ 0 _ _ _ hq2
  clear hq hq2
  clear h hx hy
  generalize csN b l.length 240 xl yl = EE at *
  generalize twL l b xl yl = LL at *
  have c1 := cell_of_row _ _ 1 _ _ _ HB.out
  have c2 := cell_of_row _ _ 2 _ _ _ HB.out
  go_enter Tryz.func89, Tryz.ntmps89
  go_wp2_with fail
  refine HM.out.mono ?_
  rintro e w1 ⟨hr, hn1⟩
  have HN1 := Lib.hid (HN.out.trans hn1)
  clear c1 c2 hn1 HM z0
  rcases hr with ⟨h0, rfl⟩ | ⟨h0, a', c', rfl, hr⟩
  · have H0 := Lib.hid h0
    clear h0
    go_wp2
    go_ret2
    exact ⟨.inl ⟨H0.out, rfl⟩, HN1.out⟩
  · have H0 := Lib.hid h0
    have HR := Lib.hid hr
    clear h0 hr
    go_wp2
    go_ret2
    exact ⟨.inr ⟨H0.out, a', c', rfl, HR.out⟩, HN1.out⟩
theorem shp_tab7 (b : Int) (a : Option Addr) (n c : Nat) (l : List (BitVec 64)) (x : Option Addr) (nx cx : Nat) (xl : List (BitVec 64)) (y : Option Addr) (ny cy : Nat) (yl : List (BitVec 64)) (q : Nat) (w : World) (h : QRow w a n c l) (hx : QRow w x nx cx xl) (hy : QRow w y ny cy yl) (hq : w.heap[q]? = some (.cells #[.func (Fn.func (shFm 7)) #[] #[]] 102 (0, 0))) :
    Calls Tryz.prog 89 #[.agg (sdc 7 b a n c), .slice x nx cx, .slice y ny cy, .pointer (some ⟨q, 0, none⟩)] w fun e w' => SHR w w' n e (csN b l.length 320 xl yl) (miL l b xl yl) := by
  generalize hW : w.alloc (.cells (sdc 7 b a n c) 30) = w0
  have HB : Hid (w0.heap[w.heap.size]? = some (.cells (sdc 7 b a n c) 30 (0, 0))) := Lib.hid (by rw [← hW]; exact heap_alloc_new w _)
  have HN : Hid (New w w0) := Lib.hid (by rw [← hW]; exact (New.refl w).alloc _)
  have HM := Lib.hid (mix_shr a n c l b x nx cx xl y ny cy yl w0 (h.stay HN.out) (hx.stay HN.out) (hy.stay HN.out))
  have hq2 : w0.heap[q]? = some (.cells #[.func (Fn.func 53) #[] #[]] 102 (0, 0)) := (HN.out.block _ (lt_of_block hq)).trans hq
  have z0 := cell_of_row _ _ 0 _ _ _ hq2
  clear hq hq2
  clear h hx hy
  generalize csN b l.length 320 xl yl = EE at *
  generalize miL l b xl yl = LL at *
  have c1 := cell_of_row _ _ 1 _ _ _ HB.out
  have c2 := cell_of_row _ _ 2 _ _ _ HB.out
  go_enter Tryz.func89, Tryz.ntmps89
  go_wp2_with fail
  refine HM.out.mono ?_
  rintro e w1 ⟨hr, hn1⟩
  have HN1 := Lib.hid (HN.out.trans hn1)
  clear c1 c2 hn1 HM z0
  rcases hr with ⟨h0, rfl⟩ | ⟨h0, a', c', rfl, hr⟩
  · have H0 := Lib.hid h0
    clear h0
    go_wp2
    go_ret2
    exact ⟨.inl ⟨H0.out, rfl⟩, HN1.out⟩
  · have H0 := Lib.hid h0
    have HR := Lib.hid hr
    clear h0 hr
    go_wp2
    go_ret2
    exact ⟨.inr ⟨H0.out, a', c', rfl, HR.out⟩, HN1.out⟩
end Go.Proofs.YtebcfbcfipmahaaGreat
end
