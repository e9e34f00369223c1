/- Contracts of pcg64: oneStep, on, Step, Out, Next. -/
import Derived.Test.YtfaobdmoifnglaaGreatPkA
import Derived.Test.YtfaobdmoifnglaaGreatRot64
import Derived.Deep.RegionLaw
import Derived.Deep.RegionWith
import Derived.Handy
namespace Go.Bv
open Go Go.RowKit
/-- the two numbers of an effect, in a box -/
def E4 (w : World) (b : Nat) (t : TypeId) (m p : BitVec 128) : Prop := w.heap[b]? = some (.cells #[.int .u64 (W64 (hi128 m)), .int .u64 (W64 (lo128 m)), .int .u64 (W64 (hi128 p)), .int .u64 (W64 (lo128 p))] t (0, 0))
def E4z (w : World) (b : Nat) (t : TypeId) : Prop := w.heap[b]? = some (.cells #[.int .u64 0, .int .u64 0, .int .u64 0, .int .u64 0] t (0, 0))
theorem E4z.stay {w w' : World} {b : Nat} {t : TypeId} (h : E4z w b t) (hn : New w w') : E4z w' b t := (hn.block _ (lt_of_block h)).trans h
theorem E4z.c {w : World} {b : Nat} {t : TypeId} (h : E4z w b t) (i : Nat) (hi : i < 4) : w.cell? ⟨b, i, none⟩ = some (.int .u64 0) := by
  rw [cell_of_row _ _ _ _ _ _ h]
  have hc : i = 0 ∨ i = 1 ∨ i = 2 ∨ i = 3 := by omega
  rcases hc with rfl | rfl | rfl | rfl <;> rfl
theorem E4z.free {w : World} {b : Nat} {t : TypeId} (h : E4z w b t) (i : Nat) : w.frozen? ⟨b, i, none⟩ = false := frozen_of_row _ _ _ _ _ h
theorem E4.stay {w w' : World} {b : Nat} {t : TypeId} {m p : BitVec 128} (h : E4 w b t m p) (hn : New w w') : E4 w' b t m p := (hn.block _ (lt_of_block h)).trans h
theorem E4.c0 {w : World} {b : Nat} {t : TypeId} {m p : BitVec 128} (h : E4 w b t m p) : w.cell? ⟨b, 0, none⟩ = some (.int .u64 (W64 (hi128 m))) := by rw [cell_of_row _ _ _ _ _ _ h]; rfl
theorem E4.c1 {w : World} {b : Nat} {t : TypeId} {m p : BitVec 128} (h : E4 w b t m p) : w.cell? ⟨b, 1, none⟩ = some (.int .u64 (W64 (lo128 m))) := by rw [cell_of_row _ _ _ _ _ _ h]; rfl
theorem E4.c2 {w : World} {b : Nat} {t : TypeId} {m p : BitVec 128} (h : E4 w b t m p) : w.cell? ⟨b, 2, none⟩ = some (.int .u64 (W64 (hi128 p))) := by rw [cell_of_row _ _ _ _ _ _ h]; rfl
theorem E4.c3 {w : World} {b : Nat} {t : TypeId} {m p : BitVec 128} (h : E4 w b t m p) : w.cell? ⟨b, 3, none⟩ = some (.int .u64 (W64 (lo128 p))) := by rw [cell_of_row _ _ _ _ _ _ h]; rfl
theorem E4.free {w : World} {b : Nat} {t : TypeId} {m p : BitVec 128} (h : E4 w b t m p) (i : Nat) : w.frozen? ⟨b, i, none⟩ = false := frozen_of_row _ _ _ _ _ h
/-- an effect stored whole -/
theorem E4.put {w : World} {b : Nat} {t : TypeId} {x y u v : Value} (m p : BitVec 128) (h : w.heap[b]? = some (.cells #[x, y, u, v] t (0, 0))) :
    E4 ((((w.setCell ⟨b, 0, none⟩ (.int .u64 (W64 (hi128 m)))).setCell ⟨b, 1, none⟩ (.int .u64 (W64 (lo128 m)))).setCell ⟨b, 2, none⟩ (.int .u64 (W64 (hi128 p)))).setCell ⟨b, 3, none⟩ (.int .u64 (W64 (lo128 p)))) b t m p := by
  have h1 := heap_setCell_same w b 0 _ t (.int .u64 (W64 (hi128 m))) h
  have h2 := heap_setCell_same _ b 1 _ t (.int .u64 (W64 (lo128 m))) h1
  have h3 := heap_setCell_same _ b 2 _ t (.int .u64 (W64 (hi128 p))) h2
  have h4 := heap_setCell_same _ b 3 _ t (.int .u64 (W64 (lo128 p))) h3
  exact h4
theorem put4_other {w : World} {b k : Nat} (m p : BitVec 128) (hk : k ≠ b) :
    ((((w.setCell ⟨b, 0, none⟩ (.int .u64 (W64 (hi128 m)))).setCell ⟨b, 1, none⟩ (.int .u64 (W64 (lo128 m)))).setCell ⟨b, 2, none⟩ (.int .u64 (W64 (hi128 p)))).setCell ⟨b, 3, none⟩ (.int .u64 (W64 (lo128 p)))).heap[k]? = w.heap[k]? := by
  rw [heap_setCell_other _ _ _ _ hk, heap_setCell_other _ _ _ _ hk, heap_setCell_other _ _ _ _ hk, heap_setCell_other _ _ _ _ hk]
theorem put4_new {W w : World} {b : Nat} (m p : BitVec 128) (hn : New W w) (hb : W.heap.size ≤ b) :
    New W ((((w.setCell ⟨b, 0, none⟩ (.int .u64 (W64 (hi128 m)))).setCell ⟨b, 1, none⟩ (.int .u64 (W64 (lo128 m)))).setCell ⟨b, 2, none⟩ (.int .u64 (W64 (hi128 p)))).setCell ⟨b, 3, none⟩ (.int .u64 (W64 (lo128 p)))) := (((hn.setCell hb _).setCell hb _).setCell hb _).setCell hb _
end Go.Bv
namespace Go.Proofs.YtfaobdmoifnglaaGreat
open Go.RowKit Go.Bv
set_option linter.unusedVariables false
set_option maxRecDepth 100000
set_option maxHeartbeats 1000000 in
theorem one14 (x : BitVec 128) (w : World) : Calls Tryz.prog 123 #[.agg #[.int .u64 (W64 (hi128 x)), .int .u64 (W64 (lo128 x))]] w fun e w' =>
    e = .returned (.agg #[.int .u64 (W64 (hi128 T14)), .int .u64 (W64 (lo128 T14)), .int .u64 (W64 (hi128 (x ||| 1#128))), .int .u64 (W64 (lo128 (x ||| 1#128)))]) ∧ New w w' := by
  obtain ⟨h1, h2, h3⟩ := two_blocks w (.cells #[.int .u64 (W64 (hi128 x)), .int .u64 (W64 (lo128 x))] 74) (.cells #[.int .u64 0, .int .u64 0, .int .u64 0, .int .u64 0] 135)
  have H1 := Lib.hid (B2.stay (show B2 _ _ _ x from h1) (New.refl _).drew)
  have H2 := Lib.hid (E4z.stay (show E4z _ _ _ from h2) (New.refl _).drew)
  have H3 := Lib.hid h3.drew
  clear h1 h2 h3
  go_enter Tryz.func123, Tryz.ntmps123
  go_wp2_with fail
  generalize (w.alloc (.cells #[.int .u64 (W64 (hi128 x)), .int .u64 (W64 (lo128 x))] 74)).alloc (.cells #[.int .u64 0, .int .u64 0, .int .u64 0, .int .u64 0] 135) = w0 at H1 H2 H3 ⊢
  have c0 := H1.out.c0
  have c1 := H1.out.c1
  go_region_law (first
    | (go_simp
       go_at_call 155
       refine (times14 _).mono ?_
       rintro e w1 ⟨rfl, hn1⟩
       have c0 := (H1.out.stay hn1).c0
       have c1 := (H1.out.stay hn1).c1
       have HN1 := Lib.hid hn1
       clear hn1)
    | (go_simp
       go_at_call 118
       refine (odd14 x _).mono ?_
       rintro e w2 ⟨rfl, hn2⟩
       have hn2 := HN1.out.trans hn2
       have k0 := E4z.c (H2.out.stay hn2) 0 (by omega)
       have k1 := E4z.c (H2.out.stay hn2) 1 (by omega)
       have k2 := E4z.c (H2.out.stay hn2) 2 (by omega)
       have k3 := E4z.c (H2.out.stay hn2) 3 (by omega)
       have kf := E4z.free (H2.out.stay hn2)
       have HN2 := Lib.hid (H3.out.trans hn2)
       clear hn2))
  all_goals (
    go_wp2
    refine bodyPost_ret (by simp [results, Tryz.results123, go_sem, k0, k1, k2, k3]; try rfl) rfl ?_
    exact ⟨rfl, put4_new _ _ HN2.out (by omega)⟩)
set_option maxHeartbeats 1000000 in
theorem on14 (m p s : BitVec 128) (b : Nat) (w : World) (h : E4 w b 135 m p) : Calls Tryz.prog 127 #[.pointer (some ⟨b, 0, none⟩), .agg #[.int .u64 (W64 (hi128 s)), .int .u64 (W64 (lo128 s))]] w fun e w' =>
    e = .returned (.agg #[.int .u64 (W64 (hi128 (s * m + p))), .int .u64 (W64 (lo128 (s * m + p)))]) ∧ New w w' := by
  obtain ⟨h1, h2, h3⟩ := two_blocks w (.cells #[.int .u64 (W64 (hi128 s)), .int .u64 (W64 (lo128 s))] 74) (.cells #[.int .u64 0, .int .u64 0] 74)
  have H1 := Lib.hid (B2.stay (show B2 _ _ _ s from h1) (New.refl _).drew)
  have H2 := Lib.hid (Z2.stay (show Z2 _ _ _ from h2) (New.refl _).drew)
  have HE := Lib.hid (h.stay h3.drew)
  have H3 := Lib.hid h3.drew
  clear h1 h2 h3 h
  go_enter Tryz.func127, Tryz.ntmps127
  go_wp2_with fail
  generalize (w.alloc (.cells #[.int .u64 (W64 (hi128 s)), .int .u64 (W64 (lo128 s))] 74)).alloc (.cells #[.int .u64 0, .int .u64 0] 74) = w0 at H1 H2 H3 HE ⊢
  have c0 := H1.out.c0
  have c1 := H1.out.c1
  have e0 := HE.out.c0
  have e1 := HE.out.c1
  have e2 := HE.out.c2
  have e3 := HE.out.c3
  go_region_law (first
    | (go_simp
       go_at_call 156
       refine (wtimes_x s m _).mono ?_
       rintro e w1 ⟨rfl, hn1⟩
       have e2 := (HE.out.stay hn1).c2
       have e3 := (HE.out.stay hn1).c3
       have HN1 := Lib.hid hn1
       clear hn1)
    | (go_simp
       go_at_call 121
       refine (add14 (s * m) p _).mono ?_
       rintro e w2 ⟨rfl, hn2⟩
       have hn2 := HN1.out.trans hn2
       have hz := H2.out.stay hn2
       have k0 := hz.c0
       have k1 := hz.c1
       have kf := hz.free
       have HN2 := Lib.hid (H3.out.trans hn2)
       clear hn2 hz))
  all_goals (
    go_wp2
    refine bodyPost_ret (by simp [results, Tryz.results127, go_sem, k0, k1]; try rfl) rfl ?_
    exact ⟨rfl, put2_new _ HN2.out (by omega)⟩)
set_option maxHeartbeats 1000000 in
theorem step14 (s x : BitVec 128) (w : World) : Calls Tryz.prog 120 #[.agg #[.int .u64 (W64 (hi128 s)), .int .u64 (W64 (lo128 s))], .agg #[.int .u64 (W64 (hi128 x)), .int .u64 (W64 (lo128 x))]] w fun e w' =>
    e = .returned (.agg #[.int .u64 (W64 (hi128 (s * T14 + (x ||| 1#128)))), .int .u64 (W64 (lo128 (s * T14 + (x ||| 1#128))))]) ∧ New w w' := by
  obtain ⟨h1, h2, h3, h4⟩ := three_blocks w (.cells #[.int .u64 (W64 (hi128 s)), .int .u64 (W64 (lo128 s))] 74) (.cells #[.int .u64 (W64 (hi128 x)), .int .u64 (W64 (lo128 x))] 74) (.cells #[.int .u64 0, .int .u64 0] 74)
  have H1 := Lib.hid (show B2 _ _ _ s from h1)
  have H2 := Lib.hid (show B2 _ _ _ x from h2)
  have H3 := Lib.hid (show Z2 _ _ _ from h3)
  have H4 := Lib.hid h4
  clear h1 h2 h3 h4
  go_enter Tryz.func120, Tryz.ntmps120
  go_wp2_with fail
  generalize ((w.alloc (.cells #[.int .u64 (W64 (hi128 s)), .int .u64 (W64 (lo128 s))] 74)).alloc (.cells #[.int .u64 (W64 (hi128 x)), .int .u64 (W64 (lo128 x))] 74)).alloc (.cells #[.int .u64 0, .int .u64 0] 74) = w0 at H1 H2 H3 H4 ⊢
  refine (one14 x _).mono ?_
  rintro e w1 ⟨rfl, hn1⟩
  have he : E4 (w1.alloc (.cells #[.int .u64 (W64 (hi128 T14)), .int .u64 (W64 (lo128 T14)), .int .u64 (W64 (hi128 (x ||| 1#128))), .int .u64 (W64 (lo128 (x ||| 1#128)))] 135)) w1.heap.size 135 T14 (x ||| 1#128) := heap_alloc_new _ _
  have hn2 := hn1.alloc (.cells #[.int .u64 (W64 (hi128 T14)), .int .u64 (W64 (lo128 T14)), .int .u64 (W64 (hi128 (x ||| 1#128))), .int .u64 (W64 (lo128 (x ||| 1#128)))] 135)
  have s0 := (H1.out.stay hn2).c0
  have s1 := (H1.out.stay hn2).c1
  go_wp2_with fail
  refine (on14 T14 (x ||| 1#128) s _ _ he).mono ?_
  rintro e w3 ⟨rfl, hn3⟩
  have hn3 := hn2.trans hn3
  have hz := H3.out.stay hn3
  have k0 := hz.c0
  have k1 := hz.c1
  have kf := hz.free
  have HN3 := Lib.hid (H4.out.trans hn3)
  clear hn2 hn3 hz s0 s1 hn1 he
  go_wp2
  refine bodyPost_ret (by simp [results, Tryz.results120, go_sem, k0, k1]; try rfl) rfl ?_
  exact ⟨rfl, put2_new _ HN3.out (by omega)⟩
end Go.Proofs.YtfaobdmoifnglaaGreat
