/- Contracts of pcg64's join and double: an effect in a box is followed by another one, by itself. -/
import Derived.Test.YtfaobdmoifnglaaPkB
import Derived.Test.YtfaobdmoifnglaaBut
namespace Go.Bv
open Go Go.RowKit
theorem E4.but {w v : World} {b k : Nat} {t : TypeId} {m p : BitVec 128} (h : E4 w k t m p) (hb : But b w v) (hk : k ≠ b) : E4 v k t m p := hb.keep hk h
theorem B2.but {w v : World} {b k : Nat} {t : TypeId} {x : BitVec 128} (h : B2 w k t x) (hb : But b w v) (hk : k ≠ b) : B2 v k t x := hb.keep hk h
theorem put4_but {w : World} {b : Nat} (m p : BitVec 128) : But b w ((((w.setCell ⟨b, 0, none⟩ (.int .u64 (W64 (hi128 m)))).setCell ⟨b, 1, none⟩ (.int .u64 (W64 (lo128 m)))).setCell ⟨b, 2, none⟩ (.int .u64 (W64 (hi128 p)))).setCell ⟨b, 3, none⟩ (.int .u64 (W64 (lo128 p)))) :=
  ((((But.refl b w).setCell rfl _).setCell rfl _).setCell rfl _).setCell rfl _
end Go.Bv
namespace Go.Proofs.Ytfaobdmoifnglaa
open Go.RowKit Go.Bv
set_option linter.unusedVariables false
set_option maxHeartbeats 1000000 in
theorem join14 (m p m2 p2 : BitVec 128) (b : Nat) (w : World) (h : E4 w b 44 m p) : Calls Try.prog 33 #[.pointer (some ⟨b, 0, none⟩), .agg #[.int .u64 (W64 (hi128 m2)), .int .u64 (W64 (lo128 m2)), .int .u64 (W64 (hi128 p2)), .int .u64 (W64 (lo128 p2))]] w fun e w' =>
    e = .returned (.tuple #[]) ∧ E4 w' b 44 (m * m2) (p * m2 + p2) ∧ But b w w' := by
  have hlt := lt_of_block h
  have h1 := heap_alloc_new w (.cells #[.int .u64 (W64 (hi128 m2)), .int .u64 (W64 (lo128 m2)), .int .u64 (W64 (hi128 p2)), .int .u64 (W64 (lo128 p2))] 44)
  have h3 := (New.refl w).alloc (.cells #[.int .u64 (W64 (hi128 m2)), .int .u64 (W64 (lo128 m2)), .int .u64 (W64 (hi128 p2)), .int .u64 (W64 (lo128 p2))] 44)
  have H1 := Lib.hid ((show E4 _ _ _ m2 p2 from h1).stay (New.refl _).drew)
  have HE := Lib.hid (h.stay h3.drew)
  have H3 := Lib.hid h3.drew
  clear h1 h3 h
  go_enter Try.func33, Try.ntmps33
  go_wp2_with fail
  generalize w.alloc (.cells #[.int .u64 (W64 (hi128 m2)), .int .u64 (W64 (lo128 m2)), .int .u64 (W64 (hi128 p2)), .int .u64 (W64 (lo128 p2))] 44) = w0 at H1 H3 HE ⊢
  have c0 := H1.out.c0
  have c1 := H1.out.c1
  have e0 := HE.out.c0
  have e1 := HE.out.c1
  have e2 := HE.out.c2
  have e3 := HE.out.c3
  go_region_law (first
    | (go_simp
       go_at_call 32
       refine (wtimes_x m m2 _).mono ?_
       rintro e w1 ⟨rfl, hn1⟩
       have e2 := (HE.out.stay hn1).c2
       have e3 := (HE.out.stay hn1).c3
       have HN1 := Lib.hid hn1
       clear hn1)
    | (go_simp
       go_at_call 26
       refine (on14 m2 p2 p _ _ (H1.out.stay HN1.out)).mono ?_
       rintro e w2 ⟨rfl, hn2⟩
       have hn2 := HN1.out.trans hn2
       have hz := HE.out.stay hn2
       have k0 := hz.c0
       have k1 := hz.c1
       have k2 := hz.c2
       have k3 := hz.c3
       have kf := hz.free
       have HN2 := Lib.hid hn2
       have HZ := Lib.hid hz
       clear hn2 hz))
  all_goals (
    go_wp2
    go_end0
    exact ⟨rfl, E4.put _ _ HZ.out, ((But.of_new H3.out).then HN2.out).trans (put4_but _ _)⟩)
set_option maxHeartbeats 1000000 in
theorem double14 (m p : BitVec 128) (b : Nat) (w : World) (h : E4 w b 44 m p) : Calls Try.prog 34 #[.pointer (some ⟨b, 0, none⟩)] w fun e w' =>
    e = .returned (.tuple #[]) ∧ E4 w' b 44 (m * m) (p * m + p) ∧ But b w w' := by
  have e0 := h.c0
  have e1 := h.c1
  have e2 := h.c2
  have e3 := h.c3
  have HE := Lib.hid h
  clear h
  go_enter Try.func34, Try.ntmps34
  go_wp2_with fail
  refine (join14 m p m p b w HE.out).mono ?_
  rintro e w1 ⟨rfl, h1, h2⟩
  go_wp2
  go_end0
  exact ⟨rfl, h1, h2⟩
end Go.Proofs.Ytfaobdmoifnglaa
