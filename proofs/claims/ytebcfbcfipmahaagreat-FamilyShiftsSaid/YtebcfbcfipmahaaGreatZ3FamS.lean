import Derived.Test.YtebcfbcfipmahaaGreatZ3FamR
/- Layer 27: what the kinds' shift functions hand back, in one form; there and back. -/
namespace Go.Proofs.YtebcfbcfipmahaaGreat
open Go Go.RowKit Go.Bv Go.Tab
set_option linter.unusedVariables false
set_option maxRecDepth 100000
/-- what a kind's shift function hands back -/
structure ShC (k b : Int) (l xl yl : List (BitVec 64)) (E : Int) (L : List (BitVec 64)) : Prop where
  poly : k = 1 → ∀ (w : World) (g off n c px ox nx cx py oy ny cy : Nat) (h : QRow w (some ⟨g, off, none⟩) n c l) (hx : QRow w (some ⟨px, ox, none⟩) nx cx xl) (hy : QRow w (some ⟨py, oy, none⟩) ny cy yl), Calls Tryz.prog 75 #[.agg (sdc k b (some ⟨g, off, none⟩) n c), .slice (some ⟨px, ox, none⟩) nx cx, .slice (some ⟨py, oy, none⟩) ny cy] w fun e w' => SHR w w' n e E L
  sum : k = 3 ∨ k = 4 → ∀ (w : World) (g off n c px ox nx cx py oy ny cy : Nat) (bq b9 : Nat) (h : QRow w (some ⟨g, off, none⟩) n c l) (hx : QRow w (some ⟨px, ox, none⟩) nx cx xl) (hy : QRow w (some ⟨py, oy, none⟩) ny cy yl) (h9 : w.heap[b9]? = some (.cells #[.string (nmF k), .int .i64 (lsF k), .int .i64 (msF k), .int .i64 (lbF k), .int .i64 (mbF k), .int .i64 (kyF k), (.func (Fn.func 82) #[] #[]), (.func (Fn.func 124) #[] #[.pointer (some ⟨bq, 0, none⟩)]), (.func (Fn.func 83) #[] #[]), (.func (Fn.func 86) #[] #[.pointer (some ⟨b9, 0, none⟩)])] 52 (0, 0))), Calls Tryz.prog 86 #[.agg (sdc k b (some ⟨g, off, none⟩) n c), .slice (some ⟨px, ox, none⟩) nx cx, .slice (some ⟨py, oy, none⟩) ny cy, .pointer (some ⟨b9, 0, none⟩)] w fun e w' => SHR w w' n e E L
  tab : k = 5 ∨ k = 6 ∨ k = 7 → ∀ (w : World) (g off n c px ox nx cx py oy ny cy : Nat) (q : Nat) (h : QRow w (some ⟨g, off, none⟩) n c l) (hx : QRow w (some ⟨px, ox, none⟩) nx cx xl) (hy : QRow w (some ⟨py, oy, none⟩) ny cy yl) (hq : w.heap[q]? = some (.cells #[.func (Fn.func (shFm k)) #[] #[]] 102 (0, 0))), Calls Tryz.prog 89 #[.agg (sdc k b (some ⟨g, off, none⟩) n c), .slice (some ⟨px, ox, none⟩) nx cx, .slice (some ⟨py, oy, none⟩) ny cy, .pointer (some ⟨q, 0, none⟩)] w fun e w' => SHR w w' n e E L
/-- the seed L, as it came of l: it brings the keys to their targets, and it shifts back to l -/
structure ShB (k b : Int) (l xl yl L : List (BitVec 64)) : Prop where
  len : L.length = l.length
  ch : chF k b L = 0
  there : ∀ i, i < xl.length → vF k b L (xl.getD i 0) = yl.getD i 0
  back : ∀ was : List (BitVec 64), was.length = xl.length → (∀ i, i < xl.length → was.getD i 0 = vF k b l (xl.getD i 0)) → ShC k b L xl was 0 l
theorem list_same {p q : List (BitVec 64)} (h : p.length = q.length) (hh : ∀ i, i < q.length → p.getD i 0 = q.getD i 0) : p = q := by
  refine List.ext_getElem h (fun i h1 h2 => ?_)
  have := hh i h2
  rw [List.getD_eq_getElem?_getD, List.getD_eq_getElem?_getD, List.getElem?_eq_getElem h1, List.getElem?_eq_getElem h2] at this
  exact this
theorem AmL.len {k b : Int} {l xl yl : List (BitVec 64)} (h : AmL k b l xl yl) : 1 ≤ xl.length ∧ (xl.length : Int) ≤ tgK k l.length ∧ xl.length = yl.length := by
  have := h.ln
  omega
/-- nothing wrong with keys and targets -/
theorem AmL.fine {k b : Int} {l xl yl : List (BitVec 64)} (h : AmL k b l xl yl) (h0 : amE k b l xl yl = 0) : (∀ j, j < xl.length → keyK k (xl.getD j 0) = true ∧ tarK k b (yl.getD j 0) = true) ∧ ∀ j, j < xl.length → same2 xl j = false := by
  rw [h.is] at h0
  cases e2 : (List.range xl.length).any (bad27 k b xl yl) with
  | true => rw [e2, if_pos rfl] at h0; exact absurd h0 (by decide)
  | false =>
    rw [e2, if_neg (by decide)] at h0
    cases e3 : (List.range xl.length).any (same2 xl) with
    | true => rw [e3, if_pos rfl] at h0; exact absurd h0 (by decide)
    | false =>
      refine ⟨fun j hj => ?_, fun j hj => ?_⟩
      · have := List.any_eq_false.1 e2 j (List.mem_range.2 hj)
        unfold bad27 at this
        cases hk : keyK k (xl.getD j 0) <;> cases ht : tarK k b (yl.getD j 0) <;> rw [hk, ht] at this <;> simp at this
        exact ⟨rfl, rfl⟩
      · have := List.any_eq_false.1 e3 j (List.mem_range.2 hj)
        cases hs : same2 xl j with
        | false => rfl
        | true => exact absurd hs this
theorem ch_same {k b : Int} {l L : List (BitVec 64)} (hl : L.length = l.length) (h : chF k b l = 0) (hs : chS k b L = 0) : chF k b L = 0 := by
  obtain ⟨h0, h1, h2, h3, h4, _⟩ := chF_ok rfl h
  unfold chF
  rw [h0, if_neg (by decide), hl, if_neg (by omega), if_neg (by omega)]
  exact hs
/-! coefficients -/
theorem poly_blw {xl yl : List (BitVec 64)} (hl : xl.length = yl.length) (b : Int) : (blw xl && blw yl) = !((List.range xl.length).any (bad27 1 b xl yl)) := by
  rw [Bool.eq_iff_iff]
  have eb : ∀ i, bad27 1 b xl yl i = (!(decide ((xl.getD i 0).toNat < PP)) || !(decide ((yl.getD i 0).toNat < PP))) := fun i => rfl
  simp only [blw, eb, Bool.and_eq_true, decide_eq_true_iff, Bool.not_eq_true', List.any_eq_false, List.mem_range]
  constructor
  · rintro ⟨h1, h2⟩ i hi
    rw [decide_eq_true (h1 i hi), decide_eq_true (h2 i (by omega))]
    exact Bool.false_ne_true
  · intro h
    refine ⟨fun j hj => ?_, fun j hj => ?_⟩
    · have := h j hj
      refine Decidable.byContradiction fun hn => this ?_
      rw [decide_eq_false hn]; rfl
    · have := h j (by omega)
      refine Decidable.byContradiction fun hn => this ?_
      rw [decide_eq_false hn]
      cases decide ((xl.getD j 0).toNat < PP) <;> rfl
theorem unl_same (xl : List (BitVec 64)) : unl xl ↔ (List.range xl.length).any (same2 xl) = false := by
  rw [List.any_eq_false]
  constructor
  · intro h i hi
    rw [same2_no (h i (List.mem_range.1 hi))]
    decide
  · intro h i hi k hk he
    have := h i (List.mem_range.2 hi)
    apply this
    unfold same2
    exact List.any_eq_true.2 ⟨k, List.mem_range.2 hk, by rw [he]; exact beq_self_eq_true _⟩
theorem poly_am {b : Int} {l xl yl : List (BitVec 64)} (h : AmL 1 b l xl yl) : shE l xl yl = amE 1 b l xl yl := by
  obtain ⟨n1, n2, n3⟩ := h.len
  have hc := chF_poly h.ch
  obtain ⟨c1, c2, _⟩ := chkC_parts hc
  have ht : tgK 1 l.length = (l.length : Int) := rfl
  rw [ht] at n2
  have hT : chkT xl yl = amE 1 b l xl yl := by
    unfold chkT
    rw [if_neg (by omega), h.is, poly_blw n3 b]
    cases e2 : (List.range xl.length).any (bad27 1 b xl yl) with
    | true => rfl
    | false =>
      rw [if_pos (by decide : (!false) = true), if_neg (by decide : ¬ (false = true))]
      cases e3 : (List.range xl.length).any (same2 xl) with
      | true => rw [if_neg (fun hu => by rw [(unl_same xl).1 hu] at e3; cases e3), if_pos rfl]
      | false => rw [if_pos ((unl_same xl).2 e3), if_neg (by decide)]
  unfold shE
  rw [if_neg (not_not_intro hc), hT]
  by_cases h0 : amE 1 b l xl yl = 0
  · rw [if_neg (not_not_intro h0), if_neg (by omega), h0]
  · rw [if_pos h0]
theorem ev_in {b : Int} {l : List (BitVec 64)} {x : BitVec 64} (hc : chkC l = 0) (hx : x.toNat < PP) : vF 1 b l x = mp (nv l x) := by
  have e : evC l x = 0 := by unfold evC; rw [if_neg (not_not_intro hc), if_neg (by omega)]
  show evP l x = _
  unfold evP
  rw [if_pos e]
theorem vals_at (l xl : List (BitVec 64)) (i : Nat) (hi : i < xl.length) : (vals l xl).getD i 0 = mp (nv l (xl.getD i 0)) := by
  unfold vals
  rw [List.getD_eq_getElem?_getD, List.getD_eq_getElem?_getD, List.getElem?_map, List.getElem?_eq_getElem hi]
  rfl
theorem shc_poly (b : Int) {l xl yl : List (BitVec 64)} : ShC 1 b l xl yl (shE l xl yl) (sh l xl yl) :=
  ⟨fun _ w g off n c px ox nx cx py oy ny cy h hx hy => shp_poly b _ n c l _ nx cx xl _ ny cy yl w h hx hy, fun hk => absurd hk (by decide), fun hk => absurd hk (by decide)⟩
theorem shb_poly {b : Int} {l xl yl : List (BitVec 64)} (h : AmL 1 b l xl yl) (h0 : amE 1 b l xl yl = 0) : ShB 1 b l xl yl (sh l xl yl) := by
  have hs : shE l xl yl = 0 := by rw [poly_am h]; exact h0
  obtain ⟨p1, p2, p3⟩ := shE_parts hs
  obtain ⟨q1, _⟩ := shE_parts (sh_again hs)
  have hk := (h.fine h0).1
  have hx : ∀ i, i < xl.length → (xl.getD i 0).toNat < PP := fun i hi => by
    have := (hk i hi).1
    exact of_decide_eq_true this
  refine ⟨sh_len _ _ _, ch_same (sh_len _ _ _) h.ch q1, fun i hi => ?_, fun was h1 h2 => ?_⟩
  · rw [ev_in q1 (hx i hi), ← vals_at _ _ _ hi, sh_points hs]
  · have hw : was = vals l xl := list_same (by unfold vals; rw [List.length_map, h1]) (fun i hi => by
      have hi' : i < xl.length := by unfold vals at hi; rw [List.length_map] at hi; exact hi
      rw [h2 i hi', ev_in p1 (hx i hi'), vals_at _ _ _ hi'])
    have := shc_poly b (l := sh l xl yl) (xl := xl) (yl := was)
    rw [hw, sh_again hs, sh_back hs] at this
    rw [hw]; exact this
/-! tables -/
theorem bad_tab {k : Int} (hk : k = 5 ∨ k = 6 ∨ k = 7) (b : Int) (xl yl : List (BitVec 64)) (i : Nat) : bad27 k b xl yl i = bad2 b.toNat xl yl i := by
  unfold bad27 bad2
  rw [Go.Tab.shr_natT (xl.getD i 0) 32]
  rcases hk with rfl | rfl | rfl
  · rfl
  · rfl
  · rfl
theorem tab_am {k b : Int} (hk : k = 5 ∨ k = 6 ∨ k = 7) {l xl yl : List (BitVec 64)} (h : AmL k b l xl yl) : tgE b.toNat xl yl = amE k b l xl yl := by
  obtain ⟨n1, n2, n3⟩ := h.len
  have ht : tgK k l.length = 3 := by rcases hk with rfl | rfl | rfl <;> rfl
  rw [ht] at n2
  unfold tgE
  rw [if_neg (by omega), h.is, show bad27 k b xl yl = bad2 b.toNat xl yl from funext (bad_tab hk b xl yl)]
theorem shc_tab5 (b : Int) {l xl yl : List (BitVec 64)} : ShC 5 b l xl yl (csE b l.length 128 xl yl) (shL l b xl yl) :=
  ⟨fun hk => absurd hk (by decide), fun hk => absurd hk (by decide), fun _ w g off n c px ox nx cx py oy ny cy q h hx hy hq => shp_tab5 b _ n c l _ nx cx xl _ ny cy yl q w h hx hy hq⟩
theorem cs_am5 {b : Int} {l xl yl : List (BitVec 64)} (h : AmL 5 b l xl yl) : csE b l.length 128 xl yl = amE 5 b l xl yl := by
  have hc : chk b l.length 128 = 0 := tab_chk h.ch (by decide)
  unfold csE
  rw [if_neg (not_not_intro hc), tab_am (by decide) h]
theorem vtab5 (b : Int) (l : List (BitVec 64)) (x : BitVec 64) : vF 5 b l x = evV l b 128 x := rfl
theorem shb_tab5 {b : Int} {l xl yl : List (BitVec 64)} (h : AmL 5 b l xl yl) (h0 : amE 5 b l xl yl = 0) : ShB 5 b l xl yl (shL l b xl yl) := by
  have hs : csE b l.length 128 xl yl = 0 := by rw [cs_am5 h]; exact h0
  have hg := good_of hs
  have hl : (shL l b xl yl).length = l.length := shL_len _ _ _ _
  refine ⟨hl, ch_same hl h.ch rfl, fun i hi => ?_, fun was h1 h2 => ?_⟩
  · rw [vtab5]; exact shL_ev hg hi
  · have hw : was = wasL l b xl := list_same (by unfold wasL; rw [List.length_map, List.length_range, h1]) (fun i hi => by
      have hi' : i < xl.length := by unfold wasL at hi; rw [List.length_map, List.length_range] at hi; exact hi
      rw [h2 i hi', vtab5]; unfold wasL; rw [map_at _ hi'])
    have := shc_tab5 b (l := shL l b xl yl) (xl := xl) (yl := was)
    rw [hw, (cs_of (shL_good hg (was_tg hg))).2, shL_back hg] at this
    rw [hw]; exact this
theorem shc_tab6 (b : Int) {l xl yl : List (BitVec 64)} : ShC 6 b l xl yl (csN b l.length 240 xl yl) (twL l b xl yl) :=
  ⟨fun hk => absurd hk (by decide), fun hk => absurd hk (by decide), fun _ w g off n c px ox nx cx py oy ny cy q h hx hy hq => shp_tab6 b _ n c l _ nx cx xl _ ny cy yl q w h hx hy hq⟩
theorem cs_am6 {b : Int} {l xl yl : List (BitVec 64)} (h : AmL 6 b l xl yl) : csN b l.length 240 xl yl = amE 6 b l xl yl := by
  have hc : chk b l.length 240 = 0 := tab_chk h.ch (by decide)
  unfold csN
  rw [if_neg (not_not_intro hc), tab_am (by decide) h]
theorem vtab6 (b : Int) (l : List (BitVec 64)) (x : BitVec 64) : vF 6 b l x = teV l b x := rfl
theorem shb_tab6 {b : Int} {l xl yl : List (BitVec 64)} (h : AmL 6 b l xl yl) (h0 : amE 6 b l xl yl = 0) : ShB 6 b l xl yl (twL l b xl yl) := by
  have hs : csN b l.length 240 xl yl = 0 := by rw [cs_am6 h]; exact h0
  have hg := goodT_of hs
  have hl : (twL l b xl yl).length = l.length := twL_len _ _ _ _ hg.len
  refine ⟨hl, ch_same hl h.ch rfl, fun i hi => ?_, fun was h1 h2 => ?_⟩
  · rw [vtab6]; exact twL_ev hg hi
  · have hw : was = waT l b xl := list_same (by unfold waT; rw [List.length_map, List.length_range, h1]) (fun i hi => by
      have hi' : i < xl.length := by unfold waT at hi; rw [List.length_map, List.length_range] at hi; exact hi
      rw [h2 i hi', vtab6]; unfold waT; rw [map_at _ hi'])
    have := shc_tab6 b (l := twL l b xl yl) (xl := xl) (yl := was)
    rw [hw, (csT_of (twL_good hg (waT_tg hg))).2, twL_back hg] at this
    rw [hw]; exact this
theorem shc_tab7 (b : Int) {l xl yl : List (BitVec 64)} : ShC 7 b l xl yl (csN b l.length 320 xl yl) (miL l b xl yl) :=
  ⟨fun hk => absurd hk (by decide), fun hk => absurd hk (by decide), fun _ w g off n c px ox nx cx py oy ny cy q h hx hy hq => shp_tab7 b _ n c l _ nx cx xl _ ny cy yl q w h hx hy hq⟩
theorem cs_am7 {b : Int} {l xl yl : List (BitVec 64)} (h : AmL 7 b l xl yl) : csN b l.length 320 xl yl = amE 7 b l xl yl := by
  have hc : chk b l.length 320 = 0 := tab_chk h.ch (by decide)
  unfold csN
  rw [if_neg (not_not_intro hc), tab_am (by decide) h]
theorem vtab7 (b : Int) (l : List (BitVec 64)) (x : BitVec 64) : vF 7 b l x = meV l b x := rfl
theorem shb_tab7 {b : Int} {l xl yl : List (BitVec 64)} (h : AmL 7 b l xl yl) (h0 : amE 7 b l xl yl = 0) : ShB 7 b l xl yl (miL l b xl yl) := by
  have hs : csN b l.length 320 xl yl = 0 := by rw [cs_am7 h]; exact h0
  have hg := goodM_of hs
  have hl : (miL l b xl yl).length = l.length := miL_len _ _ _ _ hg.len
  refine ⟨hl, ch_same hl h.ch rfl, fun i hi => ?_, fun was h1 h2 => ?_⟩
  · rw [vtab7]; exact miL_ev hg hi
  · have hw : was = waM l b xl := list_same (by unfold waM; rw [List.length_map, List.length_range, h1]) (fun i hi => by
      have hi' : i < xl.length := by unfold waM at hi; rw [List.length_map, List.length_range] at hi; exact hi
      rw [h2 i hi', vtab7]; unfold waM; rw [map_at _ hi'])
    have := shc_tab7 b (l := miL l b xl yl) (xl := xl) (yl := was)
    rw [hw, (csM_of (miL_good hg (waM_tg hg))).2, miL_back hg] at this
    rw [hw]; exact this
theorem sc2_3 {b : Int} {l : List (BitVec 64)} (hz : chF 3 b l = 0) (x0 x1 y0 y1 c1 c0 d1 d0 : BitVec 64) (E : Int) (hM : MSF 3 b l x0 x1 y0 y1 c1 c0 d1 d0 E) : ShC 3 b l [x0, x1] [y0, y1] E (wdsK 3 c1 c0 d1 d0) := by
  refine ⟨fun hk => absurd hk (by decide), fun _ w g off n c px ox nx cx py oy ny cy bq b9 h hx hy h9 => ?_, fun hk => absurd hk (by decide)⟩
  obtain rfl : n = 2 := by rw [← h.len_eq]; exact (ch_sum3 hz).1
  obtain rfl : nx = 2 := by rw [← hx.len_eq]; rfl
  obtain rfl : ny = 2 := by rw [← hy.len_eq]; rfl
  exact shp_sum32 b g off c l px ox cx py oy cy x0 x1 y0 y1 b9 w h hx hy c1 c0 d1 d0 E (Lib.hid hM)
theorem sc1_3 {b : Int} {l : List (BitVec 64)} (hz : chF 3 b l = 0) (x0 y0 c1 c0 d1 d0 : BitVec 64) (E : Int) (hf : fitK 3 (x0 ^^^ 1#64) = true) (hM : MSF 3 b l x0 (x0 ^^^ 1#64) y0 (vF 3 b l (x0 ^^^ 1#64)) c1 c0 d1 d0 E) : ShC 3 b l [x0] [y0] E (wdsK 3 c1 c0 d1 d0) := by
  refine ⟨fun hk => absurd hk (by decide), fun _ w g off n c px ox nx cx py oy ny cy bq b9 h hx hy h9 => ?_, fun hk => absurd hk (by decide)⟩
  obtain rfl : n = 2 := by rw [← h.len_eq]; exact (ch_sum3 hz).1
  obtain rfl : nx = 1 := by rw [← hx.len_eq]; rfl
  obtain rfl : ny = 1 := by rw [← hy.len_eq]; rfl
  exact shp_sum31 b g off c l px ox cx py oy cy x0 y0 bq b9 w h hx hy hz h9 (by show eSum 3 (x0 ^^^ 1#64) = 0; unfold eSum; rw [if_pos hf]) c1 c0 d1 d0 E (Lib.hid hM)
theorem sc2_4 {b : Int} {l : List (BitVec 64)} (hz : chF 4 b l = 0) (x0 x1 y0 y1 c1 c0 d1 d0 : BitVec 64) (E : Int) (hM : MSF 4 b l x0 x1 y0 y1 c1 c0 d1 d0 E) : ShC 4 b l [x0, x1] [y0, y1] E (wdsK 4 c1 c0 d1 d0) := by
  refine ⟨fun hk => absurd hk (by decide), fun _ w g off n c px ox nx cx py oy ny cy bq b9 h hx hy h9 => ?_, fun hk => absurd hk (by decide)⟩
  obtain rfl : n = 4 := by rw [← h.len_eq]; exact (ch_sum4 hz).1
  obtain rfl : nx = 2 := by rw [← hx.len_eq]; rfl
  obtain rfl : ny = 2 := by rw [← hy.len_eq]; rfl
  exact shp_sum42 b g off c l px ox cx py oy cy x0 x1 y0 y1 b9 w h hx hy c1 c0 d1 d0 E (Lib.hid hM)
theorem sc1_4 {b : Int} {l : List (BitVec 64)} (hz : chF 4 b l = 0) (x0 y0 c1 c0 d1 d0 : BitVec 64) (E : Int) (hf : fitK 4 (x0 ^^^ 1#64) = true) (hM : MSF 4 b l x0 (x0 ^^^ 1#64) y0 (vF 4 b l (x0 ^^^ 1#64)) c1 c0 d1 d0 E) : ShC 4 b l [x0] [y0] E (wdsK 4 c1 c0 d1 d0) := by
  refine ⟨fun hk => absurd hk (by decide), fun _ w g off n c px ox nx cx py oy ny cy bq b9 h hx hy h9 => ?_, fun hk => absurd hk (by decide)⟩
  obtain rfl : n = 4 := by rw [← h.len_eq]; exact (ch_sum4 hz).1
  obtain rfl : nx = 1 := by rw [← hx.len_eq]; rfl
  obtain rfl : ny = 1 := by rw [← hy.len_eq]; rfl
  exact shp_sum41 b g off c l px ox cx py oy cy x0 y0 bq b9 w h hx hy hz h9 (by show eSum 4 (x0 ^^^ 1#64) = 0; unfold eSum; rw [if_pos hf]) c1 c0 d1 d0 E (Lib.hid hM)
theorem fit_next3 (x : BitVec 64) : fitK 3 (x ^^^ 1#64) = fitK 3 x := by
  show ((x ^^^ 1#64) >>> 32 == 0#64) = (x >>> 32 == 0#64)
  have : (x ^^^ 1#64) >>> 32 = x >>> 32 := by
    rw [BitVec.ushiftRight_xor_distrib]
    show x >>> 32 ^^^ 0#64 = _
    exact BitVec.xor_zero
  rw [this]
theorem next_ne (x : BitVec 64) : x ≠ x ^^^ 1#64 := by
  intro h
  have h2 : x ^^^ x = x ^^^ (x ^^^ 1#64) := by rw [← h]
  rw [← BitVec.xor_assoc, BitVec.xor_self, BitVec.zero_xor] at h2
  exact absurd h2 (by decide)
theorem key_sum {k : Int} (hk : k = 3 ∨ k = 4) (x : BitVec 64) : keyK k x = fitK k x := by
  rcases hk with rfl | rfl
  · rw [big_fit]; rfl
  · rw [fit_wide]; rfl
theorem tar_sum {k : Int} (hk : k = 3 ∨ k = 4) (b : Int) (y : BitVec 64) : tarK k b y = (y >>> b.toNat == 0#64) := by
  rcases hk with rfl | rfl <;> rfl
theorem sum_am2 {k b : Int} (hk : k = 3 ∨ k = 4) {l : List (BitVec 64)} {x0 x1 y0 y1 : BitVec 64} (h : AmL k b l [x0, x1] [y0, y1]) : amE k b l [x0, x1] [y0, y1] = mE k b x0 x1 y0 y1 := by
  rw [h.is]
  have e1 : (List.range [x0, x1].length).any (bad27 k b [x0, x1] [y0, y1]) = !(fitK k x0 && fitK k x1 && (y0 >>> b.toNat == 0#64) && (y1 >>> b.toNat == 0#64)) := by
    show ((!(keyK k x0) || !(tarK k b y0)) || ((!(keyK k x1) || !(tarK k b y1)) || false)) = _
    rw [key_sum hk, key_sum hk, tar_sum hk, tar_sum hk]
    cases fitK k x0 <;> cases fitK k x1 <;> cases (y0 >>> b.toNat == 0#64) <;> cases (y1 >>> b.toNat == 0#64) <;> rfl
  have e2 : (List.range [x0, x1].length).any (same2 [x0, x1]) = (x0 == x1) := by
    show (false || (((x0 == x1) || false) || false)) = _
    cases (x0 == x1) <;> rfl
  rw [e1, e2]
  unfold mE
  cases (fitK k x0 && fitK k x1 && (y0 >>> b.toNat == 0#64) && (y1 >>> b.toNat == 0#64)) with
  | false => rfl
  | true =>
    by_cases he : x0 = x1
    · subst he; simp
    · simp [he]
theorem sum_am1 {k b : Int} (hk : k = 3 ∨ k = 4) {l : List (BitVec 64)} {x0 y0 : BitVec 64} (h : AmL k b l [x0] [y0]) : amE k b l [x0] [y0] = if (fitK k x0 && (y0 >>> b.toNat == 0#64)) = true then 0 else 2 := by
  rw [h.is]
  have e1 : (List.range [x0].length).any (bad27 k b [x0] [y0]) = !(fitK k x0 && (y0 >>> b.toNat == 0#64)) := by
    show ((!(keyK k x0) || !(tarK k b y0)) || false) = _
    rw [key_sum hk, tar_sum hk]
    cases fitK k x0 <;> cases (y0 >>> b.toNat == 0#64) <;> rfl
  have e2 : (List.range [x0].length).any (same2 [x0]) = false := rfl
  rw [e1, e2]
  cases (fitK k x0 && (y0 >>> b.toNat == 0#64)) <;> rfl
theorem fit_next {k : Int} (hk : k = 3 ∨ k = 4) (x : BitVec 64) : fitK k (x ^^^ 1#64) = fitK k x := by
  rcases hk with rfl | rfl
  · exact fit_next3 x
  · rw [fit_wide, fit_wide]
theorem sum_small {k b : Int} (hk : k = 3 ∨ k = 4) {l : List (BitVec 64)} (hz : chF k b l = 0) (x : BitVec 64) : (vF k b l x >>> b.toNat == 0#64) = true := by
  obtain ⟨_, hb1, hb2⟩ := bits_of hz
  have e : vF k b l x = vSum k b l x := by rcases hk with rfl | rfl <;> rfl
  have hw : wdK k ≤ 128 ∧ b.toNat ≤ wdK k := by
    rcases hk with rfl | rfl
    · have : wdK 3 = 64 := rfl
      omega
    · have : wdK 4 = 128 := rfl
      omega
  rw [e, shr_none]
  apply decide_eq_true
  unfold vSum
  cases hf : fitK k x with
  | false => rw [if_neg (by decide)]; exact Nat.two_pow_pos _
  | true =>
    rw [if_pos rfl]
    generalize numA k l * x.toNat + numB k l = S
    have h1 : S % 2 ^ (wdK k) / 2 ^ (wdK k - b.toNat) < 2 ^ b.toNat := by
      rw [Nat.div_lt_iff_lt_mul (Nat.two_pow_pos _), ← Nat.pow_add, show b.toNat + (wdK k - b.toNat) = wdK k by omega]
      exact Nat.mod_lt _ (Nat.two_pow_pos _)
    have h2 : 2 ^ b.toNat ≤ 2 ^ 64 := Nat.pow_le_pow_right (by decide) (by omega)
    rw [lo_back (by omega)]
    exact h1
theorem sum_any3 {b : Int} {l xl yl : List (BitVec 64)} (h : AmL 3 b l xl yl) : ∃ L, ShC 3 b l xl yl (amE 3 b l xl yl) L ∧ (amE 3 b l xl yl = 0 → ShB 3 b l xl yl L) := by
  have hz := h.ch
  obtain ⟨n1, n2, n3⟩ := h.len
  have ht : tgK 3 l.length = 2 := rfl
  rw [ht] at n2
  obtain ⟨hl, hb1, hb2⟩ := ch_sum3 hz
  match xl, yl, h, n1, n2, n3 with
  | [x0], [y0], h, _, _, _ =>
    have ha := sum_am1 (by decide) h
    cases hf : fitK 3 x0 with
    | false =>
      have ha2 : amE 3 b l [x0] [y0] = 2 := by rw [ha, hf]; rfl
      refine ⟨wdsK 3 0#64 0#64 0#64 0#64, ?_, fun h0 => by rw [ha2] at h0; exact absurd h0 (by decide)⟩
      rw [ha2]
      refine ⟨fun hk => absurd hk (by decide), fun _ w g off n c px ox nx cx py oy ny cy bq b9 h hx hy h9 => ?_, fun hk => absurd hk (by decide)⟩
      obtain rfl : n = 2 := by rw [← h.len_eq]; exact hl
      obtain rfl : nx = 1 := by rw [← hx.len_eq]; rfl
      obtain rfl : ny = 1 := by rw [← hy.len_eq]; rfl
      refine (shp_sum31_no b g off c l px ox cx py oy cy x0 y0 bq b9 w h hx hy hz h9 (by
        show eSum 3 (x0 ^^^ 1#64) = 2
        unfold eSum
        rw [fit_next3, hf]; rfl)).mono ?_
      intro e w' hs
      exact ⟨.inl ⟨by decide, hs.1⟩, hs.2⟩
    | true =>
      have hf1 : fitK 3 (x0 ^^^ 1#64) = true := by rw [fit_next (by decide), hf]
      have hm : mE 3 b x0 (x0 ^^^ 1#64) y0 (vF 3 b l (x0 ^^^ 1#64)) = amE 3 b l [x0] [y0] := by
        rw [ha, hf]
        unfold mE
        rw [hf, hf1, sum_small (by decide) hz, if_neg (next_ne x0)]
        cases (y0 >>> b.toNat == 0#64) <;> rfl
      by_cases h0 : amE 3 b l [x0] [y0] = 0
      · obtain ⟨c1, c0, d1, d0, s1, s2, s3, s4, s5⟩ := madd_yes3 hz x0 (x0 ^^^ 1#64) y0 (vF 3 b l (x0 ^^^ 1#64)) (by rw [hm]; exact h0)
        refine ⟨wdsK 3 c1 c0 d1 d0, by rw [h0]; exact sc1_3 hz x0 y0 c1 c0 d1 d0 0 hf1 s1, fun _ => ⟨by rw [hl]; rfl, s2, fun i hi => ?_, fun was h1 h2 => ?_⟩⟩
        · have : i = 0 := by have : i < 1 := hi; omega
          subst this
          exact s3
        · match was, h1 with
          | [z0], _ =>
            have hz0 : z0 = vF 3 b l x0 := h2 0 (by show 0 < _ + 1; omega)
            rw [hz0]
            have := sc1_3 s2 x0 (vF 3 b l x0) (hiN (numA 3 l)) (loN (numA 3 l)) (hiN (numB 3 l)) (loN (numB 3 l)) 0 hf1 (by rw [s4]; exact s5)
            rw [wds_num3 hl] at this
            exact this
      · have := madd_no3 hz x0 (x0 ^^^ 1#64) y0 (vF 3 b l (x0 ^^^ 1#64)) (by rw [hm]; exact h0)
        rw [hm] at this
        exact ⟨wdsK 3 0#64 0#64 0#64 0#64, sc1_3 hz x0 y0 _ _ _ _ _ hf1 this, fun h => absurd h h0⟩
  | [x0, x1], [y0, y1], h, _, _, _ =>
    have hm := (sum_am2 (by decide) h).symm
    by_cases h0 : amE 3 b l [x0, x1] [y0, y1] = 0
    · obtain ⟨c1, c0, d1, d0, s1, s2, s3, s4, s5⟩ := madd_yes3 hz x0 x1 y0 y1 (by rw [hm]; exact h0)
      refine ⟨wdsK 3 c1 c0 d1 d0, by rw [h0]; exact sc2_3 hz x0 x1 y0 y1 c1 c0 d1 d0 0 s1, fun _ => ⟨by rw [hl]; rfl, s2, fun i hi => ?_, fun was h1 h2 => ?_⟩⟩
      · have : i = 0 ∨ i = 1 := by have : i < 2 := hi; omega
        rcases this with rfl | rfl
        · exact s3
        · exact s4
      · match was, h1 with
        | [z0, z1], _ =>
          have hz0 : z0 = vF 3 b l x0 := h2 0 (by show 0 < _ + 1; omega)
          have hz1 : z1 = vF 3 b l x1 := h2 1 (by show 1 < 2; omega)
          rw [hz0, hz1]
          have := sc2_3 s2 x0 x1 (vF 3 b l x0) (vF 3 b l x1) (hiN (numA 3 l)) (loN (numA 3 l)) (hiN (numB 3 l)) (loN (numB 3 l)) 0 s5
          rw [wds_num3 hl] at this
          exact this
    · have := madd_no3 hz x0 x1 y0 y1 (by rw [hm]; exact h0)
      rw [hm] at this
      exact ⟨wdsK 3 0#64 0#64 0#64 0#64, sc2_3 hz x0 x1 y0 y1 _ _ _ _ _ this, fun h => absurd h h0⟩
theorem sum_any4 {b : Int} {l xl yl : List (BitVec 64)} (h : AmL 4 b l xl yl) : ∃ L, ShC 4 b l xl yl (amE 4 b l xl yl) L ∧ (amE 4 b l xl yl = 0 → ShB 4 b l xl yl L) := by
  have hz := h.ch
  obtain ⟨n1, n2, n3⟩ := h.len
  have ht : tgK 4 l.length = 2 := rfl
  rw [ht] at n2
  obtain ⟨hl, hb1, hb2⟩ := ch_sum4 hz
  match xl, yl, h, n1, n2, n3 with
  | [x0], [y0], h, _, _, _ =>
    have ha := sum_am1 (by decide) h
    cases hf : fitK 4 x0 with
    | false =>
      rw [fit_wide] at hf; cases hf
    | true =>
      have hf1 : fitK 4 (x0 ^^^ 1#64) = true := by rw [fit_next (by decide), hf]
      have hm : mE 4 b x0 (x0 ^^^ 1#64) y0 (vF 4 b l (x0 ^^^ 1#64)) = amE 4 b l [x0] [y0] := by
        rw [ha, hf]
        unfold mE
        rw [hf, hf1, sum_small (by decide) hz, if_neg (next_ne x0)]
        cases (y0 >>> b.toNat == 0#64) <;> rfl
      by_cases h0 : amE 4 b l [x0] [y0] = 0
      · obtain ⟨c1, c0, d1, d0, s1, s2, s3, s4, s5⟩ := madd_yes4 hz x0 (x0 ^^^ 1#64) y0 (vF 4 b l (x0 ^^^ 1#64)) (by rw [hm]; exact h0)
        refine ⟨wdsK 4 c1 c0 d1 d0, by rw [h0]; exact sc1_4 hz x0 y0 c1 c0 d1 d0 0 hf1 s1, fun _ => ⟨by rw [hl]; rfl, s2, fun i hi => ?_, fun was h1 h2 => ?_⟩⟩
        · have : i = 0 := by have : i < 1 := hi; omega
          subst this
          exact s3
        · match was, h1 with
          | [z0], _ =>
            have hz0 : z0 = vF 4 b l x0 := h2 0 (by show 0 < _ + 1; omega)
            rw [hz0]
            have := sc1_4 s2 x0 (vF 4 b l x0) (hiN (numA 4 l)) (loN (numA 4 l)) (hiN (numB 4 l)) (loN (numB 4 l)) 0 hf1 (by rw [s4]; exact s5)
            rw [wds_num4 hl] at this
            exact this
      · have := madd_no4 hz x0 (x0 ^^^ 1#64) y0 (vF 4 b l (x0 ^^^ 1#64)) (by rw [hm]; exact h0)
        rw [hm] at this
        exact ⟨wdsK 4 0#64 0#64 0#64 0#64, sc1_4 hz x0 y0 _ _ _ _ _ hf1 this, fun h => absurd h h0⟩
  | [x0, x1], [y0, y1], h, _, _, _ =>
    have hm := (sum_am2 (by decide) h).symm
    by_cases h0 : amE 4 b l [x0, x1] [y0, y1] = 0
    · obtain ⟨c1, c0, d1, d0, s1, s2, s3, s4, s5⟩ := madd_yes4 hz x0 x1 y0 y1 (by rw [hm]; exact h0)
      refine ⟨wdsK 4 c1 c0 d1 d0, by rw [h0]; exact sc2_4 hz x0 x1 y0 y1 c1 c0 d1 d0 0 s1, fun _ => ⟨by rw [hl]; rfl, s2, fun i hi => ?_, fun was h1 h2 => ?_⟩⟩
      · have : i = 0 ∨ i = 1 := by have : i < 2 := hi; omega
        rcases this with rfl | rfl
        · exact s3
        · exact s4
      · match was, h1 with
        | [z0, z1], _ =>
          have hz0 : z0 = vF 4 b l x0 := h2 0 (by show 0 < _ + 1; omega)
          have hz1 : z1 = vF 4 b l x1 := h2 1 (by show 1 < 2; omega)
          rw [hz0, hz1]
          have := sc2_4 s2 x0 x1 (vF 4 b l x0) (vF 4 b l x1) (hiN (numA 4 l)) (loN (numA 4 l)) (hiN (numB 4 l)) (loN (numB 4 l)) 0 s5
          rw [wds_num4 hl] at this
          exact this
    · have := madd_no4 hz x0 x1 y0 y1 (by rw [hm]; exact h0)
      rw [hm] at this
      exact ⟨wdsK 4 0#64 0#64 0#64 0#64, sc2_4 hz x0 x1 y0 y1 _ _ _ _ _ this, fun h => absurd h h0⟩
/-- all kinds -/
theorem shc_any {k b : Int} {l xl yl : List (BitVec 64)} (h : AmL k b l xl yl) : ∃ L, ShC k b l xl yl (amE k b l xl yl) L ∧ (amE k b l xl yl = 0 → ShB k b l xl yl L) := by
  rcases okF_k (bits_of h.ch).1 with rfl | rfl | rfl | rfl | rfl | rfl | rfl | rfl
  · exact ⟨sh l xl yl, by rw [← poly_am h]; exact shc_poly b, shb_poly h⟩
  · exact absurd rfl h.tg
  · exact sum_any3 h
  · exact sum_any4 h
  · exact ⟨shL l b xl yl, by rw [← cs_am5 h]; exact shc_tab5 b, shb_tab5 h⟩
  · exact ⟨twL l b xl yl, by rw [← cs_am6 h]; exact shc_tab6 b, shb_tab6 h⟩
  · exact ⟨miL l b xl yl, by rw [← cs_am7 h]; exact shc_tab7 b, shb_tab7 h⟩
  · exact absurd rfl h.tg
end Go.Proofs.YtebcfbcfipmahaaGreat
