/- Layer 43: Pair. -/
import Derived.Test.YtbjclkjikclljaaAliP
namespace Go.Ali
theorem ca_nat {T : BitVec 64} {be : List (BitVec 64)} {j : Int} {k : Nat} (hx : (be.getD k 0).toNat ≤ T.toNat) : (szV 0#64 (sp0 be k j) T).toNat = if (k : Int) = j then (be.getD k 0).toNat else 0 := by
  unfold sp0
  by_cases e : (k : Int) = j
  · rw [if_pos e, if_pos e, sz_top hx]
  · rw [if_neg e, if_neg e, sz_none]; rfl
theorem cb_nat {T : BitVec 64} {be : List (BitVec 64)} {al : List Int} {j : Int} {k : Nat} (hx : (be.getD k 0).toNat ≤ T.toNat) : (szV (sp1 be al k j) (sp2 T al k j) T).toNat = if al.getD k 0 = j then T.toNat - (be.getD k 0).toNat else 0 := by
  unfold sp1 sp2
  by_cases e : al.getD k 0 = j
  · rw [if_pos e, if_pos e, if_pos e, sz_rest hx, BitVec.toNat_sub_of_le hx]
  · rw [if_neg e, if_neg e, if_neg e, sz_none]; rfl
theorem pr_next {T : BitVec 64} {be : List (BitVec 64)} {al : List Int} {j : Int} {k : Nat} (hx : (be.getD k 0).toNat ≤ T.toNat) : wnN T.toNat be al j (k + 1) = wnN T.toNat be al j k + (szV 0#64 (sp0 be k j) T).toNat + (szV (sp1 be al k j) (sp2 T al k j) T).toNat := by
  rw [ca_nat hx, cb_nat hx]
  show wnN T.toNat be al j k + ptN be al j k T.toNat = _
  unfold ptN
  rw [Nat.min_eq_right hx, Nat.add_assoc]
theorem pr_lo {T rk : BitVec 64} {be : List (BitVec 64)} {al : List Int} {j : Int} {k r : Nat} (hx : (be.getD k 0).toNat ≤ T.toNat) (h : rk.toNat < (szV 0#64 (sp0 be k j) T).toNat) (hr : rk.toNat + wnN T.toNat be al j k = r) : tlV be al k rk = j ∧ rk.toNat < T.toNat ∧ rkN T.toNat be al j k rk.toNat = r := by
  rw [ca_nat hx] at h
  by_cases e : (k : Int) = j
  · rw [if_pos e] at h
    refine ⟨by unfold tlV; rw [if_pos h]; exact e, by omega, ?_⟩
    unfold rkN ptN
    rw [if_pos e]
    by_cases e2 : al.getD k 0 = j
    · rw [if_pos e2]; omega
    · rw [if_neg e2]; omega
  · rw [if_neg e] at h; exact absurd h (by omega)
theorem pr_hi {T rk : BitVec 64} {be : List (BitVec 64)} {al : List Int} {j : Int} {k r : Nat} (hx : (be.getD k 0).toNat ≤ T.toNat) (h : rk.toNat < (szV (sp1 be al k j) (sp2 T al k j) T).toNat) (hr : rk.toNat + (szV 0#64 (sp0 be k j) T).toNat + wnN T.toNat be al j k = r) : tlV be al k (sp1 be al k j + rk) = j ∧ (sp1 be al k j + rk).toNat < T.toNat ∧ rkN T.toNat be al j k (sp1 be al k j + rk).toNat = r := by
  rw [cb_nat hx] at h
  rw [ca_nat hx] at hr
  by_cases e : al.getD k 0 = j
  · rw [if_pos e] at h
    have hs : sp1 be al k j = be.getD k 0 := by unfold sp1; rw [if_pos e]
    have hlt := T.isLt
    have hy : (sp1 be al k j + rk).toNat = (be.getD k 0).toNat + rk.toNat := by rw [hs, BitVec.toNat_add]; exact Nat.mod_eq_of_lt (by omega)
    refine ⟨?_, by omega, ?_⟩
    · unfold tlV; rw [if_neg (by omega)]; exact e
    · rw [hy]
      unfold rkN ptN
      rw [if_pos e]
      by_cases e2 : (k : Int) = j
      · rw [if_pos e2] at hr ⊢; omega
      · rw [if_neg e2] at hr ⊢; omega
  · rw [if_neg e] at h; exact absurd h (by omega)
/-- what Pair returns -/
def PairR (T : BitVec 64) (be : List (BitVec 64)) (al : List Int) (j : Int) (r x y : BitVec 64) (e : Int) : Prop :=
  (jE T be al j ≠ 0 ∧ e = jE T be al j ∧ x = 0#64 ∧ y = 0#64) ∨ (jE T be al j = 0 ∧ (wtV T be al j).toNat ≤ r.toNat ∧ e = 2 ∧ x = 0#64 ∧ y = 0#64) ∨
  (jE T be al j = 0 ∧ r.toNat < (wtV T be al j).toNat ∧ e = 0 ∧ x.toNat < be.length ∧ y.toNat < T.toNat ∧ tlV be al x.toNat y = j ∧ rkN T.toNat be al j x.toNat y.toNat = r.toNat)
theorem je_good {T : BitVec 64} {be : List (BitVec 64)} {al : List Int} {j : Int} (h : jE T be al j = 0) : tE T be al = 0 ∧ ¬ (j < 0 ∨ (be.length : Int) ≤ j) := by
  by_cases h1 : tE T be al = 0
  · by_cases h2 : j < 0 ∨ (be.length : Int) ≤ j
    · rw [je_out h1 h2] at h; cases h
    · exact ⟨h1, h2⟩
  · rw [je_bad h1] at h; exact absurd h h1
end Go.Ali
namespace Go.Proofs.Ytbjclkjikclljaa
open Go Go.RowKit Go.Bv Go.Ali
set_option linter.unusedVariables false
set_option maxRecDepth 100000
/-- a table in a box, wherever we have come -/
theorem bx_stayq {w : World} {o : Obj} : ∀ w', New (w.alloc o) w' → w'.heap[w.heap.size]? = some o := fun w' h => blk_stay (heap_alloc_new w o) h
set_option maxHeartbeats 16000000 in
theorem pair_43 (T : BitVec 64) (ab : Option Addr) (nb cb : Nat) (aa : Option Addr) (na ca : Nat) (be : List (BitVec 64)) (al : List Int) (j : Int) (r : BitVec 64) (w : World) (h : TL w ab nb cb aa na ca be al) :
    Calls Try.prog 22 #[tv T ab nb cb aa na ca, .int .i64 j, .int .u64 (W64 r)] w fun e w' => ∃ x y e0, e = .returned (.tuple #[.int .u64 (W64 x), .int .u64 (W64 y), .int .i64 e0]) ∧ PairR T be al j r x y e0 ∧ New w w' := by
  have hz : W64 0#64 = 0 := W64_lit 0 (by omega)
  have hn0 := (New.refl w).alloc (TB (.int .u64 (W64 T)) (.slice ab nb cb) (.slice aa na ca))
  have HTL : Hid (∀ w', New (w.alloc (TB (.int .u64 (W64 T)) (.slice ab nb cb) (.slice aa na ca))) w' → TL w' ab nb cb aa na ca be al) := Lib.hid (fun w' q => h.stay (hn0.trans q))
  have HBX : Hid (∀ w', New (w.alloc (TB (.int .u64 (W64 T)) (.slice ab nb cb) (.slice aa na ca))) w' → w'.heap[w.heap.size]? = some (TB (.int .u64 (W64 T)) (.slice ab nb cb) (.slice aa na ca))) := Lib.hid bx_stayq
  have HNW : Hid (∀ w', New (w.alloc (TB (.int .u64 (W64 T)) (.slice ab nb cb) (.slice aa na ca))) w' → New w w') := Lib.hid (fun w' q => hn0.trans q)
  have hwe := weight_43 T ab nb cb aa na ca be al j _ (h.stay hn0)
  have k0 := cell_of_row _ _ 0 _ _ _ (HBX.out _ (New.refl _))
  have k1 := cell_of_row _ _ 1 _ _ _ (HBX.out _ (New.refl _))
  have k2 := cell_of_row _ _ 2 _ _ _ (HBX.out _ (New.refl _))
  by_cases hP : jE T be al j = 0
  · obtain ⟨hE, hj⟩ := je_good hP
    obtain ⟨hn1, hn2, hna, hT0, hT1, hbb, hab⟩ := te_good hE
    have hlb := h.b.len_eq
    have hla := h.a.len_eq
    obtain rfl : na = nb := by omega
    have HP := Lib.hid hP
    have hm := h.b.most
    have HLB := Lib.hid hlb
    have HBB : Hid (∀ i, i < na → (be.getD i 0).toNat ≤ T.toNat) := Lib.hid (fun i hi => hbb i (by omega))
    have HWT : Hid ((wtV T be al j).toNat = wnN T.toNat be al j na) := Lib.hid (by
      rw [wt_ok hP, bf_weight (Int.le_refl _) hbb, rw_nat hT1 hn2 hbb, hlb])
    have HM : Hid (na ≤ 256) := Lib.hid (by omega)
    rw [hP] at hwe
    have HWE := Lib.hid hwe
    by_cases hr : (wtV T be al j).toNat ≤ r.toNat
    · have hd : decide (W64 (wtV T be al j) ≤ W64 r) = true := by rw [dle]; exact decide_eq_true hr
      have HR : Hid (PairR T be al j r 0#64 0#64 2) := Lib.hid (Or.inr (Or.inl ⟨hP, hr, rfl, rfl, rfl⟩))
      have HZ := Lib.hid hz
      clear hwe hz hE hn1 hn2 hna hT0 hT1 hbb hab hlb hla h hP hj hr hn0
      go_enter Try.func22, Try.ntmps22
      go_wp2
      go_step3
      go_wp2_with fail
      refine HWE.out.mono ?_
      rintro e w1 ⟨rfl, n1⟩
      have HN1 := Lib.hid n1
      clear n1 HWE k0 k1 k2
      go_wp2
      try rw [Exit.noGoto_ret]
      refine bodyPost_ret (by simp [results, Try.results22, go_sem]; try rfl) rfl ?_
      exact ⟨0#64, 0#64, 2, by rw [HZ.out], HR.out, HNW.out _ HN1.out⟩
    · have hd : decide (W64 (wtV T be al j) ≤ W64 r) = false := by rw [dle]; exact decide_eq_false hr
      have HLT : Hid (r.toNat < (wtV T be al j).toNat) := Lib.hid (by omega)
      have HZ := Lib.hid hz
      clear hwe hz hE hn1 hn2 hna hT0 hT1 hbb hab hlb hla h hP hj hr hn0
      go_enter Try.func22, Try.ntmps22
      go_wp2
      go_step3
      go_wp2_with fail
      refine HWE.out.mono ?_
      rintro e w1 ⟨rfl, n1⟩
      have HN1 := Lib.hid n1
      clear n1 HWE k0 k1 k2
      have k1 := cell_of_row _ _ 1 _ _ _ (HBX.out _ HN1.out)
      go_wp2
      go_step3
      go_wp2
      go_loopw [2, 32] (fun rv iv wr => ∃ k : Nat, ∃ rk : BitVec 64, k ≤ na ∧ iv = .int .i64 (k : Int) ∧ rv = .int .u64 (W64 rk) ∧ Hid (rk.toNat + wnN T.toNat be al j k = r.toNat) ∧ Hid (New (w.alloc (TB (.int .u64 (W64 T)) (.slice ab na cb) (.slice aa na ca))) wr)) (fun _ iv _ => na - (intOf iv).toNat)
      case atStart => exact ⟨0, r, Nat.zero_le _, rfl, rfl, Lib.hid rfl, HN1⟩
      case round =>
        clear k1 hd HN1
        obtain ⟨k, rk, hk, rfl, rfl, HK, HN⟩ := hrel
        by_cases hlt : (k : Int) < (na : Int)
        · have hk0 : (0 : Int) ≤ (k : Int) := by omega
          have hkn : k < na := by omega
          have k0 := cell_of_row _ _ 0 _ _ _ (HBX.out _ HN.out)
          have k1 := cell_of_row _ _ 1 _ _ _ (HBX.out _ HN.out)
          have k2 := cell_of_row _ _ 2 _ _ _ (HBX.out _ HN.out)
          have hW := w_of (n := k) (by have := HM.out; omega)
          have HWK := Lib.hid hW
          have HSP := Lib.hid (spans_43 T ab na cb aa ca be al k j hkn _ (HTL.out _ HN.out))
          have HNE := Lib.hid (pr_next (al := al) (j := j) (HBB.out k hkn))
          have HLO : Hid (∀ q : BitVec 64, q.toNat < (szV 0#64 (sp0 be k j) T).toNat → q.toNat + wnN T.toNat be al j k = r.toNat → tlV be al k q = j ∧ q.toNat < T.toNat ∧ rkN T.toNat be al j k q.toNat = r.toNat) := Lib.hid (fun q h1 h2 => pr_lo (HBB.out k hkn) h1 h2)
          have HHI : Hid (∀ q : BitVec 64, q.toNat < (szV (sp1 be al k j) (sp2 T al k j) T).toNat → q.toNat + (szV 0#64 (sp0 be k j) T).toNat + wnN T.toNat be al j k = r.toNat → tlV be al k (sp1 be al k j + q) = j ∧ (sp1 be al k j + q).toNat < T.toNat ∧ rkN T.toNat be al j k (sp1 be al k j + q).toNat = r.toNat) := Lib.hid (fun q h1 h2 => pr_hi (HBB.out k hkn) h1 h2)
          obtain ⟨s0, hs0⟩ : ∃ x, sp0 be k j = x := ⟨_, rfl⟩
          obtain ⟨s1, hs1⟩ : ∃ x, sp1 be al k j = x := ⟨_, rfl⟩
          obtain ⟨s2, hs2⟩ : ∃ x, sp2 T al k j = x := ⟨_, rfl⟩
          rw [hs0, hs1, hs2] at HSP HNE
          rw [hs0] at HLO
          rw [hs0, hs1, hs2] at HHI
          clear hs0 hs1 hs2
          go_wp2_with fail
          refine HSP.out.mono ?_
          rintro e w2 ⟨rfl, n2⟩
          have HN2 := Lib.hid (HN.out.trans n2)
          clear k0 k1 k2 n2 HSP
          go_wp2
          go_loopw [2, 39] (fun rv iv wr => (∃ rk : BitVec 64, ((iv = .int .i64 0 ∧ rv = .int .u64 (W64 rk) ∧ Hid (rk.toNat + wnN T.toNat be al j k = r.toNat)) ∨ (iv = .int .i64 1 ∧ rv = .int .u64 (W64 rk) ∧ Hid (rk.toNat + (szV 0#64 s0 T).toNat + wnN T.toNat be al j k = r.toNat)) ∨ (iv = .int .i64 2 ∧ rv = .int .u64 (W64 rk) ∧ Hid (rk.toNat + wnN T.toNat be al j (k + 1) = r.toNat)))) ∧ Hid (New (w.alloc (TB (.int .u64 (W64 T)) (.slice ab na cb) (.slice aa na ca))) wr)) (fun _ iv _ => 2 - (intOf iv).toNat)
          case atStart => exact ⟨⟨rk, Or.inl ⟨rfl, rfl, HK⟩⟩, HN2⟩
          case round =>
            clear HN HN2 HK
            obtain ⟨⟨rk, hh⟩, HN⟩ := hrel
            have ix0 : ∀ w, (Instr.index 69 (.agg #[.int .u64 0, .int .u64 (W64 s0), .int .u64 (W64 s1), .int .u64 (W64 s2)]) (.int .i64 0)).run Try.prog w = .ok (.agg #[.int .u64 0, .int .u64 (W64 s0)]) w := fun _ => rfl
            have ix1 : ∀ w, (Instr.index 69 (.agg #[.int .u64 0, .int .u64 (W64 s0), .int .u64 (W64 s1), .int .u64 (W64 s2)]) (.int .i64 1)).run Try.prog w = .ok (.agg #[.int .u64 (W64 s1), .int .u64 (W64 s2)]) w := fun _ => rfl
            rcases hh with ⟨rfl, rfl, HK⟩ | ⟨rfl, rfl, HK⟩ | ⟨rfl, rfl, HK⟩
            · clear ix1
              have k0 := fun o : Obj => cell_of_row _ _ 0 _ _ _ (HBX.out _ (HN.out.alloc o))
              have q0 := cell_of_row _ _ 0 _ _ _ (heap_alloc_new wr (.cells #[.int .u64 0, .int .u64 (W64 s0)] 68))
              have q1 := cell_of_row _ _ 1 _ _ _ (heap_alloc_new wr (.cells #[.int .u64 0, .int .u64 (W64 s0)] 68))
              have HQB := Lib.hid (heap_alloc_new wr (.cells #[.int .u64 0, .int .u64 (W64 s0)] 68))
              have HNA := Lib.hid (HN.out.alloc (.cells #[.int .u64 0, .int .u64 (W64 s0)] 68))
              have HSZ := size_43 0#64 s0 T (wr.alloc (.cells #[.int .u64 0, .int .u64 (W64 s0)] 68))
              rw [HZ.out] at HSZ
              have HSZ := Lib.hid HSZ
              go_wp2_with fail
              refine HSZ.out.mono ?_
              rintro e w3 ⟨rfl, n3⟩
              have HN3 := Lib.hid (HNA.out.trans n3)
              have q0 := cell_of_row _ _ 0 _ _ _ (blk_stay HQB.out n3)
              clear k0 q1 n3 HSZ
              by_cases hs : (szV 0#64 s0 T).toNat ≤ rk.toNat
              · have hd : decide (W64 (szV 0#64 s0 T) ≤ W64 rk) = true := by rw [dle]; exact decide_eq_true hs
                have HNX : Hid ((rk - szV 0#64 s0 T).toNat + (szV 0#64 s0 T).toNat + wnN T.toNat be al j k = r.toNat) := Lib.hid (by rw [BitVec.toNat_sub_of_le (BitVec.le_def.2 hs)]; have h1 : (szV 0#64 s0 T).toNat ≤ rk.toNat := hs; have := HK.out; omega)
                clear hs
                go_wp2
                exact ⟨⟨⟨_, Or.inr (Or.inl ⟨by go_num, rfl, HNX⟩)⟩, HN3⟩, by simp [intOf]⟩
              · have hd : decide (W64 (szV 0#64 s0 T) ≤ W64 rk) = false := by rw [dle]; exact decide_eq_false hs
                have HRE : Hid (tlV be al k (rk) = j ∧ (rk).toNat < T.toNat ∧ rkN T.toNat be al j k (rk).toNat = r.toNat) := Lib.hid (HLO.out rk (by have : ¬ (szV 0#64 s0 T).toNat ≤ rk.toNat := hs; omega) HK.out)
                clear hs
                go_wp2
                go_region
                go_wp2
                rw [Exit.noGoto_ret]
                refine bodyPost_ret (by simp [results, Try.results22, go_sem]; try rfl) rfl ?_
                refine ⟨BitVec.ofNat 64 k, rk, 0, by first | rfl | rw [HWK.out], ?_, ?_⟩
                · have hkk : (BitVec.ofNat 64 k).toNat = k := by have := HWK.out; unfold W64 at this; omega
                  refine Or.inr (Or.inr ⟨HP.out, HLT.out, rfl, ?_, HRE.out.2.1, ?_, ?_⟩)
                  · rw [hkk, HLB.out]; exact hkn
                  · rw [hkk]; exact HRE.out.1
                  · rw [hkk]; exact HRE.out.2.2
                · first | exact HNW.out _ HN3.out | exact HNW.out _ HN3.out.drew
            · clear ix0
              have k0 := fun o : Obj => cell_of_row _ _ 0 _ _ _ (HBX.out _ (HN.out.alloc o))
              have q0 := cell_of_row _ _ 0 _ _ _ (heap_alloc_new wr (.cells #[.int .u64 (W64 s1), .int .u64 (W64 s2)] 68))
              have q1 := cell_of_row _ _ 1 _ _ _ (heap_alloc_new wr (.cells #[.int .u64 (W64 s1), .int .u64 (W64 s2)] 68))
              have HQB := Lib.hid (heap_alloc_new wr (.cells #[.int .u64 (W64 s1), .int .u64 (W64 s2)] 68))
              have HNA := Lib.hid (HN.out.alloc (.cells #[.int .u64 (W64 s1), .int .u64 (W64 s2)] 68))
              have HSZ := size_43 s1 s2 T (wr.alloc (.cells #[.int .u64 (W64 s1), .int .u64 (W64 s2)] 68))
              have HSZ := Lib.hid HSZ
              go_wp2_with fail
              refine HSZ.out.mono ?_
              rintro e w3 ⟨rfl, n3⟩
              have HN3 := Lib.hid (HNA.out.trans n3)
              have q0 := cell_of_row _ _ 0 _ _ _ (blk_stay HQB.out n3)
              clear k0 q1 n3 HSZ
              by_cases hs : (szV s1 s2 T).toNat ≤ rk.toNat
              · have hd : decide (W64 (szV s1 s2 T) ≤ W64 rk) = true := by rw [dle]; exact decide_eq_true hs
                have HNX : Hid ((rk - szV s1 s2 T).toNat + wnN T.toNat be al j (k + 1) = r.toNat) := Lib.hid (by rw [BitVec.toNat_sub_of_le (BitVec.le_def.2 hs), HNE.out]; have h1 : (szV s1 s2 T).toNat ≤ rk.toNat := hs; have := HK.out; omega)
                clear hs
                go_wp2
                exact ⟨⟨⟨_, Or.inr (Or.inr ⟨by go_num, rfl, HNX⟩)⟩, HN3⟩, by simp [intOf]⟩
              · have hd : decide (W64 (szV s1 s2 T) ≤ W64 rk) = false := by rw [dle]; exact decide_eq_false hs
                have HRE : Hid (tlV be al k (s1 + rk) = j ∧ (s1 + rk).toNat < T.toNat ∧ rkN T.toNat be al j k (s1 + rk).toNat = r.toNat) := Lib.hid (HHI.out rk (by have : ¬ (szV s1 s2 T).toNat ≤ rk.toNat := hs; omega) HK.out)
                clear hs
                go_wp2
                go_region
                go_wp2
                rw [Exit.noGoto_ret]
                refine bodyPost_ret (by simp [results, Try.results22, go_sem]; try rfl) rfl ?_
                refine ⟨BitVec.ofNat 64 k, s1 + rk, 0, by first | rfl | rw [HWK.out], ?_, ?_⟩
                · have hkk : (BitVec.ofNat 64 k).toNat = k := by have := HWK.out; unfold W64 at this; omega
                  refine Or.inr (Or.inr ⟨HP.out, HLT.out, rfl, ?_, HRE.out.2.1, ?_, ?_⟩)
                  · rw [hkk, HLB.out]; exact hkn
                  · rw [hkk]; exact HRE.out.1
                  · rw [hkk]; exact HRE.out.2.2
                · first | exact HNW.out _ HN3.out | exact HNW.out _ HN3.out.drew
            · go_wp2
              exact ⟨⟨k + 1, rk, by omega, by go_num, rfl, HK, HN⟩, by simp [intOf]; omega⟩
        · exfalso
          obtain rfl : k = na := by omega
          have h1 := HK.out
          have h2 := HLT.out
          have h3 := HWT.out
          omega
  · have HR : Hid (PairR T be al j r 0#64 0#64 (jE T be al j)) := Lib.hid (Or.inl ⟨hP, rfl, rfl, rfl⟩)
    have HWV : Hid (wtV T be al j = 0#64) := Lib.hid (wt_no hP)
    obtain ⟨z, hzz⟩ : ∃ z, jE T be al j = z := ⟨_, rfl⟩
    rw [hzz] at hwe hP HR
    have hb : (z != 0) = true := by rw [bne_iff_ne]; exact hP
    have HWE := Lib.hid hwe
    have HZ := Lib.hid hz
    clear hwe hz h hP hzz hn0
    go_enter Try.func22, Try.ntmps22
    go_wp2
    go_step3
    go_wp2_with fail
    refine HWE.out.mono ?_
    rintro e w1 ⟨rfl, n1⟩
    have HN1 := Lib.hid n1
    clear n1 HWE k0 k1 k2
    go_wp2
    try rw [Exit.noGoto_ret]
    refine bodyPost_ret (by simp [results, Try.results22, go_sem]; try rfl) rfl ?_
    exact ⟨0#64, 0#64, z, by rw [HZ.out], HR.out, HNW.out _ HN1.out⟩
end Go.Proofs.Ytbjclkjikclljaa
