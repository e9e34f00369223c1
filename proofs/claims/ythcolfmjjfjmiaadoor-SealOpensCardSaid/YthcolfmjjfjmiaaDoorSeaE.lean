/- For all bytes: what was sealed is opened as it was; where one byte of it is another one, that is told: the walk of the statement SealOpens. -/
import Derived.Test.YthcolfmjjfjmiaaDoorSeaD
import Derived.Laws.AppendOwnNone
import Derived.Laws.OwnMore
namespace Go.Proofs.YthcolfmjjfjmiaaDoor
open Go.RowKit Go.Bv
set_option linter.unusedVariables false
theorem own_addr16 {w : World} {base : Nat} {e : TypeId} {v : Value} {N : Nat} {xs : List Value} (h : w.ownsRow base e 1 v N xs) (h0 : 0 < N) : ∃ g cap, v = .slice (some ⟨g, 0, none⟩) N cap ∧ base ≤ g := by
  rcases h.2 with ⟨_, rfl⟩ | ⟨g, cap, cur, h1, h2, _⟩
  · omega
  · exact ⟨g, cap, h1, h2⟩
set_option maxRecDepth 100000 in
set_option maxHeartbeats 4000000 in
theorem SealOpens_walk (W : World) (a0 : Option Addr) (n0 m0 : Nat) (z0 : List Int) (w0 : IRow .u8 W a0 n0 m0 z0) (r0 : m0 * 1 ≤ 140737488351232) (a1 : Int) (w1 : (Lit.int .i64 a1).wf = true) (a2 : Int) (w2 : (Lit.int .u8 a2).wf = true) (hE : EtD 5 36 83 W) :
    Calls Tryd.prog 4 #[.slice a0 n0 m0, .int .i64 a1, .int .u8 a2] W fun e w' => e = .returned (.bool true) ∧ Below W.heap.size W w' := by
  obtain ⟨l, hl⟩ := w0.bytes r0
  obtain ⟨x, rfl⟩ := ex8 a2 (by simp [Lit.wf, IntKind.min, IntKind.max, IntKind.signed, IntKind.bits] at w2; omega)
  have HB := Lib.hid hl
  have HBL := Lib.hid hl.len_eq
  have hmo := hl.most
  clear w0 r0 hl w2
  have HA := Lib.hid (awake16 W hE)
  clear hE
  go_enter Tryd.func4, Tryd.ntmps4
  go_wp2_with fail
  refine HA.out.mono ?_
  rintro e w9 ⟨rfl, hn⟩
  have HN := Lib.hid hn
  clear hn HA
  by_cases hs : (3000 : Int) < (n0 : Int)
  · go_wp2
    go_ret
    exact ⟨rfl, HN.out⟩
  have HS4 : Hid (n0 + 4 ≤ 140737488355328) := Lib.hid (by omega)
  have HS3 : Hid (n0 ≤ 3000) := Lib.hid (by omega)
  clear hmo
  have hbq : ∀ q : List (BitVec 8), (q == q) = true := fun q => beq_self_eq_true q
  have hSO := seal_ok l
  have hST := seal_take l
  have HSS := Lib.hid (seal_set l)
  have hSL := seal_len l
  have HSE := Lib.hid (fun w' (hn : New W w') => seal_16 a0 n0 m0 l w' (HB.out.stay hn) HS4.out)
  obtain ⟨sl, hsl⟩ : ∃ z, seal16 l = z := ⟨_, rfl⟩
  rw [hsl] at hSO hST HSS hSL HSE
  rw [HBL.out] at hSL hST
  clear hsl
  go_wp2_with fail
  refine (HSE.out _ HN.out).mono ?_
  rintro e w9 ⟨ra, rc, rfl, hr, hn⟩
  have HR := Lib.hid hr
  clear hr HSE
  replace HN := Lib.hid (HN.out.trans hn)
  clear hn
  obtain ⟨b, off, rfl, _⟩ := HR.out.addr (by omega)
  have hrc := HR.out.le
  obtain ⟨N, hN⟩ : ∃ N, n0 + 4 = N := ⟨_, rfl⟩
  have HOY := Lib.hid (fun w' (h : BRow w' (some ⟨b, off, none⟩) N rc sl) => open_yes b off N rc sl w' h (by omega) hSO)
  rw [show N - 4 = n0 by omega, hST] at HOY
  have hNI : ((n0 : Int) + 4) = (N : Int) := by omega
  have HNB : Hid (4 ≤ N ∧ N ≤ 3004) := Lib.hid (by have := HS3.out; omega)
  rw [hN] at HR hSL hrc ⊢
  have HSL := Lib.hid hSL
  clear hN hSO hST hSL hs
  go_wp2_with fail
  refine (HOY.out _ HR.out).mono ?_
  rintro e w9 ⟨ia, ic, rfl, hri, hn⟩
  have HI := Lib.hid hri
  replace HR := Lib.hid (HR.out.stay hn)
  clear hri HOY
  replace HN := Lib.hid (HN.out.trans hn)
  clear hn
  go_wp2_with fail
  refine (same_any _ _ _ _ _ _ l l _ HI.out (HB.out.stay HN.out)).mono ?_
  rintro e w9 ⟨rfl, rfl⟩
  rw [hbq]
  have hwN : wrap64 ((n0 : Int) + 4) = (n0 : Int) + 4 := by have := HS3.out; unfold wrap64; omega
  by_cases h1 : a1 < 0
  · go_wp2
    go_ret
    exact ⟨rfl, HN.out⟩
  by_cases h2 : (N : Int) ≤ a1
  · go_wp2
    go_ret
    exact ⟨rfl, HN.out⟩
  have e0 : W8 0#8 = 0 := by decide
  by_cases h3 : x = 0#8
  · subst h3
    rw [e0] at *
    go_wp2
    go_ret
    exact ⟨rfl, HN.out⟩
  have hx0 : ¬ W8 x = 0 := by
    intro h
    apply h3
    have h4 : x.toNat = 0 := by unfold W8 at h; omega
    apply BitVec.eq_of_toNat_eq
    rw [h4]
    rfl
  have hxb : (W8 x == 0) = false := by simpa using hx0
  obtain ⟨k, rfl⟩ := Int.eq_ofNat_of_zero_le (show 0 ≤ a1 by omega)
  have HK : Hid (k < N) := Lib.hid (by omega)
  have HSX := Lib.hid (HSS.out k x h3 (by rw [HSL.out]; omega))
  obtain ⟨i0, hi, hz0, hz1, hz2⟩ := info_parts info_u8
  clear HSS h3 w1 hwN e0
  go_wp2_with (at_builtin; refine wpList_append_own _ rfl (.tmp 53) (.tmp 54) 22 rfl w9.heap.size 5 i0 (.int .u8 0) 1 1 Tryd.underlying22 hi hz0 hz1 hz2 rfl (by decide) _ 0 [] rfl (World.ownsRow_nil w9 _ _ 1) ⟨b, off, none⟩ N rc (sl.map fun y => .int .u8 (W8 y)) rfl (row_len HR.out) (HR.out.olds _ rfl) (row_one sl) (by have := HNB.out; unfold maxLen; omega) (by have := HNB.out; omega) (Nat.le_refl _) ?_; intro v1 w1 how1 hgr1 _)
  clear hi hz0 hz1 hz2
  obtain ⟨g, gc, rfl, hgb⟩ := own_addr16 how1 (by have := HNB.out; omega)
  have HN1 := Lib.hid (HN.out.grown hgr1)
  have hkN := HK.out
  have hkl : k < sl.length := by have := HSL.out; omega
  obtain ⟨y0, hy0⟩ : ∃ z, sl.getD k 0 = z := ⟨_, rfl⟩
  have hck := how1.cellAt k (by omega)
  have hcf := how1.frozenAt k
  have hmk : ([] ++ sl.map (fun y => Value.int .u8 (W8 y)))[k]? = some (.int .u8 (W8 y0)) := by
    rw [List.nil_append, List.getElem?_map, List.getElem?_eq_getElem hkl, ← hy0, List.getD_eq_getElem?_getD, List.getElem?_eq_getElem hkl]
    rfl
  rw [hmk] at hck
  have hst := how1.stored k (.int .u8 (W8 (y0 ^^^ x)))
  obtain ⟨v2, rfl2, hrow⟩ : ∃ v2, v2 = Value.slice (some ⟨g, 0, none⟩) N gc ∧ BRow (w1.setCell ⟨g, k, none⟩ (.int .u8 (W8 (y0 ^^^ x)))) (some ⟨g, 0, none⟩) N gc (sl.set k (y0 ^^^ x)) := by
    have h2 := hst.1
    rw [List.nil_append, ← List.map_set (f := fun y => Value.int .u8 (W8 y)), Nat.zero_add] at h2
    obtain ⟨a3, c3, e3, hr3⟩ := BRow.of_owns h2 (by have := HNB.out; omega)
    cases e3
    exact ⟨_, rfl, hr3⟩
  clear rfl2 v2
  have HD := Lib.hid hrow
  have HN2 := Lib.hid (HN1.out.setCell (p := ⟨g, k, none⟩) (Nat.le_trans HN.out.le hgb) (.int .u8 (W8 (y0 ^^^ x))))
  have hkc : (k : Int) < (N : Int) := by omega
  have hk0 : (0 : Int) ≤ (k : Int) := by omega
  rw [hy0] at HSX
  clear hst hrow hmk how1 hgr1 hgb hkl hy0 hkN
  simp only [Nat.zero_add]
  generalize hw2 : w1.setCell ⟨g, k, none⟩ (.int .u8 (W8 (y0 ^^^ x))) = w2 at HD HN2
  have HW2 := Lib.hid hw2
  have hgc := HD.out.le
  clear hw2
  have hix : ((Instr.indexAt 22 (.slice (some ⟨g, 0, none⟩) N gc) (.int .i64 (k : Int))).run Tryd.prog w1) = .ok (.pointer (some ⟨g, k, none⟩)) w1 := by
    have hu : Tryd.prog.underlying 22 = some (.slice (Tryd.prog.elem 22)) := by kernel_rfl
    have hsz : ∀ w, (sizeOf (Tryd.prog.elem 22)).run Tryd.prog w = .ok 1 w := fun w => by kernel_rfl
    rw [run_indexAt_slice (h := hu), if_pos ⟨hk0, hkc⟩, hsz]
    show Result.ok (Value.pointer (some ((⟨g, 0, none⟩ : Addr).add ((k : Int).toNat * 1)))) w1 = _
    rw [show (k : Int).toNat * 1 = k by omega, add_plain, Nat.zero_add]
  rw [hix]
  go_wp2_with (rw [HW2.out])
  refine (open_no g 0 N gc _ w2 HD.out HNB.out.1 HSX.out).mono ?_
  rintro e w9 ⟨rfl, hn⟩
  have HN3 := Lib.hid (HN2.out.trans hn)
  clear hn
  go_wp2
  go_ret
  exact ⟨rfl, HN3.out⟩
end Go.Proofs.YthcolfmjjfjmiaaDoor
