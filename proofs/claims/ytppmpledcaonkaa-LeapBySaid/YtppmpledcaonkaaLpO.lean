/- Plain lemmas: no state but zero comes back before the full round: the primes of 2^256 - 1, and the order of x modulo the generators' polynomials, by the kernel. -/
import Derived.Test.YtppmpledcaonkaaLpB
import Derived.Test.YtppmpledcaonkaaFer
namespace Go.Fer
theorem Gen.pr {p g : Nat} {l : List Nat} (h : Gen p g l) : Pr p := by
  intro d hd
  obtain ⟨e, he⟩ := hd
  have hb := h.big
  rcases Nat.eq_zero_or_pos d with h0 | h0
  · subst h0; omega
  rcases Nat.eq_zero_or_pos e with h1 | h1
  · subst h1; omega
  by_cases h2 : d = 1
  · exact Or.inl h2
  · by_cases h3 : e = 1
    · subst h3; right; omega
    · exfalso
      have hdp : d < p := by
        have : d * 2 ≤ d * e := Nat.mul_le_mul_left d (by omega)
        omega
      have hep : e < p := by
        have : 2 * e ≤ d * e := Nat.mul_le_mul_right e (by omega)
        omega
      apply h.mul_ne d e (by rw [Nat.mod_eq_of_lt hdp]; omega) (by rw [Nat.mod_eq_of_lt hep]; omega)
      rw [← he, Nat.mod_self]
theorem p_3 : Pr 3 := pr3
theorem p_5 : Pr 5 := pr_of _ 2 (by decide +kernel) (by decide +kernel) (by decide +kernel)
theorem p_17 : Pr 17 := pr_of _ 4 (by decide +kernel) (by decide +kernel) (by decide +kernel)
theorem p_257 : Pr 257 := pr_of _ 16 (by decide +kernel) (by decide +kernel) (by decide +kernel)
theorem p_641 : Pr 641 := pr_of _ 25 (by decide +kernel) (by decide +kernel) (by decide +kernel)
theorem p_65537 : Pr 65537 := pr_of _ 256 (by decide +kernel) (by decide +kernel) (by decide +kernel)
theorem p_274177 : Pr 274177 := pr_of _ 523 (by decide +kernel) (by decide +kernel) (by decide +kernel)
theorem p_6700417 : Pr 6700417 := pr_of _ 2588 (by decide +kernel) (by decide +kernel) (by decide +kernel)
theorem p_2 : Pr 2 := pr2
theorem p_47 : Pr 47 := pr_of _ 6 (by decide +kernel) (by decide +kernel) (by decide +kernel)
theorem p_373 : Pr 373 := pr_of _ 19 (by decide +kernel) (by decide +kernel) (by decide +kernel)
theorem p_2998279 : Pr 2998279 := pr_of _ 1731 (by decide +kernel) (by decide +kernel) (by decide +kernel)
theorem p_67280421310721 : Pr 67280421310721 := (gen_of 67280421310721 3 46 [2, 2, 2, 2, 2, 2, 2, 2, 5, 47, 373, 2998279] (by decide +kernel) (by decide +kernel) (by decide +kernel) (by
  intro q hq
  simp only [List.mem_cons, List.not_mem_nil, or_false] at hq
  rcases hq with rfl | rfl | rfl | rfl | rfl | rfl | rfl | rfl | rfl | rfl | rfl | rfl
  · exact p_2
  · exact p_2
  · exact p_2
  · exact p_2
  · exact p_2
  · exact p_2
  · exact p_2
  · exact p_2
  · exact p_5
  · exact p_47
  · exact p_373
  · exact p_2998279) (by decide +kernel) (by decide +kernel)).pr
theorem p_7 : Pr 7 := pr_of _ 2 (by decide +kernel) (by decide +kernel) (by decide +kernel)
theorem p_449 : Pr 449 := pr_of _ 21 (by decide +kernel) (by decide +kernel) (by decide +kernel)
theorem p_181 : Pr 181 := pr_of _ 13 (by decide +kernel) (by decide +kernel) (by decide +kernel)
theorem p_1896229 : Pr 1896229 := pr_of _ 1377 (by decide +kernel) (by decide +kernel) (by decide +kernel)
theorem p_18533742247 : Pr 18533742247 := (gen_of 18533742247 6 35 [2, 3, 3, 3, 181, 1896229] (by decide +kernel) (by decide +kernel) (by decide +kernel) (by
  intro q hq
  simp only [List.mem_cons, List.not_mem_nil, or_false] at hq
  rcases hq with rfl | rfl | rfl | rfl | rfl | rfl
  · exact p_2
  · exact p_3
  · exact p_3
  · exact p_3
  · exact p_181
  · exact p_1896229) (by decide +kernel) (by decide +kernel)).pr
theorem p_116503103764643 : Pr 116503103764643 := (gen_of 116503103764643 2 47 [2, 7, 449, 18533742247] (by decide +kernel) (by decide +kernel) (by decide +kernel) (by
  intro q hq
  simp only [List.mem_cons, List.not_mem_nil, or_false] at hq
  rcases hq with rfl | rfl | rfl | rfl
  · exact p_2
  · exact p_7
  · exact p_449
  · exact p_18533742247) (by decide +kernel) (by decide +kernel)).pr
theorem p_59649589127497217 : Pr 59649589127497217 := (gen_of 59649589127497217 3 56 [2, 2, 2, 2, 2, 2, 2, 2, 2, 116503103764643] (by decide +kernel) (by decide +kernel) (by decide +kernel) (by
  intro q hq
  simp only [List.mem_cons, List.not_mem_nil, or_false] at hq
  rcases hq with rfl | rfl | rfl | rfl | rfl | rfl | rfl | rfl | rfl | rfl
  · exact p_2
  · exact p_2
  · exact p_2
  · exact p_2
  · exact p_2
  · exact p_2
  · exact p_2
  · exact p_2
  · exact p_2
  · exact p_116503103764643) (by decide +kernel) (by decide +kernel)).pr
theorem p_12497 : Pr 12497 := pr_of _ 111 (by decide +kernel) (by decide +kernel) (by decide +kernel)
theorem p_2203 : Pr 2203 := pr_of _ 46 (by decide +kernel) (by decide +kernel) (by decide +kernel)
theorem p_6939437 : Pr 6939437 := pr_of _ 2634 (by decide +kernel) (by decide +kernel) (by decide +kernel)
theorem p_55515497 : Pr 55515497 := (gen_of 55515497 3 26 [2, 2, 2, 6939437] (by decide +kernel) (by decide +kernel) (by decide +kernel) (by
  intro q hq
  simp only [List.mem_cons, List.not_mem_nil, or_false] at hq
  rcases hq with rfl | rfl | rfl | rfl
  · exact p_2
  · exact p_2
  · exact p_2
  · exact p_6939437) (by decide +kernel) (by decide +kernel)).pr
theorem p_733803839347 : Pr 733803839347 := (gen_of 733803839347 2 40 [2, 3, 2203, 55515497] (by decide +kernel) (by decide +kernel) (by decide +kernel) (by
  intro q hq
  simp only [List.mem_cons, List.not_mem_nil, or_false] at hq
  rcases hq with rfl | rfl | rfl | rfl
  · exact p_2
  · exact p_3
  · exact p_2203
  · exact p_55515497) (by decide +kernel) (by decide +kernel)).pr
theorem p_5704689200685129054721 : Pr 5704689200685129054721 := (gen_of 5704689200685129054721 21 73 [2, 2, 2, 2, 2, 2, 2, 2, 2, 3, 3, 3, 3, 3, 5, 12497, 733803839347] (by decide +kernel) (by decide +kernel) (by decide +kernel) (by
  intro q hq
  simp only [List.mem_cons, List.not_mem_nil, or_false] at hq
  rcases hq with rfl | rfl | rfl | rfl | rfl | rfl | rfl | rfl | rfl | rfl | rfl | rfl | rfl | rfl | rfl | rfl | rfl
  · exact p_2
  · exact p_2
  · exact p_2
  · exact p_2
  · exact p_2
  · exact p_2
  · exact p_2
  · exact p_2
  · exact p_2
  · exact p_3
  · exact p_3
  · exact p_3
  · exact p_3
  · exact p_3
  · exact p_5
  · exact p_12497
  · exact p_733803839347) (by decide +kernel) (by decide +kernel)).pr
end Go.Fer
namespace Go.G2
open Go.Proofs.Ytppmpledcaonkaa Go.Fer
set_option linter.unusedVariables false
variable {S : Type} (L : Lin S)
theorem full_of {P n E : Nat} (hn : 0 < n) (hP : bl P = n + 1) (hk : ∀ s, L.act P s = L.z) (h1 : xpG E P = 1) (s : S) : L.it E s = s := by
  have h0 : P ≠ 0 := fun h => by rw [h, bl_zero] at hP; omega
  have h2 := L.act_rm h0 hk (2 ^ E) s
  rw [L.act_pow, show rmG (2 ^ E) P = xpG E P from rfl, h1, L.act_one] at h2
  exact h2.symm
theorem ord_of {P n E H U : Nat} (hn : 0 < n) (hP : bl P = n + 1) (hk : ∀ s, L.act P s = L.z) (hE : E < 2 ^ n) (hH : pwF P (2 ^ n) n n E = H) (hHl : H ^^^ 1 < 2 ^ n) (hU : U < 2 ^ n) (hi : mmF P (2 ^ n) n U (H ^^^ 1) 0 = 1) (s : S) (h : L.it E s = s) : s = L.z := by
  have h0 : P ≠ 0 := fun h => by rw [h, bl_zero] at hP; omega
  have hx := (pw_is hn hP n E hE).1
  rw [hH] at hx
  have h2 := L.act_rm h0 hk (2 ^ E) s
  rw [L.act_pow, show rmG (2 ^ E) P = xpG E P from rfl, ← hx, h] at h2
  have h3 : L.act (H ^^^ 1) s = L.z := by rw [L.act_xor, h2, L.act_one, L.x_self]
  rw [mm_is hP n _ _ _ hU hHl, Nat.zero_xor] at hi
  have h4 := L.act_rm h0 hk (mulG U (H ^^^ 1)) s
  rw [hi, L.act_one, L.act_mul, h3, L.act_z] at h4
  exact h4
theorem period_of (N : Nat) (l : List Nat) (hN : prod l = N) (hp : ∀ q ∈ l, Pr q) (hit : ∀ s, L.it N s = s) (hno : ∀ q ∈ l, ∀ s, L.it (N / q) s = s → s = L.z) (s : S) (m : Nat) (hm0 : 0 < m) (hm : m < N) (h : L.it m s = s) : s = L.z := by
  have hex : ∃ d, 0 < d ∧ d ≤ m ∧ L.it d s = s ∧ ∀ k, 0 < k → k < d → L.it k s ≠ s := by
    have hall : ∀ n, (∃ d, 0 < d ∧ d ≤ n ∧ L.it d s = s ∧ ∀ k, 0 < k → k < d → L.it k s ≠ s) ∨ ∀ k, 0 < k → k ≤ n → L.it k s ≠ s := by
      intro n
      induction n with
      | zero => exact Or.inr (fun k h1 h2 => by omega)
      | succ n ih =>
        rcases ih with ⟨d, h1, h2, h3⟩ | ih
        · exact Or.inl ⟨d, h1, by omega, h3⟩
        · by_cases h4 : L.it (n + 1) s = s
          · exact Or.inl ⟨n + 1, by omega, Nat.le_refl _, h4, fun k h5 h6 => ih k h5 (by omega)⟩
          · refine Or.inr (fun k h5 h6 => ?_)
            rcases Nat.lt_or_ge k (n + 1) with h7 | h7
            · exact ih k h5 (by omega)
            · have : k = n + 1 := by omega
              rw [this]; exact h4
    rcases hall m with h1 | h1
    · exact h1
    · exact absurd h (h1 m hm0 (Nat.le_refl _))
  obtain ⟨d, hd0, hdm, hd, hmin⟩ := hex
  have hdv : d ∣ N := by
    apply Nat.dvd_of_mod_eq_zero
    by_cases h0 : N % d = 0
    · exact h0
    · exfalso
      apply hmin (N % d) (by omega) (Nat.mod_lt _ hd0)
      have e : N = N % d + (N / d) * d := by rw [Nat.mul_comm]; exact (Nat.mod_add_div N d).symm
      have h2 := hit s
      rw [e, L.it_add, L.it_mul d s hd (N / d)] at h2
      exact h2
  obtain ⟨k, hk⟩ := hdv
  have hk1 : 1 < k := by
    rcases Nat.lt_or_ge 1 k with h1 | h1
    · exact h1
    · exfalso
      have : d * k ≤ d * 1 := Nat.mul_le_mul_left d h1
      omega
  obtain ⟨q, hq, r, hr⟩ := factor_in l hp k hk1 (by rw [hN, hk]; exact Nat.dvd_mul_left k d)
  have hq0 : 0 < q := by
    rcases Nat.eq_zero_or_pos q with h0 | h0
    · subst h0; omega
    · exact h0
  apply hno q hq s
  have e : N / q = r * d := by
    rw [hk, hr, show d * (q * r) = q * (r * d) from by rw [← Nat.mul_assoc, Nat.mul_comm d q, Nat.mul_assoc, Nat.mul_comm d r]]
    exact Nat.mul_div_cancel_left _ hq0
  rw [e]
  exact L.it_mul d s hd r
set_option maxRecDepth 100000 in
theorem o4_3 (s : V4) (h : LV4.it (115792089237316195423570985008687907853269984665640564039457584007913129639935 / 3) s = s) : s = LV4.z :=
  ord_of LV4 (P := pol4) (n := 256) (E := 115792089237316195423570985008687907853269984665640564039457584007913129639935 / 3) (H := 38373520178097791684943366336456012603712921536183214402132921942189381965699) (U := 38373520178097791684943366336456012603712921536183214402132921942189381965699) (by decide) bl_pol4 kill4 (by decide +kernel) (by decide +kernel) (by decide +kernel) (by decide +kernel) (by decide +kernel) s h
set_option maxRecDepth 100000 in
theorem o4_5 (s : V4) (h : LV4.it (115792089237316195423570985008687907853269984665640564039457584007913129639935 / 5) s = s) : s = LV4.z :=
  ord_of LV4 (P := pol4) (n := 256) (E := 115792089237316195423570985008687907853269984665640564039457584007913129639935 / 5) (H := 50110964963528988184204914476651486299414688363942212256993065429190704877005) (U := 4384426445939095924597427982802969713665598903842122073255769710606743205919) (by decide) bl_pol4 kill4 (by decide +kernel) (by decide +kernel) (by decide +kernel) (by decide +kernel) (by decide +kernel) s h
set_option maxRecDepth 100000 in
theorem o4_17 (s : V4) (h : LV4.it (115792089237316195423570985008687907853269984665640564039457584007913129639935 / 17) s = s) : s = LV4.z :=
  ord_of LV4 (P := pol4) (n := 256) (E := 115792089237316195423570985008687907853269984665640564039457584007913129639935 / 17) (H := 65201206667179690846529120639769732830252112826310572164762062994860403756777) (U := 110541785489121634118332740830866833243599279033506448544894358724282201046735) (by decide) bl_pol4 kill4 (by decide +kernel) (by decide +kernel) (by decide +kernel) (by decide +kernel) (by decide +kernel) s h
set_option maxRecDepth 100000 in
theorem o4_257 (s : V4) (h : LV4.it (115792089237316195423570985008687907853269984665640564039457584007913129639935 / 257) s = s) : s = LV4.z :=
  ord_of LV4 (P := pol4) (n := 256) (E := 115792089237316195423570985008687907853269984665640564039457584007913129639935 / 257) (H := 114759294185583069619216424754987087982014907183942463064937125700115218779941) (U := 44126305632520792786860708777746553288961840011855851091728988366567368805750) (by decide) bl_pol4 kill4 (by decide +kernel) (by decide +kernel) (by decide +kernel) (by decide +kernel) (by decide +kernel) s h
set_option maxRecDepth 100000 in
theorem o4_641 (s : V4) (h : LV4.it (115792089237316195423570985008687907853269984665640564039457584007913129639935 / 641) s = s) : s = LV4.z :=
  ord_of LV4 (P := pol4) (n := 256) (E := 115792089237316195423570985008687907853269984665640564039457584007913129639935 / 641) (H := 39855909309603631351753381120992492945760819445096073802973021572661049878812) (U := 39264373639335806360310168411117371156813249361714983888383607331397034094847) (by decide) bl_pol4 kill4 (by decide +kernel) (by decide +kernel) (by decide +kernel) (by decide +kernel) (by decide +kernel) s h
set_option maxRecDepth 100000 in
theorem o4_65537 (s : V4) (h : LV4.it (115792089237316195423570985008687907853269984665640564039457584007913129639935 / 65537) s = s) : s = LV4.z :=
  ord_of LV4 (P := pol4) (n := 256) (E := 115792089237316195423570985008687907853269984665640564039457584007913129639935 / 65537) (H := 82530251912604274168289199396433904349108396990571268118773805265285315157496) (U := 41364558615377796321236925488928968777520935874163467287884241121016861849919) (by decide) bl_pol4 kill4 (by decide +kernel) (by decide +kernel) (by decide +kernel) (by decide +kernel) (by decide +kernel) s h
set_option maxRecDepth 100000 in
theorem o4_274177 (s : V4) (h : LV4.it (115792089237316195423570985008687907853269984665640564039457584007913129639935 / 274177) s = s) : s = LV4.z :=
  ord_of LV4 (P := pol4) (n := 256) (E := 115792089237316195423570985008687907853269984665640564039457584007913129639935 / 274177) (H := 103871770919893426235956942808510812628089421282824422594653193660584883540184) (U := 16660084877603088988606459432931183206286717631952300401256307603774371687109) (by decide) bl_pol4 kill4 (by decide +kernel) (by decide +kernel) (by decide +kernel) (by decide +kernel) (by decide +kernel) s h
set_option maxRecDepth 100000 in
theorem o4_6700417 (s : V4) (h : LV4.it (115792089237316195423570985008687907853269984665640564039457584007913129639935 / 6700417) s = s) : s = LV4.z :=
  ord_of LV4 (P := pol4) (n := 256) (E := 115792089237316195423570985008687907853269984665640564039457584007913129639935 / 6700417) (H := 89679935907375568657177530628510926552082896572322122305850981138462216202221) (U := 12693949399860525965997211201124504574410961553597193866048805161284874112054) (by decide) bl_pol4 kill4 (by decide +kernel) (by decide +kernel) (by decide +kernel) (by decide +kernel) (by decide +kernel) s h
set_option maxRecDepth 100000 in
theorem o4_67280421310721 (s : V4) (h : LV4.it (115792089237316195423570985008687907853269984665640564039457584007913129639935 / 67280421310721) s = s) : s = LV4.z :=
  ord_of LV4 (P := pol4) (n := 256) (E := 115792089237316195423570985008687907853269984665640564039457584007913129639935 / 67280421310721) (H := 21596814994396422927830922391655131403534331606328806273570240487988098549204) (U := 88533940771238073175004357670013658451311214678294006315637054256668220558584) (by decide) bl_pol4 kill4 (by decide +kernel) (by decide +kernel) (by decide +kernel) (by decide +kernel) (by decide +kernel) s h
set_option maxRecDepth 100000 in
theorem o4_59649589127497217 (s : V4) (h : LV4.it (115792089237316195423570985008687907853269984665640564039457584007913129639935 / 59649589127497217) s = s) : s = LV4.z :=
  ord_of LV4 (P := pol4) (n := 256) (E := 115792089237316195423570985008687907853269984665640564039457584007913129639935 / 59649589127497217) (H := 4428659109661054016065847213943422351758960054654653704101922702881084625830) (U := 19469530048050167360678825071135847039656869457463300798095665008845516373222) (by decide) bl_pol4 kill4 (by decide +kernel) (by decide +kernel) (by decide +kernel) (by decide +kernel) (by decide +kernel) s h
set_option maxRecDepth 100000 in
theorem o4_5704689200685129054721 (s : V4) (h : LV4.it (115792089237316195423570985008687907853269984665640564039457584007913129639935 / 5704689200685129054721) s = s) : s = LV4.z :=
  ord_of LV4 (P := pol4) (n := 256) (E := 115792089237316195423570985008687907853269984665640564039457584007913129639935 / 5704689200685129054721) (H := 27754897415875582306125355411785507014281272842885338252410936736995756642636) (U := 5726328750835857029458229068837577261900092640816380810868545732223033545189) (by decide) bl_pol4 kill4 (by decide +kernel) (by decide +kernel) (by decide +kernel) (by decide +kernel) (by decide +kernel) s h
/-- no state but zero is itself again before the full round -/
theorem period4 (s : V4) (m : Nat) (h0 : 0 < m) (hm : m < 115792089237316195423570985008687907853269984665640564039457584007913129639935) (h : LV4.it m s = s) : s = LV4.z := by
  refine period_of LV4 115792089237316195423570985008687907853269984665640564039457584007913129639935 [3, 5, 17, 257, 641, 65537, 274177, 6700417, 67280421310721, 59649589127497217, 5704689200685129054721] (by decide +kernel) (by
    intro q hq
    simp only [List.mem_cons, List.not_mem_nil, or_false] at hq
    rcases hq with rfl | rfl | rfl | rfl | rfl | rfl | rfl | rfl | rfl | rfl | rfl
    · exact p_3
    · exact p_5
    · exact p_17
    · exact p_257
    · exact p_641
    · exact p_65537
    · exact p_274177
    · exact p_6700417
    · exact p_67280421310721
    · exact p_59649589127497217
    · exact p_5704689200685129054721) (fun s => full_of LV4 (by decide) bl_pol4 kill4 round4 s) (by
    intro q hq s h
    simp only [List.mem_cons, List.not_mem_nil, or_false] at hq
    rcases hq with rfl | rfl | rfl | rfl | rfl | rfl | rfl | rfl | rfl | rfl | rfl
    · exact o4_3 s h
    · exact o4_5 s h
    · exact o4_17 s h
    · exact o4_257 s h
    · exact o4_641 s h
    · exact o4_65537 s h
    · exact o4_274177 s h
    · exact o4_6700417 s h
    · exact o4_67280421310721 s h
    · exact o4_59649589127497217 s h
    · exact o4_5704689200685129054721 s h) s m h0 hm h
set_option maxRecDepth 100000 in
theorem oS_3 (s : V2) (h : (LV2 24 16 37 (by decide) (by decide)).it (340282366920938463463374607431768211455 / 3) s = s) : s = (LV2 24 16 37 (by decide) (by decide)).z :=
  ord_of (LV2 24 16 37 (by decide) (by decide)) (P := polS) (n := 128) (E := 340282366920938463463374607431768211455 / 3) (H := 54068298935904287807113292502129625048) (U := 54068298935904287807113292502129625048) (by decide) bl_polS killS (by decide +kernel) (by decide +kernel) (by decide +kernel) (by decide +kernel) (by decide +kernel) s h
set_option maxRecDepth 100000 in
theorem oS_5 (s : V2) (h : (LV2 24 16 37 (by decide) (by decide)).it (340282366920938463463374607431768211455 / 5) s = s) : s = (LV2 24 16 37 (by decide) (by decide)).z :=
  ord_of (LV2 24 16 37 (by decide) (by decide)) (P := polS) (n := 128) (E := 340282366920938463463374607431768211455 / 5) (H := 203305799992780143718698868677919094122) (U := 252984460828109805362750244483772499955) (by decide) bl_polS killS (by decide +kernel) (by decide +kernel) (by decide +kernel) (by decide +kernel) (by decide +kernel) s h
set_option maxRecDepth 100000 in
theorem oS_17 (s : V2) (h : (LV2 24 16 37 (by decide) (by decide)).it (340282366920938463463374607431768211455 / 17) s = s) : s = (LV2 24 16 37 (by decide) (by decide)).z :=
  ord_of (LV2 24 16 37 (by decide) (by decide)) (P := polS) (n := 128) (E := 340282366920938463463374607431768211455 / 17) (H := 267092093679581330478149433242509955570) (U := 14638274987662255644002560645656116664) (by decide) bl_polS killS (by decide +kernel) (by decide +kernel) (by decide +kernel) (by decide +kernel) (by decide +kernel) s h
set_option maxRecDepth 100000 in
theorem oS_257 (s : V2) (h : (LV2 24 16 37 (by decide) (by decide)).it (340282366920938463463374607431768211455 / 257) s = s) : s = (LV2 24 16 37 (by decide) (by decide)).z :=
  ord_of (LV2 24 16 37 (by decide) (by decide)) (P := polS) (n := 128) (E := 340282366920938463463374607431768211455 / 257) (H := 53425001904657541934988062827979368150) (U := 64995446946714984731522728281250855382) (by decide) bl_polS killS (by decide +kernel) (by decide +kernel) (by decide +kernel) (by decide +kernel) (by decide +kernel) s h
set_option maxRecDepth 100000 in
theorem oS_641 (s : V2) (h : (LV2 24 16 37 (by decide) (by decide)).it (340282366920938463463374607431768211455 / 641) s = s) : s = (LV2 24 16 37 (by decide) (by decide)).z :=
  ord_of (LV2 24 16 37 (by decide) (by decide)) (P := polS) (n := 128) (E := 340282366920938463463374607431768211455 / 641) (H := 236973170206209039123915657531367162392) (U := 147226009004791688851259506029169943670) (by decide) bl_polS killS (by decide +kernel) (by decide +kernel) (by decide +kernel) (by decide +kernel) (by decide +kernel) s h
set_option maxRecDepth 100000 in
theorem oS_65537 (s : V2) (h : (LV2 24 16 37 (by decide) (by decide)).it (340282366920938463463374607431768211455 / 65537) s = s) : s = (LV2 24 16 37 (by decide) (by decide)).z :=
  ord_of (LV2 24 16 37 (by decide) (by decide)) (P := polS) (n := 128) (E := 340282366920938463463374607431768211455 / 65537) (H := 172010888357594622779172266090542214215) (U := 79856766895708353110086771044499417758) (by decide) bl_polS killS (by decide +kernel) (by decide +kernel) (by decide +kernel) (by decide +kernel) (by decide +kernel) s h
set_option maxRecDepth 100000 in
theorem oS_274177 (s : V2) (h : (LV2 24 16 37 (by decide) (by decide)).it (340282366920938463463374607431768211455 / 274177) s = s) : s = (LV2 24 16 37 (by decide) (by decide)).z :=
  ord_of (LV2 24 16 37 (by decide) (by decide)) (P := polS) (n := 128) (E := 340282366920938463463374607431768211455 / 274177) (H := 208733272745892444982830971156336922166) (U := 73455679920047619786217816082196946620) (by decide) bl_polS killS (by decide +kernel) (by decide +kernel) (by decide +kernel) (by decide +kernel) (by decide +kernel) s h
set_option maxRecDepth 100000 in
theorem oS_6700417 (s : V2) (h : (LV2 24 16 37 (by decide) (by decide)).it (340282366920938463463374607431768211455 / 6700417) s = s) : s = (LV2 24 16 37 (by decide) (by decide)).z :=
  ord_of (LV2 24 16 37 (by decide) (by decide)) (P := polS) (n := 128) (E := 340282366920938463463374607431768211455 / 6700417) (H := 175523151177770324790694746363294698594) (U := 334912597042788931219965943129196371669) (by decide) bl_polS killS (by decide +kernel) (by decide +kernel) (by decide +kernel) (by decide +kernel) (by decide +kernel) s h
set_option maxRecDepth 100000 in
theorem oS_67280421310721 (s : V2) (h : (LV2 24 16 37 (by decide) (by decide)).it (340282366920938463463374607431768211455 / 67280421310721) s = s) : s = (LV2 24 16 37 (by decide) (by decide)).z :=
  ord_of (LV2 24 16 37 (by decide) (by decide)) (P := polS) (n := 128) (E := 340282366920938463463374607431768211455 / 67280421310721) (H := 137592375596999269891985607758904172925) (U := 114123264804619493085611495459400395026) (by decide) bl_polS killS (by decide +kernel) (by decide +kernel) (by decide +kernel) (by decide +kernel) (by decide +kernel) s h
/-- no state but zero is itself again before the full round -/
theorem periodS (s : V2) (m : Nat) (h0 : 0 < m) (hm : m < 340282366920938463463374607431768211455) (h : (LV2 24 16 37 (by decide) (by decide)).it m s = s) : s = (LV2 24 16 37 (by decide) (by decide)).z := by
  refine period_of (LV2 24 16 37 (by decide) (by decide)) 340282366920938463463374607431768211455 [3, 5, 17, 257, 641, 65537, 274177, 6700417, 67280421310721] (by decide +kernel) (by
    intro q hq
    simp only [List.mem_cons, List.not_mem_nil, or_false] at hq
    rcases hq with rfl | rfl | rfl | rfl | rfl | rfl | rfl | rfl | rfl
    · exact p_3
    · exact p_5
    · exact p_17
    · exact p_257
    · exact p_641
    · exact p_65537
    · exact p_274177
    · exact p_6700417
    · exact p_67280421310721) (fun s => full_of (LV2 24 16 37 (by decide) (by decide)) (by decide) bl_polS killS roundS s) (by
    intro q hq s h
    simp only [List.mem_cons, List.not_mem_nil, or_false] at hq
    rcases hq with rfl | rfl | rfl | rfl | rfl | rfl | rfl | rfl | rfl
    · exact oS_3 s h
    · exact oS_5 s h
    · exact oS_17 s h
    · exact oS_257 s h
    · exact oS_641 s h
    · exact oS_65537 s h
    · exact oS_274177 s h
    · exact oS_6700417 s h
    · exact oS_67280421310721 s h) s m h0 hm h
set_option maxRecDepth 100000 in
theorem oP_3 (s : V2) (h : (LV2 49 21 28 (by decide) (by decide)).it (340282366920938463463374607431768211455 / 3) s = s) : s = (LV2 49 21 28 (by decide) (by decide)).z :=
  ord_of (LV2 49 21 28 (by decide) (by decide)) (P := polP) (n := 128) (E := 340282366920938463463374607431768211455 / 3) (H := 278529982676213476744412065422077734479) (U := 278529982676213476744412065422077734479) (by decide) bl_polP killP (by decide +kernel) (by decide +kernel) (by decide +kernel) (by decide +kernel) (by decide +kernel) s h
set_option maxRecDepth 100000 in
theorem oP_5 (s : V2) (h : (LV2 49 21 28 (by decide) (by decide)).it (340282366920938463463374607431768211455 / 5) s = s) : s = (LV2 49 21 28 (by decide) (by decide)).z :=
  ord_of (LV2 49 21 28 (by decide) (by decide)) (P := polP) (n := 128) (E := 340282366920938463463374607431768211455 / 5) (H := 46243825116691758892493812714364112527) (U := 162338409149790339622126054123205496956) (by decide) bl_polP killP (by decide +kernel) (by decide +kernel) (by decide +kernel) (by decide +kernel) (by decide +kernel) s h
set_option maxRecDepth 100000 in
theorem oP_17 (s : V2) (h : (LV2 49 21 28 (by decide) (by decide)).it (340282366920938463463374607431768211455 / 17) s = s) : s = (LV2 49 21 28 (by decide) (by decide)).z :=
  ord_of (LV2 49 21 28 (by decide) (by decide)) (P := polP) (n := 128) (E := 340282366920938463463374607431768211455 / 17) (H := 73359246722583849878434064886041521254) (U := 23452566297833957891344785341742775765) (by decide) bl_polP killP (by decide +kernel) (by decide +kernel) (by decide +kernel) (by decide +kernel) (by decide +kernel) s h
set_option maxRecDepth 100000 in
theorem oP_257 (s : V2) (h : (LV2 49 21 28 (by decide) (by decide)).it (340282366920938463463374607431768211455 / 257) s = s) : s = (LV2 49 21 28 (by decide) (by decide)).z :=
  ord_of (LV2 49 21 28 (by decide) (by decide)) (P := polP) (n := 128) (E := 340282366920938463463374607431768211455 / 257) (H := 119253453686697908828989667864800708527) (U := 30154837806964610750210453339429300368) (by decide) bl_polP killP (by decide +kernel) (by decide +kernel) (by decide +kernel) (by decide +kernel) (by decide +kernel) s h
set_option maxRecDepth 100000 in
theorem oP_641 (s : V2) (h : (LV2 49 21 28 (by decide) (by decide)).it (340282366920938463463374607431768211455 / 641) s = s) : s = (LV2 49 21 28 (by decide) (by decide)).z :=
  ord_of (LV2 49 21 28 (by decide) (by decide)) (P := polP) (n := 128) (E := 340282366920938463463374607431768211455 / 641) (H := 151155811402946439120682111230908144812) (U := 240060802740658076742527034391489361899) (by decide) bl_polP killP (by decide +kernel) (by decide +kernel) (by decide +kernel) (by decide +kernel) (by decide +kernel) s h
set_option maxRecDepth 100000 in
theorem oP_65537 (s : V2) (h : (LV2 49 21 28 (by decide) (by decide)).it (340282366920938463463374607431768211455 / 65537) s = s) : s = (LV2 49 21 28 (by decide) (by decide)).z :=
  ord_of (LV2 49 21 28 (by decide) (by decide)) (P := polP) (n := 128) (E := 340282366920938463463374607431768211455 / 65537) (H := 200436290935057410066044927484020400039) (U := 291201654827679613200345867387529183305) (by decide) bl_polP killP (by decide +kernel) (by decide +kernel) (by decide +kernel) (by decide +kernel) (by decide +kernel) s h
set_option maxRecDepth 100000 in
theorem oP_274177 (s : V2) (h : (LV2 49 21 28 (by decide) (by decide)).it (340282366920938463463374607431768211455 / 274177) s = s) : s = (LV2 49 21 28 (by decide) (by decide)).z :=
  ord_of (LV2 49 21 28 (by decide) (by decide)) (P := polP) (n := 128) (E := 340282366920938463463374607431768211455 / 274177) (H := 178583970229515981918949431095596810338) (U := 215630522619712348248278734873654154085) (by decide) bl_polP killP (by decide +kernel) (by decide +kernel) (by decide +kernel) (by decide +kernel) (by decide +kernel) s h
set_option maxRecDepth 100000 in
theorem oP_6700417 (s : V2) (h : (LV2 49 21 28 (by decide) (by decide)).it (340282366920938463463374607431768211455 / 6700417) s = s) : s = (LV2 49 21 28 (by decide) (by decide)).z :=
  ord_of (LV2 49 21 28 (by decide) (by decide)) (P := polP) (n := 128) (E := 340282366920938463463374607431768211455 / 6700417) (H := 113602230367994378097690069384243528995) (U := 212735017662463742435434023614870334243) (by decide) bl_polP killP (by decide +kernel) (by decide +kernel) (by decide +kernel) (by decide +kernel) (by decide +kernel) s h
set_option maxRecDepth 100000 in
theorem oP_67280421310721 (s : V2) (h : (LV2 49 21 28 (by decide) (by decide)).it (340282366920938463463374607431768211455 / 67280421310721) s = s) : s = (LV2 49 21 28 (by decide) (by decide)).z :=
  ord_of (LV2 49 21 28 (by decide) (by decide)) (P := polP) (n := 128) (E := 340282366920938463463374607431768211455 / 67280421310721) (H := 221509702262100191028965397559248119258) (U := 339062055186107189494927606825919791174) (by decide) bl_polP killP (by decide +kernel) (by decide +kernel) (by decide +kernel) (by decide +kernel) (by decide +kernel) s h
/-- no state but zero is itself again before the full round -/
theorem periodP (s : V2) (m : Nat) (h0 : 0 < m) (hm : m < 340282366920938463463374607431768211455) (h : (LV2 49 21 28 (by decide) (by decide)).it m s = s) : s = (LV2 49 21 28 (by decide) (by decide)).z := by
  refine period_of (LV2 49 21 28 (by decide) (by decide)) 340282366920938463463374607431768211455 [3, 5, 17, 257, 641, 65537, 274177, 6700417, 67280421310721] (by decide +kernel) (by
    intro q hq
    simp only [List.mem_cons, List.not_mem_nil, or_false] at hq
    rcases hq with rfl | rfl | rfl | rfl | rfl | rfl | rfl | rfl | rfl
    · exact p_3
    · exact p_5
    · exact p_17
    · exact p_257
    · exact p_641
    · exact p_65537
    · exact p_274177
    · exact p_6700417
    · exact p_67280421310721) (fun s => full_of (LV2 49 21 28 (by decide) (by decide)) (by decide) bl_polP killP roundP s) (by
    intro q hq s h
    simp only [List.mem_cons, List.not_mem_nil, or_false] at hq
    rcases hq with rfl | rfl | rfl | rfl | rfl | rfl | rfl | rfl | rfl
    · exact oP_3 s h
    · exact oP_5 s h
    · exact oP_17 s h
    · exact oP_257 s h
    · exact oP_641 s h
    · exact oP_65537 s h
    · exact oP_274177 s h
    · exact oP_6700417 s h
    · exact oP_67280421310721 s h) s m h0 hm h
end Go.G2
