/- Texts of the seat, joined. -/
import Derived.Test.YtlioffkonfkflaaGreatZz22
import Derived.Test.YtlioffkonfkflaaGreatZz23
import Derived.Test.YtlioffkonfkflaaGreatZz21
/- The law of what intervals hold, given the document's division. -/
namespace Go.Proofs.YtlioffkonfkflaaGreat
open Go Go.RowKit
set_option linter.unusedSimpArgs false
set_option linter.unusedVariables false
set_option maxRecDepth 100000

section
variable (l h : Int) (p : Bool) (m k : Int) (q : Bool) (x y n1 d x1 y1 s1 s2 t1 t2 m1 m2 p1 p2 g1 g2 : Int)
theorem iw_no : runB Tryz.prog 4 #[iv l h p, iv m k q, ii x, ii y, ii n1, ii d] [] [] [(11, rt (bb true))] [(13, rt (bb false), J2 1002 l h p m k q)] =
    some (rt (bb true), [], [CallsV Tryz.prog (.func 13) #[sl 1002 2] (J2 1002 l h p m k q) (rt (bb false)) (J2 1002 l h p m k q), PureX Tryz.prog 11 #[] (rt (bb true))]) := by kernel_rfl
theorem iw : ∀ (b1 b2 b3 b4 dd : Bool), (b4 = false → dd = true) → runB Tryz.prog 4 #[iv l h p, iv m k q, ii x, ii y, ii n1, ii d] [] (orH b1 b2 dd)
      ([(38, rt (ii x1)), (38, rt (ii y1)), (24, rt (ivb b1 s1 s2)), (26, rt (ivb b2 t1 t2)), (30, rt (ivb b3 m1 m2)), (32, rt (ivb b4 p1 p2)), (28, rt (iv g1 g2 false))] ++ (hdA b3 ++ (hdA b4 ++ [(11, rt (bb true))]))) [(13, rt (bb true), J2 1002 l h p m k q)] =
    some (rt (bb true), [], [CallsV Tryz.prog (.func 13) #[sl 1002 2] (J2 1002 l h p m k q) (rt (bb true)) (J2 1002 l h p m k q), PureX Tryz.prog 38 #[iv l h p, ii x] (rt (ii x1)), PureX Tryz.prog 38 #[iv m k q, ii y] (rt (ii y1)), PureX Tryz.prog 24 #[iv l h p, iv m k q] (rt (ivb b1 s1 s2)), PureX Tryz.prog 26 #[iv l h p, iv m k q] (rt (ivb b2 t1 t2)), PureX Tryz.prog 30 #[iv l h p, iv m k q] (rt (ivb b3 m1 m2)), PureX Tryz.prog 32 #[iv l h p, ii n1, ii d] (rt (ivb b4 p1 p2))] ++
      (tsB b1 (IntKind.i64.wrap (x1 + y1)) s1 s2 ++ (tsB b2 (IntKind.i64.wrap (x1 - y1)) t1 t2 ++ ([PureX Tryz.prog 28 #[iv l h p] (rt (iv g1 g2 false)), (!((g1 == IntKind.i64.wrap (0 - h)) && ((g2 == IntKind.i64.wrap (0 - l)) && ((true) && (true))))) = false] ++ (hdB b3 m1 m2 x1 y1 1073741824 ++ (hdB b4 p1 p2 x1 n1 d ++ [(d != 0) = dd, PureX Tryz.prog 11 #[] (rt (bb true))])))))) := by
  intro b1 b2 b3 b4 dd hd
  cases b1 <;> cases b2 <;> cases b3 <;> cases b4 <;> cases dd
  · exact absurd (hd rfl) (by decide)
  · exact iw_fffft l h p m k q x y n1 d x1 y1 s1 s2 t1 t2 m1 m2 p1 p2 g1 g2
  · exact iw_ffftf l h p m k q x y n1 d x1 y1 s1 s2 t1 t2 m1 m2 p1 p2 g1 g2
  · exact iw_ffftt l h p m k q x y n1 d x1 y1 s1 s2 t1 t2 m1 m2 p1 p2 g1 g2
  · exact absurd (hd rfl) (by decide)
  · exact iw_fftft l h p m k q x y n1 d x1 y1 s1 s2 t1 t2 m1 m2 p1 p2 g1 g2
  · exact iw_ffttf l h p m k q x y n1 d x1 y1 s1 s2 t1 t2 m1 m2 p1 p2 g1 g2
  · exact iw_ffttt l h p m k q x y n1 d x1 y1 s1 s2 t1 t2 m1 m2 p1 p2 g1 g2
  · exact absurd (hd rfl) (by decide)
  · exact iw_ftfft l h p m k q x y n1 d x1 y1 s1 s2 t1 t2 m1 m2 p1 p2 g1 g2
  · exact iw_ftftf l h p m k q x y n1 d x1 y1 s1 s2 t1 t2 m1 m2 p1 p2 g1 g2
  · exact iw_ftftt l h p m k q x y n1 d x1 y1 s1 s2 t1 t2 m1 m2 p1 p2 g1 g2
  · exact absurd (hd rfl) (by decide)
  · exact iw_fttft l h p m k q x y n1 d x1 y1 s1 s2 t1 t2 m1 m2 p1 p2 g1 g2
  · exact iw_ftttf l h p m k q x y n1 d x1 y1 s1 s2 t1 t2 m1 m2 p1 p2 g1 g2
  · exact iw_ftttt l h p m k q x y n1 d x1 y1 s1 s2 t1 t2 m1 m2 p1 p2 g1 g2
  · exact absurd (hd rfl) (by decide)
  · exact iw_tffft l h p m k q x y n1 d x1 y1 s1 s2 t1 t2 m1 m2 p1 p2 g1 g2
  · exact iw_tfftf l h p m k q x y n1 d x1 y1 s1 s2 t1 t2 m1 m2 p1 p2 g1 g2
  · exact iw_tfftt l h p m k q x y n1 d x1 y1 s1 s2 t1 t2 m1 m2 p1 p2 g1 g2
  · exact absurd (hd rfl) (by decide)
  · exact iw_tftft l h p m k q x y n1 d x1 y1 s1 s2 t1 t2 m1 m2 p1 p2 g1 g2
  · exact iw_tfttf l h p m k q x y n1 d x1 y1 s1 s2 t1 t2 m1 m2 p1 p2 g1 g2
  · exact iw_tfttt l h p m k q x y n1 d x1 y1 s1 s2 t1 t2 m1 m2 p1 p2 g1 g2
  · exact absurd (hd rfl) (by decide)
  · exact iw_ttfft l h p m k q x y n1 d x1 y1 s1 s2 t1 t2 m1 m2 p1 p2 g1 g2
  · exact iw_ttftf l h p m k q x y n1 d x1 y1 s1 s2 t1 t2 m1 m2 p1 p2 g1 g2
  · exact iw_ttftt l h p m k q x y n1 d x1 y1 s1 s2 t1 t2 m1 m2 p1 p2 g1 g2
  · exact absurd (hd rfl) (by decide)
  · exact iw_tttft l h p m k q x y n1 d x1 y1 s1 s2 t1 t2 m1 m2 p1 p2 g1 g2
  · exact iw_ttttf l h p m k q x y n1 d x1 y1 s1 s2 t1 t2 m1 m2 p1 p2 g1 g2
  · exact iw_ttttt l h p m k q x y n1 d x1 y1 s1 s2 t1 t2 m1 m2 p1 p2 g1 g2
end

theorem ivb_of {f : Nat} {A : Array Value} {u : IV} (hc : PureX Tryz.prog f A (rt (ivv u))) (hb : u.2.2 = true → u = bdV) : PureX Tryz.prog f A (rt (ivb u.2.2 u.1 u.2.1)) := by
  cases hu : u.2.2
  · rw [ivv_eq (ext3 rfl rfl hu)] at hc
    exact hc
  · rw [hb hu] at hc
    exact hc
theorem tsB_of {b : Bool} {e lo hi : Int} (h : b = false → lo ≤ e ∧ e ≤ hi) : AllP (tsB b e lo hi) := by
  cases b
  · have := h rfl
    exact ⟨decide_eq_false (by omega), decide_eq_false (by omega), trivial⟩
  · trivial
theorem hdB_of {b : Bool} {u v x n d : Int} (h : b = false → PureX Tryz.prog 39 #[iv u v false, ii x, ii n, ii d] (rt (bb true))) : AllP (hdB b u v x n d) := by
  cases b
  · exact ⟨h rfl, trivial⟩
  · trivial
theorem add_bd {x y : IV} (hb : (addV x y).2.2 = true) : addV x y = bdV := by
  unfold addV at hb ⊢
  split at hb
  · rename_i h; rw [if_pos h]; exact mk_bd hb
  · rename_i h; rw [if_neg h]
theorem sub_bd {x y : IV} (hb : (subV x y).2.2 = true) : subV x y = bdV := by
  unfold subV at hb ⊢
  split at hb
  · rename_i h; rw [if_pos h]; exact mk_bd hb
  · rename_i h; rw [if_neg h]
theorem mul_bd {x y : IV} (hb : (mulV x y).2.2 = true) : mulV x y = bdV := by
  unfold mulV outV at hb
  unfold mulV outV
  split at hb
  · rename_i h; rw [if_pos h]; exact mk_bd hb
  · rename_i h; rw [if_neg h]
theorem partP_bd {x : IV} {n d : Int} (hb : (partP x n d).2.2 = true) : partP x n d = bdV := by
  unfold partP outV at hb
  unfold partP outV
  split at hb
  · rename_i h; rw [if_pos h]; exact mk_bd hb
  · rename_i h; rw [if_neg h]
theorem part_bd {x : IV} {n d : Int} (hb : (partV x n d).2.2 = true) : partV x n d = bdV := by
  unfold partV at hb ⊢
  split at hb
  · rename_i h; rw [if_pos h]
  · rename_i h
    rw [if_neg h]
    split at hb
    · rename_i h; rw [if_pos h]; exact partP_bd hb
    · rename_i h; rw [if_neg h]; exact partP_bd hb
theorem iholds_walk (hP : PlainOK) (a b : IV) (x y n d : Int) (hx : isI x) (hy : isI y) (hn : isI n) (hd : isI d) : PureX Tryz.prog 4 #[ivv a, ivv b, ii x, ii y, ii n, ii d] (rt (bb true)) := by
  have hf := rfine_v2 1002 a b
  cases hk : okV a && okV b
  · rw [hk] at hf
    exact runB_pure mix (iw_no _ _ _ _ _ _ _ _ _ _) ⟨hf, wakes5_c, trivial⟩ rfl rfl
  rw [hk] at hf
  simp only [Bool.and_eq_true] at hk
  obtain ⟨ha, hb⟩ := hk
  have ka := okV_iff.1 ha
  have kb := okV_iff.1 hb
  have ix := in5_v ha hx
  have iy := in5_v hb hy
  obtain ⟨u1, u2⟩ := inZ_in ha x
  obtain ⟨v1, v2⟩ := inZ_in hb y
  have iu := ok_isI ha u1 u2
  have iv1 := ok_isI hb v1 v2
  generalize inZ a x = s at ix u1 u2 iu
  generalize inZ b y = t at iy v1 v2 iv1
  have hO : isI 1073741824 := by unfold isI; omega
  have g := ineg_v a
  rw [negV_ok ha, ivv_eq rfl] at g
  have w1 : IntKind.i64.wrap (s + t) = s + t := wrapI (by omega)
  have w2 : IntKind.i64.wrap (s - t) = s - t := wrapI (by omega)
  have w3 : IntKind.i64.wrap (0 - a.1) = -a.1 := neg_wrap ka.2.1 (by omega)
  have w4 : IntKind.i64.wrap (0 - a.2.1) = -a.2.1 := neg_wrap (by omega) (by omega)
  have A1 := ivb_of (add_v a b) add_bd
  have A2 := ivb_of (isub_v a b) sub_bd
  have A3 := ivb_of (imul_v a b) mul_bd
  have A4 := ivb_of (part_v a hn hd) part_bd
  have B1 : AllP (tsB (addV a b).2.2 (IntKind.i64.wrap (s + t)) (addV a b).1 (addV a b).2.1) := tsB_of fun h => by
    rw [addV_ok ha hb] at h ⊢
    obtain ⟨_, _, _, e⟩ := mkV_bad h
    rw [w1, e]
    exact ⟨Int.add_le_add u1 v1, Int.add_le_add u2 v2⟩
  have B2 : AllP (tsB (subV a b).2.2 (IntKind.i64.wrap (s - t)) (subV a b).1 (subV a b).2.1) := tsB_of fun h => by
    rw [subV_ok ha hb] at h ⊢
    obtain ⟨_, _, _, e⟩ := mkV_bad h
    rw [w2, e]
    exact ⟨Int.sub_le_sub u1 v2, Int.sub_le_sub u2 v1⟩
  have B3 : AllP (hdB (mulV a b).2.2 (mulV a b).1 (mulV a b).2.1 s t 1073741824) := hdB_of fun h => by
    obtain ⟨c1, c2, c3, c4⟩ := mul_held h ha hb u1 u2 v1 v2
    exact held_v hP iu iv1 hO (by decide) c1 c2 c3 c4
  have B4 : AllP (hdB (partV a n d).2.2 (partV a n d).1 (partV a n d).2.1 s n d) := hdB_of fun h => by
    obtain ⟨c0, c1, c2, c3, c4⟩ := part_held ha h u1 u2
    exact held_v hP iu hn hd c0 c1 c2 c3 c4
  have hdd : (partV a n d).2.2 = false → (d != 0) = true := fun h => by
    have := (part_held ha h u1 u2).1
    simpa using this
  have ng : (!((-a.2.1 == IntKind.i64.wrap (0 - a.2.1)) && ((-a.1 == IntKind.i64.wrap (0 - a.1)) && ((true) && (true))))) = false := by
    rw [w3, w4]
    simp
  exact runB_pure mix (iw _ _ _ _ _ _ _ _ _ _ _ _ _ _ _ _ _ _ _ _ _ _ _ _ _ _ (d != 0) hdd)
    ((allP_append _ _).2 ⟨⟨hf, ix, iy, A1, A2, A3, A4, trivial⟩, (allP_append _ _).2 ⟨B1, (allP_append _ _).2 ⟨B2, (allP_append _ _).2 ⟨⟨g, ng, trivial⟩, (allP_append _ _).2 ⟨B3, (allP_append _ _).2 ⟨B4, rfl, wakes5_c, trivial⟩⟩⟩⟩⟩⟩) rfl rfl


end Go.Proofs.YtlioffkonfkflaaGreat

/- A division by doubling: plain mathematics. -/
namespace Go.Proofs.YtlioffkonfkflaaGreat

/-- The way down: so many rounds left, the quotient so far, the rest. -/
def dwn (b : Nat) : Nat → Nat → Nat → Nat × Nat
  | 0, q, a => (q, a)
  | i + 1, q, a => if b * 2 ^ i ≤ a then dwn b i (q + q + 1) (a - b * 2 ^ i) else dwn b i (q + q) a
theorem dwn_ok {b : Nat} (hb : 0 < b) : ∀ (i q a : Nat), a < b * 2 ^ i → dwn b i q a = (q * 2 ^ i + a / b, a % b)
  | 0, q, a, h => by
    have h' : a < b := by simpa using h
    simp [dwn, Nat.div_eq_of_lt h', Nat.mod_eq_of_lt h']
  | i + 1, q, a, h => by
    have e : b * 2 ^ (i + 1) = b * 2 ^ i + b * 2 ^ i := by rw [Nat.pow_succ, ← Nat.mul_assoc]; omega
    unfold dwn
    by_cases hc : b * 2 ^ i ≤ a
    · rw [if_pos hc, dwn_ok hb i _ _ (by omega)]
      obtain ⟨c, rfl⟩ : ∃ c, a = c + b * 2 ^ i := ⟨a - b * 2 ^ i, by omega⟩
      rw [show c + b * 2 ^ i - b * 2 ^ i = c by omega, Nat.add_mul_div_left _ _ hb, Nat.add_mul_mod_self_left, Nat.pow_succ]
      congr 1
      rw [Nat.add_mul, Nat.add_mul, Nat.one_mul, ← Nat.mul_assoc]
      omega
    · rw [if_neg hc, dwn_ok hb i _ _ (by omega), Nat.pow_succ]
      congr 1
      rw [Nat.add_mul, ← Nat.mul_assoc]
      omega
/-- The way down from where the way up ends: the last double is not above a, or there is none but b; the next one would be above it, or over. -/
theorem dwn_all {a b n : Nat} (hb : 0 < b) (h : a < b * 2 ^ n) : dwn b n 0 a = (a / b, a % b) := by
  rw [dwn_ok hb n 0 a h]
  simp
/-- The quotient so far, and the rest, stay below what there was. -/
theorem dwn_le {b q a a0 i : Nat} (h : a0 = q * (b * 2 ^ i) + a) (hb : 0 < b) : q ≤ a0 ∧ a ≤ a0 := by
  have h1 : 1 ≤ b * 2 ^ i := Nat.mul_pos hb (Nat.two_pow_pos i)
  have h2 := Nat.mul_le_mul_left q h1
  omega

end Go.Proofs.YtlioffkonfkflaaGreat
