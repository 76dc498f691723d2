/- Texts of the seat, joined. -/
import Derived.Test.YtcmfgabhgodlaaaDoorZz21
import Derived.Test.YtcmfgabhgodlaaaDoorZz6
/- The document's products that PullNearest asks. -/
namespace Go.Proofs.YtcmfgabhgodlaaaDoor
open Go Go.RowKit
set_option linter.unusedSimpArgs false
set_option linter.unusedVariables false
set_option maxRecDepth 100000

abbrev maxR : Nat := 57896044618658097711785492504343953926634992332820282019728792003956564819967
theorem mulD {x y z : Int} {X Y : Nat} (hx : x.natAbs ≤ X) (hy : y.natAbs ≤ Y) (hXY : X * Y ≤ maxR) (hX : X ≤ maxR) (hY : Y ≤ maxR) (e : x * y = z) : PureX Tryd.prog 22 #[wz x, wz y] (rt (tp [wz z, bb false])) := by
  have h := rmul_z (inR_abs (Nat.le_trans hx hX)) (inR_abs (Nat.le_trans hy hY))
  have k := inR_abs (Nat.le_trans (mb hx hy) hXY)
  rw [decide_eq_false (fun c => c k), e] at h
  exact h
theorem ofD {x : Int} (h : x.natAbs ≤ 9223372036854775807) : PureX Tryd.prog 11 #[ii x] (rt (wz x)) := rof_z (by omega) (by omega)
theorem sgn_neg {x : Int} (h : x < 0) : decide (x.sign < 0) = true := by rw [Int.sign_eq_neg_one_of_neg h]; rfl
theorem sgn_pos {x : Int} (h : x ≤ 0) : decide (0 < x.sign) = false := by
  rcases (show x = 0 ∨ x < 0 by omega) with h | h
  · rw [h]; rfl
  · rw [Int.sign_eq_neg_one_of_neg h]; rfl

/-- What is asked of numbers n d g m x s whose pull is H without its sign, A and B the fraction. -/
structure NF (n d g m x s H A B : Int) : Prop where
  o1 : PureX Tryd.prog 11 #[ii 1] (rt (wz 1))
  o4 : PureX Tryd.prog 11 #[ii 4] (rt (wz 4))
  on : PureX Tryd.prog 11 #[ii n] (rt (wz n))
  od : PureX Tryd.prog 11 #[ii d] (rt (wz d))
  og : PureX Tryd.prog 11 #[ii g] (rt (wz g))
  om : PureX Tryd.prog 11 #[ii m] (rt (wz m))
  ox : PureX Tryd.prog 11 #[ii x] (rt (wz x))
  os : PureX Tryd.prog 11 #[ii s] (rt (wz s))
  ol : PureX Tryd.prog 11 #[ii (2 * H - 1)] (rt (wz (2 * H - 1)))
  oh : PureX Tryd.prog 11 #[ii (2 * H + 1)] (rt (wz (2 * H + 1)))
  a1 : PureX Tryd.prog 22 #[wz 1, wz 4] (rt (tp [wz 4, bb false]))
  a2 : PureX Tryd.prog 22 #[wz 4, wz n] (rt (tp [wz (4 * n), bb false]))
  a3 : PureX Tryd.prog 22 #[wz (4 * n), wz n] (rt (tp [wz (4 * n * n), bb false]))
  a4 : PureX Tryd.prog 22 #[wz (4 * n * n), wz g] (rt (tp [wz (4 * n * n * g), bb false]))
  a5 : PureX Tryd.prog 22 #[wz (4 * n * n * g), wz g] (rt (tp [wz (4 * n * n * g * g), bb false]))
  a6 : PureX Tryd.prog 22 #[wz (4 * n * n * g * g), wz m] (rt (tp [wz (4 * n * n * g * g * m), bb false]))
  a7 : PureX Tryd.prog 22 #[wz (4 * n * n * g * g * m), wz m] (rt (tp [wz (4 * n * n * g * g * m * m), bb false]))
  a8 : PureX Tryd.prog 22 #[wz (4 * n * n * g * g * m * m), wz x] (rt (tp [wz (4 * n * n * g * g * m * m * x), bb false]))
  a9 : PureX Tryd.prog 22 #[wz (4 * n * n * g * g * m * m * x), wz x] (rt (tp [wz A, bb false]))
  b1 : PureX Tryd.prog 22 #[wz 1, wz d] (rt (tp [wz d, bb false]))
  b2 : PureX Tryd.prog 22 #[wz d, wz d] (rt (tp [wz (d * d), bb false]))
  b3 : PureX Tryd.prog 22 #[wz (d * d), wz s] (rt (tp [wz (d * d * s), bb false]))
  b4 : PureX Tryd.prog 22 #[wz (d * d * s), wz s] (rt (tp [wz (d * d * s * s), bb false]))
  b5 : PureX Tryd.prog 22 #[wz (d * d * s * s), wz s] (rt (tp [wz B, bb false]))
  c1 : PureX Tryd.prog 22 #[wz 1, wz (2 * H - 1)] (rt (tp [wz (2 * H - 1), bb false]))
  c2 : PureX Tryd.prog 22 #[wz (2 * H - 1), wz (2 * H - 1)] (rt (tp [wz ((2 * H - 1) * (2 * H - 1)), bb false]))
  c3 : PureX Tryd.prog 22 #[wz ((2 * H - 1) * (2 * H - 1)), wz B] (rt (tp [wz ((2 * H - 1) * (2 * H - 1) * B), bb false]))
  e1 : PureX Tryd.prog 22 #[wz 1, wz (2 * H + 1)] (rt (tp [wz (2 * H + 1), bb false]))
  e2 : PureX Tryd.prog 22 #[wz (2 * H + 1), wz (2 * H + 1)] (rt (tp [wz ((2 * H + 1) * (2 * H + 1)), bb false]))
  e3 : PureX Tryd.prog 22 #[wz ((2 * H + 1) * (2 * H + 1)), wz B] (rt (tp [wz ((2 * H + 1) * (2 * H + 1) * B), bb false]))
  kc : PureX Tryd.prog 13 #[wz ((2 * H - 1) * (2 * H - 1) * B), wz A] (rt (ii ((2 * H - 1) * (2 * H - 1) * B - A).sign))
  ke : PureX Tryd.prog 13 #[wz A, wz ((2 * H + 1) * (2 * H + 1) * B)] (rt (ii (A - (2 * H + 1) * (2 * H + 1) * B).sign))
  lt : decide ((A - (2 * H + 1) * (2 * H + 1) * B).sign < 0) = true
  le : 0 < H → decide (0 < ((2 * H - 1) * (2 * H - 1) * B - A).sign) = false

/-- Products that stay small since the third one does. -/
theorem mulE {x y z : Int} {Z : Nat} (hx : x.natAbs ≤ maxR) (hy : y.natAbs ≤ maxR) (hz : (x * y).natAbs ≤ maxR) (e : x * y = z) : PureX Tryd.prog 22 #[wz x, wz y] (rt (tp [wz z, bb false])) := by
  have h := rmul_z (inR_abs hx) (inR_abs hy)
  rw [decide_eq_false (fun c => c (inR_abs hz)), e] at h
  exact h
theorem near_arith {H A B : Nat} (hB : B ≤ 10101680000000000000000000000000000000000000000000000000) (hA : A ≤ 89202980794122492566142873090593446023921664) (h1 : 0 < H → (2 * H - 1) * (2 * H - 1) * B ≤ A) :
    (2 * H + 1) * (2 * H + 1) * B ≤ 10101680000000000000000000000000000000000000000000000000 := by
  rcases Nat.eq_zero_or_pos H with h | h
  · subst h; omega
  · have h2 := h1 h
    have h3 : (2 * H + 1) * (2 * H + 1) ≤ (3 * (2 * H - 1)) * (3 * (2 * H - 1)) := Nat.mul_le_mul (by omega) (by omega)
    have h4 : (2 * H + 1) * (2 * H + 1) * B ≤ (3 * (2 * H - 1)) * (3 * (2 * H - 1)) * B := Nat.mul_le_mul_right _ h3
    have h5 : (3 * (2 * H - 1)) * (3 * (2 * H - 1)) * B = 9 * ((2 * H - 1) * (2 * H - 1) * B) := by
      generalize 2 * H - 1 = q
      grind
    rw [h5] at h4
    have h6 : 9 * ((2 * H - 1) * (2 * H - 1) * B) ≤ 9 * A := Nat.mul_le_mul_left _ h2
    have h7 : 9 * A ≤ 9 * 89202980794122492566142873090593446023921664 := Nat.mul_le_mul_left _ hA
    exact Nat.le_trans h4 (Nat.le_trans h6 (Nat.le_trans h7 (by decide)))
theorem low_cast {H B : Nat} (h : 0 < H) : (2 * (H : Int) - 1) * (2 * (H : Int) - 1) * (B : Int) = (((2 * H - 1) * (2 * H - 1) * B : Nat) : Int) := by
  rw [Int.natCast_mul, Int.natCast_mul, show ((2 * H - 1 : Nat) : Int) = 2 * (H : Int) - 1 by omega]
theorem high_cast {H B : Nat} : (2 * (H : Int) + 1) * (2 * (H : Int) + 1) * (B : Int) = (((2 * H + 1) * (2 * H + 1) * B : Nat) : Int) := by
  rw [Int.natCast_mul, Int.natCast_mul, show ((2 * H + 1 : Nat) : Int) = 2 * (H : Int) + 1 by omega]

set_option maxHeartbeats 1000000 in
theorem nf {n d g m x s : Int} (h : okA n d g m x s) (hs : 0 < s) (hx : x * x ≤ s) : NF n d g m x s (plH n d g m x s : Int) (plA n g m x : Int) (plB d s : Int) := by
  have hn : n.natAbs ≤ 2097152 := by unfold okA at h; omega
  have hd : d.natAbs ≤ 2097152 := by unfold okA at h; omega
  have hg : g.natAbs ≤ 1048576 := by unfold okA at h; omega
  have hm : m.natAbs ≤ 1024 := by unfold okA at h; omega
  have hX : x.natAbs ≤ 2097152 := by unfold okA at h; omega
  have hS : s.natAbs ≤ 13194139533312 := by unfold okA at h; omega
  obtain ⟨f1, f2, f3, f4, f5, f6, f7⟩ := pl_facts h hs hx
  obtain ⟨n1, n2⟩ := plH_near h hs hx
  have f6' : 4 * n * n * g * g * m * m * x * x = (plA n g m x : Int) := by rw [← f6]; grind
  clear f1 f6
  generalize plH n d g m x s = H at *
  generalize plA n g m x = A at *
  generalize plB d s = B at *
  have hi := near_arith f3 f2 n1
  have q1 := mb (x := 4) (X := 4) (by decide) hn
  have q2 := mb q1 hn
  have q3 := mb q2 hg
  have q4 := mb q3 hg
  have q5 := mb q4 hm
  have q6 := mb q5 hm
  have q7 := mb q6 hX
  have r1 := mb hd hd
  have r2 := mb r1 hS
  have r3 := mb r2 hS
  have lA : (2 * (H : Int) - 1).natAbs ≤ 4503599627370497 := by
    clear n1 n2 hi f6' f7 f2 f3 f4
    omega
  have hA : (2 * (H : Int) + 1).natAbs ≤ 4503599627370497 := by
    clear n1 n2 hi f6' f7 f2 f3 f4
    omega
  have BB : (B : Int).natAbs ≤ 10101680000000000000000000000000000000000000000000000000 := by rw [Int.natAbs_natCast]; exact f3
  have AA : (A : Int).natAbs ≤ maxR := by rw [Int.natAbs_natCast]; exact Nat.le_trans f2 (by decide)
  have lo : ((2 * (H : Int) - 1) * (2 * (H : Int) - 1) * (B : Int)).natAbs ≤ maxR := by
    rcases Nat.eq_zero_or_pos H with h0 | h0
    · rw [h0, show (2 * ((0 : Nat) : Int) - 1) * (2 * ((0 : Nat) : Int) - 1) = 1 from rfl, Int.one_mul]
      exact Nat.le_trans BB (by decide)
    · rw [low_cast h0, Int.natAbs_natCast]
      exact Nat.le_trans (n1 h0) (Nat.le_trans f2 (by decide))
  have hh : ((2 * (H : Int) + 1) * (2 * (H : Int) + 1) * (B : Int)).natAbs ≤ maxR := by
    rw [high_cast, Int.natAbs_natCast]
    exact Nat.le_trans hi (by decide)
  have ll := mb lA lA
  have h2 := mb hA hA
  exact {
    o1 := ofD (by decide), o4 := ofD (by decide), on := ofD (Nat.le_trans hn (by decide)), od := ofD (Nat.le_trans hd (by decide)), og := ofD (Nat.le_trans hg (by decide)),
    om := ofD (Nat.le_trans hm (by decide)), ox := ofD (Nat.le_trans hX (by decide)), os := ofD (Nat.le_trans hS (by decide)), ol := ofD (Nat.le_trans lA (by decide)), oh := ofD (Nat.le_trans hA (by decide)),
    a1 := mulD (X := 1) (Y := 4) (by decide) (by decide) (by decide) (by decide) (by decide) rfl,
    a2 := mulD (x := 4) (X := 4) (by decide) hn (by decide) (by decide) (by decide) rfl,
    a3 := mulD q1 hn (by decide) (by decide) (by decide) rfl,
    a4 := mulD q2 hg (by decide) (by decide) (by decide) rfl,
    a5 := mulD q3 hg (by decide) (by decide) (by decide) rfl,
    a6 := mulD q4 hm (by decide) (by decide) (by decide) rfl,
    a7 := mulD q5 hm (by decide) (by decide) (by decide) rfl,
    a8 := mulD q6 hX (by decide) (by decide) (by decide) rfl,
    a9 := mulD q7 hX (by decide) (by decide) (by decide) f6',
    b1 := mulD (x := 1) (X := 1) (by decide) hd (by decide) (by decide) (by decide) (Int.one_mul d),
    b2 := mulD hd hd (by decide) (by decide) (by decide) rfl,
    b3 := mulD r1 hS (by decide) (by decide) (by decide) rfl,
    b4 := mulD r2 hS (by decide) (by decide) (by decide) rfl,
    b5 := mulD r3 hS (by decide) (by decide) (by decide) f7,
    c1 := mulD (x := 1) (X := 1) (by decide) lA (by decide) (by decide) (by decide) (Int.one_mul _),
    c2 := mulD lA lA (by decide) (by decide) (by decide) rfl,
    c3 := mulE (Z := 0) (Nat.le_trans ll (by decide)) (Nat.le_trans BB (by decide)) lo rfl,
    e1 := mulD (x := 1) (X := 1) (by decide) hA (by decide) (by decide) (by decide) (Int.one_mul _),
    e2 := mulD hA hA (by decide) (by decide) (by decide) rfl,
    e3 := mulE (Z := 0) (Nat.le_trans h2 (by decide)) (Nat.le_trans BB (by decide)) hh rfl,
    kc := rcmp_z (inR_abs lo) (inR_abs AA),
    ke := rcmp_z (inR_abs AA) (inR_abs hh),
    lt := sgn_neg (by rw [high_cast]; exact Int.sub_neg_of_lt (Int.ofNat_lt.2 n2)),
    le := fun h0 => sgn_pos (by rw [low_cast (by omega)]; exact Int.sub_nonpos_of_le (Int.ofNat_le.2 (n1 (by omega)))) }

end Go.Proofs.YtcmfgabhgodlaaaDoor
