/- Texts of the seat, joined. -/
import Derived.Test.YtcmfgabhgodlaaaGreatDoorZz7
import Derived.Test.YtcmfgabhgodlaaaGreatDoorZz14
/- Package pull: what each call comes to. -/
namespace Go.Proofs.YtcmfgabhgodlaaaGreatDoor
open Go Go.RowKit
set_option linter.unusedSimpArgs false
set_option linter.unusedVariables false
set_option maxRecDepth 100000

theorem runF_pure {P : Program} (hmix : P.follows .mixedOrders = true) {n : Nat} {keep : List Nat} {f : Nat} {args : Array Value} {orc : List (Option Bool)} {ans : List (Nat × Res)} {bls : List (Nat × Res × Hp)} {lds : List (List Value)} {r : Res} {obl : List Prop}
    (h : runF P n keep f args [] orc ans bls lds = some (r, [], obl)) (ho : AllP obl) (ha : wfA noB args = true) (hr : resOK noB r = true) : PureX P f args r := by
  intro w hg
  have := runF_calls hmix h ho ha rfl idN w (Rel.nil _ _ _ (gl_nil hg))
  have ha2 : renA idN args = args := renA_plain _ ha
  simp only [ha2] at this
  refine this.mono ?_
  rintro e w' ⟨β', _, rfl, hR⟩
  refine ⟨?_, hR.kp.below (Nat.le_refl _) ?_⟩
  · cases r with
    | ret v =>
      simp only [Res.out]
      rw [ren_plain β' hr, ren_plain _ hr]
    | pan ch => rfl
  · rintro k ⟨i, hi, _⟩
    cases hi
theorem wi_of {x : Int} (h : isI x) : wi x = x := by
  unfold wi isI at *
  rw [IntKind.wrap_i64]
  omega
theorem mb {x y : Int} {X Y : Nat} (hx : x.natAbs ≤ X) (hy : y.natAbs ≤ Y) : (x * y).natAbs ≤ X * Y := by
  rw [Int.natAbs_mul]
  exact Nat.mul_le_mul hx hy
theorem isI_abs {x : Int} (h : x.natAbs ≤ 9223372036854775807) : isI x := by unfold isI; omega
theorem inR_abs {x : Int} (h : x.natAbs ≤ 57896044618658097711785492504343953926634992332820282019728792003956564819967) : inR x := by unfold inR; omega

/-- May a pull be asked by these numbers? -/
def okA (n d g m x s : Int) : Prop := (-2097152 ≤ n ∧ n ≤ 2097152) ∧ (1 ≤ d ∧ d ≤ 2097152) ∧ (1 ≤ g ∧ g ≤ 1048576) ∧ (1 ≤ m ∧ m ≤ 1024) ∧ (-2097152 ≤ x ∧ x ≤ 2097152) ∧ (0 ≤ s ∧ s ≤ 13194139533312)
instance (n d g m x s : Int) : Decidable (okA n d g m x s) := by unfold okA; infer_instance
/-- The error. -/
def alE (n d g m x s : Int) : Int := if okA n d g m x s then (if s = 0 then 30 else if s < x * x then 2 else 0) else 2
/-- The square of the double of the real pull, as a fraction; the pull without its sign; with it. -/
def plA (n g m x : Int) : Nat := (2 * n * g * m * (2 * n * g * m) * x * x).natAbs
def plD (d s : Int) : Nat := (d * d * s * s * s).natAbs
def plH (n d g m x s : Int) : Nat := (isq (plA n g m x / plD d s) + 1) / 2
def plK (n d g m x s : Int) : Int := if decide (n < 0) == decide (x < 0) then (plH n d g m x s : Int) else -(plH n d g m x s : Int)

theorem dbl_v {n g m : Int} (hn : n.natAbs ≤ 2097152) (hg : g.natAbs ≤ 1048576) (hm : m.natAbs ≤ 1024) : (2 * n * g * m).natAbs ≤ 4503599627370496 ∧ PureX Tryz.prog 34 #[ii n, ii g, ii m] (rt (ii (2 * n * g * m))) := by
  have h := runF_pure mix (dbl_raw n g m) trivial rfl rfl
  have h1 : (2 * n).natAbs ≤ 4194304 := by omega
  have h2 := mb h1 hg
  have h3 := mb h2 hm
  rw [wi_of (isI_abs (Nat.le_trans h1 (by decide))), wi_of (isI_abs (Nat.le_trans h2 (by decide))), wi_of (isI_abs (Nat.le_trans h3 (by decide)))] at h
  exact ⟨h3, h⟩
theorem sqr_le {x : Int} {X : Nat} (h : x.natAbs ≤ X) : 0 ≤ x * x ∧ x * x ≤ ((X * X : Nat) : Int) := by
  have h1 := mb h h
  have h2 : 0 ≤ x * x := by
    rcases Int.le_total 0 x with h | h
    · exact Int.mul_nonneg h h
    · exact Int.mul_nonneg_of_nonpos_of_nonpos h h
  exact ⟨h2, by omega⟩
theorem isq_le {q b : Nat} (hq : q ≤ b * b) (hb : b * b < 57896044618658097711785492504343953926634992332820282019728792003956564819968) : isq q ≤ b := by
  refine Nat.le_of_not_lt (fun hc => ?_)
  have h1 := (isq_ok (x := q) (Nat.lt_of_le_of_lt hq hb)).1
  have h2 : (b + 1) * (b + 1) ≤ isq q * isq q := Nat.mul_le_mul hc hc
  have h3 : b * b < (b + 1) * (b + 1) := Nat.mul_lt_mul_of_lt_of_lt (Nat.lt_succ_self b) (Nat.lt_succ_self b)
  omega

/-- What the numbers on the way come to. -/
theorem pl_facts {n d g m x s : Int} (h : okA n d g m x s) (hs : 0 < s) (hx : x * x ≤ s) :
    (2 * n * g * m).natAbs ≤ 4503599627370496 ∧ plA n g m x ≤ 89202980794122492566142873090593446023921664 ∧ plD d s ≤ 10101680000000000000000000000000000000000000000000000000 ∧ 0 < plD d s ∧ plH n d g m x s ≤ 2251799813685248
    ∧ 2 * n * g * m * (2 * n * g * m) * x * x = (plA n g m x : Int) ∧ d * d * s * s * s = (plD d s : Int) := by
  unfold okA at h
  obtain ⟨⟨n1, n2⟩, ⟨d1, d2⟩, ⟨g1, g2⟩, ⟨m1, m2⟩, ⟨x1, x2⟩, s1, s2⟩ := h
  have ha := (dbl_v (n := n) (g := g) (m := m) (by omega) (by omega) (by omega)).1
  obtain ⟨a, hA⟩ : ∃ a, a = 2 * n * g * m := ⟨_, rfl⟩
  rw [← hA] at ha ⊢
  have e1 : plA n g m x = (a * a * x * x).natAbs := by unfold plA; rw [← hA]
  have xa : x.natAbs ≤ 2097152 := by omega
  have aa := mb ha ha
  have b1 := mb (mb aa xa) xa
  have hd : (d * d).natAbs ≤ 4398046511104 := mb (X := 2097152) (Y := 2097152) (by omega) (by omega)
  have sa : s.natAbs ≤ 13194139533312 := by omega
  have b2 := mb (mb (mb hd sa) sa) sa
  have d0 : 1 ≤ d * d := by
    have := Int.mul_le_mul (a := 1) (b := 1) (c := d) (d := d) d1 d1 (by omega) (by omega)
    omega
  have p1 : s ≤ d * d * s := by
    have := Int.mul_le_mul_of_nonneg_right (c := s) d0 (by omega)
    omega
  have p2 : s ≤ d * d * s * s := by
    have := Int.mul_le_mul (a := s) (b := 1) (c := d * d * s) (d := s) p1 (by omega) (by omega) (by omega)
    omega
  have p3 : s ≤ d * d * s * s * s := by
    have := Int.mul_le_mul (a := s) (b := 1) (c := d * d * s * s) (d := s) p2 (by omega) (by omega) (by omega)
    omega
  have e2 : d * d * s * s * s = (plD d s : Int) := by unfold plD; omega
  have aq := sqr_le ha
  have xq := sqr_le xa
  have e0 : a * a * x * x = a * a * (x * x) := Int.mul_assoc _ _ _
  have e3 : a * a * x * x = (plA n g m x : Int) := by
    have : 0 ≤ a * a * (x * x) := Int.mul_nonneg aq.1 xq.1
    rw [e1]; omega
  have hq : plA n g m x ≤ plD d s * (4503599627370496 * 4503599627370496) := by
    have k1 : a * a * (x * x) ≤ ((4503599627370496 * 4503599627370496 : Nat) : Int) * s := Int.mul_le_mul aq.2 hx xq.1 (by decide)
    rw [← e0, e3] at k1
    have k2 : (4503599627370496 * 4503599627370496 : Nat) * s.toNat ≤ (4503599627370496 * 4503599627370496 : Nat) * plD d s := Nat.mul_le_mul_left _ (by omega)
    have k3 : (plA n g m x : Int) ≤ ((4503599627370496 * 4503599627370496 * s.toNat : Nat) : Int) := by
      rw [Int.natCast_mul, show ((s.toNat : Nat) : Int) = s by omega]
      exact k1
    have k4 : plA n g m x ≤ 4503599627370496 * 4503599627370496 * s.toNat := Int.ofNat_le.1 k3
    rw [Nat.mul_comm (plD d s)]
    exact Nat.le_trans k4 k2
  have hdiv : plA n g m x / plD d s ≤ 4503599627370496 * 4503599627370496 := Nat.div_le_of_le_mul hq
  have hi := isq_le hdiv (by decide)
  refine ⟨ha, ?_, ?_, by omega, by unfold plH; omega, e3, e2⟩
  · rw [e1]; exact Nat.le_trans b1 (by decide)
  · unfold plD; exact Nat.le_trans b2 (by decide)

theorem rbn {n : Int} (h : -2097152 ≤ n ∧ n ≤ 2097152) : PureX Tryz.prog 32 #[ii 0, ii n] (rt (tp [])) := rb_ok (p := 0) (by decide) h.1 h.2
theorem rbd {n : Int} (h : 1 ≤ n ∧ n ≤ 2097152) : PureX Tryz.prog 32 #[ii 1, ii n] (rt (tp [])) := rb_ok (p := 1) (by decide) h.1 h.2
theorem rbg {n : Int} (h : 1 ≤ n ∧ n ≤ 1048576) : PureX Tryz.prog 32 #[ii 2, ii n] (rt (tp [])) := rb_ok (p := 2) (by decide) h.1 h.2
theorem rbm {n : Int} (h : 1 ≤ n ∧ n ≤ 1024) : PureX Tryz.prog 32 #[ii 3, ii n] (rt (tp [])) := rb_ok (p := 3) (by decide) h.1 h.2
theorem rbx {n : Int} (h : -2097152 ≤ n ∧ n ≤ 2097152) : PureX Tryz.prog 32 #[ii 4, ii n] (rt (tp [])) := rb_ok (p := 4) (by decide) h.1 h.2
theorem rbs {n : Int} (h : 0 ≤ n ∧ n ≤ 13194139533312) : PureX Tryz.prog 32 #[ii 5, ii n] (rt (tp [])) := rb_ok (p := 5) (by decide) h.1 h.2
theorem nbn {n : Int} (h : ¬ (-2097152 ≤ n ∧ n ≤ 2097152)) : PureX Tryz.prog 32 #[ii 0, ii n] (errs 2) := rb_no (p := 0) (by decide) (by simp only [limA, limB]; omega)
theorem nbd {n : Int} (h : ¬ (1 ≤ n ∧ n ≤ 2097152)) : PureX Tryz.prog 32 #[ii 1, ii n] (errs 2) := rb_no (p := 1) (by decide) (by simp only [limA, limB]; omega)
theorem nbg {n : Int} (h : ¬ (1 ≤ n ∧ n ≤ 1048576)) : PureX Tryz.prog 32 #[ii 2, ii n] (errs 2) := rb_no (p := 2) (by decide) (by simp only [limA, limB]; omega)
theorem nbm {n : Int} (h : ¬ (1 ≤ n ∧ n ≤ 1024)) : PureX Tryz.prog 32 #[ii 3, ii n] (errs 2) := rb_no (p := 3) (by decide) (by simp only [limA, limB]; omega)
theorem nbx {n : Int} (h : ¬ (-2097152 ≤ n ∧ n ≤ 2097152)) : PureX Tryz.prog 32 #[ii 4, ii n] (errs 2) := rb_no (p := 4) (by decide) (by simp only [limA, limB]; omega)
theorem nbs {n : Int} (h : ¬ (0 ≤ n ∧ n ≤ 13194139533312)) : PureX Tryz.prog 32 #[ii 5, ii n] (errs 2) := rb_no (p := 5) (by decide) (by simp only [limA, limB]; omega)

theorem one_mul' (a : Int) : PureX Tryz.prog 53 #[ii 1] (rt (wz 1)) := of_z (by decide)
theorem mulR {x y : Int} {X Y : Nat} (hx : x.natAbs ≤ X) (hy : y.natAbs ≤ Y) (hX : X ≤ 57896044618658097711785492504343953926634992332820282019728792003956564819967) (hY : Y ≤ 57896044618658097711785492504343953926634992332820282019728792003956564819967) :
    PureX Tryz.prog 54 #[wz x, wz y] (rt (tp [wz (x * y), bb (decide (¬ inR (x * y)))])) := mul_z (inR_abs (Nat.le_trans hx hX)) (inR_abs (Nat.le_trans hy hY))

end Go.Proofs.YtcmfgabhgodlaaaGreatDoor

/- Package pull: what each call comes to. -/
namespace Go.Proofs.YtcmfgabhgodlaaaGreatDoor
open Go Go.RowKit
set_option linter.unusedSimpArgs false
set_option linter.unusedVariables false
set_option maxRecDepth 100000

set_option maxHeartbeats 1000000 in
/-- The pull along a coordinate. -/
theorem along_ok {n d g m x s : Int} (h : okA n d g m x s) (hs : 0 < s) (hx : x * x ≤ s) : PureX Tryz.prog 18 #[ii n, ii d, ii g, ii m, ii x, ii s] (rt (ii (plK n d g m x s))) := by
  have h' := h
  unfold okA at h'
  obtain ⟨hn, hd, hg, hm, hx', hs'⟩ := h'
  have da := (dbl_v (n := n) (g := g) (m := m) (by omega) (by omega) (by omega)).2
  have xa : x.natAbs ≤ 2097152 := by omega
  have sa : s.natAbs ≤ 13194139533312 := by omega
  have hdd : (d * d).natAbs ≤ 4398046511104 := mb (X := 2097152) (Y := 2097152) (by omega) (by omega)
  have hs0 : (s == 0) = false := by simp; omega
  have xx := sqr_le xa
  have wx : wi (x * x) = x * x := wi_of (by unfold isI; omega)
  have ht : decide (s < wi (x * x)) = false := by rw [wx]; exact decide_eq_false (by omega)
  have sI : isI s := by unfold isI; omega
  have xI : isI x := by unfold isI; omega
  obtain ⟨f1, f2, f3, f4, f5, f6, f7⟩ := pl_facts h hs hx
  obtain ⟨q, hq⟩ : ∃ q, q = plH n d g m x s := ⟨_, rfl⟩
  obtain ⟨NA, hNA⟩ : ∃ q, q = plA n g m x := ⟨_, rfl⟩
  obtain ⟨NB, hNB⟩ : ∃ q, q = plD d s := ⟨_, rfl⟩
  have hh : PureX Tryz.prog 35 #[wz (NA : Int), wz (NB : Int)] (rt (tp [wz (q : Int), ii 0])) := by
    rw [hq]
    unfold plH
    rw [← hNA] at f2 ⊢
    rw [← hNB] at f3 f4 ⊢
    exact rha_frac (x := NA) (y := NB) (Nat.lt_of_le_of_lt f2 (by decide)) (Nat.lt_of_le_of_lt f3 (by decide)) f4
  rw [← hq] at f5
  rw [← hNA] at f6
  rw [← hNB] at f7
  have q5 : (q : Int).natAbs ≤ 2251799813685248 := by rw [Int.natAbs_natCast]; exact f5
  have hI : isI (q : Int) := isI_abs (Nat.le_trans q5 (by decide))
  have hneg : wi (0 - (q : Int)) = -(q : Int) := by
    rw [Int.zero_sub]
    exact wi_of (isI_abs (by rw [Int.natAbs_neg]; exact Nat.le_trans q5 (by decide)))
  obtain ⟨a, hA⟩ : ∃ a, a = 2 * n * g * m := ⟨_, rfl⟩
  rw [← hA] at f1 f6 da
  have aI : isI a := isI_abs (Nat.le_trans f1 (by decide))
  have aa := mb f1 f1
  have aax := mb aa xa
  have wd : wi (d * d) = d * d := wi_of (isI_abs (Nat.le_trans hdd (by decide)))
  have o1 := of_z (x := 1) (by decide)
  have oa := of_z aI
  have ox := of_z xI
  have od := of_z (x := d * d) (isI_abs (Nat.le_trans hdd (by decide)))
  have os := of_z sI
  have r1 := mulR (x := 1) (y := a) (X := 1) (by decide) f1 (by decide) (by decide)
  rw [Int.one_mul] at r1
  have r2 := mulR f1 f1 (by decide) (by decide)
  have r3 := mulR aa xa (by decide) (by decide)
  have r4 := mulR aax xa (by decide) (by decide)
  have s1 := mulR (x := 1) (y := d * d) (X := 1) (by decide) hdd (by decide) (by decide)
  rw [Int.one_mul] at s1
  have s2 := mulR hdd sa (by decide) (by decide)
  have s3 := mulR (mb hdd sa) sa (by decide) (by decide)
  have s4 := mulR (mb (mb hdd sa) sa) sa (by decide) (by decide)
  rw [f6] at r4
  rw [f7] at s4
  have hi := int_z (isI_in hI)
  rw [if_pos hI] at hi
  have h1 := rbn hn
  have h2 := rbd hd
  have h3 := rbg hg
  have h4 := rbm hm
  have h5 := rbx hx'
  have h6 := rbs hs'
  cases hsg : (decide (n < 0) == decide (x < 0)) with
  | true =>
    have ek : plK n d g m x s = (q : Int) := by unfold plK; rw [hsg, if_pos rfl, hq]
    rw [ek]
    exact runF_pure mix (aln_same n d g m x s a 0 (q : Int) (nz (q : Int)) (nz 1) (nz a) (nz a) (nz a) (nz (a * a)) (nz x) (nz (a * a * x)) (nz x) (nz (NA : Int)) (nz 1) (nz (d * d)) (nz (d * d)) (nz s) (nz (d * d * s)) (nz s) (nz (d * d * s * s)) (nz s) (nz (NB : Int)) _ _ _ _ _ _ _ _ _)
      ⟨h1, h2, h3, h4, h5, h6, hs0, ht, da, o1, oa, r1, oa, r2, ox, r3, ox, r4, o1, by rw [wd]; exact od, s1, os, s2, os, s3, os, s4, hh, hi, by rw [hsg]; rfl, trivial⟩ rfl rfl
  | false =>
    have ek : plK n d g m x s = wi (0 - (q : Int)) := by
      rw [hneg]; unfold plK; rw [hsg, if_neg Bool.false_ne_true, hq]
    rw [ek]
    exact runF_pure mix (aln_neg n d g m x s a 0 (q : Int) (nz (q : Int)) (nz 1) (nz a) (nz a) (nz a) (nz (a * a)) (nz x) (nz (a * a * x)) (nz x) (nz (NA : Int)) (nz 1) (nz (d * d)) (nz (d * d)) (nz s) (nz (d * d * s)) (nz s) (nz (d * d * s * s)) (nz s) (nz (NB : Int)) _ _ _ _ _ _ _ _ _)
      ⟨h1, h2, h3, h4, h5, h6, hs0, ht, da, o1, oa, r1, oa, r2, ox, r3, ox, r4, o1, by rw [wd]; exact od, s1, os, s2, os, s3, os, s4, hh, hi, by rw [hsg]; rfl, trivial⟩ rfl rfl

theorem alE_ok {n d g m x s : Int} (h : okA n d g m x s) (hs : 0 < s) (hx : x * x ≤ s) : alE n d g m x s = 0 := by
  unfold alE
  rw [if_pos h, if_neg (by omega), if_neg (by omega)]
/-- Who may not ask, or asks with too great a coordinate. -/
theorem along_no {n d g m x s : Int} (h : alE n d g m x s ≠ 0) : PureX Tryz.prog 18 #[ii n, ii d, ii g, ii m, ii x, ii s] (errs (alE n d g m x s)) := by
  by_cases hn : -2097152 ≤ n ∧ n ≤ 2097152
  case neg => rw [show alE n d g m x s = 2 by unfold alE; rw [if_neg (by unfold okA; omega)]]; exact runF_pure mix (aln_p0 n d g m x s 2) ⟨nbn hn, trivial⟩ rfl rfl
  by_cases hd : 1 ≤ d ∧ d ≤ 2097152
  case neg => rw [show alE n d g m x s = 2 by unfold alE; rw [if_neg (by unfold okA; omega)]]; exact runF_pure mix (aln_p1 n d g m x s 2) ⟨rbn hn, nbd hd, trivial⟩ rfl rfl
  by_cases hg : 1 ≤ g ∧ g ≤ 1048576
  case neg => rw [show alE n d g m x s = 2 by unfold alE; rw [if_neg (by unfold okA; omega)]]; exact runF_pure mix (aln_p2 n d g m x s 2) ⟨rbn hn, rbd hd, nbg hg, trivial⟩ rfl rfl
  by_cases hm : 1 ≤ m ∧ m ≤ 1024
  case neg => rw [show alE n d g m x s = 2 by unfold alE; rw [if_neg (by unfold okA; omega)]]; exact runF_pure mix (aln_p3 n d g m x s 2) ⟨rbn hn, rbd hd, rbg hg, nbm hm, trivial⟩ rfl rfl
  by_cases hx : -2097152 ≤ x ∧ x ≤ 2097152
  case neg => rw [show alE n d g m x s = 2 by unfold alE; rw [if_neg (by unfold okA; omega)]]; exact runF_pure mix (aln_p4 n d g m x s 2) ⟨rbn hn, rbd hd, rbg hg, rbm hm, nbx hx, trivial⟩ rfl rfl
  by_cases hs : 0 ≤ s ∧ s ≤ 13194139533312
  case neg => rw [show alE n d g m x s = 2 by unfold alE; rw [if_neg (by unfold okA; omega)]]; exact runF_pure mix (aln_p5 n d g m x s 2) ⟨rbn hn, rbd hd, rbg hg, rbm hm, rbx hx, nbs hs, trivial⟩ rfl rfl
  have ok : okA n d g m x s := ⟨hn, hd, hg, hm, hx, hs⟩
  have xx := sqr_le (x := x) (X := 2097152) (by omega)
  have wx : wi (x * x) = x * x := wi_of (by unfold isI; omega)
  unfold alE at h ⊢
  rw [if_pos ok] at h ⊢
  by_cases h0 : s = 0
  · rw [if_pos h0] at h ⊢
    exact runF_pure mix (aln_z n d g m x s) ⟨rbn hn, rbd hd, rbg hg, rbm hm, rbx hx, rbs hs, by simp [h0], trivial⟩ rfl rfl
  · rw [if_neg h0] at h ⊢
    by_cases h1 : s < x * x
    · rw [if_pos h1] at h ⊢
      exact runF_pure mix (aln_x n d g m x s) ⟨rbn hn, rbd hd, rbg hg, rbm hm, rbx hx, rbs hs, by simp [h0], by rw [wx]; exact decide_eq_true h1, trivial⟩ rfl rfl
    · rw [if_neg h1] at h
      exact absurd rfl h
/-- .. and both in one. -/
theorem al_split (n d g m x s : Int) : (alE n d g m x s = 0 ∧ okA n d g m x s ∧ 0 < s ∧ x * x ≤ s) ∨ alE n d g m x s ≠ 0 := by
  unfold alE
  split
  · rename_i h
    have := h.2.2.2.2.2
    split
    · exact .inr (by decide)
    · split
      · exact .inr (by decide)
      · exact .inl ⟨rfl, h, by omega, by omega⟩
  · exact .inr (by decide)

/-! ### Square, Pull, Beyond -/
def okW (x y z : Int) : Prop := (-2097152 ≤ x ∧ x ≤ 2097152) ∧ (-2097152 ≤ y ∧ y ≤ 2097152) ∧ (-2097152 ≤ z ∧ z ≤ 2097152)
instance (x y z : Int) : Decidable (okW x y z) := by unfold okW; infer_instance
def sqI (x y z : Int) : Int := x * x + y * y + z * z
theorem sq_facts {x y z : Int} (h : okW x y z) : 0 ≤ x * x ∧ 0 ≤ y * y ∧ 0 ≤ z * z ∧ x * x ≤ 4398046511104 ∧ y * y ≤ 4398046511104 ∧ z * z ≤ 4398046511104 := by
  unfold okW at h
  have h1 := sqr_le (x := x) (X := 2097152) (by omega)
  have h2 := sqr_le (x := y) (X := 2097152) (by omega)
  have h3 := sqr_le (x := z) (X := 2097152) (by omega)
  omega
theorem sqo_v {x y z : Int} (h : okW x y z) : PureX Tryz.prog 15 #[vc x y z] (rt (ii (sqI x y z))) := by
  obtain ⟨h1, h2, h3, h4, h5, h6⟩ := sq_facts h
  have r := runF_pure mix (sqo_ok x y z) ⟨rbx h.1, rbx h.2.1, rbx h.2.2, trivial⟩ rfl rfl
  have e1 : wi (x * x) = x * x := wi_of (by unfold isI; omega)
  have e2 : wi (y * y) = y * y := wi_of (by unfold isI; omega)
  have e3 : wi (z * z) = z * z := wi_of (by unfold isI; omega)
  rw [e1, e2, e3, Int.zero_add, e1, wi_of (x := x * x + y * y) (by unfold isI; omega), wi_of (x := x * x + y * y + z * z) (by unfold isI; omega)] at r
  exact r
theorem sqo_n {x y z : Int} (h : ¬ okW x y z) : PureX Tryz.prog 15 #[vc x y z] (errs 2) := by
  unfold okW at h
  by_cases hx : -2097152 ≤ x ∧ x ≤ 2097152
  case neg => exact runR_pure mix (sqo_p0 x y z 2) ⟨nbx hx, trivial⟩ rfl rfl
  by_cases hy : -2097152 ≤ y ∧ y ≤ 2097152
  case neg => exact runR_pure mix (sqo_p1 x y z 2) ⟨rbx hx, nbx hy, trivial⟩ rfl rfl
  exact runR_pure mix (sqo_p2 x y z 2) ⟨rbx hx, rbx hy, nbx (by omega), trivial⟩ rfl rfl
/-- Square. -/
theorem square_v (x y z : Int) : PureX Tryz.prog 4 #[vc x y z] (rt (tp [ii (if okW x y z then sqI x y z else 0), ii (if okW x y z then 0 else 2)])) := by
  by_cases h : okW x y z
  · rw [if_pos h, if_pos h]
    exact runF_pure mix (squ_ok x y z _) ⟨sqo_v h, trivial⟩ rfl rfl
  · rw [if_neg h, if_neg h]
    exact runF_pure mix (squ_no x y z 2) ⟨sqo_n h, trivial⟩ rfl rfl
/-- Pull's error. -/
def puE (n d g m x y z : Int) : Int := if okW x y z then alE n d g m x (sqI x y z) else 2
theorem hb_closed (n d g m x y z : Int) : closedH (HB n d g m x y z) = true := rfl
theorem pull_no {n d g m x y z : Int} (h : puE n d g m x y z ≠ 0) : PureX Tryz.prog 8 #[ii n, ii d, ii g, ii m, vc x y z] (rt (tp [vc 0 0 0, ii (puE n d g m x y z)])) := by
  unfold puE at h ⊢
  by_cases hv : okW x y z
  · rw [if_pos hv] at h ⊢
    have c := runR_calls mix (clo_1 n d g m x y z _ _) ⟨sqo_v hv, along_no h, trivial⟩ rfl (hb_closed n d g m x y z)
    exact runF_pure mix (pul_1 n d g m x y z _) ⟨c, trivial⟩ rfl rfl
  · rw [if_neg hv]
    exact runF_pure mix (pul_sq n d g m x y z 2) ⟨sqo_n hv, trivial⟩ rfl rfl
/-- What may be asked of a way. -/
def okP (n d g m x y z : Int) : Prop := (-2097152 ≤ n ∧ n ≤ 2097152) ∧ (1 ≤ d ∧ d ≤ 2097152) ∧ (1 ≤ g ∧ g ≤ 1048576) ∧ (1 ≤ m ∧ m ≤ 1024) ∧ okW x y z ∧ ¬ (x = 0 ∧ y = 0 ∧ z = 0)
theorem sq_pos {x : Int} (h : x ≠ 0) : 0 < x * x := by
  rcases Int.lt_or_gt_of_ne h with h | h
  · exact Int.mul_pos_of_neg_of_neg h h
  · exact Int.mul_pos h h
theorem okP_facts {n d g m x y z : Int} (h : okP n d g m x y z) : 0 < sqI x y z ∧ x * x ≤ sqI x y z ∧ y * y ≤ sqI x y z ∧ z * z ≤ sqI x y z ∧ okA n d g m x (sqI x y z) ∧ okA n d g m y (sqI x y z) ∧ okA n d g m z (sqI x y z) ∧ sqI x y z ≤ 13194139533312 := by
  obtain ⟨hn, hd, hg, hm, hv, h0⟩ := h
  obtain ⟨h1, h2, h3, h4, h5, h6⟩ := sq_facts hv
  obtain ⟨vx, vy, vz⟩ := hv
  have hp : 0 < sqI x y z := by
    unfold sqI
    by_cases hx : x = 0
    · by_cases hy : y = 0
      · have := sq_pos (x := z) (fun hz => h0 ⟨hx, hy, hz⟩)
        omega
      · have := sq_pos hy
        omega
    · have := sq_pos hx
      omega
  have hb : 0 ≤ sqI x y z ∧ sqI x y z ≤ 13194139533312 := by unfold sqI at hp ⊢; omega
  exact ⟨hp, by unfold sqI; omega, by unfold sqI; omega, by unfold sqI; omega, ⟨hn, hd, hg, hm, vx, hb⟩, ⟨hn, hd, hg, hm, vy, hb⟩, ⟨hn, hd, hg, hm, vz, hb⟩, hb.2⟩
theorem pull_ok {n d g m x y z : Int} (h : okP n d g m x y z) : PureX Tryz.prog 8 #[ii n, ii d, ii g, ii m, vc x y z]
    (rt (tp [vc (plK n d g m x (sqI x y z)) (plK n d g m y (sqI x y z)) (plK n d g m z (sqI x y z)), ii 0])) := by
  obtain ⟨h1, h2, h3, h4, h5, h6, h7, _⟩ := okP_facts h
  exact runF_pure mix (pul_ok n d g m x y z _ _ _ _) ⟨sqo_v h.2.2.2.2.1, along_ok h5 h1 h2, along_ok h6 h1 h3, along_ok h7 h1 h4, trivial⟩ rfl rfl
/-- Beyond, of what may be asked. -/
def bySq (n d g m s : Int) : Bool := decide (2 * n * g * m * (2 * n * g * m) < d * d * s * s)
theorem below_ok {n d g m s : Int} (h : okA n d g m 0 s) (hs : 0 < s) : PureX Tryz.prog 29 #[ii n, ii d, ii g, ii m, ii s] (rt (bb (bySq n d g m s))) := by
  have f1 := (dbl_v (n := n) (g := g) (m := m) (by unfold okA at h; omega) (by unfold okA at h; omega) (by unfold okA at h; omega)).1
  have da := (dbl_v (n := n) (g := g) (m := m) (by unfold okA at h; omega) (by unfold okA at h; omega) (by unfold okA at h; omega)).2
  obtain ⟨hn, hd, hg, hm, hx', hs'⟩ := h
  unfold bySq
  obtain ⟨a, hA⟩ : ∃ a, a = 2 * n * g * m := ⟨_, rfl⟩
  rw [← hA] at f1 da ⊢
  have sa : s.natAbs ≤ 13194139533312 := by omega
  have hdd : (d * d).natAbs ≤ 4398046511104 := mb (X := 2097152) (Y := 2097152) (by omega) (by omega)
  have aI : isI a := isI_abs (Nat.le_trans f1 (by decide))
  have wd : wi (d * d) = d * d := wi_of (isI_abs (Nat.le_trans hdd (by decide)))
  have o1 := of_z (x := 1) (by decide)
  have oa := of_z aI
  have od := of_z (x := d * d) (isI_abs (Nat.le_trans hdd (by decide)))
  have os := of_z (x := s) (by unfold isI; omega)
  have r1 := mulR (x := 1) (y := a) (X := 1) (by decide) f1 (by decide) (by decide)
  rw [Int.one_mul] at r1
  have r2 := mulR f1 f1 (by decide) (by decide)
  have s1 := mulR (x := 1) (y := d * d) (X := 1) (by decide) hdd (by decide) (by decide)
  rw [Int.one_mul] at s1
  have s2 := mulR hdd sa (by decide) (by decide)
  have s3 := mulR (mb hdd sa) sa (by decide) (by decide)
  have hc := cmp_z (x := a * a) (y := d * d * s * s) (inR_abs (Nat.le_trans (mb f1 f1) (by decide))) (inR_abs (Nat.le_trans (mb (mb hdd sa) sa) (by decide)))
  have hs0 : (s == 0) = false := by simp; omega
  have ht : decide (s < wi (0 * 0)) = false := by
    rw [show wi (0 * 0) = 0 from rfl]
    exact decide_eq_false (by omega)
  have key := runF_pure mix (bel_ok n d g m s a _ (nz 1) (nz a) (nz a) (nz a) (nz (a * a)) (nz 1) (nz (d * d)) (nz (d * d)) (nz s) (nz (d * d * s)) (nz s) (nz (d * d * s * s)) _ _ _ _ _)
    ⟨rbn hn, rbd hd, rbg hg, rbm hm, rbx hx', rbs hs', hs0, ht, da, o1, oa, r1, oa, r2, o1, by rw [wd]; exact od, s1, os, s2, os, s3, hc, trivial⟩ rfl rfl
  have e : decide ((a * a - d * d * s * s).sign < 0) = decide (a * a < d * d * s * s) := by
    rcases Int.lt_trichotomy (a * a) (d * d * s * s) with h | h | h
    · rw [Int.sign_eq_neg_one_of_neg (by omega)]; simp [h]
    · rw [h, Int.sub_self]; simp
    · rw [Int.sign_eq_one_of_pos (by omega)]; simp; omega
  rw [e] at key
  exact key
theorem below_no {n d g m s : Int} (h : alE n d g m 0 s ≠ 0) : PureX Tryz.prog 29 #[ii n, ii d, ii g, ii m, ii s] (errs (alE n d g m 0 s)) := by
  have hx : (-2097152 : Int) ≤ 0 ∧ (0 : Int) ≤ 2097152 := by decide
  by_cases hn : -2097152 ≤ n ∧ n ≤ 2097152
  case neg => rw [show alE n d g m 0 s = 2 by unfold alE; rw [if_neg (by unfold okA; omega)]]; exact runF_pure mix (bel_p0 n d g m s 2) ⟨nbn hn, trivial⟩ rfl rfl
  by_cases hd : 1 ≤ d ∧ d ≤ 2097152
  case neg => rw [show alE n d g m 0 s = 2 by unfold alE; rw [if_neg (by unfold okA; omega)]]; exact runF_pure mix (bel_p1 n d g m s 2) ⟨rbn hn, nbd hd, trivial⟩ rfl rfl
  by_cases hg : 1 ≤ g ∧ g ≤ 1048576
  case neg => rw [show alE n d g m 0 s = 2 by unfold alE; rw [if_neg (by unfold okA; omega)]]; exact runF_pure mix (bel_p2 n d g m s 2) ⟨rbn hn, rbd hd, nbg hg, trivial⟩ rfl rfl
  by_cases hm : 1 ≤ m ∧ m ≤ 1024
  case neg => rw [show alE n d g m 0 s = 2 by unfold alE; rw [if_neg (by unfold okA; omega)]]; exact runF_pure mix (bel_p3 n d g m s 2) ⟨rbn hn, rbd hd, rbg hg, nbm hm, trivial⟩ rfl rfl
  by_cases hs : 0 ≤ s ∧ s ≤ 13194139533312
  case neg => rw [show alE n d g m 0 s = 2 by unfold alE; rw [if_neg (by unfold okA; omega)]]; exact runF_pure mix (bel_p5 n d g m s 2) ⟨rbn hn, rbd hd, rbg hg, rbm hm, rbx hx, nbs hs, trivial⟩ rfl rfl
  have ok : okA n d g m 0 s := ⟨hn, hd, hg, hm, hx, hs⟩
  unfold alE at h ⊢
  rw [if_pos ok] at h ⊢
  by_cases h0 : s = 0
  · rw [if_pos h0] at h ⊢
    exact runF_pure mix (bel_z n d g m s) ⟨rbn hn, rbd hd, rbg hg, rbm hm, rbx hx, rbs hs, by simp [h0], trivial⟩ rfl rfl
  · rw [if_neg h0, if_neg (show ¬ s < 0 * 0 by omega)] at h
    exact absurd rfl h
/-- Beyond. -/
theorem beyond_v (n d g m s : Int) : PureX Tryz.prog 10 #[ii n, ii d, ii g, ii m, ii s] (rt (bb (decide (alE n d g m 0 s = 0) && bySq n d g m s))) := by
  rcases al_split n d g m 0 s with ⟨h, h1, h2, _⟩ | h
  · have e : (decide (alE n d g m 0 s = 0) && bySq n d g m s) = bySq n d g m s := by simp [h]
    rw [e]
    exact runF_pure mix (bey_ok n d g m s _) ⟨below_ok h1 h2, trivial⟩ rfl rfl
  · have e : (decide (alE n d g m 0 s = 0) && bySq n d g m s) = false := by simp [h]
    rw [e]
    exact runF_pure mix (bey_no n d g m s _) ⟨below_no h, trivial⟩ rfl rfl
/-- One. -/
theorem one_v (n d g m x s : Int) : PureX Tryz.prog 6 #[ii n, ii d, ii g, ii m, ii x, ii s] (rt (tp [ii (if alE n d g m x s = 0 then plK n d g m x s else 0), ii (alE n d g m x s)])) := by
  rcases al_split n d g m x s with ⟨h, h1, h2, h3⟩ | h
  · rw [if_pos h, h]
    exact runF_pure mix (one_ok n d g m x s _) ⟨along_ok h1 h2 h3, trivial⟩ rfl rfl
  · rw [if_neg h]
    exact runF_pure mix (one_no n d g m x s _) ⟨along_no h, trivial⟩ rfl rfl

end Go.Proofs.YtcmfgabhgodlaaaGreatDoor
