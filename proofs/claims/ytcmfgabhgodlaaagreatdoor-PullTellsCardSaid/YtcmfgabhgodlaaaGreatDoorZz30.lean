/- Texts of the seat, joined. -/
import Derived.Test.YtcmfgabhgodlaaaGreatDoorZz13
import Derived.Test.YtcmfgabhgodlaaaGreatDoorZz4
/- The least and the greatest of two and of four wide numbers. -/
namespace Go.Proofs.YtcmfgabhgodlaaaGreatDoor
open Go Go.RowKit
set_option linter.unusedSimpArgs false
set_option linter.unusedVariables false

def wl (l : List Nat) : Obj := .cells ⟨l.flatMap fun x => (wv x).cells.toList⟩ 41 (1, 4)
abbrev slU' (B n : Nat) : Value := .slice (some ⟨B, 0, none⟩) n capU
abbrev fv (f : Nat) : Value := .func (.func f) #[] #[]
/-- The lesser one, the greater one. -/
def mnI (x y : Int) : Int := if y < x then y else x
def mxI (x y : Int) : Int := if x < y then y else x
theorem sg_lt {x y : Int} : decide ((x - y).sign < 0) = decide (x < y) := by
  rw [decide_eq_decide]
  constructor
  · intro h
    rcases Int.lt_trichotomy (x - y) 0 with h1 | h1 | h1
    · omega
    · rw [h1] at h; exact absurd h (by decide)
    · rw [Int.sign_eq_one_of_pos h1] at h; omega
  · intro h
    rw [Int.sign_eq_neg_one_of_neg (by omega)]; decide
theorem sg_gt {x y : Int} : decide (0 < (x - y).sign) = decide (y < x) := by
  rw [decide_eq_decide]
  constructor
  · intro h
    rcases Int.lt_trichotomy (x - y) 0 with h1 | h1 | h1
    · rw [Int.sign_eq_neg_one_of_neg h1] at h; omega
    · rw [h1] at h; exact absurd h (by decide)
    · omega
  · intro h
    rw [Int.sign_eq_one_of_pos (by omega)]; decide

end Go.Proofs.YtcmfgabhgodlaaaGreatDoor

/- The contracts of package ival: ends, sums, products, parts, hulls of two and three, meets, what is held, widths. -/
namespace Go.Proofs.YtcmfgabhgodlaaaGreatDoor
open Go Go.RowKit
set_option linter.unusedSimpArgs false
set_option linter.unusedVariables false

abbrev IV := Int × Int × Bool
def ivv (x : IV) : Value := iv x.1 x.2.1 x.2.2
def okV (x : IV) : Bool := okI x.1 x.2.1 x.2.2
def bdV : IV := (0, 0, true)
def mkV (lo hi : Int) : IV := if okI lo hi false = true then (lo, hi, false) else bdV
theorem okI_iff {l h : Int} {b : Bool} : okI l h b = true ↔ b = false ∧ -1152921504606846976 ≤ l ∧ l ≤ h ∧ h ≤ 1152921504606846976 := by
  cases b <;> simp [okI, and_assoc]
theorem okV_iff {x : IV} : okV x = true ↔ x.2.2 = false ∧ -1152921504606846976 ≤ x.1 ∧ x.1 ≤ x.2.1 ∧ x.2.1 ≤ 1152921504606846976 := okI_iff
theorem wrapI {z : Int} (h : -9223372036854775808 ≤ z ∧ z < 9223372036854775808) : IntKind.i64.wrap z = z := by
  rw [IntKind.wrap_i64]
  omega

/-- An end, or what is beyond all ends. -/
def endI (z : Int) : Int := if isI z then z else 9223372036854775807
section
variable (l h : Int) (p : Bool) (m k : Int) (q : Bool)
end

def addV (x y : IV) : IV := if (okV x && okV y) = true then mkV (x.1 + y.1) (x.2.1 + y.2.1) else bdV
def subV (x y : IV) : IV := if (okV x && okV y) = true then mkV (x.1 - y.2.1) (x.2.1 - y.1) else bdV
def negV (x : IV) : IV := if okV x = true then mkV (-x.2.1) (-x.1) else bdV
def meetV (x y : IV) : IV := if (okV x && okV y) = true then mkV (mxI x.1 y.1) (mnI x.2.1 y.2.1) else bdV
def holdsV (x y : IV) : Bool := okV x && okV y && decide (x.1 ≤ y.1) && decide (y.2.1 ≤ x.2.1)
def widthV (x : IV) : Int := if okV x = true then x.2.1 - x.1 else -1
theorem ok2 {x y : IV} (h : (okV x && okV y) = true) : (x.2.2 = false ∧ -1152921504606846976 ≤ x.1 ∧ x.1 ≤ x.2.1 ∧ x.2.1 ≤ 1152921504606846976) ∧ (y.2.2 = false ∧ -1152921504606846976 ≤ y.1 ∧ y.1 ≤ y.2.1 ∧ y.2.1 ≤ 1152921504606846976) := by
  rw [Bool.and_eq_true] at h
  exact ⟨okV_iff.1 h.1, okV_iff.1 h.2⟩
/-! Products and parts. -/
section
variable (l h : Int) (p : Bool) (m k : Int) (q : Bool) (o : Nat) (a1 b1 p1 a2 b2 p2 a3 b3 p3 a4 b4 p4 mn mx g e : Nat) (q1 q2 q3 q4 : Bool) (e1 e2 y z a b : Int) (c : Bool)
variable (d x : Int) (oo : Nat) (qo : Bool) (l3 h3 : Int) (c3 : Bool)
end
/-- Outward, by a number above 0. -/
def outV (mn mx by_ : Int) : IV := mkV (endI (flI mn by_)) (endI (ceI mx by_))
def mn4I (a b c d : Int) : Int := mnI (mnI (mnI a b) c) d
def mx4I (a b c d : Int) : Int := mxI (mxI (mxI a b) c) d
def mulV (x y : IV) : IV := if (okV x && okV y) = true then outV (mn4I (x.1 * y.1) (x.2.1 * y.1) (x.1 * y.2.1) (x.2.1 * y.2.1)) (mx4I (x.1 * y.1) (x.2.1 * y.1) (x.1 * y.2.1) (x.2.1 * y.2.1)) 1073741824 else bdV
def partP (x : IV) (n d : Int) : IV := if okV x = true then outV (mnI (x.1 * n) (x.2.1 * n)) (mxI (x.1 * n) (x.2.1 * n)) d else bdV
def partV (x : IV) (n d : Int) : IV := if d = 0 then bdV else if d < 0 then partP (negV x) n (-d) else partP x n d
theorem mnI_p {Q : Int → Prop} {x y : Int} (h1 : Q x) (h2 : Q y) : Q (mnI x y) := by unfold mnI; split <;> assumption
theorem mxI_p {Q : Int → Prop} {x y : Int} (h1 : Q x) (h2 : Q y) : Q (mxI x y) := by unfold mxI; split <;> assumption
end Go.Proofs.YtcmfgabhgodlaaaGreatDoor

/- Hulls of none, two and three; the wakes of the law of intervals; laws of numbers. -/
namespace Go.Proofs.YtcmfgabhgodlaaaGreatDoor
open Go Go.RowKit
set_option linter.unusedSimpArgs false
set_option linter.unusedVariables false

abbrev sl0 : Value := .slice none 0 0
section
variable (l h : Int) (p : Bool) (m k : Int) (q : Bool) (i j : Int) (o : Bool)
end
def hullV (x y : IV) : IV := if (okV x && okV y) = true then (mnI x.1 y.1, mxI x.2.1 y.2.1, x.2.2) else bdV
def hullV3 (x y z : IV) : IV := if (okV x && okV y && okV z) = true then (mnI (mnI x.1 y.1) z.1, mxI (mxI x.2.1 y.2.1) z.2.1, x.2.2) else bdV
theorem mnI_self (x : Int) : mnI x x = x := by unfold mnI; split <;> rfl
theorem mxI_self (x : Int) : mxI x x = x := by unfold mxI; split <;> rfl
end Go.Proofs.YtcmfgabhgodlaaaGreatDoor

/- Plain mathematics of intervals. -/
namespace Go.Proofs.YtcmfgabhgodlaaaGreatDoor
open Go Go.RowKit
set_option linter.unusedSimpArgs false
set_option linter.unusedVariables false

theorem flI_b {x y : Int} (hy : 0 < y) : y * flI x y ≤ x ∧ x < y * flI x y + y := by
  have h := flI_side (x := x) (y := y) (by omega)
  unfold OnSide at h
  omega
theorem ceI_b {x y : Int} (hy : 0 < y) : x ≤ y * ceI x y ∧ y * ceI x y < x + y := by
  have h := ceI_side (x := x) (y := y) (by omega)
  unfold OnSide at h
  omega
theorem le_fl {x y z : Int} (hy : 0 < y) : z ≤ flI x y ↔ y * z ≤ x := by
  obtain ⟨h1, h2⟩ := flI_b (x := x) hy
  constructor
  · intro h
    exact Int.le_trans (Int.mul_le_mul_of_nonneg_left h (by omega)) h1
  · intro h
    have h3 : y * z < y * (flI x y + 1) := by rw [Int.mul_add]; omega
    have := Int.lt_of_mul_lt_mul_left h3 (by omega)
    omega
theorem ce_le {x y z : Int} (hy : 0 < y) : ceI x y ≤ z ↔ x ≤ y * z := by
  obtain ⟨h1, h2⟩ := ceI_b (x := x) hy
  constructor
  · intro h
    exact Int.le_trans h1 (Int.mul_le_mul_of_nonneg_left h (by omega))
  · intro h
    have h3 : y * ceI x y < y * (z + 1) := by rw [Int.mul_add]; omega
    have := Int.lt_of_mul_lt_mul_left h3 (by omega)
    omega
theorem fl_mono {x z y : Int} (hy : 0 < y) (h : x ≤ z) : flI x y ≤ flI z y := (le_fl hy).2 (Int.le_trans (flI_b hy).1 h)
theorem ce_mono {x z y : Int} (hy : 0 < y) (h : x ≤ z) : ceI x y ≤ ceI z y := (ce_le hy).2 (Int.le_trans h (ceI_b hy).1)
theorem fl_ce {x z y : Int} (hy : 0 < y) (h : x ≤ z) : flI x y ≤ ceI z y := by
  have h1 := (flI_b (x := x) hy).1
  have h2 := (ceI_b (x := z) hy).1
  have h3 : y * flI x y ≤ y * ceI z y := by omega
  exact Int.le_of_mul_le_mul_left h3 hy
theorem fl_mul {x y : Int} (hy : 0 < y) : flI (y * x) y = x := by
  refine Int.le_antisymm ?_ ((le_fl hy).2 (Int.le_refl _))
  have h3 := (flI_b (x := y * x) hy).1
  exact Int.le_of_mul_le_mul_left h3 hy
theorem ce_mul {x y : Int} (hy : 0 < y) : ceI (y * x) y = x := by
  refine Int.le_antisymm ((ce_le hy).2 (Int.le_refl _)) ?_
  have h3 := (ceI_b (x := y * x) hy).1
  exact Int.le_of_mul_le_mul_left h3 hy

theorem mnI_le {x y : Int} : mnI x y ≤ x ∧ mnI x y ≤ y := by unfold mnI; split <;> omega
theorem le_mnI {x y z : Int} (h1 : z ≤ x) (h2 : z ≤ y) : z ≤ mnI x y := by unfold mnI; split <;> omega
theorem le_mxI {x y : Int} : x ≤ mxI x y ∧ y ≤ mxI x y := by unfold mxI; split <;> omega
theorem mxI_le {x y z : Int} (h1 : x ≤ z) (h2 : y ≤ z) : mxI x y ≤ z := by unfold mxI; split <;> omega
theorem mn4_le {a b c d : Int} : mn4I a b c d ≤ a ∧ mn4I a b c d ≤ b ∧ mn4I a b c d ≤ c ∧ mn4I a b c d ≤ d := by
  unfold mn4I
  have h1 := mnI_le (x := a) (y := b)
  have h2 := mnI_le (x := mnI a b) (y := c)
  have h3 := mnI_le (x := mnI (mnI a b) c) (y := d)
  omega
theorem le_mn4 {a b c d z : Int} (h1 : z ≤ a) (h2 : z ≤ b) (h3 : z ≤ c) (h4 : z ≤ d) : z ≤ mn4I a b c d := le_mnI (le_mnI (le_mnI h1 h2) h3) h4
theorem le_mx4 {a b c d : Int} : a ≤ mx4I a b c d ∧ b ≤ mx4I a b c d ∧ c ≤ mx4I a b c d ∧ d ≤ mx4I a b c d := by
  unfold mx4I
  have h1 := le_mxI (x := a) (y := b)
  have h2 := le_mxI (x := mxI a b) (y := c)
  have h3 := le_mxI (x := mxI (mxI a b) c) (y := d)
  omega
theorem mx4_le {a b c d z : Int} (h1 : a ≤ z) (h2 : b ≤ z) (h3 : c ≤ z) (h4 : d ≤ z) : mx4I a b c d ≤ z := mxI_le (mxI_le (mxI_le h1 h2) h3) h4
theorem mn4_mx4 {a b c d : Int} : mn4I a b c d ≤ mx4I a b c d := Int.le_trans mn4_le.1 le_mx4.1
theorem mn_mx {a b : Int} : mnI a b ≤ mxI a b := Int.le_trans mnI_le.1 le_mxI.1

theorem mkV_ok {l h : Int} (h1 : -1152921504606846976 ≤ l) (h2 : l ≤ h) (h3 : h ≤ 1152921504606846976) : mkV l h = (l, h, false) := if_pos (okI_iff.2 ⟨rfl, h1, h2, h3⟩)
theorem mkV_no {l h : Int} (hn : ¬ (-1152921504606846976 ≤ l ∧ l ≤ h ∧ h ≤ 1152921504606846976)) : mkV l h = bdV := if_neg (fun h => hn (okI_iff.1 h).2)
theorem mkV_bad {l h : Int} (hb : (mkV l h).2.2 = false) : -1152921504606846976 ≤ l ∧ l ≤ h ∧ h ≤ 1152921504606846976 ∧ mkV l h = (l, h, false) := by
  by_cases hn : -1152921504606846976 ≤ l ∧ l ≤ h ∧ h ≤ 1152921504606846976
  · exact ⟨hn.1, hn.2.1, hn.2.2, mkV_ok hn.1 hn.2.1 hn.2.2⟩
  · rw [mkV_no hn] at hb; cases hb
theorem outV_ok {mn mx d : Int} (hd : 0 < d) (h : mn ≤ mx) (h1 : -1152921504606846976 ≤ flI mn d) (h2 : ceI mx d ≤ 1152921504606846976) : outV mn mx d = (flI mn d, ceI mx d, false) := by
  have h3 := fl_ce hd h
  unfold outV endI
  rw [if_pos (show isI (flI mn d) by unfold isI; omega), if_pos (show isI (ceI mx d) by unfold isI; omega)]
  exact mkV_ok h1 h3 h2
theorem outV_bad {mn mx d : Int} (hb : (outV mn mx d).2.2 = false) : -1152921504606846976 ≤ flI mn d ∧ ceI mx d ≤ 1152921504606846976 ∧ outV mn mx d = (flI mn d, ceI mx d, false) := by
  unfold outV at hb ⊢
  obtain ⟨h1, h2, h3, h4⟩ := mkV_bad hb
  rw [h4]
  unfold endI at *
  split at h1 <;> split at h3
  · rename_i i1 i2
    rw [if_pos i1, if_pos i2]
    exact ⟨h1, h3, rfl⟩
  · omega
  · rename_i i1 i2
    rw [if_neg i1] at h2
    rw [if_pos i2] at h2
    omega
  · omega
theorem mulV_ok {x y : IV} (hx : okV x = true) (hy : okV y = true) : mulV x y = outV (mn4I (x.1 * y.1) (x.2.1 * y.1) (x.1 * y.2.1) (x.2.1 * y.2.1)) (mx4I (x.1 * y.1) (x.2.1 * y.1) (x.1 * y.2.1) (x.2.1 * y.2.1)) 1073741824 := if_pos (by rw [hx, hy]; rfl)
theorem addV_ok {x y : IV} (hx : okV x = true) (hy : okV y = true) : addV x y = mkV (x.1 + y.1) (x.2.1 + y.2.1) := if_pos (by rw [hx, hy]; rfl)
theorem subV_ok {x y : IV} (hx : okV x = true) (hy : okV y = true) : subV x y = mkV (x.1 - y.2.1) (x.2.1 - y.1) := if_pos (by rw [hx, hy]; rfl)
theorem negV_ok {x : IV} (hx : okV x = true) : negV x = (-x.2.1, -x.1, false) := by
  have h := okV_iff.1 hx
  exact (if_pos hx).trans (mkV_ok (by omega) (by omega) (by omega))
theorem okV_mk {l h : Int} (h1 : -1152921504606846976 ≤ l) (h2 : l ≤ h) (h3 : h ≤ 1152921504606846976) : okV (l, h, false) = true := okV_iff.2 ⟨rfl, h1, h2, h3⟩
theorem holdsV_iff {x y : IV} : holdsV x y = true ↔ okV x = true ∧ okV y = true ∧ x.1 ≤ y.1 ∧ y.2.1 ≤ x.2.1 := by
  unfold holdsV
  simp [and_assoc]
theorem okV_no {x y : IV} (hx : okV x = false) : addV x y = bdV ∧ addV y x = bdV ∧ subV x y = bdV ∧ subV y x = bdV ∧ negV x = bdV ∧ mulV x y = bdV ∧ mulV y x = bdV ∧ meetV x y = bdV ∧ meetV y x = bdV ∧ hullV x y = bdV ∧ hullV y x = bdV ∧ holdsV x y = false ∧ holdsV y x = false ∧ widthV x = -1 := by
  refine ⟨?_, ?_, ?_, ?_, ?_, ?_, ?_, ?_, ?_, ?_, ?_, ?_, ?_, ?_⟩ <;> simp [addV, subV, negV, mulV, meetV, hullV, holdsV, widthV, hx]
theorem ext3 {x : IV} {a b : Int} (h1 : x.1 = a) (h2 : x.2.1 = b) (h3 : x.2.2 = false) : x = (a, b, false) := by
  obtain ⟨l, h, c⟩ := x
  simp only at h1 h2 h3
  rw [h1, h2, h3]

/-! ### Of the ring -/
theorem addV_comm (x y : IV) : addV x y = addV y x := by
  unfold addV
  rw [Bool.and_comm, Int.add_comm x.1, Int.add_comm x.2.1]
theorem mulV_comm (x y : IV) : mulV x y = mulV y x := by
  unfold mulV
  rw [Bool.and_comm, Int.mul_comm x.1 y.1, Int.mul_comm x.2.1 y.1, Int.mul_comm x.1 y.2.1, Int.mul_comm x.2.1 y.2.1]
  have e1 : ∀ a b c d : Int, mn4I a b c d = mn4I a c b d := fun a b c d => by
    have h1 := mn4_le (a := a) (b := b) (c := c) (d := d)
    have h2 := mn4_le (a := a) (b := c) (c := b) (d := d)
    exact Int.le_antisymm (le_mn4 h1.1 h1.2.2.1 h1.2.1 h1.2.2.2) (le_mn4 h2.1 h2.2.2.1 h2.2.1 h2.2.2.2)
  have e2 : ∀ a b c d : Int, mx4I a b c d = mx4I a c b d := fun a b c d => by
    have h1 := le_mx4 (a := a) (b := b) (c := c) (d := d)
    have h2 := le_mx4 (a := a) (b := c) (c := b) (d := d)
    exact Int.le_antisymm (mx4_le h2.1 h2.2.2.1 h2.2.1 h2.2.2.2) (mx4_le h1.1 h1.2.2.1 h1.2.1 h1.2.2.2)
  rw [e1, e2]
theorem mulV_one {x : IV} (hx : okV x = true) : mulV (1073741824, 1073741824, false) x = x := by
  have h := okV_iff.1 hx
  rw [mulV_ok (by decide) hx]
  have e1 : mn4I (1073741824 * x.1) (1073741824 * x.1) (1073741824 * x.2.1) (1073741824 * x.2.1) = 1073741824 * x.1 := by
    have := mn4_le (a := 1073741824 * x.1) (b := 1073741824 * x.1) (c := 1073741824 * x.2.1) (d := 1073741824 * x.2.1)
    exact Int.le_antisymm this.1 (le_mn4 (Int.le_refl _) (Int.le_refl _) (by omega) (by omega))
  have e2 : mx4I (1073741824 * x.1) (1073741824 * x.1) (1073741824 * x.2.1) (1073741824 * x.2.1) = 1073741824 * x.2.1 := by
    have := le_mx4 (a := 1073741824 * x.1) (b := 1073741824 * x.1) (c := 1073741824 * x.2.1) (d := 1073741824 * x.2.1)
    exact Int.le_antisymm (mx4_le (by omega) (by omega) (Int.le_refl _) (Int.le_refl _)) this.2.2.2
  simp only [e1, e2]
  rw [outV_ok (by decide) (by omega) (by rw [fl_mul (by decide)]; omega) (by rw [ce_mul (by decide)]; omega), fl_mul (by decide), ce_mul (by decide)]
  exact (ext3 rfl rfl h.1).symm
theorem mulV_nought {x : IV} (hx : okV x = true) : mulV (0, 0, false) x = (0, 0, false) := by
  rw [mulV_ok (by decide) hx]
  simp only [Int.zero_mul]
  decide
theorem negV_negV {x : IV} (hx : okV x = true) : negV (negV x) = x := by
  have h := okV_iff.1 hx
  rw [negV_ok hx, negV_ok (okV_mk (by omega) (by omega) (by omega))]
  simp only [Int.neg_neg]
  exact (ext3 rfl rfl h.1).symm
theorem subV_neg {x y : IV} (hx : okV x = true) (hy : okV y = true) : subV x y = addV x (negV y) := by
  have h := okV_iff.1 hy
  rw [negV_ok hy, subV_ok hx hy, addV_ok hx (okV_mk (by omega) (by omega) (by omega))]
  rfl
theorem add_sub_holds {x y : IV} (hx : okV x = true) (hy : okV y = true) (hb : (subV (addV x y) y).2.2 = false) : holdsV (subV (addV x y) y) x = true := by
  have h := okV_iff.1 hx
  have k := okV_iff.1 hy
  have hs : okV (addV x y) = true := by
    cases hk : okV (addV x y)
    · rw [(okV_no (y := y) hk).2.2.1] at hb; cases hb
    · rfl
  have hab : (addV x y).2.2 = false := (okV_iff.1 hs).1
  rw [addV_ok hx hy] at hab hs hb ⊢
  obtain ⟨a1, a2, a3, a4⟩ := mkV_bad hab
  rw [a4] at hs hb ⊢
  rw [subV_ok hs hy] at hb ⊢
  obtain ⟨b1, b2, b3, b4⟩ := mkV_bad hb
  rw [b4]
  exact holdsV_iff.2 ⟨okV_mk b1 b2 b3, hx, by simp only at b1 b2 b3 ⊢; omega, by simp only at b1 b2 b3 ⊢; omega⟩
/-- A product by a sum is held by the sum of the products. -/
theorem ring_holds {x y z : IV} (hx : okV x = true) (hy : okV y = true) (hz : okV z = true)
    (hr : (addV (mulV x y) (mulV x z)).2.2 = false) (hl : (mulV x (addV y z)).2.2 = false) : holdsV (addV (mulV x y) (mulV x z)) (mulV x (addV y z)) = true := by
  have okof : ∀ {u v : IV}, (addV u v).2.2 = false → okV u = true ∧ okV v = true := fun {u v} h => by
    constructor
    · cases hk : okV u
      · rw [(okV_no (y := v) hk).1] at h; cases h
      · rfl
    · cases hk : okV v
      · rw [(okV_no (y := u) hk).2.1] at h; cases h
      · rfl
  have oy : okV (addV y z) = true := by
    cases hk : okV (addV y z)
    · rw [(okV_no (y := x) hk).2.2.2.2.2.2.1] at hl; cases hl
    · rfl
  obtain ⟨o1, o2⟩ := okof hr
  have q1 := (okV_iff.1 o1).1
  have q2 := (okV_iff.1 o2).1
  have q3 := (okV_iff.1 oy).1
  rw [addV_ok hy hz] at oy q3 hl ⊢
  obtain ⟨s1, s2, s3, s4⟩ := mkV_bad q3
  rw [s4] at oy hl ⊢
  rw [mulV_ok hx hy] at o1 q1 hr ⊢
  rw [mulV_ok hx hz] at o2 q2 hr ⊢
  rw [mulV_ok hx oy] at hl ⊢
  obtain ⟨t1, t2, t3⟩ := outV_bad q1
  obtain ⟨u1, u2, u3⟩ := outV_bad q2
  obtain ⟨v1, v2, v3⟩ := outV_bad hl
  rw [t3] at o1 hr ⊢
  rw [u3] at o2 hr ⊢
  rw [v3]
  rw [addV_ok o1 o2] at hr ⊢
  obtain ⟨w1, w2, w3, w4⟩ := mkV_bad hr
  rw [w4]
  have hD : (0 : Int) < 1073741824 := by decide
  have cor : ∀ a b c : Int, a * (b + c) = a * b + a * c := fun a b c => Int.mul_add a b c
  have m1 := mn4_le (a := x.1 * y.1) (b := x.2.1 * y.1) (c := x.1 * y.2.1) (d := x.2.1 * y.2.1)
  have m2 := mn4_le (a := x.1 * z.1) (b := x.2.1 * z.1) (c := x.1 * z.2.1) (d := x.2.1 * z.2.1)
  have M1 := le_mx4 (a := x.1 * y.1) (b := x.2.1 * y.1) (c := x.1 * y.2.1) (d := x.2.1 * y.2.1)
  have M2 := le_mx4 (a := x.1 * z.1) (b := x.2.1 * z.1) (c := x.1 * z.2.1) (d := x.2.1 * z.2.1)
  have f1 := (flI_b (x := mn4I (x.1 * y.1) (x.2.1 * y.1) (x.1 * y.2.1) (x.2.1 * y.2.1)) hD).1
  have f2 := (flI_b (x := mn4I (x.1 * z.1) (x.2.1 * z.1) (x.1 * z.2.1) (x.2.1 * z.2.1)) hD).1
  have g1 := (ceI_b (x := mx4I (x.1 * y.1) (x.2.1 * y.1) (x.1 * y.2.1) (x.2.1 * y.2.1)) hD).1
  have g2 := (ceI_b (x := mx4I (x.1 * z.1) (x.2.1 * z.1) (x.1 * z.2.1) (x.2.1 * z.2.1)) hD).1
  refine holdsV_iff.2 ⟨okV_mk w1 w2 w3, okV_mk v1 (fl_ce hD mn4_mx4) v2, ?_, ?_⟩
  · refine (le_fl hD).2 (le_mn4 ?_ ?_ ?_ ?_) <;> (simp only [cor]; omega)
  · refine (ce_le hD).2 (mx4_le ?_ ?_ ?_ ?_) <;> (simp only [cor]; omega)

/-! ### Of parts -/
theorem mul_between {l x h d : Int} (h1 : l ≤ x) (h2 : x ≤ h) : mnI (l * d) (h * d) ≤ x * d ∧ x * d ≤ mxI (l * d) (h * d) := by
  have a := mnI_le (x := l * d) (y := h * d)
  have b := le_mxI (x := l * d) (y := h * d)
  rcases Int.le_total 0 d with hd | hd
  · have c1 := Int.mul_le_mul_of_nonneg_right h1 hd
    have c2 := Int.mul_le_mul_of_nonneg_right h2 hd
    omega
  · have c1 := Int.mul_le_mul_of_nonpos_right h1 hd
    have c2 := Int.mul_le_mul_of_nonpos_right h2 hd
    omega
/-- Between the corners. -/
theorem corners {x1 x2 y1 y2 x y : Int} (h1 : x1 ≤ x) (h2 : x ≤ x2) (k1 : y1 ≤ y) (k2 : y ≤ y2) :
    mn4I (x1 * y1) (x2 * y1) (x1 * y2) (x2 * y2) ≤ x * y ∧ x * y ≤ mx4I (x1 * y1) (x2 * y1) (x1 * y2) (x2 * y2) := by
  have a := mul_between (d := y) h1 h2
  have m := mn4_le (a := x1 * y1) (b := x2 * y1) (c := x1 * y2) (d := x2 * y2)
  have M := le_mx4 (a := x1 * y1) (b := x2 * y1) (c := x1 * y2) (d := x2 * y2)
  have b1 := mul_between (d := x1) k1 k2
  have b2 := mul_between (d := x2) k1 k2
  rw [Int.mul_comm y1 x1, Int.mul_comm y2 x1, Int.mul_comm y x1] at b1
  rw [Int.mul_comm y1 x2, Int.mul_comm y2 x2, Int.mul_comm y x2] at b2
  have c1 := le_mnI (x := x1 * y1) (y := x1 * y2) m.1 m.2.2.1
  have c2 := le_mnI (x := x2 * y1) (y := x2 * y2) m.2.1 m.2.2.2
  have d1 := mxI_le (x := x1 * y1) (y := x1 * y2) M.1 M.2.2.1
  have d2 := mxI_le (x := x2 * y1) (y := x2 * y2) M.2.1 M.2.2.2
  have e1 := le_mnI (x := x1 * y) (y := x2 * y) (z := mn4I (x1 * y1) (x2 * y1) (x1 * y2) (x2 * y2)) (by omega) (by omega)
  have e2 := mxI_le (x := x1 * y) (y := x2 * y) (z := mx4I (x1 * y1) (x2 * y1) (x1 * y2) (x2 * y2)) (by omega) (by omega)
  omega
theorem mul_part {h a d : IV} (hh : okV h = true) (ha : okV a = true) (hd : okV d = true) (h1 : h.1 ≤ a.1) (h2 : a.2.1 ≤ h.2.1) (hb : (mulV h d).2.2 = false) : holdsV (mulV h d) (mulV a d) = true := by
  have k := okV_iff.1 ha
  have kd := okV_iff.1 hd
  rw [mulV_ok hh hd] at hb ⊢
  rw [mulV_ok ha hd]
  obtain ⟨t1, t2, t3⟩ := outV_bad hb
  have hD : (0 : Int) < 1073741824 := by decide
  have c1 := corners (x1 := h.1) (x2 := h.2.1) (y1 := d.1) (y2 := d.2.1) (x := a.1) (y := d.1) h1 (by omega) (Int.le_refl _) (by omega)
  have c2 := corners (x1 := h.1) (x2 := h.2.1) (y1 := d.1) (y2 := d.2.1) (x := a.2.1) (y := d.1) (by omega) h2 (Int.le_refl _) (by omega)
  have c3 := corners (x1 := h.1) (x2 := h.2.1) (y1 := d.1) (y2 := d.2.1) (x := a.1) (y := d.2.1) h1 (by omega) (by omega) (Int.le_refl _)
  have c4 := corners (x1 := h.1) (x2 := h.2.1) (y1 := d.1) (y2 := d.2.1) (x := a.2.1) (y := d.2.1) (by omega) h2 (by omega) (Int.le_refl _)
  have n1 := fl_mono hD (le_mn4 c1.1 c2.1 c3.1 c4.1)
  have n2 := ce_mono hD (mx4_le c1.2 c2.2 c3.2 c4.2)
  rw [t3, outV_ok hD mn4_mx4 (by omega) (by omega)]
  exact holdsV_iff.2 ⟨okV_mk t1 (fl_ce hD mn4_mx4) t2, okV_mk (by omega) (fl_ce hD mn4_mx4) (by omega), n1, n2⟩
theorem add_part {h a d : IV} (hh : okV h = true) (ha : okV a = true) (hd : okV d = true) (h1 : h.1 ≤ a.1) (h2 : a.2.1 ≤ h.2.1) (hb : (addV h d).2.2 = false) : holdsV (addV h d) (addV a d) = true := by
  have k := okV_iff.1 ha
  have kd := okV_iff.1 hd
  rw [addV_ok hh hd] at hb ⊢
  rw [addV_ok ha hd]
  obtain ⟨t1, t2, t3, t4⟩ := mkV_bad hb
  rw [t4, mkV_ok (by omega) (by omega) (by omega)]
  exact holdsV_iff.2 ⟨okV_mk t1 t2 t3, okV_mk (by omega) (by omega) (by omega), by simp only; omega, by simp only; omega⟩
theorem sub_part {h a d : IV} (hh : okV h = true) (ha : okV a = true) (hd : okV d = true) (h1 : h.1 ≤ a.1) (h2 : a.2.1 ≤ h.2.1) (hb : (subV d h).2.2 = false) : holdsV (subV d h) (subV d a) = true := by
  have k := okV_iff.1 ha
  have kd := okV_iff.1 hd
  rw [subV_ok hd hh] at hb ⊢
  rw [subV_ok hd ha]
  obtain ⟨t1, t2, t3, t4⟩ := mkV_bad hb
  rw [t4, mkV_ok (by omega) (by omega) (by omega)]
  exact holdsV_iff.2 ⟨okV_mk t1 t2 t3, okV_mk (by omega) (by omega) (by omega), by simp only; omega, by simp only; omega⟩

end Go.Proofs.YtcmfgabhgodlaaaGreatDoor

/- Small facts of intervals and ints. -/
namespace Go.Proofs.YtcmfgabhgodlaaaGreatDoor
open Go Go.RowKit Go.Shelf
set_option linter.unusedSimpArgs false
set_option linter.unusedVariables false
set_option maxRecDepth 100000

theorem PureX.is {P : Program} {f : FuncId} {args : Array Value} {r s : Res} (h : PureX P f args r) (e : r = s) : PureX P f args s := e ▸ h

theorem fl_ce_any {x y : Int} (h0 : y ≠ 0) : flI x y ≤ ceI x y := by
  have h1 := flI_side (x := x) h0
  have h2 := ceI_side (x := x) h0
  unfold OnSide at h1 h2
  have e : y * ceI x y - y * flI x y = y * (ceI x y - flI x y) := by rw [Int.mul_sub]
  rcases Int.lt_trichotomy y 0 with h | h | h
  · have h3 : y * (ceI x y - flI x y) ≤ 0 := by omega
    rcases Int.lt_or_le (ceI x y) (flI x y) with h4 | h4
    · have := Int.mul_pos_of_neg_of_neg h (show ceI x y - flI x y < 0 by omega)
      omega
    · exact h4
  · exact absurd h h0
  · rcases Int.lt_or_le (ceI x y) (flI x y) with h4 | h4
    · have := Int.mul_neg_of_pos_of_neg h (show ceI x y - flI x y < 0 by omega)
      omega
    · exact h4
theorem tm_b {a w : Int} (hw : 0 < w) : -w < Int.tmod a w ∧ Int.tmod a w < w := by
  have h := Int.natAbs_tmod a w
  have h1 := Nat.mod_lt a.natAbs (show 0 < w.natAbs by omega)
  omega
theorem tm_p {a w : Int} (ha : 0 ≤ a) (hw : 0 < w) : 0 ≤ Int.tmod a w ∧ Int.tmod a w < w := by
  have h := tm_b (a := a) hw
  have := Int.tmod_nonneg w ha
  omega
def inZ (x : IV) (n : Int) : Int := x.1 + Int.tmod (Int.tmod n (x.2.1 - x.1 + 1) + (x.2.1 - x.1 + 1)) (x.2.1 - x.1 + 1)
theorem inZ_in {x : IV} (hx : okV x = true) (n : Int) : x.1 ≤ inZ x n ∧ inZ x n ≤ x.2.1 := by
  have a := okV_iff.1 hx
  have h1 := tm_b (a := n) (w := x.2.1 - x.1 + 1) (by omega)
  have h2 := tm_p (a := Int.tmod n (x.2.1 - x.1 + 1) + (x.2.1 - x.1 + 1)) (w := x.2.1 - x.1 + 1) (by omega) (by omega)
  unfold inZ
  omega
abbrev T2 (B : Nat) (x y : Int) : Hp := [(B, .cells ⟨[ii x, ii y]⟩ 3 (0, 0))]
abbrev T5 (B : Nat) (x y z v w : Int) : Hp := [(B, .cells ⟨[ii x, ii y, ii z, ii v, ii w]⟩ 3 (0, 0))]
theorem ivv_eq {x : IV} {l h : Int} {b : Bool} (e : x = (l, h, b)) : ivv x = iv l h b := by rw [e]; rfl
theorem isI_R {x : Int} (h : isI x) : inR x := by unfold isI at h; unfold inR; omega
theorem sgn_le {a b : Int} (h : a ≤ b) : (a - b).sign ≤ 0 := by
  rcases Int.lt_or_le a b with h1 | h1
  · rw [Int.sign_eq_neg_one_of_neg (by omega)]; decide
  · rw [show a - b = 0 by omega]; decide
theorem cmp_le {a b : Int} (h : a ≤ b) : decide ((a - b).sign ≤ 0) = true := decide_eq_true (sgn_le h)
theorem cmp_ngt {a b : Int} (h : a ≤ b) : decide (0 < (a - b).sign) = false := decide_eq_false (by have := sgn_le h; omega)
theorem mul_R {a b : Int} (ha : isI a) (hb : isI b) : inR (a * b) := by
  have h1 : (a * b).natAbs ≤ 9223372036854775808 * 9223372036854775808 := by
    rw [Int.natAbs_mul]
    unfold isI at ha hb
    exact Nat.mul_le_mul (by omega) (by omega)
  unfold inR
  omega
theorem ok_isI {x : IV} (h : okV x = true) {n : Int} (h1 : x.1 ≤ n) (h2 : n ≤ x.2.1) : isI n := by
  have := okV_iff.1 h
  unfold isI
  omega
theorem neg_wrap {l : Int} (h1 : -1152921504606846976 ≤ l) (h2 : l ≤ 1152921504606846976) : IntKind.i64.wrap (0 - l) = -l := by
  rw [wrapI (by omega)]
  omega
theorem flI_n {x y : Int} (hy : y < 0) : x ≤ y * flI x y ∧ y * flI x y + y < x := by
  have h := flI_side (x := x) (y := y) (by omega)
  unfold OnSide at h
  omega
theorem ceI_n {x y : Int} (hy : y < 0) : y * ceI x y ≤ x ∧ x < y * ceI x y - y := by
  have h := ceI_side (x := x) (y := y) (by omega)
  unfold OnSide at h
  omega
theorem le_fln {x y z : Int} (hy : y < 0) : z ≤ flI x y ↔ x ≤ y * z := by
  obtain ⟨h1, h2⟩ := flI_n (x := x) hy
  constructor
  · intro h
    exact Int.le_trans h1 (Int.mul_le_mul_of_nonpos_left (by omega) h)
  · intro h
    rcases Int.lt_or_le (flI x y) z with h3 | h3
    · have h4 : y * z ≤ y * (flI x y + 1) := Int.mul_le_mul_of_nonpos_left (by omega) (by omega)
      rw [Int.mul_add] at h4
      omega
    · exact h3
theorem ce_len {x y z : Int} (hy : y < 0) : ceI x y ≤ z ↔ y * z ≤ x := by
  obtain ⟨h1, h2⟩ := ceI_n (x := x) hy
  constructor
  · intro h
    exact Int.le_trans (Int.mul_le_mul_of_nonpos_left (by omega) h) h1
  · intro h
    rcases Int.lt_or_le z (ceI x y) with h3 | h3
    · have h4 : y * (ceI x y - 1) ≤ y * z := Int.mul_le_mul_of_nonpos_left (by omega) (by omega)
      rw [Int.mul_sub] at h4
      omega
    · exact h3
theorem mk_bd {l h : Int} (hb : (mkV l h).2.2 = true) : mkV l h = bdV := by
  unfold mkV at hb ⊢
  split at hb
  · simp at hb
  · rename_i h; rw [if_neg h]
theorem endI_of {z : Int} (h : isI z) : endI z = z := if_pos h

end Go.Proofs.YtcmfgabhgodlaaaGreatDoor

/- The document's floors and ceilings, given its division of numbers that are not below 0. -/
namespace Go.Proofs.YtcmfgabhgodlaaaGreatDoor
open Go Go.RowKit
set_option linter.unusedSimpArgs false
set_option linter.unusedVariables false
set_option maxRecDepth 100000

/-- What the document's `plain` is to do. -/
def PlainOK : Prop := ∀ a b : Int, 0 ≤ a → 0 < b → inR a → inR b → PureX Tryz.prog 94 #[wz a, wz b] (rt (tp [wz (a / b), wz (a % b)]))
abbrev lst : Int := -57896044618658097711785492504343953926634992332820282019728792003956564819968
section
variable (a b c : Nat) (p : Bool)
theorem dsub_raw : runB Tryz.prog 95 #[wv a, wv b] [] [] [(107, rt (tp [wv c, bb p]))] [] = some (rt (wv c), [], [PureX Tryz.prog 107 #[wv a, wv b] (rt (tp [wv c, bb p]))]) := by kernel_rfl
theorem dneg_raw : runB Tryz.prog 82 #[wv a] [] [] [(58, rt (tp [wv c, bb p]))] [] = some (rt (wv c), [], [PureX Tryz.prog 58 #[wv a] (rt (tp [wv c, bb p]))]) := by kernel_rfl
theorem dadd_raw : runB Tryz.prog 106 #[wv a, wv b] [] [] [(41, rt (tp [wv c, bb p]))] [] = some (rt (wv c), [], [PureX Tryz.prog 41 #[wv a, wv b] (rt (tp [wv c, bb p]))]) := by kernel_rfl
theorem done_raw : runB Tryz.prog 96 #[] [] [] [(39, rt (wv c))] [] = some (rt (wv c), [], [PureX Tryz.prog 39 #[ii 1] (rt (wv c))]) := by kernel_rfl
theorem dlst_raw : runB Tryz.prog 80 #[] [] [] [] [] = some (rt (wv 57896044618658097711785492504343953926634992332820282019728792003956564819968), [], []) := by kernel_rfl
variable (q r na nb nr m nq q2 b1 r2 o k : Nat) (s : Int)
theorem abv_p : runB Tryz.prog 81 #[wv a, wv b] [] [t] [(59, rt (ii s)), (94, rt (tp [wv q, wv r]))] [] =
    some (rt (tp [wv q, wv r]), [], [PureX Tryz.prog 59 #[wv a] (rt (ii s)), decide (0 ≤ s) = true, PureX Tryz.prog 94 #[wv a, wv b] (rt (tp [wv q, wv r]))]) := by kernel_rfl
theorem abv_n : runB Tryz.prog 81 #[wv a, wv b] [] [f] [(59, rt (ii s)), (82, rt (wv na)), (96, rt (wv o)), (95, rt (wv m)), (94, rt (tp [wv q, wv r])), (82, rt (wv nq)), (96, rt (wv o)), (95, rt (wv q2)), (96, rt (wv o)), (95, rt (wv b1)), (95, rt (wv r2))] [] =
    some (rt (tp [wv q2, wv r2]), [], [PureX Tryz.prog 59 #[wv a] (rt (ii s)), decide (0 ≤ s) = false, PureX Tryz.prog 82 #[wv a] (rt (wv na)), PureX Tryz.prog 96 #[] (rt (wv o)), PureX Tryz.prog 95 #[wv na, wv o] (rt (wv m)), PureX Tryz.prog 94 #[wv m, wv b] (rt (tp [wv q, wv r])),
      PureX Tryz.prog 82 #[wv q] (rt (wv nq)), PureX Tryz.prog 96 #[] (rt (wv o)), PureX Tryz.prog 95 #[wv nq, wv o] (rt (wv q2)), PureX Tryz.prog 96 #[] (rt (wv o)), PureX Tryz.prog 95 #[wv b, wv o] (rt (wv b1)), PureX Tryz.prog 95 #[wv b1, wv r] (rt (wv r2))]) := by kernel_rfl
theorem dfl_0 : runB Tryz.prog 63 #[wv a, wv b] [] [t] [] [] = some (rt (tp [wv 0, wv 0, ii 30]), [], [eqv b 0 = true]) := by kernel_rfl
theorem dfl_p : runB Tryz.prog 63 #[wv a, wv b] [] [f, f, n, n, f, t] [(80, rt (wv c)), (80, rt (wv c)), (59, rt (ii s)), (81, rt (tp [wv q, wv r]))] [] =
    some (rt (tp [wv q, wv r, ii 0]), [], [eqv b 0 = false, PureX Tryz.prog 80 #[] (rt (wv c)), eqv a c = false, PureX Tryz.prog 80 #[] (rt (wv c)), eqv b c = false, PureX Tryz.prog 59 #[wv b] (rt (ii s)), decide (0 < s) = true, PureX Tryz.prog 81 #[wv a, wv b] (rt (tp [wv q, wv r]))]) := by kernel_rfl
theorem dfl_n : runB Tryz.prog 63 #[wv a, wv b] [] [f, f, n, n, f, f] [(80, rt (wv c)), (80, rt (wv c)), (59, rt (ii s)), (82, rt (wv na)), (82, rt (wv nb)), (81, rt (tp [wv q, wv r])), (82, rt (wv nr))] [] =
    some (rt (tp [wv q, wv nr, ii 0]), [], [eqv b 0 = false, PureX Tryz.prog 80 #[] (rt (wv c)), eqv a c = false, PureX Tryz.prog 80 #[] (rt (wv c)), eqv b c = false, PureX Tryz.prog 59 #[wv b] (rt (ii s)), decide (0 < s) = false,
      PureX Tryz.prog 82 #[wv a] (rt (wv na)), PureX Tryz.prog 82 #[wv b] (rt (wv nb)), PureX Tryz.prog 81 #[wv na, wv nb] (rt (tp [wv q, wv r])), PureX Tryz.prog 82 #[wv r] (rt (wv nr))]) := by kernel_rfl
theorem dFl_raw : runB Tryz.prog 42 #[wv a, wv b] [] [] [(63, rt (tp [wv q, wv r, ii s]))] [] = some (rt (tp [wv q, ii s]), [], [PureX Tryz.prog 63 #[wv a, wv b] (rt (tp [wv q, wv r, ii s]))]) := by kernel_rfl
end
theorem dsub_z {x y : Int} (hx : inR x) (hy : inR y) : PureX Tryz.prog 95 #[wz x, wz y] (rt (wz (x - y))) := runB_pure mix (dsub_raw _ _ _ _) ⟨rsub_z hx hy, trivial⟩ rfl rfl
theorem dneg_z {x : Int} (hx : inR x) : PureX Tryz.prog 82 #[wz x] (rt (wz (-x))) := runB_pure mix (dneg_raw _ _ _) ⟨rneg_z hx, trivial⟩ rfl rfl
theorem dadd_z {x y : Int} (hx : inR x) (hy : inR y) : PureX Tryz.prog 106 #[wz x, wz y] (rt (wz (x + y))) := runB_pure mix (dadd_raw _ _ _ _) ⟨radd_z hx hy, trivial⟩ rfl rfl
theorem done_z : PureX Tryz.prog 96 #[] (rt (wz 1)) := runB_pure mix (done_raw _) ⟨rof_z (by decide) (by decide), trivial⟩ rfl rfl
theorem dlst_z : PureX Tryz.prog 80 #[] (rt (wz lst)) := (runB_pure mix dlst_raw trivial rfl rfl).is (by kernel_rfl)
theorem sign_nn {a : Int} (h : 0 ≤ a) : 0 ≤ a.sign := by
  rcases Int.lt_or_eq_of_le h with h | h
  · rw [Int.sign_eq_one_of_pos h]; decide
  · rw [← h]; decide
theorem above_z (hP : PlainOK) {a b : Int} (ha : inR a) (hl : a ≠ lst) (hb : inR b) (h0 : 0 < b) : PureX Tryz.prog 81 #[wz a, wz b] (rt (tp [wz (a / b), wz (a % b)])) := by
  unfold lst at hl
  rcases Int.lt_or_le a 0 with hn | hn
  · have m0 : 0 ≤ -a - 1 := by omega
    have mR : inR (-a - 1) := by unfold inR at ha ⊢; omega
    have naR : inR (-a) := by unfold inR at ha ⊢; omega
    have e0 := Int.emod_nonneg (-a - 1) (show b ≠ 0 by omega)
    have e1 := Int.emod_lt_of_pos (-a - 1) h0
    have e2 := Int.emod_add_mul_ediv (-a - 1) b
    have d0 := Int.ediv_nonneg m0 (show 0 ≤ b by omega)
    have d1 := Int.ediv_le_self b m0
    have u := (Int.ediv_emod_unique (a := a) (q := -((-a - 1) / b) - 1) (r := b - 1 - (-a - 1) % b) h0).2 ⟨by rw [Int.mul_sub, Int.mul_neg]; omega, by omega, by omega⟩
    have p := hP (-a - 1) b m0 h0 mR hb
    rw [u.1, u.2]
    generalize (-a - 1) / b = q at *
    generalize (-a - 1) % b = r at *
    have qR : inR q := by unfold inR at mR ⊢; omega
    have nqR : inR (-q) := by unfold inR at mR ⊢; omega
    have rR : inR r := by unfold inR at hb ⊢; omega
    have bR : inR (b - 1) := by unfold inR at hb ⊢; omega
    have s := rsign_z ha
    rw [Int.sign_eq_neg_one_of_neg hn] at s
    exact runB_pure mix (abv_n _ _ _ _ _ _ _ _ _ _ _ _) ⟨s, by decide, dneg_z ha, done_z, dsub_z naR (by decide), p, dneg_z qR, done_z, dsub_z nqR (by decide), done_z, dsub_z hb (by decide), dsub_z bR rR, trivial⟩ rfl rfl
  · exact runB_pure mix (abv_p _ _ _ _ _) ⟨rsign_z ha, decide_eq_true (sign_nn hn), hP a b hn h0 ha hb, trivial⟩ rfl rfl
theorem eqz {x y : Int} (hx : inR x) (hy : inR y) (h : x ≠ y) : eqv (nz x) (nz y) = false := (eqv_z hx hy).trans (decide_eq_false h)
theorem eqz0 {x : Int} (hx : inR x) (h : x ≠ 0) : eqv (nz x) 0 = false := eqz hx (y := 0) (by decide) h
theorem floor_z (hP : PlainOK) {a b : Int} (ha : inR a) (hb : inR b) (hl : a ≠ lst) (hm : b ≠ lst) (h0 : b ≠ 0) : PureX Tryz.prog 63 #[wz a, wz b] (rt (tp [wz (flI a b), wz (a - b * flI a b), ii 0])) := by
  have lR : inR lst := by decide
  unfold lst at hl hm
  have s := rsign_z hb
  rcases Int.lt_or_le 0 b with hp | hp
  · have h := flI_b (x := a) hp
    have u := (Int.ediv_emod_unique (a := a) (q := flI a b) (r := a - b * flI a b) hp).2 ⟨by omega, by omega, by omega⟩
    have A := above_z hP ha hl hb hp
    rw [u.1, u.2] at A
    rw [Int.sign_eq_one_of_pos hp] at s
    exact runB_pure mix (dfl_p _ _ _ _ _ _) ⟨eqz0 hb h0, dlst_z, eqz ha lR hl, dlst_z, eqz hb lR hm, s, by decide, A, trivial⟩ rfl rfl
  · have hn : b < 0 := by omega
    have h := flI_n (x := a) hn
    have naR : inR (-a) := by unfold inR at ha ⊢; omega
    have nbR : inR (-b) := by unfold inR at hb ⊢; omega
    have u := (Int.ediv_emod_unique (a := -a) (b := -b) (q := flI a b) (r := b * flI a b - a) (by omega)).2 ⟨by rw [Int.neg_mul]; omega, by omega, by omega⟩
    have A := above_z hP naR (by unfold inR at ha; unfold lst; omega) nbR (show 0 < -b by omega)
    rw [u.1, u.2] at A
    rw [Int.sign_eq_neg_one_of_neg hn] at s
    have rR : inR (b * flI a b - a) := by unfold inR at hb ⊢; omega
    have r := dneg_z rR
    rw [show -(b * flI a b - a) = a - b * flI a b by omega] at r
    exact runB_pure mix (dfl_n _ _ _ _ _ _ _ _ _) ⟨eqz0 hb h0, dlst_z, eqz ha lR hl, dlst_z, eqz hb lR hm, s, by decide, dneg_z ha, dneg_z hb, A, r, trivial⟩ rfl rfl
theorem floor_0 {a : Int} : PureX Tryz.prog 63 #[wz a, wz 0] (rt (tp [wz 0, wz 0, ii 30])) := runB_pure mix (dfl_0 _ _) ⟨eqv_z (x := 0) (y := 0) (by decide) (by decide), trivial⟩ rfl rfl
theorem ce_fl {a b : Int} (h0 : b ≠ 0) : ceI a b = if a - b * flI a b = 0 then flI a b else flI a b + 1 := by
  have c := fl_ce_any (x := a) h0
  rcases Int.lt_or_le 0 b with hp | hp
  · have h := flI_b (x := a) hp
    split
    · have := (ce_le (x := a) (z := flI a b) hp).2 (by omega)
      omega
    · have h1 := (ce_le (x := a) (z := flI a b + 1) hp).2 (by rw [Int.mul_add]; omega)
      have h2 : ¬ ceI a b ≤ flI a b := fun hh => by have := (ce_le hp).1 hh; omega
      omega
  · have hn : b < 0 := by omega
    have h := flI_n (x := a) hn
    split
    · have := (ce_len (x := a) (z := flI a b) hn).2 (by omega)
      omega
    · have h1 := (ce_len (x := a) (z := flI a b + 1) hn).2 (by rw [Int.mul_add]; omega)
      have h2 : ¬ ceI a b ≤ flI a b := fun hh => by have := (ce_len hn).1 hh; omega
      omega
theorem dFloor_z (hP : PlainOK) {a b : Int} (ha : inR a) (hb : inR b) (hl : a ≠ lst) (hm : b ≠ lst) (h0 : b ≠ 0) : PureX Tryz.prog 42 #[wz a, wz b] (rt (tp [wz (flI a b), ii 0])) :=
  runB_pure mix (dFl_raw _ _ _ _ _) ⟨floor_z hP ha hb hl hm h0, trivial⟩ rfl rfl
theorem dFloor_0 {a : Int} : PureX Tryz.prog 42 #[wz a, wz 0] (rt (tp [wz 0, ii 30])) := runB_pure mix (dFl_raw _ _ _ _ _) ⟨floor_0, trivial⟩ rfl rfl
end Go.Proofs.YtcmfgabhgodlaaaGreatDoor

/- A division by doubling: plain mathematics. -/
namespace Go.Proofs.YtcmfgabhgodlaaaGreatDoor

/-- The way down: so many rounds left, the quotient so far, the rest. -/
def dwn (b : Nat) : Nat → Nat → Nat → Nat × Nat
  | 0, q, a => (q, a)
  | i + 1, q, a => if b * 2 ^ i ≤ a then dwn b i (q + q + 1) (a - b * 2 ^ i) else dwn b i (q + q) a
theorem dwn_ok {b : Nat} (hb : 0 < b) : ∀ (i q a : Nat), a < b * 2 ^ i → dwn b i q a = (q * 2 ^ i + a / b, a % b)
  | 0, q, a, h => by
    have h' : a < b := by simpa using h
    simp [dwn, Nat.div_eq_of_lt h', Nat.mod_eq_of_lt h']
  | i + 1, q, a, h => by
    have e : b * 2 ^ (i + 1) = b * 2 ^ i + b * 2 ^ i := by rw [Nat.pow_succ, ← Nat.mul_assoc]; omega
    unfold dwn
    by_cases hc : b * 2 ^ i ≤ a
    · rw [if_pos hc, dwn_ok hb i _ _ (by omega)]
      obtain ⟨c, rfl⟩ : ∃ c, a = c + b * 2 ^ i := ⟨a - b * 2 ^ i, by omega⟩
      rw [show c + b * 2 ^ i - b * 2 ^ i = c by omega, Nat.add_mul_div_left _ _ hb, Nat.add_mul_mod_self_left, Nat.pow_succ]
      congr 1
      rw [Nat.add_mul, Nat.add_mul, Nat.one_mul, ← Nat.mul_assoc]
      omega
    · rw [if_neg hc, dwn_ok hb i _ _ (by omega), Nat.pow_succ]
      congr 1
      rw [Nat.add_mul, ← Nat.mul_assoc]
      omega
/-- The way down from where the way up ends: the last double is not above a, or there is none but b; the next one would be above it, or over. -/
theorem dwn_all {a b n : Nat} (hb : 0 < b) (h : a < b * 2 ^ n) : dwn b n 0 a = (a / b, a % b) := by
  rw [dwn_ok hb n 0 a h]
  simp
/-- The quotient so far, and the rest, stay below what there was. -/
theorem dwn_le {b q a a0 i : Nat} (h : a0 = q * (b * 2 ^ i) + a) (hb : 0 < b) : q ≤ a0 ∧ a ≤ a0 := by
  have h1 : 1 ≤ b * 2 ^ i := Nat.mul_pos hb (Nat.two_pow_pos i)
  have h2 := Nat.mul_le_mul_left q h1
  omega

end Go.Proofs.YtcmfgabhgodlaaaGreatDoor
