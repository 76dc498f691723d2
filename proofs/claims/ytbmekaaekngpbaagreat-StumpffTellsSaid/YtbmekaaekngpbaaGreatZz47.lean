/- Texts of the seat, joined. -/
import Derived.Test.YtbmekaaekngpbaaGreatZz41
/- The four series: plain mathematics of their terms, sums and enclosures. -/
namespace Go.Proofs.YtbmekaaekngpbaaGreat
set_option linter.unusedSimpArgs false
set_option linter.unusedVariables false
set_option maxRecDepth 100000

def dS (k n : Nat) : Int := Int.ofNat ((k + 2 * n + 1) * (k + 2 * n + 2))
/-- The first terms. -/
def t0S : Nat → IV
  | 2 => (536870912, 536870912, false)
  | 3 => (178956970, 178956971, false)
  | _ => (1073741824, 1073741824, false)
def tS (k : Nat) (p : Int) : Nat → IV
  | 0 => t0S k
  | n + 1 => partV (mulV (tS k p n) (mkV p p)) (-1) (dS k n)
def sS (k : Nat) (p : Int) : Nat → IV
  | 0 => (0, 0, false)
  | n + 1 => addV (sS k p n) (tS k p n)
def widV (a : IV) (r : Int) : IV := addV a (mkV (mnI (-r) r) (mxI (-r) r))
def rS (k : Nat) (p : Int) : Int := 2 * mxI (tS k p 14).2.1 (-(tS k p 14).1)
def eS (k : Nat) (p : Int) : IV := widV (sS k p 14) (rS k p)
def nuV : IV := (-17179869184, 17179869184, false)
def cS (k : Nat) (a : IV) : IV := if holdsV nuV a = true then widV (eS k (midV a)) (4 * rchV a) else bdV
/-! Bounds. -/
def BS (k : Nat) : Nat → Int
  | 0 => 1073741824
  | n + 1 => (16 * BS k n + dS k n - 1) / dS k n
def BSS (k : Nat) : Nat → Int
  | 0 => 0
  | n + 1 => BSS k n + BS k n
def LS (k : Nat) : Nat → Int
  | 0 => 0
  | n + 1 => (16 * LS k n + BS k n + dS k n - 1) / dS k n
def LSS (k : Nat) : Nat → Int
  | 0 => 0
  | n + 1 => LSS k n + LS k n
theorem dS_pos (k n : Nat) : 0 < dS k n := by
  have h1 : 0 < (k + 2 * n + 1) * (k + 2 * n + 2) := Nat.mul_pos (by omega) (by omega)
  exact Int.ofNat_lt.2 h1
theorem BS_ok : ∀ k n, k ≤ 3 → n ≤ 14 → 0 ≤ BS k n ∧ BS k n ≤ 17179869184 ∧ 0 ≤ BSS k n ∧ BSS k n ≤ 34359738368 ∧ 0 ≤ LS k n := by
  have h : ∀ k : Fin 4, ∀ n : Fin 15, 0 ≤ BS k n ∧ BS k n ≤ 17179869184 ∧ 0 ≤ BSS k n ∧ BSS k n ≤ 34359738368 ∧ 0 ≤ LS k n := by decide +kernel
  intro k n hk hn
  exact h ⟨k, by omega⟩ ⟨n, by omega⟩
theorem LSS_ok : ∀ k, k ≤ 3 → LSS k 14 ≤ 4294967296 := by
  have h : ∀ k : Fin 4, LSS k 14 ≤ 4294967296 := by decide +kernel
  intro k hk
  exact h ⟨k, by omega⟩
theorem t0S_ok : ∀ k, k ≤ 3 → Inn (t0S k) 1073741824 := by
  intro k hk
  have : k = 0 ∨ k = 1 ∨ k = 2 ∨ k = 3 := by omega
  rcases this with rfl | rfl | rfl | rfl <;> exact ⟨by decide, by decide, by decide⟩
theorem pt_Inn {p : Int} (h1 : -17179869184 ≤ p) (h2 : p ≤ 17179869184) : mkV p p = (p, p, false) ∧ Inn (mkV p p) 17179869184 := by
  have e : mkV p p = (p, p, false) := mkV_ok (by omega) (by omega) (by omega)
  rw [e]
  exact ⟨rfl, okV_iff.2 ⟨rfl, by show _ ≤ p; omega, Int.le_refl p, by show p ≤ _; omega⟩, h1, h2⟩
theorem tS_ok {k : Nat} (hk : k ≤ 3) {p : Int} (h1 : -17179869184 ≤ p) (h2 : p ≤ 17179869184) : ∀ n, n ≤ 14 → Inn (tS k p n) (BS k n) ∧ (n < 14 → Inn (mulV (tS k p n) (mkV p p)) (16 * BS k n)) := by
    have main : ∀ n, n ≤ 14 → Inn (tS k p n) (BS k n) → Inn (mulV (tS k p n) (mkV p p)) (16 * BS k n) := by
      intro n hn i
      obtain ⟨b0, b1, _, _, _⟩ := BS_ok k n hk hn
      exact (mul_Inn i (pt_Inn h1 h2).2 (D := 16 * BS k n) (by omega) (by omega)).1
    intro n
    induction n with
    | zero => exact fun _ => ⟨t0S_ok k hk, fun _ => main 0 (by decide) (t0S_ok k hk)⟩
    | succ n ih =>
      intro hn
      have i := (ih (by omega)).1
      have mi := main n (by omega) i
      obtain ⟨_, b1, _, _, _⟩ := BS_ok k (n + 1) hk hn
      have ce := ceil_le (a := 16 * BS k n) (dS_pos k n)
      obtain ⟨pi, _⟩ := partM_Inn mi (dS_pos k n) (C := BS k (n + 1)) (by omega) ce
      exact ⟨pi, fun _ => main (n + 1) hn pi⟩
theorem sS_ok {k : Nat} (hk : k ≤ 3) {p : Int} (h1 : -17179869184 ≤ p) (h2 : p ≤ 17179869184) : ∀ n, n ≤ 14 → Inn (sS k p n) (BSS k n)
  | 0, _ => ⟨rfl, by show (0 : Int) ≤ 0; decide, by show (0 : Int) ≤ 0; decide⟩
  | n + 1, hn => by
    have i := sS_ok hk h1 h2 n (by omega)
    have ti := (tS_ok hk h1 h2 n (by omega)).1
    obtain ⟨_, b1, _, b2, _⟩ := BS_ok k n hk (by omega)
    exact (add_Inn i ti (by omega)).1
theorem wid_ok {a : IV} {r B : Int} (ha : Inn a B) (hr : 0 ≤ r) (hB : B + r ≤ 1152921504606846976) : widV a r = (a.1 - r, a.2.1 + r, false) ∧ Inn (widV a r) (B + r) := by
  have er : mkV (mnI (-r) r) (mxI (-r) r) = (-r, r, false) := by
    rw [show mnI (-r) r = -r by unfold mnI; split <;> omega, show mxI (-r) r = r by unfold mxI; split <;> omega]
    have o := okV_iff.1 ha.1
    have := ha.2
    exact mkV_ok (by omega) (by omega) (by omega)
  have o := okV_iff.1 ha.1
  have := ha.2
  have ir : Inn (-r, r, false) r := ⟨okV_iff.2 ⟨rfl, by show _ ≤ -r; omega, by show -r ≤ r; omega, by show r ≤ _; omega⟩, Int.le_refl _, Int.le_refl _⟩
  have e : addV a (-r, r, false) = (a.1 - r, a.2.1 + r, false) := by
    rw [addV_ok ha.1 ir.1]
    show mkV (a.1 + -r) (a.2.1 + r) = _
    rw [← Int.sub_eq_add_neg]
    exact mkV_ok (by omega) (by omega) (by omega)
  unfold widV
  rw [er]
  exact ⟨e, (add_Inn ha ir hB).1⟩
theorem rS_ok {k : Nat} (hk : k ≤ 3) {p : Int} (h1 : -17179869184 ≤ p) (h2 : p ≤ 17179869184) : 0 ≤ rS k p ∧ rS k p ≤ 34359738368 ∧ ∀ v, Hd (tS k p 14) v → -(rS k p : Rat) ≤ 2 * v ∧ 2 * v ≤ (rS k p : Rat) := by
  obtain ⟨ok, t1, t2⟩ := (tS_ok hk h1 h2 14 (by decide)).1
  have o := okV_iff.1 ok
  obtain ⟨_, b1, _, b2, _⟩ := BS_ok k 14 hk (by decide)
  have g := le_mxI (x := (tS k p 14).2.1) (y := -(tS k p 14).1)
  have u : mxI (tS k p 14).2.1 (-(tS k p 14).1) ≤ 17179869184 := by unfold mxI; split <;> omega
  unfold rS
  generalize mxI (tS k p 14).2.1 (-(tS k p 14).1) = r at *
  refine ⟨by omega, by omega, fun v hv => ?_⟩
  unfold Hd at hv
  have a1 : ((tS k p 14).2.1 : Rat) ≤ (r : Rat) := Rat.intCast_le_intCast.2 g.1
  have a2 : ((-(tS k p 14).1 : Int) : Rat) ≤ (r : Rat) := Rat.intCast_le_intCast.2 g.2
  rw [Rat.intCast_neg] at a2
  rw [Rat.intCast_mul, show ((2 : Int) : Rat) = 2 from rfl]
  grind
theorem eS_ok {k : Nat} (hk : k ≤ 3) {p : Int} (h1 : -17179869184 ≤ p) (h2 : p ≤ 17179869184) : Inn (eS k p) 68719476736 ∧ eS k p = ((sS k p 14).1 - rS k p, (sS k p 14).2.1 + rS k p, false) := by
  have i := sS_ok hk h1 h2 14 (by decide)
  obtain ⟨_, b1, _, b2, _⟩ := BS_ok k 14 hk (by decide)
  obtain ⟨r0, r1, _⟩ := rS_ok hk h1 h2
  have w := wid_ok i r0 (by omega)
  refine ⟨⟨w.2.1, ?_, ?_⟩, w.1⟩
  · have := w.2.2.1; show _ ≤ (widV (sS k p 14) (rS k p)).1; omega
  · have := w.2.2.2; show (widV (sS k p 14) (rS k p)).2.1 ≤ _; omega
/-! What they hold. -/
noncomputable def uT (k : Nat) (x : Rat) : Nat → Rat
  | 0 => if k = 2 then 1073741824 / 2 else if k = 3 then 1073741824 / 6 else 1073741824
  | n + 1 => -(uT k x n * x / 1073741824 / (dS k n : Rat))
noncomputable def uS (k : Nat) (x : Rat) : Nat → Rat
  | 0 => 0
  | n + 1 => uS k x n + uT k x n
theorem t0S_Hd {k : Nat} (hk : k ≤ 3) (x : Rat) : Hd (t0S k) (uT k x 0) := by
  have : k = 0 ∨ k = 1 ∨ k = 2 ∨ k = 3 := by omega
  rcases this with rfl | rfl | rfl | rfl
  · exact ⟨by show ((1073741824 : Int) : Rat) ≤ 1073741824; exact Rat.le_refl, by show (1073741824 : Rat) ≤ ((1073741824 : Int) : Rat); exact Rat.le_refl⟩
  · exact ⟨by show ((1073741824 : Int) : Rat) ≤ 1073741824; exact Rat.le_refl, by show (1073741824 : Rat) ≤ ((1073741824 : Int) : Rat); exact Rat.le_refl⟩
  · exact ⟨by show ((536870912 : Int) : Rat) ≤ 1073741824 / 2; decide +kernel, by show (1073741824 / 2 : Rat) ≤ ((536870912 : Int) : Rat); decide +kernel⟩
  · exact ⟨by show ((178956970 : Int) : Rat) ≤ 1073741824 / 6; decide +kernel, by show (1073741824 / 6 : Rat) ≤ ((178956971 : Int) : Rat); decide +kernel⟩
theorem tS_Hd {k : Nat} (hk : k ≤ 3) {p : Int} (h1 : -17179869184 ≤ p) (h2 : p ≤ 17179869184) : ∀ n, n ≤ 14 → Hd (tS k p n) (uT k p n)
  | 0, _ => t0S_Hd hk p
  | n + 1, hn => by
    have ih := tS_Hd hk h1 h2 n (by omega)
    have i := tS_ok hk h1 h2 n (by omega)
    have pi := (tS_ok hk h1 h2 (n + 1) hn).1
    have pp := pt_Inn h1 h2
    have hp : Hd (mkV p p) (p : Rat) := by rw [pp.1]; exact pt_Hd p
    have m := mul_Hd i.1.1 pp.2.1 (ok_not (i.2 (by omega)).1) ih hp
    have q := part_Hd (n := -1) (i.2 (by omega)).1 (dS_pos k n) (ok_not pi.1) m
    have e : uT k p n * (p : Rat) / 1073741824 * ((-1 : Int) : Rat) / (dS k n : Rat) = uT k p (n + 1) := by
      show _ = -(uT k p n * p / 1073741824 / (dS k n : Rat))
      rw [show ((-1 : Int) : Rat) = -1 from rfl]
      grind
    rw [← e]
    exact q
theorem sS_Hd {k : Nat} (hk : k ≤ 3) {p : Int} (h1 : -17179869184 ≤ p) (h2 : p ≤ 17179869184) : ∀ n, n ≤ 14 → Hd (sS k p n) (uS k p n)
  | 0, _ => ⟨Rat.le_refl (a := 0), Rat.le_refl (a := 0)⟩
  | n + 1, hn => by
    have ih := sS_Hd hk h1 h2 n (by omega)
    have t := tS_Hd hk h1 h2 n (by omega)
    exact add_Hd (sS_ok hk h1 h2 n (by omega)).1 (tS_ok hk h1 h2 n (by omega)).1.1 (ok_not (sS_ok hk h1 h2 (n + 1) hn).1) ih t
/-- The enclosure of a point holds its sum, and as much beside it as the last term is. -/
theorem eS_Hd {k : Nat} (hk : k ≤ 3) {p : Int} (h1 : -17179869184 ≤ p) (h2 : p ≤ 17179869184) : Hd (eS k p) (uS k p 14) ∧ Hd (eS k p) (uS k p 15) := by
  obtain ⟨r0, r1, rv⟩ := rS_ok hk h1 h2
  have s := sS_Hd hk h1 h2 14 (by decide)
  have v := rv _ (tS_Hd hk h1 h2 14 (by decide))
  have r0' : (0 : Rat) ≤ (rS k p : Rat) := by exact_mod_cast r0
  rw [(eS_ok hk h1 h2).2]
  unfold Hd at *
  show ((((sS k p 14).1 - rS k p : Int) : Rat) ≤ uS k p 14 ∧ uS k p 14 ≤ (((sS k p 14).2.1 + rS k p : Int) : Rat)) ∧ ((((sS k p 14).1 - rS k p : Int) : Rat) ≤ uS k p 14 + uT k p 14 ∧ uS k p 14 + uT k p 14 ≤ (((sS k p 14).2.1 + rS k p : Int) : Rat))
  rw [Rat.intCast_sub, Rat.intCast_add]
  grind
theorem nuV_iff {a : IV} : holdsV nuV a = true ↔ okV a = true ∧ -17179869184 ≤ a.1 ∧ a.2.1 ≤ 17179869184 := by
  rw [holdsV_iff]
  exact ⟨fun h => ⟨h.2.1, h.2.2⟩, fun h => ⟨by decide, h.1, h.2⟩⟩
theorem cS_ok {k : Nat} (hk : k ≤ 3) {a : IV} (h : holdsV nuV a = true) : Inn (cS k a) 274877906944 ∧ (∀ v, Hd (eS k (midV a)) v → ∀ d : Rat, -(rchV a : Rat) ≤ d → d ≤ (rchV a : Rat) → Hd (cS k a) (v + 4 * d)) := by
  have h' := nuV_iff.1 h
  have o := okV_iff.1 h'.1
  obtain ⟨m1, m2, m3, m4, m5, m6⟩ := midV_in h'.1
  have e := eS_ok hk (p := midV a) (by omega) (by omega)
  have w := wid_ok e.1 (r := 4 * rchV a) (by omega) (by omega)
  have ec : cS k a = widV (eS k (midV a)) (4 * rchV a) := if_pos h
  rw [ec]
  refine ⟨⟨w.2.1, by have := w.2.2.1; omega, by have := w.2.2.2; omega⟩, fun v hv d d1 d2 => ?_⟩
  rw [w.1]
  unfold Hd at *
  show (((eS k (midV a)).1 - 4 * rchV a : Int) : Rat) ≤ v + 4 * d ∧ v + 4 * d ≤ (((eS k (midV a)).2.1 + 4 * rchV a : Int) : Rat)
  rw [Rat.intCast_sub, Rat.intCast_add, Rat.intCast_mul, show ((4 : Int) : Rat) = 4 from rfl]
  grind
end Go.Proofs.YtbmekaaekngpbaaGreat
