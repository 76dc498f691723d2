/- Texts of the seat, joined. -/
import Derived.Test.YtbmekaaekngpbaaGreatZz13
import Derived.Test.YtbmekaaekngpbaaGreatRows
import Derived.ProofKit
import Derived.OpenShut
import Derived.Below
import Derived.ChangeSame
import Derived.Deep.Strs
/- The wakes of the law of intervals. -/
namespace Go.Proofs.YtbmekaaekngpbaaGreat
open Go Go.RowKit
set_option linter.unusedSimpArgs false
set_option linter.unusedVariables false

theorem PureX.is {P : Program} {f : FuncId} {args : Array Value} {r s : Res} (h : PureX P f args r) (e : r = s) : PureX P f args s := e ▸ h
end Go.Proofs.YtbmekaaekngpbaaGreat

/- Intervals and ints among a law's arguments: how they read. -/
namespace Go.Proofs.YtbmekaaekngpbaaGreat
open Go Go.ChangeShapes Go.WideShapes Go.ChangeAt Go.RowKit
set_option linter.unusedSimpArgs false
set_option linter.unusedVariables false

theorem Tryz.own : ownKnob Tryz.prog.godebug = none := by kernel_rfl
theorem Tryz.cells3 : Tryz.prog.cellsOf 3 = 1 := by kernel_rfl
theorem Tryz.cells4 : Tryz.prog.cellsOf 4 = 1 := by kernel_rfl
theorem Tryz.cells23 : Tryz.prog.cellsOf 23 = 3 := by kernel_rfl
theorem list3 {α : Type} (l : List α) (h : (⟨l⟩ : Array α).size = 3) : ∃ a b c, l = [a, b, c] := by
  match l, h with
  | [a, b, c], _ => exact ⟨a, b, c, rfl⟩
theorem wf_i64 {x : Int} (h : (Lit.int .i64 x).wf = true) : isI x := by
  have h1 : IntKind.i64.min = -9223372036854775808 := rfl
  have h2 : IntKind.i64.max = 9223372036854775807 := rfl
  simp [Lit.wf, h1, h2] at h
  unfold isI
  omega
theorem i64_wf {x : Int} (h : isI x) : (Lit.int .i64 x).wf = true := by
  have h1 : IntKind.i64.min = -9223372036854775808 := rfl
  have h2 : IntKind.i64.max = 9223372036854775807 := rfl
  unfold isI at h
  simp [Lit.wf, h1, h2]
  omega
/-- Ends that are ints. -/
def inI (x : IV) : Prop := isI x.1 ∧ isI x.2.1
def DI {H : Type} (x : IV) : DataW H := .agg [.lit (.int .i64 x.1), .lit (.int .i64 x.2.1), .lit (.bool x.2.2)]
set_option maxRecDepth 100000 in
theorem open_ival {H : Type} {enc : TypeId × Value → H} {W : World} {base : Nat} {v : Value} {d : DataW H} {p : List MemPlace}
    (hv : Value.okWide Tryz.prog W .any base 23 v) (h : DataW.Trod enc Tryz.prog W 0 (fun _ => true) true 23 v d p) :
    ∃ x : IV, inI x ∧ v = ivv x ∧ d = DI x ∧ p = [] := by
  obtain ⟨cs, rfl, hsz, _⟩ : ∃ cs, v = .agg cs ∧ cs.size = Tryz.prog.cellsOf 23 ∧ Row.okWide Tryz.prog W .any base 23 cs := by
    simpa [Value.okWide, Tryz.underlying23] using hv
  rw [Tryz.cells23] at hsz
  obtain ⟨l⟩ := cs
  obtain ⟨c0, c1, c2, rfl⟩ := list3 l hsz
  obtain ⟨fuel, hf⟩ := h
  obtain ⟨y0, y1, y2, m, hx, _, hy0, hy1, hy2⟩ := Go.Deep.trod_struct3 Tryz.underlying23 hf
  simp only [Tryz.cells3, Tryz.cells4] at hy0 hy1 hy2
  obtain ⟨x0, e0, rfl, w0⟩ := DataW.trod_int Tryz.underlying3 hy0
  obtain ⟨x1, e1, rfl, w1⟩ := DataW.trod_int Tryz.underlying3 hy1
  obtain ⟨x2, e2, rfl⟩ := DataW.trod_bool Tryz.underlying4 hy2
  simp [Value.cells] at e0 e1 e2
  subst e0 e1 e2
  simp only [Prod.mk.injEq] at hx
  obtain ⟨rfl, rfl⟩ := hx
  exact ⟨(x0, x1, x2), ⟨wf_i64 w0, wf_i64 w1⟩, rfl, rfl, rfl⟩
theorem shut_ival {H : Type} {enc : TypeId × Value → H} {W : World} {base : Nat} {spare : Nat → Bool} {held : Bool} {x : IV} (hx : inI x) :
    DataW.Trod enc Tryz.prog W base spare held 23 (ivv x) (DI x) [] := by
  have w0 := i64_wf hx.1
  have w1 := i64_wf hx.2
  obtain ⟨l, h, b⟩ := x
  exact ⟨2, by simp [ivv, iv, DI, DataW.trod, Value.cells, Tryz.underlying23, Tryz.underlying3, Tryz.underlying4, Tryz.cells23, Tryz.cells3, Tryz.cells4, w0, w1]⟩

section
variable {H : Type} {enc : TypeId × Value → H} {P : Program}
/-- The row's last step where the call laid new memory alone. -/
theorem post_of_below {f : Func} {s : ChangeSpec} {apart fresh handsOn again : Bool} {W W' : World} {args : Array Value} {v : Value} {ds gs : List (DataW H)} {before pa pv : List MemPlace}
    (hW : DataW.Whole enc P f.params.toList s.vars apart W args.toList ds gs before)
    (hres : ∀ (b : Nat) (sp : Nat → Bool) (hd : Bool), DataW.TrodAll enc P W' b sp hd f.resultTypes.toList (v.resultList f.resultTypes.size) (s.fn H (ds ++ gs)).results [])
    (hargs : ∀ sp : Nat → Bool, (∀ p ∈ before, sp p.block = true) → DataW.TrodAll enc P W' 0 sp true f.params.toList args.toList (s.fn H (ds ++ gs)).args pa)
    (hvars : ∀ sp : Nat → Bool, (∀ p ∈ before, sp p.block = true) → DataW.TrodVars enc P W' sp s.vars (s.fn H (ds ++ gs)).vars pv)
    (hps : before = pa ++ pv) (hb : Below W.heap.size W W')
    (hok : ∀ (j : Nat) (t : TypeId) (r : Value), f.resultTypes[j]? = some t → (v.resultList f.resultTypes.size)[j]? = some r → Value.okWide P W' .any 0 t r) :
    s.post enc P f apart fresh handsOn again W args v W' := by
  have hlt : ∀ p ∈ before, p.block < W.heap.size := fun p hp => hW.lt p hp
  have hold : ∀ p ∈ before, (fun b => decide (b < W.heap.size)) p.block = true := fun p hp => by simpa using hlt p hp
  refine ⟨ds, gs, before, [], pa, pv, hW, hres _ _ _, hargs _ hold, hvars _ hold, World.keptBut_mono (fun p hp => ⟨hp, ?_⟩) (hb.frame (· ∈ before)), fun _ => ?_⟩
  · rw [hps, List.mem_append] at hp
    exact Or.inr hp
  · obtain ⟨_, _, _, _, _, hz, hn⟩ := hW
    refine ⟨hok, _, _, ([] ++ pa) ++ pv, ⟨[] ++ pa, pv, trodAll_append (hargs _ (fun _ _ => rfl)) (hres _ _ _), hvars _ (fun _ _ => rfl), rfl, ?_, ?_⟩, ?_⟩
    · intro b off hp
      have hin : MemPlace.cell b off ∈ before := by rw [hps]; simpa using hp
      rw [hb.frozen (hlt _ hin)]
      exact hz b off hin
    · intro ha
      have := hn ha
      rw [hps] at this
      simpa using this
    · intro p hp _
      rw [hps]
      simpa using hp
end

end Go.Proofs.YtbmekaaekngpbaaGreat

/- Small facts of intervals and ints. -/
namespace Go.Proofs.YtbmekaaekngpbaaGreat
open Go Go.RowKit Go.Shelf
set_option linter.unusedSimpArgs false
set_option linter.unusedVariables false
set_option maxRecDepth 100000

theorem fl_ce_any {x y : Int} (h0 : y ≠ 0) : flI x y ≤ ceI x y := by
  have h1 := flI_side (x := x) h0
  have h2 := ceI_side (x := x) h0
  unfold OnSide at h1 h2
  have e : y * ceI x y - y * flI x y = y * (ceI x y - flI x y) := by rw [Int.mul_sub]
  rcases Int.lt_trichotomy y 0 with h | h | h
  · have h3 : y * (ceI x y - flI x y) ≤ 0 := by omega
    rcases Int.lt_or_le (ceI x y) (flI x y) with h4 | h4
    · have := Int.mul_pos_of_neg_of_neg h (show ceI x y - flI x y < 0 by omega)
      omega
    · exact h4
  · exact absurd h h0
  · rcases Int.lt_or_le (ceI x y) (flI x y) with h4 | h4
    · have := Int.mul_neg_of_pos_of_neg h (show ceI x y - flI x y < 0 by omega)
      omega
    · exact h4
theorem tm_b {a w : Int} (hw : 0 < w) : -w < Int.tmod a w ∧ Int.tmod a w < w := by
  have h := Int.natAbs_tmod a w
  have h1 := Nat.mod_lt a.natAbs (show 0 < w.natAbs by omega)
  omega
theorem tm_p {a w : Int} (ha : 0 ≤ a) (hw : 0 < w) : 0 ≤ Int.tmod a w ∧ Int.tmod a w < w := by
  have h := tm_b (a := a) hw
  have := Int.tmod_nonneg w ha
  omega
def inZ (x : IV) (n : Int) : Int := x.1 + Int.tmod (Int.tmod n (x.2.1 - x.1 + 1) + (x.2.1 - x.1 + 1)) (x.2.1 - x.1 + 1)
theorem inZ_in {x : IV} (hx : okV x = true) (n : Int) : x.1 ≤ inZ x n ∧ inZ x n ≤ x.2.1 := by
  have a := okV_iff.1 hx
  have h1 := tm_b (a := n) (w := x.2.1 - x.1 + 1) (by omega)
  have h2 := tm_p (a := Int.tmod n (x.2.1 - x.1 + 1) + (x.2.1 - x.1 + 1)) (w := x.2.1 - x.1 + 1) (by omega) (by omega)
  unfold inZ
  omega
theorem rof_4 : runB Tryz.prog 19 #[ii (4)] [] [] [] [] = some (rt (iv (4294967296) (4294967296) false), [], []) := by kernel_rfl
theorem rof_1 : runB Tryz.prog 19 #[ii (1)] [] [] [] [] = some (rt (iv (1073741824) (1073741824) false), [], []) := by kernel_rfl
theorem rof_3 : runB Tryz.prog 19 #[ii (3)] [] [] [] [] = some (rt (iv (3221225472) (3221225472) false), [], []) := by kernel_rfl
theorem rof_m2 : runB Tryz.prog 19 #[ii (-2)] [] [] [] [] = some (rt (iv (-2147483648) (-2147483648) false), [], []) := by kernel_rfl
theorem rof_2 : runB Tryz.prog 19 #[ii (2)] [] [] [] [] = some (rt (iv (2147483648) (2147483648) false), [], []) := by kernel_rfl
abbrev T2 (B : Nat) (x y : Int) : Hp := [(B, .cells ⟨[ii x, ii y]⟩ 3 (0, 0))]
abbrev T5 (B : Nat) (x y z v w : Int) : Hp := [(B, .cells ⟨[ii x, ii y, ii z, ii v, ii w]⟩ 3 (0, 0))]
abbrev J1 (B : Nat) (l h : Int) (p : Bool) : Hp := [(B, oiv [(l, h, p)])]
abbrev J2 (B : Nat) (l h : Int) (p : Bool) (m k : Int) (q : Bool) : Hp := [(B, oiv [(l, h, p), (m, k, q)])]
theorem ivv_eq {x : IV} {l h : Int} {b : Bool} (e : x = (l, h, b)) : ivv x = iv l h b := by rw [e]; rfl
theorem isI_R {x : Int} (h : isI x) : inR x := by unfold isI at h; unfold inR; omega
theorem sgn_le {a b : Int} (h : a ≤ b) : (a - b).sign ≤ 0 := by
  rcases Int.lt_or_le a b with h1 | h1
  · rw [Int.sign_eq_neg_one_of_neg (by omega)]; decide
  · rw [show a - b = 0 by omega]; decide
theorem cmp_le {a b : Int} (h : a ≤ b) : decide ((a - b).sign ≤ 0) = true := decide_eq_true (sgn_le h)
theorem cmp_ngt {a b : Int} (h : a ≤ b) : decide (0 < (a - b).sign) = false := decide_eq_false (by have := sgn_le h; omega)
theorem mul_R {a b : Int} (ha : isI a) (hb : isI b) : inR (a * b) := by
  have h1 : (a * b).natAbs ≤ 9223372036854775808 * 9223372036854775808 := by
    rw [Int.natAbs_mul]
    unfold isI at ha hb
    exact Nat.mul_le_mul (by omega) (by omega)
  unfold inR
  omega
theorem ok_isI {x : IV} (h : okV x = true) {n : Int} (h1 : x.1 ≤ n) (h2 : n ≤ x.2.1) : isI n := by
  have := okV_iff.1 h
  unfold isI
  omega
theorem neg_wrap {l : Int} (h1 : -1152921504606846976 ≤ l) (h2 : l ≤ 1152921504606846976) : IntKind.i64.wrap (0 - l) = -l := by
  rw [wrapI (by omega)]
  omega
theorem flI_n {x y : Int} (hy : y < 0) : x ≤ y * flI x y ∧ y * flI x y + y < x := by
  have h := flI_side (x := x) (y := y) (by omega)
  unfold OnSide at h
  omega
theorem ceI_n {x y : Int} (hy : y < 0) : y * ceI x y ≤ x ∧ x < y * ceI x y - y := by
  have h := ceI_side (x := x) (y := y) (by omega)
  unfold OnSide at h
  omega
theorem le_fln {x y z : Int} (hy : y < 0) : z ≤ flI x y ↔ x ≤ y * z := by
  obtain ⟨h1, h2⟩ := flI_n (x := x) hy
  constructor
  · intro h
    exact Int.le_trans h1 (Int.mul_le_mul_of_nonpos_left (by omega) h)
  · intro h
    rcases Int.lt_or_le (flI x y) z with h3 | h3
    · have h4 : y * z ≤ y * (flI x y + 1) := Int.mul_le_mul_of_nonpos_left (by omega) (by omega)
      rw [Int.mul_add] at h4
      omega
    · exact h3
theorem ce_len {x y z : Int} (hy : y < 0) : ceI x y ≤ z ↔ y * z ≤ x := by
  obtain ⟨h1, h2⟩ := ceI_n (x := x) hy
  constructor
  · intro h
    exact Int.le_trans (Int.mul_le_mul_of_nonpos_left (by omega) h) h1
  · intro h
    rcases Int.lt_or_le z (ceI x y) with h3 | h3
    · have h4 : y * (ceI x y - 1) ≤ y * z := Int.mul_le_mul_of_nonpos_left (by omega) (by omega)
      rw [Int.mul_sub] at h4
      omega
    · exact h3
theorem mk_bd {l h : Int} (hb : (mkV l h).2.2 = true) : mkV l h = bdV := by
  unfold mkV at hb ⊢
  split at hb
  · simp at hb
  · rename_i h; rw [if_neg h]
theorem endI_of {z : Int} (h : isI z) : endI z = z := if_pos h

end Go.Proofs.YtbmekaaekngpbaaGreat
