/- The contract of product of package wide, for every input. -/
import Derived.Test.YtecgclkjglkkbaaA6
import Derived.IntWalk
namespace Go.Proofs.Ytecgclkjglkkbaa
open Go Go.RowKit Go.Shelf
set_option linter.unusedSimpArgs false
set_option linter.unusedVariables false

attribute [local go_sem] Oper.semAt_some

def inStep (a b : Nat → Nat) (i : Nat) (s : (Nat → Nat) × Nat) (y : Fin 4) : (Nat → Nat) × Nat :=
  (upd s.1 (i + y.val) ((a i * b y.val + s.1 (i + y.val) + s.2) % 18446744073709551616), (a i * b y.val + s.1 (i + y.val) + s.2) / 18446744073709551616)
def inSt (a b : Nat → Nat) (i : Nat) (p : Nat → Nat) (l : List (Fin 4)) : (Nat → Nat) × Nat := l.foldl (inStep a b i) (p, 0)
def outStep (a b : Nat → Nat) (p : Nat → Nat) (x : Fin 4) : Nat → Nat := upd (inSt a b x.val p (List.finRange 4)).1 (x.val + 4) (inSt a b x.val p (List.finRange 4)).2
def outSt (a b : Nat → Nat) (l : List (Fin 4)) : Nat → Nat := l.foldl (outStep a b) Zr

theorem inSt_snoc (a b : Nat → Nat) (i : Nat) (p : Nat → Nat) (l : List (Fin 4)) (y : Fin 4) : inSt a b i p (l ++ [y]) = inStep a b i (inSt a b i p l) y := by simp [inSt]
theorem outSt_snoc (a b : Nat → Nat) (l : List (Fin 4)) (x : Fin 4) : outSt a b (l ++ [x]) = outStep a b (outSt a b l) x := by simp [outSt]

theorem upd_words {p : Nat → Nat} (h : Wds p) (i v : Nat) (hv : v < 18446744073709551616) : Wds (upd p i v) := by
  intro j
  unfold upd
  split
  · exact hv
  · exact h j
theorem in_words {a b : Nat → Nat} (ha : Wds a) (hb : Wds b) (i : Nat) (l : List (Fin 4)) : ∀ s : (Nat → Nat) × Nat, Wds s.1 → s.2 < 18446744073709551616 → Wds (l.foldl (inStep a b i) s).1 ∧ (l.foldl (inStep a b i) s).2 < 18446744073709551616 := by
  induction l with
  | nil => exact fun s h k => ⟨h, k⟩
  | cons x l ih =>
    intro s hs hc
    have h1 := sq_le (ha i) (hb x.val)
    have h2 := hs (i + x.val)
    refine ih _ (upd_words hs _ _ (by omega)) ?_
    simp only [inStep]
    omega
theorem inSt_words {a b : Nat → Nat} (ha : Wds a) (hb : Wds b) (i : Nat) {p : Nat → Nat} (hp : Wds p) (l : List (Fin 4)) : Wds (inSt a b i p l).1 ∧ (inSt a b i p l).2 < 18446744073709551616 := in_words ha hb i l _ hp (by simp)
theorem out_words {a b : Nat → Nat} (ha : Wds a) (hb : Wds b) (l : List (Fin 4)) : ∀ p : Nat → Nat, Wds p → Wds (l.foldl (outStep a b) p) := by
  induction l with
  | nil => exact fun s h => h
  | cons x l ih =>
    intro p hp
    have h := inSt_words ha hb x.val hp (List.finRange 4)
    exact ih _ (upd_words h.1 _ _ h.2)
theorem outSt_words {a b : Nat → Nat} (ha : Wds a) (hb : Wds b) (l : List (Fin 4)) : Wds (outSt a b l) := out_words ha hb l _ zr_words

/-- The blocks of product. -/
def Pr (N : Nat) (w : World) (a b p : Nat → Nat) (W : World) : Prop := At4 W N a ∧ At4 W (N + 1) b ∧ At4 W (N + 1 + 1) Zr ∧ At4 W (N + 1 + 1 + 1) Zr ∧ At8 W (N + 1 + 1 + 1 + 1) p ∧ Below N w W

def layP (a b : Nat → Nat) (w : World) : World := ((((w.alloc (.cells #[.int .u64 (a 0), .int .u64 (a 1), .int .u64 (a 2), .int .u64 (a 3)] 24)).alloc (.cells #[.int .u64 (b 0), .int .u64 (b 1), .int .u64 (b 2), .int .u64 (b 3)] 24)).alloc (.cells #[.int .u64 0, .int .u64 0, .int .u64 0, .int .u64 0] 24)).alloc (.cells #[.int .u64 0, .int .u64 0, .int .u64 0, .int .u64 0] 24)).alloc (.cells #[.int .u64 0, .int .u64 0, .int .u64 0, .int .u64 0, .int .u64 0, .int .u64 0, .int .u64 0, .int .u64 0] 54)

theorem layP_at (a b : Nat → Nat) (w : World) : Pr w.heap.size w a b Zr (layP a b w) ∧ (layP a b w).heap.size = w.heap.size + 1 + 1 + 1 + 1 + 1 := by
  unfold layP
  refine ⟨⟨?_, ?_, ?_, ?_, ?_, ?_⟩, ?_⟩
  · exact ((((At4.new w a).alloc _).alloc _).alloc _).alloc _
  · have h := At4.new (w.alloc (.cells #[.int .u64 (a 0), .int .u64 (a 1), .int .u64 (a 2), .int .u64 (a 3)] 24)) b
    rw [World.size_alloc] at h
    exact ((h.alloc _).alloc _).alloc _
  · have h := At4.new ((w.alloc (.cells #[.int .u64 (a 0), .int .u64 (a 1), .int .u64 (a 2), .int .u64 (a 3)] 24)).alloc (.cells #[.int .u64 (b 0), .int .u64 (b 1), .int .u64 (b 2), .int .u64 (b 3)] 24)) Zr
    rw [World.size_alloc, World.size_alloc] at h
    exact (h.alloc _).alloc _
  · have h := At4.new (((w.alloc (.cells #[.int .u64 (a 0), .int .u64 (a 1), .int .u64 (a 2), .int .u64 (a 3)] 24)).alloc (.cells #[.int .u64 (b 0), .int .u64 (b 1), .int .u64 (b 2), .int .u64 (b 3)] 24)).alloc (.cells #[.int .u64 0, .int .u64 0, .int .u64 0, .int .u64 0] 24)) Zr
    rw [World.size_alloc, World.size_alloc, World.size_alloc] at h
    exact h.alloc _
  · have h := World.alloc_heap_new ((((w.alloc (.cells #[.int .u64 (a 0), .int .u64 (a 1), .int .u64 (a 2), .int .u64 (a 3)] 24)).alloc (.cells #[.int .u64 (b 0), .int .u64 (b 1), .int .u64 (b 2), .int .u64 (b 3)] 24)).alloc (.cells #[.int .u64 0, .int .u64 0, .int .u64 0, .int .u64 0] 24)).alloc (.cells #[.int .u64 0, .int .u64 0, .int .u64 0, .int .u64 0] 24)) (.cells #[.int .u64 0, .int .u64 0, .int .u64 0, .int .u64 0, .int .u64 0, .int .u64 0, .int .u64 0, .int .u64 0] 54)
    rw [World.size_alloc, World.size_alloc, World.size_alloc, World.size_alloc] at h
    exact h
  · exact ((((((Below.refl _ w).alloc (Nat.le_refl _) _).alloc (by simp) _).alloc (by simp; omega) _).alloc (by simp; omega) _).alloc (by simp; omega) _)
  · simp

theorem pr_below {N : Nat} {w W W1 : World} {a b p : Nat → Nat} (h : Pr N w a b p W) (hB : Below W.heap.size W W1) : Pr N w a b p W1 := by
  obtain ⟨h1, h2, h3, h4, h5, h6⟩ := h
  have := h1.lt
  exact ⟨h1.below hB, h2.below hB, h3.below hB, h4.below hB, h5.below hB, h6.trans (hB.mono (by omega))⟩
theorem pr_own {β : Type} (N B : Nat) (w : World) (hN : N = w.heap.size) (hB : N ≤ B) (a b : Nat → Nat) (f : β → Nat → Nat) : OwnFrom B (fun s W => Pr N w a b (f s) W) :=
  OwnFrom.and (Own.from (At4.own _ (fun _ => a)) _) (OwnFrom.and (Own.from (At4.own _ (fun _ => b)) _) (OwnFrom.and (Own.from (At4.own _ (fun _ => Zr)) _) (OwnFrom.and (Own.from (At4.own _ (fun _ => Zr)) _)
    (OwnFrom.and (Own.from (At8.own _ f) _) (ownFrom_below (by omega) hB)))))
theorem pr_alloc {N : Nat} {w W : World} {a b p : Nat → Nat} (h : Pr N w a b p W) (o : Obj) : Pr N w a b p (W.alloc o) := pr_below h ((Below.refl _ W).alloc (Nat.le_refl _) o)
theorem pr_p {N : Nat} {w W : World} {a b p : Nat → Nat} (h : Pr N w a b p W) (i v : Nat) (hi : i < 8) : Pr N w a b (upd p i v) (W.setCell ⟨N + 1 + 1 + 1 + 1, i, none⟩ (.int .u64 v)) := by
  obtain ⟨h1, h2, h3, h4, h5, h6⟩ := h
  exact ⟨h1.other (by omega) _ _, h2.other (by omega) _ _, h3.other (by omega) _ _, h4.other (by omega) _ _, h5.set i v hi, h6.setCell (p := ⟨N + 1 + 1 + 1 + 1, i, none⟩) (by show N ≤ N + 1 + 1 + 1 + 1; omega) _⟩
theorem pr_set {N : Nat} {w W : World} {a b p : Nat → Nat} (h : Pr N w a b p W) (B : Nat) (hB : N + 1 + 1 + 1 + 1 < B) (v : Value) : Pr N w a b p (W.setCell ⟨B, 0, none⟩ v) := by
  obtain ⟨h1, h2, h3, h4, h5, h6⟩ := h
  exact ⟨h1.other (by omega) _ _, h2.other (by omega) _ _, h3.other (by omega) _ _, h4.other (by omega) _ _, h5.other (by omega) _ _, h6.setCell (p := ⟨B, 0, none⟩) (by show N ≤ B; omega) _⟩
theorem pr_drew {N : Nat} {w W : World} {a b p : Nat → Nat} (h : Pr N w a b p W) : Pr N w a b p W.drew := ⟨h.1, h.2.1, h.2.2.1, h.2.2.2.1, h.2.2.2.2.1, h.2.2.2.2.2.drew⟩

/-- What product leans on behind the loops. -/
def AfterP (N D : Nat) (w : World) (R : Nat → Nat) (W : World) : Prop :=
  At8 W (N + 1 + 1 + 1 + 1) R ∧ (∃ z, At4 W (N + 1 + 1) z) ∧ (∃ z, At4 W (N + 1 + 1 + 1) z) ∧ W.heap[D]? = some (.deferred (some [])) ∧ Below N w W
theorem At8.other4 {W : World} {B B' : Nat} {z : Nat → Nat} (h : At8 W B z) (hne : B ≠ B') (v0 v1 v2 v3 : Value) :
    At8 ((((W.setCell ⟨B', 0, none⟩ v0).setCell ⟨B', 1, none⟩ v1).setCell ⟨B', 2, none⟩ v2).setCell ⟨B', 3, none⟩ v3) B z :=
  (((h.other hne _ _).other hne _ _).other hne _ _).other hne _ _
theorem afterP_drew {N D : Nat} {w W : World} {R : Nat → Nat} (h : AfterP N D w R W) : AfterP N D w R W.drew := ⟨h.1, h.2.1, h.2.2.1, h.2.2.2.1, h.2.2.2.2.drew⟩
theorem afterP_1 {N D : Nat} {w W : World} {R : Nat → Nat} (h : AfterP N D w R W) (r : Nat → Nat) :
    AfterP N D w R ((((W.setCell ⟨N + 1 + 1, 0, none⟩ (.int .u64 (r 0))).setCell ⟨N + 1 + 1, 1, none⟩ (.int .u64 (r 1))).setCell ⟨N + 1 + 1, 2, none⟩ (.int .u64 (r 2))).setCell ⟨N + 1 + 1, 3, none⟩ (.int .u64 (r 3))) ∧
    At4 ((((W.setCell ⟨N + 1 + 1, 0, none⟩ (.int .u64 (r 0))).setCell ⟨N + 1 + 1, 1, none⟩ (.int .u64 (r 1))).setCell ⟨N + 1 + 1, 2, none⟩ (.int .u64 (r 2))).setCell ⟨N + 1 + 1, 3, none⟩ (.int .u64 (r 3))) (N + 1 + 1) r := by
  obtain ⟨h1, ⟨z, h2⟩, ⟨y, h3⟩, h5, h6⟩ := h
  exact ⟨⟨h1.other4 (by omega) _ _ _ _, ⟨_, h2.set4 r⟩, ⟨_, h3.other4 (by omega) _ _ _ _⟩, (others4 _ _ _ _ _ _).same D _ h5 rfl, below4 h6 (by omega) _ _ _ _⟩, h2.set4 r⟩
theorem afterP_2 {N D : Nat} {w W : World} {R : Nat → Nat} (h : AfterP N D w R W) (r : Nat → Nat) :
    AfterP N D w R ((((W.setCell ⟨N + 1 + 1 + 1, 0, none⟩ (.int .u64 (r 0))).setCell ⟨N + 1 + 1 + 1, 1, none⟩ (.int .u64 (r 1))).setCell ⟨N + 1 + 1 + 1, 2, none⟩ (.int .u64 (r 2))).setCell ⟨N + 1 + 1 + 1, 3, none⟩ (.int .u64 (r 3))) ∧
    At4 ((((W.setCell ⟨N + 1 + 1 + 1, 0, none⟩ (.int .u64 (r 0))).setCell ⟨N + 1 + 1 + 1, 1, none⟩ (.int .u64 (r 1))).setCell ⟨N + 1 + 1 + 1, 2, none⟩ (.int .u64 (r 2))).setCell ⟨N + 1 + 1 + 1, 3, none⟩ (.int .u64 (r 3))) (N + 1 + 1 + 1) r := by
  obtain ⟨h1, ⟨z, h2⟩, ⟨y, h3⟩, h5, h6⟩ := h
  exact ⟨⟨h1.other4 (by omega) _ _ _ _, ⟨_, h2.other4 (by omega) _ _ _ _⟩, ⟨_, h3.set4 r⟩, (others4 _ _ _ _ _ _).same D _ h5 rfl, below4 h6 (by omega) _ _ _ _⟩, h3.set4 r⟩
def hiR (R : Nat → Nat) : Nat → Nat := fun i => R (i + 4)

set_option maxRecDepth 100000 in
set_option maxHeartbeats 4000000 in
theorem product_x (a b : Nat → Nat) (ha : Wds a) (hb : Wds b) (w : World) :
    Calls Try.prog 55 #[.agg #[.int .u64 (a 0), .int .u64 (a 1), .int .u64 (a 2), .int .u64 (a 3)], .agg #[.int .u64 (b 0), .int .u64 (b 1), .int .u64 (b 2), .int .u64 (b 3)]] w fun e w' => e = .returned (.tuple #[.agg #[.int .u64 (outSt a b (List.finRange 4) 0), .int .u64 (outSt a b (List.finRange 4) 1), .int .u64 (outSt a b (List.finRange 4) 2), .int .u64 (outSt a b (List.finRange 4) 3)], .agg #[.int .u64 (outSt a b (List.finRange 4) 4), .int .u64 (outSt a b (List.finRange 4) 5), .int .u64 (outSt a b (List.finRange 4) 6), .int .u64 (outSt a b (List.finRange 4) 7)]]) ∧ Below w.heap.size w w' := by
  obtain ⟨R, hR⟩ : ∃ R, outSt a b (List.finRange 4) = R := ⟨_, rfl⟩
  rw [hR]
  have HR := Lib.hid hR
  clear hR
  refine (callsIn_wide (n := 8)).1 ?_
  refine callsIn_of_wp_marks Try.func55 rfl trivial ?_ rfl
  simp only [Try.ntmps55, List.size_toArray, List.length_cons, List.length_nil, Nat.reduceAdd, Nat.reduceSub, Array.replicate_succ, Array.replicate_zero, List.push_toArray, List.append_toArray, List.nil_append, List.cons_append]
  gi_wp2_with (refine ⟨trivial, ?_⟩; gi_at_call 46; refine (callsIn_wide.2 (wordsOf_x a _)).mono ?_; rintro e W0 ⟨rfl, hT, hsz, hB1⟩; have HS0 := Lib.hid hsz; clear hsz)
  have hsz := HS0.out
  clear HS0
  change Below (layP a b w).heap.size (layP a b w) W0 at hB1
  change At4 W0 (layP a b w).heap.size a at hT
  change W0.heap.size = (layP a b w).heap.size + 1 at hsz
  obtain ⟨g1, g7⟩ := layP_at a b w
  have hF : Pr w.heap.size w a b (outSt a b []) W0 := pr_below g1 hB1
  rw [g7] at hT hsz
  clear g1 g7 hB1
  obtain ⟨N, hN⟩ : ∃ N, w.heap.size = N := ⟨_, rfl⟩
  rw [hN] at hF hT hsz ⊢
  have hle : N + 1 + 1 + 1 + 1 + 1 < W0.heap.size := by omega
  clear hsz
  refine wpIn_rangeFunc_ownH rfl (by omega) (gf := 82) (lb := #[.pointer (some ⟨N + 1 + 1 + 1 + 1 + 1, 0, none⟩)]) rfl trivial (enters_of Try.func82 (by kernel_rfl) rfl)
    (words_stops (8 - 1) (by omega) _ a W0 hT) (fun _ _ => trivial) (fun _ _ _ _ _ _ _ _ => trivial) (Below.refl _ _) (fun _ => rfl)
    (fun pre W => Pr N w a b (outSt a b pre) W) (fun _ _ _ => False)
    (pr_own N _ w hN.symm (by omega) a b (outSt a b)) (fun _ _ _ _ _ hs _ _ => hs) hF
    (fun x a' W => ∃ Bi Bv, N + 1 + 1 + 1 + 1 < Bi ∧ Bi < Bv ∧ Boxed W Bi 3 (.int .i64 x.val) ∧ Boxed W Bv 22 (.int .u64 (a x.val)) ∧ a' = { tmps := #[.agg #[.int .u64 (a 0), .int .u64 (a 1), .int .u64 (a 2), .int .u64 (a 3)], .agg #[.int .u64 (b 0), .int .u64 (b 1), .int .u64 (b 2), .int .u64 (b 3)], .pointer (some ⟨N, 0, none⟩), .pointer (some ⟨N + 1, 0, none⟩), .pointer (some ⟨N + 1 + 1, 0, none⟩), .pointer (some ⟨N + 1 + 1 + 1, 0, none⟩), .pointer (some ⟨N + 1 + 1 + 1 + 1, 0, none⟩), .pointer (some ⟨Bi, 0, none⟩), .pointer (some ⟨Bv, 0, none⟩), undef, undef, undef, .agg #[.int .u64 (a 0), .int .u64 (a 1), .int .u64 (a 2), .int .u64 (a 3)], .func (.func 82) #[] #[.pointer (some ⟨N + 1 + 1 + 1 + 1 + 1, 0, none⟩)], .int .i64 x.val, .int .u64 (a x.val), undef, undef, undef, undef, undef, undef, undef, undef, undef, undef, undef, undef, undef, undef, undef, undef, undef, undef, undef, undef, undef, undef, undef, undef, undef, undef, undef, undef, undef, undef, undef, undef, undef, undef, undef, undef, undef, undef, undef, undef, undef, undef], defers := [] })
    (fun x a' _ X Y row hs hg hr => by
      obtain ⟨Bi, Bv, h1, h2, h3, h4, h5⟩ := hs
      exact ⟨Bi, Bv, h1, h2, boxed_own Bi 3 (fun (_ : Unit) => Value.int .i64 x.val) () X Y row h3 hg (fun r e => (hr r e).2), boxed_own Bv 22 (fun (_ : Unit) => Value.int .u64 (a x.val)) () X Y row h4 hg (fun r e => (hr r e).2), h5⟩)
    ?assign ?body ?done ?stop
  case assign =>
    rintro l pre x W K hI hK
    dsimp only [wenc]
    gi_wp2
    have hlt := hI.2.2.2.2.1.lt
    have hb2 := Boxed.new (W.alloc (.cells #[.int .i64 x.val] 3)) 22 (.int .u64 (a x.val))
    rw [World.size_alloc] at hb2
    exact hK _ _ (((KeepsOthers.alloc _ _).trans (KeepsOthers.alloc _ _)).from _) trivial (pr_alloc (pr_alloc hI _) _) ⟨W.heap.size, W.heap.size + 1, hlt, by omega, (Boxed.new W 3 _).alloc _, hb2, rfl⟩
  case body =>
    rintro l pre x a' W hl ⟨r, hr⟩ hI ⟨Bi, Bv, hBi, hBv, bI, bV, rfl⟩ hlt
    obtain ⟨i, hi⟩ := x
    dsimp only at bI bV ⊢
    have hpw := outSt_words ha hb pre
    have H : Hid (outSt a b (pre ++ [⟨i, hi⟩]) = upd (inSt a b i (outSt a b pre) (List.finRange 4)).1 (i + 4) (inSt a b i (outSt a b pre) (List.finRange 4)).2) := Lib.hid (by rw [outSt_snoc]; rfl)
    obtain ⟨p, hp⟩ : ∃ p, outSt a b pre = p := ⟨_, rfl⟩
    rw [hp] at hI hpw H
    clear hp
    have d0 := (pr_alloc hI (.cells #[.int .u64 0] 22)).2.1.cell 0 (by omega)
    have d1 := (pr_alloc hI (.cells #[.int .u64 0] 22)).2.1.cell 1 (by omega)
    have d2 := (pr_alloc hI (.cells #[.int .u64 0] 22)).2.1.cell 2 (by omega)
    have d3 := (pr_alloc hI (.cells #[.int .u64 0] 22)).2.1.cell 3 (by omega)
    gi_wp2_with (refine ⟨trivial, ?_⟩; gi_at_call 46; refine (CallsIn.inRound l (callsIn_wide.2 (wordsOf_x b _))).mono ?_; rintro e W2 ⟨rfl, hT2, hsz2, hB2⟩; have HS2 := Lib.hid hsz2; clear hsz2)
    have hsz2 := HS2.out
    have hI2 : Pr N w a b p W2 := pr_below (pr_alloc hI _) hB2
    have bI2 : Boxed W2 Bi 3 (.int .i64 i) := (hB2.block _ (by simp; have := bI.lt; omega)).trans (bI.alloc _)
    have bV2 : Boxed W2 Bv 22 (.int .u64 (a i)) := (hB2.block _ (by simp; have := bV.lt; omega)).trans (bV.alloc _)
    have bC2 : Boxed W2 W.heap.size 22 (.int .u64 0) := (hB2.block _ (by simp)).trans (Boxed.new W 22 _)
    have hr2 : W2.heap[l]? = some (.loop r) := (hB2.block _ (by simp; have := (Array.getElem?_eq_some_iff.1 hr).1; omega)).trans ((Below.heap_alloc W _ l (Array.getElem?_eq_some_iff.1 hr).1).trans hr)
    have hKF0 : KeepsFrom W0.heap.size W W2 := ⟨by have := hB2.size; simp at this; omega, fun q o _ hq ho => (hB2.block q (by simp; have := (Array.getElem?_eq_some_iff.1 hq).1; omega)).trans ((Below.heap_alloc W _ q (Array.getElem?_eq_some_iff.1 hq).1).trans hq)⟩
    have hv1 := bV.lt
    have hN0 := hI.2.2.2.2.2.size
    simp only [World.size_alloc] at hT2 hsz2
    obtain ⟨Bc, hBc⟩ : ∃ Bc, W.heap.size = Bc := ⟨_, rfl⟩
    simp only [World.size_alloc, hBc] at hT2 hsz2 bC2 hv1 hN0 ⊢
    obtain ⟨B2, hBB⟩ : ∃ B2, Bc + 1 = B2 := ⟨_, rfl⟩
    rw [hBB] at hT2 hsz2 ⊢
    have hsz3 : B2 < W2.heap.size := by omega
    have hNl := hI2.1.lt
    clear HS2 d0 d1 d2 d3 hsz2 hB2 bI bV hI hr hBc hBB
    refine wpIn_rangeFunc_ownN (l₀ := l) (r₀ := r) rfl hr2 (by omega) (gf := 82) (lb := #[.pointer (some ⟨B2, 0, none⟩)]) rfl trivial (enters_of Try.func82 (by kernel_rfl) rfl)
      ((words_stops (8 - 1 - 1 - 1) (by omega) _ b W2 hT2).inRound l) (fun _ _ => trivial) (fun _ _ _ _ _ _ _ _ => trivial) (Below.refl _ _) (fun _ => rfl)
      (fun pre' W' => Pr N w a b (inSt a b i p pre').1 W' ∧ Boxed W' Bi 3 (.int .i64 i) ∧ Boxed W' Bv 22 (.int .u64 (a i)) ∧ Boxed W' Bc 22 (.int .u64 (inSt a b i p pre').2) ∧ KeepsFrom W0.heap.size W W')
      (fun _ _ _ => False)
      (OwnFrom.and (pr_own N _ w hN.symm (by omega) a b (fun pre' => (inSt a b i p pre').1)) (OwnFrom.and (Own.from (boxed_own _ _ (fun _ => .int .i64 i)) _) (OwnFrom.and (Own.from (boxed_own _ _ (fun _ => .int .u64 (a i))) _) (OwnFrom.and (Own.from (boxed_own _ _ (fun pre' => .int .u64 (inSt a b i p pre').2)) _) (ownFrom_keepsFrom hKF0.size)))))
      (fun _ _ _ _ _ hs _ _ => hs)
      ⟨hI2, bI2, bV2, bC2, hKF0⟩
      (fun y a'' _ => a'' = { tmps := #[.agg #[.int .u64 (a 0), .int .u64 (a 1), .int .u64 (a 2), .int .u64 (a 3)], .agg #[.int .u64 (b 0), .int .u64 (b 1), .int .u64 (b 2), .int .u64 (b 3)], .pointer (some ⟨N, 0, none⟩), .pointer (some ⟨N + 1, 0, none⟩), .pointer (some ⟨N + 1 + 1, 0, none⟩), .pointer (some ⟨N + 1 + 1 + 1, 0, none⟩), .pointer (some ⟨N + 1 + 1 + 1 + 1, 0, none⟩), .pointer (some ⟨Bi, 0, none⟩), .pointer (some ⟨Bv, 0, none⟩), .pointer (some ⟨Bc, 0, none⟩), .int .i64 y.val, .int .u64 (b y.val), .agg #[.int .u64 (a 0), .int .u64 (a 1), .int .u64 (a 2), .int .u64 (a 3)], .func (.func 82) #[] #[.pointer (some ⟨N + 1 + 1 + 1 + 1 + 1, 0, none⟩)], .int .i64 i, .int .u64 (a i), .agg #[.int .u64 (b 0), .int .u64 (b 1), .int .u64 (b 2), .int .u64 (b 3)], .func (.func 82) #[] #[.pointer (some ⟨B2, 0, none⟩)], .int .i64 y.val, .int .u64 (b y.val), undef, undef, undef, undef, undef, undef, undef, undef, undef, undef, undef, undef, undef, undef, undef, undef, undef, undef, undef, undef, undef, undef, undef, undef, undef, undef, undef, undef, undef, undef, undef, undef, undef, undef, undef, undef, undef, undef], defers := [] })
      (fun _ _ _ _ _ _ hs _ _ => hs)
      ?assign2 ?body2 ?done2 ?stop2
    case assign2 =>
      rintro l2 pre' y W' K hi2 hK
      dsimp only [wenc]
      gi_wp2
      exact hK _ _ (KeepsFrom.refl _ _) trivial hi2 rfl
    case body2 =>
      rintro l2 pre' y a'' W' _ _ ⟨hP, bI3, bV3, bC3, hKF⟩ rfl _
      obtain ⟨k, hk⟩ := y
      dsimp only
      have hw2 := inSt_words ha hb i hpw pre'
      obtain ⟨P1, c0, hs⟩ : ∃ P1 c0, inSt a b i p pre' = (P1, c0) := ⟨_, _, rfl⟩
      have H3 := Lib.hid (inSt_snoc a b i p pre' ⟨k, hk⟩)
      rw [hs] at hP bC3 hw2 H3
      clear hs
      dsimp only at hP bC3 hw2
      obtain ⟨lo, hh, hwp, H2⟩ : ∃ lo hh : Nat, (∀ W, Calls Try.prog 83 #[.int .u64 (a i), .int .u64 (b k), .int .u64 (P1 (i + k)), .int .u64 c0] W fun e w' => e = .returned (.tuple #[.int .u64 lo, .int .u64 hh]) ∧ W = w') ∧ Hid (inSt a b i p (pre' ++ [⟨k, hk⟩]) = (upd P1 (i + k) lo, hh)) :=
        ⟨_, _, fun W => wordProduct_x (a i) (b k) (P1 (i + k)) c0 (ha i) (hb k) (hw2.1 _) hw2.2 W, Lib.hid (H3.out.trans rfl)⟩
      clear H3
      have c8 := hP.2.2.2.2.1.cell (i + k) (by omega)
      have f8 := hP.2.2.2.2.1.frozen (i + k)
      have cC := bC3.cell
      have fC := bC3.frozen
      obtain ⟨pk, hpk⟩ : ∃ pk, P1 (i + k) = pk := ⟨_, rfl⟩
      rw [hpk] at c8 hwp
      clear hpk
      have q1 : IntKind.i64.wrap ((i : Int) + (k : Int)) = (i : Int) + (k : Int) := IntWalk.i64_in _ (by omega)
      have q2 : (0 : Int) ≤ (i : Int) + (k : Int) := by omega
      have q3 : ((i : Int) + (k : Int)).toNat = i + k := by omega
      have q4 : (i : Int) + (k : Int) < 8 := by omega
      gi_wp2
      refine round_region_held (l := l2) (S := fun W' => Boxed W' Bi 3 (.int .i64 i) ∧ Boxed W' Bv 22 (.int .u64 (a i))) (by kernel_rfl) (by kernel_rfl) (by rintro ⟨_, _, h⟩; exact h) ⟨bI3, bV3⟩ (fun hHeld => ?_)
      refine wpAnyH_take (i := 0) (oi := { dst := some 21, op := Go.Op.load 3 (Go.Operand.tmp 7), type := 3, pos := "parts.go:53", after := #[], guard := none }) (v := ?_) rfl (by kernel_rfl) (by kernel_rfl) (by kernel_rfl) (fun _ _ _ h => h) (Or.inl ⟨by rfl, ?_⟩) (by assumption) ?_
      rotate_left
      · intro w hSw
        have k1 := hSw.1.cell
        have k2 := hSw.2.cell
        go_simp
        try with_reducible rfl
      try simp only [Act.put, List.setIfInBounds_toArray, List.set_cons_zero, List.set_cons_succ]
      refine wpAnyH_take (i := 1) (oi := { dst := some 22, op := Go.Op.move (Go.Operand.tmp 10), type := 3, pos := "parts.go:53", after := #[], guard := none }) (v := ?_) rfl (by kernel_rfl) (by kernel_rfl) (by kernel_rfl) (fun _ _ _ h => h) (Or.inl ⟨by rfl, ?_⟩) (by assumption) ?_
      rotate_left
      · intro w hSw
        have k1 := hSw.1.cell
        have k2 := hSw.2.cell
        go_simp
        try with_reducible rfl
      try simp only [Act.put, List.setIfInBounds_toArray, List.set_cons_zero, List.set_cons_succ]
      refine wpAnyH_take (i := 2) (oi := { dst := some 23, op := Go.Op.binOp Go.BinOp.add 3 (Go.Operand.tmp 21) (Go.Operand.tmp 22) 3, type := 3, pos := "parts.go:53", after := #[{ on := 0, ground := Go.Ground.data }, { on := 1, ground := Go.Ground.data }], guard := none }) (v := ?_) rfl (by kernel_rfl) (by kernel_rfl) (by kernel_rfl) (fun _ _ _ h => h) (Or.inl ⟨by rfl, ?_⟩) (by assumption) ?_
      rotate_left
      · intro w hSw
        have k1 := hSw.1.cell
        have k2 := hSw.2.cell
        go_simp
        try with_reducible rfl
      try simp only [Act.put, List.setIfInBounds_toArray, List.set_cons_zero, List.set_cons_succ]
      refine wpAnyH_take (i := 3) (oi := { dst := some 24, op := Go.Op.load 22 (Go.Operand.tmp 8), type := 22, pos := "parts.go:53", after := #[], guard := none }) (v := ?_) rfl (by kernel_rfl) (by kernel_rfl) (by kernel_rfl) (fun _ _ _ h => h) (Or.inl ⟨by rfl, ?_⟩) (by assumption) ?_
      rotate_left
      · intro w hSw
        have k1 := hSw.1.cell
        have k2 := hSw.2.cell
        go_simp
        try with_reducible rfl
      try simp only [Act.put, List.setIfInBounds_toArray, List.set_cons_zero, List.set_cons_succ]
      refine wpAnyH_take (i := 4) (oi := { dst := some 25, op := Go.Op.move (Go.Operand.tmp 11), type := 22, pos := "parts.go:53", after := #[], guard := none }) (v := ?_) rfl (by kernel_rfl) (by kernel_rfl) (by kernel_rfl) (fun _ _ _ h => h) (Or.inl ⟨by rfl, ?_⟩) (by assumption) ?_
      rotate_left
      · intro w hSw
        have k1 := hSw.1.cell
        have k2 := hSw.2.cell
        go_simp
        try with_reducible rfl
      try simp only [Act.put, List.setIfInBounds_toArray, List.set_cons_zero, List.set_cons_succ]
      refine wpAnyH_take (i := 5) (oi := { dst := some 26, op := Go.Op.load 3 (Go.Operand.tmp 7), type := 3, pos := "parts.go:53", after := #[], guard := none }) (v := ?_) rfl (by kernel_rfl) (by kernel_rfl) (by kernel_rfl) (fun _ _ _ h => h) (Or.inl ⟨by rfl, ?_⟩) (by assumption) ?_
      rotate_left
      · intro w hSw
        have k1 := hSw.1.cell
        have k2 := hSw.2.cell
        go_simp
        try with_reducible rfl
      try simp only [Act.put, List.setIfInBounds_toArray, List.set_cons_zero, List.set_cons_succ]
      refine wpAnyH_take (i := 6) (oi := { dst := some 27, op := Go.Op.move (Go.Operand.tmp 10), type := 3, pos := "parts.go:53", after := #[], guard := none }) (v := ?_) rfl (by kernel_rfl) (by kernel_rfl) (by kernel_rfl) (fun _ _ _ h => h) (Or.inl ⟨by rfl, ?_⟩) (by assumption) ?_
      rotate_left
      · intro w hSw
        have k1 := hSw.1.cell
        have k2 := hSw.2.cell
        go_simp
        try with_reducible rfl
      try simp only [Act.put, List.setIfInBounds_toArray, List.set_cons_zero, List.set_cons_succ]
      refine wpAnyH_take (i := 7) (oi := { dst := some 28, op := Go.Op.binOp Go.BinOp.add 3 (Go.Operand.tmp 26) (Go.Operand.tmp 27) 3, type := 3, pos := "parts.go:53", after := #[{ on := 5, ground := Go.Ground.data }, { on := 6, ground := Go.Ground.data }], guard := none }) (v := ?_) rfl (by kernel_rfl) (by kernel_rfl) (by kernel_rfl) (fun _ _ _ h => h) (Or.inl ⟨by rfl, ?_⟩) (by assumption) ?_
      rotate_left
      · intro w hSw
        have k1 := hSw.1.cell
        have k2 := hSw.2.cell
        go_simp
        try with_reducible rfl
      try simp only [Act.put, List.setIfInBounds_toArray, List.set_cons_zero, List.set_cons_succ]
      refine wpAnyH_take (i := 8) (oi := { dst := some 29, op := Go.Op.indexAddr 54 (Go.Operand.tmp 6) (Go.Operand.tmp 28), type := 0, pos := "parts.go:53", after := #[{ on := 7, ground := Go.Ground.data }], guard := none }) (v := ?_) rfl (by kernel_rfl) (by kernel_rfl) (by kernel_rfl) (fun _ _ _ h => h) (Or.inl ⟨by rfl, ?_⟩) (by assumption) ?_
      rotate_left
      · intro w hSw
        have k1 := hSw.1.cell
        have k2 := hSw.2.cell
        go_simp
        try with_reducible rfl
      try simp only [Act.put, List.setIfInBounds_toArray, List.set_cons_zero, List.set_cons_succ]
      refine wpAnyH_ready (rs := [9, 10]) (by kernel_rfl) (by simp) ?_
      refine AllReadyH.cons (o := { dst := some 30, op := Go.Op.load 22 (Go.Operand.tmp 29), type := 22, pos := "parts.go:53", after := #[{ on := 8, ground := Go.Ground.data }], guard := none }) rfl (fun K hK => ?_) (AllReadyH.cons (o := { dst := some 31, op := Go.Op.load 22 (Go.Operand.tmp 9), type := 22, pos := "parts.go:53", after := #[], guard := none }) rfl (fun K hK => ?_) AllReadyH.nil)
      · go_simp
        refine hK.out _ _ ?_ (fun hHeld2 => ?_)
        · exact hHeld
        clear hK K hHeld
        have hHeld := hHeld2
        clear hHeld2
        try simp only [Act.put, List.setIfInBounds_toArray, List.set_cons_zero, List.set_cons_succ]
        refine wpAnyH_ready (rs := [10]) (by kernel_rfl) (by simp) ?_
        refine AllReadyH.cons (o := { dst := some 31, op := Go.Op.load 22 (Go.Operand.tmp 9), type := 22, pos := "parts.go:53", after := #[], guard := none }) rfl (fun K hK => ?_) AllReadyH.nil
        go_simp
        refine hK.out _ _ ?_ (fun hHeld2 => ?_)
        · exact hHeld
        clear hK K hHeld
        have hHeld := hHeld2
        clear hHeld2
        try simp only [Act.put, List.setIfInBounds_toArray, List.set_cons_zero, List.set_cons_succ]
        refine wpAnyH_ready (rs := [11]) (by kernel_rfl) (by simp) ?_
        refine AllReadyH.cons (o := { dst := some 32, op := Go.Op.call { callee := Go.Callee.value (Go.Operand.func 83), args := #[Go.Operand.tmp 24, Go.Operand.tmp 25, Go.Operand.tmp 30, Go.Operand.tmp 31], argTypes := #[22, 22, 22, 22] }, type := 51, pos := "parts.go:53", after := #[{ on := 3, ground := Go.Ground.data }, { on := 4, ground := Go.Ground.data }, { on := 9, ground := Go.Ground.data }, { on := 10, ground := Go.Ground.data }], guard := none }) rfl (fun K hK => ?_) AllReadyH.nil
        go_simp
        refine (hwp _).mono ?_
        rintro e W3 ⟨rfl, rfl⟩
        refine hK.out _ _ ?_ (fun hHeld2 => ?_)
        · exact hHeld
        clear hK K hHeld
        have hHeld := hHeld2
        clear hHeld2
        try simp only [Act.put, List.setIfInBounds_toArray, List.set_cons_zero, List.set_cons_succ]
        refine wpAnyH_take (i := 12) (oi := { dst := some 20, op := Go.Op.move (Go.Operand.tmp 32), type := 51, pos := "parts.go:53", after := #[{ on := 11, ground := Go.Ground.data }], guard := none }) (v := ?_) rfl (by kernel_rfl) (by kernel_rfl) (by kernel_rfl) (fun _ _ _ h => h) (Or.inl ⟨by rfl, ?_⟩) (by assumption) ?_
        rotate_left
        · intro w hSw
          go_simp
          try with_reducible rfl
        try simp only [Act.put, List.setIfInBounds_toArray, List.set_cons_zero, List.set_cons_succ]
        refine wpAnyH_take (i := 13) (oi := { dst := some 33, op := Go.Op.extract (Go.Operand.tmp 20) 0, type := 22, pos := "parts.go:53", after := #[{ on := 12, ground := Go.Ground.data }], guard := none }) (v := ?_) rfl (by kernel_rfl) (by kernel_rfl) (by kernel_rfl) (fun _ _ _ h => h) (Or.inl ⟨by rfl, ?_⟩) (by assumption) ?_
        rotate_left
        · intro w hSw
          go_simp
          try with_reducible rfl
        try simp only [Act.put, List.setIfInBounds_toArray, List.set_cons_zero, List.set_cons_succ]
        refine wpAnyH_take (i := 14) (oi := { dst := some 34, op := Go.Op.extract (Go.Operand.tmp 20) 1, type := 22, pos := "parts.go:53", after := #[{ on := 12, ground := Go.Ground.data }, { on := 16, ground := Go.Ground.gcOnly Go.Departure.lateStores }], guard := none }) (v := ?_) rfl (by kernel_rfl) (by kernel_rfl) (by kernel_rfl) (fun _ _ _ h => h) (Or.inl ⟨by rfl, ?_⟩) (by assumption) ?_
        rotate_left
        · intro w hSw
          go_simp
          try with_reducible rfl
        try simp only [Act.put, List.setIfInBounds_toArray, List.set_cons_zero, List.set_cons_succ]
        refine wpAnyH_take (i := 15) (oi := { dst := some 35, op := Go.Op.indexAddr 54 (Go.Operand.tmp 6) (Go.Operand.tmp 23), type := 0, pos := "parts.go:53", after := #[{ on := 2, ground := Go.Ground.data }, { on := 0, ground := Go.Ground.phase }, { on := 1, ground := Go.Ground.phase }, { on := 2, ground := Go.Ground.phase }, { on := 3, ground := Go.Ground.phase }, { on := 4, ground := Go.Ground.phase }, { on := 5, ground := Go.Ground.phase }, { on := 6, ground := Go.Ground.phase }, { on := 7, ground := Go.Ground.phase }, { on := 8, ground := Go.Ground.phase }, { on := 9, ground := Go.Ground.phase }, { on := 10, ground := Go.Ground.phase }, { on := 11, ground := Go.Ground.phase }, { on := 12, ground := Go.Ground.phase }, { on := 13, ground := Go.Ground.phase }, { on := 14, ground := Go.Ground.textOnly Go.Departure.lateStores }], guard := none }) (v := ?_) rfl (by kernel_rfl) (by kernel_rfl) (by kernel_rfl) (fun _ _ _ h => h) (Or.inl ⟨by rfl, ?_⟩) (by assumption) ?_
        rotate_left
        · intro w hSw
          go_simp
          try with_reducible rfl
        try simp only [Act.put, List.setIfInBounds_toArray, List.set_cons_zero, List.set_cons_succ]
        refine wpAnyH_ready (rs := [16]) (by kernel_rfl) (by simp) ?_
        refine AllReadyH.cons (o := { dst := none, op := Go.Op.store 22 (Go.Operand.tmp 35) (Go.Operand.tmp 33), type := 0, pos := "parts.go:53", after := #[{ on := 15, ground := Go.Ground.data }, { on := 13, ground := Go.Ground.data }, { on := 11, ground := Go.Ground.chain }, { on := 0, ground := Go.Ground.phase }, { on := 1, ground := Go.Ground.phase }, { on := 2, ground := Go.Ground.phase }, { on := 3, ground := Go.Ground.phase }, { on := 4, ground := Go.Ground.phase }, { on := 5, ground := Go.Ground.phase }, { on := 6, ground := Go.Ground.phase }, { on := 7, ground := Go.Ground.phase }, { on := 8, ground := Go.Ground.phase }, { on := 9, ground := Go.Ground.phase }, { on := 10, ground := Go.Ground.phase }, { on := 11, ground := Go.Ground.phase }, { on := 12, ground := Go.Ground.phase }, { on := 13, ground := Go.Ground.phase }, { on := 14, ground := Go.Ground.textOnly Go.Departure.lateStores }], guard := none }) rfl (fun K hK => ?_) AllReadyH.nil
        go_simp
        refine hK.out _ _ ?_ (fun hHeld2 => ?_)
        · exact ⟨boxed_other hHeld.1 (by omega) _ _, boxed_other hHeld.2 (by omega) _ _⟩
        clear hK K hHeld
        have hHeld := hHeld2
        clear hHeld2
        try simp only [Act.put, List.setIfInBounds_toArray, List.set_cons_zero, List.set_cons_succ]
        refine wpAnyH_ready (rs := [17]) (by kernel_rfl) (by simp) ?_
        refine AllReadyH.cons (o := { dst := none, op := Go.Op.store 22 (Go.Operand.tmp 9) (Go.Operand.tmp 34), type := 0, pos := "parts.go:53", after := #[{ on := 14, ground := Go.Ground.data }, { on := 16, ground := Go.Ground.chain }, { on := 0, ground := Go.Ground.phase }, { on := 1, ground := Go.Ground.phase }, { on := 2, ground := Go.Ground.phase }, { on := 3, ground := Go.Ground.phase }, { on := 4, ground := Go.Ground.phase }, { on := 5, ground := Go.Ground.phase }, { on := 6, ground := Go.Ground.phase }, { on := 7, ground := Go.Ground.phase }, { on := 8, ground := Go.Ground.phase }, { on := 9, ground := Go.Ground.phase }, { on := 10, ground := Go.Ground.phase }, { on := 11, ground := Go.Ground.phase }, { on := 12, ground := Go.Ground.phase }, { on := 13, ground := Go.Ground.phase }, { on := 14, ground := Go.Ground.phase }, { on := 15, ground := Go.Ground.phase }, { on := 16, ground := Go.Ground.phase }], guard := none }) rfl (fun K hK => ?_) AllReadyH.nil
        go_simp
        refine hK.out _ _ ?_ (fun hHeld2 => ?_)
        · exact ⟨boxed_other hHeld.1 (by omega) _ _, boxed_other hHeld.2 (by omega) _ _⟩
        clear hK K hHeld
        have hHeld := hHeld2
        clear hHeld2
        try simp only [Act.put, List.setIfInBounds_toArray, List.set_cons_zero, List.set_cons_succ]
        refine wpAnyH_done (by kernel_rfl) ?_ _
        have hko := ((KeepsOthers.setCell W' ⟨N + 1 + 1 + 1 + 1, i + k, none⟩ (.int .u64 lo)).trans (KeepsOthers.setCell _ ⟨Bc, 0, none⟩ (.int .u64 hh))).trans (KeepsOthers.drew _)
        refine ⟨hko.from _, trivial, ?_⟩
        show Pr N w a b (inSt a b i p (pre' ++ [⟨k, hk⟩])).1 _ ∧ _ ∧ _ ∧ Boxed _ Bc 22 (.int .u64 (inSt a b i p (pre' ++ [⟨k, hk⟩])).2) ∧ _
        rw [H2.out]
        exact ⟨pr_drew (pr_set (pr_p hP _ lo (by omega)) Bc (by omega) _), hHeld.1, hHeld.2, (boxed_other bC3 (by omega) _ _).set _, hKF.trans (hko.from _)⟩
      · go_simp
        refine hK.out _ _ ?_ (fun hHeld2 => ?_)
        · exact hHeld
        clear hK K hHeld
        have hHeld := hHeld2
        clear hHeld2
        try simp only [Act.put, List.setIfInBounds_toArray, List.set_cons_zero, List.set_cons_succ]
        refine wpAnyH_ready (rs := [9]) (by kernel_rfl) (by simp) ?_
        refine AllReadyH.cons (o := { dst := some 30, op := Go.Op.load 22 (Go.Operand.tmp 29), type := 22, pos := "parts.go:53", after := #[{ on := 8, ground := Go.Ground.data }], guard := none }) rfl (fun K hK => ?_) AllReadyH.nil
        go_simp
        refine hK.out _ _ ?_ (fun hHeld2 => ?_)
        · exact hHeld
        clear hK K hHeld
        have hHeld := hHeld2
        clear hHeld2
        try simp only [Act.put, List.setIfInBounds_toArray, List.set_cons_zero, List.set_cons_succ]
        refine wpAnyH_ready (rs := [11]) (by kernel_rfl) (by simp) ?_
        refine AllReadyH.cons (o := { dst := some 32, op := Go.Op.call { callee := Go.Callee.value (Go.Operand.func 83), args := #[Go.Operand.tmp 24, Go.Operand.tmp 25, Go.Operand.tmp 30, Go.Operand.tmp 31], argTypes := #[22, 22, 22, 22] }, type := 51, pos := "parts.go:53", after := #[{ on := 3, ground := Go.Ground.data }, { on := 4, ground := Go.Ground.data }, { on := 9, ground := Go.Ground.data }, { on := 10, ground := Go.Ground.data }], guard := none }) rfl (fun K hK => ?_) AllReadyH.nil
        go_simp
        refine (hwp _).mono ?_
        rintro e W3 ⟨rfl, rfl⟩
        refine hK.out _ _ ?_ (fun hHeld2 => ?_)
        · exact hHeld
        clear hK K hHeld
        have hHeld := hHeld2
        clear hHeld2
        try simp only [Act.put, List.setIfInBounds_toArray, List.set_cons_zero, List.set_cons_succ]
        refine wpAnyH_take (i := 12) (oi := { dst := some 20, op := Go.Op.move (Go.Operand.tmp 32), type := 51, pos := "parts.go:53", after := #[{ on := 11, ground := Go.Ground.data }], guard := none }) (v := ?_) rfl (by kernel_rfl) (by kernel_rfl) (by kernel_rfl) (fun _ _ _ h => h) (Or.inl ⟨by rfl, ?_⟩) (by assumption) ?_
        rotate_left
        · intro w hSw
          go_simp
          try with_reducible rfl
        try simp only [Act.put, List.setIfInBounds_toArray, List.set_cons_zero, List.set_cons_succ]
        refine wpAnyH_take (i := 13) (oi := { dst := some 33, op := Go.Op.extract (Go.Operand.tmp 20) 0, type := 22, pos := "parts.go:53", after := #[{ on := 12, ground := Go.Ground.data }], guard := none }) (v := ?_) rfl (by kernel_rfl) (by kernel_rfl) (by kernel_rfl) (fun _ _ _ h => h) (Or.inl ⟨by rfl, ?_⟩) (by assumption) ?_
        rotate_left
        · intro w hSw
          go_simp
          try with_reducible rfl
        try simp only [Act.put, List.setIfInBounds_toArray, List.set_cons_zero, List.set_cons_succ]
        refine wpAnyH_take (i := 14) (oi := { dst := some 34, op := Go.Op.extract (Go.Operand.tmp 20) 1, type := 22, pos := "parts.go:53", after := #[{ on := 12, ground := Go.Ground.data }, { on := 16, ground := Go.Ground.gcOnly Go.Departure.lateStores }], guard := none }) (v := ?_) rfl (by kernel_rfl) (by kernel_rfl) (by kernel_rfl) (fun _ _ _ h => h) (Or.inl ⟨by rfl, ?_⟩) (by assumption) ?_
        rotate_left
        · intro w hSw
          go_simp
          try with_reducible rfl
        try simp only [Act.put, List.setIfInBounds_toArray, List.set_cons_zero, List.set_cons_succ]
        refine wpAnyH_take (i := 15) (oi := { dst := some 35, op := Go.Op.indexAddr 54 (Go.Operand.tmp 6) (Go.Operand.tmp 23), type := 0, pos := "parts.go:53", after := #[{ on := 2, ground := Go.Ground.data }, { on := 0, ground := Go.Ground.phase }, { on := 1, ground := Go.Ground.phase }, { on := 2, ground := Go.Ground.phase }, { on := 3, ground := Go.Ground.phase }, { on := 4, ground := Go.Ground.phase }, { on := 5, ground := Go.Ground.phase }, { on := 6, ground := Go.Ground.phase }, { on := 7, ground := Go.Ground.phase }, { on := 8, ground := Go.Ground.phase }, { on := 9, ground := Go.Ground.phase }, { on := 10, ground := Go.Ground.phase }, { on := 11, ground := Go.Ground.phase }, { on := 12, ground := Go.Ground.phase }, { on := 13, ground := Go.Ground.phase }, { on := 14, ground := Go.Ground.textOnly Go.Departure.lateStores }], guard := none }) (v := ?_) rfl (by kernel_rfl) (by kernel_rfl) (by kernel_rfl) (fun _ _ _ h => h) (Or.inl ⟨by rfl, ?_⟩) (by assumption) ?_
        rotate_left
        · intro w hSw
          go_simp
          try with_reducible rfl
        try simp only [Act.put, List.setIfInBounds_toArray, List.set_cons_zero, List.set_cons_succ]
        refine wpAnyH_ready (rs := [16]) (by kernel_rfl) (by simp) ?_
        refine AllReadyH.cons (o := { dst := none, op := Go.Op.store 22 (Go.Operand.tmp 35) (Go.Operand.tmp 33), type := 0, pos := "parts.go:53", after := #[{ on := 15, ground := Go.Ground.data }, { on := 13, ground := Go.Ground.data }, { on := 11, ground := Go.Ground.chain }, { on := 0, ground := Go.Ground.phase }, { on := 1, ground := Go.Ground.phase }, { on := 2, ground := Go.Ground.phase }, { on := 3, ground := Go.Ground.phase }, { on := 4, ground := Go.Ground.phase }, { on := 5, ground := Go.Ground.phase }, { on := 6, ground := Go.Ground.phase }, { on := 7, ground := Go.Ground.phase }, { on := 8, ground := Go.Ground.phase }, { on := 9, ground := Go.Ground.phase }, { on := 10, ground := Go.Ground.phase }, { on := 11, ground := Go.Ground.phase }, { on := 12, ground := Go.Ground.phase }, { on := 13, ground := Go.Ground.phase }, { on := 14, ground := Go.Ground.textOnly Go.Departure.lateStores }], guard := none }) rfl (fun K hK => ?_) AllReadyH.nil
        go_simp
        refine hK.out _ _ ?_ (fun hHeld2 => ?_)
        · exact ⟨boxed_other hHeld.1 (by omega) _ _, boxed_other hHeld.2 (by omega) _ _⟩
        clear hK K hHeld
        have hHeld := hHeld2
        clear hHeld2
        try simp only [Act.put, List.setIfInBounds_toArray, List.set_cons_zero, List.set_cons_succ]
        refine wpAnyH_ready (rs := [17]) (by kernel_rfl) (by simp) ?_
        refine AllReadyH.cons (o := { dst := none, op := Go.Op.store 22 (Go.Operand.tmp 9) (Go.Operand.tmp 34), type := 0, pos := "parts.go:53", after := #[{ on := 14, ground := Go.Ground.data }, { on := 16, ground := Go.Ground.chain }, { on := 0, ground := Go.Ground.phase }, { on := 1, ground := Go.Ground.phase }, { on := 2, ground := Go.Ground.phase }, { on := 3, ground := Go.Ground.phase }, { on := 4, ground := Go.Ground.phase }, { on := 5, ground := Go.Ground.phase }, { on := 6, ground := Go.Ground.phase }, { on := 7, ground := Go.Ground.phase }, { on := 8, ground := Go.Ground.phase }, { on := 9, ground := Go.Ground.phase }, { on := 10, ground := Go.Ground.phase }, { on := 11, ground := Go.Ground.phase }, { on := 12, ground := Go.Ground.phase }, { on := 13, ground := Go.Ground.phase }, { on := 14, ground := Go.Ground.phase }, { on := 15, ground := Go.Ground.phase }, { on := 16, ground := Go.Ground.phase }], guard := none }) rfl (fun K hK => ?_) AllReadyH.nil
        go_simp
        refine hK.out _ _ ?_ (fun hHeld2 => ?_)
        · exact ⟨boxed_other hHeld.1 (by omega) _ _, boxed_other hHeld.2 (by omega) _ _⟩
        clear hK K hHeld
        have hHeld := hHeld2
        clear hHeld2
        try simp only [Act.put, List.setIfInBounds_toArray, List.set_cons_zero, List.set_cons_succ]
        refine wpAnyH_done (by kernel_rfl) ?_ _
        have hko := ((KeepsOthers.setCell W' ⟨N + 1 + 1 + 1 + 1, i + k, none⟩ (.int .u64 lo)).trans (KeepsOthers.setCell _ ⟨Bc, 0, none⟩ (.int .u64 hh))).trans (KeepsOthers.drew _)
        refine ⟨hko.from _, trivial, ?_⟩
        show Pr N w a b (inSt a b i p (pre' ++ [⟨k, hk⟩])).1 _ ∧ _ ∧ _ ∧ Boxed _ Bc 22 (.int .u64 (inSt a b i p (pre' ++ [⟨k, hk⟩])).2) ∧ _
        rw [H2.out]
        exact ⟨pr_drew (pr_set (pr_p hP _ lo (by omega)) Bc (by omega) _), hHeld.1, hHeld.2, (boxed_other bC3 (by omega) _ _).set _, hKF.trans (hko.from _)⟩
    case done2 =>
      rintro ys' W' rfl ⟨hP, bI3, bV3, bC3, hKF⟩
      have cI := bI3.cell
      have cC := bC3.cell
      have c8 := hP.2.2.2.2.1.cell (i + 4) (by omega)
      have f8 := hP.2.2.2.2.1.frozen (i + 4)
      have hii : (i : Int) < 4 := by omega
      gi_wp2
      exact ⟨hKF.trans ((KeepsOthers.setCell _ _ _).from _), trivial, by show Pr N w a b (outSt a b (pre ++ [⟨i, hi⟩])) _; rw [H.out]; exact pr_p hP (i + 4) _ (by omega)⟩
    case stop2 =>
      rintro c pre' W' _ h
      exact h.elim
  case done =>
    rintro D ys W hD rfl hI hK
    rw [HR.out] at hI
    have hA : AfterP N D w R W := ⟨hI.2.2.2.2.1, ⟨_, hI.2.2.1⟩, ⟨_, hI.2.2.2.1⟩, hK, hI.2.2.2.2.2⟩
    gi_wp2
    refine wpIn_wide.2 ?_
    refine wp_region_noPanic ?_
    refine wp_region_held_drew (S := fun W' => AfterP N D w R W') (by kernel_rfl) (afterP_drew hA) (fun hHeld => ?_)
    obtain ⟨Wd, hWd⟩ : ∃ Wd, W.drew = Wd := ⟨_, rfl⟩
    rw [hWd] at hHeld ⊢
    clear hWd
    refine wpAnyH_take (i := 0) (oi := { dst := some 40, op := Go.Op.indexAddr 54 (Go.Operand.tmp 6) (Go.Operand.const (Go.Value.int Go.IntKind.i64 0)), type := 0, pos := "parts.go:57", after := #[], guard := none }) (v := ?_) rfl (by kernel_rfl) (by kernel_rfl) (by kernel_rfl) (fun _ _ _ h => h) (Or.inl ⟨by rfl, ?_⟩) (by assumption) ?_
    rotate_left
    · intro w hSw
      go_simp
      try with_reducible rfl
    try simp only [Act.put, List.setIfInBounds_toArray, List.set_cons_zero, List.set_cons_succ]
    refine wpAnyH_take (i := 1) (oi := { dst := some 41, op := Go.Op.load 22 (Go.Operand.tmp 40), type := 22, pos := "parts.go:57", after := #[{ on := 0, ground := Go.Ground.data }], guard := none }) (v := ?_) rfl (by kernel_rfl) (by kernel_rfl) (by kernel_rfl) (fun _ _ _ h => h) (Or.inl ⟨by rfl, ?_⟩) (by assumption) ?_
    rotate_left
    · intro w hSw
      have k1 := hSw.1.cell 0 (by omega)
      go_simp
      try with_reducible rfl
    try simp only [Act.put, List.setIfInBounds_toArray, List.set_cons_zero, List.set_cons_succ]
    refine wpAnyH_take (i := 2) (oi := { dst := some 42, op := Go.Op.indexAddr 54 (Go.Operand.tmp 6) (Go.Operand.const (Go.Value.int Go.IntKind.i64 1)), type := 0, pos := "parts.go:57", after := #[], guard := none }) (v := ?_) rfl (by kernel_rfl) (by kernel_rfl) (by kernel_rfl) (fun _ _ _ h => h) (Or.inl ⟨by rfl, ?_⟩) (by assumption) ?_
    rotate_left
    · intro w hSw
      go_simp
      try with_reducible rfl
    try simp only [Act.put, List.setIfInBounds_toArray, List.set_cons_zero, List.set_cons_succ]
    refine wpAnyH_take (i := 3) (oi := { dst := some 43, op := Go.Op.load 22 (Go.Operand.tmp 42), type := 22, pos := "parts.go:57", after := #[{ on := 2, ground := Go.Ground.data }], guard := none }) (v := ?_) rfl (by kernel_rfl) (by kernel_rfl) (by kernel_rfl) (fun _ _ _ h => h) (Or.inl ⟨by rfl, ?_⟩) (by assumption) ?_
    rotate_left
    · intro w hSw
      have k1 := hSw.1.cell 1 (by omega)
      go_simp
      try with_reducible rfl
    try simp only [Act.put, List.setIfInBounds_toArray, List.set_cons_zero, List.set_cons_succ]
    refine wpAnyH_take (i := 4) (oi := { dst := some 44, op := Go.Op.indexAddr 54 (Go.Operand.tmp 6) (Go.Operand.const (Go.Value.int Go.IntKind.i64 2)), type := 0, pos := "parts.go:57", after := #[], guard := none }) (v := ?_) rfl (by kernel_rfl) (by kernel_rfl) (by kernel_rfl) (fun _ _ _ h => h) (Or.inl ⟨by rfl, ?_⟩) (by assumption) ?_
    rotate_left
    · intro w hSw
      go_simp
      try with_reducible rfl
    try simp only [Act.put, List.setIfInBounds_toArray, List.set_cons_zero, List.set_cons_succ]
    refine wpAnyH_take (i := 5) (oi := { dst := some 45, op := Go.Op.load 22 (Go.Operand.tmp 44), type := 22, pos := "parts.go:57", after := #[{ on := 4, ground := Go.Ground.data }], guard := none }) (v := ?_) rfl (by kernel_rfl) (by kernel_rfl) (by kernel_rfl) (fun _ _ _ h => h) (Or.inl ⟨by rfl, ?_⟩) (by assumption) ?_
    rotate_left
    · intro w hSw
      have k1 := hSw.1.cell 2 (by omega)
      go_simp
      try with_reducible rfl
    try simp only [Act.put, List.setIfInBounds_toArray, List.set_cons_zero, List.set_cons_succ]
    refine wpAnyH_take (i := 6) (oi := { dst := some 46, op := Go.Op.indexAddr 54 (Go.Operand.tmp 6) (Go.Operand.const (Go.Value.int Go.IntKind.i64 3)), type := 0, pos := "parts.go:57", after := #[], guard := none }) (v := ?_) rfl (by kernel_rfl) (by kernel_rfl) (by kernel_rfl) (fun _ _ _ h => h) (Or.inl ⟨by rfl, ?_⟩) (by assumption) ?_
    rotate_left
    · intro w hSw
      go_simp
      try with_reducible rfl
    try simp only [Act.put, List.setIfInBounds_toArray, List.set_cons_zero, List.set_cons_succ]
    refine wpAnyH_take (i := 7) (oi := { dst := some 47, op := Go.Op.load 22 (Go.Operand.tmp 46), type := 22, pos := "parts.go:57", after := #[{ on := 6, ground := Go.Ground.data }], guard := none }) (v := ?_) rfl (by kernel_rfl) (by kernel_rfl) (by kernel_rfl) (fun _ _ _ h => h) (Or.inl ⟨by rfl, ?_⟩) (by assumption) ?_
    rotate_left
    · intro w hSw
      have k1 := hSw.1.cell 3 (by omega)
      go_simp
      try with_reducible rfl
    try simp only [Act.put, List.setIfInBounds_toArray, List.set_cons_zero, List.set_cons_succ]
    refine wpAnyH_take (i := 8) (oi := { dst := some 48, op := Go.Op.build 24 #[(0, Go.Operand.tmp 41), (1, Go.Operand.tmp 43), (2, Go.Operand.tmp 45), (3, Go.Operand.tmp 47)], type := 24, pos := "parts.go:57", after := #[{ on := 1, ground := Go.Ground.data }, { on := 3, ground := Go.Ground.data }, { on := 5, ground := Go.Ground.data }, { on := 7, ground := Go.Ground.data }], guard := none }) (v := ?_) rfl (by kernel_rfl) (by kernel_rfl) (by kernel_rfl) (fun _ _ _ h => h) (Or.inl ⟨by rfl, ?_⟩) (by assumption) ?_
    rotate_left
    · intro w hSw
      go_simp
      try with_reducible rfl
    try simp only [Act.put, List.setIfInBounds_toArray, List.set_cons_zero, List.set_cons_succ]
    refine wpAnyH_take (i := 9) (oi := { dst := some 49, op := Go.Op.indexAddr 54 (Go.Operand.tmp 6) (Go.Operand.const (Go.Value.int Go.IntKind.i64 4)), type := 0, pos := "parts.go:57", after := #[{ on := 18, ground := Go.Ground.gcOnly Go.Departure.lateStores }], guard := none }) (v := ?_) rfl (by kernel_rfl) (by kernel_rfl) (by kernel_rfl) (fun _ _ _ h => h) (Or.inl ⟨by rfl, ?_⟩) (by assumption) ?_
    rotate_left
    · intro w hSw
      go_simp
      try with_reducible rfl
    try simp only [Act.put, List.setIfInBounds_toArray, List.set_cons_zero, List.set_cons_succ]
    refine wpAnyH_take (i := 10) (oi := { dst := some 50, op := Go.Op.load 22 (Go.Operand.tmp 49), type := 22, pos := "parts.go:57", after := #[{ on := 9, ground := Go.Ground.data }, { on := 18, ground := Go.Ground.gcOnly Go.Departure.lateStores }], guard := none }) (v := ?_) rfl (by kernel_rfl) (by kernel_rfl) (by kernel_rfl) (fun _ _ _ h => h) (Or.inl ⟨by rfl, ?_⟩) (by assumption) ?_
    rotate_left
    · intro w hSw
      have k1 := hSw.1.cell 4 (by omega)
      go_simp
      try with_reducible rfl
    try simp only [Act.put, List.setIfInBounds_toArray, List.set_cons_zero, List.set_cons_succ]
    refine wpAnyH_take (i := 11) (oi := { dst := some 51, op := Go.Op.indexAddr 54 (Go.Operand.tmp 6) (Go.Operand.const (Go.Value.int Go.IntKind.i64 5)), type := 0, pos := "parts.go:57", after := #[{ on := 18, ground := Go.Ground.gcOnly Go.Departure.lateStores }], guard := none }) (v := ?_) rfl (by kernel_rfl) (by kernel_rfl) (by kernel_rfl) (fun _ _ _ h => h) (Or.inl ⟨by rfl, ?_⟩) (by assumption) ?_
    rotate_left
    · intro w hSw
      go_simp
      try with_reducible rfl
    try simp only [Act.put, List.setIfInBounds_toArray, List.set_cons_zero, List.set_cons_succ]
    refine wpAnyH_take (i := 12) (oi := { dst := some 52, op := Go.Op.load 22 (Go.Operand.tmp 51), type := 22, pos := "parts.go:57", after := #[{ on := 11, ground := Go.Ground.data }, { on := 18, ground := Go.Ground.gcOnly Go.Departure.lateStores }], guard := none }) (v := ?_) rfl (by kernel_rfl) (by kernel_rfl) (by kernel_rfl) (fun _ _ _ h => h) (Or.inl ⟨by rfl, ?_⟩) (by assumption) ?_
    rotate_left
    · intro w hSw
      have k1 := hSw.1.cell 5 (by omega)
      go_simp
      try with_reducible rfl
    try simp only [Act.put, List.setIfInBounds_toArray, List.set_cons_zero, List.set_cons_succ]
    refine wpAnyH_take (i := 13) (oi := { dst := some 53, op := Go.Op.indexAddr 54 (Go.Operand.tmp 6) (Go.Operand.const (Go.Value.int Go.IntKind.i64 6)), type := 0, pos := "parts.go:57", after := #[{ on := 18, ground := Go.Ground.gcOnly Go.Departure.lateStores }], guard := none }) (v := ?_) rfl (by kernel_rfl) (by kernel_rfl) (by kernel_rfl) (fun _ _ _ h => h) (Or.inl ⟨by rfl, ?_⟩) (by assumption) ?_
    rotate_left
    · intro w hSw
      go_simp
      try with_reducible rfl
    try simp only [Act.put, List.setIfInBounds_toArray, List.set_cons_zero, List.set_cons_succ]
    refine wpAnyH_take (i := 14) (oi := { dst := some 54, op := Go.Op.load 22 (Go.Operand.tmp 53), type := 22, pos := "parts.go:57", after := #[{ on := 13, ground := Go.Ground.data }, { on := 18, ground := Go.Ground.gcOnly Go.Departure.lateStores }], guard := none }) (v := ?_) rfl (by kernel_rfl) (by kernel_rfl) (by kernel_rfl) (fun _ _ _ h => h) (Or.inl ⟨by rfl, ?_⟩) (by assumption) ?_
    rotate_left
    · intro w hSw
      have k1 := hSw.1.cell 6 (by omega)
      go_simp
      try with_reducible rfl
    try simp only [Act.put, List.setIfInBounds_toArray, List.set_cons_zero, List.set_cons_succ]
    refine wpAnyH_take (i := 15) (oi := { dst := some 55, op := Go.Op.indexAddr 54 (Go.Operand.tmp 6) (Go.Operand.const (Go.Value.int Go.IntKind.i64 7)), type := 0, pos := "parts.go:57", after := #[{ on := 18, ground := Go.Ground.gcOnly Go.Departure.lateStores }], guard := none }) (v := ?_) rfl (by kernel_rfl) (by kernel_rfl) (by kernel_rfl) (fun _ _ _ h => h) (Or.inl ⟨by rfl, ?_⟩) (by assumption) ?_
    rotate_left
    · intro w hSw
      go_simp
      try with_reducible rfl
    try simp only [Act.put, List.setIfInBounds_toArray, List.set_cons_zero, List.set_cons_succ]
    refine wpAnyH_take (i := 16) (oi := { dst := some 56, op := Go.Op.load 22 (Go.Operand.tmp 55), type := 22, pos := "parts.go:57", after := #[{ on := 15, ground := Go.Ground.data }, { on := 18, ground := Go.Ground.gcOnly Go.Departure.lateStores }], guard := none }) (v := ?_) rfl (by kernel_rfl) (by kernel_rfl) (by kernel_rfl) (fun _ _ _ h => h) (Or.inl ⟨by rfl, ?_⟩) (by assumption) ?_
    rotate_left
    · intro w hSw
      have k1 := hSw.1.cell 7 (by omega)
      go_simp
      try with_reducible rfl
    try simp only [Act.put, List.setIfInBounds_toArray, List.set_cons_zero, List.set_cons_succ]
    refine wpAnyH_take (i := 17) (oi := { dst := some 57, op := Go.Op.build 24 #[(0, Go.Operand.tmp 50), (1, Go.Operand.tmp 52), (2, Go.Operand.tmp 54), (3, Go.Operand.tmp 56)], type := 24, pos := "parts.go:57", after := #[{ on := 10, ground := Go.Ground.data }, { on := 12, ground := Go.Ground.data }, { on := 14, ground := Go.Ground.data }, { on := 16, ground := Go.Ground.data }, { on := 18, ground := Go.Ground.gcOnly Go.Departure.lateStores }], guard := none }) (v := ?_) rfl (by kernel_rfl) (by kernel_rfl) (by kernel_rfl) (fun _ _ _ h => h) (Or.inl ⟨by rfl, ?_⟩) (by assumption) ?_
    rotate_left
    · intro w hSw
      go_simp
      try with_reducible rfl
    try simp only [Act.put, List.setIfInBounds_toArray, List.set_cons_zero, List.set_cons_succ]
    refine wpAnyH_ready (rs := [18]) (by kernel_rfl) (by simp) ?_
    refine AllReadyH.cons (o := { dst := none, op := Go.Op.store 24 (Go.Operand.tmp 4) (Go.Operand.tmp 48), type := 0, pos := "parts.go:57", after := #[{ on := 8, ground := Go.Ground.data }, { on := 0, ground := Go.Ground.phase }, { on := 1, ground := Go.Ground.phase }, { on := 2, ground := Go.Ground.phase }, { on := 3, ground := Go.Ground.phase }, { on := 4, ground := Go.Ground.phase }, { on := 5, ground := Go.Ground.phase }, { on := 6, ground := Go.Ground.phase }, { on := 7, ground := Go.Ground.phase }, { on := 8, ground := Go.Ground.phase }, { on := 9, ground := Go.Ground.textOnly Go.Departure.lateStores }, { on := 10, ground := Go.Ground.textOnly Go.Departure.lateStores }, { on := 11, ground := Go.Ground.textOnly Go.Departure.lateStores }, { on := 12, ground := Go.Ground.textOnly Go.Departure.lateStores }, { on := 13, ground := Go.Ground.textOnly Go.Departure.lateStores }, { on := 14, ground := Go.Ground.textOnly Go.Departure.lateStores }, { on := 15, ground := Go.Ground.textOnly Go.Departure.lateStores }, { on := 16, ground := Go.Ground.textOnly Go.Departure.lateStores }, { on := 17, ground := Go.Ground.textOnly Go.Departure.lateStores }], guard := none }) rfl (fun K hK => ?_) AllReadyH.nil
    have hA1 := afterP_1 hHeld (R)
    obtain ⟨z, hz⟩ := hHeld.2.1
    have k0 := hz.cell 0 (by omega)
    have k1 := hz.cell 1 (by omega)
    have k2 := hz.cell 2 (by omega)
    have k3 := hz.cell 3 (by omega)
    have f0 := hz.frozen 0
    have f1 := hz.frozen 1
    have f2 := hz.frozen 2
    have f3 := hz.frozen 3
    clear hz
    go_simp
    refine hK.out _ _ ?_ (fun hHeld2 => ?_)
    · exact hA1.1
    clear hK K hHeld
    have hHeld := hHeld2
    clear hHeld2
    try simp only [Act.put, List.setIfInBounds_toArray, List.set_cons_zero, List.set_cons_succ]
    clear k0 k1 k2 k3 f0 f1 f2 f3
    refine wpAnyH_ready (rs := [19]) (by kernel_rfl) (by simp) ?_
    refine AllReadyH.cons (o := { dst := none, op := Go.Op.store 24 (Go.Operand.tmp 5) (Go.Operand.tmp 57), type := 0, pos := "parts.go:57", after := #[{ on := 17, ground := Go.Ground.data }, { on := 18, ground := Go.Ground.chain }, { on := 0, ground := Go.Ground.phase }, { on := 1, ground := Go.Ground.phase }, { on := 2, ground := Go.Ground.phase }, { on := 3, ground := Go.Ground.phase }, { on := 4, ground := Go.Ground.phase }, { on := 5, ground := Go.Ground.phase }, { on := 6, ground := Go.Ground.phase }, { on := 7, ground := Go.Ground.phase }, { on := 8, ground := Go.Ground.phase }, { on := 9, ground := Go.Ground.phase }, { on := 10, ground := Go.Ground.phase }, { on := 11, ground := Go.Ground.phase }, { on := 12, ground := Go.Ground.phase }, { on := 13, ground := Go.Ground.phase }, { on := 14, ground := Go.Ground.phase }, { on := 15, ground := Go.Ground.phase }, { on := 16, ground := Go.Ground.phase }, { on := 17, ground := Go.Ground.phase }, { on := 18, ground := Go.Ground.phase }], guard := none }) rfl (fun K hK => ?_) AllReadyH.nil
    have hA2 := afterP_2 hHeld (hiR R)
    obtain ⟨z, hz⟩ := hHeld.2.2.1
    have k0 := hz.cell 0 (by omega)
    have k1 := hz.cell 1 (by omega)
    have k2 := hz.cell 2 (by omega)
    have k3 := hz.cell 3 (by omega)
    have f0 := hz.frozen 0
    have f1 := hz.frozen 1
    have f2 := hz.frozen 2
    have f3 := hz.frozen 3
    clear hz
    go_simp
    refine hK.out _ _ ?_ (fun hHeld2 => ?_)
    · exact hA2.1
    clear hK K hHeld
    have hHeld := hHeld2
    clear hHeld2
    try simp only [Act.put, List.setIfInBounds_toArray, List.set_cons_zero, List.set_cons_succ]
    clear k0 k1 k2 k3 f0 f1 f2 f3
    refine wpAnyH_done (by kernel_rfl) ?_ _
    refine NoPanic.normal ?_
    have hZ1 := hA1.2.other4 (B' := N + 1 + 1 + 1) (by omega) (.int .u64 (hiR R 0)) (.int .u64 (hiR R 1)) (.int .u64 (hiR R 2)) (.int .u64 (hiR R 3))
    obtain ⟨hA4, hZ⟩ := hA2
    gi_wp2
    obtain ⟨Wb, hWb⟩ : ∃ Wb, ((((Wd.setCell ⟨N + 1 + 1, 0, none⟩ (.int .u64 (R 0))).setCell ⟨N + 1 + 1, 1, none⟩ (.int .u64 (R 1))).setCell ⟨N + 1 + 1, 2, none⟩ (.int .u64 (R 2))).setCell ⟨N + 1 + 1, 3, none⟩ (.int .u64 (R 3))) = Wb := ⟨_, rfl⟩
    rw [hWb] at hA4 hZ hZ1 ⊢
    obtain ⟨W3, hW3⟩ : ∃ W3, (((Wb.setCell ⟨N + 1 + 1 + 1, 0, none⟩ (.int .u64 (R 4))).setCell ⟨N + 1 + 1 + 1, 1, none⟩ (.int .u64 (R 5))).setCell ⟨N + 1 + 1 + 1, 2, none⟩ (.int .u64 (R 6))).setCell ⟨N + 1 + 1 + 1, 3, none⟩ (.int .u64 (R 7)) = W3 := ⟨_, rfl⟩
    change AfterP N D w R ((((Wb.setCell ⟨N + 1 + 1 + 1, 0, none⟩ (.int .u64 (R 4))).setCell ⟨N + 1 + 1 + 1, 1, none⟩ (.int .u64 (R 5))).setCell ⟨N + 1 + 1 + 1, 2, none⟩ (.int .u64 (R 6))).setCell ⟨N + 1 + 1 + 1, 3, none⟩ (.int .u64 (R 7))) at hA4
    change At4 ((((Wb.setCell ⟨N + 1 + 1 + 1, 0, none⟩ (.int .u64 (R 4))).setCell ⟨N + 1 + 1 + 1, 1, none⟩ (.int .u64 (R 5))).setCell ⟨N + 1 + 1 + 1, 2, none⟩ (.int .u64 (R 6))).setCell ⟨N + 1 + 1 + 1, 3, none⟩ (.int .u64 (R 7))) (N + 1 + 1 + 1) (hiR R) at hZ
    change At4 ((((Wb.setCell ⟨N + 1 + 1 + 1, 0, none⟩ (.int .u64 (R 4))).setCell ⟨N + 1 + 1 + 1, 1, none⟩ (.int .u64 (R 5))).setCell ⟨N + 1 + 1 + 1, 2, none⟩ (.int .u64 (R 6))).setCell ⟨N + 1 + 1 + 1, 3, none⟩ (.int .u64 (R 7))) (N + 1 + 1) R at hZ1
    rw [hW3] at hA4 hZ hZ1 ⊢
    have hK2 := hA4.2.2.2.1
    refine ⟨by simp, .inl ⟨_, _, rfl, run_takeDeferred hK2, ?_⟩⟩
    have hZ2 : At4 (W3.putObj D (.deferred none)) (N + 1 + 1) R := At4.own (N + 1 + 1) (fun (_ : Unit) => R) () _ _ _ hZ1 (grownBy_putObj' _ D (.deferred none)) (fun r e => by cases e; exact ⟨_, hK2, rfl⟩)
    have hZ3 : At4 (W3.putObj D (.deferred none)) (N + 1 + 1 + 1) (hiR R) := At4.own (N + 1 + 1 + 1) (fun (_ : Unit) => hiR R) () _ _ _ hZ (grownBy_putObj' _ D (.deferred none)) (fun r e => by cases e; exact ⟨_, hK2, rfl⟩)
    have k0 := hZ2.cell 0 (by omega)
    have k1 := hZ2.cell 1 (by omega)
    have k2 := hZ2.cell 2 (by omega)
    have k3 := hZ2.cell 3 (by omega)
    have k4 : (W3.putObj D (.deferred none)).cell? ⟨N + 1 + 1 + 1, 0, none⟩ = some (.int .u64 (R 4)) := hZ3.cell 0 (by omega)
    have k5 : (W3.putObj D (.deferred none)).cell? ⟨N + 1 + 1 + 1, 1, none⟩ = some (.int .u64 (R 5)) := hZ3.cell 1 (by omega)
    have k6 : (W3.putObj D (.deferred none)).cell? ⟨N + 1 + 1 + 1, 2, none⟩ = some (.int .u64 (R 6)) := hZ3.cell 2 (by omega)
    have k7 : (W3.putObj D (.deferred none)).cell? ⟨N + 1 + 1 + 1, 3, none⟩ = some (.int .u64 (R 7)) := hZ3.cell 3 (by omega)
    refine ⟨.tuple #[.agg #[.int .u64 (R 0), .int .u64 (R 1), .int .u64 (R 2), .int .u64 (R 3)], .agg #[.int .u64 (R 4), .int .u64 (R 5), .int .u64 (R 6), .int .u64 (R 7)]], by simp [results, Try.results55, go_sem, k0, k1, k2, k3, k4, k5, k6, k7], rfl, ?_⟩
    rw [hN]
    exact hA4.2.2.2.2.trans (belowK_b (w := W0) (by omega) _ D _ _ hD hK2 rfl rfl)
  case stop =>
    rintro D c pre W _ _ h _
    exact h.elim

end Go.Proofs.Ytecgclkjglkkbaa
