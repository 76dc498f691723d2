/- The contract of Cmp of package wide, for every input. -/
import Derived.Test.YtecgclkjglkkbaaA4
namespace Go.Proofs.Ytecgclkjglkkbaa
open Go Go.RowKit Go.Shelf
set_option linter.unusedSimpArgs false
set_option linter.unusedVariables false

attribute [local go_sem] Oper.semAt_some

def cmpStep (a b : Nat → Nat) (s : Int) (x : Fin 4) : Int := if a x.val = b x.val then s else cmpI (a x.val) (b x.val)
def cmpSt (a b : Nat → Nat) (l : List (Fin 4)) : Int := l.foldl (cmpStep a b) 0
def cmpR (a b : Nat → Nat) : Int := cmpSt (liftR a) (liftR b) (List.finRange 4)
theorem cmpSt_snoc (a b : Nat → Nat) (l : List (Fin 4)) (x : Fin 4) : cmpSt a b (l ++ [x]) = cmpStep a b (cmpSt a b l) x := by simp [cmpSt]

/-- The blocks of Cmp. -/
def Three (N : Nat) (w : World) (a b : Nat → Nat) (s : Int) (W : World) : Prop := At4 W N a ∧ At4 W (N + 1) b ∧ Boxed W (N + 1 + 1) 3 (.int .i64 s) ∧ Below N w W

theorem three_new (a b : Nat → Nat) (w : World) : Three w.heap.size w a b 0 (((w.alloc (.cells #[.int .u64 (a 0), .int .u64 (a 1), .int .u64 (a 2), .int .u64 (a 3)] 24)).alloc (.cells #[.int .u64 (b 0), .int .u64 (b 1), .int .u64 (b 2), .int .u64 (b 3)] 24)).alloc (.cells #[.int .i64 0] 3)) := by
  refine ⟨((At4.new w a).alloc _).alloc _, ?_, ?_, (((Below.refl _ w).alloc (Nat.le_refl _) _).alloc (by simp) _).alloc (by simp; omega) _⟩
  · have h := At4.new (w.alloc (.cells #[.int .u64 (a 0), .int .u64 (a 1), .int .u64 (a 2), .int .u64 (a 3)] 24)) b
    rw [World.size_alloc] at h
    exact h.alloc _
  · have h := Boxed.new ((w.alloc (.cells #[.int .u64 (a 0), .int .u64 (a 1), .int .u64 (a 2), .int .u64 (a 3)] 24)).alloc (.cells #[.int .u64 (b 0), .int .u64 (b 1), .int .u64 (b 2), .int .u64 (b 3)] 24)) 3 (.int .i64 0)
    rw [World.size_alloc, World.size_alloc] at h
    exact h
theorem three_below {N : Nat} {w W W1 : World} {a b : Nat → Nat} {s : Int} (h : Three N w a b s W) (hB : Below W.heap.size W W1) : Three N w a b s W1 :=
  ⟨h.1.below hB, h.2.1.below hB, (hB.block _ h.2.2.1.lt).trans h.2.2.1, h.2.2.2.trans (hB.mono (by have := h.1.lt; omega))⟩
theorem three_b {N : Nat} {w W : World} {a b : Nat → Nat} {s : Int} (h : Three N w a b s W) (c : Nat → Nat) :
    Three N w a c s ((((W.setCell ⟨N + 1, 0, none⟩ (.int .u64 (c 0))).setCell ⟨N + 1, 1, none⟩ (.int .u64 (c 1))).setCell ⟨N + 1, 2, none⟩ (.int .u64 (c 2))).setCell ⟨N + 1, 3, none⟩ (.int .u64 (c 3))) :=
  ⟨h.1.other4 (by omega) _ _ _ _, h.2.1.set4 c, boxed_other (boxed_other (boxed_other (boxed_other h.2.2.1 (by omega) 0 _) (by omega) 1 _) (by omega) 2 _) (by omega) 3 _, below4 h.2.2.2 (by omega) _ _ _ _⟩
theorem three_s {N : Nat} {w W : World} {a b : Nat → Nat} {s : Int} (h : Three N w a b s W) (q : Int) : Three N w a b q (W.setCell ⟨N + 1 + 1, 0, none⟩ (.int .i64 q)) :=
  ⟨h.1.other (by omega) _ _, h.2.1.other (by omega) _ _, h.2.2.1.set _, h.2.2.2.setCell (p := ⟨N + 1 + 1, 0, none⟩) (by show N ≤ N + 1 + 1; omega) _⟩
theorem three_own {β : Type} (N B : Nat) (w : World) (hN : N = w.heap.size) (hB : N ≤ B) (a b : Nat → Nat) (f : β → Int) : OwnFrom B (fun s W => Three N w a b (f s) W) :=
  OwnFrom.and (Own.from (At4.own _ (fun _ => a)) _) (OwnFrom.and (Own.from (At4.own _ (fun _ => b)) _) (OwnFrom.and (Own.from (boxed_own _ _ (fun s => .int .i64 (f s))) _) (ownFrom_below (by omega) hB)))

theorem wordsOf_x (a : Nat → Nat) (w : World) : Calls Try.prog 46 #[.agg #[.int .u64 (a 0), .int .u64 (a 1), .int .u64 (a 2), .int .u64 (a 3)]] w fun e w' => e = .returned (.func (.func 82) #[] #[.pointer (some ⟨w.heap.size, 0, none⟩)]) ∧ At4 w' w.heap.size a ∧ w'.heap.size = w.heap.size + 1 ∧ Below w.heap.size w w' := wordsOf_any a w

set_option maxRecDepth 100000 in
set_option maxHeartbeats 2000000 in
theorem cmp_x (a b : Nat → Nat) (ha : Wds a) (hb : Wds b) (w : World) :
    Calls Try.prog 24 #[.agg #[.int .u64 (a 0), .int .u64 (a 1), .int .u64 (a 2), .int .u64 (a 3)], .agg #[.int .u64 (b 0), .int .u64 (b 1), .int .u64 (b 2), .int .u64 (b 3)]] w fun e w' => e = .returned (.int .i64 (cmpR a b)) ∧ Below w.heap.size w w' := by
  unfold cmpR
  have hla := liftR_words a ha
  refine (callsIn_wide (n := 5)).1 ?_
  refine callsIn_of_wp_marks Try.func24 rfl trivial ?_ rfl
  simp only [Try.ntmps24, List.size_toArray, List.length_cons, List.length_nil, Nat.reduceAdd, Nat.reduceSub, Array.replicate_succ, Array.replicate_zero, List.push_toArray, List.append_toArray, List.nil_append, List.cons_append]
  have tok1 : True := trivial
  gi_wp2_with (first
    | (refine ⟨trivial, ?_⟩; gi_at_call 60; have _t := tok1; refine (callsIn_wide.2 (lifted_x b hb _)).mono ?_; rintro e W1 ⟨rfl, hB1⟩; clear tok1; have hT1 := three_below (three_new a b w) hB1; clear hB1; have c0 := hT1.1.cell 0 (by omega); have c1 := hT1.1.cell 1 (by omega); have c2 := hT1.1.cell 2 (by omega); have c3 := hT1.1.cell 3 (by omega); have d0 := hT1.2.1.cell 0 (by omega); have d1 := hT1.2.1.cell 1 (by omega); have d2 := hT1.2.1.cell 2 (by omega); have d3 := hT1.2.1.cell 3 (by omega); have df0 := hT1.2.1.frozen 0; have df1 := hT1.2.1.frozen 1; have df2 := hT1.2.1.frozen 2; have df3 := hT1.2.1.frozen 3; )
    | (refine ⟨trivial, ?_⟩; gi_at_call 60; refine (callsIn_wide.2 (lifted_x a ha _)).mono ?_; rintro e W2 ⟨rfl, hB2⟩)
    | (refine ⟨trivial, ?_⟩; gi_at_call 46; refine (callsIn_wide.2 (wordsOf_x (liftR a) _)).mono ?_; rintro e W3 ⟨rfl, hT, hsz, hB3⟩; have HS0 := Lib.hid hsz; clear hsz))
  have hT3 := three_below (three_below (three_b hT1 (liftR b)) hB2) hB3
  have hsz := HS0.out
  clear HS0 c0 c1 c2 c3 d0 d1 d2 d3 df0 df1 df2 df3 _t hT1 hB2
  obtain ⟨B2, hBB⟩ : ∃ B2, W2.heap.size = B2 := ⟨_, rfl⟩
  rw [hBB] at hT hsz ⊢
  clear hBB hB3
  obtain ⟨N, hN⟩ : ∃ N, w.heap.size = N := ⟨_, rfl⟩
  rw [hN] at hT3 ⊢
  have hlt0 := hT3.1.lt
  clear hsz
  refine wpIn_rangeFunc_ownG_of_H rfl (by omega) (gf := 82) (lb := #[.pointer (some ⟨B2, 0, none⟩)]) rfl trivial (enters_of Try.func82 (by kernel_rfl) rfl)
    (words_stops (5 - 1) (by omega) _ (liftR a) W3 hT) (fun _ _ => trivial) (fun _ _ _ _ _ _ _ _ => trivial) (Below.refl _ _) (fun _ => rfl)
    (fun pre W => Three N w a (liftR b) (cmpSt (liftR a) (liftR b) pre) W) (fun _ _ _ => False)
    (three_own N _ w hN.symm (by omega) a (liftR b) (cmpSt (liftR a) (liftR b))) (fun _ _ _ _ _ hs _ _ => hs) hT3
    (fun x => { tmps := #[.agg #[.int .u64 (a 0), .int .u64 (a 1), .int .u64 (a 2), .int .u64 (a 3)], .agg #[.int .u64 (b 0), .int .u64 (b 1), .int .u64 (b 2), .int .u64 (b 3)], .pointer (some ⟨N, 0, none⟩), .pointer (some ⟨N + 1, 0, none⟩), .int .i64 0, .pointer (some ⟨N + 1 + 1, 0, none⟩), .int .i64 x.val, .int .u64 (liftR a x.val), .agg #[.int .u64 (b 0), .int .u64 (b 1), .int .u64 (b 2), .int .u64 (b 3)], .agg #[.int .u64 (liftR b 0), .int .u64 (liftR b 1), .int .u64 (liftR b 2), .int .u64 (liftR b 3)], .agg #[.int .u64 (a 0), .int .u64 (a 1), .int .u64 (a 2), .int .u64 (a 3)], .agg #[.int .u64 (liftR a 0), .int .u64 (liftR a 1), .int .u64 (liftR a 2), .int .u64 (liftR a 3)], .func (.func 82) #[] #[.pointer (some ⟨B2, 0, none⟩)], .int .i64 x.val, .int .u64 (liftR a x.val), undef, undef, undef, undef, undef, undef, undef, undef, undef, undef, undef], defers := [] })
    ?assign ?body ?done ?stop (fun _ => trivial)
  case assign =>
    intro l x W K hK
    dsimp only [wenc]
    gi_wp2
    exact hK
  case body =>
    rintro l pre x W hI hlt
    obtain ⟨k, hk⟩ := x
    have hki : (k : Int) < 4 := by omega
    have c3 := hI.2.1.cell k hk
    have c7 := hI.2.2.1.cell
    have f7 := hI.2.2.1.frozen
    obtain ⟨x, hx⟩ : ∃ x, liftR a k = x := ⟨_, rfl⟩
    obtain ⟨y, hy⟩ : ∃ y, liftR b k = y := ⟨_, rfl⟩
    have H : Hid (cmpSt (liftR a) (liftR b) (pre ++ [⟨k, hk⟩]) = if x = y then cmpSt (liftR a) (liftR b) pre else cmpI x y) := Lib.hid (by rw [cmpSt_snoc]; simp only [cmpStep, hx, hy])
    dsimp only
    rw [hx]
    rw [hy] at c3
    clear hx hy
    by_cases he : x = y
    · rw [if_pos he] at H
      have h1 : ((x : Int) == (y : Int)) = true := by simp [he]
      have h2 : ((x : Int) != (y : Int)) = false := by simp [he]
      clear he
      gi_wp2
      exact ⟨KeepsFrom.refl _ _, trivial, by show Three N w a (liftR b) (cmpSt (liftR a) (liftR b) (pre ++ [⟨k, hk⟩])) _; rw [H.out]; exact hI⟩
    · rw [if_neg he] at H
      have h1 : ((x : Int) == (y : Int)) = false := by simp; omega
      have h2 : ((x : Int) != (y : Int)) = true := by simp; omega
      clear he
      gi_wp2_with (refine ⟨trivial, ?_⟩; gi_at_call 61; refine (CallsIn.inRound l (callsIn_wide.2 (compare_x x y _))).mono ?_; rintro e W' ⟨rfl, rfl⟩)
      exact ⟨(KeepsOthers.setCell _ _ _).from _, trivial, by show Three N w a (liftR b) (cmpSt (liftR a) (liftR b) (pre ++ [⟨k, hk⟩])) _; rw [H.out]; exact three_s hI _⟩
  case done =>
    rintro D ys W hD rfl hI hK
    have c7 := hI.2.2.1.cell
    gi_wp2
    refine ⟨by simp, .inl ⟨_, _, rfl, run_takeDeferred hK, ?_⟩⟩
    refine ⟨.int .i64 (cmpSt (liftR a) (liftR b) (List.finRange 4)), by simp [results, Try.results24, go_sem], rfl, ?_⟩
    rw [hN]
    exact hI.2.2.2.trans (belowK_b (w := W3) (by omega) _ D _ _ hD hK rfl rfl)
  case stop =>
    rintro D c pre W _ _ h _
    exact h.elim

end Go.Proofs.Ytecgclkjglkkbaa
