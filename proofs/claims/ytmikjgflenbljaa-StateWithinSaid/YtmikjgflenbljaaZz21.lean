/- Texts of the seat, joined. -/
import Derived.Test.YtmikjgflenbljaaZz20
/- The law StateWithin, walked. -/
namespace Go.Proofs.Ytmikjgflenbljaa
open Go Go.RowKit
set_option linter.unusedSimpArgs false
set_option linter.unusedVariables false
set_option maxRecDepth 100000

theorem at_win {P : Program} {f : Nat} {args : Value → Array Value} {L : List Bd} {v : Value} (h : AtW P f args L v) (ha : ∀ β s, renA β (args s) = args (ren β s)) (hv : wfV noB v = true) {H : Hp} {k off cap : Nat} (hk : look H k = some (win off (cwb off L))) (hl : L.length ≤ cap) (hc : cap ≤ maxLen) :
    CallsV P (.func f) (args (slw k off L.length cap)) H (rt v) H := by
  refine at_calls h ha hv (fun β w hR => ?_)
  obtain ⟨h1, h2⟩ := (hR.lies k _ hk).2.1 rfl
  exact ⟨(β k).1, off, cap, by simp only [ren, renP, shf0 h1, Nat.add_zero, capR_ne (x := β k) (cap_ne hc)], hl, hc, h2⟩
theorem sw_at (st : Int) {b1 b2 : Int} (h1 : isI b1) (h2 : isI b2) (L : List Bd) : AtW Try.prog 16 (fun s => #[sv st s, ii b1, ii b2]) L (bb (L.all (bwth b1 b2))) :=
  at_of_win (fun _ _ => rfl) rfl (fun off cap hl hc => sw_w st h1 h2 off cap L (Nat.le_trans hl hc))
theorem cwb_drop (off : Nat) (L : List Bd) {m : Nat} (hm : m = (L.flatMap fl6).length) : ((cwb off L).toList.drop off).take m = L.flatMap fl6 := by
  show ((List.replicate off ud ++ L.flatMap fl6).drop off).take m = _
  rw [List.drop_append, List.length_replicate, List.drop_eq_nil_of_le (by simp), List.nil_append, Nat.sub_self, List.drop_zero, hm, List.take_length]
theorem own_c (st : Int) (off cap : Nat) (L : List Bd) (h0 : 0 < L.length) (h9 : L.length ≤ 9) :
    CallsV Try.prog (.func 17) #[sv st (slw 1 off L.length cap)] (HWb off L) (rt (sv st (slw 3003 0 L.length capU))) [(3003, opq 6 ⟨L.flatMap fl6⟩ 42), (1, win off (cwb off L))] ∧
    CallsV Try.prog (.func 17) #[sv st (slw 1 off L.length cap)] (HWb off L) (rt (sv st (slw 4003 0 L.length capU))) [(4003, opq 6 ⟨L.flatMap fl6⟩ 42), (1, win off (cwb off L))] := by
  have hm : L.length ≤ maxLen := Nat.le_trans h9 (by decide)
  exact ⟨runF_calls mix (own_3000 st off L.length cap _ _) ⟨Nat.le_refl _, ⟨⟨h0, hm, by omega, flat_size L⟩, fl6_plain L, cwb_drop off L rfl⟩, trivial⟩ rfl rfl,
    runF_calls mix (own_4000 st off L.length cap _ _) ⟨Nat.le_refl _, ⟨⟨h0, hm, by omega, flat_size L⟩, fl6_plain L, cwb_drop off L rfl⟩, trivial⟩ rfl rfl⟩
/-- A body one of whose six numbers is another. -/
def bset (b : Bd) (z : Int) : Nat → Bd
  | 0 => ((z, b.1.2.1, b.1.2.2), b.2)
  | 1 => ((b.1.1, z, b.1.2.2), b.2)
  | 2 => ((b.1.1, b.1.2.1, z), b.2)
  | 3 => (b.1, (z, b.2.2.1, b.2.2.2))
  | 4 => (b.1, (b.2.1, z, b.2.2.2))
  | _ => (b.1, (b.2.1, b.2.2.1, z))
theorem fl6_set (b : Bd) (z : Int) : ∀ d, d < 6 → (fl6 b).set d (ii z) = fl6 (bset b z d)
  | 0, _ => rfl
  | 1, _ => rfl
  | 2, _ => rfl
  | 3, _ => rfl
  | 4, _ => rfl
  | 5, _ => rfl
  | d + 6, h => absurd h (by omega)
theorem flat_set (z : Int) {d : Nat} (hd : d < 6) : ∀ (L : List Bd) (i : Nat) (x : Bd), L[i]? = some x → (L.flatMap fl6).set (i * 6 + d) (ii z) = (L.set i (bset x z d)).flatMap fl6
  | [], i, x, h => by simp at h
  | y :: L, 0, x, h => by
    simp only [List.getElem?_cons_zero, Option.some.injEq] at h
    subst h
    rw [List.flatMap_cons, List.set_cons_zero, List.flatMap_cons, ← fl6_set y z d hd, Nat.zero_mul, Nat.zero_add, List.set_append_left]
    show d < 6
    exact hd
  | y :: L, i + 1, x, h => by
    rw [List.getElem?_cons_succ] at h
    rw [List.flatMap_cons, List.set_cons_succ, List.flatMap_cons, ← flat_set z hd L i x h, List.set_append_right _ _ (by show 6 ≤ _; omega)]
    congr 2
    show (i + 1) * 6 + d - 6 = _
    omega
theorem setC_flat (z : Int) {d : Nat} (hd : d < 6) {L : List Bd} {i : Nat} {x : Bd} (h : L[i]? = some x) : setC ⟨L.flatMap fl6⟩ (0 + i * 6 + d) [ii z] = ⟨(L.set i (bset x z d)).flatMap fl6⟩ := by
  rw [← flat_set z hd L i x h, Nat.zero_add]
  show (Array.mk (L.flatMap fl6)).setIfInBounds (i * 6 + d) (ii z) = _
  apply Array.ext'
  simp
theorem wth_mono {a : P3} {m m' : Int} (h : m ≤ m') (hw : wth a m = true) : wth a m' = true := by
  rw [wth_iff] at hw ⊢
  omega
theorem all_mono {L : List Bd} {b1 b2 c1 c2 : Int} (h1 : b1 ≤ c1) (h2 : b2 ≤ c2) (h : L.all (bwth b1 b2) = true) : L.all (bwth c1 c2) = true := by
  rw [List.all_eq_true] at h ⊢
  intro x hx
  have := h x hx
  unfold bwth at this ⊢
  rw [Bool.and_eq_true] at this ⊢
  exact ⟨wth_mono h1 this.1, wth_mono h2 this.2⟩
theorem all_set {L : List Bd} {i : Nat} {y : Bd} {p : Bd → Bool} (hi : i < L.length) (h : p y = false) : (L.set i y).all p = false := by
  cases hh : (L.set i y).all p
  · rfl
  · rw [List.all_eq_true] at hh
    have := hh y (List.mem_iff_getElem?.2 ⟨i, by simp [hi]⟩)
    rw [h] at this
    cases this
theorem far_a (x : Bd) {box top : Int} (h0 : 0 ≤ box) : ∀ r, r < 3 → bwth box top (bset x (-box - 1) r) = false := fun r hr => by
  cases h : bwth box top (bset x (-box - 1) r)
  · rfl
  · unfold bwth at h
    rw [Bool.and_eq_true, wth_iff, wth_iff] at h
    match r, hr with
    | 0, _ => simp only [bset] at h; omega
    | 1, _ => simp only [bset] at h; omega
    | 2, _ => simp only [bset] at h; omega
theorem far_b (x : Bd) {box top : Int} (h0 : 0 ≤ top) : ∀ r, r < 3 → bwth box top (bset x (top + 1) (3 + r)) = false := fun r hr => by
  cases h : bwth box top (bset x (top + 1) (3 + r))
  · rfl
  · unfold bwth at h
    rw [Bool.and_eq_true, wth_iff, wth_iff] at h
    match r, hr with
    | 0, _ => simp only [bset] at h; omega
    | 1, _ => simp only [bset] at h; omega
    | 2, _ => simp only [bset] at h; omega
/-- The law, of a list that lies in a window. -/
theorem within5_w {st box top at' part : Int} (h1 : isI box) (h2 : isI top) (h3 : isI at') (h4 : isI part) (off cap : Nat) (L : List Bd) (hl : L.length ≤ cap) (hc : cap ≤ maxLen) :
    CallsV Try.prog (.func 5) #[sv st (slw 1 off L.length cap), ii box, ii top, ii at', ii part] (HWb off L) (rt (bb true)) (HWb off L) := by
  by_cases k1 : 9 < (L.length : Int)
  · exact runF_calls mix (l5_a st box top at' part off L.length cap _) ⟨decide_eq_true k1, wakes_c, trivial⟩ rfl rfl
  have f1 : decide (9 < (L.length : Int)) = false := decide_eq_false k1
  by_cases k2 : L.length = 0
  · exact runF_calls mix (l5_b st box top at' part off L.length cap _) ⟨f1, by rw [k2]; rfl, wakes_c, trivial⟩ rfl rfl
  have f2 : ((L.length : Int) == 0) = false := by simp; exact fun e => k2 (by simp [e])
  by_cases k3 : box < 0
  · exact runF_calls mix (l5_c st box top at' part off L.length cap _) ⟨f1, f2, decide_eq_true k3, wakes_c, trivial⟩ rfl rfl
  have f3 : decide (box < 0) = false := decide_eq_false k3
  by_cases k4 : top < 0
  · exact runF_calls mix (l5_d st box top at' part off L.length cap _) ⟨f1, f2, f3, decide_eq_true k4, wakes_c, trivial⟩ rfl rfl
  have f4 : decide (top < 0) = false := decide_eq_false k4
  by_cases k5 : 1099511627776 < box
  · exact runF_calls mix (l5_e st box top at' part off L.length cap _) ⟨f1, f2, f3, f4, decide_eq_true k5, wakes_c, trivial⟩ rfl rfl
  have f5 : decide (1099511627776 < box) = false := decide_eq_false k5
  by_cases k6 : 1099511627776 < top
  · exact runF_calls mix (l5_f st box top at' part off L.length cap _) ⟨f1, f2, f3, f4, f5, decide_eq_true k6, wakes_c, trivial⟩ rfl rfl
  have f6 : decide (1099511627776 < top) = false := decide_eq_false k6
  have hlm : L.length ≤ maxLen := Nat.le_trans hl hc
  have hn : 0 < (L.length : Int) ∧ (L.length : Int) ≤ 9 := by omega
  -- what was asked
  have w0 := sw_w st h1 h2 off cap L hlm
  have e1 : wi (box + 1) = box + 1 := by unfold wi; rw [wrapI (by omega)]
  have e2 : wi (2 * top) = 2 * top := by unfold wi; rw [wrapI (by omega)]
  have w1 := sw_w st (b1 := wi (box + 1)) (b2 := top) (by rw [e1]; unfold isI; omega) h2 off cap L hlm
  have w2 := sw_w st (b1 := box) (b2 := wi (2 * top)) h1 (by rw [e2]; unfold isI; omega) off cap L hlm
  have w3 := sw_w st (b1 := 1048576) (b2 := 65536) ⟨by decide, by decide⟩ ⟨by decide, by decide⟩ off cap L hlm
  have wr : CallsV Try.prog (.func 15) #[sv st (slw 1 off L.length cap)] (HWb off L) (rt (bb (rightV st L))) (HWb off L) := at_win (right_at st L) (ren_sv st) rfl rfl hl hc
  obtain ⟨o1, o2⟩ := own_c st off cap L (by omega) (by omega)
  -- which body, which part
  have t0 := tm_b (a := at') (w := (L.length : Int)) hn.1
  have ew : wi (Int.tmod at' L.length + L.length) = Int.tmod at' L.length + L.length := by unfold wi; rw [wrapI (by omega)]
  have t1 := tm_b (a := wi (Int.tmod at' L.length + L.length)) (w := (L.length : Int)) hn.1
  have t1' : 0 ≤ Int.tmod (wi (Int.tmod at' L.length + L.length)) L.length := by
    rw [ew]
    exact Int.tmod_nonneg _ (by omega)
  have s0 := tm_b (a := part) (w := 3) (by decide)
  have ev : wi (Int.tmod part 3 + 3) = Int.tmod part 3 + 3 := by unfold wi; rw [wrapI (by omega)]
  have s1 := tm_b (a := wi (Int.tmod part 3 + 3)) (w := 3) (by decide)
  have s1' : 0 ≤ Int.tmod (wi (Int.tmod part 3 + 3)) 3 := by
    rw [ev]
    exact Int.tmod_nonneg _ (by omega)
  generalize ha0 : Int.tmod at' L.length = a0 at *
  generalize ha1 : Int.tmod (wi (a0 + L.length)) L.length = a1 at *
  generalize he0 : Int.tmod part 3 = e0 at *
  generalize hr : Int.tmod (wi (e0 + 3)) 3 = r at *
  have hi : a1.toNat < L.length := by omega
  have hx : L[a1.toNat]? = some L[a1.toNat] := List.getElem?_eq_getElem hi
  generalize L[a1.toNat] = x at hx
  have eb : wi (wi (0 - box) - 1) = -box - 1 := by unfold wi; rw [wrapI (z := 0 - box) (by omega), wrapI (by omega)]; omega
  have et : wi (top + 1) = top + 1 := by unfold wi; rw [wrapI (by omega)]
  have sz : (Array.mk (L.flatMap fl6)).size = L.length * 6 := flat_size L
  have key : ∀ (q : Nat), q < 3 → CallsV Try.prog (.func 16) #[sv st (slw 3003 0 L.length capU), ii box, ii top] [(3003, opq 6 (setC ⟨L.flatMap fl6⟩ (0 + a1.toNat * 6 + q) [ii (wi (wi (0 - box) - 1))]) 42)] (rt (bb false)) [(3003, opq 6 (setC ⟨L.flatMap fl6⟩ (0 + a1.toNat * 6 + q) [ii (wi (wi (0 - box) - 1))]) 42)] ∧
      CallsV Try.prog (.func 16) #[sv st (slw 4003 0 L.length capU), ii box, ii top] [(4003, opq 6 (setC ⟨L.flatMap fl6⟩ (0 + a1.toNat * 6 + (3 + q)) [ii (wi (top + 1))]) 42)] (rt (bb false)) [(4003, opq 6 (setC ⟨L.flatMap fl6⟩ (0 + a1.toNat * 6 + (3 + q)) [ii (wi (top + 1))]) 42)] := fun q hq => by
    rw [eb, et]
    have c1 := at_opq (sw_at st h1 h2 (L.set a1.toNat (bset x (-box - 1) q))) (fun _ _ => rfl) rfl (H := [(3003, opq 6 (setC ⟨L.flatMap fl6⟩ (0 + a1.toNat * 6 + q) [ii (-box - 1)]) 42)]) (k := 3003) rfl (setC_flat _ (by omega) hx)
    have c2 := at_opq (sw_at st h1 h2 (L.set a1.toNat (bset x (top + 1) (3 + q)))) (fun _ _ => rfl) rfl (H := [(4003, opq 6 (setC ⟨L.flatMap fl6⟩ (0 + a1.toNat * 6 + (3 + q)) [ii (top + 1)]) 42)]) (k := 4003) rfl (setC_flat _ (by omega) hx)
    rw [List.length_set, all_set hi (far_a x (by omega) q hq)] at c1
    rw [List.length_set, all_set hi (far_b x (by omega) q hq)] at c2
    exact ⟨c1, c2⟩
  have n0 : (L.length : Int) ≠ 0 := by omega
  have hix : 0 ≤ a1 ∧ a1 < (L.length : Int) := ⟨t1', t1.2⟩
  have zz : ∀ d, d < 6 → 0 + a1.toNat * 6 + d + 1 ≤ (Array.mk (L.flatMap fl6)).size := fun d hd => by rw [sz]; omega
  have rr : r = 0 ∨ r = 1 ∨ r = 2 := by omega
  cases hin : L.all (bwth box top)
  · rw [hin] at w0
    cases hq : rightV st L
    · rw [hq] at wr
      rcases rr with rfl | rfl | rfl
      · exact runF_calls mix (l5_000 st box top at' part a0 a1 e0 off L.length cap _ _) ⟨f1, f2, f3, f4, f5, f6, w0, wr, ⟨n0, ha0⟩, ⟨n0, ha1⟩, ⟨by decide, he0⟩, ⟨by decide, hr⟩, o1, o2, hix, zz 0 (by decide), hix, zz 3 (by decide), (key 0 (by decide)).1, (key 0 (by decide)).2, wakes_c, trivial⟩ rfl rfl
      · exact runF_calls mix (l5_001 st box top at' part a0 a1 e0 off L.length cap _ _) ⟨f1, f2, f3, f4, f5, f6, w0, wr, ⟨n0, ha0⟩, ⟨n0, ha1⟩, ⟨by decide, he0⟩, ⟨by decide, hr⟩, o1, o2, hix, zz 1 (by decide), hix, zz 4 (by decide), (key 1 (by decide)).1, (key 1 (by decide)).2, wakes_c, trivial⟩ rfl rfl
      · exact runF_calls mix (l5_002 st box top at' part a0 a1 e0 off L.length cap _ _) ⟨f1, f2, f3, f4, f5, f6, w0, wr, ⟨n0, ha0⟩, ⟨n0, ha1⟩, ⟨by decide, he0⟩, ⟨by decide, hr⟩, o1, o2, hix, zz 2 (by decide), hix, zz 5 (by decide), (key 2 (by decide)).1, (key 2 (by decide)).2, wakes_c, trivial⟩ rfl rfl
    · rw [hq] at wr
      have w3 : CallsV Try.prog (.func 16) #[sv st (slw 1 off L.length cap), ii 1048576, ii 65536] (HWb off L) (rt (bb true)) (HWb off L) := by
        have : L.all (bwth 1048576 65536) = true := by
          rw [List.all_eq_true]
          exact (rightV_iff.1 hq).2.2
        rw [this] at w3
        exact w3
      rcases rr with rfl | rfl | rfl
      · exact runF_calls mix (l5_010 st box top at' part a0 a1 e0 off L.length cap _ _) ⟨f1, f2, f3, f4, f5, f6, w0, wr, w3, ⟨n0, ha0⟩, ⟨n0, ha1⟩, ⟨by decide, he0⟩, ⟨by decide, hr⟩, o1, o2, hix, zz 0 (by decide), hix, zz 3 (by decide), (key 0 (by decide)).1, (key 0 (by decide)).2, wakes_c, trivial⟩ rfl rfl
      · exact runF_calls mix (l5_011 st box top at' part a0 a1 e0 off L.length cap _ _) ⟨f1, f2, f3, f4, f5, f6, w0, wr, w3, ⟨n0, ha0⟩, ⟨n0, ha1⟩, ⟨by decide, he0⟩, ⟨by decide, hr⟩, o1, o2, hix, zz 1 (by decide), hix, zz 4 (by decide), (key 1 (by decide)).1, (key 1 (by decide)).2, wakes_c, trivial⟩ rfl rfl
      · exact runF_calls mix (l5_012 st box top at' part a0 a1 e0 off L.length cap _ _) ⟨f1, f2, f3, f4, f5, f6, w0, wr, w3, ⟨n0, ha0⟩, ⟨n0, ha1⟩, ⟨by decide, he0⟩, ⟨by decide, hr⟩, o1, o2, hix, zz 2 (by decide), hix, zz 5 (by decide), (key 2 (by decide)).1, (key 2 (by decide)).2, wakes_c, trivial⟩ rfl rfl
  · rw [hin] at w0
    have w1 : CallsV Try.prog (.func 16) #[sv st (slw 1 off L.length cap), ii (wi (box + 1)), ii top] (HWb off L) (rt (bb true)) (HWb off L) := by
      have : L.all (bwth (wi (box + 1)) top) = true := by rw [e1]; exact all_mono (by omega) (Int.le_refl _) hin
      rw [this] at w1
      exact w1
    have w2 : CallsV Try.prog (.func 16) #[sv st (slw 1 off L.length cap), ii box, ii (wi (2 * top))] (HWb off L) (rt (bb true)) (HWb off L) := by
      have : L.all (bwth box (wi (2 * top))) = true := by rw [e2]; exact all_mono (Int.le_refl _) (by omega) hin
      rw [this] at w2
      exact w2
    cases hq : rightV st L
    · rw [hq] at wr
      rcases rr with rfl | rfl | rfl
      · exact runF_calls mix (l5_100 st box top at' part a0 a1 e0 off L.length cap _ _) ⟨f1, f2, f3, f4, f5, f6, w0, w1, w2, wr, ⟨n0, ha0⟩, ⟨n0, ha1⟩, ⟨by decide, he0⟩, ⟨by decide, hr⟩, o1, o2, hix, zz 0 (by decide), hix, zz 3 (by decide), (key 0 (by decide)).1, (key 0 (by decide)).2, wakes_c, trivial⟩ rfl rfl
      · exact runF_calls mix (l5_101 st box top at' part a0 a1 e0 off L.length cap _ _) ⟨f1, f2, f3, f4, f5, f6, w0, w1, w2, wr, ⟨n0, ha0⟩, ⟨n0, ha1⟩, ⟨by decide, he0⟩, ⟨by decide, hr⟩, o1, o2, hix, zz 1 (by decide), hix, zz 4 (by decide), (key 1 (by decide)).1, (key 1 (by decide)).2, wakes_c, trivial⟩ rfl rfl
      · exact runF_calls mix (l5_102 st box top at' part a0 a1 e0 off L.length cap _ _) ⟨f1, f2, f3, f4, f5, f6, w0, w1, w2, wr, ⟨n0, ha0⟩, ⟨n0, ha1⟩, ⟨by decide, he0⟩, ⟨by decide, hr⟩, o1, o2, hix, zz 2 (by decide), hix, zz 5 (by decide), (key 2 (by decide)).1, (key 2 (by decide)).2, wakes_c, trivial⟩ rfl rfl
    · rw [hq] at wr
      have w3 : CallsV Try.prog (.func 16) #[sv st (slw 1 off L.length cap), ii 1048576, ii 65536] (HWb off L) (rt (bb true)) (HWb off L) := by
        have : L.all (bwth 1048576 65536) = true := by
          rw [List.all_eq_true]
          exact (rightV_iff.1 hq).2.2
        rw [this] at w3
        exact w3
      rcases rr with rfl | rfl | rfl
      · exact runF_calls mix (l5_110 st box top at' part a0 a1 e0 off L.length cap _ _) ⟨f1, f2, f3, f4, f5, f6, w0, w1, w2, wr, w3, ⟨n0, ha0⟩, ⟨n0, ha1⟩, ⟨by decide, he0⟩, ⟨by decide, hr⟩, o1, o2, hix, zz 0 (by decide), hix, zz 3 (by decide), (key 0 (by decide)).1, (key 0 (by decide)).2, wakes_c, trivial⟩ rfl rfl
      · exact runF_calls mix (l5_111 st box top at' part a0 a1 e0 off L.length cap _ _) ⟨f1, f2, f3, f4, f5, f6, w0, w1, w2, wr, w3, ⟨n0, ha0⟩, ⟨n0, ha1⟩, ⟨by decide, he0⟩, ⟨by decide, hr⟩, o1, o2, hix, zz 1 (by decide), hix, zz 4 (by decide), (key 1 (by decide)).1, (key 1 (by decide)).2, wakes_c, trivial⟩ rfl rfl
      · exact runF_calls mix (l5_112 st box top at' part a0 a1 e0 off L.length cap _ _) ⟨f1, f2, f3, f4, f5, f6, w0, w1, w2, wr, w3, ⟨n0, ha0⟩, ⟨n0, ha1⟩, ⟨by decide, he0⟩, ⟨by decide, hr⟩, o1, o2, hix, zz 2 (by decide), hix, zz 5 (by decide), (key 2 (by decide)).1, (key 2 (by decide)).2, wakes_c, trivial⟩ rfl rfl
theorem within5_nil (st box top at' part : Int) : PureX Try.prog 5 #[sv st sl0, ii box, ii top, ii at', ii part] (rt (bb true)) := runF_pure mix (l5_nil st box top at' part) ⟨wakes_c, trivial⟩ rfl rfl
theorem within5_at {st box top at' part : Int} (h1 : isI box) (h2 : isI top) (h3 : isI at') (h4 : isI part) (L : List Bd) : AtW Try.prog 5 (fun s => #[sv st s, ii box, ii top, ii at', ii part]) L (bb true) :=
  at_of_win (fun _ _ => rfl) rfl (fun off cap hl hc => within5_w h1 h2 h3 h4 off cap L hl hc)
end Go.Proofs.Ytmikjgflenbljaa
