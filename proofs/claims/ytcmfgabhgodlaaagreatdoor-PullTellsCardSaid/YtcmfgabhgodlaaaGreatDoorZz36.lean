/- Texts of the seat, joined. -/
import Derived.Test.YtcmfgabhgodlaaaGreatDoorZz35
/- The document's whole roots: the walk. -/
namespace Go.Proofs.YtcmfgabhgodlaaaGreatDoor
open Go Go.RowKit
set_option linter.unusedSimpArgs false
set_option linter.unusedVariables false
set_option maxRecDepth 100000

theorem WB_val {x p : Nat} (hx : x < Mw) (hp : p < 256) (hm : x % 2 ^ (p + 1) = 0) {a b c d : Nat} (h0 : a < 18446744073709551616) (h1 : b < 18446744073709551616) (h2 : c < 18446744073709551616) (h3 : d < 18446744073709551616) (hv : nvl [a, b, c, d] = x) : WB a b c d p = wv (x + 2 ^ p) := by
  obtain ⟨q, hq⟩ : ∃ q, p = 64 * (p / 64) + p % 64 ∧ q = p % 64 := ⟨_, (Nat.div_add_mod _ _).symm, rfl⟩
  have hb : p % 64 < 64 := Nat.mod_lt _ (by omega)
  have hps := pow_split hq.1
  -- the words below are none, the word's own low bits too
  have key : ∀ j, p / 64 = j → x % (18446744073709551616 ^ j * 2 ^ (p % 64 + 1)) = 0 := fun j hj => by
    have := hm
    rw [show p + 1 = 64 * j + (p % 64 + 1) by omega, Nat.pow_add, Nat.pow_mul] at this
    exact this
  have low : ∀ (lo hi P Q : Nat), lo < P → 0 < P → (lo + P * hi) % (P * Q) = 0 → lo = 0 ∧ hi % Q = 0 := fun lo hi P Q hl hP h => by
    have h4 : (lo + P * hi) % P = 0 := Nat.mod_eq_zero_of_dvd (Nat.dvd_trans (Nat.dvd_mul_right P Q) (Nat.dvd_of_mod_eq_zero h))
    rw [Nat.add_mul_mod_self_left, Nat.mod_eq_of_lt hl] at h4
    subst h4
    rw [Nat.zero_add, Nat.mul_mod_mul_left] at h
    exact ⟨rfl, (Nat.mul_eq_zero.1 h).resolve_left (by omega)⟩
  have hj : p / 64 = 0 ∨ p / 64 = 1 ∨ p / 64 = 2 ∨ p / 64 = 3 := by omega
  have word : ∀ (y Q r : Nat), (y + 18446744073709551616 * r) % Q = 0 → (∃ z, 18446744073709551616 = Q * z) → y % Q = 0 := fun y Q r h ⟨z, hz⟩ => by
    rw [hz, Nat.mul_assoc, Nat.add_mul_mod_self_left] at h
    exact h
  have hQ : ∃ z, 18446744073709551616 = 2 ^ (p % 64 + 1) * z := ⟨2 ^ (63 - p % 64), by rw [← Nat.pow_add, show p % 64 + 1 + (63 - p % 64) = 64 by omega]⟩
  unfold WB
  generalize p % 64 = bb' at *
  rw [hps]
  rcases hj with hj | hj | hj | hj <;> rw [hj] <;> simp only <;> have kk := key _ hj
  · rw [Nat.pow_zero, Nat.one_mul] at kk ⊢
    rw [← hv, nvl] at kk
    obtain ⟨o1, o2⟩ := orB_eq h0 hb (word _ _ _ kk hQ)
    rw [o1]
    have hz : nvl [a + 2 ^ bb', b, c, d] = x + 2 ^ bb' := by rw [← hv]; simp only [nvl]; omega
    rw [← hz, wv_nvl o2 h1 h2 h3]
    rfl
  · have e2 : x = nvl [a] + 18446744073709551616 ^ 1 * nvl [b, c, d] := by rw [← hv]; exact nvl_append [a] [b, c, d]
    rw [e2] at kk
    obtain ⟨-, k2⟩ := low _ _ _ _ (by rw [nvl_one]; simpa using h0) (Nat.pow_pos (by omega)) kk
    rw [nvl] at k2
    obtain ⟨o1, o2⟩ := orB_eq h1 hb (word _ _ _ k2 hQ)
    rw [o1]
    have hz : nvl [a, b + 2 ^ bb', c, d] = x + 18446744073709551616 ^ 1 * 2 ^ bb' := by rw [← hv]; simp only [nvl, Nat.pow_one]; omega
    rw [← hz, wv_nvl h0 o2 h2 h3]
    rfl
  · have e2 : x = nvl [a, b] + 18446744073709551616 ^ 2 * nvl [c, d] := by rw [← hv]; exact nvl_append [a, b] [c, d]
    rw [e2] at kk
    obtain ⟨-, k2⟩ := low _ _ _ _ (nvl_lt [a, b] (sm_cons h0 (sm_cons h1 sm_nil))) (Nat.pow_pos (by omega)) kk
    rw [nvl] at k2
    obtain ⟨o1, o2⟩ := orB_eq h2 hb (word _ _ _ k2 hQ)
    rw [o1]
    have hz : nvl [a, b, c + 2 ^ bb', d] = x + 18446744073709551616 ^ 2 * 2 ^ bb' := by rw [← hv]; simp only [nvl, show (18446744073709551616 : Nat) ^ 2 = 340282366920938463463374607431768211456 from rfl]; omega
    rw [← hz, wv_nvl h0 h1 o2 h3]
    rfl
  · have e2 : x = nvl [a, b, c] + 18446744073709551616 ^ 3 * nvl [d] := by rw [← hv]; exact nvl_append [a, b, c] [d]
    rw [e2] at kk
    obtain ⟨-, k2⟩ := low _ _ _ _ (nvl_lt [a, b, c] (sm_cons h0 (sm_cons h1 (sm_cons h2 sm_nil)))) (Nat.pow_pos (by omega)) kk
    rw [nvl_one] at k2
    obtain ⟨o1, o2⟩ := orB_eq h3 hb k2
    rw [o1]
    have hz : nvl [a, b, c, d + 2 ^ bb'] = x + 18446744073709551616 ^ 3 * 2 ^ bb' := by rw [← hv]; simp only [nvl, show (18446744073709551616 : Nat) ^ 3 = 6277101735386680763835789423207666416102355444464034512896 from rfl]; omega
    rw [← hz, wv_nvl h0 h1 h2 o2]
    rfl

theorem loopV {a : Nat} (ha : a < 57896044618658097711785492504343953926634992332820282019728792003956564819968) : ∀ (m F : Nat) (X : Nat → Value), InvR a F m → PL X → ∃ r Y, LoopI Tryz.prog VL (HVe a 0) r (TF a ((m : Int) - 1) X) (HVf a F) (.exit 0) (TF a (-1) Y) (HVf a (fin a F m))
  | 0, F, X, h, hX => by
    have hd : ∀ i, domB (HVe a 0) i = true → domB (HVf a F) i = true := fun i hi => by
      obtain ⟨e, he, rfl⟩ := memK _ i hi
      simp only [HVe, List.mem_cons, List.not_mem_nil, or_false] at he
      rcases he with rfl | rfl | rfl <;> rfl
    have s := runNS_step mix (vq_f a F (-1) X) ⟨rfl, trivial⟩
    exact ⟨1, _, LoopI.last hd s⟩
  | m + 1, F, X, h, hX => by
    have hm := h.top
    have hd : ∀ i, domB (HVe a 0) i = true → domB (HVf a F) i = true := fun i hi => by
      obtain ⟨e, he, rfl⟩ := memK _ i hi
      simp only [HVe, List.mem_cons, List.not_mem_nil, or_false] at he
      rcases he with rfl | rfl | rfl <;> rfl
    have hF : F < 340282366920938463463374607431768211456 := by
      refine Nat.lt_of_not_le (fun hc => ?_)
      have h2 : 340282366920938463463374607431768211456 * 340282366920938463463374607431768211456 ≤ F * F := Nat.mul_le_mul hc hc
      have h3 := h.low
      omega
    have hp : 2 ^ m ≤ 170141183460469231731687303715884105728 := Nat.le_trans (Nat.pow_le_pow_right (by decide) (show m ≤ 127 by omega)) (by decide)
    have hk : (((m + 1 : Nat) : Int) - 1) = Int.ofNat m := by show _ = (m : Int); omega
    have hw : IntKind.i64.wrap (Int.ofNat m - 1) = (m : Int) - 1 := wrap_small (by show -9223372036854775808 ≤ (m : Int) - 1 ∧ (m : Int) - 1 < 9223372036854775808; omega)
    rw [hk]
    obtain ⟨x0, x1, x2, x3, e, w0, w1, w2, w3, hv⟩ := lc_words (x := F) (Nat.lt_trans hF (by decide))
    generalize hX1 : ovr X [(16, i6 (Int.ofNat m)), (17, bb (decide (0 ≤ Int.ofNat m)))] = X1
    have p1 : PL X1 := hX1 ▸ PL.ovr hX rfl
    generalize hX2 : ovr X1 [(20, wv F)] = X2
    have p2 : PL X2 := hX2 ▸ PL.ovr p1 rfl
    have s1 := runNS_step mix (vq_t a F (Int.ofNat m) X) ⟨decide_eq_true (show (0 : Int) ≤ (m : Int) by omega), trivial⟩
    rw [hX1] at s1
    have s2 := runNS_step mix (vq_7 a F (Int.ofNat m) X1) trivial
    rw [hX2] at s2
    have r3 := vb_all a F x0 x1 x2 x3 X2 m (by omega)
    unfold BitAt at r3
    rw [← e, WB_val (Nat.lt_trans hF (by decide)) (by omega) h.div w0 w1 w2 w3 hv] at r3
    have s3 := runNS_step mix r3 trivial
    have p3 : PL (ovr X2 (bx x0 x1 m)) := PL.ovr p2 (by
      unfold bx
      have : ∀ q : Nat, plB [(26, match q with | 0 => u x0 | _ => u x1), (30, match q with | 0 => orB x0 (m % 64) | _ => orB x1 (m % 64))] = true := fun q => by cases q <;> rfl
      have h4 := this (m / 64)
      simp only [plB, List.all_cons, List.all_nil, Bool.and_true, Bool.and_eq_true] at h4 ⊢
      exact ⟨rfl, rfl, rfl, rfl, rfl, h4.1, rfl, rfl, rfl, h4.2, rfl⟩)
    have q25 : ∀ l, (∀ e ∈ l, e.1 ≠ 25 ∧ e.1 ≠ 31) → ovr (ovr X2 (bx x0 x1 m)) l 25 = pto 4000 (m / 64) ∧ ovr (ovr X2 (bx x0 x1 m)) l 31 = pto 4000 (m / 64) := by
      intro l
      induction l with
      | nil => intro _; exact ⟨rfl, rfl⟩
      | cons e l ih =>
        intro hl
        have h5 := ih (fun e he => hl e (List.mem_cons_of_mem _ he))
        have h6 := hl e (List.mem_cons_self ..)
        have b1 : Nat.beq 25 e.1 = false := by
          cases hb : Nat.beq 25 e.1
          · rfl
          · exact absurd (Nat.eq_of_beq_eq_true hb).symm h6.1
        have b2 : Nat.beq 31 e.1 = false := by
          cases hb : Nat.beq 31 e.1
          · rfl
          · exact absurd (Nat.eq_of_beq_eq_true hb).symm h6.2
        unfold ovr
        rw [b1, b2]
        exact h5
    generalize ovr X2 (bx x0 x1 m) = X3 at s3 p3 q25
    have hx : F + 2 ^ m < 57896044618658097711785492504343953926634992332820282019728792003956564819968 := by omega
    have hmul := rmul_z (inN hx) (inN hx)
    rw [← wz_nat, show ((F + 2 ^ m : Nat) : Int) * ((F + 2 ^ m : Nat) : Int) = (((F + 2 ^ m) * (F + 2 ^ m) : Nat) : Int) by simp, ← wz_nat] at hmul
    have toP : ∀ (l : List (Nat × Value)) (i : Int), (∀ e ∈ l, e.1 ≠ 25 ∧ e.1 ≠ 31) → ∀ l2, (∀ e ∈ l2, e.1 ≠ 25 ∧ e.1 ≠ 31) → TK a i (ovr (ovr X3 l) l2) = TP 4000 4001 a i (m / 64) (ovr (ovr X3 l) l2) := fun l i hl l2 hl2 => by
      have : ∀ l2, (∀ e ∈ l2, e.1 ≠ 25 ∧ e.1 ≠ 31) → ovr (ovr X3 l) l2 25 = pto 4000 (m / 64) ∧ ovr (ovr X3 l) l2 31 = pto 4000 (m / 64) := by
        intro l2
        induction l2 with
        | nil => intro _; exact q25 l hl
        | cons e l2 ih =>
          intro hl
          have h5 := ih (fun e he => hl e (List.mem_cons_of_mem _ he))
          have h6 := hl e (List.mem_cons_self ..)
          have b1 : Nat.beq 25 e.1 = false := by
            cases hb : Nat.beq 25 e.1
            · rfl
            · exact absurd (Nat.eq_of_beq_eq_true hb).symm h6.1
          have b2 : Nat.beq 31 e.1 = false := by
            cases hb : Nat.beq 31 e.1
            · rfl
            · exact absurd (Nat.eq_of_beq_eq_true hb).symm h6.2
          unfold ovr
          rw [b1, b2]
          exact h5
      have h7 := this l2 hl2
      unfold TK TP
      rw [h7.1, h7.2]
    have toF : ∀ (i : Int) (Z : Nat → Value), TP 5000 5001 a i (m / 64) Z = TF a i (ovr Z [(6, ptr 5000), (7, ptr 5001), (25, pto 5000 (m / 64)), (31, pto 5000 (m / 64))]) := fun i Z => rfl
    unfold fin
    have pi : ∀ {Z}, PL Z → PL (ovr Z (xiv (Int.ofNat m))) := fun h => PL.ovr h rfl
    have ni : ∀ e ∈ xiv (Int.ofNat m), e.1 ≠ 25 ∧ e.1 ≠ 31 := by
      intro e he
      simp only [xiv, List.mem_cons, List.not_mem_nil, or_false] at he
      rcases he with rfl | rfl <;> exact ⟨Nat.ne_of_beq_eq_false rfl, Nat.ne_of_beq_eq_false rfl⟩
    generalize hs : (F + 2 ^ m) * (F + 2 ^ m) = s at hmul
    by_cases ho : s < 57896044618658097711785492504343953926634992332820282019728792003956564819968
    · rw [decide_eq_false (by unfold inR; omega)] at hmul
      obtain ⟨c, hC, hc⟩ := cmp_nat ho ha
      have nn : ∀ e ∈ xnv a (F + 2 ^ m) s c, e.1 ≠ 25 ∧ e.1 ≠ 31 := by
        intro e he
        simp only [xnv, List.mem_cons, List.not_mem_nil, or_false] at he
        rcases he with rfl | rfl | rfl | rfl | rfl | rfl | rfl | rfl | rfl | rfl | rfl | rfl | rfl | rfl | rfl <;> exact ⟨Nat.ne_of_beq_eq_false rfl, Nat.ne_of_beq_eq_false rfl⟩
      by_cases hle : s ≤ a
      · have eb : bitF a F m = F + 2 ^ m := if_pos (by rw [hs]; exact hle)
        rw [eb]
        have ny : ∀ e ∈ ((46, wv (F + 2 ^ m)) :: xnv a (F + 2 ^ m) s c), e.1 ≠ 25 ∧ e.1 ≠ 31 := by
          intro e he
          rcases List.mem_cons.1 he with rfl | he
          · exact ⟨Nat.ne_of_beq_eq_false rfl, Nat.ne_of_beq_eq_false rfl⟩
          · exact nn e he
        have s4 := runNS_step mix (vq_y a F (F + 2 ^ m) s (Int.ofNat m) c X3) ⟨hmul, hC, decide_eq_true (by omega), trivial⟩
        have s5 := runNS_step mix (vq_j a (F + 2 ^ m) (F + 2 ^ m) s (Int.ofNat m) (ovr X3 ((46, wv (F + 2 ^ m)) :: xnv a (F + 2 ^ m) s c))) trivial
        rw [hw, toP _ _ ny _ ni] at s5
        have hn := h.next
        rw [eb] at hn
        have p4 : PL (ovr (ovr X3 ((46, wv (F + 2 ^ m)) :: xnv a (F + 2 ^ m) s c)) (xiv (Int.ofNat m))) := pi (PL.ovr p3 rfl)
        obtain ⟨r, Y, hL⟩ := loopV ha m (F + 2 ^ m) _ hn (PL.ovr (l := [(6, ptr 5000), (7, ptr 5001), (25, pto 5000 (m / 64)), (31, pto 5000 (m / 64))]) p4 rfl)
        rw [← toF] at hL
        have st := StepV.seq s1 (StepV.seq (StepV.blockn (id := 1) (StepV.seq s2 (StepV.seq s3 s4))) s5)
        rw [← VL_eq] at st
        exact ⟨r + 1, Y, LoopI.round hd st (ren_vs p4 _ _ _ _ _ _) hL⟩
      · have eb : bitF a F m = F := if_neg (by rw [hs]; exact hle)
        rw [eb]
        have s4 := runNS_step mix (vq_n a F (F + 2 ^ m) s (Int.ofNat m) c X3) ⟨hmul, hC, decide_eq_false (by omega), trivial⟩
        have s5 := runNS_step mix (vq_i a F (F + 2 ^ m) s (Int.ofNat m) (ovr X3 (xnv a (F + 2 ^ m) s c))) trivial
        rw [hw, toP _ _ nn _ ni] at s5
        have hn := h.next
        rw [eb] at hn
        have p4 : PL (ovr (ovr X3 (xnv a (F + 2 ^ m) s c)) (xiv (Int.ofNat m))) := pi (PL.ovr p3 rfl)
        obtain ⟨r, Y, hL⟩ := loopV ha m F _ hn (PL.ovr (l := [(6, ptr 5000), (7, ptr 5001), (25, pto 5000 (m / 64)), (31, pto 5000 (m / 64))]) p4 rfl)
        rw [← toF] at hL
        have st := StepV.seq s1 (StepV.seq (StepV.blockn (id := 1) (StepV.seq s2 (StepV.seq s3 s4))) s5)
        rw [← VL_eq] at st
        exact ⟨r + 1, Y, LoopI.round hd st (ren_vn p4 _ _ _ _ _ _) hL⟩
    · rw [decide_eq_true (by unfold inR; omega)] at hmul
      have eb : bitF a F m = F := if_neg (by rw [hs]; omega)
      rw [eb]
      have no : ∀ e ∈ xov (F + 2 ^ m) s, e.1 ≠ 25 ∧ e.1 ≠ 31 := by
        intro e he
        simp only [xov, List.mem_cons, List.not_mem_nil, or_false] at he
        rcases he with rfl | rfl | rfl | rfl | rfl | rfl | rfl | rfl | rfl | rfl | rfl | rfl | rfl | rfl | rfl <;> exact ⟨Nat.ne_of_beq_eq_false rfl, Nat.ne_of_beq_eq_false rfl⟩
      have s4 := runNS_step mix (vq_o a F (F + 2 ^ m) s (Int.ofNat m) X3) ⟨hmul, trivial⟩
      have s5 := runNS_step mix (vq_i a F (F + 2 ^ m) s (Int.ofNat m) (ovr X3 (xov (F + 2 ^ m) s))) trivial
      rw [hw, toP _ _ no _ ni] at s5
      have hn := h.next
      rw [eb] at hn
      have p4 : PL (ovr (ovr X3 (xov (F + 2 ^ m) s)) (xiv (Int.ofNat m))) := pi (PL.ovr p3 rfl)
      obtain ⟨r, Y, hL⟩ := loopV ha m F _ hn (PL.ovr (l := [(6, ptr 5000), (7, ptr 5001), (25, pto 5000 (m / 64)), (31, pto 5000 (m / 64))]) p4 rfl)
      rw [← toF] at hL
      have st := StepV.seq s1 (StepV.seq (StepV.blockn (id := 1) (StepV.seq s2 (StepV.seq s3 s4))) s5)
      rw [← VL_eq] at st
      exact ⟨r + 1, Y, LoopI.round hd st (ren_vn p4 _ _ _ _ _ _) hL⟩

theorem perm_v (a : Nat) (i : Nat) : look (HVe a 0) i = look [(3002, pw 0), (3001, pw 0), (3000, pw a)] i :=
  look_eq (G := HVe a 0) (H := [(3002, pw 0), (3001, pw 0), (3000, pw a)]) ⟨rfl, rfl, rfl, trivial⟩ ⟨rfl, rfl, rfl, trivial⟩ i
/-- The document's whole root. -/
theorem droot_ok {a : Nat} (ha : a < 57896044618658097711785492504343953926634992332820282019728792003956564819968) : PureX Tryz.prog 60 #[wv a] (rt (tp [wv (isq a), i6 0])) := by
  obtain ⟨L, hL, hc⟩ := len_doc (a := a) (Nat.lt_trans ha (by decide))
  have hL2 : L ≤ 255 := by
    rcases hL with ⟨_, rfl⟩ | ⟨h1, h2, h3, h4⟩
    · decide
    · rcases Nat.lt_or_ge L 256 with h5 | h5
      · omega
      · have h6 : 2 ^ 255 ≤ 2 ^ (L - 1) := Nat.pow_le_pow_right (by decide) (by omega)
        have h7 : (2 : Nat) ^ 255 = 57896044618658097711785492504343953926634992332820282019728792003956564819968 := by decide
        omega
  have hup : a < 2 ^ (L / 2 + 1) * 2 ^ (L / 2 + 1) := by
    rw [← Nat.pow_add]
    rcases hL with ⟨rfl, rfl⟩ | ⟨h1, h2, h3, h4⟩
    · decide
    · exact Nat.lt_of_lt_of_le h4 (Nat.pow_le_pow_right (by decide) (by omega))
  have hinv : InvR a 0 (L / 2 + 1) := ⟨ha, by omega, Nat.zero_mod _, Nat.zero_le _, by rw [Nat.zero_add]; exact hup⟩
  have hs := rsign_z (inN ha)
  rw [← wz_nat] at hs
  generalize hg : (a : Int).sign = g at hs
  have hg0 : decide (g < 0) = false := by
    rw [← hg]
    rcases Nat.eq_zero_or_pos a with h | h
    · subst h; rfl
    · rw [Int.sign_eq_one_of_pos (by omega)]; rfl
  have e1 : IntKind.i64.wrap (Int.ofNat (L / 2)) = ((L / 2 + 1 : Nat) : Int) - 1 := by
    rw [wrap_small (by show -9223372036854775808 ≤ ((L / 2 : Nat) : Int) ∧ ((L / 2 : Nat) : Int) < 9223372036854775808; omega)]
    show ((L / 2 : Nat) : Int) = _
    omega
  have s3 := runNS_step mix (vq_3 a L g (decide (g < 0))) ⟨hc, trivial⟩
  rw [e1] at s3
  have s3' := s3.perm (perm_v a)
  have pX : PL (XV0 a L g (decide (g < 0))) := by
    unfold XV0
    exact PL.ovr (fun j hj => rfl) rfl
  obtain ⟨r, Y, hl⟩ := loopV ha (L / 2 + 1) 0 _ hinv pX
  have hf := InvR.fin _ _ hinv
  have hv : fin a 0 (L / 2 + 1) = isq a := by
    have h8 := hf.high
    rw [Nat.pow_zero] at h8
    exact (isq_is ha hf.low h8).symm
  rw [hv] at hl
  have hd : ∀ i, domB (HVe a 0) i = true → domB (HVf a (isq a)) i = true := fun i hi => by
    obtain ⟨e, he, rfl⟩ := memK _ i hi
    simp only [HVe, List.mem_cons, List.not_mem_nil, or_false] at he
    rcases he with rfl | rfl | rfl <;> rfl
  have lp := (LoopI.loop hd (LoopI.pre (ren_v0 a L g _ _) hl)).block
  obtain ⟨T, H, hE, hres⟩ := vq_e a (isq a) (-1) Y
  have hw := StepV.seq (runNS_step mix (vq_0 a) trivial) (StepV.seq (runNS_step mix (vq_1 a g) ⟨hs, hg0, trivial⟩) (StepV.seq (runNS_step mix (vq_2 a g (decide (g < 0))) trivial) (StepV.seq (StepV.seq s3' lp) (runNS_step mix hE trivial))))
  exact CallsV.pure (callsV_step Tryz.func60 b105_eq hw rfl hres rfl (fun _ _ h => by cases h) rfl) rfl rfl
theorem dfl_z {x : Nat} (hx : x < 57896044618658097711785492504343953926634992332820282019728792003956564819968) : PureX Tryz.prog 60 #[wz (x : Int)] (rt (tp [wz (isq x : Int), .int .i64 0])) := by
  have h := droot_ok hx
  rw [wz_nat, wz_nat] at h
  exact h
theorem dfl_neg {a : Int} (ha : inR a) (h : a < 0) : PureX Tryz.prog 60 #[wz a] (rt (tp [wz 0, .int .i64 2])) := by
  have hs := rsign_z ha
  rw [Int.sign_eq_neg_one_of_neg h] at hs
  exact runB_pure mix (vq_neg (nz a) (-1)) ⟨hs, rfl, trivial⟩ rfl rfl

end Go.Proofs.YtcmfgabhgodlaaaGreatDoor
