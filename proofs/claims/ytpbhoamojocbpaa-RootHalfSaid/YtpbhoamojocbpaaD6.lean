/- One digit of a quotient, wherever it is: from what takes away and gives back. -/
import Derived.Test.YtpbhoamojocbpaaD5
namespace Go.Proofs.Ytpbhoamojocbpaa
open Go Go.RowKit
set_option linter.unusedSimpArgs false
set_option linter.unusedVariables false

theorem CallsV.perm {P : Program} {f : Nat} {args : Array Value} {H H' G : Hp} {r : Res} (h : CallsV P (.func f) args H r H') (hl : ∀ i, look G i = look H' i) : CallsV P (.func f) args H r G := by
  intro β w hR
  refine (h β w hR).mono ?_
  rintro e w' ⟨β', hb, he, hR'⟩
  exact ⟨β', hb, he, hR'.congr (fun _ _ => rfl) hl⟩
theorem HD_HE (x v : List Nat) (i : Nat) : look (HD x v) i = look (HE x v) i := by
  simp only [HD, HE, look]
  by_cases h5 : 1005 = i
  · have h6 : 1006 ≠ i := by omega
    rw [if_neg h6, if_pos h5, if_pos h5]
  · rw [if_neg h5, if_neg h5]

def itsOf (q : Nat) : List Nat → List Nat → List (Nat × Nat × Nat)
  | w :: r, v :: vs => (w, v * q / 18446744073709551616, v * q % 18446744073709551616) :: itsOf q r vs
  | _, _ => []
theorem itsOf_fine {q : Nat} (hq : q < 18446744073709551616) : ∀ (x v : List Nat), sm64 x → sm64 v → fineI (itsOf q x v)
  | [], v, _, _ => by cases v <;> exact fun _ h => (by cases h)
  | w :: r, [], _, _ => fun _ h => (by cases h)
  | w :: r, v :: vs, hx, hv => by
    intro e he
    rcases List.mem_cons.1 he with rfl | he
    · have h1 := hv v List.mem_cons_self
      have h2 : v * q ≤ 340282366920938463426481119284349108225 := Nat.mul_le_mul (Nat.le_of_lt_succ h1) (Nat.le_of_lt_succ hq)
      refine ⟨hx w List.mem_cons_self, Nat.mod_lt _ (Nat.succ_pos _), ?_⟩
      simp only
      omega
    · exact itsOf_fine hq r vs (fun y hy => hx y (List.mem_cons_of_mem _ hy)) (fun y hy => hv y (List.mem_cons_of_mem _ hy)) e he
theorem itsOf_pv {q : Nat} : ∀ (x v : List Nat), x.length = v.length → pvI (itsOf q x v) = q * nvl v
  | [], [], _ => by simp [itsOf, pvI, nvl]
  | [], _ :: _, h => by simp at h
  | _ :: _, [], h => by simp at h
  | w :: r, v :: vs, h => by
    simp only [itsOf, pvI, nvl]
    rw [itsOf_pv r vs (by simpa using h), Nat.mul_add, Nat.mul_left_comm q, Nat.mul_comm q v]
    omega
theorem itsOf_fst {q : Nat} : ∀ (x v : List Nat), x.length = v.length → (itsOf q x v).map (·.1) = x ∧ (itsOf q x v).length = x.length
  | [], [], _ => ⟨rfl, rfl⟩
  | [], _ :: _, h => by simp at h
  | _ :: _, [], h => by simp at h
  | w :: r, v :: vs, h => by
    obtain ⟨h1, h2⟩ := itsOf_fst (q := q) r vs (by simpa using h)
    simp only [itsOf, List.map_cons, List.length_cons, h1, h2]
    exact ⟨trivial, trivial⟩
theorem taO_le {q : Nat} {x v : List Nat} (hq : q < 18446744073709551616) (hx : sm64 x) (hv : sm64 v) : decide (1 < taO (itsOf q x v) 0 0) = false := by
  have := (ta_all (itsOf q x v) 0 0 (itsOf_fine hq x v hx hv) (by omega) (by omega)).2.2.1
  exact decide_eq_false (by omega)
theorem pbO_le : ∀ (x v : List Nat) (c : Nat), sm64 x → sm64 v → c ≤ 1 → pbO x v c ≤ 1
  | [], v, c, _, _, hc => by cases v <;> exact hc
  | w :: r, [], c, _, _, hc => hc
  | w :: r, v :: vs, c, hx, hv, hc => by
    rw [pbO]
    have h1 := hx w List.mem_cons_self
    have h2 := hv v List.mem_cons_self
    exact pbO_le r vs _ (fun y hy => hx y (List.mem_cons_of_mem _ hy)) (fun y hy => hv y (List.mem_cons_of_mem _ hy)) (by omega)
theorem pbO_le' {x v : List Nat} (hx : sm64 x) (hv : sm64 v) : decide (1 < pbO x v 0) = false := by
  have := pbO_le x v 0 hx hv (by omega)
  exact decide_eq_false (by omega)

section
variable {P : Program} {args : Array Value} {H0 : Hp} {pre post v : List Nat}
theorem tac_of {x vs : List Nat} {top q k : Nat} (hq : q < 18446744073709551616) (hx : sm64 x) (hv : sm64 vs) (ht : top < 18446744073709551616) (hl : x.length = vs.length) (hk : x.length = k)
    (hc : CallsV P (.func 139) args H0 (rt (bb (Int.ofNat (tkB (itsOf q x vs) top) != 0))) (HE (pre ++ tkW (itsOf q x vs) top ++ post) v)) :
    ∃ A B, A < 18446744073709551616 ^ (k + 1) ∧ B ≤ 1 ∧ A + q * nvl vs = nvl (x ++ [top]) + B * 18446744073709551616 ^ (k + 1) ∧
      CallsV P (.func 139) args H0 (rt (bb (Int.ofNat B != 0))) (HD (pre ++ ws (k + 1) A ++ post) v) := by
  obtain ⟨k1, k2, k3, k4⟩ := tk_all (itsOf_fine hq x vs hx hv) ht
  obtain ⟨e1, e2⟩ := itsOf_fst (q := q) x vs hl
  rw [itsOf_pv x vs hl, e1, e2, hk] at k1
  rw [e2, hk] at k4
  have h5 := nvl_lt _ k3
  have h6 := ws_nvl _ k3
  rw [k4] at h5 h6
  exact ⟨_, _, h5, k2, k1, by rw [h6]; exact hc.perm (HD_HE _ _)⟩
theorem pbc_of {x vs : List Nat} {k : Nat} (hx : sm64 x) (hv : sm64 vs) (hl : x.length = vs.length + 1) (hk : vs.length = k)
    (hc : CallsV P (.func 140) args H0 (rt (bb (Int.ofNat (pbC x vs 0) != 0))) (HE (pre ++ pbW x vs 0 ++ post) v)) :
    ∃ A C, A < 18446744073709551616 ^ (k + 1) ∧ C ≤ 1 ∧ A + C * 18446744073709551616 ^ (k + 1) = nvl x + nvl vs ∧
      CallsV P (.func 140) args H0 (rt (bb (Int.ofNat C != 0))) (HD (pre ++ ws (k + 1) A ++ post) v) := by
  obtain ⟨k1, k2, k3, k4⟩ := pb_all x vs 0 hx hv (by omega) hl
  have hk2 : x.length = k + 1 := by omega
  rw [hk2] at k1 k4
  have h5 := nvl_lt _ k3
  have h6 := ws_nvl _ k3
  rw [k4] at h5 h6
  exact ⟨_, _, h5, k2, k1, by rw [h6]; exact hc.perm (HD_HE _ _)⟩

theorem dec1_u {q : Nat} (hq : q + 1 < 18446744073709551616) : dec1 (u (q + 1)) = u q := by
  unfold dec1 u
  simp only
  congr 1
  rw [IntKind.wrap_u64]
  show (((q + 1 : Nat) : Int) - 1) % 18446744073709551616 = (q : Int)
  omega

/-- One digit. -/
theorem dig_of {a a9 : Array Value} {rep : Nat → List Nat} {X V q T : Nat}
    (h139 : ∃ A B, A < T ∧ B ≤ 1 ∧ A + q * V = X + B * T ∧ CallsV P (.func 139) a9 H0 (rt (bb (Int.ofNat B != 0))) (HD (rep A) v))
    (h140 : ∀ A, A < T → ∃ A2 C, A2 < T ∧ C ≤ 1 ∧ A2 + C * T = A + V ∧ CallsV P (.func 140) a (HD (rep A) v) (rt (bb (Int.ofNat C != 0))) (HD (rep A2) v))
    (d0 : ∀ A, CallsV P (.func 139) a9 H0 (rt (bb false)) (HD (rep A) v) → CallsV P (.func 126) a H0 (rt (u q)) (HD (rep A) v))
    (d1 : ∀ A A2, CallsV P (.func 139) a9 H0 (rt (bb true)) (HD (rep A) v) → CallsV P (.func 140) a (HD (rep A) v) (rt (bb true)) (HD (rep A2) v) → CallsV P (.func 126) a H0 (rt (dec1 (u q))) (HD (rep A2) v))
    (d2 : ∀ A A2 A3, CallsV P (.func 139) a9 H0 (rt (bb true)) (HD (rep A) v) → CallsV P (.func 140) a (HD (rep A) v) (rt (bb false)) (HD (rep A2) v) → CallsV P (.func 140) a (HD (rep A2) v) (rt (bb true)) (HD (rep A3) v) → CallsV P (.func 126) a H0 (rt (dec1 (dec1 (u q)))) (HD (rep A3) v))
    (hq1 : X / V ≤ q) (hq2 : q ≤ X / V + 2) (hq3 : q < 18446744073709551616) (hV : 0 < V) (hVT : V < T) :
    CallsV P (.func 126) a H0 (rt (u (X / V))) (HD (rep (X % V)) v) := by
  obtain ⟨A, B, hA, hB, hAB, hc⟩ := h139
  have hle : ∀ D z : Nat, D < z + 1 → D = z ∨ D < z := fun D z h => by omega
  have hpos : ∀ D z : Nat, D < z → ∃ y, z = y + 1 := fun D z h => ⟨z - 1, by omega⟩
  have hsq : ∀ D z : Nat, D < z + 1 → z + 1 + 1 ≤ D + 2 → z = D := fun D z h1 h2 => by omega
  rcases Nat.eq_or_lt_of_le hq1 with h | h
  · obtain ⟨rfl, rfl⟩ := dig_zero hAB hB hA h.symm hV
    rw [h]
    exact d0 _ hc
  · have hB1 := dig_more hAB hB hA h hV
    subst hB1
    rw [Nat.one_mul] at hAB
    obtain ⟨q', rfl⟩ := hpos _ _ h
    obtain ⟨A2, C, hA2, hC, hAC, hc2⟩ := h140 A hA
    obtain ⟨g1, g2⟩ := dig_back hAB hAC hC hA2 hV hVT
    rcases hle _ _ h with h' | h'
    · obtain ⟨rfl, rfl⟩ := g1 h'.symm
      rw [h', ← dec1_u hq3]
      exact d1 _ _ hc hc2
    · obtain ⟨rfl, hAB2⟩ := g2 h'
      obtain ⟨q2, rfl⟩ := hpos _ _ h'
      obtain ⟨A3, C3, hA3, hC3, hAC3, hc3⟩ := h140 A2 hA2
      obtain ⟨g3, -⟩ := dig_back hAB2 hAC3 hC3 hA3 hV hVT
      have hq2' : q2 = X / V := hsq _ _ h' hq2
      obtain ⟨rfl, rfl⟩ := g3 hq2'
      rw [← hq2', ← dec1_u (q := q2) (by omega), ← dec1_u hq3]
      exact d2 _ _ _ hc hc2 hc3
end

theorem guess_c {h l y : Nat} (hy : 9223372036854775808 ≤ y) (hy2 : y < 18446744073709551616) (hh : h < 18446744073709551616) (hl : l < 18446744073709551616) : PureX Try.prog 138 #[u h, u l, u y] (rt (u (gq h l y))) := by
  intro w
  refine (guess_x h l y hy hy2 hh hl w).mono ?_
  rintro e w' ⟨rfl, hB⟩
  exact ⟨rfl, hB⟩

/-- The guess, by the words of X and V. -/
theorem gq_both {xl vl' : List Nat} {h l y : Nat} (hx : sm64 xl) (hv : sm64 vl') (hlen : xl.length = vl'.length) (hl : l < 18446744073709551616) (hy : 9223372036854775808 ≤ y)
    (hlt : nvl (xl ++ [l, h]) < nvl (vl' ++ [y]) * 18446744073709551616) :
    nvl (xl ++ [l, h]) / nvl (vl' ++ [y]) ≤ gq h l y ∧ gq h l y ≤ nvl (xl ++ [l, h]) / nvl (vl' ++ [y]) + 2 ∧ 0 < nvl (vl' ++ [y]) := by
  have e1 : nvl (xl ++ [l, h]) = (h * 18446744073709551616 + l) * 18446744073709551616 ^ xl.length + nvl xl := by
    rw [nvl_append]
    simp only [nvl, Nat.mul_zero, Nat.add_zero]
    rw [Nat.mul_comm (_ ^ _), Nat.add_comm, Nat.add_comm l, Nat.mul_comm 18446744073709551616 h]
  have e2 : nvl (vl' ++ [y]) = y * 18446744073709551616 ^ xl.length + nvl vl' := by
    rw [nvl_append, nvl_one, hlen, Nat.mul_comm (_ ^ _), Nat.add_comm]
  have hX := nvl_lt xl hx
  have hV := nvl_lt vl' hv
  rw [← hlen] at hV
  have hP : 0 < 18446744073709551616 ^ xl.length := Nat.pow_pos (by omega)
  rw [e1, e2] at hlt ⊢
  refine ⟨gq_ge hP hy hX hV hlt, gq_le hP hy hl hV, ?_⟩
  have := Nat.mul_pos (show 0 < y by omega) hP
  omega

end Go.Proofs.Ytpbhoamojocbpaa
