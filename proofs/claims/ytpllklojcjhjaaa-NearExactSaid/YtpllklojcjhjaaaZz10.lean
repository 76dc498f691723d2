/- Texts of the seat, joined. -/
import Derived.Shelf.Small.Bits
import Derived.Test.YtpllklojcjhjaaaProg
import Derived.Test.YtpllklojcjhjaaaZz4
import Derived.Test.YtpllklojcjhjaaaZz9
import Derived.Lib.ItoaNum
/- The library contracts at this program (LeadingZeros64, Len64), for every input: each one application of a theorem of the library. -/
namespace Go.Proofs
open Go.Shelf
def Try.lays129_ren : Go.Shelf.Ren := ⟨fun | 129 => 93 | n => n, fun | 53 => 54 | 3 => 3 | 4 => 4 | 46 => 92 | 5 => 5 | 9 => 9 | n => n, fun | n => n⟩
theorem Try.lays129 : Go.Proofs.Lays.n129 Try.prog Try.lays129_ren := {
  mixed := by kernel_rfl
  f129 := Try.func93.trans (congrArg some (by kernel_rfl))
  t3 := Try.underlying3
  a3 := Try.isAgg3
  z3 := Try.sizeOf3
  v3 := Try.zeroValue3
  t4 := Try.underlying4
  a4 := Try.isAgg4
  z4 := Try.sizeOf4
  v4 := Try.zeroValue4
  t5 := Try.underlying5
  a5 := Try.isAgg5
  z5 := Try.sizeOf5
  v5 := Try.zeroValue5
  t9 := Try.underlying9
  a9 := Try.isAgg9
  z9 := Try.sizeOf9
  v9 := Try.zeroValue9
  t46 := Try.underlying92
  a46 := Try.isAgg92
  z46 := Try.sizeOf92
  v46 := Try.zeroValue92
  t53 := Try.underlying54
  a53 := Try.isAgg54
  z53 := Try.sizeOf54
  v53 := Try.zeroValue54 }
theorem Try.bits_Len64 (x : Int) (w : World) (h0 : 0 ≤ x) (h1 : x ≤ 18446744073709551615) :
    Calls Try.prog 93 #[.int .u64 x] w fun e w' => e = .returned (.int .i64 (Lib.bitLen x.toNat)) ∧ w' = w := Any.bits_Len64 Try.lays129 x w h0 h1
end Go.Proofs

/- Mathematics of numbers by words: what takes away, what gives back, one digit of a quotient. -/
namespace Go.Proofs.Ytpllklojcjhjaaa
set_option linter.unusedSimpArgs false
set_option linter.unusedVariables false

/-- A number by its words, the lowest first. -/
def nvl : List Nat → Nat
  | [] => 0
  | x :: r => x + 18446744073709551616 * nvl r
def ws : Nat → Nat → List Nat
  | 0, _ => []
  | k + 1, x => x % 18446744073709551616 :: ws k (x / 18446744073709551616)
def sm64 (l : List Nat) : Prop := ∀ x ∈ l, x < 18446744073709551616
theorem nvl_lt : ∀ l, sm64 l → nvl l < 18446744073709551616 ^ l.length
  | [], _ => by simp [nvl]
  | x :: r, h => by
    have h1 := h x List.mem_cons_self
    have h2 := nvl_lt r (fun y hy => h y (List.mem_cons_of_mem _ hy))
    simp only [nvl, List.length_cons, Nat.pow_succ]
    omega
theorem ws_nvl : ∀ l, sm64 l → ws l.length (nvl l) = l
  | [], _ => rfl
  | x :: r, h => by
    have h1 := h x List.mem_cons_self
    have h2 := ws_nvl r (fun y hy => h y (List.mem_cons_of_mem _ hy))
    simp only [nvl, List.length_cons, ws]
    rw [Nat.add_mul_mod_self_left, Nat.mod_eq_of_lt h1, Nat.add_mul_div_left _ _ (by omega), Nat.div_eq_of_lt h1, Nat.zero_add, h2]
theorem nvl_inj {l m : List Nat} (hl : sm64 l) (hm : sm64 m) (hn : l.length = m.length) (h : nvl l = nvl m) : l = m := by
  rw [← ws_nvl l hl, ← ws_nvl m hm, hn, h]
theorem nvl_ws : ∀ k x, x < 18446744073709551616 ^ k → nvl (ws k x) = x
  | 0, x, h => by simp at h; simp [ws, nvl, h]
  | k + 1, x, h => by
    simp only [ws, nvl]
    rw [nvl_ws k _ (by rw [Nat.pow_succ] at h; exact Nat.div_lt_of_lt_mul (by rw [Nat.mul_comm]; exact h))]
    omega
theorem ws_sm : ∀ k x, sm64 (ws k x)
  | 0, _ => fun _ h => (by cases h)
  | k + 1, x => fun y hy => by
    rcases List.mem_cons.1 hy with rfl | hy
    · omega
    · exact ws_sm k _ y hy
theorem ws_len : ∀ k x, (ws k x).length = k
  | 0, _ => rfl
  | k + 1, x => by rw [ws, List.length_cons, ws_len k]
theorem nvl_append : ∀ l m, nvl (l ++ m) = nvl l + 18446744073709551616 ^ l.length * nvl m
  | [], m => by simp [nvl]
  | x :: r, m => by
    simp only [List.cons_append, nvl, nvl_append r m, List.length_cons, Nat.pow_succ]
    rw [Nat.mul_add, ← Nat.mul_assoc, Nat.mul_comm 18446744073709551616 (_ ^ _)]
    omega

/-- q times v taken away, word by word: the word, and q times v's word, high and low. -/
def taC : List (Nat × Nat × Nat) → Nat → Nat
  | [], c => c
  | (_, h, l) :: r, c => taC r ((h + (l + c + 0) / 18446744073709551616) % 18446744073709551616)
def taO : List (Nat × Nat × Nat) → Nat → Nat → Nat
  | [], _, b => b
  | (w, h, l) :: r, c, b => taO r ((h + (l + c + 0) / 18446744073709551616) % 18446744073709551616) (if w < (l + c + 0) % 18446744073709551616 + b then 1 else 0)
def taL : List (Nat × Nat × Nat) → Nat → Nat → List Nat
  | [], _, _ => []
  | (w, h, l) :: r, c, b => (w + 18446744073709551616 - (l + c + 0) % 18446744073709551616 - b) % 18446744073709551616 :: taL r ((h + (l + c + 0) / 18446744073709551616) % 18446744073709551616) (if w < (l + c + 0) % 18446744073709551616 + b then 1 else 0)
def tkW (its : List (Nat × Nat × Nat)) (top : Nat) : List Nat := taL its 0 0 ++ [(top + 18446744073709551616 - taC its 0 - taO its 0 0) % 18446744073709551616]
def tkB (its : List (Nat × Nat × Nat)) (top : Nat) : Nat := if top < taC its 0 + taO its 0 0 then 1 else 0
/-- v given back, word by word. -/
def pbW : List Nat → List Nat → Nat → List Nat
  | w :: r, v :: vs, c => (w + v + c) % 18446744073709551616 :: pbW r vs ((w + v + c) / 18446744073709551616)
  | w :: _, [], c => [(w + 0 + c) % 18446744073709551616]
  | [], _, _ => []
def pbC : List Nat → List Nat → Nat → Nat
  | w :: r, v :: vs, c => pbC r vs ((w + v + c) / 18446744073709551616)
  | w :: _, [], c => (w + 0 + c) / 18446744073709551616
  | [], _, c => c

def pvI : List (Nat × Nat × Nat) → Nat
  | [] => 0
  | (_, h, l) :: r => l + h * 18446744073709551616 + 18446744073709551616 * pvI r
def fineI (its : List (Nat × Nat × Nat)) : Prop := ∀ e ∈ its, e.1 < 18446744073709551616 ∧ e.2.2 < 18446744073709551616 ∧ e.2.1 ≤ 18446744073709551614
theorem ta_step {w h l c b : Nat} (hw : w < 18446744073709551616) (hl : l < 18446744073709551616) (hh : h ≤ 18446744073709551614) (hc : c < 18446744073709551616) (hb : b ≤ 1) :
    (w + 18446744073709551616 - (l + c + 0) % 18446744073709551616 - b) % 18446744073709551616 + (l + h * 18446744073709551616) + c + b = w + ((h + (l + c + 0) / 18446744073709551616) % 18446744073709551616 + (if w < (l + c + 0) % 18446744073709551616 + b then 1 else 0)) * 18446744073709551616 := by
  split <;> omega
theorem ta_all : ∀ (its : List (Nat × Nat × Nat)) (c b : Nat), fineI its → c < 18446744073709551616 → b ≤ 1 →
    nvl (taL its c b) + pvI its + c + b = nvl (its.map (·.1)) + (taC its c + taO its c b) * 18446744073709551616 ^ its.length ∧ taC its c < 18446744073709551616 ∧ taO its c b ≤ 1 ∧ sm64 (taL its c b) ∧ (taL its c b).length = its.length
  | [], c, b, _, hc, hb => by simp [taL, taC, taO, nvl, pvI, sm64]; omega
  | (w, h, l) :: r, c, b, hf, hc, hb => by
    obtain ⟨h1, h2, h3⟩ := hf (w, h, l) List.mem_cons_self
    simp only at h1 h2 h3
    have hs := ta_step h1 h2 h3 hc hb
    simp only [taL, taC, taO, nvl, pvI, List.map_cons, List.length_cons]
    have hb' : (if w < (l + c + 0) % 18446744073709551616 + b then 1 else 0) ≤ 1 := by split <;> omega
    have hc' : (h + (l + c + 0) / 18446744073709551616) % 18446744073709551616 < 18446744073709551616 := Nat.mod_lt _ (by omega)
    have hw' : (w + 18446744073709551616 - (l + c + 0) % 18446744073709551616 - b) % 18446744073709551616 < 18446744073709551616 := Nat.mod_lt _ (by omega)
    generalize (w + 18446744073709551616 - (l + c + 0) % 18446744073709551616 - b) % 18446744073709551616 = w' at *
    generalize (h + (l + c + 0) / 18446744073709551616) % 18446744073709551616 = c' at *
    generalize (if w < (l + c + 0) % 18446744073709551616 + b then 1 else 0) = b' at *
    obtain ⟨k1, k2, k3, k4, k5⟩ := ta_all r c' b' (fun e he => hf e (List.mem_cons_of_mem _ he)) hc' hb'
    refine ⟨?_, k2, k3, fun x hx => ?_, by rw [k5]⟩
    · rw [Nat.pow_succ, ← Nat.mul_assoc]
      generalize (taC r c' + taO r c' b') * 18446744073709551616 ^ r.length = Z at *
      generalize nvl (taL r c' b') = R at *
      generalize pvI r = p at *
      generalize nvl (r.map (·.1)) = W at *
      omega
    · rcases List.mem_cons.1 hx with rfl | hx
      · exact hw'
      · exact k4 x hx
theorem ta_top {top C O : Nat} (ht : top < 18446744073709551616) (hC : C < 18446744073709551616) (hO : O ≤ 1) :
    (top + 18446744073709551616 - C - O) % 18446744073709551616 + C + O = top + (if top < C + O then 1 else 0) * 18446744073709551616 ∧ (if top < C + O then 1 else 0) ≤ 1 := by
  split <;> omega
theorem ta_join {t C O B top T p W P : Nat} (e : t + C + O = top + B * 18446744073709551616) (k : T + p = W + (C + O) * P) : T + P * t + p = W + P * top + B * (P * 18446744073709551616) := by
  have e2 := congrArg (· * P) e
  simp only [Nat.add_mul] at e2 k
  rw [Nat.mul_comm P t, Nat.mul_comm P top, Nat.mul_comm P 18446744073709551616, ← Nat.mul_assoc]
  omega
theorem nvl_one (t : Nat) : nvl [t] = t := by rw [nvl, nvl, Nat.mul_zero, Nat.add_zero]
theorem tk_all {its : List (Nat × Nat × Nat)} {top : Nat} (hf : fineI its) (ht : top < 18446744073709551616) :
    nvl (tkW its top) + pvI its = nvl (its.map (·.1) ++ [top]) + tkB its top * 18446744073709551616 ^ (its.length + 1) ∧ tkB its top ≤ 1 ∧ sm64 (tkW its top) ∧ (tkW its top).length = its.length + 1 := by
  obtain ⟨k1, k2, k3, k4, k5⟩ := ta_all its 0 0 hf (by omega) (by omega)
  obtain ⟨e1, e2⟩ := ta_top ht k2 k3
  refine ⟨?_, e2, fun x hx => ?_, by unfold tkW; rw [List.length_append, k5]; rfl⟩
  · unfold tkW tkB
    rw [nvl_append, nvl_append, k5, List.length_map, Nat.pow_succ, nvl_one, nvl_one]
    exact ta_join e1 k1
  · unfold tkW at hx
    rw [List.mem_append, List.mem_singleton] at hx
    rcases hx with hx | hx
    · exact k4 x hx
    · rw [hx]; exact Nat.mod_lt _ (Nat.succ_pos _)
theorem pb_all : ∀ (x v : List Nat) (c : Nat), sm64 x → sm64 v → c ≤ 1 → x.length = v.length + 1 →
    nvl (pbW x v c) + pbC x v c * 18446744073709551616 ^ x.length = nvl x + nvl v + c ∧ pbC x v c ≤ 1 ∧ sm64 (pbW x v c) ∧ (pbW x v c).length = x.length
  | [], v, c, _, _, _, hl => by simp at hl
  | w :: r, [], c, hx, _, hc, hl => by
    have hr : r = [] := by simpa using hl
    subst hr
    have h1 := hx w List.mem_cons_self
    simp only [pbW, pbC, nvl, List.length_cons, List.length_nil]
    refine ⟨by omega, by omega, fun y hy => ?_, trivial⟩
    rw [List.mem_singleton] at hy
    subst hy
    exact Nat.mod_lt _ (by omega)
  | w :: r, v :: vs, c, hx, hv, hc, hl => by
    have h1 := hx w List.mem_cons_self
    have h2 := hv v List.mem_cons_self
    have hc' : (w + v + c) / 18446744073709551616 ≤ 1 := by omega
    have hs : (w + v + c) % 18446744073709551616 + (w + v + c) / 18446744073709551616 * 18446744073709551616 = w + v + c := by omega
    have hw' : (w + v + c) % 18446744073709551616 < 18446744073709551616 := Nat.mod_lt _ (by omega)
    simp only [pbW, pbC, nvl, List.length_cons]
    generalize (w + v + c) % 18446744073709551616 = w' at *
    generalize (w + v + c) / 18446744073709551616 = c' at *
    obtain ⟨k1, k2, k3, k4⟩ := pb_all r vs c' (fun e he => hx e (List.mem_cons_of_mem _ he)) (fun e he => hv e (List.mem_cons_of_mem _ he)) hc' (by simpa using hl)
    refine ⟨?_, k2, fun x hx => ?_, by rw [k4]⟩
    · rw [Nat.pow_succ, ← Nat.mul_assoc]
      generalize pbC r vs c' * 18446744073709551616 ^ r.length = Z at *
      generalize nvl (pbW r vs c') = R at *
      generalize nvl r = p at *
      generalize nvl vs = W at *
      omega
    · rcases List.mem_cons.1 hx with rfl | hx
      · exact hw'
      · exact k3 x hx

/-- A guess of a digit. -/
def gq (h l y : Nat) : Nat := if y ≤ h then 18446744073709551615 else (h * 18446744073709551616 + l) / y
theorem gq_lt {h l y : Nat} (hy : 9223372036854775808 ≤ y) (hl : l < 18446744073709551616) : gq h l y < 18446744073709551616 := by
  unfold gq
  split
  · omega
  · rw [Nat.div_lt_iff_lt_mul (by omega)]
    omega
/-- The guess: never too small, at most two too great. X = H P + X', V = y P + V'. -/
theorem gq_ge {h l y P X' V' : Nat} (hP : 0 < P) (hy : 9223372036854775808 ≤ y) (hX' : X' < P) (hV' : V' < P) (hlt : (h * 18446744073709551616 + l) * P + X' < (y * P + V') * 18446744073709551616) :
    ((h * 18446744073709551616 + l) * P + X') / (y * P + V') ≤ gq h l y := by
  have hVp : 0 < y * P + V' := by have := Nat.mul_pos (show 0 < y by omega) hP; omega
  unfold gq
  split
  · have : ((h * 18446744073709551616 + l) * P + X') / (y * P + V') < 18446744073709551616 := by rw [Nat.div_lt_iff_lt_mul hVp, Nat.mul_comm 18446744073709551616]; exact hlt
    omega
  · rw [Nat.le_div_iff_mul_le (by omega)]
    generalize hX : (h * 18446744073709551616 + l) * P + X' = X at *
    generalize hV : y * P + V' = V at *
    have h1 : X / V * V ≤ X := Nat.div_mul_le_self _ _
    have h2 : X / V * (y * P) ≤ X := Nat.le_trans (Nat.mul_le_mul_left _ (by omega)) h1
    rw [← Nat.mul_assoc] at h2
    generalize h * 18446744073709551616 + l = b at *
    generalize X / V * y = a at *
    have h4 : a * P < (b + 1) * P := by rw [Nat.add_mul, Nat.one_mul]; omega
    have := Nat.lt_of_mul_lt_mul_right h4
    omega
theorem gq_le {h l y P X' V' : Nat} (hP : 0 < P) (hy : 9223372036854775808 ≤ y) (hl : l < 18446744073709551616) (hV' : V' < P) : gq h l y ≤ ((h * 18446744073709551616 + l) * P + X') / (y * P + V') + 2 := by
  have hVp : 0 < y * P + V' := by have := Nat.mul_pos (show 0 < y by omega) hP; omega
  have hg := gq_lt (h := h) (l := l) hy hl
  have h1 : gq h l y * y ≤ h * 18446744073709551616 + l := by
    unfold gq
    split
    · omega
    · exact Nat.div_mul_le_self _ _
  generalize gq h l y = q at *
  generalize h * 18446744073709551616 + l = H at *
  have h2 : q * y * P ≤ H * P := Nat.mul_le_mul_right _ h1
  have h3 : q * V' ≤ 18446744073709551616 * P := Nat.mul_le_mul (by omega) (by omega)
  have h4 : 9223372036854775808 * P ≤ y * P := Nat.mul_le_mul_right _ hy
  have h5 : q * (y * P + V') ≤ H * P + X' + 2 * (y * P + V') := by
    rw [Nat.mul_add, ← Nat.mul_assoc]
    omega
  rcases Nat.lt_or_ge q 2 with h6 | h6
  · exact Nat.le_trans (show q ≤ 2 by omega) (Nat.le_add_left _ _)
  · obtain ⟨k, rfl⟩ : ∃ k, q = k + 2 := ⟨q - 2, by omega⟩
    have h7 : k * (y * P + V') + 2 * (y * P + V') ≤ H * P + X' + 2 * (y * P + V') := by rw [← Nat.add_mul]; exact h5
    have : k ≤ (H * P + X') / (y * P + V') := by rw [Nat.le_div_iff_mul_le hVp]; exact Nat.le_of_add_le_add_right h7
    exact Nat.add_le_add_right this 2
/-- How often is given back, by what the guess is too great. -/
theorem dig_zero {X V q W B T : Nat} (h : W + q * V = X + B * T) (hB : B ≤ 1) (hW : W < T) (hq : q = X / V) (hV : 0 < V) : B = 0 ∧ W = X % V := by
  subst hq
  have := Nat.div_add_mod' X V
  rcases (show B = 0 ∨ B = 1 by omega) with rfl | rfl
  · exact ⟨rfl, by omega⟩
  · omega
theorem dig_more {X V q W B T : Nat} (h : W + q * V = X + B * T) (hB : B ≤ 1) (hW : W < T) (hq : X / V < q) (hV : 0 < V) : B = 1 := by
  rcases (show B = 0 ∨ B = 1 by omega) with rfl | rfl
  · have h1 : X < q * V := (Nat.div_lt_iff_lt_mul hV).1 hq
    omega
  · rfl
theorem dig_back {X V q W W2 C T : Nat} (h : W + (q + 1) * V = X + T) (h2 : W2 + C * T = W + V) (hC : C ≤ 1) (hW : W2 < T) (hV : 0 < V) (hVT : V < T) :
    (q = X / V → C = 1 ∧ W2 = X % V) ∧ (X / V < q → C = 0 ∧ W2 + q * V = X + T) := by
  have hd := Nat.div_add_mod' X V
  rw [Nat.add_mul, Nat.one_mul] at h
  refine ⟨fun hq => ?_, fun hq => ?_⟩
  · subst hq
    rcases (show C = 0 ∨ C = 1 by omega) with rfl | rfl
    · have := Nat.mod_lt X hV
      omega
    · exact ⟨rfl, by omega⟩
  · have h1 : X < q * V := (Nat.div_lt_iff_lt_mul hV).1 hq
    rcases (show C = 0 ∨ C = 1 by omega) with rfl | rfl
    · exact ⟨rfl, by omega⟩
    · omega

end Go.Proofs.Ytpllklojcjhjaaa

/- The contract of math/bits.Div64 where the divisor has its highest bit. -/
namespace Go.Proofs.Ytpllklojcjhjaaa
open Go Go.RowKit Go.Shelf
set_option linter.unusedSimpArgs false
set_option linter.unusedVariables false

attribute [local go_sem] Oper.semAt_some

theorem bitLen_top (x : Nat) (h : 9223372036854775808 ≤ x) (h2 : x < 18446744073709551616) : Lib.bitLen x = 64 := by
  obtain ⟨a, b, c⟩ := Lib.bitLenAux_bounds 64 x h2 (by omega)
  have d : Lib.bitLenAux 64 x ≤ 64 := by
    rcases Nat.lt_or_ge 64 (Lib.bitLenAux 64 x) with h3 | h3
    · have : 2 ^ 64 ≤ 2 ^ (Lib.bitLenAux 64 x - 1) := Nat.pow_le_pow_right (by omega) (by omega)
      omega
    · exact h3
  have e : 64 ≤ Lib.bitLenAux 64 x := by
    rcases Nat.lt_or_ge (Lib.bitLenAux 64 x) 64 with h3 | h3
    · have : 2 ^ (Lib.bitLenAux 64 x) ≤ 2 ^ 63 := Nat.pow_le_pow_right (by omega) (by omega)
      omega
    · exact h3
  show Lib.bitLenAux 64 x = 64
  omega

/-- What a round of Div64 goes on with. -/
theorem div_le {q a b r h u y N : Nat} (hy : y = a * 4294967296 + b) (hN : N = h * 4294967296 + u) (hq : q * a + r = h) (hc : q * b ≤ 4294967296 * r + u) : q * y ≤ N := by
  subst hy hN hq
  have e : q * (a * 4294967296 + b) = q * a * 4294967296 + q * b := by rw [Nat.mul_add, Nat.mul_assoc]
  rw [e]
  omega
theorem div_gt {q a b r h u y N : Nat} (hy : y = a * 4294967296 + b) (hN : N = h * 4294967296 + u) (hq : q * a + r = h) (hc : 4294967296 * r + u < q * b) : N < q * y := by
  subst hy hN hq
  have e : q * (a * 4294967296 + b) = q * a * 4294967296 + q * b := by rw [Nat.mul_add, Nat.mul_assoc]
  rw [e]
  omega
theorem div_start {a b h u y N : Nat} (hy : y = a * 4294967296 + b) (ha : 0 < a) (hu : u < 4294967296) (hN : N = h * 4294967296 + u) : N / y ≤ h / a := by
  rw [Nat.le_div_iff_mul_le ha]
  have h1 : N / y * y ≤ N := Nat.div_mul_le_self _ _
  have h2 : N / y * (a * 4294967296) ≤ N / y * y := Nat.mul_le_mul_left _ (by omega)
  rw [← Nat.mul_assoc] at h2
  omega

/-- One half of the quotient: behind a break. -/
theorem div_break {q a b r h u y N : Nat} (hy : y = a * 4294967296 + b) (hN : N = h * 4294967296 + u) (hq : q * a + r = h) (hr : 4294967296 ≤ r) (hb : b < 4294967296) (hq2 : q ≤ 4294967296) : q * y ≤ N := by
  refine div_le hy hN hq ?_
  have h1 : q * b ≤ 4294967296 * 4294967295 := Nat.mul_le_mul hq2 (by omega)
  omega
theorem or_zero64 (x : Nat) (hx : x < 18446744073709551616) (z : Int) (hz : z = 0) : bits BinOp.or IntKind.u64 (x : Int) z = (x : Int) := by
  subst hz
  have h := bits_or_u64_nat x 0 hx (by omega)
  rw [Nat.or_zero] at h
  exact h

end Go.Proofs.Ytpllklojcjhjaaa

/- The contracts of Div64, where the divisor has its highest bit, and of guess. -/
namespace Go.Proofs.Ytpllklojcjhjaaa
open Go Go.RowKit Go.Shelf
set_option linter.unusedSimpArgs false
set_option linter.unusedVariables false

theorem tle_of {N y k : Nat} (hy : 0 < y) (h : k * y ≤ N) : k ≤ N / y := (Nat.le_div_iff_mul_le hy).2 h
theorem tlt_of {N y k : Nat} (hy : 0 < y) (h : N < k * y) : N / y < k := (Nat.div_lt_iff_lt_mul hy).2 h
theorem q_bound {h a b y : Nat} (ha : 2147483648 ≤ a) (hb : b < 4294967296) (hy : y = a * 4294967296 + b) (hh : h < y) : h / a ≤ 4294967297 := by
  have h1 : h / a < 4294967298 := by
    rw [Nat.div_lt_iff_lt_mul (by omega)]
    omega
  omega
theorem letters_eq (h u1 u0 P R K L : Nat) (hL : L = K * K) (h1 : h * K + u1 = P + R) : h * L + (u1 * K + u0) = (R * K + u0) + P * K := by
  have h2 : (h * K + u1) * K = (P + R) * K := by rw [h1]
  rw [Nat.add_mul, Nat.add_mul, Nat.mul_assoc] at h2
  rw [hL]
  generalize h * (K * K) = a at *
  generalize u1 * K = b at *
  generalize P * K = c at *
  generalize R * K = d at *
  omega
theorem div_parts {hi lo y u0 u1 R1 : Nat} (hy : 0 < y) (hl : lo = u1 * 4294967296 + u0) (hR : R1 = (hi * 4294967296 + u1) % y) :
    (hi * 4294967296 + u1) / y * 4294967296 + (R1 * 4294967296 + u0) / y = (hi * 18446744073709551616 + lo) / y := by
  have h1 : hi * 4294967296 + u1 = y * ((hi * 4294967296 + u1) / y) + R1 := by rw [hR]; exact (Nat.div_add_mod _ _).symm
  obtain ⟨T, hT⟩ : ∃ T, (hi * 4294967296 + u1) / y = T := ⟨_, rfl⟩
  rw [hT] at h1 ⊢
  clear hT hR
  have h2 : hi * 18446744073709551616 + lo = (R1 * 4294967296 + u0) + y * (T * 4294967296) := by
    rw [hl, ← Nat.mul_assoc y]
    exact letters_eq hi u1 u0 (y * T) R1 4294967296 18446744073709551616 rfl h1
  rw [h2, Nat.add_mul_div_left _ _ hy, Nat.add_comm]
theorem int_prod (q a h r : Nat) (hq : q * a + r = h) : (h : Int) - (q : Int) * (a : Int) = (r : Int) ∧ (0 : Int) ≤ (q : Int) * (a : Int) ∧ (q : Int) * (a : Int) ≤ (h : Int) := by
  have e : ((q * a : Nat) : Int) = (q : Int) * (a : Int) := by simp
  rw [← e]
  omega
theorem wrap_sub {N P R m1 u1 : Nat} (hm : ∃ h, m1 = h * 4294967296 % 18446744073709551616 ∧ N = h * 4294967296 + u1) (hN : N = P + R) (hR : R < 18446744073709551616) (hu : u1 < 4294967296) :
    IntKind.u64.wrap ((((m1 + u1) % 18446744073709551616 : Nat) : Int) - ((P % 18446744073709551616 : Nat) : Int)) = (R : Int) := by
  obtain ⟨h, rfl, rfl⟩ := hm
  rw [IntKind.wrap_u64]
  omega

end Go.Proofs.Ytpllklojcjhjaaa

/- What takeAway of package quot comes to, place by place. -/
namespace Go.Proofs.Ytpllklojcjhjaaa
open Go Go.RowKit
set_option linter.unusedSimpArgs false
set_option linter.unusedVariables false

/-- A row of words of them. -/
def slU (i n : Nat) : Value := .slice (some ⟨1005, i, none⟩) (n + 1) (5 - i)
def slV (n : Nat) : Value := .slice (some ⟨1006, 0, none⟩) n 5

end Go.Proofs.Ytpllklojcjhjaaa

/- What putBack of package quot comes to, place by place. -/
namespace Go.Proofs.Ytpllklojcjhjaaa
open Go Go.RowKit
set_option linter.unusedSimpArgs false
set_option linter.unusedVariables false

/-- The carry behind some words. -/
def pbO : List Nat → List Nat → Nat → Nat
  | w :: r, v :: vs, c => pbO r vs ((w + v + c) / 18446744073709551616)
  | _, _, c => c
end Go.Proofs.Ytpllklojcjhjaaa

/- What digit of package quot comes to, place by place. -/
namespace Go.Proofs.Ytpllklojcjhjaaa
open Go Go.RowKit
set_option linter.unusedSimpArgs false
set_option linter.unusedVariables false

def dec1 (k : Value) : Value := match k with | .int .u64 z => .int .u64 (IntKind.u64.wrap (z - 1)) | v => v
end Go.Proofs.Ytpllklojcjhjaaa

/- One digit of a quotient, wherever it is: from what takes away and gives back. -/
namespace Go.Proofs.Ytpllklojcjhjaaa
open Go Go.RowKit
set_option linter.unusedSimpArgs false
set_option linter.unusedVariables false

theorem CallsV.perm {P : Program} {f : Nat} {args : Array Value} {H H' G : Hp} {r : Res} (h : CallsV P (.func f) args H r H') (hl : ∀ i, look G i = look H' i) : CallsV P (.func f) args H r G := by
  intro β w hR
  refine (h β w hR).mono ?_
  rintro e w' ⟨β', hb, he, hR'⟩
  exact ⟨β', hb, he, hR'.congr (fun _ _ => rfl) hl⟩
def itsOf (q : Nat) : List Nat → List Nat → List (Nat × Nat × Nat)
  | w :: r, v :: vs => (w, v * q / 18446744073709551616, v * q % 18446744073709551616) :: itsOf q r vs
  | _, _ => []
theorem itsOf_fine {q : Nat} (hq : q < 18446744073709551616) : ∀ (x v : List Nat), sm64 x → sm64 v → fineI (itsOf q x v)
  | [], v, _, _ => by cases v <;> exact fun _ h => (by cases h)
  | w :: r, [], _, _ => fun _ h => (by cases h)
  | w :: r, v :: vs, hx, hv => by
    intro e he
    rcases List.mem_cons.1 he with rfl | he
    · have h1 := hv v List.mem_cons_self
      have h2 : v * q ≤ 340282366920938463426481119284349108225 := Nat.mul_le_mul (Nat.le_of_lt_succ h1) (Nat.le_of_lt_succ hq)
      refine ⟨hx w List.mem_cons_self, Nat.mod_lt _ (Nat.succ_pos _), ?_⟩
      simp only
      omega
    · exact itsOf_fine hq r vs (fun y hy => hx y (List.mem_cons_of_mem _ hy)) (fun y hy => hv y (List.mem_cons_of_mem _ hy)) e he
theorem itsOf_pv {q : Nat} : ∀ (x v : List Nat), x.length = v.length → pvI (itsOf q x v) = q * nvl v
  | [], [], _ => by simp [itsOf, pvI, nvl]
  | [], _ :: _, h => by simp at h
  | _ :: _, [], h => by simp at h
  | w :: r, v :: vs, h => by
    simp only [itsOf, pvI, nvl]
    rw [itsOf_pv r vs (by simpa using h), Nat.mul_add, Nat.mul_left_comm q, Nat.mul_comm q v]
    omega
theorem itsOf_fst {q : Nat} : ∀ (x v : List Nat), x.length = v.length → (itsOf q x v).map (·.1) = x ∧ (itsOf q x v).length = x.length
  | [], [], _ => ⟨rfl, rfl⟩
  | [], _ :: _, h => by simp at h
  | _ :: _, [], h => by simp at h
  | w :: r, v :: vs, h => by
    obtain ⟨h1, h2⟩ := itsOf_fst (q := q) r vs (by simpa using h)
    simp only [itsOf, List.map_cons, List.length_cons, h1, h2]
    exact ⟨trivial, trivial⟩
theorem taO_le {q : Nat} {x v : List Nat} (hq : q < 18446744073709551616) (hx : sm64 x) (hv : sm64 v) : decide (1 < taO (itsOf q x v) 0 0) = false := by
  have := (ta_all (itsOf q x v) 0 0 (itsOf_fine hq x v hx hv) (by omega) (by omega)).2.2.1
  exact decide_eq_false (by omega)
theorem pbO_le : ∀ (x v : List Nat) (c : Nat), sm64 x → sm64 v → c ≤ 1 → pbO x v c ≤ 1
  | [], v, c, _, _, hc => by cases v <;> exact hc
  | w :: r, [], c, _, _, hc => hc
  | w :: r, v :: vs, c, hx, hv, hc => by
    rw [pbO]
    have h1 := hx w List.mem_cons_self
    have h2 := hv v List.mem_cons_self
    exact pbO_le r vs _ (fun y hy => hx y (List.mem_cons_of_mem _ hy)) (fun y hy => hv y (List.mem_cons_of_mem _ hy)) (by omega)
theorem pbO_le' {x v : List Nat} (hx : sm64 x) (hv : sm64 v) : decide (1 < pbO x v 0) = false := by
  have := pbO_le x v 0 hx hv (by omega)
  exact decide_eq_false (by omega)

section
variable {P : Program} {args : Array Value} {H0 : Hp} {pre post v : List Nat}
theorem dec1_u {q : Nat} (hq : q + 1 < 18446744073709551616) : dec1 (u (q + 1)) = u q := by
  unfold dec1 u
  simp only
  congr 1
  rw [IntKind.wrap_u64]
  show (((q + 1 : Nat) : Int) - 1) % 18446744073709551616 = (q : Int)
  omega

end

/-- The guess, by the words of X and V. -/
theorem gq_both {xl vl' : List Nat} {h l y : Nat} (hx : sm64 xl) (hv : sm64 vl') (hlen : xl.length = vl'.length) (hl : l < 18446744073709551616) (hy : 9223372036854775808 ≤ y)
    (hlt : nvl (xl ++ [l, h]) < nvl (vl' ++ [y]) * 18446744073709551616) :
    nvl (xl ++ [l, h]) / nvl (vl' ++ [y]) ≤ gq h l y ∧ gq h l y ≤ nvl (xl ++ [l, h]) / nvl (vl' ++ [y]) + 2 ∧ 0 < nvl (vl' ++ [y]) := by
  have e1 : nvl (xl ++ [l, h]) = (h * 18446744073709551616 + l) * 18446744073709551616 ^ xl.length + nvl xl := by
    rw [nvl_append]
    simp only [nvl, Nat.mul_zero, Nat.add_zero]
    rw [Nat.mul_comm (_ ^ _), Nat.add_comm, Nat.add_comm l, Nat.mul_comm 18446744073709551616 h]
  have e2 : nvl (vl' ++ [y]) = y * 18446744073709551616 ^ xl.length + nvl vl' := by
    rw [nvl_append, nvl_one, hlen, Nat.mul_comm (_ ^ _), Nat.add_comm]
  have hX := nvl_lt xl hx
  have hV := nvl_lt vl' hv
  rw [← hlen] at hV
  have hP : 0 < 18446744073709551616 ^ xl.length := Nat.pow_pos (by omega)
  rw [e1, e2] at hlt ⊢
  refine ⟨gq_ge hP hy hX hV hlt, gq_le hP hy hl hV, ?_⟩
  have := Nat.mul_pos (show 0 < y by omega) hP
  omega

end Go.Proofs.Ytpllklojcjhjaaa

/- One digit of a quotient, at each place. -/
namespace Go.Proofs.Ytpllklojcjhjaaa
open Go Go.RowKit
set_option linter.unusedSimpArgs false
set_option linter.unusedVariables false

theorem sm_nil : sm64 [] := fun _ h => (by cases h)
theorem sm_cons {x : Nat} {r : List Nat} (h : x < 18446744073709551616) (hr : sm64 r) : sm64 (x :: r) := fun y hy => by
  rcases List.mem_cons.1 hy with rfl | hy
  · exact h
  · exact hr y hy
theorem hVT_of {v : List Nat} {k : Nat} (hv : sm64 v) (hk : v.length = k) : nvl v < 18446744073709551616 ^ (k + 1) := by
  subst hk
  exact Nat.lt_of_lt_of_le (nvl_lt _ hv) (Nat.pow_le_pow_right (by omega) (by omega))

end Go.Proofs.Ytpllklojcjhjaaa

/- Numbers lifted and lowered by some bits. -/
namespace Go.Proofs.Ytpllklojcjhjaaa
open Go Go.RowKit
set_option linter.unusedSimpArgs false
set_option linter.unusedVariables false

theorem or_parts {x y s : Nat} (hs : s < 64) (hy : y < 2 ^ s) : y ||| x * 2 ^ s % 18446744073709551616 = y + 2 ^ s * (x % 2 ^ (64 - s)) := by
  have e : x * 2 ^ s % 18446744073709551616 = 2 ^ s * (x % 2 ^ (64 - s)) := by
    rw [show (18446744073709551616 : Nat) = 2 ^ s * 2 ^ (64 - s) by rw [← Nat.pow_add, show s + (64 - s) = 64 by omega], Nat.mul_comm x, Nat.mul_mod_mul_left]
  rw [e, Nat.or_comm, ← Nat.two_pow_add_eq_or_of_lt hy, Nat.add_comm]
theorem split_word (x s : Nat) (hs : s < 64) : 2 ^ s * (x % 2 ^ (64 - s)) + x / 2 ^ (64 - s) * 18446744073709551616 = x * 2 ^ s := by
  have e : (18446744073709551616 : Nat) = 2 ^ s * 2 ^ (64 - s) := by rw [← Nat.pow_add, show s + (64 - s) = 64 by omega]
  rw [e, Nat.mul_left_comm, ← Nat.mul_add, Nat.mul_comm (x / _), Nat.add_comm, Nat.div_add_mod, Nat.mul_comm]

theorem shl_or (x y s : Nat) (hx : x < 18446744073709551616) (hy : y < 18446744073709551616) : bits BinOp.or IntKind.u64 (y : Int) (IntKind.u64.wrap ((x : Int) * 2 ^ s)) = ((y ||| x * 2 ^ s % 18446744073709551616 : Nat) : Int) := by
  have e : IntKind.u64.wrap ((x : Int) * 2 ^ s) = ((x * 2 ^ s % 18446744073709551616 : Nat) : Int) := by
    rw [IntKind.wrap_u64]
    have : ((x : Int) * 2 ^ s) = ((x * 2 ^ s : Nat) : Int) := by simp
    rw [this]
    omega
  rw [e]
  exact bits_or_u64_nat _ _ hy (Nat.mod_lt _ (by omega))

def lif1 (a b s : Nat) : Value := .int .u64 (bits BinOp.or IntKind.u64 (Int.fdiv (Int.ofNat a) (2 ^ (64 - s))) (IntKind.u64.wrap (Int.ofNat b * 2 ^ s)))
def LFr (x0 x1 x2 x3 s : Nat) : Res × List Prop := (rt (.agg #[.int .u64 (bits BinOp.or IntKind.u64 0 (IntKind.u64.wrap (Int.ofNat x0 * 2 ^ s))), lif1 x0 x1 s, lif1 x1 x2 s, lif1 x2 x3 s, .int .u64 (Int.fdiv (Int.ofNat x3) (2 ^ (64 - s)))]), [])
end Go.Proofs.Ytpllklojcjhjaaa

/- Numbers lifted and lowered by some bits. -/
namespace Go.Proofs.Ytpllklojcjhjaaa
open Go Go.RowKit
set_option linter.unusedSimpArgs false
set_option linter.unusedVariables false

def low1 (a b s : Nat) : Value := .int .u64 (bits BinOp.or IntKind.u64 (Int.fdiv (Int.ofNat a) (2 ^ s)) (IntKind.u64.wrap (Int.ofNat b * 2 ^ (64 - s))))
def LWr (a0 a1 a2 a3 a4 s : Nat) : Res × List Prop := (rt (.agg #[low1 a0 a1 s, low1 a1 a2 s, low1 a2 a3 s, low1 a3 a4 s]), [])
end Go.Proofs.Ytpllklojcjhjaaa

/- Numbers lifted and lowered by some bits: what they come to. -/
namespace Go.Proofs.Ytpllklojcjhjaaa
open Go Go.RowKit
set_option linter.unusedSimpArgs false
set_option linter.unusedVariables false

/-- Words, in a row. -/
def V5 (l : List Nat) : Value := .agg ⟨l.map u⟩
def loW (x s : Nat) : Nat := 2 ^ s * (x % 2 ^ (64 - s))
def hiW (x s : Nat) : Nat := x / 2 ^ (64 - s)
theorem lohi (x s : Nat) (hs : s < 64) : loW x s + hiW x s * 18446744073709551616 = x * 2 ^ s := split_word x s hs
theorem hi_lt {x s : Nat} (hx : x < 18446744073709551616) (hs : s < 64) : hiW x s < 2 ^ s := by
  unfold hiW
  rw [Nat.div_lt_iff_lt_mul (Nat.pow_pos (by omega)), ← Nat.pow_add, show s + (64 - s) = 64 by omega]
  exact hx
theorem two_le {s : Nat} (hs : s < 64) : 2 ^ s ≤ 9223372036854775808 := by
  have : (2 : Nat) ^ s ≤ 2 ^ 63 := Nat.pow_le_pow_right (by omega) (by omega)
  exact this
theorem fdiv_nat (x k : Nat) : Int.fdiv (Int.ofNat x) (2 ^ k) = ((x / 2 ^ k : Nat) : Int) := by
  have e : ((2 : Int) ^ k) = ((2 ^ k : Nat) : Int) := by simp
  rw [e, Int.fdiv_eq_ediv_of_nonneg _ (Int.natCast_nonneg _)]
  rfl
theorem lif1_eq {x y s : Nat} (hx : x < 18446744073709551616) (hy : y < 18446744073709551616) (hs : s < 64) : lif1 x y s = u (hiW x s + loW y s) := by
  unfold lif1 u
  congr 1
  rw [fdiv_nat]
  have h1 : x / 2 ^ (64 - s) < 2 ^ s := hi_lt hx hs
  have := shl_or y (x / 2 ^ (64 - s)) s hy (Nat.lt_of_le_of_lt (Nat.div_le_self _ _) hx)
  exact this.trans (congrArg Int.ofNat (or_parts hs h1))
theorem lif0_eq {y s : Nat} (hy : y < 18446744073709551616) (hs : s < 64) : Value.int .u64 (bits BinOp.or IntKind.u64 0 (IntKind.u64.wrap (Int.ofNat y * 2 ^ s))) = u (loW y s) := by
  unfold u
  congr 1
  have := shl_or y 0 s hy (by omega)
  refine this.trans (congrArg Int.ofNat ?_)
  rw [or_parts hs (Nat.pow_pos (by omega)), Nat.zero_add]
  rfl
theorem low1_eq {x y s : Nat} (hx : x < 18446744073709551616) (hy : y < 18446744073709551616) (hs : s < 64) : ∃ z, low1 x y s = u z ∧ z < 18446744073709551616 ∧ 2 ^ s * z + x % 2 ^ s = x + y % 2 ^ s * 18446744073709551616 := by
  have hp : (0 : Nat) < 2 ^ s := Nat.pow_pos (by omega)
  have e : (18446744073709551616 : Nat) = 2 ^ s * 2 ^ (64 - s) := by rw [← Nat.pow_add, show s + (64 - s) = 64 by omega]
  refine ⟨x / 2 ^ s ||| y * 2 ^ (64 - s) % 18446744073709551616, ?_, Nat.or_lt_two_pow (n := 64) (Nat.lt_of_le_of_lt (Nat.div_le_self _ _) hx) (Nat.mod_lt _ (by omega)), ?_⟩
  · unfold low1 u
    congr 1
    rw [fdiv_nat]
    exact shl_or y (x / 2 ^ s) (64 - s) hy (Nat.lt_of_le_of_lt (Nat.div_le_self _ _) hx)
  · have hm : x = 2 ^ s * (x / 2 ^ s) + x % 2 ^ s := (Nat.div_add_mod _ _).symm
    have key : x / 2 ^ s ||| y * 2 ^ (64 - s) % 18446744073709551616 = x / 2 ^ s + 2 ^ (64 - s) * (y % 2 ^ s) := by
      by_cases h0 : s = 0
      · subst h0
        rw [Nat.pow_zero, Nat.div_one, show (64 - 0 : Nat) = 64 from rfl, show (2 : Nat) ^ 64 = 18446744073709551616 from rfl, Nat.mul_mod_left, Nat.or_zero, Nat.mod_one, Nat.mul_zero, Nat.add_zero]
      · have h1 := or_parts (x := y) (y := x / 2 ^ s) (s := 64 - s) (by omega) (by rw [Nat.div_lt_iff_lt_mul hp, Nat.mul_comm, ← e]; exact hx)
        rw [h1, show 64 - (64 - s) = s by omega]
    rw [key, Nat.mul_add, ← Nat.mul_assoc, ← e, Nat.mul_comm (y % 2 ^ s)]
    omega

theorem W4_words {x : Nat} : ∃ a b c d, wv x = W4 a b c d ∧ a < 18446744073709551616 ∧ b < 18446744073709551616 ∧ c < 18446744073709551616 ∧ d < 18446744073709551616 ∧ nvl [a, b, c, d] = x % Mw := by
  obtain ⟨a, b, c, d, ha, hb, hc, hd, e, e2, -⟩ := vl_wv x
  refine ⟨a, b, c, d, e2, ha, hb, hc, hd, ?_⟩
  rw [← e]
  rfl
theorem wv_nvl {a b c d : Nat} (ha : a < 18446744073709551616) (hb : b < 18446744073709551616) (hc : c < 18446744073709551616) (hd : d < 18446744073709551616) : wv (nvl [a, b, c, d]) = W4 a b c d := by
  rw [← wv_vl ha hb hc hd]
  congr 1

theorem lift_sum {l0 l1 l2 l3 h0 h1 h2 h3 p x0 x1 x2 x3 : Nat} (e0 : l0 + h0 * 18446744073709551616 = x0 * p) (e1 : l1 + h1 * 18446744073709551616 = x1 * p) (e2 : l2 + h2 * 18446744073709551616 = x2 * p) (e3 : l3 + h3 * 18446744073709551616 = x3 * p) :
    nvl [l0, h0 + l1, h1 + l2, h2 + l3, h3] = nvl [x0, x1, x2, x3] * p := by
  simp only [nvl, Nat.mul_zero, Nat.add_zero]
  rw [Nat.add_mul, Nat.mul_assoc, Nat.add_mul, Nat.mul_assoc, Nat.add_mul, Nat.mul_assoc, ← e0, ← e1, ← e2, ← e3]
  omega

theorem low_sum {p z0 z1 z2 z3 a0 a1 a2 a3 r0 r1 r2 r3 r4 : Nat} (e0 : p * z0 + r0 = a0 + r1 * 18446744073709551616) (e1 : p * z1 + r1 = a1 + r2 * 18446744073709551616) (e2 : p * z2 + r2 = a2 + r3 * 18446744073709551616) (e3 : p * z3 + r3 = a3 + r4 * 18446744073709551616) :
    p * nvl [z0, z1, z2, z3] + r0 = nvl [a0, a1, a2, a3, r4] := by
  simp only [nvl, Nat.mul_zero, Nat.add_zero]
  have k : ∀ A B, p * (A + 18446744073709551616 * B) = p * A + 18446744073709551616 * (p * B) := fun A B => by rw [Nat.mul_add, Nat.mul_left_comm]
  rw [k, k, k]
  omega
end Go.Proofs.Ytpllklojcjhjaaa

/- The order of wide numbers, as the program tells it. -/
namespace Go.Proofs.Ytpllklojcjhjaaa
open Go Go.RowKit
set_option linter.unusedSimpArgs false
set_option linter.unusedVariables false

def liftW (n : Nat) : Nat := if 9223372036854775808 ≤ n then n - 9223372036854775808 else n + 9223372036854775808
theorem xor_top (a : Nat) (ha : a < 18446744073709551616) : bits BinOp.xor IntKind.u64 (a : Int) 9223372036854775808 = (liftW a : Int) := by
  have h := bits_xor_u64_nat a 9223372036854775808 ha (by omega)
  have e : bits BinOp.xor IntKind.u64 (a : Int) 9223372036854775808 = ((a ^^^ 9223372036854775808 : Nat) : Int) := h
  rw [e]
  congr 1
  have h2 : a ^^^ 9223372036854775808 = liftW a := by
    have m1 : (a ^^^ 2 ^ 63) % 2 ^ 63 = a % 2 ^ 63 ^^^ 2 ^ 63 % 2 ^ 63 := Nat.xor_mod_two_pow
    have m2 : (a ^^^ 2 ^ 63) / 2 ^ 63 = a / 2 ^ 63 ^^^ 2 ^ 63 / 2 ^ 63 := Nat.xor_div_two_pow
    rw [show (2 : Nat) ^ 63 % 2 ^ 63 = 0 from rfl, Nat.xor_zero] at m1
    rw [show (2 : Nat) ^ 63 / 2 ^ 63 = 1 from rfl] at m2
    have h3 : a / 2 ^ 63 = 0 ∨ a / 2 ^ 63 = 1 := by omega
    rw [show (2 : Nat) ^ 63 = 9223372036854775808 from rfl] at m1 m2 h3
    generalize a ^^^ 9223372036854775808 = x at *
    unfold liftW
    rcases h3 with h3 | h3
    · rw [h3, show (0 ^^^ 1 : Nat) = 1 from rfl] at m2
      rw [if_neg (by omega)]
      omega
    · rw [h3, show (1 ^^^ 1 : Nat) = 0 from rfl] at m2
      rw [if_pos (by omega)]
      omega
  exact h2

theorem sign_top {x y X Y : Nat} (hx : x < 18446744073709551616) (hy : y < 18446744073709551616) (h : X ≠ Y) : (((x + 18446744073709551616 * X : Nat) : Int) - ((y + 18446744073709551616 * Y : Nat) : Int)).sign = ((X : Int) - Y).sign := by
  rcases Nat.lt_or_gt_of_ne h with h | h
  · rw [Int.sign_eq_neg_one_of_neg (show (X : Int) - Y < 0 by omega), Int.sign_eq_neg_one_of_neg (by omega)]
  · rw [Int.sign_eq_one_of_pos (show 0 < (X : Int) - Y by omega), Int.sign_eq_one_of_pos (by omega)]
theorem sign_low {x y X : Nat} : (((x + 18446744073709551616 * X : Nat) : Int) - ((y + 18446744073709551616 * X : Nat) : Int)).sign = ((x : Int) - y).sign := by
  congr 1
  omega
theorem ne_test {x y : Nat} (h : x ≠ y) : (Int.ofNat x != Int.ofNat y) = true := by
  rw [bne_iff_ne]; exact fun e => h (Int.ofNat.inj e)
theorem eq_test (x : Nat) : (Int.ofNat x != Int.ofNat x) = false := by simp
theorem lift_z {x : Int} (hx : inR x) : ∃ a0 a1 a2 a3, wz x = W4 a0 a1 a2 a3 ∧ a0 < 18446744073709551616 ∧ a1 < 18446744073709551616 ∧ a2 < 18446744073709551616 ∧ a3 < 18446744073709551616 ∧ ((nvl [a0, a1, a2, liftW a3] : Nat) : Int) = x + 57896044618658097711785492504343953926634992332820282019728792003956564819968 := by
  obtain ⟨a0, a1, a2, a3, e, h0, h1, h2, h3, hv⟩ := W4_words (x := nz x)
  refine ⟨a0, a1, a2, a3, e, h0, h1, h2, h3, ?_⟩
  have hc := nz_cast x
  rw [Nat.mod_eq_of_lt (nz_lt x)] at hv
  unfold inR at hx
  unfold Mw at hc
  unfold liftW
  simp only [nvl, Nat.mul_zero, Nat.add_zero] at hv ⊢
  split <;> omega
end Go.Proofs.Ytpllklojcjhjaaa

/- Near; numbers of ints. -/
namespace Go.Proofs.Ytpllklojcjhjaaa
open Go Go.RowKit
set_option linter.unusedSimpArgs false
set_option linter.unusedVariables false

/-- The nearest. -/
def neI (x y : Int) : Int := wholeI x y (x.natAbs / y.natAbs) (decide (y.natAbs - x.natAbs % y.natAbs ≤ x.natAbs % y.natAbs))
theorem ofs_raw (x : Int) : runA Try.prog 47 #[.int .i64 (x)] [] [] =
    some (rt (.agg ⟨[.int .u64 (IntKind.u64.wrap x), .int .u64 (IntKind.u64.wrap (x.fdiv (2 ^ 63))), .int .u64 (IntKind.u64.wrap (x.fdiv (2 ^ 63))), .int .u64 (IntKind.u64.wrap (x.fdiv (2 ^ 63)))]⟩), []) := by kernel_rfl
theorem int_raw (x y : Nat) : runA Try.prog 45 #[wv x] [f] [(47, rt (wv y))] =
    some (rt (tp [.int .i64 (IntKind.i64.wrap (Int.ofNat (x % 18446744073709551616))), bb (true)]), [PureX Try.prog 47 #[.int .i64 (IntKind.i64.wrap (Int.ofNat (x % 18446744073709551616)))] (rt (wv y)), (!(eqv y x)) = false]) := by kernel_rfl
theorem int_raw2 (x y : Nat) : runA Try.prog 45 #[wv x] [t] [(47, rt (wv y))] =
    some (rt (tp [.int .i64 (0), bb (false)]), [PureX Try.prog 47 #[.int .i64 (IntKind.i64.wrap (Int.ofNat (x % 18446744073709551616)))] (rt (wv y)), (!(eqv y x)) = true]) := by kernel_rfl
def isI (x : Int) : Prop := -9223372036854775808 ≤ x ∧ x < 9223372036854775808
instance (x : Int) : Decidable (isI x) := by unfold isI; infer_instance
theorem isI_in {x : Int} (h : isI x) : inR x := by unfold isI at h; unfold inR; omega
theorem of_z {x : Int} (h : isI x) : PureX Try.prog 47 #[.int .i64 x] (rt (wz x)) := by
  have r := runA_pure mix (ofs_raw x) trivial rfl rfl
  unfold isI at h
  obtain ⟨A, hA⟩ : ∃ A : Nat, (A : Int) = x % 18446744073709551616 := ⟨(x % 18446744073709551616).toNat, Int.toNat_of_nonneg (Int.emod_nonneg _ (by decide))⟩
  obtain ⟨S, hS, hS1, hS2⟩ : ∃ S : Nat, IntKind.u64.wrap (x.fdiv (2 ^ 63)) = Int.ofNat S ∧ (0 ≤ x → S = 0) ∧ (x < 0 → S = 18446744073709551615) := by
    rw [show ((2 : Int) ^ 63) = 9223372036854775808 from rfl, IntKind.wrap_u64, Int.fdiv_eq_ediv_of_nonneg _ (by decide)]
    rcases (show x < 0 ∨ 0 ≤ x by omega) with h0 | h0
    · exact ⟨18446744073709551615, by rw [show x / 9223372036854775808 = -1 by omega]; rfl, fun h => by omega, fun _ => rfl⟩
    · exact ⟨0, by rw [show x / 9223372036854775808 = 0 by omega]; rfl, fun _ => rfl, fun h => by omega⟩
  rw [hS, IntKind.wrap_u64, ← hA] at r
  have hAl : A < 18446744073709551616 := by omega
  have hSl : S < 18446744073709551616 := by omega
  have e : nvl [A, S, S, S] = nz x := by
    have hc := nz_cast x
    unfold Mw at hc
    simp only [nvl, Nat.mul_zero, Nat.add_zero]
    rcases (show x < 0 ∨ 0 ≤ x by omega) with h0 | h0
    · have := hS2 h0
      omega
    · have := hS1 h0
      omega
  show PureX Try.prog 47 #[.int .i64 x] (rt (wv (nz x)))
  rw [← e, wv_nvl hAl hSl hSl hSl]
  exact r
/-- Int. -/
theorem int_z {x : Int} (hx : inR x) : PureX Try.prog 45 #[wz x] (rt (tp [.int .i64 (if isI x then x else 0), bb (decide (isI x))])) := by
  obtain ⟨y, hy⟩ : ∃ y, IntKind.i64.wrap (Int.ofNat (nz x % 18446744073709551616)) = y := ⟨_, rfl⟩
  have hyI : isI y ∧ (isI x → y = x) := by
    have hc := nz_cast x
    unfold Mw at hc
    rw [IntKind.wrap_i64, show Int.ofNat (nz x % 18446744073709551616) = (nz x : Int) % 18446744073709551616 by simp, hc] at hy
    unfold isI
    unfold inR at hx
    subst hy
    rw [Int.emod_emod_of_dvd _ (by decide)]
    omega
  have ho := of_z hyI.1
  have he := eqv_z (isI_in hyI.1) hx
  by_cases h : isI x
  · rw [if_pos h, decide_eq_true h]
    have r := runA_pure mix (int_raw (nz x) (nz y)) ⟨by rw [hy]; exact ho, by rw [he, decide_eq_true (hyI.2 h)]; rfl, trivial⟩ rfl rfl
    rw [hy, hyI.2 h] at r
    exact r
  · rw [if_neg h, decide_eq_false h]
    exact runA_pure mix (int_raw2 (nz x) (nz y)) ⟨by rw [hy]; exact ho, by rw [he, decide_eq_false (show ¬ y = x from fun e => h (by rw [← e]; exact hyI.1))]; rfl, trivial⟩ rfl rfl

end Go.Proofs.Ytpllklojcjhjaaa

/- How long a number is, and the long division, way by way. -/
namespace Go.Proofs.Ytpllklojcjhjaaa
open Go Go.RowKit
set_option linter.unusedSimpArgs false
set_option linter.unusedVariables false

theorem lead_top {x : Nat} (h0 : x ≠ 0) (h1 : x < 18446744073709551616) : ∃ s : Nat, 64 - (Lib.bitLen x : Int) = (s : Int) ∧ s < 64 ∧ 9223372036854775808 ≤ x * 2 ^ s ∧ (x + 1) * 2 ^ s ≤ 18446744073709551616 := by
  obtain ⟨b1, b2, b3⟩ := Lib.bitLenAux_bounds 64 x (by omega) h0
  have b4 : Lib.bitLen x ≤ 64 := Lib.bitLen_le x 64 (Nat.le_refl _) (by omega)
  have e : Lib.bitLenAux 64 x = Lib.bitLen x := rfl
  rw [e] at b1 b2 b3
  clear e
  generalize Lib.bitLen x = L at *
  refine ⟨64 - L, by omega, by omega, ?_, ?_⟩
  · have h2 : 2 ^ (L - 1) * 2 ^ (64 - L) ≤ x * 2 ^ (64 - L) := Nat.mul_le_mul_right _ b2
    rw [← Nat.pow_add, show L - 1 + (64 - L) = 63 by omega] at h2
    exact h2
  · have h2 : (x + 1) * 2 ^ (64 - L) ≤ 2 ^ L * 2 ^ (64 - L) := Nat.mul_le_mul_right _ b3
    rw [← Nat.pow_add, show L + (64 - L) = 64 by omega] at h2
    exact h2
end Go.Proofs.Ytpllklojcjhjaaa

/- The long division of sizes. -/
namespace Go.Proofs.Ytpllklojcjhjaaa
open Go Go.RowKit
set_option linter.unusedSimpArgs false
set_option linter.unusedVariables false

theorem ws_grow : ∀ (k x : Nat), x < 18446744073709551616 ^ k → ws (k + 1) x = ws k x ++ [0]
  | 0, x, h => by
    have : x = 0 := by simpa using h
    subst this
    rfl
  | k + 1, x, h => by
    rw [ws, ws_grow k (x / 18446744073709551616) (Nat.div_lt_of_lt_mul (by rw [Nat.mul_comm]; exact h)), ws]
    rfl
theorem ws_grows (k x : Nat) (h : x < 18446744073709551616 ^ k) : ∀ j, ws (k + j) x = ws k x ++ List.replicate j 0
  | 0 => by simp
  | j + 1 => by
    have h2 : x < 18446744073709551616 ^ (k + j) := Nat.lt_of_lt_of_le h (Nat.pow_le_pow_right (by omega) (by omega))
    rw [← Nat.add_assoc, ws_grow (k + j) x h2, ws_grows k x h j, List.append_assoc, List.replicate_succ']
theorem top_bounds {L t P p : Nat} (hL : L < P) (hp : 0 < p) (k1 : 9223372036854775808 ≤ t * p) (k2 : (t + 1) * p ≤ 18446744073709551616) :
    P * 9223372036854775808 ≤ (L + P * t) * p ∧ (L + P * t) * p < P * 18446744073709551616 := by
  have h1 := Nat.mul_le_mul_left P k1
  have h2 := Nat.mul_le_mul_left P k2
  have h3 : L * p < P * p := Nat.mul_lt_mul_of_pos_right hL hp
  rw [Nat.add_mul, Nat.mul_assoc]
  rw [Nat.add_mul, Nat.one_mul, Nat.mul_add] at h2
  omega
theorem ofNat_ne {x : Nat} (h : x ≠ 0) : (Int.ofNat x != 0) = true := by
  rw [bne_iff_ne]
  intro e
  exact h (Int.ofNat.inj e)
theorem lt_next {x R W : Nat} (hx : x < 18446744073709551616) (hR : R < W) : x + 18446744073709551616 * R < W * 18446744073709551616 := by omega
theorem div_uniq {U W Q R a b p : Nat} (hU : U = a * p) (hW : W = b * p) (hp : 0 < p) (hb : 0 < b) (h : R + Q * W = U) (hR : R < W) : Q = a / b ∧ R = a % b * p := by
  subst hU hW
  have h1 : a * p / (b * p) = Q ∧ a * p % (b * p) = R := by
    exact (Nat.div_mod_unique (Nat.mul_pos hb hp)).2 ⟨by rw [Nat.mul_comm (b * p)]; exact h, hR⟩
  rw [Nat.mul_div_mul_right a b hp, Nat.mul_mod_mul_right] at h1
  exact ⟨h1.1.symm, h1.2.symm⟩

end Go.Proofs.Ytpllklojcjhjaaa

/- Rests, shifts, ints by ints; what the law's examples come to. -/
namespace Go.Proofs.Ytpllklojcjhjaaa
open Go Go.RowKit
set_option linter.unusedSimpArgs false
set_option linter.unusedVariables false

/-- A whole quotient is in range. -/
theorem who_in {x y : Int} (hx : inR x) (hx1 : x ≠ least) (h0 : y ≠ 0) (far : Bool) (hf : far = true → x.natAbs % y.natAbs ≠ 0) : inR (wholeI x y (x.natAbs / y.natAbs) far) := by
  have hl : x.natAbs < 57896044618658097711785492504343953926634992332820282019728792003956564819968 := by
    have : x ≠ -57896044618658097711785492504343953926634992332820282019728792003956564819968 := hx1
    unfold inR at hx
    omega
  have hq := Nat.div_le_self x.natAbs y.natAbs
  have hb : x.natAbs / y.natAbs + (if far = true then 1 else 0) < 57896044618658097711785492504343953926634992332820282019728792003956564819968 := by
    cases far with
    | false => simp only [Bool.false_eq_true, if_false, Nat.add_zero]; exact Nat.lt_of_le_of_lt hq hl
    | true =>
      have h1 := hf rfl
      have h2 : 2 ≤ y.natAbs := by
        rcases (show y.natAbs = 1 ∨ 2 ≤ y.natAbs by omega) with h | h
        · rw [h, Nat.mod_one] at h1; exact absurd rfl h1
        · exact h
      have h3 : x.natAbs / y.natAbs * 2 ≤ x.natAbs := Nat.le_trans (Nat.mul_le_mul_left _ h2) (Nat.div_mul_le_self _ _)
      simp only [if_true]
      generalize x.natAbs / y.natAbs = q at *
      omega
  unfold wholeI inR
  generalize x.natAbs / y.natAbs = q at *
  have e : (((if far = true then 1 else 0 : Nat)) : Int) = (if far = true then 1 else 0 : Int) := by split <;> rfl
  rw [← e]
  generalize (if far = true then 1 else 0 : Nat) = f at *
  split <;> omega
theorem flI_in {x y : Int} (hx : inR x) (hx1 : x ≠ least) (h0 : y ≠ 0) : inR (flI x y) := who_in hx hx1 h0 _ (by simp)
theorem ceI_in {x y : Int} (hx : inR x) (hx1 : x ≠ least) (h0 : y ≠ 0) : inR (ceI x y) := who_in hx hx1 h0 _ (by simp)
theorem neI_in {x y : Int} (hx : inR x) (hx1 : x ≠ least) (h0 : y ≠ 0) : inR (neI x y) := who_in hx hx1 h0 _ (by
  intro h
  have h2 := of_decide_eq_true h
  omega)
theorem eu_div (x y : Int) : x.natAbs = y.natAbs * (x.natAbs / y.natAbs) + x.natAbs % y.natAbs := (Nat.div_add_mod _ _).symm
theorem flI_side {x y : Int} (h0 : y ≠ 0) : OnSide (x - y * flI x y) y := floor_int h0 (eu_div x y) (Nat.mod_lt _ (by omega))
theorem ceI_side {x y : Int} (h0 : y ≠ 0) : OnSide (y * ceI x y - x) y := ceil_int h0 (eu_div x y) (Nat.mod_lt _ (by omega))
theorem neI_near {x y : Int} (h0 : y ≠ 0) : Nearest x y (neI x y) := near_int h0 (eu_div x y) (Nat.mod_lt _ (by omega))

theorem sub_any (x p : Int) : ∃ o, PureX Try.prog 60 #[wz x, wz p] (rt (tp [wz (x - p), bb o])) := by
  have h := sub_x (nz x) (nz p)
  rw [(dif_wv x p).1] at h
  exact ⟨_, h⟩
theorem ii_in {x y : Int} (hx : isI x) (hy : isI y) : inR (x * y) ∧ x * y ≠ least := by
  unfold isI at hx hy
  have h1 : (x * y).natAbs ≤ 9223372036854775808 * 9223372036854775808 := by
    rw [Int.natAbs_mul]
    exact Nat.mul_le_mul (by omega) (by omega)
  have hne : x * y ≠ -57896044618658097711785492504343953926634992332820282019728792003956564819968 := by omega
  exact ⟨by unfold inR; omega, hne⟩
theorem isI_ne {x : Int} (h : isI x) : x ≠ least := by
  unfold isI at h
  have : x ≠ -57896044618658097711785492504343953926634992332820282019728792003956564819968 := by omega
  exact this
end Go.Proofs.Ytpllklojcjhjaaa

/- Rest and Left, where they are left by an error. -/
namespace Go.Proofs.Ytpllklojcjhjaaa
open Go Go.RowKit
set_option linter.unusedSimpArgs false
set_option linter.unusedVariables false

/-- A block with a wide number; a pointer to a block. -/
def wo (x : Nat) : Obj := .cells (wv x).cells 56 (0, 0)
def io (k : Int) : Obj := .cells #[.int .i64 k] 3 (0, 0)
def pt (b : Nat) : Value := .pointer (some { block := b, off := 0 })
end Go.Proofs.Ytpllklojcjhjaaa

/- The blocks of a root that is being found; its rounds, raw. -/
/- The blocks of a root that is being found. -/
namespace Go.Proofs.Ytpllklojcjhjaaa
open Go Go.RowKit
set_option linter.unusedSimpArgs false
set_option linter.unusedVariables false

/-- The first range over a function in some code: what it assigns, its body. -/
def rfc : Code → Option (Code × Code)
  | .seq x y => match rfc x with | some r => some r | none => rfc y
  | .block _ b => rfc b
  | .rangeFunc _ _ a b => some (a, b)
  | _ => none
noncomputable def A84 : Code := ((Try.f46.body.bind rfc).map (·.1)).getD .skip
noncomputable def B84 : Code := ((Try.f46.body.bind rfc).map (·.2)).getD .skip
/-- A root and what is left. -/
def xo (r lf : Nat) : Obj := .cells ((wv r).cells ++ (wv lf).cells) 86 (0, 0)
def xv (r lf : Nat) : Value := .agg ((wv r).cells ++ (wv lf).cells)
def T84 (a : Nat) : Array Value := #[wv a, pt 1000, pt 1001, pt 1002, undef, undef, undef, wv a, undef, wv a, xv 0 a, wv a, .func (.func 75) #[] #[pt 1003], undef, undef, undef, undef, undef, undef, undef, undef, undef, undef, undef, undef, undef, undef, undef, undef, undef, undef, undef, undef, undef, undef, undef, undef, undef, undef, undef, undef]
noncomputable def R84 (a : Nat) : Obj := .loop { state := .ready, pending := none, fn := 0, tmps := T84 a, params := #[13], assign := A84, body := B84, defers := 1004 }
noncomputable def HX (a r lf : Nat) : Hp := [(1003, wo a), (1002, xo r lf), (1001, xo 0 0), (1000, wo a), (1004, .deferred (some [])), (1005, R84 a)]

end Go.Proofs.Ytpllklojcjhjaaa

/- A root's rounds, and the places of its bits, raw. -/
namespace Go.Proofs.Ytpllklojcjhjaaa
open Go Go.RowKit
set_option linter.unusedSimpArgs false
set_option linter.unusedVariables false

noncomputable def HY (a r lf : Nat) : Hp := [(1002, xo r lf), (1003, wo a), (1001, xo 0 0), (1000, wo a), (1004, .deferred (some [])), (1005, R84 a)]
theorem rd_t (a r lf p d h q : Nat) (k s : Int) (o : Bool) : runY Try.prog 1005 #[.int .i64 k] (HX a r lf) [t] [(61, rt (wv p)), (60, rt (tp [wv d, bb o])), (62, rt (wv h)), (63, rt (.int .i64 s)), (61, rt (wv q))] [] =
    some (rt (bb true), HY a q d, [PureX Try.prog 61 #[wv r, .int .i64 (IntKind.i64.wrap (2 * k))] (rt (wv p)), PureX Try.prog 60 #[wv lf, wv p] (rt (tp [wv d, bb o])), PureX Try.prog 62 #[wv r] (rt (wv h)), PureX Try.prog 63 #[wv d] (rt (.int .i64 s)), decide (0 ≤ s) = true, PureX Try.prog 61 #[wv h, .int .i64 (IntKind.i64.wrap (2 * k))] (rt (wv q))]) := by kernel_rfl
theorem rd_f (a r lf p d h : Nat) (k s : Int) (o : Bool) : runY Try.prog 1005 #[.int .i64 k] (HX a r lf) [f] [(61, rt (wv p)), (60, rt (tp [wv d, bb o])), (62, rt (wv h)), (63, rt (.int .i64 s))] [] =
    some (rt (bb true), HY a h lf, [PureX Try.prog 61 #[wv r, .int .i64 (IntKind.i64.wrap (2 * k))] (rt (wv p)), PureX Try.prog 60 #[wv lf, wv p] (rt (tp [wv d, bb o])), PureX Try.prog 62 #[wv r] (rt (wv h)), PureX Try.prog 63 #[wv d] (rt (.int .i64 s)), decide (0 ≤ s) = false]) := by kernel_rfl

/-- The first loop in some code; what stands ahead. -/
def lpc : Code → Option Code
  | .seq x y => match lpc x with | some r => some r | none => lpc y
  | .block _ b => lpc b
  | .loop b => some b
  | _ => none
noncomputable def L133 : Code := (Try.f75.body.bind lpc).getD .skip
noncomputable def K133 : Code := match Try.f75.body with | some (.seq x _) => x | _ => .skip
theorem body133 : Try.f75.body = some (.seq K133 (.block 0 (.loop L133))) := by kernel_rfl
def yv : Value := .func (.yield 1005) #[] #[]
def TI (a : Nat) (L L1 L2 L3 k x9 x10 x11 x12 x13 x14 x15 x16 : Value) : List Value := [yv, pt 1003, undef, k, wv a, L, L1, L2, L3, x9, x10, x11, x12, x13, x14, x15, x16]
theorem it_start (a r lf : Nat) (L : Int) : runS Try.prog K133 (frame0 Try.f75 #[yv, pt 1003]) (HX a r lf) [] [(76, rt (.int .i64 L))] [] =
    some (.normal, TI a (.int .i64 L) (.int .i64 (IntKind.i64.wrap (L + 1))) (.int .i64 (IntKind.i64.wrap (Int.tdiv (IntKind.i64.wrap (L + 1)) 2))) (.int .i64 (IntKind.i64.wrap (IntKind.i64.wrap (Int.tdiv (IntKind.i64.wrap (L + 1)) 2) - 1))) (.int .i64 (IntKind.i64.wrap (IntKind.i64.wrap (Int.tdiv (IntKind.i64.wrap (L + 1)) 2) - 1))) undef undef undef undef undef undef undef undef, HX a r lf, [PureX Try.prog 76 #[wv a] (rt (.int .i64 L))]) := by kernel_rfl
theorem it_round (a r lf r2 lf2 : Nat) (k : Int) (L L1 L2 L3 x9 x10 x11 x12 x13 x14 x15 x16 : Value) : runS Try.prog L133 (TI a L L1 L2 L3 (.int .i64 k) x9 x10 x11 x12 x13 x14 x15 x16) (HX a r lf) [t] [] [(1001005, rt (bb true), HX a r2 lf2)] =
    some (.normal, TI a L L1 L2 L3 (.int .i64 (IntKind.i64.wrap (k - 1))) (.int .i64 k) (bb (decide (0 ≤ k))) (.int .i64 k) (.int .i64 (IntKind.i64.wrap (k - 1))) yv (.int .i64 k) (bb true) (bb false), HX a r2 lf2, [decide (0 ≤ k) = true, CallsV Try.prog (.yield 1005) #[.int .i64 k] (HX a r lf) (rt (bb true)) (HX a r2 lf2)]) := by kernel_rfl
theorem it_end (a r lf : Nat) (k : Int) (L L1 L2 L3 x9 x10 x11 x12 x13 x14 x15 x16 : Value) : runS Try.prog L133 (TI a L L1 L2 L3 (.int .i64 k) x9 x10 x11 x12 x13 x14 x15 x16) (HX a r lf) [f] [] [] =
    some (.exit 0, TI a L L1 L2 L3 (.int .i64 k) (.int .i64 k) (bb (decide (0 ≤ k))) x11 x12 x13 x14 x15 x16, HX a r lf, [decide (0 ≤ k) = false]) := by kernel_rfl
theorem ex_raw (a r lf : Nat) : runB Try.prog 46 #[wv a] [] [] [(58, rt undef)] [(75, rt undef, HX a r lf)] =
    some (rt (xv r lf), [], [PureX Try.prog 58 #[wv a] (rt undef), CallsV Try.prog (.func 75) #[yv, pt 1003] (HX a 0 a) (rt undef) (HX a r lf)]) := by kernel_rfl

end Go.Proofs.Ytpllklojcjhjaaa
