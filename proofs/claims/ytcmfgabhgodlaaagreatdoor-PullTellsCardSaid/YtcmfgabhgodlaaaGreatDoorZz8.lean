/- Texts of the seat, joined. -/
import Derived.Shelf.Small.Bits
import Derived.Test.YtcmfgabhgodlaaaGreatDoorProg
import Derived.Test.YtcmfgabhgodlaaaGreatDoorZz4
/- The library contracts at this program (LeadingZeros64, Len64), for every input: each one application of a theorem of the library. -/
namespace Go.Proofs
open Go.Shelf
def Tryz.lays134_ren : Go.Shelf.Ren := ⟨fun | 134 => 109 | 129 => 114 | n => n, fun | 53 => 39 | 3 => 3 | 4 => 4 | 46 => 86 | 5 => 5 | 9 => 9 | n => n, fun | n => n⟩
theorem Tryz.lays134 : Go.Proofs.Lays.n134 Tryz.prog Tryz.lays134_ren := {
  mixed := by kernel_rfl
  f129 := Tryz.func114.trans (congrArg some (by kernel_rfl))
  f134 := Tryz.func109.trans (congrArg some (by kernel_rfl))
  t3 := Tryz.underlying3
  a3 := Tryz.isAgg3
  z3 := Tryz.sizeOf3
  v3 := Tryz.zeroValue3
  t4 := Tryz.underlying4
  a4 := Tryz.isAgg4
  z4 := Tryz.sizeOf4
  v4 := Tryz.zeroValue4
  t5 := Tryz.underlying5
  a5 := Tryz.isAgg5
  z5 := Tryz.sizeOf5
  v5 := Tryz.zeroValue5
  t9 := Tryz.underlying9
  a9 := Tryz.isAgg9
  z9 := Tryz.sizeOf9
  v9 := Tryz.zeroValue9
  t46 := Tryz.underlying86
  a46 := Tryz.isAgg86
  z46 := Tryz.sizeOf86
  v46 := Tryz.zeroValue86
  t53 := Tryz.underlying39
  a53 := Tryz.isAgg39
  z53 := Tryz.sizeOf39
  v53 := Tryz.zeroValue39 }
theorem Tryz.bits_LeadingZeros64 (x : Int) (w : World) (h0 : 0 ≤ x) (h1 : x ≤ 18446744073709551615) :
    Calls Tryz.prog 109 #[.int .u64 x] w fun e w' => e = .returned (.int .i64 (64 - (Lib.bitLen x.toNat : Int))) ∧ w' = w := Any.bits_LeadingZeros64 Tryz.lays134 x w h0 h1
def Tryz.lays129_ren : Go.Shelf.Ren := ⟨fun | 129 => 114 | n => n, fun | 53 => 39 | 3 => 3 | 4 => 4 | 46 => 86 | 5 => 5 | 9 => 9 | n => n, fun | n => n⟩
theorem Tryz.lays129 : Go.Proofs.Lays.n129 Tryz.prog Tryz.lays129_ren := {
  mixed := by kernel_rfl
  f129 := Tryz.func114.trans (congrArg some (by kernel_rfl))
  t3 := Tryz.underlying3
  a3 := Tryz.isAgg3
  z3 := Tryz.sizeOf3
  v3 := Tryz.zeroValue3
  t4 := Tryz.underlying4
  a4 := Tryz.isAgg4
  z4 := Tryz.sizeOf4
  v4 := Tryz.zeroValue4
  t5 := Tryz.underlying5
  a5 := Tryz.isAgg5
  z5 := Tryz.sizeOf5
  v5 := Tryz.zeroValue5
  t9 := Tryz.underlying9
  a9 := Tryz.isAgg9
  z9 := Tryz.sizeOf9
  v9 := Tryz.zeroValue9
  t46 := Tryz.underlying86
  a46 := Tryz.isAgg86
  z46 := Tryz.sizeOf86
  v46 := Tryz.zeroValue86
  t53 := Tryz.underlying39
  a53 := Tryz.isAgg39
  z53 := Tryz.sizeOf39
  v53 := Tryz.zeroValue39 }
theorem Tryz.bits_Len64 (x : Int) (w : World) (h0 : 0 ≤ x) (h1 : x ≤ 18446744073709551615) :
    Calls Tryz.prog 114 #[.int .u64 x] w fun e w' => e = .returned (.int .i64 (Lib.bitLen x.toNat)) ∧ w' = w := Any.bits_Len64 Tryz.lays129 x w h0 h1
end Go.Proofs

/- Mathematics of numbers by words: what takes away, what gives back, one digit of a quotient. -/
namespace Go.Proofs.YtcmfgabhgodlaaaGreatDoor
set_option linter.unusedSimpArgs false
set_option linter.unusedVariables false

/-- A number by its words, the lowest first. -/
def nvl : List Nat → Nat
  | [] => 0
  | x :: r => x + 18446744073709551616 * nvl r
def ws : Nat → Nat → List Nat
  | 0, _ => []
  | k + 1, x => x % 18446744073709551616 :: ws k (x / 18446744073709551616)
def sm64 (l : List Nat) : Prop := ∀ x ∈ l, x < 18446744073709551616
theorem nvl_lt : ∀ l, sm64 l → nvl l < 18446744073709551616 ^ l.length
  | [], _ => by simp [nvl]
  | x :: r, h => by
    have h1 := h x List.mem_cons_self
    have h2 := nvl_lt r (fun y hy => h y (List.mem_cons_of_mem _ hy))
    simp only [nvl, List.length_cons, Nat.pow_succ]
    omega
theorem ws_nvl : ∀ l, sm64 l → ws l.length (nvl l) = l
  | [], _ => rfl
  | x :: r, h => by
    have h1 := h x List.mem_cons_self
    have h2 := ws_nvl r (fun y hy => h y (List.mem_cons_of_mem _ hy))
    simp only [nvl, List.length_cons, ws]
    rw [Nat.add_mul_mod_self_left, Nat.mod_eq_of_lt h1, Nat.add_mul_div_left _ _ (by omega), Nat.div_eq_of_lt h1, Nat.zero_add, h2]
theorem nvl_inj {l m : List Nat} (hl : sm64 l) (hm : sm64 m) (hn : l.length = m.length) (h : nvl l = nvl m) : l = m := by
  rw [← ws_nvl l hl, ← ws_nvl m hm, hn, h]
theorem nvl_ws : ∀ k x, x < 18446744073709551616 ^ k → nvl (ws k x) = x
  | 0, x, h => by simp at h; simp [ws, nvl, h]
  | k + 1, x, h => by
    simp only [ws, nvl]
    rw [nvl_ws k _ (by rw [Nat.pow_succ] at h; exact Nat.div_lt_of_lt_mul (by rw [Nat.mul_comm]; exact h))]
    omega
theorem ws_sm : ∀ k x, sm64 (ws k x)
  | 0, _ => fun _ h => (by cases h)
  | k + 1, x => fun y hy => by
    rcases List.mem_cons.1 hy with rfl | hy
    · omega
    · exact ws_sm k _ y hy
theorem ws_len : ∀ k x, (ws k x).length = k
  | 0, _ => rfl
  | k + 1, x => by rw [ws, List.length_cons, ws_len k]
theorem nvl_append : ∀ l m, nvl (l ++ m) = nvl l + 18446744073709551616 ^ l.length * nvl m
  | [], m => by simp [nvl]
  | x :: r, m => by
    simp only [List.cons_append, nvl, nvl_append r m, List.length_cons, Nat.pow_succ]
    rw [Nat.mul_add, ← Nat.mul_assoc, Nat.mul_comm 18446744073709551616 (_ ^ _)]
    omega

/-- q times v taken away, word by word: the word, and q times v's word, high and low. -/
def taC : List (Nat × Nat × Nat) → Nat → Nat
  | [], c => c
  | (_, h, l) :: r, c => taC r ((h + (l + c + 0) / 18446744073709551616) % 18446744073709551616)
def taO : List (Nat × Nat × Nat) → Nat → Nat → Nat
  | [], _, b => b
  | (w, h, l) :: r, c, b => taO r ((h + (l + c + 0) / 18446744073709551616) % 18446744073709551616) (if w < (l + c + 0) % 18446744073709551616 + b then 1 else 0)
def taL : List (Nat × Nat × Nat) → Nat → Nat → List Nat
  | [], _, _ => []
  | (w, h, l) :: r, c, b => (w + 18446744073709551616 - (l + c + 0) % 18446744073709551616 - b) % 18446744073709551616 :: taL r ((h + (l + c + 0) / 18446744073709551616) % 18446744073709551616) (if w < (l + c + 0) % 18446744073709551616 + b then 1 else 0)
def tkW (its : List (Nat × Nat × Nat)) (top : Nat) : List Nat := taL its 0 0 ++ [(top + 18446744073709551616 - taC its 0 - taO its 0 0) % 18446744073709551616]
def tkB (its : List (Nat × Nat × Nat)) (top : Nat) : Nat := if top < taC its 0 + taO its 0 0 then 1 else 0
/-- v given back, word by word. -/
def pbW : List Nat → List Nat → Nat → List Nat
  | w :: r, v :: vs, c => (w + v + c) % 18446744073709551616 :: pbW r vs ((w + v + c) / 18446744073709551616)
  | w :: _, [], c => [(w + 0 + c) % 18446744073709551616]
  | [], _, _ => []
def pbC : List Nat → List Nat → Nat → Nat
  | w :: r, v :: vs, c => pbC r vs ((w + v + c) / 18446744073709551616)
  | w :: _, [], c => (w + 0 + c) / 18446744073709551616
  | [], _, c => c

def pvI : List (Nat × Nat × Nat) → Nat
  | [] => 0
  | (_, h, l) :: r => l + h * 18446744073709551616 + 18446744073709551616 * pvI r
def fineI (its : List (Nat × Nat × Nat)) : Prop := ∀ e ∈ its, e.1 < 18446744073709551616 ∧ e.2.2 < 18446744073709551616 ∧ e.2.1 ≤ 18446744073709551614
theorem ta_step {w h l c b : Nat} (hw : w < 18446744073709551616) (hl : l < 18446744073709551616) (hh : h ≤ 18446744073709551614) (hc : c < 18446744073709551616) (hb : b ≤ 1) :
    (w + 18446744073709551616 - (l + c + 0) % 18446744073709551616 - b) % 18446744073709551616 + (l + h * 18446744073709551616) + c + b = w + ((h + (l + c + 0) / 18446744073709551616) % 18446744073709551616 + (if w < (l + c + 0) % 18446744073709551616 + b then 1 else 0)) * 18446744073709551616 := by
  split <;> omega
theorem ta_all : ∀ (its : List (Nat × Nat × Nat)) (c b : Nat), fineI its → c < 18446744073709551616 → b ≤ 1 →
    nvl (taL its c b) + pvI its + c + b = nvl (its.map (·.1)) + (taC its c + taO its c b) * 18446744073709551616 ^ its.length ∧ taC its c < 18446744073709551616 ∧ taO its c b ≤ 1 ∧ sm64 (taL its c b) ∧ (taL its c b).length = its.length
  | [], c, b, _, hc, hb => by simp [taL, taC, taO, nvl, pvI, sm64]; omega
  | (w, h, l) :: r, c, b, hf, hc, hb => by
    obtain ⟨h1, h2, h3⟩ := hf (w, h, l) List.mem_cons_self
    simp only at h1 h2 h3
    have hs := ta_step h1 h2 h3 hc hb
    simp only [taL, taC, taO, nvl, pvI, List.map_cons, List.length_cons]
    have hb' : (if w < (l + c + 0) % 18446744073709551616 + b then 1 else 0) ≤ 1 := by split <;> omega
    have hc' : (h + (l + c + 0) / 18446744073709551616) % 18446744073709551616 < 18446744073709551616 := Nat.mod_lt _ (by omega)
    have hw' : (w + 18446744073709551616 - (l + c + 0) % 18446744073709551616 - b) % 18446744073709551616 < 18446744073709551616 := Nat.mod_lt _ (by omega)
    generalize (w + 18446744073709551616 - (l + c + 0) % 18446744073709551616 - b) % 18446744073709551616 = w' at *
    generalize (h + (l + c + 0) / 18446744073709551616) % 18446744073709551616 = c' at *
    generalize (if w < (l + c + 0) % 18446744073709551616 + b then 1 else 0) = b' at *
    obtain ⟨k1, k2, k3, k4, k5⟩ := ta_all r c' b' (fun e he => hf e (List.mem_cons_of_mem _ he)) hc' hb'
    refine ⟨?_, k2, k3, fun x hx => ?_, by rw [k5]⟩
    · rw [Nat.pow_succ, ← Nat.mul_assoc]
      generalize (taC r c' + taO r c' b') * 18446744073709551616 ^ r.length = Z at *
      generalize nvl (taL r c' b') = R at *
      generalize pvI r = p at *
      generalize nvl (r.map (·.1)) = W at *
      omega
    · rcases List.mem_cons.1 hx with rfl | hx
      · exact hw'
      · exact k4 x hx
theorem ta_top {top C O : Nat} (ht : top < 18446744073709551616) (hC : C < 18446744073709551616) (hO : O ≤ 1) :
    (top + 18446744073709551616 - C - O) % 18446744073709551616 + C + O = top + (if top < C + O then 1 else 0) * 18446744073709551616 ∧ (if top < C + O then 1 else 0) ≤ 1 := by
  split <;> omega
theorem ta_join {t C O B top T p W P : Nat} (e : t + C + O = top + B * 18446744073709551616) (k : T + p = W + (C + O) * P) : T + P * t + p = W + P * top + B * (P * 18446744073709551616) := by
  have e2 := congrArg (· * P) e
  simp only [Nat.add_mul] at e2 k
  rw [Nat.mul_comm P t, Nat.mul_comm P top, Nat.mul_comm P 18446744073709551616, ← Nat.mul_assoc]
  omega
theorem nvl_one (t : Nat) : nvl [t] = t := by rw [nvl, nvl, Nat.mul_zero, Nat.add_zero]
theorem tk_all {its : List (Nat × Nat × Nat)} {top : Nat} (hf : fineI its) (ht : top < 18446744073709551616) :
    nvl (tkW its top) + pvI its = nvl (its.map (·.1) ++ [top]) + tkB its top * 18446744073709551616 ^ (its.length + 1) ∧ tkB its top ≤ 1 ∧ sm64 (tkW its top) ∧ (tkW its top).length = its.length + 1 := by
  obtain ⟨k1, k2, k3, k4, k5⟩ := ta_all its 0 0 hf (by omega) (by omega)
  obtain ⟨e1, e2⟩ := ta_top ht k2 k3
  refine ⟨?_, e2, fun x hx => ?_, by unfold tkW; rw [List.length_append, k5]; rfl⟩
  · unfold tkW tkB
    rw [nvl_append, nvl_append, k5, List.length_map, Nat.pow_succ, nvl_one, nvl_one]
    exact ta_join e1 k1
  · unfold tkW at hx
    rw [List.mem_append, List.mem_singleton] at hx
    rcases hx with hx | hx
    · exact k4 x hx
    · rw [hx]; exact Nat.mod_lt _ (Nat.succ_pos _)
theorem pb_all : ∀ (x v : List Nat) (c : Nat), sm64 x → sm64 v → c ≤ 1 → x.length = v.length + 1 →
    nvl (pbW x v c) + pbC x v c * 18446744073709551616 ^ x.length = nvl x + nvl v + c ∧ pbC x v c ≤ 1 ∧ sm64 (pbW x v c) ∧ (pbW x v c).length = x.length
  | [], v, c, _, _, _, hl => by simp at hl
  | w :: r, [], c, hx, _, hc, hl => by
    have hr : r = [] := by simpa using hl
    subst hr
    have h1 := hx w List.mem_cons_self
    simp only [pbW, pbC, nvl, List.length_cons, List.length_nil]
    refine ⟨by omega, by omega, fun y hy => ?_, trivial⟩
    rw [List.mem_singleton] at hy
    subst hy
    exact Nat.mod_lt _ (by omega)
  | w :: r, v :: vs, c, hx, hv, hc, hl => by
    have h1 := hx w List.mem_cons_self
    have h2 := hv v List.mem_cons_self
    have hc' : (w + v + c) / 18446744073709551616 ≤ 1 := by omega
    have hs : (w + v + c) % 18446744073709551616 + (w + v + c) / 18446744073709551616 * 18446744073709551616 = w + v + c := by omega
    have hw' : (w + v + c) % 18446744073709551616 < 18446744073709551616 := Nat.mod_lt _ (by omega)
    simp only [pbW, pbC, nvl, List.length_cons]
    generalize (w + v + c) % 18446744073709551616 = w' at *
    generalize (w + v + c) / 18446744073709551616 = c' at *
    obtain ⟨k1, k2, k3, k4⟩ := pb_all r vs c' (fun e he => hx e (List.mem_cons_of_mem _ he)) (fun e he => hv e (List.mem_cons_of_mem _ he)) hc' (by simpa using hl)
    refine ⟨?_, k2, fun x hx => ?_, by rw [k4]⟩
    · rw [Nat.pow_succ, ← Nat.mul_assoc]
      generalize pbC r vs c' * 18446744073709551616 ^ r.length = Z at *
      generalize nvl (pbW r vs c') = R at *
      generalize nvl r = p at *
      generalize nvl vs = W at *
      omega
    · rcases List.mem_cons.1 hx with rfl | hx
      · exact hw'
      · exact k3 x hx

/-- A guess of a digit. -/
def gq (h l y : Nat) : Nat := if y ≤ h then 18446744073709551615 else (h * 18446744073709551616 + l) / y
theorem gq_lt {h l y : Nat} (hy : 9223372036854775808 ≤ y) (hl : l < 18446744073709551616) : gq h l y < 18446744073709551616 := by
  unfold gq
  split
  · omega
  · rw [Nat.div_lt_iff_lt_mul (by omega)]
    omega
/-- The guess: never too small, at most two too great. X = H P + X', V = y P + V'. -/
theorem gq_ge {h l y P X' V' : Nat} (hP : 0 < P) (hy : 9223372036854775808 ≤ y) (hX' : X' < P) (hV' : V' < P) (hlt : (h * 18446744073709551616 + l) * P + X' < (y * P + V') * 18446744073709551616) :
    ((h * 18446744073709551616 + l) * P + X') / (y * P + V') ≤ gq h l y := by
  have hVp : 0 < y * P + V' := by have := Nat.mul_pos (show 0 < y by omega) hP; omega
  unfold gq
  split
  · have : ((h * 18446744073709551616 + l) * P + X') / (y * P + V') < 18446744073709551616 := by rw [Nat.div_lt_iff_lt_mul hVp, Nat.mul_comm 18446744073709551616]; exact hlt
    omega
  · rw [Nat.le_div_iff_mul_le (by omega)]
    generalize hX : (h * 18446744073709551616 + l) * P + X' = X at *
    generalize hV : y * P + V' = V at *
    have h1 : X / V * V ≤ X := Nat.div_mul_le_self _ _
    have h2 : X / V * (y * P) ≤ X := Nat.le_trans (Nat.mul_le_mul_left _ (by omega)) h1
    rw [← Nat.mul_assoc] at h2
    generalize h * 18446744073709551616 + l = b at *
    generalize X / V * y = a at *
    have h4 : a * P < (b + 1) * P := by rw [Nat.add_mul, Nat.one_mul]; omega
    have := Nat.lt_of_mul_lt_mul_right h4
    omega
theorem gq_le {h l y P X' V' : Nat} (hP : 0 < P) (hy : 9223372036854775808 ≤ y) (hl : l < 18446744073709551616) (hV' : V' < P) : gq h l y ≤ ((h * 18446744073709551616 + l) * P + X') / (y * P + V') + 2 := by
  have hVp : 0 < y * P + V' := by have := Nat.mul_pos (show 0 < y by omega) hP; omega
  have hg := gq_lt (h := h) (l := l) hy hl
  have h1 : gq h l y * y ≤ h * 18446744073709551616 + l := by
    unfold gq
    split
    · omega
    · exact Nat.div_mul_le_self _ _
  generalize gq h l y = q at *
  generalize h * 18446744073709551616 + l = H at *
  have h2 : q * y * P ≤ H * P := Nat.mul_le_mul_right _ h1
  have h3 : q * V' ≤ 18446744073709551616 * P := Nat.mul_le_mul (by omega) (by omega)
  have h4 : 9223372036854775808 * P ≤ y * P := Nat.mul_le_mul_right _ hy
  have h5 : q * (y * P + V') ≤ H * P + X' + 2 * (y * P + V') := by
    rw [Nat.mul_add, ← Nat.mul_assoc]
    omega
  rcases Nat.lt_or_ge q 2 with h6 | h6
  · exact Nat.le_trans (show q ≤ 2 by omega) (Nat.le_add_left _ _)
  · obtain ⟨k, rfl⟩ : ∃ k, q = k + 2 := ⟨q - 2, by omega⟩
    have h7 : k * (y * P + V') + 2 * (y * P + V') ≤ H * P + X' + 2 * (y * P + V') := by rw [← Nat.add_mul]; exact h5
    have : k ≤ (H * P + X') / (y * P + V') := by rw [Nat.le_div_iff_mul_le hVp]; exact Nat.le_of_add_le_add_right h7
    exact Nat.add_le_add_right this 2
/-- How often is given back, by what the guess is too great. -/
theorem dig_zero {X V q W B T : Nat} (h : W + q * V = X + B * T) (hB : B ≤ 1) (hW : W < T) (hq : q = X / V) (hV : 0 < V) : B = 0 ∧ W = X % V := by
  subst hq
  have := Nat.div_add_mod' X V
  rcases (show B = 0 ∨ B = 1 by omega) with rfl | rfl
  · exact ⟨rfl, by omega⟩
  · omega
theorem dig_more {X V q W B T : Nat} (h : W + q * V = X + B * T) (hB : B ≤ 1) (hW : W < T) (hq : X / V < q) (hV : 0 < V) : B = 1 := by
  rcases (show B = 0 ∨ B = 1 by omega) with rfl | rfl
  · have h1 : X < q * V := (Nat.div_lt_iff_lt_mul hV).1 hq
    omega
  · rfl
theorem dig_back {X V q W W2 C T : Nat} (h : W + (q + 1) * V = X + T) (h2 : W2 + C * T = W + V) (hC : C ≤ 1) (hW : W2 < T) (hV : 0 < V) (hVT : V < T) :
    (q = X / V → C = 1 ∧ W2 = X % V) ∧ (X / V < q → C = 0 ∧ W2 + q * V = X + T) := by
  have hd := Nat.div_add_mod' X V
  rw [Nat.add_mul, Nat.one_mul] at h
  refine ⟨fun hq => ?_, fun hq => ?_⟩
  · subst hq
    rcases (show C = 0 ∨ C = 1 by omega) with rfl | rfl
    · have := Nat.mod_lt X hV
      omega
    · exact ⟨rfl, by omega⟩
  · have h1 : X < q * V := (Nat.div_lt_iff_lt_mul hV).1 hq
    rcases (show C = 0 ∨ C = 1 by omega) with rfl | rfl
    · exact ⟨rfl, by omega⟩
    · omega

end Go.Proofs.YtcmfgabhgodlaaaGreatDoor
