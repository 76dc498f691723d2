/- Contracts of the document's own Same and Number (gyreref01). -/
import Derived.Test.YtbdiphffdmakoaaDoorR1
namespace Go.Proofs.YtbdiphffdmakoaaDoor
open Go Go.RowKit Go.MapKept Go.Shelf

theorem row_some' {W : World} {B : Nat} {e : TypeId} {z : Nat} {p : Option Addr} {n c : Nat} {xs : List Value} (h : W.ownsRow B e z (.slice p n c) n xs) (hn : 0 < n) : ∃ g, p = some ⟨g, 0, none⟩ := by
  rcases h.2 with ⟨_, h0⟩ | ⟨g, cap, cur, hv, _⟩
  · omega
  · simp at hv
    exact ⟨g, hv.1⟩

set_option maxRecDepth 100000 in
set_option maxHeartbeats 1000000 in
theorem refSame_any (p p2 : Option Addr) (n c c2 B B2 : Nat) (l : List (Nat × ByteArray)) (w : World) (hn : n = l.length) (hl : n ≤ 1000000) (h1 : w.ownsRow B 38 2 (.slice p n c) n (l.flatMap wordC)) (h2 : w.ownsRow B2 38 2 (.slice p2 n c2) n (l.flatMap wordC)) :
    Calls Tryd.prog 13 #[.slice p n c, .slice p2 n c2] w fun e w' => e = .returned (.bool true) ∧ Below w.heap.size w w' := by
  have HN := Lib.hid hn
  clear hn
  go_enter Tryd.func13, Tryd.ntmps13
  go_wp2
  go_loopw [5] (fun v5 wr => ∃ k : Nat, k ≤ n ∧ v5 = .int .i64 k ∧ Below w.heap.size w wr) (fun v5 _ => n - (intOf v5).toNat)
  case atStart => exact ⟨0, by omega, rfl, Below.refl _ _⟩
  case round =>
    obtain ⟨k, hk, rfl, hB⟩ := hrel
    by_cases hlt : k < n
    · obtain ⟨g, rfl⟩ := row_some' h1 (by omega)
      obtain ⟨g2, rfl⟩ := row_some' h2 (by omega)
      obtain ⟨a, x, hx⟩ : ∃ a x, l[k]? = some (a, x) := by
        have hn := HN.out
        exact ⟨l[k].1, l[k].2, by rw [List.getElem?_eq_getElem (by omega)]⟩
      have hfa := flat_at l k _ hx
      have c0 := ((ownsRow_below h1 hB).cellAt (k * 2) (by omega)).trans hfa.1
      have c1 := ((ownsRow_below h1 hB).cellAt (k * 2 + 1) (by omega)).trans hfa.2
      have e0 := ((ownsRow_below h2 hB).cellAt (k * 2) (by omega)).trans hfa.1
      have e1 := ((ownsRow_below h2 hB).cellAt (k * 2 + 1) (by omega)).trans hfa.2
      clear hfa hx h1 h2
      go_wp2
      go_quiet (fail)
      go_wp2_with fail
      go_roundw
      case rel =>
        have hBd : Below w.heap.size w (wr.drewN nq) := ⟨hB.os, hB.tape, hB.output, hB.size, hB.block⟩
        exact ⟨k + 1, by omega, by go_num, hBd⟩
      case measure => simp [intOf]; omega
    · obtain rfl : k = n := by omega
      go_wp2
      go_ret
      exact ⟨rfl, hB⟩

/-! ### Number -/

theorem digV_mark (c : Int) : (∃ d, d ≤ 9 ∧ markR c = (1, d) ∧ digV c = (d : Int)) ∨ ((markR c).1 ≠ 1 ∧ digV c = -1) := by
  unfold markR digV
  by_cases h0 : c = 45 ∨ c = 8722
  · right
    rw [if_pos h0, if_neg (by omega), if_neg (by omega)]
    exact ⟨by decide, rfl⟩
  · rw [if_neg h0]
    by_cases h1 : 48 ≤ c ∧ c ≤ 57
    · left
      rw [if_pos h1, if_pos h1]
      exact ⟨(c - 48).toNat, by omega, rfl, by omega⟩
    · rw [if_neg h1, if_neg h1]
      by_cases h2 : 65296 ≤ c ∧ c ≤ 65305
      · left
        rw [if_pos h2, if_pos h2]
        exact ⟨(c - 65296).toNat, by omega, rfl, by omega⟩
      · right
        rw [if_neg h2, if_neg h2]
        exact ⟨by decide, rfl⟩

/-- What the document's Number has so far, held against what Number of package words has. -/
structure NumInv (s : ByteArray) (below : Bool) (pos f n many : Nat) (over : Bool) : Prop where
  small : over = false → n ≤ 1152921504606846976
  go : many ≤ 20 → ∃ size, (over = false → size = n) ∧ (over = true → 1152921504606846976 < size) ∧ numF (runesF s f pos) size many below = numF (runes s) 0 0 false
  stop : 20 < many → numF (runes s) 0 0 false = none
  first : 0 < pos ∨ ∀ (r : Nat × Nat × Nat), (runes s).head? = some r → (markR r.2.1).1 ≠ 2

theorem NumInv.bad {s : ByteArray} {below : Bool} {pos f n many : Nat} {over : Bool} (h : NumInv s below pos (f + 1) n many over) (hp : pos < s.size) (h0 : pos = 0 → f + 1 = s.size) (hm : (markR (Utf8.decode s pos).1).1 ≠ 1) : numR s = (0, 12) := by
  have hn : numF (runes s) 0 0 false = none := by
    by_cases hmm : many ≤ 20
    · obtain ⟨size, _, _, hg⟩ := h.go hmm
      rw [← hg]
      simp only [runesF, hp, if_true, numF]
      rw [if_neg ?_, if_neg (fun e => hm e.1)]
      rintro ⟨e1, e2⟩
      rcases h.first with hf | hf
      · omega
      · have e3 := h0 e2
        refine hf (pos, (Utf8.decode s pos).1, (Utf8.decode s pos).2) ?_ e1
        unfold runes
        rw [← e3, e2]
        rw [e2] at hp
        simp [runesF, hp]
    · exact h.stop (by omega)
  unfold numR
  rw [hn]; rfl

theorem NumInv.digit {s : ByteArray} {below : Bool} {pos f n many d : Nat} {over : Bool} (h : NumInv s below pos (f + 1) n many over) (hp : pos < s.size) (hm : markR (Utf8.decode s pos).1 = (1, d)) :
    NumInv s below (pos + (Utf8.decode s pos).2) f (if over || decide ((1152921504606846976 - d) / 10 < n) then n else 10 * n + d) (many + 1) (over || decide ((1152921504606846976 - d) / 10 < n)) := by
  have hw := width_pos s pos hp
  have hd : d ≤ 9 := by
    rcases digV_mark (Utf8.decode s pos).1 with ⟨d', h1, h2, _⟩ | ⟨h1, _⟩
    · rw [hm] at h2; cases h2; exact h1
    · rw [hm] at h1; exact absurd rfl h1
  have hstep : ∀ size, many < 20 → numF (runesF s (f + 1) pos) size many below = numF (runesF s f (pos + (Utf8.decode s pos).2)) (longerN size d) (many + 1) below := fun size hlt => by
    simp only [runesF, hp, if_true]
    exact numF_digit hm hlt
  refine ⟨?_, ?_, ?_, .inl (by omega)⟩
  · intro ho
    simp only [Bool.or_eq_false_iff, decide_eq_false_iff_not] at ho
    rw [if_neg (by simp [ho])]
    omega
  · intro hmany
    obtain ⟨size, h1, h2, h3⟩ := h.go (by omega)
    refine ⟨longerN size d, ?_, ?_, ?_⟩
    · intro ho
      simp only [Bool.or_eq_false_iff, decide_eq_false_iff_not] at ho
      rw [if_neg (by simp [ho])]
      have := h.small ho.1
      rw [h1 ho.1]
      unfold longerN
      rw [if_neg (by omega)]
      omega
    · intro ho
      simp only [Bool.or_eq_true, decide_eq_true_eq] at ho
      unfold longerN
      by_cases hov : over = true
      · have := h2 hov
        rw [if_pos this]; exact this
      · have hov' : over = false := by simpa using hov
        have hbig : (1152921504606846976 - d) / 10 < n := by
          rcases ho with ho | ho
          · exact absurd ho hov
          · exact ho
        have hs := h1 hov'
        have := h.small hov'
        rw [hs, if_neg (by omega)]
        omega
    · rw [← hstep size (by omega)]; exact h3
  · intro hmany
    by_cases hlt : 20 < many
    · exact h.stop hlt
    · obtain ⟨size, _, _, h3⟩ := h.go (by omega)
      rw [← h3]
      simp only [runesF, hp, if_true]
      exact numF_digit_not hm (by omega)

theorem NumInv.out {s : ByteArray} {below : Bool} {pos f n many : Nat} {over : Bool} (h : NumInv s below pos f n many over) (hp : ¬ pos < s.size) :
    numR s = if many < 1 ∨ 20 < many then (0, 12) else if over then (0, 20) else if below then (-(n : Int), 0) else ((n : Int), 0) := by
  unfold numR
  by_cases hm : many ≤ 20
  · obtain ⟨size, h1, h2, h3⟩ := h.go hm
    rw [runesF_end s f pos hp] at h3
    rw [← h3]
    simp only [numF, numOut]
    by_cases h0 : many < 1
    · rw [if_pos (show many = 0 by omega), if_pos (show many < 1 ∨ 20 < many by omega)]
    · rw [if_neg (show ¬ many = 0 by omega), if_neg (show ¬ (many < 1 ∨ 20 < many) by omega)]
      cases over with
      | true => rw [if_pos (h2 rfl)]; rfl
      | false =>
        have e := h1 rfl
        have := h.small rfl
        rw [e, if_neg (by omega)]
        rfl
  · rw [h.stop (by omega), if_pos (by omega)]
    rfl

end Go.Proofs.YtbdiphffdmakoaaDoor
