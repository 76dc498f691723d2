/- Contracts of the document's own small functions (gyreref01: Blank, stands, next), for every input. -/
import Derived.Test.YtbdiphffdmakoaaDoorW6
namespace Go.Proofs.YtbdiphffdmakoaaDoor
open Go Go.RowKit Go.MapKept Go.Shelf

theorem blankB_iff (c : Int) : blankB c = true ↔ (c = 32 ∨ c = 9 ∨ c = 10 ∨ c = 160 ∨ c = 12288) := by
  unfold blankB kindR
  by_cases h : c = 32 ∨ c = 9 ∨ c = 10 ∨ c = 160 ∨ c = 12288
  · simp [h]
  · rw [if_neg h]
    split <;> simp [h]

set_option maxRecDepth 100000 in
set_option maxHeartbeats 400000 in
theorem refBlank_any (c : Int) (w : World) : Calls Tryd.prog 17 #[.int .i32 c] w fun e w' => e = .returned (.bool (blankB c)) ∧ w = w' := by
  by_cases h : c = 32 ∨ c = 9 ∨ c = 10 ∨ c = 160 ∨ c = 12288
  · have H : Hid (blankB c = true) := Lib.hid ((blankB_iff c).2 h)
    rcases h with rfl | rfl | rfl | rfl | rfl
    all_goals
      go_enter Tryd.func17, Tryd.ntmps17
      go_wp2
      go_ret
      rw [H.out]
      exact ⟨rfl, rfl⟩
  · have H : Hid (blankB c = false) := Lib.hid (by
      cases hb : blankB c with
      | true => exact absurd ((blankB_iff c).1 hb) h
      | false => rfl)
    simp only [not_or] at h
    obtain ⟨a0, a1, a2, a3, a4⟩ := h
    have e0 : (c == 32) = false := by simpa using a0
    have e1 : (c == 9) = false := by simpa using a1
    have e2 : (c == 10) = false := by simpa using a2
    have e3 : (c == 160) = false := by simpa using a3
    have e4 : (c == 12288) = false := by simpa using a4
    clear a0 a1 a2 a3 a4
    go_enter Tryd.func17, Tryd.ntmps17
    go_wp2
    go_ret
    rw [H.out]
    exact ⟨rfl, rfl⟩

theorem refBlank_yes (c : Int) (w : World) (h : blankB c = true) : Calls Tryd.prog 17 #[.int .i32 c] w fun e w' => e = .returned (.bool true) ∧ w = w' := by
  have := refBlank_any c w
  rwa [h] at this
theorem refBlank_no (c : Int) (w : World) (h : blankB c = false) : Calls Tryd.prog 17 #[.int .i32 c] w fun e w' => e = .returned (.bool false) ∧ w = w' := by
  have := refBlank_any c w
  rwa [h] at this

/-- May a rune stand? -/
def standB (c : Int) : Bool := kindR c != 2

set_option maxRecDepth 100000 in
set_option maxHeartbeats 400000 in
theorem refStands_any (c : Int) (bad : Bool) (w : World) (hb : bad = true → c = 65533) : Calls Tryd.prog 27 #[.int .i32 c, .bool bad] w fun e w' => e = .returned (.bool (standB c)) ∧ w = w' := by
  cases bad with
  | true =>
    obtain rfl := hb rfl
    have H : Hid (standB 65533 = false) := Lib.hid rfl
    clear hb
    go_enter Tryd.func27, Tryd.ntmps27
    go_wp2
    go_ret
    rw [H.out]
    exact ⟨rfl, rfl⟩
  | false =>
    clear hb
    by_cases h32 : 32 ≤ c
    · by_cases h7 : c = 127
      · subst h7
        have H : Hid (standB 127 = false) := Lib.hid rfl
        clear h32
        go_enter Tryd.func27, Tryd.ntmps27
        go_wp2
        go_ret
        rw [H.out]
        exact ⟨rfl, rfl⟩
      · by_cases hf : c = 65533
        · subst hf
          have H : Hid (standB 65533 = false) := Lib.hid rfl
          clear h32 h7
          go_enter Tryd.func27, Tryd.ntmps27
          go_wp2
          go_ret
          rw [H.out]
          exact ⟨rfl, rfl⟩
        · have H : Hid (standB c = true) := Lib.hid (by
            unfold standB kindR
            split
            · rfl
            · rw [if_neg (by omega)]; rfl)
          have e1 : (c != 127) = true := by simpa using h7
          have e2 : (c != 65533) = true := by simpa using hf
          have e3 : (c == 127) = false := by simpa using h7
          have e4 : (c == 65533) = false := by simpa using hf
          clear h7 hf
          go_enter Tryd.func27, Tryd.ntmps27
          go_wp2
          go_ret
          rw [H.out]
          exact ⟨rfl, rfl⟩
    · have hd : decide (32 ≤ c) = false := by simpa using h32
      have h7 : (c != 127) = true := by simp; omega
      have hf : (c != 65533) = true := by simp; omega
      have e3 : (c == 127) = false := by simp; omega
      have e4 : (c == 65533) = false := by simp; omega
      cases hbl : blankB c with
      | true =>
        have H : Hid (standB c = true) := Lib.hid (by
          unfold blankB at hbl; unfold standB
          have : kindR c = 1 := by simpa using hbl
          rw [this]; rfl)
        have HB := Lib.hid hbl
        clear hbl
        go_enter Tryd.func27, Tryd.ntmps27
        go_wp2_with (go_at_call 17; refine (refBlank_yes _ _ HB.out).mono ?_; rintro e w' ⟨rfl, rfl⟩)
        go_ret
        rw [H.out]
        exact ⟨rfl, rfl⟩
      | false =>
        have H : Hid (standB c = false) := Lib.hid (by
          have hn : ¬ (c = 32 ∨ c = 9 ∨ c = 10 ∨ c = 160 ∨ c = 12288) := fun h => by rw [(blankB_iff c).2 h] at hbl; cases hbl
          unfold standB kindR
          rw [if_neg hn, if_pos (by omega)]; rfl)
        have HB := Lib.hid hbl
        clear hbl
        go_enter Tryd.func27, Tryd.ntmps27
        go_wp2_with (go_at_call 17; refine (refBlank_no _ _ HB.out).mono ?_; rintro e w' ⟨rfl, rfl⟩)
        go_ret
        rw [H.out]
        exact ⟨rfl, rfl⟩

theorem refStands_yes (c : Int) (bad : Bool) (w : World) (hb : bad = true → c = 65533) (h : standB c = true) : Calls Tryd.prog 27 #[.int .i32 c, .bool bad] w fun e w' => e = .returned (.bool true) ∧ w = w' := by
  have := refStands_any c bad w hb
  rwa [h] at this
theorem refStands_no (c : Int) (bad : Bool) (w : World) (hb : bad = true → c = 65533) (h : standB c = false) : Calls Tryd.prog 27 #[.int .i32 c, .bool bad] w fun e w' => e = .returned (.bool false) ∧ w = w' := by
  have := refStands_any c bad w hb
  rwa [h] at this

def badB (t : ByteArray) : Bool := (Lib.decodeGo t).1 == 65533 && (Lib.decodeGo t).2 == 1

theorem badB_rune (t : ByteArray) : badB t = true → ((Lib.decodeGo t).1 : Int) = 65533 := by
  unfold badB
  intro h
  simp at h
  omega

set_option maxRecDepth 100000 in
set_option maxHeartbeats 400000 in
theorem refNext_any (t : ByteArray) (w : World) (hT : Lib.Utf8Tabs 0 1 w) :
    Calls Tryd.prog 26 #[.string t] w fun e w' => e = .returned (.tuple #[.int .i32 (Lib.decodeGo t).1, .int .i64 (Lib.decodeGo t).2, .bool (badB t)]) ∧ Below w.heap.size w w' := by
  by_cases h1 : (Lib.decodeGo t).1 = 65533
  · have e1 : (((Lib.decodeGo t).1 : Int) == 65533) = true := by rw [h1]; rfl
    by_cases h2 : (Lib.decodeGo t).2 = 1
    · have e2 : (((Lib.decodeGo t).2 : Int) == 1) = true := by rw [h2]; rfl
      have H : Hid (badB t = true) := Lib.hid (by simp [badB, h1, h2])
      clear h1 h2
      go_enter Tryd.func26, Tryd.ntmps26
      go_wp2_with (go_at_call 34; refine (Tryd.utf8_DecodeRuneInString _ _ hT).mono ?_; rintro e w' ⟨rfl, hB⟩)
      go_ret3
      rw [H.out]
      exact ⟨rfl, hB⟩
    · have e2 : (((Lib.decodeGo t).2 : Int) == 1) = false := by simp; omega
      have H : Hid (badB t = false) := Lib.hid (by simp [badB, h1, h2])
      clear h1 h2
      go_enter Tryd.func26, Tryd.ntmps26
      go_wp2_with (go_at_call 34; refine (Tryd.utf8_DecodeRuneInString _ _ hT).mono ?_; rintro e w' ⟨rfl, hB⟩)
      go_ret3
      rw [H.out]
      exact ⟨rfl, hB⟩
  · have e1 : (((Lib.decodeGo t).1 : Int) == 65533) = false := by simp; omega
    have H : Hid (badB t = false) := Lib.hid (by simp [badB, h1])
    clear h1
    go_enter Tryd.func26, Tryd.ntmps26
    go_wp2_with (go_at_call 34; refine (Tryd.utf8_DecodeRuneInString _ _ hT).mono ?_; rintro e w' ⟨rfl, hB⟩)
    go_ret3
    rw [H.out]
    exact ⟨rfl, hB⟩

end Go.Proofs.YtbdiphffdmakoaaDoor
