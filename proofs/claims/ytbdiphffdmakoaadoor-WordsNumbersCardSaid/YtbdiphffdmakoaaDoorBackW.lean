/- WordsBack answers true at every row of texts, where the library's tables are as their initialisers lay them. -/
import Derived.Test.YtbdiphffdmakoaaDoorBackP
import Derived.Test.YtbdiphffdmakoaaDoorW7
import Derived.Test.YtbdiphffdmakoaaDoorW10
import Derived.Deep.QuietTactic
import Derived.BigQuiet
namespace Go.Proofs.YtbdiphffdmakoaaDoor
open Go Go.RowKit Go.MapKept Go.Shelf

/-- A row of texts in memory. -/
def TextsAt (w : World) (bk o : Nat) (xs : List ByteArray) : Prop := ∀ (j : Nat) (x : ByteArray), xs[j]? = some x → w.cell? ⟨bk, o + j, none⟩ = some (.string x)

theorem TextsAt.below {w w' : World} {bk o : Nat} {xs : List ByteArray} (h : TextsAt w bk o xs) (hb : Below w.heap.size w w') : TextsAt w' bk o xs := fun j x hj =>
  (hb.cell (World.block_lt_of_cell? _ _ (h j x hj))).trans (h j x hj)

theorem TextsAt.at {w : World} {bk o : Nat} {xs : List ByteArray} (h : TextsAt w bk o xs) (k : Nat) (hk : k < xs.length) : w.cell? ⟨bk, o + k, none⟩ = some (.string (xs.getD k ⟨#[]⟩)) := by
  refine h k _ ?_
  simp [List.getD, hk]

theorem getD_get (xs : List ByteArray) (k : Nat) (hk : k < xs.length) : xs[k]? = some (xs.getD k ⟨#[]⟩) := by simp [List.getD, hk]

theorem stands_yes (s : ByteArray) (w : World) (hs : s.size ≤ 2000000) (hT : Tabs w) (h : standsR s = true) : Calls Tryd.prog 22 #[.string s] w fun e w' => e = .returned (.bool true) ∧ Below w.heap.size w w' := by
  have := refStandsT_any s w hs hT
  rwa [h] at this
theorem stands_no (s : ByteArray) (w : World) (hs : s.size ≤ 2000000) (hT : Tabs w) (h : standsR s = false) : Calls Tryd.prog 22 #[.string s] w fun e w' => e = .returned (.bool false) ∧ Below w.heap.size w w' := by
  have := refStandsT_any s w hs hT
  rwa [h] at this

theorem count_below' (s : ByteArray) (w : World) (hs : s.size ≤ maxLen) : Calls Tryd.prog 14 #[.string s] w fun e w' => e = .returned (.int .i64 (runes s).length) ∧ Below w.heap.size w w' :=
  (count_any s w hs).mono fun _ _ ⟨he, pos, hw⟩ => by subst hw; exact ⟨he, (Below.refl _ _).alloc (Nat.le_refl _) _⟩

/-- More than 20 texts. -/
theorem back_long (p : Option Addr) (n c : Nat) (w : World) (hn : 20 < n) (hn2 : n ≤ 9223372036854775807) (hT : Tabs w) :
    Calls Tryd.prog 4 #[.slice p n c] w fun e w' => e = .returned (.bool true) ∧ Below w.heap.size w w' := by
  go_enter Tryd.func4, Tryd.ntmps4
  go_wp2_with (go_at_call 8; refine (wakes_any _ hT).mono ?_; rintro e w2 ⟨rfl, hB2⟩)
  go_ret
  exact ⟨rfl, hB2⟩

def Fits (xs : List ByteArray) (k : Nat) : Prop := ∀ j x, j < k → xs[j]? = some x → x.size ≤ 100 ∧ standsR x = true

theorem Fits.all {xs : List ByteArray} (h : Fits xs xs.length) : (∀ x ∈ xs, x.size ≤ 100) ∧ ∀ x ∈ xs, IsWord x := by
  have : ∀ x ∈ xs, x.size ≤ 100 ∧ standsR x = true := fun x hx => by
    obtain ⟨j, hj⟩ := List.getElem?_of_mem hx
    exact h j x (List.getElem?_eq_some_iff.1 hj).1 hj
  exact ⟨fun x hx => (this x hx).1, fun x hx => word_of_stands x (this x hx).2⟩

theorem Fits.succ {xs : List ByteArray} {k : Nat} (h : Fits xs k) (hk : k < xs.length) (h1 : (xs.getD k ⟨#[]⟩).size ≤ 100) (h2 : standsR (xs.getD k ⟨#[]⟩) = true) : Fits xs (k + 1) := by
  intro j x hj hx
  by_cases e : j = k
  · subst e
    rw [getD_get xs j hk] at hx
    cases hx
    exact ⟨h1, h2⟩
  · exact h j x (by omega) hx

theorem flat_at : ∀ (l : List (Nat × ByteArray)) (k : Nat) (x : Nat × ByteArray), l[k]? = some x → (l.flatMap wordC)[k * 2]? = some (.int .i64 x.1) ∧ (l.flatMap wordC)[k * 2 + 1]? = some (.string x.2)
  | [], k, x, h => by simp at h
  | y :: r, 0, x, h => by simp at h; subst h; exact ⟨rfl, rfl⟩
  | y :: r, k + 1, x, h => by
    simp only [List.getElem?_cons_succ] at h
    have ih := flat_at r k x h
    rw [List.flatMap_cons]
    have e1 : (k + 1) * 2 = k * 2 + 2 := by omega
    rw [e1]
    exact ⟨by rw [List.getElem?_append_right (by simp [wordC])]; exact ih.1, by rw [List.getElem?_append_right (by simp [wordC])]; exact ih.2⟩

/-- The words that Split hands back, in memory. -/
def WordsAt (w : World) (g : Nat) (l : List (Nat × ByteArray)) : Prop := ∀ (k : Nat) (x : Nat × ByteArray), l[k]? = some x → w.cell? ⟨g, k * 2, none⟩ = some (.int .i64 x.1) ∧ w.cell? ⟨g, k * 2 + 1, none⟩ = some (.string x.2)

theorem WordsAt.below {w w' : World} {g : Nat} {l : List (Nat × ByteArray)} (h : WordsAt w g l) (hb : Below w.heap.size w w') : WordsAt w' g l := fun k x hk =>
  ⟨(hb.cell (World.block_lt_of_cell? _ _ (h k x hk).1)).trans (h k x hk).1, (hb.cell (World.block_lt_of_cell? _ _ (h k x hk).2)).trans (h k x hk).2⟩

theorem wordsAt_of {w : World} {B g cap : Nat} {l : List (Nat × ByteArray)} (h : w.ownsRow B 38 2 (.slice (some ⟨g, 0, none⟩) l.length cap) l.length (l.flatMap wordC)) : WordsAt w g l := fun k x hk => by
  have hlt := (List.getElem?_eq_some_iff.1 hk).1
  exact ⟨(h.cellAt _ (by omega)).trans (flat_at l k x hk).1, (h.cellAt _ (by omega)).trans (flat_at l k x hk).2⟩

set_option maxRecDepth 100000 in
set_option maxHeartbeats 2000000 in
theorem back_walk (bk o c : Nat) (xs : List ByteArray) (w : World) (hx : TextsAt w bk o xs) (hz : ∀ x ∈ xs, x.size ≤ 9223372036854775807) (hn : xs.length ≤ 20) (hn0 : 0 < xs.length) (hc : xs.length ≤ c) (hT : Tabs w) :
    Calls Tryd.prog 4 #[.slice (some ⟨bk, o, none⟩) xs.length c] w fun e w' => e = .returned (.bool true) ∧ Below w.heap.size w w' := by
  go_enter Tryd.func4, Tryd.ntmps4
  go_wp2
  go_loopw [3] (fun v3 wr => ∃ k : Nat, k ≤ xs.length ∧ v3 = .int .i64 k ∧ Fits xs k ∧ Below w.heap.size w wr) (fun v3 _ => xs.length - (intOf v3).toNat)
  case atStart => exact ⟨0, by omega, rfl, fun j x hj => by omega, Below.refl _ _⟩
  case round =>
    obtain ⟨k, hk, rfl, hfit, hB⟩ := hrel
    have hxr := hx.below hB
    have hTr := hT.below hB
    by_cases hlt : k < xs.length
    · have hcell := hxr.at k hlt
      have hzk := hz _ (List.mem_of_getElem? (getD_get xs k hlt))
      obtain ⟨x, hxe⟩ : ∃ x, xs.getD k ⟨#[]⟩ = x := ⟨_, rfl⟩
      have HXE := Lib.hid hxe
      rw [hxe] at hcell hzk
      clear hxe
      by_cases h100 : 100 < x.size
      · have d1 : decide (100 < (x.size : Int)) = true := by simp; omega
        go_wp2_with (go_at_call 8; refine (wakes_any _ hTr).mono ?_; rintro e w2 ⟨rfl, hB2⟩)
        go_ret
        exact ⟨rfl, hB.trans (hB2.mono hB.size)⟩
      · have d1 : decide (100 < (x.size : Int)) = false := by simp; omega
        cases hst : standsR x with
        | false =>
          have HST := Lib.hid hst
          clear hst
          go_wp2_with fail
          refine (stands_no x _ (by omega) hTr HST.out).mono ?_
          rintro e w2 ⟨rfl, hB2⟩
          have hB3 := hB.trans (hB2.mono hB.size)
          have hT3 := hT.below hB3
          go_wp2_with (go_at_call 8; refine (wakes_any _ hT3).mono ?_; rintro e w4 ⟨rfl, hB4⟩)
          go_ret
          exact ⟨rfl, hB3.trans (hB4.mono hB3.size)⟩
        | true =>
          have HST := Lib.hid hst
          clear hst
          go_wp2_with fail
          refine (stands_yes x _ (by omega) hTr HST.out).mono ?_
          rintro e w2 ⟨rfl, hB2⟩
          have hB3 := hB.trans (hB2.mono hB.size)
          go_wp2_with fail
          go_roundw
          case rel => exact ⟨k + 1, by omega, by go_num, hfit.succ hlt (by rw [HXE.out]; omega) (by rw [HXE.out]; exact HST.out), hB3⟩
          case measure => simp [intOf]; omega
    · obtain rfl : k = xs.length := by omega
      obtain ⟨h100, hword⟩ := hfit.all
      have hspec := back_spec xs hword
      have hjs := joinR_size xs h100
      have hat := atOf_le xs h100
      go_wp2_with fail
      refine (join_any bk o c xs _ hxr (World.block_lt_of_cell? _ _ (hxr.at 0 hn0)) (by omega) hc (by have := join_len xs h100; omega)).mono ?_
      rintro e w2 ⟨rfl, hB2⟩
      go_wp2_with fail
      refine (split_any (joinR xs) _ (by omega)).mono ?_
      rintro e w3 ⟨v, rfl, hown, hB3⟩
      rw [hspec] at hown ⊢
      obtain ⟨g, cap, rfl⟩ : ∃ g cap, v = .slice (some ⟨g, 0, none⟩) xs.length cap := by
        have hl := backW_len xs 0
        rcases hown.2 with ⟨_, h0⟩ | ⟨g, cap, _, hv, _⟩
        · simp only at h0; omega
        · exact ⟨g, cap, by rw [← hl]; exact hv⟩
      have hwa : WordsAt w3 g (backW 0 xs) := by
        have hl := backW_len xs 0
        refine wordsAt_of (B := w2.heap.size) (cap := cap) ?_
        rw [hl]
        simp only [hl] at hown
        exact hown
      have hB23 := (hB.trans (hB2.mono hB.size))
      have hB33 := hB23.trans (hB3.mono hB23.size)
      have hx3 := hx.below hB33
      clear hown hspec hB2 hB3 hB23 hxr hTr hB hfit hk
      go_wp2_with fail
      refine (count_below' (joinR xs) _ (by unfold maxLen; omega)).mono ?_
      rintro e w4 ⟨rfl, hB4⟩
      have hB44 := hB33.trans (hB4.mono hB33.size)
      have hx4 := hx.below hB44
      have hw4 := hwa.below hB4
      clear hB33 hB4 hx3 hwa
      go_wp2_with fail
      go_loopw [8, 9] (fun v8 v9 wr => ∃ k : Nat, k ≤ xs.length ∧ v9 = .int .i64 k ∧ v8 = .int .i64 (atOf xs k) ∧ Below w4.heap.size w4 wr) (fun _ v9 _ => xs.length - (intOf v9).toNat)
      case atStart => exact ⟨0, by omega, rfl, by simp [atOf], Below.refl _ _⟩
      case round =>
        obtain ⟨k, hk, rfl, rfl, hBr⟩ := hrel
        have hB5 := hB44.trans (hBr.mono hB44.size)
        by_cases hlt : k < xs.length
        · have hxk := getD_get xs k hlt
          have hcx := (hx4.below hBr).at k hlt
          have hcw := hw4.below hBr k _ (backW_get xs 0 k _ hxk)
          rw [Nat.zero_add] at hcw
          have hat1 := atOf_succ xs k _ hxk
          have hle := hat k
          have hl1 := runes_len (xs.getD k ⟨#[]⟩)
          have hl2 := h100 _ (List.mem_of_getElem? hxk)
          obtain ⟨x, hxe⟩ : ∃ x, xs.getD k ⟨#[]⟩ = x := ⟨_, rfl⟩
          rw [hxe] at hcx hcw hat1 hl1 hl2
          obtain ⟨c0, c1⟩ := hcw
          have HA := Lib.hid hat1
          obtain ⟨a, hae⟩ : ∃ a, atOf xs k = a := ⟨_, rfl⟩
          have HAE := Lib.hid hae
          rw [hae] at c0 hle ⊢
          clear hat1 hxe hxk hae
          go_wp2
          go_quiet (fail)
          go_wp2_with fail
          refine (count_below' x _ (by unfold maxLen; omega)).mono ?_
          rintro e w6 ⟨rfl, hB6⟩
          go_wp2_with fail
          go_roundw
          case rel =>
            have hBd : Below w4.heap.size w4 (wr.drewN nq) := ⟨hBr.os, hBr.tape, hBr.output, hBr.size, hBr.block⟩
            exact ⟨k + 1, by omega, by go_num, by rw [HA.out, HAE.out]; simp, hBd.trans (hB6.mono hBd.size)⟩
          case measure => simp [intOf]; omega
        · obtain rfl : k = xs.length := by omega
          have hT5 := hT.below hB5
          go_wp2_with (go_at_call 8; refine (wakes_any _ hT5).mono ?_; rintro e w6 ⟨rfl, hB6⟩)
          go_ret
          exact ⟨rfl, hB5.trans (hB6.mono hB5.size)⟩

theorem ws0 : splitR ⟨#[]⟩ = ([], 0, 0) := by kernel_rfl
theorem wc0 : (runes ⟨#[]⟩).length = 0 := by kernel_rfl

theorem split_empty (w : World) : Calls Tryd.prog 9 #[.string ⟨#[]⟩] w fun e w' => ∃ p c, e = .returned (.tuple #[.slice p 0 c, .int .i64 0, .int .i64 0]) ∧ Below w.heap.size w w' :=
  (split_any ⟨#[]⟩ w (by decide)).mono fun _ _ ⟨v, he, hown, hB⟩ => by
    rw [ws0] at he hown
    obtain ⟨p, c, rfl⟩ := row_slice hown
    exact ⟨p, c, he, hB⟩

theorem count_empty (w : World) : Calls Tryd.prog 14 #[.string ⟨#[]⟩] w fun e w' => e = .returned (.int .i64 0) ∧ Below w.heap.size w w' := by
  have := count_below' ⟨#[]⟩ w (by decide)
  rwa [wc0] at this

set_option maxRecDepth 100000 in
set_option maxHeartbeats 2000000 in
/-- No text at all. -/
theorem back_none (p : Option Addr) (c : Nat) (w : World) (hT : Tabs w) :
    Calls Tryd.prog 4 #[.slice p 0 c] w fun e w' => e = .returned (.bool true) ∧ Below w.heap.size w w' := by
  go_enter Tryd.func4, Tryd.ntmps4
  go_wp2
  go_loopw [3] (fun v3 wr => v3 = .int .i64 0 ∧ wr = w) (fun _ _ => 0)
  case atStart => exact ⟨rfl, rfl⟩
  case round =>
    obtain ⟨rfl, rfl⟩ := hrel
    go_wp2_with fail
    refine (join_none p c _).mono ?_
    rintro e w1 ⟨rfl, rfl⟩
    go_wp2_with fail
    refine (split_empty _).mono ?_
    rintro e w3 ⟨p3, c3, rfl, hB3⟩
    go_wp2_with fail
    refine (count_empty _).mono ?_
    rintro e w4 ⟨rfl, hB4⟩
    have hB44 := hB3.trans (hB4.mono hB3.size)
    have hT4 := hT.below hB44
    clear hB3 hB4
    go_wp2_with fail
    go_loopw [8, 9] (fun v8 v9 wr => v9 = .int .i64 0 ∧ wr = w4) (fun _ _ _ => 0)
    case atStart => exact ⟨rfl, rfl⟩
    case round =>
      obtain ⟨rfl, rfl⟩ := hrel
      go_wp2_with (go_at_call 8; refine (wakes_any _ hT4).mono ?_; rintro e w6 ⟨rfl, hB6⟩)
      go_ret
      exact ⟨rfl, hB44.trans (hB6.mono hB44.size)⟩

end Go.Proofs.YtbdiphffdmakoaaDoor
