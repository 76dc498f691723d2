/- The contract of the document's own Stands (gyreref01), for every text of at most 2000000 bytes. -/
import Derived.Test.YtbdiphffdmakoaaDoorW9
import Derived.Test.YtbdiphffdmakoaaDoorP4
namespace Go.Proofs.YtbdiphffdmakoaaDoor
open Go Go.RowKit Go.MapKept Go.Shelf

theorem str_ne {a b : ByteArray} (h : ¬ a = b) : (a.toList == b.toList) = false := by
  simp only [beq_eq_false_iff_ne, ne_eq]
  intro e
  apply h
  apply ba_ext
  rw [← Lib.toList_data, ← Lib.toList_data, e]

/-- The document's Split at a text that is one word, or is not. -/
theorem refSplit_one (s : ByteArray) (w : World) (hs : s.size ≤ 2000000) (hT : Tabs w) (a : Nat) (y : ByteArray) (h1 : (splitR s).1 = [(a, y)]) (h2 : (splitR s).2.2 = 0) :
    Calls Tryd.prog 10 #[.string s] w fun e w' => ∃ g c m, e = .returned (.tuple #[.slice (some ⟨g, 0, none⟩) 1 c, .int .i64 m, .int .i64 0]) ∧ w'.cell? ⟨g, 1, none⟩ = some (.string y) ∧ Below w.heap.size w w' :=
  (refSplit_any s w hs hT).mono fun _ _ ⟨v, he, hown, hB⟩ => by
    rw [h1] at hown
    rw [h2] at he
    obtain ⟨g, c, rfl⟩ := ownsRow_succ hown
    exact ⟨g, c, _, he, hown.cellAt 1 (by decide), hB⟩

theorem refSplit_many (s : ByteArray) (w : World) (hs : s.size ≤ 2000000) (hT : Tabs w) (h2 : (splitR s).2.2 = 0) :
    Calls Tryd.prog 10 #[.string s] w fun e w' => ∃ p c m, e = .returned (.tuple #[.slice p (splitR s).1.length c, .int .i64 m, .int .i64 0]) ∧ Below w.heap.size w w' :=
  (refSplit_any s w hs hT).mono fun _ _ ⟨v, he, hown, hB⟩ => by
    rw [h2] at he
    obtain ⟨p, c, rfl⟩ := row_slice hown
    exact ⟨p, c, _, he, hB⟩

theorem refSplit_err' (s : ByteArray) (w : World) (hs : s.size ≤ 2000000) (hT : Tabs w) :
    Calls Tryd.prog 10 #[.string s] w fun e w' => ∃ v m, e = .returned (.tuple #[v, .int .i64 m, .int .i64 (splitR s).2.2]) ∧ Below w.heap.size w w' :=
  (refSplit_any s w hs hT).mono fun _ _ ⟨v, he, _, hB⟩ => ⟨v, _, he, hB⟩

set_option maxRecDepth 100000 in
set_option maxHeartbeats 1000000 in
theorem refStandsT_any (s : ByteArray) (w : World) (hs : s.size ≤ 2000000) (hT : Tabs w) :
    Calls Tryd.prog 22 #[.string s] w fun e w' => e = .returned (.bool (standsR s)) ∧ Below w.heap.size w w' := by
  by_cases h0 : (splitR s).2.2 = 0
  · by_cases h1 : (splitR s).1.length = 1
    · match hw : (splitR s).1, h1 with
      | [(a, y)], _ =>
        by_cases hy : y = s
        · subst hy
          have H : Hid (standsR y = true) := Lib.hid (by simp [standsR, h0, hw])
          go_enter Tryd.func22, Tryd.ntmps22
          go_wp2_with fail
          refine (refSplit_one y w hs hT a y hw h0).mono ?_
          rintro e w1 ⟨g, c, m, rfl, hc, hB⟩
          clear hw h0 h1
          go_wp2
          go_ret
          rw [H.out]
          exact ⟨rfl, hB⟩
        · have H : Hid (standsR s = false) := Lib.hid (by simp [standsR, h0, hw, hy])
          have hq := str_ne hy
          go_enter Tryd.func22, Tryd.ntmps22
          go_wp2_with fail
          refine (refSplit_one s w hs hT a y hw h0).mono ?_
          rintro e w1 ⟨g, c, m, rfl, hc, hB⟩
          clear hw h0 h1
          go_wp2
          go_ret
          rw [H.out]
          exact ⟨rfl, hB⟩
    · have H : Hid (standsR s = false) := Lib.hid (by simp [standsR, h1])
      have e1 : (((splitR s).1.length : Int) == 1) = false := by simp; omega
      go_enter Tryd.func22, Tryd.ntmps22
      go_wp2_with fail
      refine (refSplit_many s w hs hT h0).mono ?_
      rintro e w1 ⟨p, c, m, rfl, hB⟩
      clear h0 h1
      go_wp2
      go_ret
      rw [H.out]
      exact ⟨rfl, hB⟩
  · have H : Hid (standsR s = false) := Lib.hid (by simp [standsR, h0])
    have e0 : ((splitR s).2.2 == 0) = false := by simpa using h0
    clear h0
    go_enter Tryd.func22, Tryd.ntmps22
    go_wp2_with fail
    refine (refSplit_err' s w hs hT).mono ?_
    rintro e w1 ⟨v, m, rfl, hB⟩
    go_wp2
    go_ret
    rw [H.out]
    exact ⟨rfl, hB⟩

end Go.Proofs.YtbdiphffdmakoaaDoor
