/- WordsTells answers true at every input, where the library's tables are as their initialisers lay them. -/
import Derived.Test.YtbdiphffdmakoaaDoorR3
namespace Go.Proofs.YtbdiphffdmakoaaDoor
open Go Go.RowKit Go.MapKept Go.Shelf

theorem join_gen (p : Option Addr) (bk o c : Nat) (xs : List ByteArray) (w : World) (hp : 0 < xs.length → p = some ⟨bk, o, none⟩) (hx : TextsAt w bk o xs) (hz : ∀ x ∈ xs, x.size ≤ 100) (hn : xs.length ≤ 20) (hc : xs.length ≤ c) :
    Calls Tryd.prog 20 #[.slice p xs.length c] w fun e w' => e = .returned (.string (joinR xs)) ∧ Below w.heap.size w w' := by
  by_cases h0 : 0 < xs.length
  · obtain rfl := hp h0
    exact join_any bk o c xs w hx (World.block_lt_of_cell? _ _ (hx.at 0 h0)) (by omega) hc (by have := join_len xs hz; omega)
  · have hxs : xs = [] := List.length_eq_zero_iff.1 (by omega)
    subst hxs
    exact (join_none p c w).mono fun _ _ ⟨he, hw⟩ => by subst hw; exact ⟨he, Below.refl _ _⟩

theorem blank_below (c : Int) (w : World) : Calls Tryd.prog 16 #[.int .i32 c] w fun e w' => e = .returned (.bool (blankB c)) ∧ Below w.heap.size w w' :=
  (blank_any c w).mono fun _ _ ⟨he, hw⟩ => by subst hw; exact ⟨he, (Below.refl _ _).alloc (Nat.le_refl _) _⟩

set_option maxRecDepth 100000 in
set_option maxHeartbeats 1000000 in
theorem tells_long (t s : ByteArray) (n c : Int) (p : Option Addr) (m cap : Nat) (w : World) (h : 400 < t.size ∨ 100 < s.size ∨ 20 < m) (ht : t.size ≤ 9223372036854775807) (hs : s.size ≤ 9223372036854775807) (hm : m ≤ 9223372036854775807) (hT : Tabs w) :
    Calls Tryd.prog 3 #[.string t, .string s, .int .i64 n, .int .i32 c, .slice p m cap] w fun e w' => e = .returned (.bool true) ∧ Below w.heap.size w w' := by
  have hd : decide (400 < (t.size : Int)) = true ∨ (decide (400 < (t.size : Int)) = false ∧ decide (100 < (s.size : Int)) = true) ∨ (decide (400 < (t.size : Int)) = false ∧ decide (100 < (s.size : Int)) = false ∧ decide (20 < (m : Int)) = true) := by
    by_cases h1 : 400 < t.size
    · left; simp; omega
    · by_cases h2 : 100 < s.size
      · right; left; exact ⟨by simp; omega, by simp; omega⟩
      · right; right; exact ⟨by simp; omega, by simp; omega, by simp; omega⟩
  clear h
  rcases hd with d1 | ⟨d1, d2⟩ | ⟨d1, d2, d3⟩
  all_goals
    go_enter Tryd.func3, Tryd.ntmps3
    go_wp2_with (go_at_call 8; refine (wakes_any _ hT).mono ?_; rintro e w2 ⟨rfl, hB2⟩)
    go_ret
    exact ⟨rfl, hB2⟩

set_option maxRecDepth 100000 in
set_option maxHeartbeats 4000000 in
theorem tells_walk (t s : ByteArray) (n c : Int) (p : Option Addr) (bk o cap : Nat) (xs : List ByteArray) (w : World) (ht : t.size ≤ 400) (hs : s.size ≤ 100) (hm : xs.length ≤ 20) (hn0 : -9223372036854775808 ≤ n) (hn1 : n ≤ 9223372036854775807)
    (hp : 0 < xs.length → p = some ⟨bk, o, none⟩) (hx : TextsAt w bk o xs) (hxz : ∀ x ∈ xs, x.size ≤ 9223372036854775807) (hc : xs.length ≤ cap) (hT : Tabs w) :
    Calls Tryd.prog 3 #[.string t, .string s, .int .i64 n, .int .i32 c, .slice p xs.length cap] w fun e w' => e = .returned (.bool true) ∧ Below w.heap.size w w' := by
  have d1 : decide (400 < (t.size : Int)) = false := by simp; omega
  have d2 : decide (100 < (s.size : Int)) = false := by simp; omega
  have d3 : decide (20 < (xs.length : Int)) = false := by simp; omega
  go_enter Tryd.func3, Tryd.ntmps3
  go_wp2
  clear d1 d2 d3
  go_loop [11] (fun v11 => ∃ k : Nat, k ≤ xs.length ∧ v11 = .int .i64 k ∧ Hid (∀ j x, j < k → xs[j]? = some x → x.size ≤ 100)) (fun v11 => xs.length - (intOf v11).toNat)
  case atStart => exact ⟨0, by omega, rfl, Lib.hid (fun j x hj => by omega)⟩
  case round =>
    obtain ⟨k, hk, rfl, HF⟩ := hrel
    by_cases hlt : k < xs.length
    · obtain rfl := hp (by omega)
      have hcell := hx.at k hlt
      have hxk := getD_get xs k hlt
      have hzk := hxz _ (List.mem_of_getElem? hxk)
      obtain ⟨x, hxe⟩ : ∃ x, xs.getD k ⟨#[]⟩ = x := ⟨_, rfl⟩
      rw [hxe] at hcell hxk hzk
      have HXK := Lib.hid hxk
      clear hxe hxk
      by_cases h100 : 100 < x.size
      · have d1 : decide (100 < (x.size : Int)) = true := by simp; omega
        as_aux_lemma =>
          go_wp2_with (go_at_call 8; refine (wakes_any _ hT).mono ?_; rintro e w2 ⟨rfl, hB2⟩)
          go_ret
          exact ⟨rfl, hB2⟩
      · have d1 : decide (100 < (x.size : Int)) = false := by simp; omega
        as_aux_lemma =>
          go_wp2
          go_round
          case rel =>
            refine ⟨k + 1, by omega, by go_num, Lib.hid (fun j y hj hy => ?_)⟩
            by_cases e : j = k
            · subst e
              rw [HXK.out] at hy
              cases hy
              omega
            · exact HF.out j y (by omega) hy
          case measure => simp [intOf]; omega
    · obtain rfl : k = xs.length := by omega
      have hz : ∀ x ∈ xs, x.size ≤ 100 := fun x hx => by
        obtain ⟨j, hj⟩ := List.getElem?_of_mem hx
        exact HF.out j x (List.getElem?_eq_some_iff.1 hj).1 hj
      have HZ := Lib.hid hz
      clear hz HF
      go_wp2_with fail
      refine (split_any t _ (by omega)).mono ?_
      rintro e w1 ⟨v1, rfl, hown1, hB1⟩
      obtain ⟨p1, c1, rfl⟩ := row_slice hown1
      have hT1 := hT.below hB1
      go_wp2_with fail
      refine (refSplit_any t _ (by omega) hT1).mono ?_
      rintro e w2 ⟨v2, rfl, hown2, hB2⟩
      obtain ⟨p2, c2, rfl⟩ := row_slice hown2
      have hB02 := hB1.trans (hB2.mono hB1.size)
      have hown12 := ownsRow_below hown1 hB2
      clear hown1 hB1 hB2
      go_wp2_with fail
      refine (number_any s _ (by unfold maxLen; omega)).mono ?_
      rintro e w3 ⟨rfl, hB3⟩
      have hB03 := hB02.trans (hB3.mono hB02.size)
      have hT3 := hT.below hB03
      have hown13 := ownsRow_below hown12 hB3
      have hown23 := ownsRow_below hown2 hB3
      clear hown12 hown2 hB02 hB3
      go_wp2_with fail
      refine (refNumber_any s _ (by omega) hT3).mono ?_
      rintro e w4 ⟨rfl, hB4⟩
      have hB04 := hB03.trans (hB4.mono hB03.size)
      have hown14 := ownsRow_below hown13 hB4
      have hown24 := ownsRow_below hown23 hB4
      clear hown13 hown23 hB03 hB4
      have hlen : (splitR t).1.length ≤ 1000000 := by
        unfold splitR splitOut
        split
        · simp
        · have := wordsR_len t; simp only; omega
      go_wp2_with fail
      refine (refSame_any p1 p2 _ c1 c2 _ _ (splitR t).1 _ rfl hlen hown14 hown24).mono ?_
      rintro e w5 ⟨rfl, hB5⟩
      have hB05 := hB04.trans (hB5.mono hB04.size)
      clear hown14 hown24 hB04 hB5 hlen
      go_wp2_with fail
      refine (count_below' t _ (by unfold maxLen; omega)).mono ?_
      rintro e w6 ⟨rfl, hB6⟩
      have hB06 := hB05.trans (hB6.mono hB05.size)
      have hT6 := hT.below hB06
      clear hB05 hB6
      go_wp2_with fail
      refine (refCount_any t _ (by omega) hT6).mono ?_
      rintro e w7 ⟨rfl, hB7⟩
      have hB07 := hB06.trans (hB7.mono hB06.size)
      clear hB06 hB7
      go_wp2_with fail
      refine (blank_below c _).mono ?_
      rintro e w8 ⟨rfl, hB8⟩
      have hB08 := hB07.trans (hB8.mono hB07.size)
      have hT8 := hT.below hB08
      clear hB07 hB8
      go_wp2_with fail
      refine (refBlank_any c _).mono ?_
      rintro e w8' ⟨rfl, rfl⟩
      go_wp2_with fail
      refine (put_any n hn0 hn1 _ hT8).mono ?_
      rintro e w9 ⟨rfl, hB9⟩
      have hB09 := hB08.trans (hB9.mono hB08.size)
      have hT9 := hT.below hB09
      clear hB08 hB9
      go_wp2_with fail
      refine (refPut_any n hn0 hn1 _ hT9).mono ?_
      rintro e w10 ⟨rfl, hB10⟩
      have hB010 := hB09.trans (hB10.mono hB09.size)
      have hx10 := hx.below hB010
      clear hB09 hB10
      go_wp2_with fail
      refine (join_gen p bk o cap xs _ hp hx10 HZ.out hm hc).mono ?_
      rintro e w11 ⟨rfl, hB11⟩
      have hB011 := hB010.trans (hB11.mono hB010.size)
      have hx11 := hx.below hB011
      have hT11 := hT.below hB011
      clear hB010 hB11 hx10
      go_wp2_with fail
      refine (refJoin_any p bk o cap xs _ hp hx11 HZ.out hm).mono ?_
      rintro e w11' ⟨rfl, rfl⟩
      go_wp2_with fail
      refine (wakes_any _ hT11).mono ?_
      rintro e w12 ⟨rfl, hB12⟩
      go_wp2_with fail
      go_ret
      exact ⟨rfl, hB011.trans (hB12.mono hB011.size)⟩

end Go.Proofs.YtbdiphffdmakoaaDoor
