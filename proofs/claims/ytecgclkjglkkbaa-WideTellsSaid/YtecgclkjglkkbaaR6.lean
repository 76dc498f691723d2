/- The contract of the document's own function times: the walk. -/
import Derived.Test.YtecgclkjglkkbaaR5
namespace Go.Proofs.Ytecgclkjglkkbaa
open Go Go.RowKit Go.Shelf
set_option linter.unusedSimpArgs false
set_option linter.unusedVariables false

/-- The blocks of times. -/
def Tb (N : Nat) (w : World) (a b o : Nat → Nat) (W : World) : Prop := At8 W N a ∧ At8 W (N + 1) b ∧ At16 W (N + 1 + 1) Zr ∧ At16 W (N + 1 + 1 + 1) o ∧ Below N w W
theorem tb_drewN {N : Nat} {w W : World} {a b o : Nat → Nat} (h : Tb N w a b o W) (n : Nat) : Tb N w a b o (W.drewN n) := ⟨h.1, h.2.1, h.2.2.1, h.2.2.2.1, below_drewN h.2.2.2.2 n⟩
theorem tb_set {N : Nat} {w W : World} {a b o : Nat → Nat} (h : Tb N w a b o W) (i v : Nat) (hi : i < 16) : Tb N w a b (upd o i v) (W.setCell ⟨N + 1 + 1 + 1, i, none⟩ (.int .u64 v)) :=
  ⟨h.1.other (by omega) _ _, h.2.1.other (by omega) _ _, h.2.2.1.other (by omega) _ _, h.2.2.2.1.set i v hi, h.2.2.2.2.setCell (p := ⟨N + 1 + 1 + 1, i, none⟩) (by show N ≤ N + 1 + 1 + 1; omega) _⟩
theorem tb_new (a b : Nat → Nat) (w : World) : Tb w.heap.size w a b Zr ((((w.alloc (.cells #[.int .u64 (a 0), .int .u64 (a 1), .int .u64 (a 2), .int .u64 (a 3), .int .u64 (a 4), .int .u64 (a 5), .int .u64 (a 6), .int .u64 (a 7)] 54)).alloc (.cells #[.int .u64 (b 0), .int .u64 (b 1), .int .u64 (b 2), .int .u64 (b 3), .int .u64 (b 4), .int .u64 (b 5), .int .u64 (b 6), .int .u64 (b 7)] 54)).alloc (.cells #[.int .u64 0, .int .u64 0, .int .u64 0, .int .u64 0, .int .u64 0, .int .u64 0, .int .u64 0, .int .u64 0, .int .u64 0, .int .u64 0, .int .u64 0, .int .u64 0, .int .u64 0, .int .u64 0, .int .u64 0, .int .u64 0] 61)).alloc (.cells #[.int .u64 0, .int .u64 0, .int .u64 0, .int .u64 0, .int .u64 0, .int .u64 0, .int .u64 0, .int .u64 0, .int .u64 0, .int .u64 0, .int .u64 0, .int .u64 0, .int .u64 0, .int .u64 0, .int .u64 0, .int .u64 0] 61)) := by
  refine ⟨(((At8.new w a).alloc _).alloc _).alloc _, ?_, ?_, ?_, ((((Below.refl _ w).alloc (Nat.le_refl _) _).alloc (by simp) _).alloc (by simp; omega) _).alloc (by simp; omega) _⟩
  · have h := At8.new (w.alloc (.cells #[.int .u64 (a 0), .int .u64 (a 1), .int .u64 (a 2), .int .u64 (a 3), .int .u64 (a 4), .int .u64 (a 5), .int .u64 (a 6), .int .u64 (a 7)] 54)) b
    rw [World.size_alloc] at h
    exact (h.alloc _).alloc _
  · have h := At16.new ((w.alloc (.cells #[.int .u64 (a 0), .int .u64 (a 1), .int .u64 (a 2), .int .u64 (a 3), .int .u64 (a 4), .int .u64 (a 5), .int .u64 (a 6), .int .u64 (a 7)] 54)).alloc (.cells #[.int .u64 (b 0), .int .u64 (b 1), .int .u64 (b 2), .int .u64 (b 3), .int .u64 (b 4), .int .u64 (b 5), .int .u64 (b 6), .int .u64 (b 7)] 54)) Zr
    rw [World.size_alloc, World.size_alloc] at h
    exact h.alloc _
  · have h := At16.new (((w.alloc (.cells #[.int .u64 (a 0), .int .u64 (a 1), .int .u64 (a 2), .int .u64 (a 3), .int .u64 (a 4), .int .u64 (a 5), .int .u64 (a 6), .int .u64 (a 7)] 54)).alloc (.cells #[.int .u64 (b 0), .int .u64 (b 1), .int .u64 (b 2), .int .u64 (b 3), .int .u64 (b 4), .int .u64 (b 5), .int .u64 (b 6), .int .u64 (b 7)] 54)).alloc (.cells #[.int .u64 0, .int .u64 0, .int .u64 0, .int .u64 0, .int .u64 0, .int .u64 0, .int .u64 0, .int .u64 0, .int .u64 0, .int .u64 0, .int .u64 0, .int .u64 0, .int .u64 0, .int .u64 0, .int .u64 0, .int .u64 0] 61)) Zr
    rw [World.size_alloc, World.size_alloc, World.size_alloc] at h
    exact h

set_option maxRecDepth 100000 in
set_option maxHeartbeats 4000000 in
theorem times_r (a b : Nat → Nat) (ha : Digs a) (hb : Digs b) (w : World) : Calls Try.prog 57 #[.agg #[.int .u64 (a 0), .int .u64 (a 1), .int .u64 (a 2), .int .u64 (a 3), .int .u64 (a 4), .int .u64 (a 5), .int .u64 (a 6), .int .u64 (a 7)], .agg #[.int .u64 (b 0), .int .u64 (b 1), .int .u64 (b 2), .int .u64 (b 3), .int .u64 (b 4), .int .u64 (b 5), .int .u64 (b 6), .int .u64 (b 7)]] w fun ee w' => ee = .returned (.agg #[.int .u64 (timesR a b 0), .int .u64 (timesR a b 1), .int .u64 (timesR a b 2), .int .u64 (timesR a b 3), .int .u64 (timesR a b 4), .int .u64 (timesR a b 5), .int .u64 (timesR a b 6), .int .u64 (timesR a b 7), .int .u64 (timesR a b 8), .int .u64 (timesR a b 9), .int .u64 (timesR a b 10), .int .u64 (timesR a b 11), .int .u64 (timesR a b 12), .int .u64 (timesR a b 13), .int .u64 (timesR a b 14), .int .u64 (timesR a b 15)]) ∧ Below w.heap.size w w' := by
  have hT := tb_new a b w
  go_enter Try.func57, Try.ntmps57
  go_wp2
  obtain ⟨V, hV⟩ : ∃ V, ((((w.alloc (.cells #[.int .u64 (a 0), .int .u64 (a 1), .int .u64 (a 2), .int .u64 (a 3), .int .u64 (a 4), .int .u64 (a 5), .int .u64 (a 6), .int .u64 (a 7)] 54)).alloc (.cells #[.int .u64 (b 0), .int .u64 (b 1), .int .u64 (b 2), .int .u64 (b 3), .int .u64 (b 4), .int .u64 (b 5), .int .u64 (b 6), .int .u64 (b 7)] 54)).alloc (.cells #[.int .u64 0, .int .u64 0, .int .u64 0, .int .u64 0, .int .u64 0, .int .u64 0, .int .u64 0, .int .u64 0, .int .u64 0, .int .u64 0, .int .u64 0, .int .u64 0, .int .u64 0, .int .u64 0, .int .u64 0, .int .u64 0] 61)).alloc (.cells #[.int .u64 0, .int .u64 0, .int .u64 0, .int .u64 0, .int .u64 0, .int .u64 0, .int .u64 0, .int .u64 0, .int .u64 0, .int .u64 0, .int .u64 0, .int .u64 0, .int .u64 0, .int .u64 0, .int .u64 0, .int .u64 0] 61)) = V := ⟨_, rfl⟩
  rw [hV] at hT ⊢
  clear hV
  obtain ⟨N, hN⟩ : ∃ N, w.heap.size = N := ⟨_, rfl⟩
  rw [hN] at hT ⊢
  go_loopw [6] (fun v6 wr => ∃ i : Nat, i ≤ 8 ∧ v6 = .int .i64 i ∧ Tb N w a b (tOut a b i) wr) (fun v6 _ => 8 - (intOf v6).toNat)
  case atStart => exact ⟨0, by omega, rfl, hT⟩
  case round =>
    clear hT
    obtain ⟨i, hi, rfl, hT⟩ := hrel
    by_cases hlt : i < 8
    · have hii : (i : Int) < 8 := by omega
      have ho := tOut_digs ha hb i
      have HE : Hid (tOut a b (i + 1) = tRow a b i (tOut a b i)) := Lib.hid rfl
      generalize hoo : tOut a b i = o at *
      clear hoo
      have ca := hT.1.cell i hlt
      have xi := ha i
      obtain ⟨x, hx⟩ : ∃ x, a i = x := ⟨_, rfl⟩
      rw [hx] at ca xi
      by_cases h0 : x = 0
      · subst h0
        have HX := Lib.hid hx
        clear hx
        go_wp2
        go_roundw
        case rel => exact ⟨i + 1, by omega, by go_num, by rw [HE.out, tRow, if_pos HX.out]; exact hT⟩
        case measure => simp [intOf]; omega
      · have HX := Lib.hid hx
        clear hx
        have hx1 : ((x : Int) == 0) = false := by rw [beq_eq_false_iff_ne]; omega
        go_wp2
        obtain ⟨wo, rfl⟩ : ∃ wo : World, wo = wr := ⟨_, rfl⟩
        go_loopw [7, 8] (fun v7 v8 wr => ∃ k : Nat, k ≤ 8 ∧ v8 = .int .i64 k ∧ v7 = .int .u64 (tIn a b i o k).2 ∧ Tb N w a b (tIn a b i o k).1 wr) (fun _ v8 _ => 8 - (intOf v8).toNat)
        case atStart => exact ⟨0, by omega, rfl, rfl, hT⟩
        case round =>
          clear hT ca
          obtain ⟨k, hk, rfl, rfl, hT⟩ := hrel
          by_cases hkt : k < 8
          · have hki : (k : Int) < 8 := by omega
            obtain ⟨h1, h2⟩ := tIn_fine (i := i) ha hb ho k
            have H1 : Hid ((tIn a b i o (k + 1)).1 = upd (tIn a b i o k).1 (i + k) (((tIn a b i o k).1 (i + k) + a i * b k + (tIn a b i o k).2) % 4294967296)) := Lib.hid rfl
            have H2 : Hid ((tIn a b i o (k + 1)).2 = ((tIn a b i o k).1 (i + k) + a i * b k + (tIn a b i o k).2) / 4294967296) := Lib.hid rfl
            generalize (tIn a b i o k).1 = q1 at *
            generalize (tIn a b i o k).2 = q2 at *
            have c0 := hT.2.2.2.1.cell (i + k) (by omega)
            have f0 := hT.2.2.2.1.frozen (i + k)
            have c1 := hT.1.cell i hlt
            have c2 := hT.2.1.cell k hkt
            have g0 := h1 (i + k)
            have g2 := hb k
            rw [HX.out] at c1 H1 H2
            obtain ⟨y, hy⟩ : ∃ y, b k = y := ⟨_, rfl⟩
            obtain ⟨u, hu⟩ : ∃ u, q1 (i + k) = u := ⟨_, rfl⟩
            rw [hy] at c2 g2 H1 H2
            rw [hu] at c0 g0 H1 H2
            clear hy hu h1 ho
            have m := prod_le xi g2
            have m0 : (0 : Int) ≤ (x : Int) * (y : Int) := Int.mul_nonneg (by omega) (by omega)
            have m1 : (x : Int) * (y : Int) ≤ 18446744065119617025 := by have := Int.ofNat_le.2 m; simpa using this
            have E : Hid (((u : Int) + (x : Int) * (y : Int) + (q2 : Int)) % 4294967296 = (((u + x * y + q2) % 4294967296 : Nat) : Int)) := Lib.hid (by simp)
            have F : Hid (((u : Int) + (x : Int) * (y : Int) + (q2 : Int)) / 4294967296 = (((u + x * y + q2) / 4294967296 : Nat) : Int)) := Lib.hid (by simp)
            clear m
            go_wp2
            go_quiet (fail)
            go_wp2
            go_roundw
            case rel => exact ⟨k + 1, by omega, by go_num, by rw [F.out, H2.out], by rw [E.out, H1.out]; exact tb_set (tb_drewN hT _) (i + k) _ (by omega)⟩
            case measure => simp [intOf]; omega
          · obtain rfl : k = 8 := by omega
            have HE2 : Hid (tOut a b (i + 1) = upd (tIn a b i o 8).1 (i + 8) (tIn a b i o 8).2) := Lib.hid (by rw [HE.out, tRow, if_neg (by rw [HX.out]; exact h0)])
            generalize (tIn a b i o 8).1 = q1 at *
            generalize (tIn a b i o 8).2 = q2 at *
            have c0 := hT.2.2.2.1.cell (i + 8) (by omega)
            have f0 := hT.2.2.2.1.frozen (i + 8)
            go_wp2
            go_roundw
            case rel => exact ⟨i + 1, by omega, by go_num, by rw [HE2.out]; exact tb_set hT (i + 8) _ (by omega)⟩
            case measure => simp [intOf]; omega
    · obtain rfl : i = 8 := by omega
      change Tb N w a b (timesR a b) wr at hT
      have c0 := hT.2.2.2.1.cell 0 (by omega)
      have c1 := hT.2.2.2.1.cell 1 (by omega)
      have c2 := hT.2.2.2.1.cell 2 (by omega)
      have c3 := hT.2.2.2.1.cell 3 (by omega)
      have c4 := hT.2.2.2.1.cell 4 (by omega)
      have c5 := hT.2.2.2.1.cell 5 (by omega)
      have c6 := hT.2.2.2.1.cell 6 (by omega)
      have c7 := hT.2.2.2.1.cell 7 (by omega)
      have c8 := hT.2.2.2.1.cell 8 (by omega)
      have c9 := hT.2.2.2.1.cell 9 (by omega)
      have c10 := hT.2.2.2.1.cell 10 (by omega)
      have c11 := hT.2.2.2.1.cell 11 (by omega)
      have c12 := hT.2.2.2.1.cell 12 (by omega)
      have c13 := hT.2.2.2.1.cell 13 (by omega)
      have c14 := hT.2.2.2.1.cell 14 (by omega)
      have c15 := hT.2.2.2.1.cell 15 (by omega)
      have z0 := hT.2.2.1.cell 0 (by omega)
      have zf0 := hT.2.2.1.frozen 0
      have z1 := hT.2.2.1.cell 1 (by omega)
      have zf1 := hT.2.2.1.frozen 1
      have z2 := hT.2.2.1.cell 2 (by omega)
      have zf2 := hT.2.2.1.frozen 2
      have z3 := hT.2.2.1.cell 3 (by omega)
      have zf3 := hT.2.2.1.frozen 3
      have z4 := hT.2.2.1.cell 4 (by omega)
      have zf4 := hT.2.2.1.frozen 4
      have z5 := hT.2.2.1.cell 5 (by omega)
      have zf5 := hT.2.2.1.frozen 5
      have z6 := hT.2.2.1.cell 6 (by omega)
      have zf6 := hT.2.2.1.frozen 6
      have z7 := hT.2.2.1.cell 7 (by omega)
      have zf7 := hT.2.2.1.frozen 7
      have z8 := hT.2.2.1.cell 8 (by omega)
      have zf8 := hT.2.2.1.frozen 8
      have z9 := hT.2.2.1.cell 9 (by omega)
      have zf9 := hT.2.2.1.frozen 9
      have z10 := hT.2.2.1.cell 10 (by omega)
      have zf10 := hT.2.2.1.frozen 10
      have z11 := hT.2.2.1.cell 11 (by omega)
      have zf11 := hT.2.2.1.frozen 11
      have z12 := hT.2.2.1.cell 12 (by omega)
      have zf12 := hT.2.2.1.frozen 12
      have z13 := hT.2.2.1.cell 13 (by omega)
      have zf13 := hT.2.2.1.frozen 13
      have z14 := hT.2.2.1.cell 14 (by omega)
      have zf14 := hT.2.2.1.frozen 14
      have z15 := hT.2.2.1.cell 15 (by omega)
      have zf15 := hT.2.2.1.frozen 15
      have hNN : N ≤ N + 1 + 1 := by omega
      go_wp2
      refine bodyPost_ret (v := .agg #[.int .u64 (timesR a b 0), .int .u64 (timesR a b 1), .int .u64 (timesR a b 2), .int .u64 (timesR a b 3), .int .u64 (timesR a b 4), .int .u64 (timesR a b 5), .int .u64 (timesR a b 6), .int .u64 (timesR a b 7), .int .u64 (timesR a b 8), .int .u64 (timesR a b 9), .int .u64 (timesR a b 10), .int .u64 (timesR a b 11), .int .u64 (timesR a b 12), .int .u64 (timesR a b 13), .int .u64 (timesR a b 14), .int .u64 (timesR a b 15)]) (by simp [results, Try.results57, go_sem, z0, z1, z2, z3, z4, z5, z6, z7, z8, z9, z10, z11, z12, z13, z14, z15]) rfl ⟨rfl, ?_⟩
      rw [hN]
      exact ((((((((((((((((hT.2.2.2.2.setCell (p := ⟨N + 1 + 1, 0, none⟩) hNN _).setCell (p := ⟨N + 1 + 1, 1, none⟩) hNN _).setCell (p := ⟨N + 1 + 1, 2, none⟩) hNN _).setCell (p := ⟨N + 1 + 1, 3, none⟩) hNN _).setCell (p := ⟨N + 1 + 1, 4, none⟩) hNN _).setCell (p := ⟨N + 1 + 1, 5, none⟩) hNN _).setCell (p := ⟨N + 1 + 1, 6, none⟩) hNN _).setCell (p := ⟨N + 1 + 1, 7, none⟩) hNN _).setCell (p := ⟨N + 1 + 1, 8, none⟩) hNN _).setCell (p := ⟨N + 1 + 1, 9, none⟩) hNN _).setCell (p := ⟨N + 1 + 1, 10, none⟩) hNN _).setCell (p := ⟨N + 1 + 1, 11, none⟩) hNN _).setCell (p := ⟨N + 1 + 1, 12, none⟩) hNN _).setCell (p := ⟨N + 1 + 1, 13, none⟩) hNN _).setCell (p := ⟨N + 1 + 1, 14, none⟩) hNN _).setCell (p := ⟨N + 1 + 1, 15, none⟩) hNN _)

end Go.Proofs.Ytecgclkjglkkbaa
