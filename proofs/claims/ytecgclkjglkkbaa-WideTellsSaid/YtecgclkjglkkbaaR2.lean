/- The contract of the document's own function plus, for every eight digits. -/
import Derived.Test.YtecgclkjglkkbaaR1
import Derived.Test.YtecgclkjglkkbaaH1
import Derived.Deep.QuietTactic
import Derived.BigQuiet
namespace Go.Proofs.Ytecgclkjglkkbaa
open Go Go.RowKit Go.Shelf
set_option linter.unusedSimpArgs false
set_option linter.unusedVariables false

def plusStep (f : Nat → Nat) (s : (Nat → Nat) × Nat) (k : Nat) : (Nat → Nat) × Nat := (upd s.1 k ((s.1 k + f k + s.2) % 4294967296), (s.1 k + f k + s.2) / 4294967296)
def plusSt (d f : Nat → Nat) (c : Nat) : Nat → (Nat → Nat) × Nat
  | 0 => (d, c)
  | k + 1 => plusStep f (plusSt d f c k) k
def plusR (d f : Nat → Nat) (c : Nat) : Nat → Nat := (plusSt d f c 8).1

theorem plusSt_fine {d f : Nat → Nat} {c : Nat} (hd : Digs d) (hf : Digs f) (hc : c ≤ 1) : ∀ k, Digs (plusSt d f c k).1 ∧ (plusSt d f c k).2 ≤ 1 := by
  intro k
  induction k with
  | zero => exact ⟨hd, hc⟩
  | succ k ih =>
    obtain ⟨h1, h2⟩ := ih
    have a := h1 k
    have b := hf k
    refine ⟨fun i => ?_, ?_⟩
    · show upd _ k _ i < _
      unfold upd
      split
      · omega
      · exact h1 i
    · show (_ + _ + _) / _ ≤ 1
      omega
theorem plusR_digs {d f : Nat → Nat} {c : Nat} (hd : Digs d) (hf : Digs f) (hc : c ≤ 1) : Digs (plusR d f c) := (plusSt_fine hd hf hc 8).1

theorem At8.drewN {W : World} {B : Nat} {r : Nat → Nat} (h : At8 W B r) (n : Nat) : At8 (W.drewN n) B r := h
theorem below_drewN {n : Nat} {w W : World} (h : Below n w W) (k : Nat) : Below n w (W.drewN k) := ⟨h.os, h.tape, h.output, h.size, h.block⟩

set_option maxRecDepth 100000 in
set_option maxHeartbeats 1000000 in
theorem plus_r (d f : Nat → Nat) (c : Nat) (hd : Digs d) (hf : Digs f) (hc : c ≤ 1) (w : World) : Calls Try.prog 50 #[.agg #[.int .u64 (d 0), .int .u64 (d 1), .int .u64 (d 2), .int .u64 (d 3), .int .u64 (d 4), .int .u64 (d 5), .int .u64 (d 6), .int .u64 (d 7)], .agg #[.int .u64 (f 0), .int .u64 (f 1), .int .u64 (f 2), .int .u64 (f 3), .int .u64 (f 4), .int .u64 (f 5), .int .u64 (f 6), .int .u64 (f 7)], .int .u64 c] w fun e w' =>
    e = .returned (.agg #[.int .u64 (plusR d f c 0), .int .u64 (plusR d f c 1), .int .u64 (plusR d f c 2), .int .u64 (plusR d f c 3), .int .u64 (plusR d f c 4), .int .u64 (plusR d f c 5), .int .u64 (plusR d f c 6), .int .u64 (plusR d f c 7)]) ∧ Below w.heap.size w w' := by
  have hA := ((At8.new w d).alloc (.cells #[.int .u64 (f 0), .int .u64 (f 1), .int .u64 (f 2), .int .u64 (f 3), .int .u64 (f 4), .int .u64 (f 5), .int .u64 (f 6), .int .u64 (f 7)] 54)).alloc (.cells #[.int .u64 0, .int .u64 0, .int .u64 0, .int .u64 0, .int .u64 0, .int .u64 0, .int .u64 0, .int .u64 0] 54)
  have hF := ((At8.new (w.alloc (.cells #[.int .u64 (d 0), .int .u64 (d 1), .int .u64 (d 2), .int .u64 (d 3), .int .u64 (d 4), .int .u64 (d 5), .int .u64 (d 6), .int .u64 (d 7)] 54)) f).alloc (.cells #[.int .u64 0, .int .u64 0, .int .u64 0, .int .u64 0, .int .u64 0, .int .u64 0, .int .u64 0, .int .u64 0] 54))
  rw [World.size_alloc] at hF
  have hZ := At8.new ((w.alloc (.cells #[.int .u64 (d 0), .int .u64 (d 1), .int .u64 (d 2), .int .u64 (d 3), .int .u64 (d 4), .int .u64 (d 5), .int .u64 (d 6), .int .u64 (d 7)] 54)).alloc (.cells #[.int .u64 (f 0), .int .u64 (f 1), .int .u64 (f 2), .int .u64 (f 3), .int .u64 (f 4), .int .u64 (f 5), .int .u64 (f 6), .int .u64 (f 7)] 54)) Zr
  rw [World.size_alloc, World.size_alloc] at hZ
  change At8 (((w.alloc (.cells #[.int .u64 (d 0), .int .u64 (d 1), .int .u64 (d 2), .int .u64 (d 3), .int .u64 (d 4), .int .u64 (d 5), .int .u64 (d 6), .int .u64 (d 7)] 54)).alloc (.cells #[.int .u64 (f 0), .int .u64 (f 1), .int .u64 (f 2), .int .u64 (f 3), .int .u64 (f 4), .int .u64 (f 5), .int .u64 (f 6), .int .u64 (f 7)] 54)).alloc (.cells #[.int .u64 0, .int .u64 0, .int .u64 0, .int .u64 0, .int .u64 0, .int .u64 0, .int .u64 0, .int .u64 0] 54)) _ _ at hZ
  have hB : Below w.heap.size w (((w.alloc (.cells #[.int .u64 (d 0), .int .u64 (d 1), .int .u64 (d 2), .int .u64 (d 3), .int .u64 (d 4), .int .u64 (d 5), .int .u64 (d 6), .int .u64 (d 7)] 54)).alloc (.cells #[.int .u64 (f 0), .int .u64 (f 1), .int .u64 (f 2), .int .u64 (f 3), .int .u64 (f 4), .int .u64 (f 5), .int .u64 (f 6), .int .u64 (f 7)] 54)).alloc (.cells #[.int .u64 0, .int .u64 0, .int .u64 0, .int .u64 0, .int .u64 0, .int .u64 0, .int .u64 0, .int .u64 0] 54)) := (((Below.refl _ w).alloc (Nat.le_refl _) _).alloc (by simp) _).alloc (by simp; omega) _
  go_enter Try.func50, Try.ntmps50
  go_wp2
  obtain ⟨V, hV⟩ : ∃ V, (((w.alloc (.cells #[.int .u64 (d 0), .int .u64 (d 1), .int .u64 (d 2), .int .u64 (d 3), .int .u64 (d 4), .int .u64 (d 5), .int .u64 (d 6), .int .u64 (d 7)] 54)).alloc (.cells #[.int .u64 (f 0), .int .u64 (f 1), .int .u64 (f 2), .int .u64 (f 3), .int .u64 (f 4), .int .u64 (f 5), .int .u64 (f 6), .int .u64 (f 7)] 54)).alloc (.cells #[.int .u64 0, .int .u64 0, .int .u64 0, .int .u64 0, .int .u64 0, .int .u64 0, .int .u64 0, .int .u64 0] 54)) = V := ⟨_, rfl⟩
  rw [hV] at hA hF hZ hB ⊢
  clear hV
  obtain ⟨N, hN⟩ : ∃ N, w.heap.size = N := ⟨_, rfl⟩
  rw [hN] at hA hF hZ hB ⊢
  go_loopw [2, 7] (fun v2 v7 wr => ∃ k : Nat, k ≤ 8 ∧ v7 = .int .i64 k ∧ v2 = .int .u64 (plusSt d f c k).2 ∧ At8 wr N (plusSt d f c k).1 ∧ At8 wr (N + 1) f ∧ At8 wr (N + 1 + 1) Zr ∧ Below N w wr) (fun _ v7 _ => 8 - (intOf v7).toNat)
  case atStart => exact ⟨0, by omega, rfl, rfl, hA, hF, hZ, hB⟩
  case round =>
    clear hA hZ hB hF
    obtain ⟨k, hk, rfl, rfl, hA, hF, hZ, hB⟩ := hrel
    by_cases hlt : k < 8
    · have hki : (k : Int) < 8 := by omega
      obtain ⟨h1, h2⟩ := plusSt_fine hd hf hc k
      have hs : ∀ n, At8 _ _ _ := fun n => (hA.drewN n).set k (((plusSt d f c k).1 k + f k + (plusSt d f c k).2) % 4294967296) hlt
      have E2 : (plusSt d f c (k + 1)).2 = ((plusSt d f c k).1 k + f k + (plusSt d f c k).2) / 4294967296 := rfl
      change ∀ n, At8 _ _ (plusSt d f c (k + 1)).1 at hs
      have g1 := h1 k
      have g2 := hf k
      have c1 := hA.cell k hlt
      have f1 := hA.frozen k
      have c2 := hF.cell k hlt
      obtain ⟨s2, hs2⟩ : ∃ s, (plusSt d f c (k + 1)).2 = s := ⟨_, rfl⟩
      obtain ⟨s1, hs1⟩ : ∃ s, (plusSt d f c (k + 1)).1 = s := ⟨_, rfl⟩
      rw [hs1] at hs
      rw [hs2] at E2
      have HS1 := Lib.hid hs1
      have HS2 := Lib.hid hs2
      clear hs1 hs2
      generalize (plusSt d f c k).2 = q2 at *
      generalize hq1 : (plusSt d f c k).1 = q1 at *
      obtain ⟨x, hx⟩ : ∃ x, q1 k = x := ⟨_, rfl⟩
      obtain ⟨y, hy⟩ : ∃ y, f k = y := ⟨_, rfl⟩
      rw [hx] at c1 hs E2 g1
      rw [hy] at c2 hs E2 g2
      have E : Hid (((x : Int) + (y : Int) + (q2 : Int)) % 4294967296 = (((x + y + q2) % 4294967296 : Nat) : Int)) := Lib.hid (by omega)
      have F : Hid (((x : Int) + (y : Int) + (q2 : Int)) / 4294967296 = ((s2 : Nat) : Int)) := Lib.hid (by omega)
      clear E2 hx hy hq1 h1
      go_wp2
      go_quiet (fail)
      go_wp2
      go_roundw
      case rel => exact ⟨k + 1, by omega, by go_num, by rw [F.out, HS2.out], by rw [E.out, HS1.out]; exact hs _, hF.other (by omega) _ _, hZ.other (by omega) _ _, (below_drewN hB _).setCell (p := ⟨N, k, none⟩) (Nat.le_refl _) _⟩
      case measure => simp [intOf]; omega
    · obtain rfl : k = 8 := by omega
      change At8 wr N (plusR d f c) at hA
      have c0 := hA.cell 0 (by omega)
      have c1 := hA.cell 1 (by omega)
      have c2 := hA.cell 2 (by omega)
      have c3 := hA.cell 3 (by omega)
      have c4 := hA.cell 4 (by omega)
      have c5 := hA.cell 5 (by omega)
      have c6 := hA.cell 6 (by omega)
      have c7 := hA.cell 7 (by omega)
      have z0 := hZ.cell 0 (by omega)
      have z1 := hZ.cell 1 (by omega)
      have z2 := hZ.cell 2 (by omega)
      have z3 := hZ.cell 3 (by omega)
      have z4 := hZ.cell 4 (by omega)
      have z5 := hZ.cell 5 (by omega)
      have z6 := hZ.cell 6 (by omega)
      have z7 := hZ.cell 7 (by omega)
      have zf0 := hZ.frozen 0
      have zf1 := hZ.frozen 1
      have zf2 := hZ.frozen 2
      have zf3 := hZ.frozen 3
      have zf4 := hZ.frozen 4
      have zf5 := hZ.frozen 5
      have zf6 := hZ.frozen 6
      have zf7 := hZ.frozen 7
      go_wp2
      refine bodyPost_ret (v := .agg #[.int .u64 (plusR d f c 0), .int .u64 (plusR d f c 1), .int .u64 (plusR d f c 2), .int .u64 (plusR d f c 3), .int .u64 (plusR d f c 4), .int .u64 (plusR d f c 5), .int .u64 (plusR d f c 6), .int .u64 (plusR d f c 7)]) (by simp [results, Try.results54, go_sem, z0, z1, z2, z3, z4, z5, z6, z7]) rfl ⟨rfl, ?_⟩
      rw [hN]
      exact below8 hB (by omega) _ _ _ _ _ _ _ _


end Go.Proofs.Ytecgclkjglkkbaa
