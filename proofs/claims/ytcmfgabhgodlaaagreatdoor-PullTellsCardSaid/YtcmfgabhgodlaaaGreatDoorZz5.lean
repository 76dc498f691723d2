/- Texts of the seat, joined. -/
import Derived.Test.YtcmfgabhgodlaaaGreatDoorZz4
/- What may be asked: package pull's limits. -/
namespace Go.Proofs.YtcmfgabhgodlaaaGreatDoor
open Go Go.RowKit
set_option linter.unusedSimpArgs false
set_option linter.unusedVariables false
set_option maxRecDepth 100000

theorem gl_cell {w : World} (h : GL w) {k : Nat} {v : Value} (hk : (glTab.head!.2)[k]? = some v) : w.cell? ⟨0, k, none⟩ = some v := by
  obtain ⟨T, fr, hh⟩ := h glTab.head! (by exact List.mem_cons_self)
  have e : w.heap[0]? = some (.cells glTab.head!.2 T fr) := hh
  unfold World.cell?
  simp [e, hk]

theorem mki (w : World) : (Instr.makeInterface 24 (.int .i64 2)).run Tryz.prog w = .ok (.iface 24 (.int .i64 2)) w := by kernel_rfl

theorem rb0_lo {x : Int} (w : World) (hg : GL w) (h : x < -2097152) : Calls Tryz.prog 32 #[.int .i64 0, .int .i64 x] w fun e w' => e = .panicked [{ v := .iface 24 (.int .i64 2), recovered := false }] ∧ w = w' := by
  have c0 : w.cell? ⟨0, 0, none⟩ = some (.int .i64 (-2097152)) := gl_cell hg rfl
  have c1 : w.cell? ⟨0, 1, none⟩ = some (.int .i64 (2097152)) := gl_cell hg rfl
  clear hg
  go_enter Tryz.func32, Tryz.ntmps32
  go_wp2
  rw [mki]
  go_wp2
  exact ⟨rfl, rfl, rfl⟩
theorem rb0_hi {x : Int} (w : World) (hg : GL w) (h0 : ¬ x < -2097152) (h : x > 2097152) : Calls Tryz.prog 32 #[.int .i64 0, .int .i64 x] w fun e w' => e = .panicked [{ v := .iface 24 (.int .i64 2), recovered := false }] ∧ w = w' := by
  have c0 : w.cell? ⟨0, 0, none⟩ = some (.int .i64 (-2097152)) := gl_cell hg rfl
  have c1 : w.cell? ⟨0, 1, none⟩ = some (.int .i64 (2097152)) := gl_cell hg rfl
  clear hg
  go_enter Tryz.func32, Tryz.ntmps32
  go_wp2
  rw [mki]
  go_wp2
  exact ⟨rfl, rfl, rfl⟩
theorem rb0_ok {x : Int} (w : World) (hg : GL w) (h0 : ¬ x < -2097152) (h : ¬ x > 2097152) : Calls Tryz.prog 32 #[.int .i64 0, .int .i64 x] w fun e w' => e = .returned (.tuple #[]) ∧ w = w' := by
  have c0 : w.cell? ⟨0, 0, none⟩ = some (.int .i64 (-2097152)) := gl_cell hg rfl
  have c1 : w.cell? ⟨0, 1, none⟩ = some (.int .i64 (2097152)) := gl_cell hg rfl
  clear hg
  go_enter Tryz.func32, Tryz.ntmps32
  go_wp2
  go_end0
  exact ⟨rfl, rfl⟩
theorem rb1_lo {x : Int} (w : World) (hg : GL w) (h : x < 1) : Calls Tryz.prog 32 #[.int .i64 1, .int .i64 x] w fun e w' => e = .panicked [{ v := .iface 24 (.int .i64 2), recovered := false }] ∧ w = w' := by
  have c0 : w.cell? ⟨0, 2, none⟩ = some (.int .i64 (1)) := gl_cell hg rfl
  have c1 : w.cell? ⟨0, 3, none⟩ = some (.int .i64 (2097152)) := gl_cell hg rfl
  clear hg
  go_enter Tryz.func32, Tryz.ntmps32
  go_wp2
  rw [mki]
  go_wp2
  exact ⟨rfl, rfl, rfl⟩
theorem rb1_hi {x : Int} (w : World) (hg : GL w) (h0 : ¬ x < 1) (h : x > 2097152) : Calls Tryz.prog 32 #[.int .i64 1, .int .i64 x] w fun e w' => e = .panicked [{ v := .iface 24 (.int .i64 2), recovered := false }] ∧ w = w' := by
  have c0 : w.cell? ⟨0, 2, none⟩ = some (.int .i64 (1)) := gl_cell hg rfl
  have c1 : w.cell? ⟨0, 3, none⟩ = some (.int .i64 (2097152)) := gl_cell hg rfl
  clear hg
  go_enter Tryz.func32, Tryz.ntmps32
  go_wp2
  rw [mki]
  go_wp2
  exact ⟨rfl, rfl, rfl⟩
theorem rb1_ok {x : Int} (w : World) (hg : GL w) (h0 : ¬ x < 1) (h : ¬ x > 2097152) : Calls Tryz.prog 32 #[.int .i64 1, .int .i64 x] w fun e w' => e = .returned (.tuple #[]) ∧ w = w' := by
  have c0 : w.cell? ⟨0, 2, none⟩ = some (.int .i64 (1)) := gl_cell hg rfl
  have c1 : w.cell? ⟨0, 3, none⟩ = some (.int .i64 (2097152)) := gl_cell hg rfl
  clear hg
  go_enter Tryz.func32, Tryz.ntmps32
  go_wp2
  go_end0
  exact ⟨rfl, rfl⟩
theorem rb2_lo {x : Int} (w : World) (hg : GL w) (h : x < 1) : Calls Tryz.prog 32 #[.int .i64 2, .int .i64 x] w fun e w' => e = .panicked [{ v := .iface 24 (.int .i64 2), recovered := false }] ∧ w = w' := by
  have c0 : w.cell? ⟨0, 4, none⟩ = some (.int .i64 (1)) := gl_cell hg rfl
  have c1 : w.cell? ⟨0, 5, none⟩ = some (.int .i64 (1048576)) := gl_cell hg rfl
  clear hg
  go_enter Tryz.func32, Tryz.ntmps32
  go_wp2
  rw [mki]
  go_wp2
  exact ⟨rfl, rfl, rfl⟩
theorem rb2_hi {x : Int} (w : World) (hg : GL w) (h0 : ¬ x < 1) (h : x > 1048576) : Calls Tryz.prog 32 #[.int .i64 2, .int .i64 x] w fun e w' => e = .panicked [{ v := .iface 24 (.int .i64 2), recovered := false }] ∧ w = w' := by
  have c0 : w.cell? ⟨0, 4, none⟩ = some (.int .i64 (1)) := gl_cell hg rfl
  have c1 : w.cell? ⟨0, 5, none⟩ = some (.int .i64 (1048576)) := gl_cell hg rfl
  clear hg
  go_enter Tryz.func32, Tryz.ntmps32
  go_wp2
  rw [mki]
  go_wp2
  exact ⟨rfl, rfl, rfl⟩
theorem rb2_ok {x : Int} (w : World) (hg : GL w) (h0 : ¬ x < 1) (h : ¬ x > 1048576) : Calls Tryz.prog 32 #[.int .i64 2, .int .i64 x] w fun e w' => e = .returned (.tuple #[]) ∧ w = w' := by
  have c0 : w.cell? ⟨0, 4, none⟩ = some (.int .i64 (1)) := gl_cell hg rfl
  have c1 : w.cell? ⟨0, 5, none⟩ = some (.int .i64 (1048576)) := gl_cell hg rfl
  clear hg
  go_enter Tryz.func32, Tryz.ntmps32
  go_wp2
  go_end0
  exact ⟨rfl, rfl⟩
theorem rb3_lo {x : Int} (w : World) (hg : GL w) (h : x < 1) : Calls Tryz.prog 32 #[.int .i64 3, .int .i64 x] w fun e w' => e = .panicked [{ v := .iface 24 (.int .i64 2), recovered := false }] ∧ w = w' := by
  have c0 : w.cell? ⟨0, 6, none⟩ = some (.int .i64 (1)) := gl_cell hg rfl
  have c1 : w.cell? ⟨0, 7, none⟩ = some (.int .i64 (1024)) := gl_cell hg rfl
  clear hg
  go_enter Tryz.func32, Tryz.ntmps32
  go_wp2
  rw [mki]
  go_wp2
  exact ⟨rfl, rfl, rfl⟩
theorem rb3_hi {x : Int} (w : World) (hg : GL w) (h0 : ¬ x < 1) (h : x > 1024) : Calls Tryz.prog 32 #[.int .i64 3, .int .i64 x] w fun e w' => e = .panicked [{ v := .iface 24 (.int .i64 2), recovered := false }] ∧ w = w' := by
  have c0 : w.cell? ⟨0, 6, none⟩ = some (.int .i64 (1)) := gl_cell hg rfl
  have c1 : w.cell? ⟨0, 7, none⟩ = some (.int .i64 (1024)) := gl_cell hg rfl
  clear hg
  go_enter Tryz.func32, Tryz.ntmps32
  go_wp2
  rw [mki]
  go_wp2
  exact ⟨rfl, rfl, rfl⟩
theorem rb3_ok {x : Int} (w : World) (hg : GL w) (h0 : ¬ x < 1) (h : ¬ x > 1024) : Calls Tryz.prog 32 #[.int .i64 3, .int .i64 x] w fun e w' => e = .returned (.tuple #[]) ∧ w = w' := by
  have c0 : w.cell? ⟨0, 6, none⟩ = some (.int .i64 (1)) := gl_cell hg rfl
  have c1 : w.cell? ⟨0, 7, none⟩ = some (.int .i64 (1024)) := gl_cell hg rfl
  clear hg
  go_enter Tryz.func32, Tryz.ntmps32
  go_wp2
  go_end0
  exact ⟨rfl, rfl⟩
theorem rb4_lo {x : Int} (w : World) (hg : GL w) (h : x < -2097152) : Calls Tryz.prog 32 #[.int .i64 4, .int .i64 x] w fun e w' => e = .panicked [{ v := .iface 24 (.int .i64 2), recovered := false }] ∧ w = w' := by
  have c0 : w.cell? ⟨0, 8, none⟩ = some (.int .i64 (-2097152)) := gl_cell hg rfl
  have c1 : w.cell? ⟨0, 9, none⟩ = some (.int .i64 (2097152)) := gl_cell hg rfl
  clear hg
  go_enter Tryz.func32, Tryz.ntmps32
  go_wp2
  rw [mki]
  go_wp2
  exact ⟨rfl, rfl, rfl⟩
theorem rb4_hi {x : Int} (w : World) (hg : GL w) (h0 : ¬ x < -2097152) (h : x > 2097152) : Calls Tryz.prog 32 #[.int .i64 4, .int .i64 x] w fun e w' => e = .panicked [{ v := .iface 24 (.int .i64 2), recovered := false }] ∧ w = w' := by
  have c0 : w.cell? ⟨0, 8, none⟩ = some (.int .i64 (-2097152)) := gl_cell hg rfl
  have c1 : w.cell? ⟨0, 9, none⟩ = some (.int .i64 (2097152)) := gl_cell hg rfl
  clear hg
  go_enter Tryz.func32, Tryz.ntmps32
  go_wp2
  rw [mki]
  go_wp2
  exact ⟨rfl, rfl, rfl⟩
theorem rb4_ok {x : Int} (w : World) (hg : GL w) (h0 : ¬ x < -2097152) (h : ¬ x > 2097152) : Calls Tryz.prog 32 #[.int .i64 4, .int .i64 x] w fun e w' => e = .returned (.tuple #[]) ∧ w = w' := by
  have c0 : w.cell? ⟨0, 8, none⟩ = some (.int .i64 (-2097152)) := gl_cell hg rfl
  have c1 : w.cell? ⟨0, 9, none⟩ = some (.int .i64 (2097152)) := gl_cell hg rfl
  clear hg
  go_enter Tryz.func32, Tryz.ntmps32
  go_wp2
  go_end0
  exact ⟨rfl, rfl⟩
theorem rb5_lo {x : Int} (w : World) (hg : GL w) (h : x < 0) : Calls Tryz.prog 32 #[.int .i64 5, .int .i64 x] w fun e w' => e = .panicked [{ v := .iface 24 (.int .i64 2), recovered := false }] ∧ w = w' := by
  have c0 : w.cell? ⟨0, 10, none⟩ = some (.int .i64 (0)) := gl_cell hg rfl
  have c1 : w.cell? ⟨0, 11, none⟩ = some (.int .i64 (13194139533312)) := gl_cell hg rfl
  clear hg
  go_enter Tryz.func32, Tryz.ntmps32
  go_wp2
  rw [mki]
  go_wp2
  exact ⟨rfl, rfl, rfl⟩
theorem rb5_hi {x : Int} (w : World) (hg : GL w) (h0 : ¬ x < 0) (h : x > 13194139533312) : Calls Tryz.prog 32 #[.int .i64 5, .int .i64 x] w fun e w' => e = .panicked [{ v := .iface 24 (.int .i64 2), recovered := false }] ∧ w = w' := by
  have c0 : w.cell? ⟨0, 10, none⟩ = some (.int .i64 (0)) := gl_cell hg rfl
  have c1 : w.cell? ⟨0, 11, none⟩ = some (.int .i64 (13194139533312)) := gl_cell hg rfl
  clear hg
  go_enter Tryz.func32, Tryz.ntmps32
  go_wp2
  rw [mki]
  go_wp2
  exact ⟨rfl, rfl, rfl⟩
theorem rb5_ok {x : Int} (w : World) (hg : GL w) (h0 : ¬ x < 0) (h : ¬ x > 13194139533312) : Calls Tryz.prog 32 #[.int .i64 5, .int .i64 x] w fun e w' => e = .returned (.tuple #[]) ∧ w = w' := by
  have c0 : w.cell? ⟨0, 10, none⟩ = some (.int .i64 (0)) := gl_cell hg rfl
  have c1 : w.cell? ⟨0, 11, none⟩ = some (.int .i64 (13194139533312)) := gl_cell hg rfl
  clear hg
  go_enter Tryz.func32, Tryz.ntmps32
  go_wp2
  go_end0
  exact ⟨rfl, rfl⟩

/-- The limits of each place. -/
def limA (p : Nat) : Int := match p with | 0 => -2097152 | 4 => -2097152 | 5 => 0 | _ => 1
def limB (p : Nat) : Int := match p with | 0 => 2097152 | 1 => 2097152 | 2 => 1048576 | 3 => 1024 | 4 => 2097152 | _ => 13194139533312
/-- A number that is between them. -/
theorem rb_ok {p : Nat} (hp : p < 6) {x : Int} (h0 : limA p ≤ x) (h1 : x ≤ limB p) : PureX Tryz.prog 32 #[.int .i64 p, .int .i64 x] (.ret (.tuple #[])) := by
  intro w hg
  have key : Calls Tryz.prog 32 #[.int .i64 p, .int .i64 x] w fun e w' => e = .returned (.tuple #[]) ∧ w = w' := by
    rcases (show p = 0 ∨ p = 1 ∨ p = 2 ∨ p = 3 ∨ p = 4 ∨ p = 5 by omega) with rfl | rfl | rfl | rfl | rfl | rfl <;> simp only [limA, limB] at h0 h1
    · exact rb0_ok w hg (by omega) (by omega)
    · exact rb1_ok w hg (by omega) (by omega)
    · exact rb2_ok w hg (by omega) (by omega)
    · exact rb3_ok w hg (by omega) (by omega)
    · exact rb4_ok w hg (by omega) (by omega)
    · exact rb5_ok w hg (by omega) (by omega)
  refine key.mono ?_
  rintro e w' ⟨rfl, rfl⟩
  exact ⟨rfl, Below.refl _ _⟩
/-- One that is not. -/
theorem rb_no {p : Nat} (hp : p < 6) {x : Int} (h : x < limA p ∨ limB p < x) : PureX Tryz.prog 32 #[.int .i64 p, .int .i64 x] (.pan [{ v := .iface 24 (.int .i64 2), recovered := false }]) := by
  intro w hg
  have key : Calls Tryz.prog 32 #[.int .i64 p, .int .i64 x] w fun e w' => e = .panicked [{ v := .iface 24 (.int .i64 2), recovered := false }] ∧ w = w' := by
    rcases (show p = 0 ∨ p = 1 ∨ p = 2 ∨ p = 3 ∨ p = 4 ∨ p = 5 by omega) with rfl | rfl | rfl | rfl | rfl | rfl <;> simp only [limA, limB] at h
    · by_cases h0 : x < -2097152
      · exact rb0_lo w hg h0
      · exact rb0_hi w hg h0 (by omega)
    · by_cases h0 : x < 1
      · exact rb1_lo w hg h0
      · exact rb1_hi w hg h0 (by omega)
    · by_cases h0 : x < 1
      · exact rb2_lo w hg h0
      · exact rb2_hi w hg h0 (by omega)
    · by_cases h0 : x < 1
      · exact rb3_lo w hg h0
      · exact rb3_hi w hg h0 (by omega)
    · by_cases h0 : x < -2097152
      · exact rb4_lo w hg h0
      · exact rb4_hi w hg h0 (by omega)
    · by_cases h0 : x < 0
      · exact rb5_lo w hg h0
      · exact rb5_hi w hg h0 (by omega)
  refine key.mono ?_
  rintro e w' ⟨rfl, rfl⟩
  exact ⟨rfl, Below.refl _ _⟩

end Go.Proofs.YtcmfgabhgodlaaaGreatDoor
