/- Texts of the seat, joined. -/
import Derived.Test.YtmikjgflenbljaaZz67
/- The law StateRows, walked. -/
namespace Go.Proofs.Ytmikjgflenbljaa
open Go Go.RowKit
set_option linter.unusedSimpArgs false
set_option linter.unusedVariables false
set_option maxRecDepth 100000

/-- Two blocks and where they lie. -/
def b2 (B1 u1 B2 u2 : Nat) : Num := fun i => if i = 1 then (B1, u1) else (B2, u2)
theorem b2_1 {B1 u1 B2 u2 : Nat} : b2 B1 u1 B2 u2 1 = (B1, u1) := rfl
theorem b2_2 {B1 u1 B2 u2 : Nat} : b2 B1 u1 B2 u2 2 = (B2, u2) := rfl
theorem fin2 {st : Int} {s r s' r' : Value} {H H' : Hp} {β : Num} {W : World} (hc : CallsV Try.prog (.func 3) #[sv st s, r] H (rt (bb true)) H') (e1 : ren β s = s') (e2 : ren β r = r') (h : ∀ i o, look H i = some o → Lie β W i o) :
    Calls Try.prog 3 #[sv st s', r'] W fun e w' => e = .returned (bb true) ∧ Below W.heap.size W w' :=
  calls_wins hc rfl (by show #[sv st (ren β s), ren β r] = _; rw [e1, e2]) h
theorem lie_wob {β : Num} {w : World} {i B off : Nat} {L : List Bd} (e : β i = (B, capU + off)) (hw : WinAt off (cwb off L) w.heap[B]?) : Lie β w i (wob L) := lie_seen e (fl6_plain L) (seen_of_win (fl := fl6) hw)
theorem fi6_fl1 (L : List Bd) : (L.flatMap fi6).flatMap fl1 = L.flatMap fl6 := by
  induction L with
  | nil => rfl
  | cons b r ih =>
    rw [List.flatMap_cons, List.flatMap_cons, List.flatMap_append, ih]
    rfl
theorem wfA_plain2 (x0 k : Int) (L : List Bd) : wfA noB ⟨ii x0 :: ii k :: L.flatMap fl6⟩ = true := fl6_plain L
theorem lie_wrob {β : Num} {w : World} {i B off : Nat} {x0 k : Int} {L : List Bd} (e : β i = (B, capU + off)) (hw : WinAt off (cwx fl1 off (x0 :: k :: L.flatMap fi6)) w.heap[B]?) : Lie β w i (wrob x0 k L) := by
  have h : (x0 :: k :: L.flatMap fi6).flatMap fl1 = ii x0 :: ii k :: L.flatMap fl6 := by
    rw [List.flatMap_cons, List.flatMap_cons, fi6_fl1]
    rfl
  have g := seen_of_win (fl := fl1) hw
  rw [h] at g
  exact lie_seen e (wfA_plain2 x0 k L) g
/-- What is asked of the call. -/
abbrev Good3 (W : World) (st : Int) (s r : Value) : Prop := Calls Try.prog 3 #[sv st s, r] W fun e w' => e = .returned (bb true) ∧ Below W.heap.size W w'
/-- A list of numbers: nil, no row, or a row. -/
inductive LKind (W : World) : Value → Prop where
  | nil : LKind W sl0
  | no (B off n' cap : Nat) (c : Array Value) (hc : cap ≤ maxLen) (hp : wfA noB c = true) (hw : WinAt off c W.heap[B]?) (h : lPx off n' cap c) : LKind W (slw B off n' cap)
  | k1 (B off cap : Nat) (s2 : Int) (u : Bd) (hc : cap ≤ maxLen) (hw : WinAt off (cwx fl1 off (s2 :: 1 :: ([u] : List Bd).flatMap fi6)) W.heap[B]?) (h : lP1 s2 cap u) : LKind W (slw B off 8 cap)
  | k2 (B off cap : Nat) (s2 : Int) (u v : Bd) (hc : cap ≤ maxLen) (hw : WinAt off (cwx fl1 off (s2 :: 2 :: ([u, v] : List Bd).flatMap fi6)) W.heap[B]?) (h : lP2 s2 cap u v) : LKind W (slw B off 14 cap)
  | k3 (B off cap : Nat) (s2 : Int) (u v w : Bd) (hc : cap ≤ maxLen) (hw : WinAt off (cwx fl1 off (s2 :: 3 :: ([u, v, w] : List Bd).flatMap fi6)) W.heap[B]?) (h : lP3 s2 cap u v w) : LKind W (slw B off 20 cap)
  | k4 (B off cap : Nat) (s2 : Int) (u v w x : Bd) (hc : cap ≤ maxLen) (hw : WinAt off (cwx fl1 off (s2 :: 4 :: ([u, v, w, x] : List Bd).flatMap fi6)) W.heap[B]?) (h : lP4 s2 cap u v w x) : LKind W (slw B off 26 cap)
theorem lkind {W : World} {B off cap : Nat} {N : List Int} (h6 : ¬ 60 < (N.length : Int)) (hl : N.length ≤ cap) (hc : cap ≤ maxLen) (hw : WinAt off (cwx fl1 off N) W.heap[B]?) : LKind W (slw B off N.length cap) := by
  by_cases hq : RowQ N
  · obtain ⟨x0, L, rfl, hr⟩ := hq
    have hr' := rightV_iff.1 hr
    match L, hr, hr', hl, hw with
    | [u], hr, _, hl, hw => exact .k1 B off cap x0 u hc hw (l1_ok x0 cap u ⟨hl, hc⟩ hr)
    | [u, v], hr, _, hl, hw => exact .k2 B off cap x0 u v hc hw (l2_ok x0 cap u v ⟨hl, hc⟩ hr)
    | [u, v, w], hr, _, hl, hw => exact .k3 B off cap x0 u v w hc hw (l3_ok x0 cap u v w ⟨hl, hc⟩ hr)
    | [u, v, w, x], hr, _, hl, hw => exact .k4 B off cap x0 u v w x hc hw (l4_ok x0 cap u v w x ⟨hl, hc⟩ hr)
    | [], _, h, _, _ => exact absurd h.2.1.1 (by decide)
    | _ :: _ :: _ :: _ :: _ :: r, _, h, _, _ => exact absurd h.2.1.2 (by simp)
  · exact .no B off N.length cap _ hc (cwx_plain _ _) hw (lx_ok h6 hl hc hq)
theorem m3_0 {W : World} (st : Int) {r : Value} (hk : LKind W r) : Good3 W st sl0 r := by
  cases hk with
  | nil => exact fin2 (β := b2 0 0 0 0) (c3_00 st ) rfl rfl (fun _ _ h => (by cases h))
  | no B2 off2 n2 cap2 c2 hc2 hp2 hw2 h2 => exact fin2 (β := b2 0 0 B2 0) (c3_0x st off2 n2 cap2 c2 h2) rfl (ren_win b2_2 hc2) (lie_1 (lie_win b2_2 hp2 hw2))
  | k1 B2 off2 cap2 s2 u hc2 hw2 h2 => exact fin2 (β := b2 0 0 B2 (capU + off2)) (c3_01 st s2 cap2 u h2) rfl (ren_seen b2_2 hc2) (lie_1 (lie_wrob b2_2 hw2))
  | k2 B2 off2 cap2 s2 u v hc2 hw2 h2 => exact fin2 (β := b2 0 0 B2 (capU + off2)) (c3_02 st s2 cap2 u v h2) rfl (ren_seen b2_2 hc2) (lie_1 (lie_wrob b2_2 hw2))
  | k3 B2 off2 cap2 s2 u v w hc2 hw2 h2 => exact fin2 (β := b2 0 0 B2 (capU + off2)) (c3_03 st s2 cap2 u v w h2) rfl (ren_seen b2_2 hc2) (lie_1 (lie_wrob b2_2 hw2))
  | k4 B2 off2 cap2 s2 u v w x hc2 hw2 h2 => exact fin2 (β := b2 0 0 B2 (capU + off2)) (c3_04 st s2 cap2 u v w x h2) rfl (ren_seen b2_2 hc2) (lie_1 (lie_wrob b2_2 hw2))
theorem m3_x {W : World} (st : Int) (B1 off1 n1 cap1 : Nat) (c1 : Array Value) (hc1 : cap1 ≤ maxLen) (hp1 : wfA noB c1 = true) (hw1 : WinAt off1 c1 W.heap[B1]?) (hs : sPx st off1 n1 cap1 c1) {r : Value} (hk : LKind W r) : Good3 W st (slw B1 off1 n1 cap1) r := by
  cases hk with
  | nil => exact fin2 (β := b2 B1 0 0 0) (c3_x0 st off1 n1 cap1 c1  hs) (ren_win b2_1 hc1) rfl (lie_1 (lie_win b2_1 hp1 hw1))
  | no B2 off2 n2 cap2 c2 hc2 hp2 hw2 h2 => exact fin2 (β := b2 B1 0 B2 0) (c3_xx st off1 n1 cap1 c1 off2 n2 cap2 c2 hs h2) (ren_win b2_1 hc1) (ren_win b2_2 hc2) (lie_2 (lie_win b2_1 hp1 hw1) (lie_win b2_2 hp2 hw2))
  | k1 B2 off2 cap2 s2 u hc2 hw2 h2 => exact fin2 (β := b2 B1 0 B2 (capU + off2)) (c3_x1 st off1 n1 cap1 c1 s2 cap2 u hs h2) (ren_win b2_1 hc1) (ren_seen b2_2 hc2) (lie_2 (lie_win b2_1 hp1 hw1) (lie_wrob b2_2 hw2))
  | k2 B2 off2 cap2 s2 u v hc2 hw2 h2 => exact fin2 (β := b2 B1 0 B2 (capU + off2)) (c3_x2 st off1 n1 cap1 c1 s2 cap2 u v hs h2) (ren_win b2_1 hc1) (ren_seen b2_2 hc2) (lie_2 (lie_win b2_1 hp1 hw1) (lie_wrob b2_2 hw2))
  | k3 B2 off2 cap2 s2 u v w hc2 hw2 h2 => exact fin2 (β := b2 B1 0 B2 (capU + off2)) (c3_x3 st off1 n1 cap1 c1 s2 cap2 u v w hs h2) (ren_win b2_1 hc1) (ren_seen b2_2 hc2) (lie_2 (lie_win b2_1 hp1 hw1) (lie_wrob b2_2 hw2))
  | k4 B2 off2 cap2 s2 u v w x hc2 hw2 h2 => exact fin2 (β := b2 B1 0 B2 (capU + off2)) (c3_x4 st off1 n1 cap1 c1 s2 cap2 u v w x hs h2) (ren_win b2_1 hc1) (ren_seen b2_2 hc2) (lie_2 (lie_win b2_1 hp1 hw1) (lie_wrob b2_2 hw2))
theorem m3_1 {W : World} (st : Int) (B1 off1 cap1 : Nat) (a : Bd) (hc1 : cap1 ≤ maxLen) (hw1 : WinAt off1 (cwb off1 [a]) W.heap[B1]?) (hs : sP1 st cap1 a) {r : Value} (hk : LKind W r) : Good3 W st (slw B1 off1 1 cap1) r := by
  cases hk with
  | nil => exact fin2 (β := b2 B1 (capU + off1) 0 0) (c3_10 st cap1 a  hs) (ren_seen b2_1 hc1) rfl (lie_1 (lie_wob b2_1 hw1))
  | no B2 off2 n2 cap2 c2 hc2 hp2 hw2 h2 => exact fin2 (β := b2 B1 (capU + off1) B2 0) (c3_1x st cap1 a off2 n2 cap2 c2 hs h2) (ren_seen b2_1 hc1) (ren_win b2_2 hc2) (lie_2 (lie_wob b2_1 hw1) (lie_win b2_2 hp2 hw2))
  | k1 B2 off2 cap2 s2 u hc2 hw2 h2 => exact fin2 (β := b2 B1 (capU + off1) B2 (capU + off2)) (c3_11 st cap1 a s2 cap2 u hs h2) (ren_seen b2_1 hc1) (ren_seen b2_2 hc2) (lie_2 (lie_wob b2_1 hw1) (lie_wrob b2_2 hw2))
  | k2 B2 off2 cap2 s2 u v hc2 hw2 h2 => exact fin2 (β := b2 B1 (capU + off1) B2 (capU + off2)) (c3_12 st cap1 a s2 cap2 u v hs h2) (ren_seen b2_1 hc1) (ren_seen b2_2 hc2) (lie_2 (lie_wob b2_1 hw1) (lie_wrob b2_2 hw2))
  | k3 B2 off2 cap2 s2 u v w hc2 hw2 h2 => exact fin2 (β := b2 B1 (capU + off1) B2 (capU + off2)) (c3_13 st cap1 a s2 cap2 u v w hs h2) (ren_seen b2_1 hc1) (ren_seen b2_2 hc2) (lie_2 (lie_wob b2_1 hw1) (lie_wrob b2_2 hw2))
  | k4 B2 off2 cap2 s2 u v w x hc2 hw2 h2 => exact fin2 (β := b2 B1 (capU + off1) B2 (capU + off2)) (c3_14 st cap1 a s2 cap2 u v w x hs h2) (ren_seen b2_1 hc1) (ren_seen b2_2 hc2) (lie_2 (lie_wob b2_1 hw1) (lie_wrob b2_2 hw2))
theorem m3_2 {W : World} (st : Int) (B1 off1 cap1 : Nat) (a b : Bd) (hc1 : cap1 ≤ maxLen) (hw1 : WinAt off1 (cwb off1 [a, b]) W.heap[B1]?) (hs : sP2 st cap1 a b) {r : Value} (hk : LKind W r) : Good3 W st (slw B1 off1 2 cap1) r := by
  cases hk with
  | nil => exact fin2 (β := b2 B1 (capU + off1) 0 0) (c3_20 st cap1 a b  hs) (ren_seen b2_1 hc1) rfl (lie_1 (lie_wob b2_1 hw1))
  | no B2 off2 n2 cap2 c2 hc2 hp2 hw2 h2 => exact fin2 (β := b2 B1 (capU + off1) B2 0) (c3_2x st cap1 a b off2 n2 cap2 c2 hs h2) (ren_seen b2_1 hc1) (ren_win b2_2 hc2) (lie_2 (lie_wob b2_1 hw1) (lie_win b2_2 hp2 hw2))
  | k1 B2 off2 cap2 s2 u hc2 hw2 h2 => exact fin2 (β := b2 B1 (capU + off1) B2 (capU + off2)) (c3_21 st cap1 a b s2 cap2 u hs h2) (ren_seen b2_1 hc1) (ren_seen b2_2 hc2) (lie_2 (lie_wob b2_1 hw1) (lie_wrob b2_2 hw2))
  | k2 B2 off2 cap2 s2 u v hc2 hw2 h2 => exact fin2 (β := b2 B1 (capU + off1) B2 (capU + off2)) (c3_22 st cap1 a b s2 cap2 u v hs h2) (ren_seen b2_1 hc1) (ren_seen b2_2 hc2) (lie_2 (lie_wob b2_1 hw1) (lie_wrob b2_2 hw2))
  | k3 B2 off2 cap2 s2 u v w hc2 hw2 h2 => exact fin2 (β := b2 B1 (capU + off1) B2 (capU + off2)) (c3_23 st cap1 a b s2 cap2 u v w hs h2) (ren_seen b2_1 hc1) (ren_seen b2_2 hc2) (lie_2 (lie_wob b2_1 hw1) (lie_wrob b2_2 hw2))
  | k4 B2 off2 cap2 s2 u v w x hc2 hw2 h2 => exact fin2 (β := b2 B1 (capU + off1) B2 (capU + off2)) (c3_24 st cap1 a b s2 cap2 u v w x hs h2) (ren_seen b2_1 hc1) (ren_seen b2_2 hc2) (lie_2 (lie_wob b2_1 hw1) (lie_wrob b2_2 hw2))
theorem m3_3 {W : World} (st : Int) (B1 off1 cap1 : Nat) (a b d : Bd) (hc1 : cap1 ≤ maxLen) (hw1 : WinAt off1 (cwb off1 [a, b, d]) W.heap[B1]?) (hs : sP3 st cap1 a b d) {r : Value} (hk : LKind W r) : Good3 W st (slw B1 off1 3 cap1) r := by
  cases hk with
  | nil => exact fin2 (β := b2 B1 (capU + off1) 0 0) (c3_30 st cap1 a b d  hs) (ren_seen b2_1 hc1) rfl (lie_1 (lie_wob b2_1 hw1))
  | no B2 off2 n2 cap2 c2 hc2 hp2 hw2 h2 => exact fin2 (β := b2 B1 (capU + off1) B2 0) (c3_3x st cap1 a b d off2 n2 cap2 c2 hs h2) (ren_seen b2_1 hc1) (ren_win b2_2 hc2) (lie_2 (lie_wob b2_1 hw1) (lie_win b2_2 hp2 hw2))
  | k1 B2 off2 cap2 s2 u hc2 hw2 h2 => exact fin2 (β := b2 B1 (capU + off1) B2 (capU + off2)) (c3_31 st cap1 a b d s2 cap2 u hs h2) (ren_seen b2_1 hc1) (ren_seen b2_2 hc2) (lie_2 (lie_wob b2_1 hw1) (lie_wrob b2_2 hw2))
  | k2 B2 off2 cap2 s2 u v hc2 hw2 h2 => exact fin2 (β := b2 B1 (capU + off1) B2 (capU + off2)) (c3_32 st cap1 a b d s2 cap2 u v hs h2) (ren_seen b2_1 hc1) (ren_seen b2_2 hc2) (lie_2 (lie_wob b2_1 hw1) (lie_wrob b2_2 hw2))
  | k3 B2 off2 cap2 s2 u v w hc2 hw2 h2 => exact fin2 (β := b2 B1 (capU + off1) B2 (capU + off2)) (c3_33 st cap1 a b d s2 cap2 u v w hs h2) (ren_seen b2_1 hc1) (ren_seen b2_2 hc2) (lie_2 (lie_wob b2_1 hw1) (lie_wrob b2_2 hw2))
  | k4 B2 off2 cap2 s2 u v w x hc2 hw2 h2 => exact fin2 (β := b2 B1 (capU + off1) B2 (capU + off2)) (c3_34 st cap1 a b d s2 cap2 u v w x hs h2) (ren_seen b2_1 hc1) (ren_seen b2_2 hc2) (lie_2 (lie_wob b2_1 hw1) (lie_wrob b2_2 hw2))
theorem m3_4 {W : World} (st : Int) (B1 off1 cap1 : Nat) (a b d e : Bd) (hc1 : cap1 ≤ maxLen) (hw1 : WinAt off1 (cwb off1 [a, b, d, e]) W.heap[B1]?) (hs : sP4 st cap1 a b d e) {r : Value} (hk : LKind W r) : Good3 W st (slw B1 off1 4 cap1) r := by
  cases hk with
  | nil => exact fin2 (β := b2 B1 (capU + off1) 0 0) (c3_40 st cap1 a b d e  hs) (ren_seen b2_1 hc1) rfl (lie_1 (lie_wob b2_1 hw1))
  | no B2 off2 n2 cap2 c2 hc2 hp2 hw2 h2 => exact fin2 (β := b2 B1 (capU + off1) B2 0) (c3_4x st cap1 a b d e off2 n2 cap2 c2 hs h2) (ren_seen b2_1 hc1) (ren_win b2_2 hc2) (lie_2 (lie_wob b2_1 hw1) (lie_win b2_2 hp2 hw2))
  | k1 B2 off2 cap2 s2 u hc2 hw2 h2 => exact fin2 (β := b2 B1 (capU + off1) B2 (capU + off2)) (c3_41 st cap1 a b d e s2 cap2 u hs h2) (ren_seen b2_1 hc1) (ren_seen b2_2 hc2) (lie_2 (lie_wob b2_1 hw1) (lie_wrob b2_2 hw2))
  | k2 B2 off2 cap2 s2 u v hc2 hw2 h2 => exact fin2 (β := b2 B1 (capU + off1) B2 (capU + off2)) (c3_42 st cap1 a b d e s2 cap2 u v hs h2) (ren_seen b2_1 hc1) (ren_seen b2_2 hc2) (lie_2 (lie_wob b2_1 hw1) (lie_wrob b2_2 hw2))
  | k3 B2 off2 cap2 s2 u v w hc2 hw2 h2 => exact fin2 (β := b2 B1 (capU + off1) B2 (capU + off2)) (c3_43 st cap1 a b d e s2 cap2 u v w hs h2) (ren_seen b2_1 hc1) (ren_seen b2_2 hc2) (lie_2 (lie_wob b2_1 hw1) (lie_wrob b2_2 hw2))
  | k4 B2 off2 cap2 s2 u v w x hc2 hw2 h2 => exact fin2 (β := b2 B1 (capU + off1) B2 (capU + off2)) (c3_44 st cap1 a b d e s2 cap2 u v w x hs h2) (ren_seen b2_1 hc1) (ren_seen b2_2 hc2) (lie_2 (lie_wob b2_1 hw1) (lie_wrob b2_2 hw2))
theorem rows3_ok {W : World} {st : Int} {l r : Value} (hl : ListAt W l) (hr : IntsAt W r) : Good3 W st l r := by
  by_cases hN : ∃ (b off cap : Nat) (N : List Int), r = slw b off N.length cap ∧ N.length ≤ cap ∧ cap ≤ maxLen ∧ WinAt off (cwx fl1 off N) W.heap[b]? ∧ 60 < (N.length : Int)
  · obtain ⟨B2, off2, cap2, N, rfl, hl2, hc2, hw2, h6⟩ := hN
    rcases hl with rfl | ⟨B1, off1, cap1, L, rfl, hl1, hc1, hw1⟩
    · exact fin2 (β := b2 0 0 B2 0) (runF_calls mix (l3_0big st off2 N.length cap2 _) ⟨decide_eq_true h6, wakes_c, trivial⟩ rfl rfl) rfl (ren_win b2_2 hc2) (lie_1 (lie_win b2_2 (cwx_plain _ _) hw2))
    · by_cases h9 : 9 < (L.length : Int)
      · exact fin2 (β := b2 B1 0 B2 0) (runF_calls mix (l3_bigx st off1 L.length cap1 _ off2 N.length cap2 _) ⟨decide_eq_true h9, wakes_c, trivial⟩ rfl rfl) (ren_win b2_1 hc1) (ren_win b2_2 hc2) (lie_2 (lie_win b2_1 (cwb_plain _ _) hw1) (lie_win b2_2 (cwx_plain _ _) hw2))
      · exact fin2 (β := b2 B1 0 B2 0) (runF_calls mix (l3_xbig st off1 L.length cap1 _ off2 N.length cap2 _) ⟨decide_eq_false h9, decide_eq_true h6, wakes_c, trivial⟩ rfl rfl) (ren_win b2_1 hc1) (ren_win b2_2 hc2) (lie_2 (lie_win b2_1 (cwb_plain _ _) hw1) (lie_win b2_2 (cwx_plain _ _) hw2))
  · rcases hl with rfl | ⟨B1, off1, cap1, L, rfl, hl1, hc1, hw1⟩
    · have hk : LKind W r := by
        rcases hr with rfl | ⟨B2, off2, cap2, N, rfl, hl2, hc2, hw2⟩
        · exact .nil
        · exact lkind (fun h => hN ⟨B2, off2, cap2, N, rfl, hl2, hc2, hw2, h⟩) hl2 hc2 hw2
      exact m3_0 st hk
    · by_cases h9 : 9 < (L.length : Int)
      · rcases hr with rfl | ⟨B2, off2, cap2, N, rfl, hl2, hc2, hw2⟩
        · exact fin2 (β := b2 B1 0 0 0) (runF_calls mix (l3_big0 st off1 L.length cap1 _) ⟨decide_eq_true h9, wakes_c, trivial⟩ rfl rfl) (ren_win b2_1 hc1) rfl (lie_1 (lie_win b2_1 (cwb_plain _ _) hw1))
        · exact fin2 (β := b2 B1 0 B2 0) (runF_calls mix (l3_bigx st off1 L.length cap1 _ off2 N.length cap2 _) ⟨decide_eq_true h9, wakes_c, trivial⟩ rfl rfl) (ren_win b2_1 hc1) (ren_win b2_2 hc2) (lie_2 (lie_win b2_1 (cwb_plain _ _) hw1) (lie_win b2_2 (cwx_plain _ _) hw2))
      · have hk : LKind W r := by
          rcases hr with rfl | ⟨B2, off2, cap2, N, rfl, hl2, hc2, hw2⟩
          · exact .nil
          · exact lkind (fun h => hN ⟨B2, off2, cap2, N, rfl, hl2, hc2, hw2, h⟩) hl2 hc2 hw2
        cases hq : rightV st L
        · exact m3_x st B1 off1 L.length cap1 _ hc1 (cwb_plain _ _) hw1 (sx_ok h9 hl1 hc1 hq) hk
        · have hq' := rightV_iff.1 hq
          match L, hq, hq', hl1, hw1 with
          | [a], hq, _, hl1, hw1 => exact m3_1 st B1 off1 cap1 a hc1 hw1 (s1_ok st cap1 a ⟨hl1, hc1⟩ hq) hk
          | [a, b], hq, _, hl1, hw1 => exact m3_2 st B1 off1 cap1 a b hc1 hw1 (s2_ok st cap1 a b ⟨hl1, hc1⟩ hq) hk
          | [a, b, d], hq, _, hl1, hw1 => exact m3_3 st B1 off1 cap1 a b d hc1 hw1 (s3_ok st cap1 a b d ⟨hl1, hc1⟩ hq) hk
          | [a, b, d, e], hq, _, hl1, hw1 => exact m3_4 st B1 off1 cap1 a b d e hc1 hw1 (s4_ok st cap1 a b d e ⟨hl1, hc1⟩ hq) hk
          | [], _, h, _, _ => exact absurd h.2.1.1 (by decide)
          | _ :: _ :: _ :: _ :: _ :: r', _, h, _, _ => exact absurd h.2.1.2 (by simp)
end Go.Proofs.Ytmikjgflenbljaa
