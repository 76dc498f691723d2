/- Texts of the seat, joined. -/
import Derived.Test.YtcmfgabhgodlaaaGreatDoorZz6
import Derived.Test.YtcmfgabhgodlaaaGreatDoorZz4
/- The document's division of numbers that are not below 0: its two loops, each round computed. -/
namespace Go.Proofs.YtcmfgabhgodlaaaGreatDoor
open Go Go.RowKit
set_option linter.unusedSimpArgs false
set_option linter.unusedVariables false
set_option maxRecDepth 100000

def cA : Code → Code
  | .seq a _ => a
  | c => c
def cB : Code → Code
  | .seq _ b => b
  | c => c
def cK : Code → Code
  | .block _ c => c
  | .loop c => c
  | c => c
noncomputable def body198 : Code := match Tryz.f94.body with | some c => c | none => .skip
noncomputable def PL1 : Code := cK (cK (cA (cB (cB body198))))
noncomputable def PR5 : Code := cA (cB (cB (cB body198)))
noncomputable def PS6 : Code := cA (cB (cB (cB (cB body198))))
noncomputable def PL2 : Code := cK (cK (cB PS6))
noncomputable def PR13 : Code := cB (cB (cB (cB (cB body198))))
abbrev pw (x : Nat) : Obj := .cells (wv x).cells 41 (0, 0)
abbrev ptr (k : Nat) : Value := .pointer (some ⟨k, 0, none⟩)
abbrev pto (k o : Nat) : Value := .pointer (some ⟨k, o, none⟩)
abbrev sli (k n c : Nat) : Value := .slice (some ⟨k, 0, none⟩) n c
abbrev ud : Value := .tuple ⟨[]⟩
abbrev i6 (x : Int) : Value := .int .i64 x
def HZ (a b : Nat) : Hp := [(3000, pw a), (3001, pw b), (3002, pw 0), (3003, pw 0), (3004, pw b)]
def TZ (a b : Nat) : List Value := [wv a, wv b, ptr 3000, ptr 3001, ptr 3002, ptr 3003, sli 3004 1 1, ud, ud, ud, ud, wv b, sli 3004 1 1] ++ List.replicate 55 ud
def TT (a b kl n kd kg ks m k o e d : Nat) (i1 i2 s : Int) (p : Bool) : List Value := [wv a, wv b, ptr 3000, ptr 3001, ptr 3002, ptr 3003, sli kl n capU, ptr kd, bb false, ud, ud, wv b, sli 3004 1 1, tp [wv d, bb false], sli kg m k, sli kg m k, i6 i1, i6 i2, pto kg o, wv e, sli kg m k, sli kg m k, i6 i1, i6 i2, pto kg o, wv e, tp [wv d, bb false], wv d, bb false, bb false, bb false, wv d, wv a, i6 s, bb p, bb p, sli kg m k, wv d, sli ks 1 1, sli kl n capU] ++ List.replicate 28 ud
def TE (a b : Nat) (v6 : Value) (X : Nat → Value) : List Value := [wv a, wv b, ptr 3000, ptr 3001, ptr 3002, ptr 3003, v6, X 7, X 8, ud, ud, X 11, X 12, X 13, X 14, X 15, X 16, X 17, X 18, X 19, X 20, X 21, X 22, X 23, X 24, X 25, X 26, X 27, X 28, X 29, X 30, X 31, X 32, X 33, X 34, X 35, X 36, X 37, X 38, X 39] ++ List.replicate 28 ud
def TL (a b : Nat) (v6 : Value) (i : Int) (X : Nat → Value) : List Value := [wv a, wv b, ptr 3000, ptr 3001, ptr 3002, ptr 3003, v6, X 7, X 8, ptr 7000, i6 i, X 11, X 12, X 13, X 14, X 15, X 16, X 17, X 18, X 19, X 20, X 21, X 22, X 23, X 24, X 25, X 26, X 27, X 28, X 29, X 30, X 31, X 32, X 33, X 34, X 35, X 36, X 37, X 38, X 39, X 40, X 41, X 42, X 43, X 44, X 45, X 46, X 47, X 48, X 49, X 50, X 51, X 52, X 53, X 54, X 55, X 56, X 57, X 58, X 59, X 60, X 61, X 62, X 63, X 64, X 65, ud, ud]
def HG (a b : Nat) (c : Array Value) : Hp := [(3000, pw a), (3001, pw b), (3002, pw 0), (3003, pw 0), (3004, deadO), (5000, opq 4 c 41), (6000, deadO), (6001, deadO), (6002, deadO)]
def HGx (a b d : Nat) (c : Array Value) : Hp := (4000, pw d) :: HG a b c
def HZx (a b d : Nat) : Hp := (4000, pw d) :: HZ a b
def HLg (q a b d : Nat) (c : Array Value) : Hp := (7000, pw q) :: HGx a b d c
def HLz (q a b d : Nat) : Hp := [(7000, pw q), (4000, pw d), (3000, pw a), (3001, pw b), (3002, pw 0), (3003, pw 0), (3004, pw b)]

abbrev wc (e : Nat) : List Value := (wv e).cells.toList
theorem pbody : Tryz.f94.body = some (.seq (cA body198) (.seq (cA (cB body198)) (.seq (.block 0 (.loop PL1)) (.seq PR5 (.seq (.seq (cA PS6) (.block 2 (.loop PL2))) PR13))))) := by kernel_rfl
section
variable (a b d m k o e d' e' c0 q a' q2 a2 q3 : Nat) (i1 i2 s0 s i : Int) (p : Bool) (c : Array Value) (v6 : Value) (X : Nat → Value) (x : Nat)
theorem p_pre0 : runLS Tryz.prog 3000 (cA body198) (frame0 Tryz.f94 #[wv a, wv b]) [] [] [] [] [] = some (.normal, [wv a, wv b, ptr 3000, ptr 3001, ptr 3002, ptr 3003] ++ List.replicate 62 ud, [(3003, pw 0), (3002, pw 0), (3001, pw b), (3000, pw a)], []) := by kernel_rfl
theorem p_pre1 : runLS Tryz.prog 3004 (cA (cB body198)) ([wv a, wv b, ptr 3000, ptr 3001, ptr 3002, ptr 3003] ++ List.replicate 62 ud) [(3003, pw 0), (3002, pw 0), (3001, pw b), (3000, pw a)] [] [] [] [] = some (.normal, TZ a b, [(3004, pw b), (3003, pw 0), (3002, pw 0), (3001, pw b), (3000, pw a)], []) := by kernel_rfl
/- the first round up -/
theorem p_z_on : runLS Tryz.prog 4000 PL1 (TZ a b) (HZ a b) [n, n, n, n, f] [(41, rt (tp [wv d, bb false])), (30, rt (i6 s))] [] [] =
    some (.normal, TT a b 4002 2 4000 3004 4001 1 1 0 b d 1 0 s (decide (0 < s)), (4002, .cells #[u (b % 18446744073709551616), u (b / 18446744073709551616 % 18446744073709551616), u (b / 340282366920938463463374607431768211456 % 18446744073709551616), u (b / 6277101735386680763835789423207666416102355444464034512896 % 18446744073709551616), u (d % 18446744073709551616), u (d / 18446744073709551616 % 18446744073709551616), u (d / 340282366920938463463374607431768211456 % 18446744073709551616), u (d / 6277101735386680763835789423207666416102355444464034512896 % 18446744073709551616)] 41 (1, 4)) :: (4001, pw d) :: (4000, pw d) :: HZ a b,
      [PureX Tryz.prog 41 #[wv b, wv b] (rt (tp [wv d, bb false])), PureX Tryz.prog 30 #[wv d, wv a] (rt (i6 s)), decide (0 < s) = false]) := by kernel_rfl
theorem p_z_cmp : ∃ Y, runLS Tryz.prog 4000 PL1 (TZ a b) (HZ a b) [n, n, n, n, t] [(41, rt (tp [wv d, bb false])), (30, rt (i6 s))] [] [] =
    some (.exit 0, TE a b (sli 3004 1 1) Y, HZx a b d, [PureX Tryz.prog 41 #[wv b, wv b] (rt (tp [wv d, bb false])), PureX Tryz.prog 30 #[wv d, wv a] (rt (i6 s)), decide (0 < s) = true]) := ⟨fun i => match i with | 7 => ptr 4000 | 8 => bb false | 11 => wv b | 12 => sli 3004 1 1 | 13 => tp [wv d, bb false] | 14 => sli 3004 1 1 | 15 => sli 3004 1 1 | 16 => i6 1 | 17 => i6 0 | 18 => pto 3004 0 | 19 => wv b | 20 => sli 3004 1 1 | 21 => sli 3004 1 1 | 22 => i6 1 | 23 => i6 0 | 24 => pto 3004 0 | 25 => wv b | 26 => tp [wv d, bb false] | 27 => wv d | 28 => bb false | 29 => bb false | 30 => bb false | 31 => wv d | 32 => wv a | 33 => i6 s | 34 => bb (decide (0 < s)) | 35 => bb (decide (0 < s)) | _ => ud, by kernel_rfl⟩
theorem p_z_over : ∃ Y, runLS Tryz.prog 4000 PL1 (TZ a b) (HZ a b) [] [(41, rt (tp [wv d, bb true]))] [] [] =
    some (.exit 0, TE a b (sli 3004 1 1) Y, HZx a b d, [PureX Tryz.prog 41 #[wv b, wv b] (rt (tp [wv d, bb true]))]) := ⟨fun i => match i with | 7 => ptr 4000 | 8 => bb true | 11 => wv b | 12 => sli 3004 1 1 | 13 => tp [wv d, bb true] | 14 => sli 3004 1 1 | 15 => sli 3004 1 1 | 16 => i6 1 | 17 => i6 0 | 18 => pto 3004 0 | 19 => wv b | 20 => sli 3004 1 1 | 21 => sli 3004 1 1 | 22 => i6 1 | 23 => i6 0 | 24 => pto 3004 0 | 25 => wv b | 26 => tp [wv d, bb true] | 27 => wv d | 28 => bb true | 29 => bb true | 30 => bb true | 35 => bb true | _ => ud, by kernel_rfl⟩
/- a round up -/
theorem p_g_on : runLS Tryz.prog 4000 PL1 (TT a b 5000 x 6001 6000 6002 m k o e d i1 i2 s0 p) (HG a b c) [n, n, n, n, f] [(41, rt (tp [wv d', bb false])), (30, rt (i6 s))] [] [wc e', wc e'] =
    some (.normal, TT a b 4002 (x + 1) 4000 5000 4001 x capU (0 + (IntKind.i64.wrap ((x : Int) - 1)).toNat * 4) e' d' x (IntKind.i64.wrap ((x : Int) - 1)) s (decide (0 < s)), (4002, opq 4 (c.toList ++ wc d').toArray 41) :: (5000, deadO) :: (4001, pw d') :: (4000, pw d') :: [(3000, pw a), (3001, pw b), (3002, pw 0), (3003, pw 0), (3004, deadO), (6000, deadO), (6001, deadO), (6002, deadO)],
      [0 ≤ IntKind.i64.wrap ((x : Int) - 1) ∧ IntKind.i64.wrap ((x : Int) - 1) < x, (c.toList.drop (0 + (IntKind.i64.wrap ((x : Int) - 1)).toNat * 4)).take (wc e').length = wc e', 0 ≤ IntKind.i64.wrap ((x : Int) - 1) ∧ IntKind.i64.wrap ((x : Int) - 1) < x, (c.toList.drop (0 + (IntKind.i64.wrap ((x : Int) - 1)).toNat * 4)).take (wc e').length = wc e',
       PureX Tryz.prog 41 #[wv e', wv e'] (rt (tp [wv d', bb false])), PureX Tryz.prog 30 #[wv d', wv a] (rt (i6 s)), decide (0 < s) = false, c.size = x * 4 ∧ x + 1 ≤ maxLen ∧ (x + 1) * 32 ≤ 140737488355328]) := by kernel_rfl
theorem p_g_cmp : ∃ Y, runLS Tryz.prog 4000 PL1 (TT a b 5000 x 6001 6000 6002 m k o e d i1 i2 s0 p) (HG a b c) [n, n, n, n, t] [(41, rt (tp [wv d', bb false])), (30, rt (i6 s))] [] [wc e', wc e'] =
    some (.exit 0, TE a b (sli 5000 x capU) Y, HGx a b d' c,
      [0 ≤ IntKind.i64.wrap ((x : Int) - 1) ∧ IntKind.i64.wrap ((x : Int) - 1) < x, (c.toList.drop (0 + (IntKind.i64.wrap ((x : Int) - 1)).toNat * 4)).take (wc e').length = wc e', 0 ≤ IntKind.i64.wrap ((x : Int) - 1) ∧ IntKind.i64.wrap ((x : Int) - 1) < x, (c.toList.drop (0 + (IntKind.i64.wrap ((x : Int) - 1)).toNat * 4)).take (wc e').length = wc e',
       PureX Tryz.prog 41 #[wv e', wv e'] (rt (tp [wv d', bb false])), PureX Tryz.prog 30 #[wv d', wv a] (rt (i6 s)), decide (0 < s) = true]) := ⟨fun i => match i with | 7 => ptr 4000 | 8 => bb false | 11 => wv b | 12 => sli 3004 1 1 | 13 => tp [wv d', bb false] | 14 => sli 5000 x capU | 15 => sli 5000 x capU | 16 => i6 x | 17 => i6 (IntKind.i64.wrap ((x : Int) - 1)) | 18 => pto 5000 (0 + (IntKind.i64.wrap ((x : Int) - 1)).toNat * 4) | 19 => wv e' | 20 => sli 5000 x capU | 21 => sli 5000 x capU | 22 => i6 x | 23 => i6 (IntKind.i64.wrap ((x : Int) - 1)) | 24 => pto 5000 (0 + (IntKind.i64.wrap ((x : Int) - 1)).toNat * 4) | 25 => wv e' | 26 => tp [wv d', bb false] | 27 => wv d' | 28 => bb false | 29 => bb false | 30 => bb false | 31 => wv d' | 32 => wv a | 33 => i6 s | 34 => bb (decide (0 < s)) | 35 => bb (decide (0 < s)) | 36 => sli 6000 m k | 37 => wv d | 38 => sli 6002 1 1 | 39 => sli 5000 x capU | _ => ud, by kernel_rfl⟩
theorem p_g_over : ∃ Y, runLS Tryz.prog 4000 PL1 (TT a b 5000 x 6001 6000 6002 m k o e d i1 i2 s0 p) (HG a b c) [] [(41, rt (tp [wv d', bb true]))] [] [wc e', wc e'] =
    some (.exit 0, TE a b (sli 5000 x capU) Y, HGx a b d' c,
      [0 ≤ IntKind.i64.wrap ((x : Int) - 1) ∧ IntKind.i64.wrap ((x : Int) - 1) < x, (c.toList.drop (0 + (IntKind.i64.wrap ((x : Int) - 1)).toNat * 4)).take (wc e').length = wc e', 0 ≤ IntKind.i64.wrap ((x : Int) - 1) ∧ IntKind.i64.wrap ((x : Int) - 1) < x, (c.toList.drop (0 + (IntKind.i64.wrap ((x : Int) - 1)).toNat * 4)).take (wc e').length = wc e',
       PureX Tryz.prog 41 #[wv e', wv e'] (rt (tp [wv d', bb true]))]) := ⟨fun i => match i with | 7 => ptr 4000 | 8 => bb true | 11 => wv b | 12 => sli 3004 1 1 | 13 => tp [wv d', bb true] | 14 => sli 5000 x capU | 15 => sli 5000 x capU | 16 => i6 x | 17 => i6 (IntKind.i64.wrap ((x : Int) - 1)) | 18 => pto 5000 (0 + (IntKind.i64.wrap ((x : Int) - 1)).toNat * 4) | 19 => wv e' | 20 => sli 5000 x capU | 21 => sli 5000 x capU | 22 => i6 x | 23 => i6 (IntKind.i64.wrap ((x : Int) - 1)) | 24 => pto 5000 (0 + (IntKind.i64.wrap ((x : Int) - 1)).toNat * 4) | 25 => wv e' | 26 => tp [wv d', bb true] | 27 => wv d' | 28 => bb true | 29 => bb true | 30 => bb true | 35 => bb true | 36 => sli 6000 m k | 37 => wv d | 38 => sli 6002 1 1 | 39 => sli 5000 x capU | _ => ud, by kernel_rfl⟩
end

end Go.Proofs.YtcmfgabhgodlaaaGreatDoor
