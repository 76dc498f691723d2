/- Texts of the seat, joined. -/
import Derived.Test.YtcmfgabhgodlaaaGreatDoorZz34
/- The document's whole roots: a bit set, at each place. -/
namespace Go.Proofs.YtcmfgabhgodlaaaGreatDoor
open Go Go.RowKit
set_option linter.unusedSimpArgs false
set_option linter.unusedVariables false
set_option maxRecDepth 100000

def bx (x0 x1 i : Nat) : List (Nat × Value) :=
  [(21, i6 i), (22, i6 (i / 64 : Nat)), (23, i6 i), (24, i6 (i / 64 : Nat)), (25, pto 4000 (i / 64)), (26, match i / 64 with | 0 => u x0 | _ => u x1), (27, i6 i), (28, i6 (i % 64 : Nat)), (29, .int .u64 (IntKind.u64.wrap (1 * 2 ^ (i % 64)))), (30, match i / 64 with | 0 => orB x0 (i % 64) | _ => orB x1 (i % 64)), (31, pto 4000 (i / 64))]
def BitAt (a r x0 x1 x2 x3 : Nat) (X : Nat → Value) (i : Nat) : Prop :=
  runNS Tryz.prog 4001 (cA (cB VR)) (TG a (Int.ofNat i) X) ((4000, .cells (W4 x0 x1 x2 x3).cells 41 (0, 0)) :: HVf a r) [] [] [] = some (.normal, TG a (Int.ofNat i) (ovr X (bx x0 x1 i)), (4000, .cells (WB x0 x1 x2 x3 i).cells 41 (0, 0)) :: HVf a r, [])
section
variable (a r x0 x1 x2 x3 : Nat) (X : Nat → Value)
theorem vb_0 : BitAt a r x0 x1 x2 x3 X 0 := by unfold BitAt; kernel_rfl
theorem vb_1 : BitAt a r x0 x1 x2 x3 X 1 := by unfold BitAt; kernel_rfl
theorem vb_2 : BitAt a r x0 x1 x2 x3 X 2 := by unfold BitAt; kernel_rfl
theorem vb_3 : BitAt a r x0 x1 x2 x3 X 3 := by unfold BitAt; kernel_rfl
theorem vb_4 : BitAt a r x0 x1 x2 x3 X 4 := by unfold BitAt; kernel_rfl
theorem vb_5 : BitAt a r x0 x1 x2 x3 X 5 := by unfold BitAt; kernel_rfl
theorem vb_6 : BitAt a r x0 x1 x2 x3 X 6 := by unfold BitAt; kernel_rfl
theorem vb_7 : BitAt a r x0 x1 x2 x3 X 7 := by unfold BitAt; kernel_rfl
theorem vb_8 : BitAt a r x0 x1 x2 x3 X 8 := by unfold BitAt; kernel_rfl
theorem vb_9 : BitAt a r x0 x1 x2 x3 X 9 := by unfold BitAt; kernel_rfl
theorem vb_10 : BitAt a r x0 x1 x2 x3 X 10 := by unfold BitAt; kernel_rfl
theorem vb_11 : BitAt a r x0 x1 x2 x3 X 11 := by unfold BitAt; kernel_rfl
theorem vb_12 : BitAt a r x0 x1 x2 x3 X 12 := by unfold BitAt; kernel_rfl
theorem vb_13 : BitAt a r x0 x1 x2 x3 X 13 := by unfold BitAt; kernel_rfl
theorem vb_14 : BitAt a r x0 x1 x2 x3 X 14 := by unfold BitAt; kernel_rfl
theorem vb_15 : BitAt a r x0 x1 x2 x3 X 15 := by unfold BitAt; kernel_rfl
theorem vb_16 : BitAt a r x0 x1 x2 x3 X 16 := by unfold BitAt; kernel_rfl
theorem vb_17 : BitAt a r x0 x1 x2 x3 X 17 := by unfold BitAt; kernel_rfl
theorem vb_18 : BitAt a r x0 x1 x2 x3 X 18 := by unfold BitAt; kernel_rfl
theorem vb_19 : BitAt a r x0 x1 x2 x3 X 19 := by unfold BitAt; kernel_rfl
theorem vb_20 : BitAt a r x0 x1 x2 x3 X 20 := by unfold BitAt; kernel_rfl
theorem vb_21 : BitAt a r x0 x1 x2 x3 X 21 := by unfold BitAt; kernel_rfl
theorem vb_22 : BitAt a r x0 x1 x2 x3 X 22 := by unfold BitAt; kernel_rfl
theorem vb_23 : BitAt a r x0 x1 x2 x3 X 23 := by unfold BitAt; kernel_rfl
theorem vb_24 : BitAt a r x0 x1 x2 x3 X 24 := by unfold BitAt; kernel_rfl
theorem vb_25 : BitAt a r x0 x1 x2 x3 X 25 := by unfold BitAt; kernel_rfl
theorem vb_26 : BitAt a r x0 x1 x2 x3 X 26 := by unfold BitAt; kernel_rfl
theorem vb_27 : BitAt a r x0 x1 x2 x3 X 27 := by unfold BitAt; kernel_rfl
theorem vb_28 : BitAt a r x0 x1 x2 x3 X 28 := by unfold BitAt; kernel_rfl
theorem vb_29 : BitAt a r x0 x1 x2 x3 X 29 := by unfold BitAt; kernel_rfl
theorem vb_30 : BitAt a r x0 x1 x2 x3 X 30 := by unfold BitAt; kernel_rfl
theorem vb_31 : BitAt a r x0 x1 x2 x3 X 31 := by unfold BitAt; kernel_rfl
theorem vb_32 : BitAt a r x0 x1 x2 x3 X 32 := by unfold BitAt; kernel_rfl
theorem vb_33 : BitAt a r x0 x1 x2 x3 X 33 := by unfold BitAt; kernel_rfl
theorem vb_34 : BitAt a r x0 x1 x2 x3 X 34 := by unfold BitAt; kernel_rfl
theorem vb_35 : BitAt a r x0 x1 x2 x3 X 35 := by unfold BitAt; kernel_rfl
theorem vb_36 : BitAt a r x0 x1 x2 x3 X 36 := by unfold BitAt; kernel_rfl
theorem vb_37 : BitAt a r x0 x1 x2 x3 X 37 := by unfold BitAt; kernel_rfl
theorem vb_38 : BitAt a r x0 x1 x2 x3 X 38 := by unfold BitAt; kernel_rfl
theorem vb_39 : BitAt a r x0 x1 x2 x3 X 39 := by unfold BitAt; kernel_rfl
theorem vb_40 : BitAt a r x0 x1 x2 x3 X 40 := by unfold BitAt; kernel_rfl
theorem vb_41 : BitAt a r x0 x1 x2 x3 X 41 := by unfold BitAt; kernel_rfl
theorem vb_42 : BitAt a r x0 x1 x2 x3 X 42 := by unfold BitAt; kernel_rfl
theorem vb_43 : BitAt a r x0 x1 x2 x3 X 43 := by unfold BitAt; kernel_rfl
theorem vb_44 : BitAt a r x0 x1 x2 x3 X 44 := by unfold BitAt; kernel_rfl
theorem vb_45 : BitAt a r x0 x1 x2 x3 X 45 := by unfold BitAt; kernel_rfl
theorem vb_46 : BitAt a r x0 x1 x2 x3 X 46 := by unfold BitAt; kernel_rfl
theorem vb_47 : BitAt a r x0 x1 x2 x3 X 47 := by unfold BitAt; kernel_rfl
theorem vb_48 : BitAt a r x0 x1 x2 x3 X 48 := by unfold BitAt; kernel_rfl
theorem vb_49 : BitAt a r x0 x1 x2 x3 X 49 := by unfold BitAt; kernel_rfl
theorem vb_50 : BitAt a r x0 x1 x2 x3 X 50 := by unfold BitAt; kernel_rfl
theorem vb_51 : BitAt a r x0 x1 x2 x3 X 51 := by unfold BitAt; kernel_rfl
theorem vb_52 : BitAt a r x0 x1 x2 x3 X 52 := by unfold BitAt; kernel_rfl
theorem vb_53 : BitAt a r x0 x1 x2 x3 X 53 := by unfold BitAt; kernel_rfl
theorem vb_54 : BitAt a r x0 x1 x2 x3 X 54 := by unfold BitAt; kernel_rfl
theorem vb_55 : BitAt a r x0 x1 x2 x3 X 55 := by unfold BitAt; kernel_rfl
theorem vb_56 : BitAt a r x0 x1 x2 x3 X 56 := by unfold BitAt; kernel_rfl
theorem vb_57 : BitAt a r x0 x1 x2 x3 X 57 := by unfold BitAt; kernel_rfl
theorem vb_58 : BitAt a r x0 x1 x2 x3 X 58 := by unfold BitAt; kernel_rfl
theorem vb_59 : BitAt a r x0 x1 x2 x3 X 59 := by unfold BitAt; kernel_rfl
theorem vb_60 : BitAt a r x0 x1 x2 x3 X 60 := by unfold BitAt; kernel_rfl
theorem vb_61 : BitAt a r x0 x1 x2 x3 X 61 := by unfold BitAt; kernel_rfl
theorem vb_62 : BitAt a r x0 x1 x2 x3 X 62 := by unfold BitAt; kernel_rfl
theorem vb_63 : BitAt a r x0 x1 x2 x3 X 63 := by unfold BitAt; kernel_rfl
theorem vb_64 : BitAt a r x0 x1 x2 x3 X 64 := by unfold BitAt; kernel_rfl
theorem vb_65 : BitAt a r x0 x1 x2 x3 X 65 := by unfold BitAt; kernel_rfl
theorem vb_66 : BitAt a r x0 x1 x2 x3 X 66 := by unfold BitAt; kernel_rfl
theorem vb_67 : BitAt a r x0 x1 x2 x3 X 67 := by unfold BitAt; kernel_rfl
theorem vb_68 : BitAt a r x0 x1 x2 x3 X 68 := by unfold BitAt; kernel_rfl
theorem vb_69 : BitAt a r x0 x1 x2 x3 X 69 := by unfold BitAt; kernel_rfl
theorem vb_70 : BitAt a r x0 x1 x2 x3 X 70 := by unfold BitAt; kernel_rfl
theorem vb_71 : BitAt a r x0 x1 x2 x3 X 71 := by unfold BitAt; kernel_rfl
theorem vb_72 : BitAt a r x0 x1 x2 x3 X 72 := by unfold BitAt; kernel_rfl
theorem vb_73 : BitAt a r x0 x1 x2 x3 X 73 := by unfold BitAt; kernel_rfl
theorem vb_74 : BitAt a r x0 x1 x2 x3 X 74 := by unfold BitAt; kernel_rfl
theorem vb_75 : BitAt a r x0 x1 x2 x3 X 75 := by unfold BitAt; kernel_rfl
theorem vb_76 : BitAt a r x0 x1 x2 x3 X 76 := by unfold BitAt; kernel_rfl
theorem vb_77 : BitAt a r x0 x1 x2 x3 X 77 := by unfold BitAt; kernel_rfl
theorem vb_78 : BitAt a r x0 x1 x2 x3 X 78 := by unfold BitAt; kernel_rfl
theorem vb_79 : BitAt a r x0 x1 x2 x3 X 79 := by unfold BitAt; kernel_rfl
theorem vb_80 : BitAt a r x0 x1 x2 x3 X 80 := by unfold BitAt; kernel_rfl
theorem vb_81 : BitAt a r x0 x1 x2 x3 X 81 := by unfold BitAt; kernel_rfl
theorem vb_82 : BitAt a r x0 x1 x2 x3 X 82 := by unfold BitAt; kernel_rfl
theorem vb_83 : BitAt a r x0 x1 x2 x3 X 83 := by unfold BitAt; kernel_rfl
theorem vb_84 : BitAt a r x0 x1 x2 x3 X 84 := by unfold BitAt; kernel_rfl
theorem vb_85 : BitAt a r x0 x1 x2 x3 X 85 := by unfold BitAt; kernel_rfl
theorem vb_86 : BitAt a r x0 x1 x2 x3 X 86 := by unfold BitAt; kernel_rfl
theorem vb_87 : BitAt a r x0 x1 x2 x3 X 87 := by unfold BitAt; kernel_rfl
theorem vb_88 : BitAt a r x0 x1 x2 x3 X 88 := by unfold BitAt; kernel_rfl
theorem vb_89 : BitAt a r x0 x1 x2 x3 X 89 := by unfold BitAt; kernel_rfl
theorem vb_90 : BitAt a r x0 x1 x2 x3 X 90 := by unfold BitAt; kernel_rfl
theorem vb_91 : BitAt a r x0 x1 x2 x3 X 91 := by unfold BitAt; kernel_rfl
theorem vb_92 : BitAt a r x0 x1 x2 x3 X 92 := by unfold BitAt; kernel_rfl
theorem vb_93 : BitAt a r x0 x1 x2 x3 X 93 := by unfold BitAt; kernel_rfl
theorem vb_94 : BitAt a r x0 x1 x2 x3 X 94 := by unfold BitAt; kernel_rfl
theorem vb_95 : BitAt a r x0 x1 x2 x3 X 95 := by unfold BitAt; kernel_rfl
theorem vb_96 : BitAt a r x0 x1 x2 x3 X 96 := by unfold BitAt; kernel_rfl
theorem vb_97 : BitAt a r x0 x1 x2 x3 X 97 := by unfold BitAt; kernel_rfl
theorem vb_98 : BitAt a r x0 x1 x2 x3 X 98 := by unfold BitAt; kernel_rfl
theorem vb_99 : BitAt a r x0 x1 x2 x3 X 99 := by unfold BitAt; kernel_rfl
theorem vb_100 : BitAt a r x0 x1 x2 x3 X 100 := by unfold BitAt; kernel_rfl
theorem vb_101 : BitAt a r x0 x1 x2 x3 X 101 := by unfold BitAt; kernel_rfl
theorem vb_102 : BitAt a r x0 x1 x2 x3 X 102 := by unfold BitAt; kernel_rfl
theorem vb_103 : BitAt a r x0 x1 x2 x3 X 103 := by unfold BitAt; kernel_rfl
theorem vb_104 : BitAt a r x0 x1 x2 x3 X 104 := by unfold BitAt; kernel_rfl
theorem vb_105 : BitAt a r x0 x1 x2 x3 X 105 := by unfold BitAt; kernel_rfl
theorem vb_106 : BitAt a r x0 x1 x2 x3 X 106 := by unfold BitAt; kernel_rfl
theorem vb_107 : BitAt a r x0 x1 x2 x3 X 107 := by unfold BitAt; kernel_rfl
theorem vb_108 : BitAt a r x0 x1 x2 x3 X 108 := by unfold BitAt; kernel_rfl
theorem vb_109 : BitAt a r x0 x1 x2 x3 X 109 := by unfold BitAt; kernel_rfl
theorem vb_110 : BitAt a r x0 x1 x2 x3 X 110 := by unfold BitAt; kernel_rfl
theorem vb_111 : BitAt a r x0 x1 x2 x3 X 111 := by unfold BitAt; kernel_rfl
theorem vb_112 : BitAt a r x0 x1 x2 x3 X 112 := by unfold BitAt; kernel_rfl
theorem vb_113 : BitAt a r x0 x1 x2 x3 X 113 := by unfold BitAt; kernel_rfl
theorem vb_114 : BitAt a r x0 x1 x2 x3 X 114 := by unfold BitAt; kernel_rfl
theorem vb_115 : BitAt a r x0 x1 x2 x3 X 115 := by unfold BitAt; kernel_rfl
theorem vb_116 : BitAt a r x0 x1 x2 x3 X 116 := by unfold BitAt; kernel_rfl
theorem vb_117 : BitAt a r x0 x1 x2 x3 X 117 := by unfold BitAt; kernel_rfl
theorem vb_118 : BitAt a r x0 x1 x2 x3 X 118 := by unfold BitAt; kernel_rfl
theorem vb_119 : BitAt a r x0 x1 x2 x3 X 119 := by unfold BitAt; kernel_rfl
theorem vb_120 : BitAt a r x0 x1 x2 x3 X 120 := by unfold BitAt; kernel_rfl
theorem vb_121 : BitAt a r x0 x1 x2 x3 X 121 := by unfold BitAt; kernel_rfl
theorem vb_122 : BitAt a r x0 x1 x2 x3 X 122 := by unfold BitAt; kernel_rfl
theorem vb_123 : BitAt a r x0 x1 x2 x3 X 123 := by unfold BitAt; kernel_rfl
theorem vb_124 : BitAt a r x0 x1 x2 x3 X 124 := by unfold BitAt; kernel_rfl
theorem vb_125 : BitAt a r x0 x1 x2 x3 X 125 := by unfold BitAt; kernel_rfl
theorem vb_126 : BitAt a r x0 x1 x2 x3 X 126 := by unfold BitAt; kernel_rfl
theorem vb_127 : BitAt a r x0 x1 x2 x3 X 127 := by unfold BitAt; kernel_rfl
theorem vb_all (i : Nat) (hi : i < 128) : BitAt a r x0 x1 x2 x3 X i := by
  by_cases h0_64 : i < 64
  · by_cases h0_32 : i < 32
    · by_cases h0_16 : i < 16
      · by_cases h0_8 : i < 8
        · by_cases h0_4 : i < 4
          · by_cases h0_2 : i < 2
            · by_cases h0_1 : i < 1
              · obtain rfl : i = 0 := by omega
                exact vb_0 a r x0 x1 x2 x3 X
              · obtain rfl : i = 1 := by omega
                exact vb_1 a r x0 x1 x2 x3 X
            · by_cases h2_3 : i < 3
              · obtain rfl : i = 2 := by omega
                exact vb_2 a r x0 x1 x2 x3 X
              · obtain rfl : i = 3 := by omega
                exact vb_3 a r x0 x1 x2 x3 X
          · by_cases h4_6 : i < 6
            · by_cases h4_5 : i < 5
              · obtain rfl : i = 4 := by omega
                exact vb_4 a r x0 x1 x2 x3 X
              · obtain rfl : i = 5 := by omega
                exact vb_5 a r x0 x1 x2 x3 X
            · by_cases h6_7 : i < 7
              · obtain rfl : i = 6 := by omega
                exact vb_6 a r x0 x1 x2 x3 X
              · obtain rfl : i = 7 := by omega
                exact vb_7 a r x0 x1 x2 x3 X
        · by_cases h8_12 : i < 12
          · by_cases h8_10 : i < 10
            · by_cases h8_9 : i < 9
              · obtain rfl : i = 8 := by omega
                exact vb_8 a r x0 x1 x2 x3 X
              · obtain rfl : i = 9 := by omega
                exact vb_9 a r x0 x1 x2 x3 X
            · by_cases h10_11 : i < 11
              · obtain rfl : i = 10 := by omega
                exact vb_10 a r x0 x1 x2 x3 X
              · obtain rfl : i = 11 := by omega
                exact vb_11 a r x0 x1 x2 x3 X
          · by_cases h12_14 : i < 14
            · by_cases h12_13 : i < 13
              · obtain rfl : i = 12 := by omega
                exact vb_12 a r x0 x1 x2 x3 X
              · obtain rfl : i = 13 := by omega
                exact vb_13 a r x0 x1 x2 x3 X
            · by_cases h14_15 : i < 15
              · obtain rfl : i = 14 := by omega
                exact vb_14 a r x0 x1 x2 x3 X
              · obtain rfl : i = 15 := by omega
                exact vb_15 a r x0 x1 x2 x3 X
      · by_cases h16_24 : i < 24
        · by_cases h16_20 : i < 20
          · by_cases h16_18 : i < 18
            · by_cases h16_17 : i < 17
              · obtain rfl : i = 16 := by omega
                exact vb_16 a r x0 x1 x2 x3 X
              · obtain rfl : i = 17 := by omega
                exact vb_17 a r x0 x1 x2 x3 X
            · by_cases h18_19 : i < 19
              · obtain rfl : i = 18 := by omega
                exact vb_18 a r x0 x1 x2 x3 X
              · obtain rfl : i = 19 := by omega
                exact vb_19 a r x0 x1 x2 x3 X
          · by_cases h20_22 : i < 22
            · by_cases h20_21 : i < 21
              · obtain rfl : i = 20 := by omega
                exact vb_20 a r x0 x1 x2 x3 X
              · obtain rfl : i = 21 := by omega
                exact vb_21 a r x0 x1 x2 x3 X
            · by_cases h22_23 : i < 23
              · obtain rfl : i = 22 := by omega
                exact vb_22 a r x0 x1 x2 x3 X
              · obtain rfl : i = 23 := by omega
                exact vb_23 a r x0 x1 x2 x3 X
        · by_cases h24_28 : i < 28
          · by_cases h24_26 : i < 26
            · by_cases h24_25 : i < 25
              · obtain rfl : i = 24 := by omega
                exact vb_24 a r x0 x1 x2 x3 X
              · obtain rfl : i = 25 := by omega
                exact vb_25 a r x0 x1 x2 x3 X
            · by_cases h26_27 : i < 27
              · obtain rfl : i = 26 := by omega
                exact vb_26 a r x0 x1 x2 x3 X
              · obtain rfl : i = 27 := by omega
                exact vb_27 a r x0 x1 x2 x3 X
          · by_cases h28_30 : i < 30
            · by_cases h28_29 : i < 29
              · obtain rfl : i = 28 := by omega
                exact vb_28 a r x0 x1 x2 x3 X
              · obtain rfl : i = 29 := by omega
                exact vb_29 a r x0 x1 x2 x3 X
            · by_cases h30_31 : i < 31
              · obtain rfl : i = 30 := by omega
                exact vb_30 a r x0 x1 x2 x3 X
              · obtain rfl : i = 31 := by omega
                exact vb_31 a r x0 x1 x2 x3 X
    · by_cases h32_48 : i < 48
      · by_cases h32_40 : i < 40
        · by_cases h32_36 : i < 36
          · by_cases h32_34 : i < 34
            · by_cases h32_33 : i < 33
              · obtain rfl : i = 32 := by omega
                exact vb_32 a r x0 x1 x2 x3 X
              · obtain rfl : i = 33 := by omega
                exact vb_33 a r x0 x1 x2 x3 X
            · by_cases h34_35 : i < 35
              · obtain rfl : i = 34 := by omega
                exact vb_34 a r x0 x1 x2 x3 X
              · obtain rfl : i = 35 := by omega
                exact vb_35 a r x0 x1 x2 x3 X
          · by_cases h36_38 : i < 38
            · by_cases h36_37 : i < 37
              · obtain rfl : i = 36 := by omega
                exact vb_36 a r x0 x1 x2 x3 X
              · obtain rfl : i = 37 := by omega
                exact vb_37 a r x0 x1 x2 x3 X
            · by_cases h38_39 : i < 39
              · obtain rfl : i = 38 := by omega
                exact vb_38 a r x0 x1 x2 x3 X
              · obtain rfl : i = 39 := by omega
                exact vb_39 a r x0 x1 x2 x3 X
        · by_cases h40_44 : i < 44
          · by_cases h40_42 : i < 42
            · by_cases h40_41 : i < 41
              · obtain rfl : i = 40 := by omega
                exact vb_40 a r x0 x1 x2 x3 X
              · obtain rfl : i = 41 := by omega
                exact vb_41 a r x0 x1 x2 x3 X
            · by_cases h42_43 : i < 43
              · obtain rfl : i = 42 := by omega
                exact vb_42 a r x0 x1 x2 x3 X
              · obtain rfl : i = 43 := by omega
                exact vb_43 a r x0 x1 x2 x3 X
          · by_cases h44_46 : i < 46
            · by_cases h44_45 : i < 45
              · obtain rfl : i = 44 := by omega
                exact vb_44 a r x0 x1 x2 x3 X
              · obtain rfl : i = 45 := by omega
                exact vb_45 a r x0 x1 x2 x3 X
            · by_cases h46_47 : i < 47
              · obtain rfl : i = 46 := by omega
                exact vb_46 a r x0 x1 x2 x3 X
              · obtain rfl : i = 47 := by omega
                exact vb_47 a r x0 x1 x2 x3 X
      · by_cases h48_56 : i < 56
        · by_cases h48_52 : i < 52
          · by_cases h48_50 : i < 50
            · by_cases h48_49 : i < 49
              · obtain rfl : i = 48 := by omega
                exact vb_48 a r x0 x1 x2 x3 X
              · obtain rfl : i = 49 := by omega
                exact vb_49 a r x0 x1 x2 x3 X
            · by_cases h50_51 : i < 51
              · obtain rfl : i = 50 := by omega
                exact vb_50 a r x0 x1 x2 x3 X
              · obtain rfl : i = 51 := by omega
                exact vb_51 a r x0 x1 x2 x3 X
          · by_cases h52_54 : i < 54
            · by_cases h52_53 : i < 53
              · obtain rfl : i = 52 := by omega
                exact vb_52 a r x0 x1 x2 x3 X
              · obtain rfl : i = 53 := by omega
                exact vb_53 a r x0 x1 x2 x3 X
            · by_cases h54_55 : i < 55
              · obtain rfl : i = 54 := by omega
                exact vb_54 a r x0 x1 x2 x3 X
              · obtain rfl : i = 55 := by omega
                exact vb_55 a r x0 x1 x2 x3 X
        · by_cases h56_60 : i < 60
          · by_cases h56_58 : i < 58
            · by_cases h56_57 : i < 57
              · obtain rfl : i = 56 := by omega
                exact vb_56 a r x0 x1 x2 x3 X
              · obtain rfl : i = 57 := by omega
                exact vb_57 a r x0 x1 x2 x3 X
            · by_cases h58_59 : i < 59
              · obtain rfl : i = 58 := by omega
                exact vb_58 a r x0 x1 x2 x3 X
              · obtain rfl : i = 59 := by omega
                exact vb_59 a r x0 x1 x2 x3 X
          · by_cases h60_62 : i < 62
            · by_cases h60_61 : i < 61
              · obtain rfl : i = 60 := by omega
                exact vb_60 a r x0 x1 x2 x3 X
              · obtain rfl : i = 61 := by omega
                exact vb_61 a r x0 x1 x2 x3 X
            · by_cases h62_63 : i < 63
              · obtain rfl : i = 62 := by omega
                exact vb_62 a r x0 x1 x2 x3 X
              · obtain rfl : i = 63 := by omega
                exact vb_63 a r x0 x1 x2 x3 X
  · by_cases h64_96 : i < 96
    · by_cases h64_80 : i < 80
      · by_cases h64_72 : i < 72
        · by_cases h64_68 : i < 68
          · by_cases h64_66 : i < 66
            · by_cases h64_65 : i < 65
              · obtain rfl : i = 64 := by omega
                exact vb_64 a r x0 x1 x2 x3 X
              · obtain rfl : i = 65 := by omega
                exact vb_65 a r x0 x1 x2 x3 X
            · by_cases h66_67 : i < 67
              · obtain rfl : i = 66 := by omega
                exact vb_66 a r x0 x1 x2 x3 X
              · obtain rfl : i = 67 := by omega
                exact vb_67 a r x0 x1 x2 x3 X
          · by_cases h68_70 : i < 70
            · by_cases h68_69 : i < 69
              · obtain rfl : i = 68 := by omega
                exact vb_68 a r x0 x1 x2 x3 X
              · obtain rfl : i = 69 := by omega
                exact vb_69 a r x0 x1 x2 x3 X
            · by_cases h70_71 : i < 71
              · obtain rfl : i = 70 := by omega
                exact vb_70 a r x0 x1 x2 x3 X
              · obtain rfl : i = 71 := by omega
                exact vb_71 a r x0 x1 x2 x3 X
        · by_cases h72_76 : i < 76
          · by_cases h72_74 : i < 74
            · by_cases h72_73 : i < 73
              · obtain rfl : i = 72 := by omega
                exact vb_72 a r x0 x1 x2 x3 X
              · obtain rfl : i = 73 := by omega
                exact vb_73 a r x0 x1 x2 x3 X
            · by_cases h74_75 : i < 75
              · obtain rfl : i = 74 := by omega
                exact vb_74 a r x0 x1 x2 x3 X
              · obtain rfl : i = 75 := by omega
                exact vb_75 a r x0 x1 x2 x3 X
          · by_cases h76_78 : i < 78
            · by_cases h76_77 : i < 77
              · obtain rfl : i = 76 := by omega
                exact vb_76 a r x0 x1 x2 x3 X
              · obtain rfl : i = 77 := by omega
                exact vb_77 a r x0 x1 x2 x3 X
            · by_cases h78_79 : i < 79
              · obtain rfl : i = 78 := by omega
                exact vb_78 a r x0 x1 x2 x3 X
              · obtain rfl : i = 79 := by omega
                exact vb_79 a r x0 x1 x2 x3 X
      · by_cases h80_88 : i < 88
        · by_cases h80_84 : i < 84
          · by_cases h80_82 : i < 82
            · by_cases h80_81 : i < 81
              · obtain rfl : i = 80 := by omega
                exact vb_80 a r x0 x1 x2 x3 X
              · obtain rfl : i = 81 := by omega
                exact vb_81 a r x0 x1 x2 x3 X
            · by_cases h82_83 : i < 83
              · obtain rfl : i = 82 := by omega
                exact vb_82 a r x0 x1 x2 x3 X
              · obtain rfl : i = 83 := by omega
                exact vb_83 a r x0 x1 x2 x3 X
          · by_cases h84_86 : i < 86
            · by_cases h84_85 : i < 85
              · obtain rfl : i = 84 := by omega
                exact vb_84 a r x0 x1 x2 x3 X
              · obtain rfl : i = 85 := by omega
                exact vb_85 a r x0 x1 x2 x3 X
            · by_cases h86_87 : i < 87
              · obtain rfl : i = 86 := by omega
                exact vb_86 a r x0 x1 x2 x3 X
              · obtain rfl : i = 87 := by omega
                exact vb_87 a r x0 x1 x2 x3 X
        · by_cases h88_92 : i < 92
          · by_cases h88_90 : i < 90
            · by_cases h88_89 : i < 89
              · obtain rfl : i = 88 := by omega
                exact vb_88 a r x0 x1 x2 x3 X
              · obtain rfl : i = 89 := by omega
                exact vb_89 a r x0 x1 x2 x3 X
            · by_cases h90_91 : i < 91
              · obtain rfl : i = 90 := by omega
                exact vb_90 a r x0 x1 x2 x3 X
              · obtain rfl : i = 91 := by omega
                exact vb_91 a r x0 x1 x2 x3 X
          · by_cases h92_94 : i < 94
            · by_cases h92_93 : i < 93
              · obtain rfl : i = 92 := by omega
                exact vb_92 a r x0 x1 x2 x3 X
              · obtain rfl : i = 93 := by omega
                exact vb_93 a r x0 x1 x2 x3 X
            · by_cases h94_95 : i < 95
              · obtain rfl : i = 94 := by omega
                exact vb_94 a r x0 x1 x2 x3 X
              · obtain rfl : i = 95 := by omega
                exact vb_95 a r x0 x1 x2 x3 X
    · by_cases h96_112 : i < 112
      · by_cases h96_104 : i < 104
        · by_cases h96_100 : i < 100
          · by_cases h96_98 : i < 98
            · by_cases h96_97 : i < 97
              · obtain rfl : i = 96 := by omega
                exact vb_96 a r x0 x1 x2 x3 X
              · obtain rfl : i = 97 := by omega
                exact vb_97 a r x0 x1 x2 x3 X
            · by_cases h98_99 : i < 99
              · obtain rfl : i = 98 := by omega
                exact vb_98 a r x0 x1 x2 x3 X
              · obtain rfl : i = 99 := by omega
                exact vb_99 a r x0 x1 x2 x3 X
          · by_cases h100_102 : i < 102
            · by_cases h100_101 : i < 101
              · obtain rfl : i = 100 := by omega
                exact vb_100 a r x0 x1 x2 x3 X
              · obtain rfl : i = 101 := by omega
                exact vb_101 a r x0 x1 x2 x3 X
            · by_cases h102_103 : i < 103
              · obtain rfl : i = 102 := by omega
                exact vb_102 a r x0 x1 x2 x3 X
              · obtain rfl : i = 103 := by omega
                exact vb_103 a r x0 x1 x2 x3 X
        · by_cases h104_108 : i < 108
          · by_cases h104_106 : i < 106
            · by_cases h104_105 : i < 105
              · obtain rfl : i = 104 := by omega
                exact vb_104 a r x0 x1 x2 x3 X
              · obtain rfl : i = 105 := by omega
                exact vb_105 a r x0 x1 x2 x3 X
            · by_cases h106_107 : i < 107
              · obtain rfl : i = 106 := by omega
                exact vb_106 a r x0 x1 x2 x3 X
              · obtain rfl : i = 107 := by omega
                exact vb_107 a r x0 x1 x2 x3 X
          · by_cases h108_110 : i < 110
            · by_cases h108_109 : i < 109
              · obtain rfl : i = 108 := by omega
                exact vb_108 a r x0 x1 x2 x3 X
              · obtain rfl : i = 109 := by omega
                exact vb_109 a r x0 x1 x2 x3 X
            · by_cases h110_111 : i < 111
              · obtain rfl : i = 110 := by omega
                exact vb_110 a r x0 x1 x2 x3 X
              · obtain rfl : i = 111 := by omega
                exact vb_111 a r x0 x1 x2 x3 X
      · by_cases h112_120 : i < 120
        · by_cases h112_116 : i < 116
          · by_cases h112_114 : i < 114
            · by_cases h112_113 : i < 113
              · obtain rfl : i = 112 := by omega
                exact vb_112 a r x0 x1 x2 x3 X
              · obtain rfl : i = 113 := by omega
                exact vb_113 a r x0 x1 x2 x3 X
            · by_cases h114_115 : i < 115
              · obtain rfl : i = 114 := by omega
                exact vb_114 a r x0 x1 x2 x3 X
              · obtain rfl : i = 115 := by omega
                exact vb_115 a r x0 x1 x2 x3 X
          · by_cases h116_118 : i < 118
            · by_cases h116_117 : i < 117
              · obtain rfl : i = 116 := by omega
                exact vb_116 a r x0 x1 x2 x3 X
              · obtain rfl : i = 117 := by omega
                exact vb_117 a r x0 x1 x2 x3 X
            · by_cases h118_119 : i < 119
              · obtain rfl : i = 118 := by omega
                exact vb_118 a r x0 x1 x2 x3 X
              · obtain rfl : i = 119 := by omega
                exact vb_119 a r x0 x1 x2 x3 X
        · by_cases h120_124 : i < 124
          · by_cases h120_122 : i < 122
            · by_cases h120_121 : i < 121
              · obtain rfl : i = 120 := by omega
                exact vb_120 a r x0 x1 x2 x3 X
              · obtain rfl : i = 121 := by omega
                exact vb_121 a r x0 x1 x2 x3 X
            · by_cases h122_123 : i < 123
              · obtain rfl : i = 122 := by omega
                exact vb_122 a r x0 x1 x2 x3 X
              · obtain rfl : i = 123 := by omega
                exact vb_123 a r x0 x1 x2 x3 X
          · by_cases h124_126 : i < 126
            · by_cases h124_125 : i < 125
              · obtain rfl : i = 124 := by omega
                exact vb_124 a r x0 x1 x2 x3 X
              · obtain rfl : i = 125 := by omega
                exact vb_125 a r x0 x1 x2 x3 X
            · by_cases h126_127 : i < 127
              · obtain rfl : i = 126 := by omega
                exact vb_126 a r x0 x1 x2 x3 X
              · obtain rfl : i = 127 := by omega
                exact vb_127 a r x0 x1 x2 x3 X
end

end Go.Proofs.YtcmfgabhgodlaaaGreatDoor
