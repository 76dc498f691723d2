/- The program's powers of two, each. -/
import Derived.Test.YtlioffkonfkflaaZz10
namespace Go.Proofs.Ytlioffkonfkflaa
open Go Go.RowKit
set_option linter.unusedSimpArgs false
set_option linter.unusedVariables false
set_option maxRecDepth 100000

def PowAt (k : Nat) : Prop := runA Try.prog 52 #[.int .i64 (Int.ofNat k)] [] [] = some (rt (wv (2 ^ k)), [])
theorem pw_0 : PowAt 0 := by unfold PowAt; kernel_rfl
theorem pw_1 : PowAt 1 := by unfold PowAt; kernel_rfl
theorem pw_2 : PowAt 2 := by unfold PowAt; kernel_rfl
theorem pw_3 : PowAt 3 := by unfold PowAt; kernel_rfl
theorem pw_4 : PowAt 4 := by unfold PowAt; kernel_rfl
theorem pw_5 : PowAt 5 := by unfold PowAt; kernel_rfl
theorem pw_6 : PowAt 6 := by unfold PowAt; kernel_rfl
theorem pw_7 : PowAt 7 := by unfold PowAt; kernel_rfl
theorem pw_8 : PowAt 8 := by unfold PowAt; kernel_rfl
theorem pw_9 : PowAt 9 := by unfold PowAt; kernel_rfl
theorem pw_10 : PowAt 10 := by unfold PowAt; kernel_rfl
theorem pw_11 : PowAt 11 := by unfold PowAt; kernel_rfl
theorem pw_12 : PowAt 12 := by unfold PowAt; kernel_rfl
theorem pw_13 : PowAt 13 := by unfold PowAt; kernel_rfl
theorem pw_14 : PowAt 14 := by unfold PowAt; kernel_rfl
theorem pw_15 : PowAt 15 := by unfold PowAt; kernel_rfl
theorem pw_16 : PowAt 16 := by unfold PowAt; kernel_rfl
theorem pw_17 : PowAt 17 := by unfold PowAt; kernel_rfl
theorem pw_18 : PowAt 18 := by unfold PowAt; kernel_rfl
theorem pw_19 : PowAt 19 := by unfold PowAt; kernel_rfl
theorem pw_20 : PowAt 20 := by unfold PowAt; kernel_rfl
theorem pw_21 : PowAt 21 := by unfold PowAt; kernel_rfl
theorem pw_22 : PowAt 22 := by unfold PowAt; kernel_rfl
theorem pw_23 : PowAt 23 := by unfold PowAt; kernel_rfl
theorem pw_24 : PowAt 24 := by unfold PowAt; kernel_rfl
theorem pw_25 : PowAt 25 := by unfold PowAt; kernel_rfl
theorem pw_26 : PowAt 26 := by unfold PowAt; kernel_rfl
theorem pw_27 : PowAt 27 := by unfold PowAt; kernel_rfl
theorem pw_28 : PowAt 28 := by unfold PowAt; kernel_rfl
theorem pw_29 : PowAt 29 := by unfold PowAt; kernel_rfl
theorem pw_30 : PowAt 30 := by unfold PowAt; kernel_rfl
theorem pw_31 : PowAt 31 := by unfold PowAt; kernel_rfl
theorem pw_32 : PowAt 32 := by unfold PowAt; kernel_rfl
theorem pw_33 : PowAt 33 := by unfold PowAt; kernel_rfl
theorem pw_34 : PowAt 34 := by unfold PowAt; kernel_rfl
theorem pw_35 : PowAt 35 := by unfold PowAt; kernel_rfl
theorem pw_36 : PowAt 36 := by unfold PowAt; kernel_rfl
theorem pw_37 : PowAt 37 := by unfold PowAt; kernel_rfl
theorem pw_38 : PowAt 38 := by unfold PowAt; kernel_rfl
theorem pw_39 : PowAt 39 := by unfold PowAt; kernel_rfl
theorem pw_40 : PowAt 40 := by unfold PowAt; kernel_rfl
theorem pw_41 : PowAt 41 := by unfold PowAt; kernel_rfl
theorem pw_42 : PowAt 42 := by unfold PowAt; kernel_rfl
theorem pw_43 : PowAt 43 := by unfold PowAt; kernel_rfl
theorem pw_44 : PowAt 44 := by unfold PowAt; kernel_rfl
theorem pw_45 : PowAt 45 := by unfold PowAt; kernel_rfl
theorem pw_46 : PowAt 46 := by unfold PowAt; kernel_rfl
theorem pw_47 : PowAt 47 := by unfold PowAt; kernel_rfl
theorem pw_48 : PowAt 48 := by unfold PowAt; kernel_rfl
theorem pw_49 : PowAt 49 := by unfold PowAt; kernel_rfl
theorem pw_50 : PowAt 50 := by unfold PowAt; kernel_rfl
theorem pw_51 : PowAt 51 := by unfold PowAt; kernel_rfl
theorem pw_52 : PowAt 52 := by unfold PowAt; kernel_rfl
theorem pw_53 : PowAt 53 := by unfold PowAt; kernel_rfl
theorem pw_54 : PowAt 54 := by unfold PowAt; kernel_rfl
theorem pw_55 : PowAt 55 := by unfold PowAt; kernel_rfl
theorem pw_56 : PowAt 56 := by unfold PowAt; kernel_rfl
theorem pw_57 : PowAt 57 := by unfold PowAt; kernel_rfl
theorem pw_58 : PowAt 58 := by unfold PowAt; kernel_rfl
theorem pw_59 : PowAt 59 := by unfold PowAt; kernel_rfl
theorem pw_60 : PowAt 60 := by unfold PowAt; kernel_rfl
theorem pw_61 : PowAt 61 := by unfold PowAt; kernel_rfl
theorem pw_62 : PowAt 62 := by unfold PowAt; kernel_rfl
theorem pw_63 : PowAt 63 := by unfold PowAt; kernel_rfl
theorem pw_64 : PowAt 64 := by unfold PowAt; kernel_rfl
theorem pw_65 : PowAt 65 := by unfold PowAt; kernel_rfl
theorem pw_66 : PowAt 66 := by unfold PowAt; kernel_rfl
theorem pw_67 : PowAt 67 := by unfold PowAt; kernel_rfl
theorem pw_68 : PowAt 68 := by unfold PowAt; kernel_rfl
theorem pw_69 : PowAt 69 := by unfold PowAt; kernel_rfl
theorem pw_70 : PowAt 70 := by unfold PowAt; kernel_rfl
theorem pw_71 : PowAt 71 := by unfold PowAt; kernel_rfl
theorem pw_72 : PowAt 72 := by unfold PowAt; kernel_rfl
theorem pw_73 : PowAt 73 := by unfold PowAt; kernel_rfl
theorem pw_74 : PowAt 74 := by unfold PowAt; kernel_rfl
theorem pw_75 : PowAt 75 := by unfold PowAt; kernel_rfl
theorem pw_76 : PowAt 76 := by unfold PowAt; kernel_rfl
theorem pw_77 : PowAt 77 := by unfold PowAt; kernel_rfl
theorem pw_78 : PowAt 78 := by unfold PowAt; kernel_rfl
theorem pw_79 : PowAt 79 := by unfold PowAt; kernel_rfl
theorem pw_80 : PowAt 80 := by unfold PowAt; kernel_rfl
theorem pw_81 : PowAt 81 := by unfold PowAt; kernel_rfl
theorem pw_82 : PowAt 82 := by unfold PowAt; kernel_rfl
theorem pw_83 : PowAt 83 := by unfold PowAt; kernel_rfl
theorem pw_84 : PowAt 84 := by unfold PowAt; kernel_rfl
theorem pw_85 : PowAt 85 := by unfold PowAt; kernel_rfl
theorem pw_86 : PowAt 86 := by unfold PowAt; kernel_rfl
theorem pw_87 : PowAt 87 := by unfold PowAt; kernel_rfl
theorem pw_88 : PowAt 88 := by unfold PowAt; kernel_rfl
theorem pw_89 : PowAt 89 := by unfold PowAt; kernel_rfl
theorem pw_90 : PowAt 90 := by unfold PowAt; kernel_rfl
theorem pw_91 : PowAt 91 := by unfold PowAt; kernel_rfl
theorem pw_92 : PowAt 92 := by unfold PowAt; kernel_rfl
theorem pw_93 : PowAt 93 := by unfold PowAt; kernel_rfl
theorem pw_94 : PowAt 94 := by unfold PowAt; kernel_rfl
theorem pw_95 : PowAt 95 := by unfold PowAt; kernel_rfl
theorem pw_96 : PowAt 96 := by unfold PowAt; kernel_rfl
theorem pw_97 : PowAt 97 := by unfold PowAt; kernel_rfl
theorem pw_98 : PowAt 98 := by unfold PowAt; kernel_rfl
theorem pw_99 : PowAt 99 := by unfold PowAt; kernel_rfl
theorem pw_100 : PowAt 100 := by unfold PowAt; kernel_rfl
theorem pw_101 : PowAt 101 := by unfold PowAt; kernel_rfl
theorem pw_102 : PowAt 102 := by unfold PowAt; kernel_rfl
theorem pw_103 : PowAt 103 := by unfold PowAt; kernel_rfl
theorem pw_104 : PowAt 104 := by unfold PowAt; kernel_rfl
theorem pw_105 : PowAt 105 := by unfold PowAt; kernel_rfl
theorem pw_106 : PowAt 106 := by unfold PowAt; kernel_rfl
theorem pw_107 : PowAt 107 := by unfold PowAt; kernel_rfl
theorem pw_108 : PowAt 108 := by unfold PowAt; kernel_rfl
theorem pw_109 : PowAt 109 := by unfold PowAt; kernel_rfl
theorem pw_110 : PowAt 110 := by unfold PowAt; kernel_rfl
theorem pw_111 : PowAt 111 := by unfold PowAt; kernel_rfl
theorem pw_112 : PowAt 112 := by unfold PowAt; kernel_rfl
theorem pw_113 : PowAt 113 := by unfold PowAt; kernel_rfl
theorem pw_114 : PowAt 114 := by unfold PowAt; kernel_rfl
theorem pw_115 : PowAt 115 := by unfold PowAt; kernel_rfl
theorem pw_116 : PowAt 116 := by unfold PowAt; kernel_rfl
theorem pw_117 : PowAt 117 := by unfold PowAt; kernel_rfl
theorem pw_118 : PowAt 118 := by unfold PowAt; kernel_rfl
theorem pw_119 : PowAt 119 := by unfold PowAt; kernel_rfl
theorem pw_120 : PowAt 120 := by unfold PowAt; kernel_rfl
theorem pw_121 : PowAt 121 := by unfold PowAt; kernel_rfl
theorem pw_122 : PowAt 122 := by unfold PowAt; kernel_rfl
theorem pw_123 : PowAt 123 := by unfold PowAt; kernel_rfl
theorem pw_124 : PowAt 124 := by unfold PowAt; kernel_rfl
theorem pw_125 : PowAt 125 := by unfold PowAt; kernel_rfl
theorem pw_126 : PowAt 126 := by unfold PowAt; kernel_rfl
theorem pw_127 : PowAt 127 := by unfold PowAt; kernel_rfl
theorem pw_128 : PowAt 128 := by unfold PowAt; kernel_rfl
theorem pw_129 : PowAt 129 := by unfold PowAt; kernel_rfl
theorem pw_130 : PowAt 130 := by unfold PowAt; kernel_rfl
theorem pw_131 : PowAt 131 := by unfold PowAt; kernel_rfl
theorem pw_132 : PowAt 132 := by unfold PowAt; kernel_rfl
theorem pw_133 : PowAt 133 := by unfold PowAt; kernel_rfl
theorem pw_134 : PowAt 134 := by unfold PowAt; kernel_rfl
theorem pw_135 : PowAt 135 := by unfold PowAt; kernel_rfl
theorem pw_136 : PowAt 136 := by unfold PowAt; kernel_rfl
theorem pw_137 : PowAt 137 := by unfold PowAt; kernel_rfl
theorem pw_138 : PowAt 138 := by unfold PowAt; kernel_rfl
theorem pw_139 : PowAt 139 := by unfold PowAt; kernel_rfl
theorem pw_140 : PowAt 140 := by unfold PowAt; kernel_rfl
theorem pw_141 : PowAt 141 := by unfold PowAt; kernel_rfl
theorem pw_142 : PowAt 142 := by unfold PowAt; kernel_rfl
theorem pw_143 : PowAt 143 := by unfold PowAt; kernel_rfl
theorem pw_144 : PowAt 144 := by unfold PowAt; kernel_rfl
theorem pw_145 : PowAt 145 := by unfold PowAt; kernel_rfl
theorem pw_146 : PowAt 146 := by unfold PowAt; kernel_rfl
theorem pw_147 : PowAt 147 := by unfold PowAt; kernel_rfl
theorem pw_148 : PowAt 148 := by unfold PowAt; kernel_rfl
theorem pw_149 : PowAt 149 := by unfold PowAt; kernel_rfl
theorem pw_150 : PowAt 150 := by unfold PowAt; kernel_rfl
theorem pw_151 : PowAt 151 := by unfold PowAt; kernel_rfl
theorem pw_152 : PowAt 152 := by unfold PowAt; kernel_rfl
theorem pw_153 : PowAt 153 := by unfold PowAt; kernel_rfl
theorem pw_154 : PowAt 154 := by unfold PowAt; kernel_rfl
theorem pw_155 : PowAt 155 := by unfold PowAt; kernel_rfl
theorem pw_156 : PowAt 156 := by unfold PowAt; kernel_rfl
theorem pw_157 : PowAt 157 := by unfold PowAt; kernel_rfl
theorem pw_158 : PowAt 158 := by unfold PowAt; kernel_rfl
theorem pw_159 : PowAt 159 := by unfold PowAt; kernel_rfl
theorem pw_160 : PowAt 160 := by unfold PowAt; kernel_rfl
theorem pw_161 : PowAt 161 := by unfold PowAt; kernel_rfl
theorem pw_162 : PowAt 162 := by unfold PowAt; kernel_rfl
theorem pw_163 : PowAt 163 := by unfold PowAt; kernel_rfl
theorem pw_164 : PowAt 164 := by unfold PowAt; kernel_rfl
theorem pw_165 : PowAt 165 := by unfold PowAt; kernel_rfl
theorem pw_166 : PowAt 166 := by unfold PowAt; kernel_rfl
theorem pw_167 : PowAt 167 := by unfold PowAt; kernel_rfl
theorem pw_168 : PowAt 168 := by unfold PowAt; kernel_rfl
theorem pw_169 : PowAt 169 := by unfold PowAt; kernel_rfl
theorem pw_170 : PowAt 170 := by unfold PowAt; kernel_rfl
theorem pw_171 : PowAt 171 := by unfold PowAt; kernel_rfl
theorem pw_172 : PowAt 172 := by unfold PowAt; kernel_rfl
theorem pw_173 : PowAt 173 := by unfold PowAt; kernel_rfl
theorem pw_174 : PowAt 174 := by unfold PowAt; kernel_rfl
theorem pw_175 : PowAt 175 := by unfold PowAt; kernel_rfl
theorem pw_176 : PowAt 176 := by unfold PowAt; kernel_rfl
theorem pw_177 : PowAt 177 := by unfold PowAt; kernel_rfl
theorem pw_178 : PowAt 178 := by unfold PowAt; kernel_rfl
theorem pw_179 : PowAt 179 := by unfold PowAt; kernel_rfl
theorem pw_180 : PowAt 180 := by unfold PowAt; kernel_rfl
theorem pw_181 : PowAt 181 := by unfold PowAt; kernel_rfl
theorem pw_182 : PowAt 182 := by unfold PowAt; kernel_rfl
theorem pw_183 : PowAt 183 := by unfold PowAt; kernel_rfl
theorem pw_184 : PowAt 184 := by unfold PowAt; kernel_rfl
theorem pw_185 : PowAt 185 := by unfold PowAt; kernel_rfl
theorem pw_186 : PowAt 186 := by unfold PowAt; kernel_rfl
theorem pw_187 : PowAt 187 := by unfold PowAt; kernel_rfl
theorem pw_188 : PowAt 188 := by unfold PowAt; kernel_rfl
theorem pw_189 : PowAt 189 := by unfold PowAt; kernel_rfl
theorem pw_190 : PowAt 190 := by unfold PowAt; kernel_rfl
theorem pw_191 : PowAt 191 := by unfold PowAt; kernel_rfl
theorem pw_192 : PowAt 192 := by unfold PowAt; kernel_rfl
theorem pw_193 : PowAt 193 := by unfold PowAt; kernel_rfl
theorem pw_194 : PowAt 194 := by unfold PowAt; kernel_rfl
theorem pw_195 : PowAt 195 := by unfold PowAt; kernel_rfl
theorem pw_196 : PowAt 196 := by unfold PowAt; kernel_rfl
theorem pw_197 : PowAt 197 := by unfold PowAt; kernel_rfl
theorem pw_198 : PowAt 198 := by unfold PowAt; kernel_rfl
theorem pw_199 : PowAt 199 := by unfold PowAt; kernel_rfl
theorem pw_200 : PowAt 200 := by unfold PowAt; kernel_rfl
theorem pw_201 : PowAt 201 := by unfold PowAt; kernel_rfl
theorem pw_202 : PowAt 202 := by unfold PowAt; kernel_rfl
theorem pw_203 : PowAt 203 := by unfold PowAt; kernel_rfl
theorem pw_204 : PowAt 204 := by unfold PowAt; kernel_rfl
theorem pw_205 : PowAt 205 := by unfold PowAt; kernel_rfl
theorem pw_206 : PowAt 206 := by unfold PowAt; kernel_rfl
theorem pw_207 : PowAt 207 := by unfold PowAt; kernel_rfl
theorem pw_208 : PowAt 208 := by unfold PowAt; kernel_rfl
theorem pw_209 : PowAt 209 := by unfold PowAt; kernel_rfl
theorem pw_210 : PowAt 210 := by unfold PowAt; kernel_rfl
theorem pw_211 : PowAt 211 := by unfold PowAt; kernel_rfl
theorem pw_212 : PowAt 212 := by unfold PowAt; kernel_rfl
theorem pw_213 : PowAt 213 := by unfold PowAt; kernel_rfl
theorem pw_214 : PowAt 214 := by unfold PowAt; kernel_rfl
theorem pw_215 : PowAt 215 := by unfold PowAt; kernel_rfl
theorem pw_216 : PowAt 216 := by unfold PowAt; kernel_rfl
theorem pw_217 : PowAt 217 := by unfold PowAt; kernel_rfl
theorem pw_218 : PowAt 218 := by unfold PowAt; kernel_rfl
theorem pw_219 : PowAt 219 := by unfold PowAt; kernel_rfl
theorem pw_220 : PowAt 220 := by unfold PowAt; kernel_rfl
theorem pw_221 : PowAt 221 := by unfold PowAt; kernel_rfl
theorem pw_222 : PowAt 222 := by unfold PowAt; kernel_rfl
theorem pw_223 : PowAt 223 := by unfold PowAt; kernel_rfl
theorem pw_224 : PowAt 224 := by unfold PowAt; kernel_rfl
theorem pw_225 : PowAt 225 := by unfold PowAt; kernel_rfl
theorem pw_226 : PowAt 226 := by unfold PowAt; kernel_rfl
theorem pw_227 : PowAt 227 := by unfold PowAt; kernel_rfl
theorem pw_228 : PowAt 228 := by unfold PowAt; kernel_rfl
theorem pw_229 : PowAt 229 := by unfold PowAt; kernel_rfl
theorem pw_230 : PowAt 230 := by unfold PowAt; kernel_rfl
theorem pw_231 : PowAt 231 := by unfold PowAt; kernel_rfl
theorem pw_232 : PowAt 232 := by unfold PowAt; kernel_rfl
theorem pw_233 : PowAt 233 := by unfold PowAt; kernel_rfl
theorem pw_234 : PowAt 234 := by unfold PowAt; kernel_rfl
theorem pw_235 : PowAt 235 := by unfold PowAt; kernel_rfl
theorem pw_236 : PowAt 236 := by unfold PowAt; kernel_rfl
theorem pw_237 : PowAt 237 := by unfold PowAt; kernel_rfl
theorem pw_238 : PowAt 238 := by unfold PowAt; kernel_rfl
theorem pw_239 : PowAt 239 := by unfold PowAt; kernel_rfl
theorem pw_240 : PowAt 240 := by unfold PowAt; kernel_rfl
theorem pw_241 : PowAt 241 := by unfold PowAt; kernel_rfl
theorem pw_242 : PowAt 242 := by unfold PowAt; kernel_rfl
theorem pw_243 : PowAt 243 := by unfold PowAt; kernel_rfl
theorem pw_244 : PowAt 244 := by unfold PowAt; kernel_rfl
theorem pw_245 : PowAt 245 := by unfold PowAt; kernel_rfl
theorem pw_246 : PowAt 246 := by unfold PowAt; kernel_rfl
theorem pw_247 : PowAt 247 := by unfold PowAt; kernel_rfl
theorem pw_248 : PowAt 248 := by unfold PowAt; kernel_rfl
theorem pw_249 : PowAt 249 := by unfold PowAt; kernel_rfl
theorem pw_250 : PowAt 250 := by unfold PowAt; kernel_rfl
theorem pw_251 : PowAt 251 := by unfold PowAt; kernel_rfl
theorem pw_252 : PowAt 252 := by unfold PowAt; kernel_rfl
theorem pw_253 : PowAt 253 := by unfold PowAt; kernel_rfl
theorem pw_254 : PowAt 254 := by unfold PowAt; kernel_rfl
theorem pw_all (k : Nat) (hk : k < 255) : PowAt k := by
  by_cases h0_127 : k < 127
  · by_cases h0_63 : k < 63
    · by_cases h0_31 : k < 31
      · by_cases h0_15 : k < 15
        · by_cases h0_7 : k < 7
          · by_cases h0_3 : k < 3
            · by_cases h0_1 : k < 1
              · obtain rfl : k = 0 := by omega
                exact pw_0
              · by_cases h1_2 : k < 2
                · obtain rfl : k = 1 := by omega
                  exact pw_1
                · obtain rfl : k = 2 := by omega
                  exact pw_2
            · by_cases h3_5 : k < 5
              · by_cases h3_4 : k < 4
                · obtain rfl : k = 3 := by omega
                  exact pw_3
                · obtain rfl : k = 4 := by omega
                  exact pw_4
              · by_cases h5_6 : k < 6
                · obtain rfl : k = 5 := by omega
                  exact pw_5
                · obtain rfl : k = 6 := by omega
                  exact pw_6
          · by_cases h7_11 : k < 11
            · by_cases h7_9 : k < 9
              · by_cases h7_8 : k < 8
                · obtain rfl : k = 7 := by omega
                  exact pw_7
                · obtain rfl : k = 8 := by omega
                  exact pw_8
              · by_cases h9_10 : k < 10
                · obtain rfl : k = 9 := by omega
                  exact pw_9
                · obtain rfl : k = 10 := by omega
                  exact pw_10
            · by_cases h11_13 : k < 13
              · by_cases h11_12 : k < 12
                · obtain rfl : k = 11 := by omega
                  exact pw_11
                · obtain rfl : k = 12 := by omega
                  exact pw_12
              · by_cases h13_14 : k < 14
                · obtain rfl : k = 13 := by omega
                  exact pw_13
                · obtain rfl : k = 14 := by omega
                  exact pw_14
        · by_cases h15_23 : k < 23
          · by_cases h15_19 : k < 19
            · by_cases h15_17 : k < 17
              · by_cases h15_16 : k < 16
                · obtain rfl : k = 15 := by omega
                  exact pw_15
                · obtain rfl : k = 16 := by omega
                  exact pw_16
              · by_cases h17_18 : k < 18
                · obtain rfl : k = 17 := by omega
                  exact pw_17
                · obtain rfl : k = 18 := by omega
                  exact pw_18
            · by_cases h19_21 : k < 21
              · by_cases h19_20 : k < 20
                · obtain rfl : k = 19 := by omega
                  exact pw_19
                · obtain rfl : k = 20 := by omega
                  exact pw_20
              · by_cases h21_22 : k < 22
                · obtain rfl : k = 21 := by omega
                  exact pw_21
                · obtain rfl : k = 22 := by omega
                  exact pw_22
          · by_cases h23_27 : k < 27
            · by_cases h23_25 : k < 25
              · by_cases h23_24 : k < 24
                · obtain rfl : k = 23 := by omega
                  exact pw_23
                · obtain rfl : k = 24 := by omega
                  exact pw_24
              · by_cases h25_26 : k < 26
                · obtain rfl : k = 25 := by omega
                  exact pw_25
                · obtain rfl : k = 26 := by omega
                  exact pw_26
            · by_cases h27_29 : k < 29
              · by_cases h27_28 : k < 28
                · obtain rfl : k = 27 := by omega
                  exact pw_27
                · obtain rfl : k = 28 := by omega
                  exact pw_28
              · by_cases h29_30 : k < 30
                · obtain rfl : k = 29 := by omega
                  exact pw_29
                · obtain rfl : k = 30 := by omega
                  exact pw_30
      · by_cases h31_47 : k < 47
        · by_cases h31_39 : k < 39
          · by_cases h31_35 : k < 35
            · by_cases h31_33 : k < 33
              · by_cases h31_32 : k < 32
                · obtain rfl : k = 31 := by omega
                  exact pw_31
                · obtain rfl : k = 32 := by omega
                  exact pw_32
              · by_cases h33_34 : k < 34
                · obtain rfl : k = 33 := by omega
                  exact pw_33
                · obtain rfl : k = 34 := by omega
                  exact pw_34
            · by_cases h35_37 : k < 37
              · by_cases h35_36 : k < 36
                · obtain rfl : k = 35 := by omega
                  exact pw_35
                · obtain rfl : k = 36 := by omega
                  exact pw_36
              · by_cases h37_38 : k < 38
                · obtain rfl : k = 37 := by omega
                  exact pw_37
                · obtain rfl : k = 38 := by omega
                  exact pw_38
          · by_cases h39_43 : k < 43
            · by_cases h39_41 : k < 41
              · by_cases h39_40 : k < 40
                · obtain rfl : k = 39 := by omega
                  exact pw_39
                · obtain rfl : k = 40 := by omega
                  exact pw_40
              · by_cases h41_42 : k < 42
                · obtain rfl : k = 41 := by omega
                  exact pw_41
                · obtain rfl : k = 42 := by omega
                  exact pw_42
            · by_cases h43_45 : k < 45
              · by_cases h43_44 : k < 44
                · obtain rfl : k = 43 := by omega
                  exact pw_43
                · obtain rfl : k = 44 := by omega
                  exact pw_44
              · by_cases h45_46 : k < 46
                · obtain rfl : k = 45 := by omega
                  exact pw_45
                · obtain rfl : k = 46 := by omega
                  exact pw_46
        · by_cases h47_55 : k < 55
          · by_cases h47_51 : k < 51
            · by_cases h47_49 : k < 49
              · by_cases h47_48 : k < 48
                · obtain rfl : k = 47 := by omega
                  exact pw_47
                · obtain rfl : k = 48 := by omega
                  exact pw_48
              · by_cases h49_50 : k < 50
                · obtain rfl : k = 49 := by omega
                  exact pw_49
                · obtain rfl : k = 50 := by omega
                  exact pw_50
            · by_cases h51_53 : k < 53
              · by_cases h51_52 : k < 52
                · obtain rfl : k = 51 := by omega
                  exact pw_51
                · obtain rfl : k = 52 := by omega
                  exact pw_52
              · by_cases h53_54 : k < 54
                · obtain rfl : k = 53 := by omega
                  exact pw_53
                · obtain rfl : k = 54 := by omega
                  exact pw_54
          · by_cases h55_59 : k < 59
            · by_cases h55_57 : k < 57
              · by_cases h55_56 : k < 56
                · obtain rfl : k = 55 := by omega
                  exact pw_55
                · obtain rfl : k = 56 := by omega
                  exact pw_56
              · by_cases h57_58 : k < 58
                · obtain rfl : k = 57 := by omega
                  exact pw_57
                · obtain rfl : k = 58 := by omega
                  exact pw_58
            · by_cases h59_61 : k < 61
              · by_cases h59_60 : k < 60
                · obtain rfl : k = 59 := by omega
                  exact pw_59
                · obtain rfl : k = 60 := by omega
                  exact pw_60
              · by_cases h61_62 : k < 62
                · obtain rfl : k = 61 := by omega
                  exact pw_61
                · obtain rfl : k = 62 := by omega
                  exact pw_62
    · by_cases h63_95 : k < 95
      · by_cases h63_79 : k < 79
        · by_cases h63_71 : k < 71
          · by_cases h63_67 : k < 67
            · by_cases h63_65 : k < 65
              · by_cases h63_64 : k < 64
                · obtain rfl : k = 63 := by omega
                  exact pw_63
                · obtain rfl : k = 64 := by omega
                  exact pw_64
              · by_cases h65_66 : k < 66
                · obtain rfl : k = 65 := by omega
                  exact pw_65
                · obtain rfl : k = 66 := by omega
                  exact pw_66
            · by_cases h67_69 : k < 69
              · by_cases h67_68 : k < 68
                · obtain rfl : k = 67 := by omega
                  exact pw_67
                · obtain rfl : k = 68 := by omega
                  exact pw_68
              · by_cases h69_70 : k < 70
                · obtain rfl : k = 69 := by omega
                  exact pw_69
                · obtain rfl : k = 70 := by omega
                  exact pw_70
          · by_cases h71_75 : k < 75
            · by_cases h71_73 : k < 73
              · by_cases h71_72 : k < 72
                · obtain rfl : k = 71 := by omega
                  exact pw_71
                · obtain rfl : k = 72 := by omega
                  exact pw_72
              · by_cases h73_74 : k < 74
                · obtain rfl : k = 73 := by omega
                  exact pw_73
                · obtain rfl : k = 74 := by omega
                  exact pw_74
            · by_cases h75_77 : k < 77
              · by_cases h75_76 : k < 76
                · obtain rfl : k = 75 := by omega
                  exact pw_75
                · obtain rfl : k = 76 := by omega
                  exact pw_76
              · by_cases h77_78 : k < 78
                · obtain rfl : k = 77 := by omega
                  exact pw_77
                · obtain rfl : k = 78 := by omega
                  exact pw_78
        · by_cases h79_87 : k < 87
          · by_cases h79_83 : k < 83
            · by_cases h79_81 : k < 81
              · by_cases h79_80 : k < 80
                · obtain rfl : k = 79 := by omega
                  exact pw_79
                · obtain rfl : k = 80 := by omega
                  exact pw_80
              · by_cases h81_82 : k < 82
                · obtain rfl : k = 81 := by omega
                  exact pw_81
                · obtain rfl : k = 82 := by omega
                  exact pw_82
            · by_cases h83_85 : k < 85
              · by_cases h83_84 : k < 84
                · obtain rfl : k = 83 := by omega
                  exact pw_83
                · obtain rfl : k = 84 := by omega
                  exact pw_84
              · by_cases h85_86 : k < 86
                · obtain rfl : k = 85 := by omega
                  exact pw_85
                · obtain rfl : k = 86 := by omega
                  exact pw_86
          · by_cases h87_91 : k < 91
            · by_cases h87_89 : k < 89
              · by_cases h87_88 : k < 88
                · obtain rfl : k = 87 := by omega
                  exact pw_87
                · obtain rfl : k = 88 := by omega
                  exact pw_88
              · by_cases h89_90 : k < 90
                · obtain rfl : k = 89 := by omega
                  exact pw_89
                · obtain rfl : k = 90 := by omega
                  exact pw_90
            · by_cases h91_93 : k < 93
              · by_cases h91_92 : k < 92
                · obtain rfl : k = 91 := by omega
                  exact pw_91
                · obtain rfl : k = 92 := by omega
                  exact pw_92
              · by_cases h93_94 : k < 94
                · obtain rfl : k = 93 := by omega
                  exact pw_93
                · obtain rfl : k = 94 := by omega
                  exact pw_94
      · by_cases h95_111 : k < 111
        · by_cases h95_103 : k < 103
          · by_cases h95_99 : k < 99
            · by_cases h95_97 : k < 97
              · by_cases h95_96 : k < 96
                · obtain rfl : k = 95 := by omega
                  exact pw_95
                · obtain rfl : k = 96 := by omega
                  exact pw_96
              · by_cases h97_98 : k < 98
                · obtain rfl : k = 97 := by omega
                  exact pw_97
                · obtain rfl : k = 98 := by omega
                  exact pw_98
            · by_cases h99_101 : k < 101
              · by_cases h99_100 : k < 100
                · obtain rfl : k = 99 := by omega
                  exact pw_99
                · obtain rfl : k = 100 := by omega
                  exact pw_100
              · by_cases h101_102 : k < 102
                · obtain rfl : k = 101 := by omega
                  exact pw_101
                · obtain rfl : k = 102 := by omega
                  exact pw_102
          · by_cases h103_107 : k < 107
            · by_cases h103_105 : k < 105
              · by_cases h103_104 : k < 104
                · obtain rfl : k = 103 := by omega
                  exact pw_103
                · obtain rfl : k = 104 := by omega
                  exact pw_104
              · by_cases h105_106 : k < 106
                · obtain rfl : k = 105 := by omega
                  exact pw_105
                · obtain rfl : k = 106 := by omega
                  exact pw_106
            · by_cases h107_109 : k < 109
              · by_cases h107_108 : k < 108
                · obtain rfl : k = 107 := by omega
                  exact pw_107
                · obtain rfl : k = 108 := by omega
                  exact pw_108
              · by_cases h109_110 : k < 110
                · obtain rfl : k = 109 := by omega
                  exact pw_109
                · obtain rfl : k = 110 := by omega
                  exact pw_110
        · by_cases h111_119 : k < 119
          · by_cases h111_115 : k < 115
            · by_cases h111_113 : k < 113
              · by_cases h111_112 : k < 112
                · obtain rfl : k = 111 := by omega
                  exact pw_111
                · obtain rfl : k = 112 := by omega
                  exact pw_112
              · by_cases h113_114 : k < 114
                · obtain rfl : k = 113 := by omega
                  exact pw_113
                · obtain rfl : k = 114 := by omega
                  exact pw_114
            · by_cases h115_117 : k < 117
              · by_cases h115_116 : k < 116
                · obtain rfl : k = 115 := by omega
                  exact pw_115
                · obtain rfl : k = 116 := by omega
                  exact pw_116
              · by_cases h117_118 : k < 118
                · obtain rfl : k = 117 := by omega
                  exact pw_117
                · obtain rfl : k = 118 := by omega
                  exact pw_118
          · by_cases h119_123 : k < 123
            · by_cases h119_121 : k < 121
              · by_cases h119_120 : k < 120
                · obtain rfl : k = 119 := by omega
                  exact pw_119
                · obtain rfl : k = 120 := by omega
                  exact pw_120
              · by_cases h121_122 : k < 122
                · obtain rfl : k = 121 := by omega
                  exact pw_121
                · obtain rfl : k = 122 := by omega
                  exact pw_122
            · by_cases h123_125 : k < 125
              · by_cases h123_124 : k < 124
                · obtain rfl : k = 123 := by omega
                  exact pw_123
                · obtain rfl : k = 124 := by omega
                  exact pw_124
              · by_cases h125_126 : k < 126
                · obtain rfl : k = 125 := by omega
                  exact pw_125
                · obtain rfl : k = 126 := by omega
                  exact pw_126
  · by_cases h127_191 : k < 191
    · by_cases h127_159 : k < 159
      · by_cases h127_143 : k < 143
        · by_cases h127_135 : k < 135
          · by_cases h127_131 : k < 131
            · by_cases h127_129 : k < 129
              · by_cases h127_128 : k < 128
                · obtain rfl : k = 127 := by omega
                  exact pw_127
                · obtain rfl : k = 128 := by omega
                  exact pw_128
              · by_cases h129_130 : k < 130
                · obtain rfl : k = 129 := by omega
                  exact pw_129
                · obtain rfl : k = 130 := by omega
                  exact pw_130
            · by_cases h131_133 : k < 133
              · by_cases h131_132 : k < 132
                · obtain rfl : k = 131 := by omega
                  exact pw_131
                · obtain rfl : k = 132 := by omega
                  exact pw_132
              · by_cases h133_134 : k < 134
                · obtain rfl : k = 133 := by omega
                  exact pw_133
                · obtain rfl : k = 134 := by omega
                  exact pw_134
          · by_cases h135_139 : k < 139
            · by_cases h135_137 : k < 137
              · by_cases h135_136 : k < 136
                · obtain rfl : k = 135 := by omega
                  exact pw_135
                · obtain rfl : k = 136 := by omega
                  exact pw_136
              · by_cases h137_138 : k < 138
                · obtain rfl : k = 137 := by omega
                  exact pw_137
                · obtain rfl : k = 138 := by omega
                  exact pw_138
            · by_cases h139_141 : k < 141
              · by_cases h139_140 : k < 140
                · obtain rfl : k = 139 := by omega
                  exact pw_139
                · obtain rfl : k = 140 := by omega
                  exact pw_140
              · by_cases h141_142 : k < 142
                · obtain rfl : k = 141 := by omega
                  exact pw_141
                · obtain rfl : k = 142 := by omega
                  exact pw_142
        · by_cases h143_151 : k < 151
          · by_cases h143_147 : k < 147
            · by_cases h143_145 : k < 145
              · by_cases h143_144 : k < 144
                · obtain rfl : k = 143 := by omega
                  exact pw_143
                · obtain rfl : k = 144 := by omega
                  exact pw_144
              · by_cases h145_146 : k < 146
                · obtain rfl : k = 145 := by omega
                  exact pw_145
                · obtain rfl : k = 146 := by omega
                  exact pw_146
            · by_cases h147_149 : k < 149
              · by_cases h147_148 : k < 148
                · obtain rfl : k = 147 := by omega
                  exact pw_147
                · obtain rfl : k = 148 := by omega
                  exact pw_148
              · by_cases h149_150 : k < 150
                · obtain rfl : k = 149 := by omega
                  exact pw_149
                · obtain rfl : k = 150 := by omega
                  exact pw_150
          · by_cases h151_155 : k < 155
            · by_cases h151_153 : k < 153
              · by_cases h151_152 : k < 152
                · obtain rfl : k = 151 := by omega
                  exact pw_151
                · obtain rfl : k = 152 := by omega
                  exact pw_152
              · by_cases h153_154 : k < 154
                · obtain rfl : k = 153 := by omega
                  exact pw_153
                · obtain rfl : k = 154 := by omega
                  exact pw_154
            · by_cases h155_157 : k < 157
              · by_cases h155_156 : k < 156
                · obtain rfl : k = 155 := by omega
                  exact pw_155
                · obtain rfl : k = 156 := by omega
                  exact pw_156
              · by_cases h157_158 : k < 158
                · obtain rfl : k = 157 := by omega
                  exact pw_157
                · obtain rfl : k = 158 := by omega
                  exact pw_158
      · by_cases h159_175 : k < 175
        · by_cases h159_167 : k < 167
          · by_cases h159_163 : k < 163
            · by_cases h159_161 : k < 161
              · by_cases h159_160 : k < 160
                · obtain rfl : k = 159 := by omega
                  exact pw_159
                · obtain rfl : k = 160 := by omega
                  exact pw_160
              · by_cases h161_162 : k < 162
                · obtain rfl : k = 161 := by omega
                  exact pw_161
                · obtain rfl : k = 162 := by omega
                  exact pw_162
            · by_cases h163_165 : k < 165
              · by_cases h163_164 : k < 164
                · obtain rfl : k = 163 := by omega
                  exact pw_163
                · obtain rfl : k = 164 := by omega
                  exact pw_164
              · by_cases h165_166 : k < 166
                · obtain rfl : k = 165 := by omega
                  exact pw_165
                · obtain rfl : k = 166 := by omega
                  exact pw_166
          · by_cases h167_171 : k < 171
            · by_cases h167_169 : k < 169
              · by_cases h167_168 : k < 168
                · obtain rfl : k = 167 := by omega
                  exact pw_167
                · obtain rfl : k = 168 := by omega
                  exact pw_168
              · by_cases h169_170 : k < 170
                · obtain rfl : k = 169 := by omega
                  exact pw_169
                · obtain rfl : k = 170 := by omega
                  exact pw_170
            · by_cases h171_173 : k < 173
              · by_cases h171_172 : k < 172
                · obtain rfl : k = 171 := by omega
                  exact pw_171
                · obtain rfl : k = 172 := by omega
                  exact pw_172
              · by_cases h173_174 : k < 174
                · obtain rfl : k = 173 := by omega
                  exact pw_173
                · obtain rfl : k = 174 := by omega
                  exact pw_174
        · by_cases h175_183 : k < 183
          · by_cases h175_179 : k < 179
            · by_cases h175_177 : k < 177
              · by_cases h175_176 : k < 176
                · obtain rfl : k = 175 := by omega
                  exact pw_175
                · obtain rfl : k = 176 := by omega
                  exact pw_176
              · by_cases h177_178 : k < 178
                · obtain rfl : k = 177 := by omega
                  exact pw_177
                · obtain rfl : k = 178 := by omega
                  exact pw_178
            · by_cases h179_181 : k < 181
              · by_cases h179_180 : k < 180
                · obtain rfl : k = 179 := by omega
                  exact pw_179
                · obtain rfl : k = 180 := by omega
                  exact pw_180
              · by_cases h181_182 : k < 182
                · obtain rfl : k = 181 := by omega
                  exact pw_181
                · obtain rfl : k = 182 := by omega
                  exact pw_182
          · by_cases h183_187 : k < 187
            · by_cases h183_185 : k < 185
              · by_cases h183_184 : k < 184
                · obtain rfl : k = 183 := by omega
                  exact pw_183
                · obtain rfl : k = 184 := by omega
                  exact pw_184
              · by_cases h185_186 : k < 186
                · obtain rfl : k = 185 := by omega
                  exact pw_185
                · obtain rfl : k = 186 := by omega
                  exact pw_186
            · by_cases h187_189 : k < 189
              · by_cases h187_188 : k < 188
                · obtain rfl : k = 187 := by omega
                  exact pw_187
                · obtain rfl : k = 188 := by omega
                  exact pw_188
              · by_cases h189_190 : k < 190
                · obtain rfl : k = 189 := by omega
                  exact pw_189
                · obtain rfl : k = 190 := by omega
                  exact pw_190
    · by_cases h191_223 : k < 223
      · by_cases h191_207 : k < 207
        · by_cases h191_199 : k < 199
          · by_cases h191_195 : k < 195
            · by_cases h191_193 : k < 193
              · by_cases h191_192 : k < 192
                · obtain rfl : k = 191 := by omega
                  exact pw_191
                · obtain rfl : k = 192 := by omega
                  exact pw_192
              · by_cases h193_194 : k < 194
                · obtain rfl : k = 193 := by omega
                  exact pw_193
                · obtain rfl : k = 194 := by omega
                  exact pw_194
            · by_cases h195_197 : k < 197
              · by_cases h195_196 : k < 196
                · obtain rfl : k = 195 := by omega
                  exact pw_195
                · obtain rfl : k = 196 := by omega
                  exact pw_196
              · by_cases h197_198 : k < 198
                · obtain rfl : k = 197 := by omega
                  exact pw_197
                · obtain rfl : k = 198 := by omega
                  exact pw_198
          · by_cases h199_203 : k < 203
            · by_cases h199_201 : k < 201
              · by_cases h199_200 : k < 200
                · obtain rfl : k = 199 := by omega
                  exact pw_199
                · obtain rfl : k = 200 := by omega
                  exact pw_200
              · by_cases h201_202 : k < 202
                · obtain rfl : k = 201 := by omega
                  exact pw_201
                · obtain rfl : k = 202 := by omega
                  exact pw_202
            · by_cases h203_205 : k < 205
              · by_cases h203_204 : k < 204
                · obtain rfl : k = 203 := by omega
                  exact pw_203
                · obtain rfl : k = 204 := by omega
                  exact pw_204
              · by_cases h205_206 : k < 206
                · obtain rfl : k = 205 := by omega
                  exact pw_205
                · obtain rfl : k = 206 := by omega
                  exact pw_206
        · by_cases h207_215 : k < 215
          · by_cases h207_211 : k < 211
            · by_cases h207_209 : k < 209
              · by_cases h207_208 : k < 208
                · obtain rfl : k = 207 := by omega
                  exact pw_207
                · obtain rfl : k = 208 := by omega
                  exact pw_208
              · by_cases h209_210 : k < 210
                · obtain rfl : k = 209 := by omega
                  exact pw_209
                · obtain rfl : k = 210 := by omega
                  exact pw_210
            · by_cases h211_213 : k < 213
              · by_cases h211_212 : k < 212
                · obtain rfl : k = 211 := by omega
                  exact pw_211
                · obtain rfl : k = 212 := by omega
                  exact pw_212
              · by_cases h213_214 : k < 214
                · obtain rfl : k = 213 := by omega
                  exact pw_213
                · obtain rfl : k = 214 := by omega
                  exact pw_214
          · by_cases h215_219 : k < 219
            · by_cases h215_217 : k < 217
              · by_cases h215_216 : k < 216
                · obtain rfl : k = 215 := by omega
                  exact pw_215
                · obtain rfl : k = 216 := by omega
                  exact pw_216
              · by_cases h217_218 : k < 218
                · obtain rfl : k = 217 := by omega
                  exact pw_217
                · obtain rfl : k = 218 := by omega
                  exact pw_218
            · by_cases h219_221 : k < 221
              · by_cases h219_220 : k < 220
                · obtain rfl : k = 219 := by omega
                  exact pw_219
                · obtain rfl : k = 220 := by omega
                  exact pw_220
              · by_cases h221_222 : k < 222
                · obtain rfl : k = 221 := by omega
                  exact pw_221
                · obtain rfl : k = 222 := by omega
                  exact pw_222
      · by_cases h223_239 : k < 239
        · by_cases h223_231 : k < 231
          · by_cases h223_227 : k < 227
            · by_cases h223_225 : k < 225
              · by_cases h223_224 : k < 224
                · obtain rfl : k = 223 := by omega
                  exact pw_223
                · obtain rfl : k = 224 := by omega
                  exact pw_224
              · by_cases h225_226 : k < 226
                · obtain rfl : k = 225 := by omega
                  exact pw_225
                · obtain rfl : k = 226 := by omega
                  exact pw_226
            · by_cases h227_229 : k < 229
              · by_cases h227_228 : k < 228
                · obtain rfl : k = 227 := by omega
                  exact pw_227
                · obtain rfl : k = 228 := by omega
                  exact pw_228
              · by_cases h229_230 : k < 230
                · obtain rfl : k = 229 := by omega
                  exact pw_229
                · obtain rfl : k = 230 := by omega
                  exact pw_230
          · by_cases h231_235 : k < 235
            · by_cases h231_233 : k < 233
              · by_cases h231_232 : k < 232
                · obtain rfl : k = 231 := by omega
                  exact pw_231
                · obtain rfl : k = 232 := by omega
                  exact pw_232
              · by_cases h233_234 : k < 234
                · obtain rfl : k = 233 := by omega
                  exact pw_233
                · obtain rfl : k = 234 := by omega
                  exact pw_234
            · by_cases h235_237 : k < 237
              · by_cases h235_236 : k < 236
                · obtain rfl : k = 235 := by omega
                  exact pw_235
                · obtain rfl : k = 236 := by omega
                  exact pw_236
              · by_cases h237_238 : k < 238
                · obtain rfl : k = 237 := by omega
                  exact pw_237
                · obtain rfl : k = 238 := by omega
                  exact pw_238
        · by_cases h239_247 : k < 247
          · by_cases h239_243 : k < 243
            · by_cases h239_241 : k < 241
              · by_cases h239_240 : k < 240
                · obtain rfl : k = 239 := by omega
                  exact pw_239
                · obtain rfl : k = 240 := by omega
                  exact pw_240
              · by_cases h241_242 : k < 242
                · obtain rfl : k = 241 := by omega
                  exact pw_241
                · obtain rfl : k = 242 := by omega
                  exact pw_242
            · by_cases h243_245 : k < 245
              · by_cases h243_244 : k < 244
                · obtain rfl : k = 243 := by omega
                  exact pw_243
                · obtain rfl : k = 244 := by omega
                  exact pw_244
              · by_cases h245_246 : k < 246
                · obtain rfl : k = 245 := by omega
                  exact pw_245
                · obtain rfl : k = 246 := by omega
                  exact pw_246
          · by_cases h247_251 : k < 251
            · by_cases h247_249 : k < 249
              · by_cases h247_248 : k < 248
                · obtain rfl : k = 247 := by omega
                  exact pw_247
                · obtain rfl : k = 248 := by omega
                  exact pw_248
              · by_cases h249_250 : k < 250
                · obtain rfl : k = 249 := by omega
                  exact pw_249
                · obtain rfl : k = 250 := by omega
                  exact pw_250
            · by_cases h251_253 : k < 253
              · by_cases h251_252 : k < 252
                · obtain rfl : k = 251 := by omega
                  exact pw_251
                · obtain rfl : k = 252 := by omega
                  exact pw_252
              · by_cases h253_254 : k < 254
                · obtain rfl : k = 253 := by omega
                  exact pw_253
                · obtain rfl : k = 254 := by omega
                  exact pw_254
theorem pow_lo (k : Int) : runA Try.prog 52 #[.int .i64 k] [t, n, n] [] = some (errs 2, [decide (k < 0) = true]) := by kernel_rfl
theorem pow_hi (k : Int) : runA Try.prog 52 #[.int .i64 k] [f, n, t] [] = some (errs 2, [decide (k < 0) = false, decide (254 < k) = true]) := by kernel_rfl
theorem pow_v {k : Nat} (hk : k < 255) : PureX Try.prog 52 #[.int .i64 (k : Int)] (rt (wz ((2 ^ k : Nat) : Int))) := by
  rw [← wz_nat]
  exact runA_pure mix (pw_all k hk) trivial rfl rfl
theorem pow_bad {k : Int} (h : k < 0 ∨ 254 < k) : PureX Try.prog 52 #[.int .i64 k] (errs 2) := by
  by_cases h1 : k < 0
  · exact runA_pure mix (pow_lo k) ⟨decide_eq_true h1, trivial⟩ rfl rfl
  · exact runA_pure mix (pow_hi k) ⟨decide_eq_false h1, decide_eq_true (by omega), trivial⟩ rfl rfl

end Go.Proofs.Ytlioffkonfkflaa
