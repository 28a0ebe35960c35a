/-
  The texts FF1, FF2, FF3, FF4, FFnFunctions in one.
-/
import Derived.Test.YtenbokdcdokhiabMPFnFunctions3
import Derived.Deep.DeepCutAuto
import Derived.Deep.RegionHeld3

/- FF1:
  FnFunctions, its tail: names, texts read and written, weights, negations. -/
namespace Go.Proofs.Ytenbokdcdokhiab
open Go.RowKit
set_option linter.unusedVariables false
set_option linter.unusedSimpArgs false

noncomputable def funsR47 : Go.Code := ((Try.f5.body.bind (regAt 47)).getD .skip)
noncomputable def funsC48 : Go.Code := ((Try.f5.body.bind (fromReg 48)).getD .skip)
set_option maxRecDepth 100000 in
set_option maxHeartbeats 64000000 in
theorem ff1 {a : Option Addr} {len cap : Nat} {w W : World} (hl : len ≤ 1048576) (st : LawSt w a len [] [] W)
    {K1 : Act → World → Prop} (h1 : ∀ aa ww, Code.wp Try.prog funsC48 (bodyPost Try.prog Try.f5 (fun e w' => e = .returned (.bool true) ∧ Below w.heap.size w w')) aa ww → K1 aa ww)
    (u2 u3 u4 u5 u6 u7 u8 u9 u10 u11 u12 u13 u14 u15 u16 u17 u18 u19 u20 u21 u22 u23 u24 u25 u26 u27 u28 u29 u30 u31 u32 u33 u34 u35 u36 u37 u38 u39 u40 u41 u42 u43 u44 u45 u46 u47 u48 u49 u50 u51 u52 u53 u54 u55 u56 u57 u58 u59 u60 u61 u62 u63 u64 u65 u66 u67 u68 u69 u70 u71 u72 u73 u74 u75 u76 u77 u78 u79 u80 u81 u82 u83 u84 u85 u86 u87 u88 u89 u90 u91 u92 u93 u94 u95 u96 u97 u98 u99 u100 u101 u102 u103 u104 u105 u106 u107 u108 u109 u110 u111 u112 u113 u114 u115 u116 u117 u118 u119 u120 u121 u122 u123 u124 u125 u126 u127 u128 u129 u130 u131 u132 u133 u134 u135 u136 u137 u138 u139 u140 u141 u142 u143 u144 u145 u146 u147 u148 u149 u150 u151 u152 u153 u154 u155 u156 u157 u158 u159 u160 u161 u162 u163 u164 u165 u166 u167 u168 u169 u170 u171 u172 u173 u174 u175 u176 u177 u178 u179 u180 u181 u182 u183 u184 u185 u186 u187 u188 u189 u190 u191 u192 u193 u194 u195 u196 u197 u198 u199 u200 u201 u202 u203 u204 u205 u206 u207 u208 u209 u210 u211 u212 u213 u214 u215 u216 u217 u218 u219 u220 u221 u222 u223 u224 u225 u226 u227 u228 u229 u230 u231 u232 u233 u234 u235 u236 u237 u238 u239 u240 u241 u242 u243 u244 u245 u246 u247 u248 u249 u250 u251 u252 u253 u254 u255 u256 u257 u258 u259 u260 u261 u262 u263 u264 u265 u266 u267 u268 u269 u270 u271 u272 u273 u274 u275 u276 u277 u278 u279 u280 u281 u282 u283 u284 u285 u286 u287 u288 u289 u290 u291 u292 u293 u294 u295 u296 u297 u298 u299 u300 u301 u302 u303 u304 u305 u306 u307 u308 u309 u310 u311 u312 u313 u314 u315 u316 u317 u318 u319 u320 u321 u322 u323 u324 u325 u326 u327 u328 u329 u330 u331 u332 u333 u334 u335 u336 u337 u338 u339 u340 u341 u342 u343 u344 u345 u346 u347 u348 u349 u350 u351 u352 u353 u354 u355 u356 u357 u358 u359 u360 u361 u362 u363 u364 u365 u366 u367 u368 u369 u370 u371 u372 u373 u374 u375 u376 u377 u378 u379 u380 u381 u382 u383 u384 u385 u386 u387 u388 u389 u390 u391 u392 u393 u394 u395 u396 u397 u398 u399 u400 u401 u402 u403 u404 u405 u406 u407 u408 u409 u410 u411 u412 u413 u414 u415 u416 u417 u418 u419 u420 u421 u422 u423 u424 u425 u426 u427 u428 u429 u430 u431 u432 u433 u434 : Value) :
    Code.wp Try.prog funsR47 (Exit.then K1 (bodyPost Try.prog Try.f5 (fun e w' => e = .returned (.bool true) ∧ Below w.heap.size w w'))) ⟨#[.slice a len cap, undef, u2, u3, u4, u5, u6, u7, u8, u9, u10, u11, u12, u13, u14, u15, u16, u17, u18, u19, u20, u21, u22, u23, u24, u25, u26, u27, u28, u29, u30, u31, u32, u33, u34, u35, u36, u37, u38, u39, u40, u41, u42, u43, u44, u45, u46, u47, u48, u49, u50, u51, u52, u53, u54, u55, u56, u57, u58, u59, u60, u61, u62, u63, u64, u65, u66, u67, u68, u69, u70, u71, u72, u73, u74, u75, u76, u77, u78, u79, u80, u81, u82, u83, u84, u85, u86, u87, u88, u89, u90, u91, u92, u93, u94, u95, u96, u97, u98, u99, u100, u101, u102, u103, u104, u105, u106, u107, u108, u109, u110, u111, u112, u113, u114, u115, u116, u117, u118, u119, u120, u121, u122, u123, u124, u125, u126, u127, u128, u129, u130, u131, u132, u133, u134, u135, u136, u137, u138, u139, u140, u141, u142, u143, u144, u145, u146, u147, u148, u149, u150, u151, u152, u153, u154, u155, u156, u157, u158, u159, u160, u161, u162, u163, u164, u165, u166, u167, u168, u169, u170, u171, u172, u173, u174, u175, u176, u177, u178, u179, u180, u181, u182, u183, u184, u185, u186, u187, u188, u189, u190, u191, u192, u193, u194, u195, u196, u197, u198, u199, u200, u201, u202, u203, u204, u205, u206, u207, u208, u209, u210, u211, u212, u213, u214, u215, u216, u217, u218, u219, u220, u221, u222, u223, u224, u225, u226, u227, u228, u229, u230, u231, u232, u233, u234, u235, u236, u237, u238, u239, u240, u241, u242, u243, u244, u245, u246, u247, u248, u249, u250, u251, u252, u253, u254, u255, u256, u257, u258, u259, u260, u261, u262, u263, u264, u265, u266, u267, u268, u269, u270, u271, u272, u273, u274, u275, u276, u277, u278, u279, u280, u281, u282, u283, u284, u285, u286, u287, u288, u289, u290, u291, u292, u293, u294, u295, u296, u297, u298, u299, u300, u301, u302, u303, u304, u305, u306, u307, u308, u309, u310, u311, u312, u313, u314, u315, u316, u317, u318, u319, u320, u321, u322, u323, u324, u325, u326, u327, u328, u329, u330, u331, u332, u333, u334, u335, u336, u337, u338, u339, u340, u341, u342, u343, u344, u345, u346, u347, u348, u349, u350, u351, u352, u353, u354, u355, u356, u357, u358, u359, u360, u361, u362, u363, u364, u365, u366, u367, u368, u369, u370, u371, u372, u373, u374, u375, u376, u377, u378, u379, u380, u381, u382, u383, u384, u385, u386, u387, u388, u389, u390, u391, u392, u393, u394, u395, u396, u397, u398, u399, u400, u401, u402, u403, u404, u405, u406, u407, u408, u409, u410, u411, u412, u413, u414, u415, u416, u417, u418, u419, u420, u421, u422, u423, u424, u425, u426, u427, u428, u429, u430, u431, u432, u433, u434], []⟩ W := by
  conv => arg 2; whnf
  dsimp only
  conv at h1 => enter [aa, ww, 1, 2]; whnf
  have st0 := Lib.hid st
  clear st
  have DR := Lib.hid (drawNameOf_ok (cap := cap) hl W st0.out.C)
  go_wp2_with fail
  refine DR.out.mono ?_
  rintro e w1 ⟨n1, x1, rfl, hn, hx, hb1⟩
  have st1 := Lib.hid (st0.out.below hb1)
  clear hb1 DR st0
  obtain ⟨W2, hW2⟩ : ∃ W2, w1.alloc (.cells #[.int .i64 n1, .int .i64 x1] 25) = W2 := ⟨_, rfl⟩
  have st2 := Lib.hid (show LawSt w a len [(w1.heap.size, n1, x1)] [] W2 by rw [← hW2]; exact st1.out.box n1 x1 25)
  clear st1
  obtain ⟨t1, c1, s2, s1'⟩ := bothNameOf n1 x1 hn.wf hx.wf
  have HS1 := Lib.hid s1'
  have HS2 := Lib.hid s2
  clear s1' s2
  clear hn hx
  have p0 := (st2.out.B (w1.heap.size, n1, x1) (by simp)).1
  have p1 := (st2.out.B (w1.heap.size, n1, x1) (by simp)).2
  go_wp2_with fail
  clear hW2
  refine (HS1.out _).mono ?_
  rintro e w3 ⟨rfl, hb3⟩
  have st3 := Lib.hid (st2.out.below hb3)
  clear hb3 st2 HS1
  clear p0 p1
  have p0 := (st3.out.B (w1.heap.size, n1, x1) (by simp)).1
  have p1 := (st3.out.B (w1.heap.size, n1, x1) (by simp)).2
  go_wp2_with fail
  refine (HS2.out _).mono ?_
  rintro e w4 ⟨rfl, hb4⟩
  have st4 := Lib.hid (st3.out.below hb4)
  clear hb4 st3 HS2
  clear p0 p1
  have DR := Lib.hid (drawParseFunc_ok (cap := cap) hl w4 st4.out.C)
  go_wp2_with fail
  refine DR.out.mono ?_
  rintro e w5 ⟨ln, rfl, hln, hb5⟩
  have st5 := Lib.hid (st4.out.below hb5)
  clear hb5 DR st4
  obtain ⟨rn2, rb2, c2, s2, s1'⟩ := bothParseFuncB ln hln
  have HS1 := Lib.hid s1'
  have HS2 := Lib.hid s2
  clear s1' s2 hln
  go_wp2_with fail
  refine (HS1.out _).mono ?_
  rintro e w6 ⟨rfl, hb6⟩
  have st6 := Lib.hid (st5.out.below hb6)
  clear hb6 st5 HS1
  obtain ⟨W7, hW7⟩ : ∃ W7, w6.alloc (.cells #[.int .i64 rn2, .int .i64 rb2] 25) = W7 := ⟨_, rfl⟩
  have st7 := Lib.hid (show LawSt w a len [(w6.heap.size, rn2, rb2), (w1.heap.size, n1, x1)] [] W7 by rw [← hW7]; exact st6.out.box rn2 rb2 25)
  clear st6
  go_wp2_with fail
  clear hW7
  refine (HS2.out _).mono ?_
  rintro e w8 ⟨rfl, hb8⟩
  have st8 := Lib.hid (st7.out.below hb8)
  clear hb8 st7 HS2
  obtain ⟨W9, hW9⟩ : ∃ W9, w8.alloc (.cells #[.int .i64 rn2, .int .i64 rb2] 25) = W9 := ⟨_, rfl⟩
  have st9 := Lib.hid (show LawSt w a len [(w8.heap.size, rn2, rb2), (w6.heap.size, rn2, rb2), (w1.heap.size, n1, x1)] [] W9 by rw [← hW9]; exact st8.out.box rn2 rb2 25)
  clear st8
  have DR := Lib.hid (drawFuncText_ok (cap := cap) hl W9 st9.out.C)
  go_wp2_with fail
  clear hW9
  refine DR.out.mono ?_
  rintro e w10 ⟨n3, x3, rfl, hn, hx, hb10⟩
  have st10 := Lib.hid (st9.out.below hb10)
  clear hb10 DR st9
  obtain ⟨W11, hW11⟩ : ∃ W11, w10.alloc (.cells #[.int .i64 n3, .int .i64 x3] 25) = W11 := ⟨_, rfl⟩
  have st11 := Lib.hid (show LawSt w a len [(w10.heap.size, n3, x3), (w8.heap.size, rn2, rb2), (w6.heap.size, rn2, rb2), (w1.heap.size, n1, x1)] [] W11 by rw [← hW11]; exact st10.out.box n3 x3 25)
  clear st10
  obtain ⟨t3, c3, s2, s1'⟩ := bothFuncText n3 x3 hn.wf hx.wf
  have HS1 := Lib.hid s1'
  have HS2 := Lib.hid s2
  clear s1' s2
  clear hn hx
  have p0 := (st11.out.B (w10.heap.size, n3, x3) (by simp)).1
  have p1 := (st11.out.B (w10.heap.size, n3, x3) (by simp)).2
  go_wp2_with fail
  clear hW11
  refine (HS1.out _).mono ?_
  rintro e w12 ⟨rfl, hb12⟩
  have st12 := Lib.hid (st11.out.below hb12)
  clear hb12 st11 HS1
  clear p0 p1
  have p0 := (st12.out.B (w10.heap.size, n3, x3) (by simp)).1
  have p1 := (st12.out.B (w10.heap.size, n3, x3) (by simp)).2
  go_wp2_with fail
  refine (HS2.out _).mono ?_
  rintro e w13 ⟨rfl, hb13⟩
  have st13 := Lib.hid (st12.out.below hb13)
  clear hb13 st12 HS2
  clear p0 p1
  have DR := Lib.hid (drawWeightOf_ok (cap := cap) hl w13 st13.out.C)
  go_wp2_with fail
  refine DR.out.mono ?_
  rintro e w14 ⟨n4, x4, rfl, hn, hx, hb14⟩
  have st14 := Lib.hid (st13.out.below hb14)
  clear hb14 DR st13
  obtain ⟨W15, hW15⟩ : ∃ W15, w14.alloc (.cells #[.int .i64 n4, .int .i64 x4] 25) = W15 := ⟨_, rfl⟩
  have st15 := Lib.hid (show LawSt w a len [(w14.heap.size, n4, x4), (w10.heap.size, n3, x3), (w8.heap.size, rn2, rb2), (w6.heap.size, rn2, rb2), (w1.heap.size, n1, x1)] [] W15 by rw [← hW15]; exact st14.out.box n4 x4 25)
  clear st14
  obtain ⟨r4, c4, s2, s1'⟩ := bothWeightOf n4 x4 hn.wf hx.wf
  have HS1 := Lib.hid s1'
  have HS2 := Lib.hid s2
  clear s1' s2
  clear hn hx
  have p0 := (st15.out.B (w14.heap.size, n4, x4) (by simp)).1
  have p1 := (st15.out.B (w14.heap.size, n4, x4) (by simp)).2
  go_wp2_with fail
  clear hW15
  refine (HS1.out _).mono ?_
  rintro e w16 ⟨rfl, hb16⟩
  have st16 := Lib.hid (st15.out.below hb16)
  clear hb16 st15 HS1
  clear p0 p1
  have p0 := (st16.out.B (w14.heap.size, n4, x4) (by simp)).1
  have p1 := (st16.out.B (w14.heap.size, n4, x4) (by simp)).2
  go_wp2_with fail
  refine (HS2.out _).mono ?_
  rintro e w17 ⟨rfl, hb17⟩
  have st17 := Lib.hid (st16.out.below hb17)
  clear hb17 st16 HS2
  clear p0 p1
  have DR := Lib.hid (drawNegateFunc_ok (cap := cap) hl w17 st17.out.C)
  go_wp2_with fail
  refine DR.out.mono ?_
  rintro e w18 ⟨n5, x5, rfl, hn, hx, hb18⟩
  have st18 := Lib.hid (st17.out.below hb18)
  clear hb18 DR st17
  obtain ⟨W19, hW19⟩ : ∃ W19, w18.alloc (.cells #[.int .i64 n5, .int .i64 x5] 25) = W19 := ⟨_, rfl⟩
  have st19 := Lib.hid (show LawSt w a len [(w18.heap.size, n5, x5), (w14.heap.size, n4, x4), (w10.heap.size, n3, x3), (w8.heap.size, rn2, rb2), (w6.heap.size, rn2, rb2), (w1.heap.size, n1, x1)] [] W19 by rw [← hW19]; exact st18.out.box n5 x5 25)
  clear st18
  obtain ⟨rn5, rb5, c5, s2, s1'⟩ := bothNegateFunc n5 x5 hn.wf hx.wf
  have HS1 := Lib.hid s1'
  have HS2 := Lib.hid s2
  clear s1' s2
  clear hn hx
  have p0 := (st19.out.B (w18.heap.size, n5, x5) (by simp)).1
  have p1 := (st19.out.B (w18.heap.size, n5, x5) (by simp)).2
  go_wp2_with fail
  clear hW19
  refine (HS1.out _).mono ?_
  rintro e w20 ⟨rfl, hb20⟩
  have st20 := Lib.hid (st19.out.below hb20)
  clear hb20 st19 HS1
  clear p0 p1
  obtain ⟨W21, hW21⟩ : ∃ W21, w20.alloc (.cells #[.int .i64 rn5, .int .i64 rb5] 25) = W21 := ⟨_, rfl⟩
  have st21 := Lib.hid (show LawSt w a len [(w20.heap.size, rn5, rb5), (w18.heap.size, n5, x5), (w14.heap.size, n4, x4), (w10.heap.size, n3, x3), (w8.heap.size, rn2, rb2), (w6.heap.size, rn2, rb2), (w1.heap.size, n1, x1)] [] W21 by rw [← hW21]; exact st20.out.box rn5 rb5 25)
  clear st20
  have p0 := (st21.out.B (w18.heap.size, n5, x5) (by simp)).1
  have p1 := (st21.out.B (w18.heap.size, n5, x5) (by simp)).2
  go_wp2_with fail
  clear hW21
  refine (HS2.out _).mono ?_
  rintro e w22 ⟨rfl, hb22⟩
  have st22 := Lib.hid (st21.out.below hb22)
  clear hb22 st21 HS2
  clear p0 p1
  obtain ⟨W23, hW23⟩ : ∃ W23, w22.alloc (.cells #[.int .i64 rn5, .int .i64 rb5] 25) = W23 := ⟨_, rfl⟩
  have st23 := Lib.hid (show LawSt w a len [(w22.heap.size, rn5, rb5), (w20.heap.size, rn5, rb5), (w18.heap.size, n5, x5), (w14.heap.size, n4, x4), (w10.heap.size, n3, x3), (w8.heap.size, rn2, rb2), (w6.heap.size, rn2, rb2), (w1.heap.size, n1, x1)] [] W23 by rw [← hW23]; exact st22.out.box rn5 rb5 25)
  clear st22
  have px0 := (st23.out.B (w6.heap.size, rn2, rb2) (by simp)).1
  have px1 := (st23.out.B (w6.heap.size, rn2, rb2) (by simp)).2
  have qx0 := (st23.out.B (w8.heap.size, rn2, rb2) (by simp)).1
  have qx1 := (st23.out.B (w8.heap.size, rn2, rb2) (by simp)).2
  have rx0 := (st23.out.B (w20.heap.size, rn5, rb5) (by simp)).1
  have rx1 := (st23.out.B (w20.heap.size, rn5, rb5) (by simp)).2
  have tx0 := (st23.out.B (w22.heap.size, rn5, rb5) (by simp)).1
  have tx1 := (st23.out.B (w22.heap.size, rn5, rb5) (by simp)).2
  have G := Lib.hid st23.out.G
  go_wp2_with fail
  go_ret
  exact ⟨rfl, G.out⟩
end Go.Proofs.Ytenbokdcdokhiab

/- FF2:
  FnFunctions: named functions have the name. -/
namespace Go.Proofs.Ytenbokdcdokhiab
open Go.RowKit
set_option linter.unusedVariables false
set_option linter.unusedSimpArgs false

noncomputable def funsR38 : Go.Code := ((Try.f5.body.bind (regAt 38)).getD .skip)
noncomputable def funsC39 : Go.Code := ((Try.f5.body.bind (fromReg 39)).getD .skip)
set_option maxRecDepth 100000 in
set_option maxHeartbeats 64000000 in
theorem ff2 {a : Option Addr} {len cap : Nat} {w W : World} (hl : len ≤ 1048576) (st : LawSt w a len [] [] W)
    {K1 : Act → World → Prop} (h1 : ∀ aa ww, Code.wp Try.prog funsC39 (bodyPost Try.prog Try.f5 (fun e w' => e = .returned (.bool true) ∧ Below w.heap.size w w')) aa ww → K1 aa ww)
    (u2 u3 u4 u5 u6 u7 u8 u9 u10 u11 u12 u13 u14 u15 u16 u17 u18 u19 u20 u21 u22 u23 u24 u25 u26 u27 u28 u29 u30 u31 u32 u33 u34 u35 u36 u37 u38 u39 u40 u41 u42 u43 u44 u45 u46 u47 u48 u49 u50 u51 u52 u53 u54 u55 u56 u57 u58 u59 u60 u61 u62 u63 u64 u65 u66 u67 u68 u69 u70 u71 u72 u73 u74 u75 u76 u77 u78 u79 u80 u81 u82 u83 u84 u85 u86 u87 u88 u89 u90 u91 u92 u93 u94 u95 u96 u97 u98 u99 u100 u101 u102 u103 u104 u105 u106 u107 u108 u109 u110 u111 u112 u113 u114 u115 u116 u117 u118 u119 u120 u121 u122 u123 u124 u125 u126 u127 u128 u129 u130 u131 u132 u133 u134 u135 u136 u137 u138 u139 u140 u141 u142 u143 u144 u145 u146 u147 u148 u149 u150 u151 u152 u153 u154 u155 u156 u157 u158 u159 u160 u161 u162 u163 u164 u165 u166 u167 u168 u169 u170 u171 u172 u173 u174 u175 u176 u177 u178 u179 u180 u181 u182 u183 u184 u185 u186 u187 u188 u189 u190 u191 u192 u193 u194 u195 u196 u197 u198 u199 u200 u201 u202 u203 u204 u205 u206 u207 u208 u209 u210 u211 u212 u213 u214 u215 u216 u217 u218 u219 u220 u221 u222 u223 u224 u225 u226 u227 u228 u229 u230 u231 u232 u233 u234 u235 u236 u237 u238 u239 u240 u241 u242 u243 u244 u245 u246 u247 u248 u249 u250 u251 u252 u253 u254 u255 u256 u257 u258 u259 u260 u261 u262 u263 u264 u265 u266 u267 u268 u269 u270 u271 u272 u273 u274 u275 u276 u277 u278 u279 u280 u281 u282 u283 u284 u285 u286 u287 u288 u289 u290 u291 u292 u293 u294 u295 u296 u297 u298 u299 u300 u301 u302 u303 u304 u305 u306 u307 u308 u309 u310 u311 u312 u313 u314 u315 u316 u317 u318 u319 u320 u321 u322 u323 u324 u325 u326 u327 u328 u329 u330 u331 u332 u333 u334 u335 u336 u337 u338 u339 u340 u341 u342 u343 u344 u345 u346 u347 u348 u349 u350 u351 u352 u353 u354 u355 u356 u357 u358 u359 u360 u361 u362 u363 u364 u365 u366 u367 u368 u369 u370 u371 u372 u373 u374 u375 u376 u377 u378 u379 u380 u381 u382 u383 u384 u385 u386 u387 u388 u389 u390 u391 u392 u393 u394 u395 u396 u397 u398 u399 u400 u401 u402 u403 u404 u405 u406 u407 u408 u409 u410 u411 u412 u413 u414 u415 u416 u417 u418 u419 u420 u421 u422 u423 u424 u425 u426 u427 u428 u429 u430 u431 u432 u433 u434 : Value) :
    Code.wp Try.prog funsR38 (Exit.then K1 (bodyPost Try.prog Try.f5 (fun e w' => e = .returned (.bool true) ∧ Below w.heap.size w w'))) ⟨#[.slice a len cap, undef, u2, u3, u4, u5, u6, u7, u8, u9, u10, u11, u12, u13, u14, u15, u16, u17, u18, u19, u20, u21, u22, u23, u24, u25, u26, u27, u28, u29, u30, u31, u32, u33, u34, u35, u36, u37, u38, u39, u40, u41, u42, u43, u44, u45, u46, u47, u48, u49, u50, u51, u52, u53, u54, u55, u56, u57, u58, u59, u60, u61, u62, u63, u64, u65, u66, u67, u68, u69, u70, u71, u72, u73, u74, u75, u76, u77, u78, u79, u80, u81, u82, u83, u84, u85, u86, u87, u88, u89, u90, u91, u92, u93, u94, u95, u96, u97, u98, u99, u100, u101, u102, u103, u104, u105, u106, u107, u108, u109, u110, u111, u112, u113, u114, u115, u116, u117, u118, u119, u120, u121, u122, u123, u124, u125, u126, u127, u128, u129, u130, u131, u132, u133, u134, u135, u136, u137, u138, u139, u140, u141, u142, u143, u144, u145, u146, u147, u148, u149, u150, u151, u152, u153, u154, u155, u156, u157, u158, u159, u160, u161, u162, u163, u164, u165, u166, u167, u168, u169, u170, u171, u172, u173, u174, u175, u176, u177, u178, u179, u180, u181, u182, u183, u184, u185, u186, u187, u188, u189, u190, u191, u192, u193, u194, u195, u196, u197, u198, u199, u200, u201, u202, u203, u204, u205, u206, u207, u208, u209, u210, u211, u212, u213, u214, u215, u216, u217, u218, u219, u220, u221, u222, u223, u224, u225, u226, u227, u228, u229, u230, u231, u232, u233, u234, u235, u236, u237, u238, u239, u240, u241, u242, u243, u244, u245, u246, u247, u248, u249, u250, u251, u252, u253, u254, u255, u256, u257, u258, u259, u260, u261, u262, u263, u264, u265, u266, u267, u268, u269, u270, u271, u272, u273, u274, u275, u276, u277, u278, u279, u280, u281, u282, u283, u284, u285, u286, u287, u288, u289, u290, u291, u292, u293, u294, u295, u296, u297, u298, u299, u300, u301, u302, u303, u304, u305, u306, u307, u308, u309, u310, u311, u312, u313, u314, u315, u316, u317, u318, u319, u320, u321, u322, u323, u324, u325, u326, u327, u328, u329, u330, u331, u332, u333, u334, u335, u336, u337, u338, u339, u340, u341, u342, u343, u344, u345, u346, u347, u348, u349, u350, u351, u352, u353, u354, u355, u356, u357, u358, u359, u360, u361, u362, u363, u364, u365, u366, u367, u368, u369, u370, u371, u372, u373, u374, u375, u376, u377, u378, u379, u380, u381, u382, u383, u384, u385, u386, u387, u388, u389, u390, u391, u392, u393, u394, u395, u396, u397, u398, u399, u400, u401, u402, u403, u404, u405, u406, u407, u408, u409, u410, u411, u412, u413, u414, u415, u416, u417, u418, u419, u420, u421, u422, u423, u424, u425, u426, u427, u428, u429, u430, u431, u432, u433, u434], []⟩ W := by
  conv => arg 2; whnf
  dsimp only
  conv at h1 => enter [aa, ww, 1, 2]; whnf
  have st0 := Lib.hid st
  clear st
  have DR := Lib.hid (drawNamedFunc_ok (cap := cap) hl W st0.out.C)
  go_wp2_with fail
  refine DR.out.mono ?_
  rintro e w1 ⟨nm, rfl, hnm, hb1⟩
  have st1 := Lib.hid (st0.out.below hb1)
  clear hb1 DR st0
  obtain ⟨rn, rb, rc, s2, s1', hc⟩ := namedF nm (by omega)
  have HS1 := Lib.hid s1'
  have HS2 := Lib.hid s2
  have HC := Lib.hid hc
  clear s1' s2 hnm hc
  go_wp2_with fail
  refine (HS1.out _).mono ?_
  rintro e w2 ⟨rfl, hb2⟩
  have st2 := Lib.hid (st1.out.below hb2)
  clear hb2 st1 HS1
  obtain ⟨W3, hW3⟩ : ∃ W3, w2.alloc (.cells #[.int .i64 rn, .int .i64 rb] 25) = W3 := ⟨_, rfl⟩
  have st3 := Lib.hid (show LawSt w a len [(w2.heap.size, rn, rb)] [] W3 by rw [← hW3]; exact st2.out.box rn rb 25)
  clear st2
  go_wp2_with fail
  clear hW3
  refine (HS2.out _).mono ?_
  rintro e w4 ⟨rfl, hb4⟩
  have st4 := Lib.hid (st3.out.below hb4)
  clear hb4 st3 HS2
  obtain ⟨W5, hW5⟩ : ∃ W5, w4.alloc (.cells #[.int .i64 rn, .int .i64 rb] 25) = W5 := ⟨_, rfl⟩
  have st5 := Lib.hid (show LawSt w a len [(w4.heap.size, rn, rb), (w2.heap.size, rn, rb)] [] W5 by rw [← hW5]; exact st4.out.box rn rb 25)
  clear st4
  have q0 := (st5.out.B (w2.heap.size, rn, rb) (by simp)).1
  have q1 := (st5.out.B (w2.heap.size, rn, rb) (by simp)).2
  have r0 := (st5.out.B (w4.heap.size, rn, rb) (by simp)).1
  have r1 := (st5.out.B (w4.heap.size, rn, rb) (by simp)).2
  rcases HC.out with ⟨rfl, w0⟩ | hne
  · have HN := Lib.hid w0
    clear w0 HC
    go_wp2_with fail
    clear hW5
    refine (HN.out _).mono ?_
    rintro e w6 ⟨rfl, hb6⟩
    have st6 := Lib.hid (st5.out.below hb6)
    clear hb6 st5 HN
    clear q0 q1 r0 r1
    go_upto_region 47 with fail
    exact ff1 hl (st6.out.less (by simp) (by simp)) (by assumption) _ _ _ _ _ _ _ _ _ _ _ _ _ _ _ _ _ _ _ _ _ _ _ _ _ _ _ _ _ _ _ _ _ _ _ _ _ _ _ _ _ _ _ _ _ _ _ _ _ _ _ _ _ _ _ _ _ _ _ _ _ _ _ _ _ _ _ _ _ _ _ _ _ _ _ _ _ _ _ _ _ _ _ _ _ _ _ _ _ _ _ _ _ _ _ _ _ _ _ _ _ _ _ _ _ _ _ _ _ _ _ _ _ _ _ _ _ _ _ _ _ _ _ _ _ _ _ _ _ _ _ _ _ _ _ _ _ _ _ _ _ _ _ _ _ _ _ _ _ _ _ _ _ _ _ _ _ _ _ _ _ _ _ _ _ _ _ _ _ _ _ _ _ _ _ _ _ _ _ _ _ _ _ _ _ _ _ _ _ _ _ _ _ _ _ _ _ _ _ _ _ _ _ _ _ _ _ _ _ _ _ _ _ _ _ _ _ _ _ _ _ _ _ _ _ _ _ _ _ _ _ _ _ _ _ _ _ _ _ _ _ _ _ _ _ _ _ _ _ _ _ _ _ _ _ _ _ _ _ _ _ _ _ _ _ _ _ _ _ _ _ _ _ _ _ _ _ _ _ _ _ _ _ _ _ _ _ _ _ _ _ _ _ _ _ _ _ _ _ _ _ _ _ _ _ _ _ _ _ _ _ _ _ _ _ _ _ _ _ _ _ _ _ _ _ _ _ _ _ _ _ _ _ _ _ _ _ _ _ _ _ _ _ _ _ _ _ _ _ _ _ _ _ _ _ _ _ _ _ _ _ _ _ _ _ _ _ _ _ _ _ _ _ _ _ _ _ _ _ _ _ _ _ _ _ _ _ _ _ _ _ _ _ _ _ _ _ _ _ _ _ _ _ _ _ _ _ _ _ _ _ _ _ _ _ _ _ _ _ _ _ _ _ _ _ _ _ _ _ _ _ _ _
  · have hq : (rc == 0) = false := by simp [hne]
    go_upto_region 47 with fail
    clear hW5
    clear q0 q1 r0 r1
    exact ff1 hl (st5.out.less (by simp) (by simp)) (by assumption) _ _ _ _ _ _ _ _ _ _ _ _ _ _ _ _ _ _ _ _ _ _ _ _ _ _ _ _ _ _ _ _ _ _ _ _ _ _ _ _ _ _ _ _ _ _ _ _ _ _ _ _ _ _ _ _ _ _ _ _ _ _ _ _ _ _ _ _ _ _ _ _ _ _ _ _ _ _ _ _ _ _ _ _ _ _ _ _ _ _ _ _ _ _ _ _ _ _ _ _ _ _ _ _ _ _ _ _ _ _ _ _ _ _ _ _ _ _ _ _ _ _ _ _ _ _ _ _ _ _ _ _ _ _ _ _ _ _ _ _ _ _ _ _ _ _ _ _ _ _ _ _ _ _ _ _ _ _ _ _ _ _ _ _ _ _ _ _ _ _ _ _ _ _ _ _ _ _ _ _ _ _ _ _ _ _ _ _ _ _ _ _ _ _ _ _ _ _ _ _ _ _ _ _ _ _ _ _ _ _ _ _ _ _ _ _ _ _ _ _ _ _ _ _ _ _ _ _ _ _ _ _ _ _ _ _ _ _ _ _ _ _ _ _ _ _ _ _ _ _ _ _ _ _ _ _ _ _ _ _ _ _ _ _ _ _ _ _ _ _ _ _ _ _ _ _ _ _ _ _ _ _ _ _ _ _ _ _ _ _ _ _ _ _ _ _ _ _ _ _ _ _ _ _ _ _ _ _ _ _ _ _ _ _ _ _ _ _ _ _ _ _ _ _ _ _ _ _ _ _ _ _ _ _ _ _ _ _ _ _ _ _ _ _ _ _ _ _ _ _ _ _ _ _ _ _ _ _ _ _ _ _ _ _ _ _ _ _ _ _ _ _ _ _ _ _ _ _ _ _ _ _ _ _ _ _ _ _ _ _ _ _ _ _ _ _ _ _ _ _ _ _ _ _ _ _ _ _ _ _ _ _ _ _ _ _ _ _ _ _ _ _ _ _ _ _ _ _ _ _ _ _ _
end Go.Proofs.Ytenbokdcdokhiab

/- FF3:
  FnFunctions: widened functions, fixed. -/
namespace Go.Proofs.Ytenbokdcdokhiab
open Go.RowKit
set_option linter.unusedVariables false
set_option linter.unusedSimpArgs false

noncomputable def funsR28 : Go.Code := ((Try.f5.body.bind (regAt 28)).getD .skip)
noncomputable def funsC29 : Go.Code := ((Try.f5.body.bind (fromReg 29)).getD .skip)
set_option maxRecDepth 100000 in
set_option maxHeartbeats 64000000 in
theorem ff3 {a : Option Addr} {len cap : Nat} {w W : World} (hl : len ≤ 1048576) (st : LawSt w a len [] [] W)
    {K1 : Act → World → Prop} (h1 : ∀ aa ww, Code.wp Try.prog funsC29 (bodyPost Try.prog Try.f5 (fun e w' => e = .returned (.bool true) ∧ Below w.heap.size w w')) aa ww → K1 aa ww)
    (u2 u3 u4 u5 u6 u7 u8 u9 u10 u11 u12 u13 u14 u15 u16 u17 u18 u19 u20 u21 u22 u23 u24 u25 u26 u27 u28 u29 u30 u31 u32 u33 u34 u35 u36 u37 u38 u39 u40 u41 u42 u43 u44 u45 u46 u47 u48 u49 u50 u51 u52 u53 u54 u55 u56 u57 u58 u59 u60 u61 u62 u63 u64 u65 u66 u67 u68 u69 u70 u71 u72 u73 u74 u75 u76 u77 u78 u79 u80 u81 u82 u83 u84 u85 u86 u87 u88 u89 u90 u91 u92 u93 u94 u95 u96 u97 u98 u99 u100 u101 u102 u103 u104 u105 u106 u107 u108 u109 u110 u111 u112 u113 u114 u115 u116 u117 u118 u119 u120 u121 u122 u123 u124 u125 u126 u127 u128 u129 u130 u131 u132 u133 u134 u135 u136 u137 u138 u139 u140 u141 u142 u143 u144 u145 u146 u147 u148 u149 u150 u151 u152 u153 u154 u155 u156 u157 u158 u159 u160 u161 u162 u163 u164 u165 u166 u167 u168 u169 u170 u171 u172 u173 u174 u175 u176 u177 u178 u179 u180 u181 u182 u183 u184 u185 u186 u187 u188 u189 u190 u191 u192 u193 u194 u195 u196 u197 u198 u199 u200 u201 u202 u203 u204 u205 u206 u207 u208 u209 u210 u211 u212 u213 u214 u215 u216 u217 u218 u219 u220 u221 u222 u223 u224 u225 u226 u227 u228 u229 u230 u231 u232 u233 u234 u235 u236 u237 u238 u239 u240 u241 u242 u243 u244 u245 u246 u247 u248 u249 u250 u251 u252 u253 u254 u255 u256 u257 u258 u259 u260 u261 u262 u263 u264 u265 u266 u267 u268 u269 u270 u271 u272 u273 u274 u275 u276 u277 u278 u279 u280 u281 u282 u283 u284 u285 u286 u287 u288 u289 u290 u291 u292 u293 u294 u295 u296 u297 u298 u299 u300 u301 u302 u303 u304 u305 u306 u307 u308 u309 u310 u311 u312 u313 u314 u315 u316 u317 u318 u319 u320 u321 u322 u323 u324 u325 u326 u327 u328 u329 u330 u331 u332 u333 u334 u335 u336 u337 u338 u339 u340 u341 u342 u343 u344 u345 u346 u347 u348 u349 u350 u351 u352 u353 u354 u355 u356 u357 u358 u359 u360 u361 u362 u363 u364 u365 u366 u367 u368 u369 u370 u371 u372 u373 u374 u375 u376 u377 u378 u379 u380 u381 u382 u383 u384 u385 u386 u387 u388 u389 u390 u391 u392 u393 u394 u395 u396 u397 u398 u399 u400 u401 u402 u403 u404 u405 u406 u407 u408 u409 u410 u411 u412 u413 u414 u415 u416 u417 u418 u419 u420 u421 u422 u423 u424 u425 u426 u427 u428 u429 u430 u431 u432 u433 u434 : Value) :
    Code.wp Try.prog funsR28 (Exit.then K1 (bodyPost Try.prog Try.f5 (fun e w' => e = .returned (.bool true) ∧ Below w.heap.size w w'))) ⟨#[.slice a len cap, undef, u2, u3, u4, u5, u6, u7, u8, u9, u10, u11, u12, u13, u14, u15, u16, u17, u18, u19, u20, u21, u22, u23, u24, u25, u26, u27, u28, u29, u30, u31, u32, u33, u34, u35, u36, u37, u38, u39, u40, u41, u42, u43, u44, u45, u46, u47, u48, u49, u50, u51, u52, u53, u54, u55, u56, u57, u58, u59, u60, u61, u62, u63, u64, u65, u66, u67, u68, u69, u70, u71, u72, u73, u74, u75, u76, u77, u78, u79, u80, u81, u82, u83, u84, u85, u86, u87, u88, u89, u90, u91, u92, u93, u94, u95, u96, u97, u98, u99, u100, u101, u102, u103, u104, u105, u106, u107, u108, u109, u110, u111, u112, u113, u114, u115, u116, u117, u118, u119, u120, u121, u122, u123, u124, u125, u126, u127, u128, u129, u130, u131, u132, u133, u134, u135, u136, u137, u138, u139, u140, u141, u142, u143, u144, u145, u146, u147, u148, u149, u150, u151, u152, u153, u154, u155, u156, u157, u158, u159, u160, u161, u162, u163, u164, u165, u166, u167, u168, u169, u170, u171, u172, u173, u174, u175, u176, u177, u178, u179, u180, u181, u182, u183, u184, u185, u186, u187, u188, u189, u190, u191, u192, u193, u194, u195, u196, u197, u198, u199, u200, u201, u202, u203, u204, u205, u206, u207, u208, u209, u210, u211, u212, u213, u214, u215, u216, u217, u218, u219, u220, u221, u222, u223, u224, u225, u226, u227, u228, u229, u230, u231, u232, u233, u234, u235, u236, u237, u238, u239, u240, u241, u242, u243, u244, u245, u246, u247, u248, u249, u250, u251, u252, u253, u254, u255, u256, u257, u258, u259, u260, u261, u262, u263, u264, u265, u266, u267, u268, u269, u270, u271, u272, u273, u274, u275, u276, u277, u278, u279, u280, u281, u282, u283, u284, u285, u286, u287, u288, u289, u290, u291, u292, u293, u294, u295, u296, u297, u298, u299, u300, u301, u302, u303, u304, u305, u306, u307, u308, u309, u310, u311, u312, u313, u314, u315, u316, u317, u318, u319, u320, u321, u322, u323, u324, u325, u326, u327, u328, u329, u330, u331, u332, u333, u334, u335, u336, u337, u338, u339, u340, u341, u342, u343, u344, u345, u346, u347, u348, u349, u350, u351, u352, u353, u354, u355, u356, u357, u358, u359, u360, u361, u362, u363, u364, u365, u366, u367, u368, u369, u370, u371, u372, u373, u374, u375, u376, u377, u378, u379, u380, u381, u382, u383, u384, u385, u386, u387, u388, u389, u390, u391, u392, u393, u394, u395, u396, u397, u398, u399, u400, u401, u402, u403, u404, u405, u406, u407, u408, u409, u410, u411, u412, u413, u414, u415, u416, u417, u418, u419, u420, u421, u422, u423, u424, u425, u426, u427, u428, u429, u430, u431, u432, u433, u434], []⟩ W := by
  conv => arg 2; whnf
  dsimp only
  conv at h1 => enter [aa, ww, 1, 2]; whnf
  have st0 := Lib.hid st
  clear st
  have DR := Lib.hid (drawWidenFunc_ok (cap := cap) hl W st0.out.C)
  go_wp2_with fail
  refine DR.out.mono ?_
  rintro e w1 ⟨n, x, rfl, hn, hx, hb1⟩
  have st1 := Lib.hid (st0.out.below hb1)
  clear hb1 DR st0
  obtain ⟨W2, hW2⟩ : ∃ W2, w1.alloc (.cells #[.int .i64 n, .int .i64 x] 25) = W2 := ⟨_, rfl⟩
  have st2 := Lib.hid (show LawSt w a len [(w1.heap.size, n, x)] [] W2 by rw [← hW2]; exact st1.out.box n x 25)
  clear st1
  obtain ⟨rn, rb, rc, s2, s1', hc⟩ := widenF n x
  have HS1 := Lib.hid s1'
  have HS2 := Lib.hid s2
  have HC := Lib.hid hc
  clear s1' s2 hn hx hc
  have p0 := (st2.out.B (w1.heap.size, n, x) (by simp)).1
  have p1 := (st2.out.B (w1.heap.size, n, x) (by simp)).2
  go_wp2_with fail
  clear hW2
  refine (HS1.out _).mono ?_
  rintro e w3 ⟨rfl, hb3⟩
  have st3 := Lib.hid (st2.out.below hb3)
  clear hb3 st2 HS1
  clear p0 p1
  obtain ⟨W4, hW4⟩ : ∃ W4, w3.alloc (.cells #[.int .i64 rn, .int .i64 rb] 25) = W4 := ⟨_, rfl⟩
  have st4 := Lib.hid (show LawSt w a len [(w3.heap.size, rn, rb), (w1.heap.size, n, x)] [] W4 by rw [← hW4]; exact st3.out.box rn rb 25)
  clear st3
  have p0 := (st4.out.B (w1.heap.size, n, x) (by simp)).1
  have p1 := (st4.out.B (w1.heap.size, n, x) (by simp)).2
  go_wp2_with fail
  clear hW4
  refine (HS2.out _).mono ?_
  rintro e w5 ⟨rfl, hb5⟩
  have st5 := Lib.hid (st4.out.below hb5)
  clear hb5 st4 HS2
  clear p0 p1
  obtain ⟨W6, hW6⟩ : ∃ W6, w5.alloc (.cells #[.int .i64 rn, .int .i64 rb] 25) = W6 := ⟨_, rfl⟩
  have st6 := Lib.hid (show LawSt w a len [(w5.heap.size, rn, rb), (w3.heap.size, rn, rb), (w1.heap.size, n, x)] [] W6 by rw [← hW6]; exact st5.out.box rn rb 25)
  clear st5
  have q0 := (st6.out.B (w3.heap.size, rn, rb) (by simp)).1
  have q1 := (st6.out.B (w3.heap.size, rn, rb) (by simp)).2
  have r0 := (st6.out.B (w5.heap.size, rn, rb) (by simp)).1
  have r1 := (st6.out.B (w5.heap.size, rn, rb) (by simp)).2
  rcases HC.out with ⟨rfl, w0, w1'⟩ | hne
  · have HX := Lib.hid w0
    have HY := Lib.hid w1'
    clear w0 w1' HC
    have p0 := (st6.out.B (w1.heap.size, n, x) (by simp)).1
    have p1 := (st6.out.B (w1.heap.size, n, x) (by simp)).2
    go_wp2_with fail
    clear hW6
    refine (HX.out _).mono ?_
    rintro e w7 ⟨rfl, hb7⟩
    have st7 := Lib.hid (st6.out.below hb7)
    clear hb7 st6 HX
    clear q0 q1 r0 r1 p0 p1
    obtain ⟨W8, hW8⟩ : ∃ W8, w7.alloc (.cells #[.int .i64 n, .int .i64 x] 25) = W8 := ⟨_, rfl⟩
    have st8 := Lib.hid (show LawSt w a len [(w7.heap.size, n, x), (w5.heap.size, rn, rb), (w3.heap.size, rn, rb), (w1.heap.size, n, x)] [] W8 by rw [← hW8]; exact st7.out.box n x 25)
    clear st7
    have p0 := (st8.out.B (w1.heap.size, n, x) (by simp)).1
    have p1 := (st8.out.B (w1.heap.size, n, x) (by simp)).2
    have q0 := (st8.out.B (w3.heap.size, rn, rb) (by simp)).1
    have q1 := (st8.out.B (w3.heap.size, rn, rb) (by simp)).2
    go_wp2_with fail
    clear hW8
    refine (HY.out _).mono ?_
    rintro e w9 ⟨rfl, hb9⟩
    have st9 := Lib.hid (st8.out.below hb9)
    clear hb9 st8 HY
    clear p0 p1 q0 q1
    obtain ⟨W10, hW10⟩ : ∃ W10, w9.alloc (.cells #[.int .i64 n, .int .i64 x] 25) = W10 := ⟨_, rfl⟩
    have st10 := Lib.hid (show LawSt w a len [(w9.heap.size, n, x), (w7.heap.size, n, x), (w5.heap.size, rn, rb), (w3.heap.size, rn, rb), (w1.heap.size, n, x)] [] W10 by rw [← hW10]; exact st9.out.box n x 25)
    clear st9
    have p0 := (st10.out.B (w1.heap.size, n, x) (by simp)).1
    have p1 := (st10.out.B (w1.heap.size, n, x) (by simp)).2
    have q0 := (st10.out.B (w7.heap.size, n, x) (by simp)).1
    have q1 := (st10.out.B (w7.heap.size, n, x) (by simp)).2
    have r0 := (st10.out.B (w9.heap.size, n, x) (by simp)).1
    have r1 := (st10.out.B (w9.heap.size, n, x) (by simp)).2
    go_upto_region 38 with fail
    clear hW10
    clear p0 p1 q0 q1 r0 r1
    exact ff2 hl (st10.out.less (by simp) (by simp)) (by assumption) _ _ _ _ _ _ _ _ _ _ _ _ _ _ _ _ _ _ _ _ _ _ _ _ _ _ _ _ _ _ _ _ _ _ _ _ _ _ _ _ _ _ _ _ _ _ _ _ _ _ _ _ _ _ _ _ _ _ _ _ _ _ _ _ _ _ _ _ _ _ _ _ _ _ _ _ _ _ _ _ _ _ _ _ _ _ _ _ _ _ _ _ _ _ _ _ _ _ _ _ _ _ _ _ _ _ _ _ _ _ _ _ _ _ _ _ _ _ _ _ _ _ _ _ _ _ _ _ _ _ _ _ _ _ _ _ _ _ _ _ _ _ _ _ _ _ _ _ _ _ _ _ _ _ _ _ _ _ _ _ _ _ _ _ _ _ _ _ _ _ _ _ _ _ _ _ _ _ _ _ _ _ _ _ _ _ _ _ _ _ _ _ _ _ _ _ _ _ _ _ _ _ _ _ _ _ _ _ _ _ _ _ _ _ _ _ _ _ _ _ _ _ _ _ _ _ _ _ _ _ _ _ _ _ _ _ _ _ _ _ _ _ _ _ _ _ _ _ _ _ _ _ _ _ _ _ _ _ _ _ _ _ _ _ _ _ _ _ _ _ _ _ _ _ _ _ _ _ _ _ _ _ _ _ _ _ _ _ _ _ _ _ _ _ _ _ _ _ _ _ _ _ _ _ _ _ _ _ _ _ _ _ _ _ _ _ _ _ _ _ _ _ _ _ _ _ _ _ _ _ _ _ _ _ _ _ _ _ _ _ _ _ _ _ _ _ _ _ _ _ _ _ _ _ _ _ _ _ _ _ _ _ _ _ _ _ _ _ _ _ _ _ _ _ _ _ _ _ _ _ _ _ _ _ _ _ _ _ _ _ _ _ _ _ _ _ _ _ _ _ _ _ _ _ _ _ _ _ _ _ _ _ _ _ _ _ _ _ _ _ _ _ _ _ _ _ _ _ _ _ _ _ _
  · have hq : (rc == 0) = false := by simp [hne]
    go_upto_region 38 with fail
    clear hW6
    clear q0 q1 r0 r1
    exact ff2 hl (st6.out.less (by simp) (by simp)) (by assumption) _ _ _ _ _ _ _ _ _ _ _ _ _ _ _ _ _ _ _ _ _ _ _ _ _ _ _ _ _ _ _ _ _ _ _ _ _ _ _ _ _ _ _ _ _ _ _ _ _ _ _ _ _ _ _ _ _ _ _ _ _ _ _ _ _ _ _ _ _ _ _ _ _ _ _ _ _ _ _ _ _ _ _ _ _ _ _ _ _ _ _ _ _ _ _ _ _ _ _ _ _ _ _ _ _ _ _ _ _ _ _ _ _ _ _ _ _ _ _ _ _ _ _ _ _ _ _ _ _ _ _ _ _ _ _ _ _ _ _ _ _ _ _ _ _ _ _ _ _ _ _ _ _ _ _ _ _ _ _ _ _ _ _ _ _ _ _ _ _ _ _ _ _ _ _ _ _ _ _ _ _ _ _ _ _ _ _ _ _ _ _ _ _ _ _ _ _ _ _ _ _ _ _ _ _ _ _ _ _ _ _ _ _ _ _ _ _ _ _ _ _ _ _ _ _ _ _ _ _ _ _ _ _ _ _ _ _ _ _ _ _ _ _ _ _ _ _ _ _ _ _ _ _ _ _ _ _ _ _ _ _ _ _ _ _ _ _ _ _ _ _ _ _ _ _ _ _ _ _ _ _ _ _ _ _ _ _ _ _ _ _ _ _ _ _ _ _ _ _ _ _ _ _ _ _ _ _ _ _ _ _ _ _ _ _ _ _ _ _ _ _ _ _ _ _ _ _ _ _ _ _ _ _ _ _ _ _ _ _ _ _ _ _ _ _ _ _ _ _ _ _ _ _ _ _ _ _ _ _ _ _ _ _ _ _ _ _ _ _ _ _ _ _ _ _ _ _ _ _ _ _ _ _ _ _ _ _ _ _ _ _ _ _ _ _ _ _ _ _ _ _ _ _ _ _ _ _ _ _ _ _ _ _ _ _ _ _ _ _ _ _ _ _ _ _ _ _ _ _ _ _ _ _
end Go.Proofs.Ytenbokdcdokhiab

/- FF4:
  FnFunctions: cores have essential variables alone. -/
namespace Go.Proofs.Ytenbokdcdokhiab
open Go.RowKit
set_option linter.unusedVariables false
set_option linter.unusedSimpArgs false

theorem Owns.sizedN {W : World} {base m : Nat} {s : Value} {xs : List Int} (h : Owns W base s xs) (hx : xs.length = m) : ∃ a cap, s = .slice a m cap := by
  obtain ⟨a, cap, e⟩ := h.slice
  exact ⟨a, cap, by rw [e, hx]⟩
noncomputable def funsR18 : Go.Code := ((Try.f5.body.bind (regAt 18)).getD .skip)
noncomputable def funsC19 : Go.Code := ((Try.f5.body.bind (fromReg 19)).getD .skip)
set_option maxRecDepth 100000 in
set_option maxHeartbeats 64000000 in
theorem ff4 {a : Option Addr} {len cap : Nat} {w W : World} (hl : len ≤ 1048576) (st : LawSt w a len [] [] W)
    {K1 : Act → World → Prop} (h1 : ∀ aa ww, Code.wp Try.prog funsC19 (bodyPost Try.prog Try.f5 (fun e w' => e = .returned (.bool true) ∧ Below w.heap.size w w')) aa ww → K1 aa ww)
    (u2 u3 u4 u5 u6 u7 u8 u9 u10 u11 u12 u13 u14 u15 u16 u17 u18 u19 u20 u21 u22 u23 u24 u25 u26 u27 u28 u29 u30 u31 u32 u33 u34 u35 u36 u37 u38 u39 u40 u41 u42 u43 u44 u45 u46 u47 u48 u49 u50 u51 u52 u53 u54 u55 u56 u57 u58 u59 u60 u61 u62 u63 u64 u65 u66 u67 u68 u69 u70 u71 u72 u73 u74 u75 u76 u77 u78 u79 u80 u81 u82 u83 u84 u85 u86 u87 u88 u89 u90 u91 u92 u93 u94 u95 u96 u97 u98 u99 u100 u101 u102 u103 u104 u105 u106 u107 u108 u109 u110 u111 u112 u113 u114 u115 u116 u117 u118 u119 u120 u121 u122 u123 u124 u125 u126 u127 u128 u129 u130 u131 u132 u133 u134 u135 u136 u137 u138 u139 u140 u141 u142 u143 u144 u145 u146 u147 u148 u149 u150 u151 u152 u153 u154 u155 u156 u157 u158 u159 u160 u161 u162 u163 u164 u165 u166 u167 u168 u169 u170 u171 u172 u173 u174 u175 u176 u177 u178 u179 u180 u181 u182 u183 u184 u185 u186 u187 u188 u189 u190 u191 u192 u193 u194 u195 u196 u197 u198 u199 u200 u201 u202 u203 u204 u205 u206 u207 u208 u209 u210 u211 u212 u213 u214 u215 u216 u217 u218 u219 u220 u221 u222 u223 u224 u225 u226 u227 u228 u229 u230 u231 u232 u233 u234 u235 u236 u237 u238 u239 u240 u241 u242 u243 u244 u245 u246 u247 u248 u249 u250 u251 u252 u253 u254 u255 u256 u257 u258 u259 u260 u261 u262 u263 u264 u265 u266 u267 u268 u269 u270 u271 u272 u273 u274 u275 u276 u277 u278 u279 u280 u281 u282 u283 u284 u285 u286 u287 u288 u289 u290 u291 u292 u293 u294 u295 u296 u297 u298 u299 u300 u301 u302 u303 u304 u305 u306 u307 u308 u309 u310 u311 u312 u313 u314 u315 u316 u317 u318 u319 u320 u321 u322 u323 u324 u325 u326 u327 u328 u329 u330 u331 u332 u333 u334 u335 u336 u337 u338 u339 u340 u341 u342 u343 u344 u345 u346 u347 u348 u349 u350 u351 u352 u353 u354 u355 u356 u357 u358 u359 u360 u361 u362 u363 u364 u365 u366 u367 u368 u369 u370 u371 u372 u373 u374 u375 u376 u377 u378 u379 u380 u381 u382 u383 u384 u385 u386 u387 u388 u389 u390 u391 u392 u393 u394 u395 u396 u397 u398 u399 u400 u401 u402 u403 u404 u405 u406 u407 u408 u409 u410 u411 u412 u413 u414 u415 u416 u417 u418 u419 u420 u421 u422 u423 u424 u425 u426 u427 u428 u429 u430 u431 u432 u433 u434 : Value) :
    Code.wp Try.prog funsR18 (Exit.then K1 (bodyPost Try.prog Try.f5 (fun e w' => e = .returned (.bool true) ∧ Below w.heap.size w w'))) ⟨#[.slice a len cap, undef, u2, u3, u4, u5, u6, u7, u8, u9, u10, u11, u12, u13, u14, u15, u16, u17, u18, u19, u20, u21, u22, u23, u24, u25, u26, u27, u28, u29, u30, u31, u32, u33, u34, u35, u36, u37, u38, u39, u40, u41, u42, u43, u44, u45, u46, u47, u48, u49, u50, u51, u52, u53, u54, u55, u56, u57, u58, u59, u60, u61, u62, u63, u64, u65, u66, u67, u68, u69, u70, u71, u72, u73, u74, u75, u76, u77, u78, u79, u80, u81, u82, u83, u84, u85, u86, u87, u88, u89, u90, u91, u92, u93, u94, u95, u96, u97, u98, u99, u100, u101, u102, u103, u104, u105, u106, u107, u108, u109, u110, u111, u112, u113, u114, u115, u116, u117, u118, u119, u120, u121, u122, u123, u124, u125, u126, u127, u128, u129, u130, u131, u132, u133, u134, u135, u136, u137, u138, u139, u140, u141, u142, u143, u144, u145, u146, u147, u148, u149, u150, u151, u152, u153, u154, u155, u156, u157, u158, u159, u160, u161, u162, u163, u164, u165, u166, u167, u168, u169, u170, u171, u172, u173, u174, u175, u176, u177, u178, u179, u180, u181, u182, u183, u184, u185, u186, u187, u188, u189, u190, u191, u192, u193, u194, u195, u196, u197, u198, u199, u200, u201, u202, u203, u204, u205, u206, u207, u208, u209, u210, u211, u212, u213, u214, u215, u216, u217, u218, u219, u220, u221, u222, u223, u224, u225, u226, u227, u228, u229, u230, u231, u232, u233, u234, u235, u236, u237, u238, u239, u240, u241, u242, u243, u244, u245, u246, u247, u248, u249, u250, u251, u252, u253, u254, u255, u256, u257, u258, u259, u260, u261, u262, u263, u264, u265, u266, u267, u268, u269, u270, u271, u272, u273, u274, u275, u276, u277, u278, u279, u280, u281, u282, u283, u284, u285, u286, u287, u288, u289, u290, u291, u292, u293, u294, u295, u296, u297, u298, u299, u300, u301, u302, u303, u304, u305, u306, u307, u308, u309, u310, u311, u312, u313, u314, u315, u316, u317, u318, u319, u320, u321, u322, u323, u324, u325, u326, u327, u328, u329, u330, u331, u332, u333, u334, u335, u336, u337, u338, u339, u340, u341, u342, u343, u344, u345, u346, u347, u348, u349, u350, u351, u352, u353, u354, u355, u356, u357, u358, u359, u360, u361, u362, u363, u364, u365, u366, u367, u368, u369, u370, u371, u372, u373, u374, u375, u376, u377, u378, u379, u380, u381, u382, u383, u384, u385, u386, u387, u388, u389, u390, u391, u392, u393, u394, u395, u396, u397, u398, u399, u400, u401, u402, u403, u404, u405, u406, u407, u408, u409, u410, u411, u412, u413, u414, u415, u416, u417, u418, u419, u420, u421, u422, u423, u424, u425, u426, u427, u428, u429, u430, u431, u432, u433, u434], []⟩ W := by
  conv => arg 2; whnf
  dsimp only
  conv at h1 => enter [aa, ww, 1, 2]; whnf
  have st0 := Lib.hid st
  clear st
  have DR := Lib.hid (drawCoreOf_ok (cap := cap) hl W st0.out.C)
  go_wp2_with fail
  refine DR.out.mono ?_
  rintro e w1 ⟨n, x, rfl, hn, hx, hb1⟩
  have st1 := Lib.hid (st0.out.below hb1)
  clear hb1 DR st0
  obtain ⟨W2, hW2⟩ : ∃ W2, w1.alloc (.cells #[.int .i64 n, .int .i64 x] 25) = W2 := ⟨_, rfl⟩
  have st2 := Lib.hid (show LawSt w a len [(w1.heap.size, n, x)] [] W2 by rw [← hW2]; exact st1.out.box n x 25)
  clear st1
  obtain ⟨rn, rb, rc, s2, s1', hc⟩ := coreF n x
  have HS1 := Lib.hid s1'
  have HS2 := Lib.hid s2
  have HC := Lib.hid hc
  clear s1' s2 hn hx hc
  have p0 := (st2.out.B (w1.heap.size, n, x) (by simp)).1
  have p1 := (st2.out.B (w1.heap.size, n, x) (by simp)).2
  go_wp2_with fail
  clear hW2
  refine (HS1.out _).mono ?_
  rintro e w3 ⟨rfl, hb3⟩
  have st3 := Lib.hid (st2.out.below hb3)
  clear hb3 st2 HS1
  clear p0 p1
  obtain ⟨W4, hW4⟩ : ∃ W4, w3.alloc (.cells #[.int .i64 rn, .int .i64 rb] 25) = W4 := ⟨_, rfl⟩
  have st4 := Lib.hid (show LawSt w a len [(w3.heap.size, rn, rb), (w1.heap.size, n, x)] [] W4 by rw [← hW4]; exact st3.out.box rn rb 25)
  clear st3
  have p0 := (st4.out.B (w1.heap.size, n, x) (by simp)).1
  have p1 := (st4.out.B (w1.heap.size, n, x) (by simp)).2
  go_wp2_with fail
  clear hW4
  refine (HS2.out _).mono ?_
  rintro e w5 ⟨rfl, hb5⟩
  have st5 := Lib.hid (st4.out.below hb5)
  clear hb5 st4 HS2
  clear p0 p1
  obtain ⟨W6, hW6⟩ : ∃ W6, w5.alloc (.cells #[.int .i64 rn, .int .i64 rb] 25) = W6 := ⟨_, rfl⟩
  have st6 := Lib.hid (show LawSt w a len [(w5.heap.size, rn, rb), (w3.heap.size, rn, rb), (w1.heap.size, n, x)] [] W6 by rw [← hW6]; exact st5.out.box rn rb 25)
  clear st5
  have q0 := (st6.out.B (w3.heap.size, rn, rb) (by simp)).1
  have q1 := (st6.out.B (w3.heap.size, rn, rb) (by simp)).2
  have r0 := (st6.out.B (w5.heap.size, rn, rb) (by simp)).1
  have r1 := (st6.out.B (w5.heap.size, rn, rb) (by simp)).2
  rcases HC.out with ⟨rfl, xs, ys, m, w0, w1', hxs, hys, rfl⟩ | hne
  · have HX := Lib.hid w0
    have HY := Lib.hid w1'
    have HXS := Lib.hid hxs
    have HYS := Lib.hid hys
    clear w0 w1' hxs hys HC
    go_wp2_with fail
    clear hW6
    refine (HX.out _).mono ?_
    rintro e w7 ⟨v1, rfl, ho7, hb7⟩
    have st7 := Lib.hid ((st6.out.below hb7).list ho7)
    clear hb7 st6 ho7 HX
    clear q0 q1 r0 r1
    have p0 := (st7.out.B (w1.heap.size, n, x) (by simp)).1
    have p1 := (st7.out.B (w1.heap.size, n, x) (by simp)).2
    go_wp2_with fail
    refine (HY.out _).mono ?_
    rintro e w8 ⟨v2, rfl, ho8, hb8⟩
    have st8 := Lib.hid ((st7.out.below hb8).list ho8)
    clear hb8 st7 ho8 HY
    clear p0 p1
    obtain ⟨a1, q1, rfl⟩ := Owns.sizedN (st8.out.O (W6.heap.size, v1, xs) (by simp)) HXS.out
    obtain ⟨a2, q2, rfl⟩ := Owns.sizedN (st8.out.O (w7.heap.size, v2, ys) (by simp)) HYS.out
    have q0 := (st8.out.B (w3.heap.size, (m : Int), rb) (by simp)).1
    have q1 := (st8.out.B (w3.heap.size, (m : Int), rb) (by simp)).2
    go_upto_region 28 with fail
    clear q0 q1
    exact ff3 hl (st8.out.less (by simp) (by simp)) (by assumption) _ _ _ _ _ _ _ _ _ _ _ _ _ _ _ _ _ _ _ _ _ _ _ _ _ _ _ _ _ _ _ _ _ _ _ _ _ _ _ _ _ _ _ _ _ _ _ _ _ _ _ _ _ _ _ _ _ _ _ _ _ _ _ _ _ _ _ _ _ _ _ _ _ _ _ _ _ _ _ _ _ _ _ _ _ _ _ _ _ _ _ _ _ _ _ _ _ _ _ _ _ _ _ _ _ _ _ _ _ _ _ _ _ _ _ _ _ _ _ _ _ _ _ _ _ _ _ _ _ _ _ _ _ _ _ _ _ _ _ _ _ _ _ _ _ _ _ _ _ _ _ _ _ _ _ _ _ _ _ _ _ _ _ _ _ _ _ _ _ _ _ _ _ _ _ _ _ _ _ _ _ _ _ _ _ _ _ _ _ _ _ _ _ _ _ _ _ _ _ _ _ _ _ _ _ _ _ _ _ _ _ _ _ _ _ _ _ _ _ _ _ _ _ _ _ _ _ _ _ _ _ _ _ _ _ _ _ _ _ _ _ _ _ _ _ _ _ _ _ _ _ _ _ _ _ _ _ _ _ _ _ _ _ _ _ _ _ _ _ _ _ _ _ _ _ _ _ _ _ _ _ _ _ _ _ _ _ _ _ _ _ _ _ _ _ _ _ _ _ _ _ _ _ _ _ _ _ _ _ _ _ _ _ _ _ _ _ _ _ _ _ _ _ _ _ _ _ _ _ _ _ _ _ _ _ _ _ _ _ _ _ _ _ _ _ _ _ _ _ _ _ _ _ _ _ _ _ _ _ _ _ _ _ _ _ _ _ _ _ _ _ _ _ _ _ _ _ _ _ _ _ _ _ _ _ _ _ _ _ _ _ _ _ _ _ _ _ _ _ _ _ _ _ _ _ _ _ _ _ _ _ _ _ _ _ _ _ _ _ _ _ _ _ _ _ _ _ _ _ _ _ _ _
  · have hq : (rc == 0) = false := by simp [hne]
    go_upto_region 28 with fail
    clear hW6
    clear q0 q1 r0 r1
    exact ff3 hl (st6.out.less (by simp) (by simp)) (by assumption) _ _ _ _ _ _ _ _ _ _ _ _ _ _ _ _ _ _ _ _ _ _ _ _ _ _ _ _ _ _ _ _ _ _ _ _ _ _ _ _ _ _ _ _ _ _ _ _ _ _ _ _ _ _ _ _ _ _ _ _ _ _ _ _ _ _ _ _ _ _ _ _ _ _ _ _ _ _ _ _ _ _ _ _ _ _ _ _ _ _ _ _ _ _ _ _ _ _ _ _ _ _ _ _ _ _ _ _ _ _ _ _ _ _ _ _ _ _ _ _ _ _ _ _ _ _ _ _ _ _ _ _ _ _ _ _ _ _ _ _ _ _ _ _ _ _ _ _ _ _ _ _ _ _ _ _ _ _ _ _ _ _ _ _ _ _ _ _ _ _ _ _ _ _ _ _ _ _ _ _ _ _ _ _ _ _ _ _ _ _ _ _ _ _ _ _ _ _ _ _ _ _ _ _ _ _ _ _ _ _ _ _ _ _ _ _ _ _ _ _ _ _ _ _ _ _ _ _ _ _ _ _ _ _ _ _ _ _ _ _ _ _ _ _ _ _ _ _ _ _ _ _ _ _ _ _ _ _ _ _ _ _ _ _ _ _ _ _ _ _ _ _ _ _ _ _ _ _ _ _ _ _ _ _ _ _ _ _ _ _ _ _ _ _ _ _ _ _ _ _ _ _ _ _ _ _ _ _ _ _ _ _ _ _ _ _ _ _ _ _ _ _ _ _ _ _ _ _ _ _ _ _ _ _ _ _ _ _ _ _ _ _ _ _ _ _ _ _ _ _ _ _ _ _ _ _ _ _ _ _ _ _ _ _ _ _ _ _ _ _ _ _ _ _ _ _ _ _ _ _ _ _ _ _ _ _ _ _ _ _ _ _ _ _ _ _ _ _ _ _ _ _ _ _ _ _ _ _ _ _ _ _ _ _ _ _ _ _ _ _ _ _ _ _ _ _ _ _ _ _ _ _ _
end Go.Proofs.Ytenbokdcdokhiab

/- FFnFunctions:
  The walk of FnFunctions. -/
namespace Go.Proofs.Ytenbokdcdokhiab
open Go.RowKit
set_option linter.unusedVariables false
set_option linter.unusedSimpArgs false

set_option maxRecDepth 100000 in
set_option maxHeartbeats 64000000 in
theorem fnFunctions_walk {a : Option Addr} {len cap : Nat} (w : World) (C : Code w a len) :
    Calls Try.prog 5 #[.slice a len cap] w fun e w' => e = .returned (.bool true) ∧ Below w.heap.size w w' := by
  by_cases hbig : 4096 < len
  · have hq : decide (4096 < len) = true := by simpa using hbig
    go_enter Try.func5, Try.ntmps5
    go_wp2_with (go_at_call 9; refine (big_ok _).mono ?_; rintro e w' ⟨rfl, rfl⟩)
    go_ret
    exact ⟨rfl, Below.refl _ _⟩
  · have hq : decide (4096 < len) = false := by simpa using hbig
    have hl : len ≤ 1048576 := by omega
    have st0 := Lib.hid (LawSt.start C)
    have DR := Lib.hid (drawDualOf_ok (cap := cap) hl w C)
    clear C
    go_enter Try.func5, Try.ntmps5
    go_wp2_with (go_at_call 9; refine (big_ok _).mono ?_; rintro e w' ⟨rfl, rfl⟩)
    refine DR.out.mono ?_
    rintro e w1 ⟨n, x, rfl, hn, hx, hb1⟩
    have st1 := Lib.hid (st0.out.below hb1)
    clear hb1 DR st0
    obtain ⟨W2, hW2⟩ : ∃ W2, w1.alloc (.cells #[.int .i64 n, .int .i64 x] 25) = W2 := ⟨_, rfl⟩
    have st2 := Lib.hid (show LawSt w a len [(w1.heap.size, n, x)] [] W2 by rw [← hW2]; exact st1.out.box n x 25)
    clear st1
    obtain ⟨rn, rb, rc, s2, s1', hc⟩ := dualF n x
    have HS1 := Lib.hid s1'
    have HS2 := Lib.hid s2
    have HC := Lib.hid hc
    clear s1' s2 hc
    have p0 := (st2.out.B (w1.heap.size, n, x) (by simp)).1
    have p1 := (st2.out.B (w1.heap.size, n, x) (by simp)).2
    go_wp2_with fail
    clear hW2
    refine (HS1.out _).mono ?_
    rintro e w3 ⟨rfl, hb3⟩
    have st3 := Lib.hid (st2.out.below hb3)
    clear hb3 st2 HS1
    clear p0 p1
    obtain ⟨W4, hW4⟩ : ∃ W4, w3.alloc (.cells #[.int .i64 rn, .int .i64 rb] 25) = W4 := ⟨_, rfl⟩
    have st4 := Lib.hid (show LawSt w a len [(w3.heap.size, rn, rb), (w1.heap.size, n, x)] [] W4 by rw [← hW4]; exact st3.out.box rn rb 25)
    clear st3
    have p0 := (st4.out.B (w1.heap.size, n, x) (by simp)).1
    have p1 := (st4.out.B (w1.heap.size, n, x) (by simp)).2
    go_wp2_with fail
    clear hW4
    refine (HS2.out _).mono ?_
    rintro e w5 ⟨rfl, hb5⟩
    have st5 := Lib.hid (st4.out.below hb5)
    clear hb5 st4 HS2
    clear p0 p1
    obtain ⟨W6, hW6⟩ : ∃ W6, w5.alloc (.cells #[.int .i64 rn, .int .i64 rb] 25) = W6 := ⟨_, rfl⟩
    have st6 := Lib.hid (show LawSt w a len [(w5.heap.size, rn, rb), (w3.heap.size, rn, rb), (w1.heap.size, n, x)] [] W6 by rw [← hW6]; exact st5.out.box rn rb 25)
    clear st5
    have p0 := (st6.out.B (w1.heap.size, n, x) (by simp)).1
    have p1 := (st6.out.B (w1.heap.size, n, x) (by simp)).2
    have q0 := (st6.out.B (w3.heap.size, rn, rb) (by simp)).1
    have q1 := (st6.out.B (w3.heap.size, rn, rb) (by simp)).2
    have r0 := (st6.out.B (w5.heap.size, rn, rb) (by simp)).1
    have r1 := (st6.out.B (w5.heap.size, rn, rb) (by simp)).2
    obtain ⟨bI, hI⟩ : ∃ bI, isF n x = bI := ⟨_, rfl⟩
    have HI := Lib.hid hI
    clear hI hn hx
    go_wp2_with fail
    clear hW6
    go_region_held3 (fun w' => ((w'.cell? ⟨w1.heap.size, 0, none⟩ = some (.int .i64 n) ∧ w'.cell? ⟨w1.heap.size, 1, none⟩ = some (.int .i64 x)) ∧ (w'.cell? ⟨w3.heap.size, 0, none⟩ = some (.int .i64 rn) ∧ w'.cell? ⟨w3.heap.size, 1, none⟩ = some (.int .i64 rb)) ∧ (w'.cell? ⟨w5.heap.size, 0, none⟩ = some (.int .i64 rn) ∧ w'.cell? ⟨w5.heap.size, 1, none⟩ = some (.int .i64 rb))) ∧ Below W6.heap.size W6 w') (first | exact ⟨⟨⟨p0, p1⟩, ⟨q0, q1⟩, ⟨r0, r1⟩⟩, (Below.refl _ _).drew⟩ | exact hold6 hbq (by assumption))
      (first
        | (go_at_call 16; refine (IsFunc_is HI.out _).mono ?_; rintro e wq ⟨rfl, hbq⟩)
        | (go_at_call 58; refine (specIsFunc_at HI.out _).mono ?_; rintro e wq ⟨rfl, hbq⟩))
    all_goals
      have HH := ‹_ ∧ Below W6.heap.size W6 _›
      have st30 := Lib.hid (st6.out.below HH.2)
      clear HH HI st6
      clear p0 p1 q0 q1 r0 r1
      rcases HC.out with ⟨rfl, nb, A1, B1, T, h⟩ | hne
      · obtain ⟨m, rfl⟩ := Int.eq_ofNat_of_zero_le h.n0.1
        have hb := Lib.hid h.back
        have hneg := Lib.hid h.neg
        have hneg2 := Lib.hid h.neg2
        have hwa := Lib.hid h.wa
        have hwb := Lib.hid h.wb
        have htx := Lib.hid h.tx
        have hrd := Lib.hid h.rd
        have a0 := h.a0
        have b0 := h.b0
        have n0 := h.n0
        have hs := h.sum
        rw [Int.toNat_natCast] at hs
        obtain ⟨S, hS⟩ : ∃ S, A1 + B1 = S := ⟨_, rfl⟩
        have eS : IntKind.i64.wrap (A1 + B1) = S := by rw [wrap64_small (by omega) (by omega)]; exact hS
        have eR : wrap64 (2 ^ m) = S := by rw [← hs, hS]; exact IntWalk.wrap64_in _ ⟨by omega, by omega⟩
        clear h hs hS HC
        have q0 := (st30.out.B (w3.heap.size, rn, rb) (by simp)).1
        have q1 := (st30.out.B (w3.heap.size, rn, rb) (by simp)).2
        go_wp2_with fail
        refine (hb.out _).mono ?_
        rintro e w31 ⟨rfl, hb31⟩
        have st31 := Lib.hid (st30.out.below hb31)
        clear hb31 st30 hb
        clear q0 q1
        obtain ⟨W32, hW32⟩ : ∃ W32, w31.alloc (.cells #[.int .i64 (m : Int), .int .i64 x] 25) = W32 := ⟨_, rfl⟩
        have st32 := Lib.hid (show LawSt w a len [(w31.heap.size, (m : Int), x), (w5.heap.size, rn, rb), (w3.heap.size, rn, rb), (w1.heap.size, (m : Int), x)] [] W32 by rw [← hW32]; exact st31.out.box (m : Int) x 25)
        clear st31
        have p0 := (st32.out.B (w1.heap.size, (m : Int), x) (by simp)).1
        have p1 := (st32.out.B (w1.heap.size, (m : Int), x) (by simp)).2
        go_wp2_with fail
        clear hW32
        refine (hneg.out _).mono ?_
        rintro e w33 ⟨rfl, hb33⟩
        have st33 := Lib.hid (st32.out.below hb33)
        clear hb33 st32 hneg
        clear p0 p1
        obtain ⟨W34, hW34⟩ : ∃ W34, w33.alloc (.cells #[.int .i64 (m : Int), .int .i64 nb] 25) = W34 := ⟨_, rfl⟩
        have st34 := Lib.hid (show LawSt w a len [(w33.heap.size, (m : Int), nb), (w31.heap.size, (m : Int), x), (w5.heap.size, rn, rb), (w3.heap.size, rn, rb), (w1.heap.size, (m : Int), x)] [] W34 by rw [← hW34]; exact st33.out.box (m : Int) nb 25)
        clear st33
        have p0 := (st34.out.B (w33.heap.size, (m : Int), nb) (by simp)).1
        have p1 := (st34.out.B (w33.heap.size, (m : Int), nb) (by simp)).2
        go_wp2_with fail
        clear hW34
        refine (hneg2.out _).mono ?_
        rintro e w35 ⟨rfl, hb35⟩
        have st35 := Lib.hid (st34.out.below hb35)
        clear hb35 st34 hneg2
        clear p0 p1
        obtain ⟨W36, hW36⟩ : ∃ W36, w35.alloc (.cells #[.int .i64 (m : Int), .int .i64 x] 25) = W36 := ⟨_, rfl⟩
        have st36 := Lib.hid (show LawSt w a len [(w35.heap.size, (m : Int), x), (w33.heap.size, (m : Int), nb), (w31.heap.size, (m : Int), x), (w5.heap.size, rn, rb), (w3.heap.size, rn, rb), (w1.heap.size, (m : Int), x)] [] W36 by rw [← hW36]; exact st35.out.box (m : Int) x 25)
        clear st35
        have p0 := (st36.out.B (w1.heap.size, (m : Int), x) (by simp)).1
        have p1 := (st36.out.B (w1.heap.size, (m : Int), x) (by simp)).2
        go_wp2_with fail
        clear hW36
        refine (hwa.out _).mono ?_
        rintro e w37 ⟨rfl, hb37⟩
        have st37 := Lib.hid (st36.out.below hb37)
        clear hb37 st36 hwa
        clear p0 p1
        have p0 := (st37.out.B (w33.heap.size, (m : Int), nb) (by simp)).1
        have p1 := (st37.out.B (w33.heap.size, (m : Int), nb) (by simp)).2
        go_wp2_with fail
        refine (hwb.out _).mono ?_
        rintro e w38 ⟨rfl, hb38⟩
        have st38 := Lib.hid (st37.out.below hb38)
        clear hb38 st37 hwb
        clear p0 p1
        have p0 := (st38.out.B (w1.heap.size, (m : Int), x) (by simp)).1
        have p1 := (st38.out.B (w1.heap.size, (m : Int), x) (by simp)).2
        go_wp2_with fail
        refine (htx.out _).mono ?_
        rintro e w39 ⟨rfl, hb39⟩
        have st39 := Lib.hid (st38.out.below hb39)
        clear hb39 st38 htx
        clear p0 p1
        go_wp2_with fail
        refine (hrd.out _).mono ?_
        rintro e w40 ⟨rfl, hb40⟩
        have st40 := Lib.hid (st39.out.below hb40)
        clear hb40 st39 hrd
        obtain ⟨W41, hW41⟩ : ∃ W41, w40.alloc (.cells #[.int .i64 (m : Int), .int .i64 x] 25) = W41 := ⟨_, rfl⟩
        have st41 := Lib.hid (show LawSt w a len [(w40.heap.size, (m : Int), x), (w35.heap.size, (m : Int), x), (w33.heap.size, (m : Int), nb), (w31.heap.size, (m : Int), x), (w5.heap.size, rn, rb), (w3.heap.size, rn, rb), (w1.heap.size, (m : Int), x)] [] W41 by rw [← hW41]; exact st40.out.box (m : Int) x 25)
        clear st40
        have p0 := (st41.out.B (w1.heap.size, (m : Int), x) (by simp)).1
        have p1 := (st41.out.B (w1.heap.size, (m : Int), x) (by simp)).2
        have q0 := (st41.out.B (w31.heap.size, (m : Int), x) (by simp)).1
        have q1 := (st41.out.B (w31.heap.size, (m : Int), x) (by simp)).2
        have r0 := (st41.out.B (w35.heap.size, (m : Int), x) (by simp)).1
        have r1 := (st41.out.B (w35.heap.size, (m : Int), x) (by simp)).2
        have t0 := (st41.out.B (w40.heap.size, (m : Int), x) (by simp)).1
        have t1 := (st41.out.B (w40.heap.size, (m : Int), x) (by simp)).2
        go_upto_region 18 with fail
        clear hW41
        clear p0 p1 q0 q1 r0 r1 t0 t1
        exact ff4 hl (st41.out.less (by simp) (by simp)) (by assumption) _ _ _ _ _ _ _ _ _ _ _ _ _ _ _ _ _ _ _ _ _ _ _ _ _ _ _ _ _ _ _ _ _ _ _ _ _ _ _ _ _ _ _ _ _ _ _ _ _ _ _ _ _ _ _ _ _ _ _ _ _ _ _ _ _ _ _ _ _ _ _ _ _ _ _ _ _ _ _ _ _ _ _ _ _ _ _ _ _ _ _ _ _ _ _ _ _ _ _ _ _ _ _ _ _ _ _ _ _ _ _ _ _ _ _ _ _ _ _ _ _ _ _ _ _ _ _ _ _ _ _ _ _ _ _ _ _ _ _ _ _ _ _ _ _ _ _ _ _ _ _ _ _ _ _ _ _ _ _ _ _ _ _ _ _ _ _ _ _ _ _ _ _ _ _ _ _ _ _ _ _ _ _ _ _ _ _ _ _ _ _ _ _ _ _ _ _ _ _ _ _ _ _ _ _ _ _ _ _ _ _ _ _ _ _ _ _ _ _ _ _ _ _ _ _ _ _ _ _ _ _ _ _ _ _ _ _ _ _ _ _ _ _ _ _ _ _ _ _ _ _ _ _ _ _ _ _ _ _ _ _ _ _ _ _ _ _ _ _ _ _ _ _ _ _ _ _ _ _ _ _ _ _ _ _ _ _ _ _ _ _ _ _ _ _ _ _ _ _ _ _ _ _ _ _ _ _ _ _ _ _ _ _ _ _ _ _ _ _ _ _ _ _ _ _ _ _ _ _ _ _ _ _ _ _ _ _ _ _ _ _ _ _ _ _ _ _ _ _ _ _ _ _ _ _ _ _ _ _ _ _ _ _ _ _ _ _ _ _ _ _ _ _ _ _ _ _ _ _ _ _ _ _ _ _ _ _ _ _ _ _ _ _ _ _ _ _ _ _ _ _ _ _ _ _ _ _ _ _ _ _ _ _ _ _ _ _ _ _ _ _ _ _ _ _ _ _ _ _ _ _ _ _
      · have hq : (rc == 0) = false := by simp [hne]
        go_upto_region 18 with fail
        exact ff4 hl (st30.out.less (by simp) (by simp)) (by assumption) _ _ _ _ _ _ _ _ _ _ _ _ _ _ _ _ _ _ _ _ _ _ _ _ _ _ _ _ _ _ _ _ _ _ _ _ _ _ _ _ _ _ _ _ _ _ _ _ _ _ _ _ _ _ _ _ _ _ _ _ _ _ _ _ _ _ _ _ _ _ _ _ _ _ _ _ _ _ _ _ _ _ _ _ _ _ _ _ _ _ _ _ _ _ _ _ _ _ _ _ _ _ _ _ _ _ _ _ _ _ _ _ _ _ _ _ _ _ _ _ _ _ _ _ _ _ _ _ _ _ _ _ _ _ _ _ _ _ _ _ _ _ _ _ _ _ _ _ _ _ _ _ _ _ _ _ _ _ _ _ _ _ _ _ _ _ _ _ _ _ _ _ _ _ _ _ _ _ _ _ _ _ _ _ _ _ _ _ _ _ _ _ _ _ _ _ _ _ _ _ _ _ _ _ _ _ _ _ _ _ _ _ _ _ _ _ _ _ _ _ _ _ _ _ _ _ _ _ _ _ _ _ _ _ _ _ _ _ _ _ _ _ _ _ _ _ _ _ _ _ _ _ _ _ _ _ _ _ _ _ _ _ _ _ _ _ _ _ _ _ _ _ _ _ _ _ _ _ _ _ _ _ _ _ _ _ _ _ _ _ _ _ _ _ _ _ _ _ _ _ _ _ _ _ _ _ _ _ _ _ _ _ _ _ _ _ _ _ _ _ _ _ _ _ _ _ _ _ _ _ _ _ _ _ _ _ _ _ _ _ _ _ _ _ _ _ _ _ _ _ _ _ _ _ _ _ _ _ _ _ _ _ _ _ _ _ _ _ _ _ _ _ _ _ _ _ _ _ _ _ _ _ _ _ _ _ _ _ _ _ _ _ _ _ _ _ _ _ _ _ _ _ _ _ _ _ _ _ _ _ _ _ _ _ _ _ _ _ _ _ _ _ _ _ _ _ _ _ _ _ _ _ _
end Go.Proofs.Ytenbokdcdokhiab
