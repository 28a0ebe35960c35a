/-
  The texts FU3, FFnPuts in one.
-/
import Derived.Test.YtenbokdcdokhiabMPFnPuts9

/- FU3:
  FnPuts: permuted functions have the same weight. -/
namespace Go.Proofs.Ytenbokdcdokhiab
open Go.RowKit
set_option linter.unusedVariables false
set_option linter.unusedSimpArgs false

noncomputable def putsR20 : Go.Code := ((Try.f6.body.bind (regAt 20)).getD .skip)
noncomputable def putsC21 : Go.Code := ((Try.f6.body.bind (fromReg 21)).getD .skip)
set_option maxRecDepth 100000 in
set_option maxHeartbeats 64000000 in
theorem fu3 {a : Option Addr} {len cap : Nat} {w W : World} (hl : len ≤ 1048576) (st : LawSt w a len [] [] W)
    {K1 : Act → World → Prop} (h1 : ∀ aa ww, Code.wp Try.prog putsC21 (bodyPost Try.prog Try.f6 (fun e w' => e = .returned (.bool true) ∧ Below w.heap.size w w')) aa ww → K1 aa ww)
    (u2 u3 u4 u5 u6 u7 u8 u9 u10 u11 u12 u13 u14 u15 u16 u17 u18 u19 u20 u21 u22 u23 u24 u25 u26 u27 u28 u29 u30 u31 u32 u33 u34 u35 u36 u37 u38 u39 u40 u41 u42 u43 u44 u45 u46 u47 u48 u49 u50 u51 u52 u53 u54 u55 u56 u57 u58 u59 u60 u61 u62 u63 u64 u65 u66 u67 u68 u69 u70 u71 u72 u73 u74 u75 u76 u77 u78 u79 u80 u81 u82 u83 u84 u85 u86 u87 u88 u89 u90 u91 u92 u93 u94 u95 u96 u97 u98 u99 u100 u101 u102 u103 u104 u105 u106 u107 u108 u109 u110 u111 u112 u113 u114 u115 u116 u117 u118 u119 u120 u121 u122 u123 u124 u125 u126 u127 u128 u129 u130 u131 u132 u133 u134 u135 u136 u137 u138 u139 u140 u141 u142 u143 u144 u145 u146 u147 u148 u149 u150 u151 u152 u153 u154 u155 u156 u157 u158 u159 u160 u161 u162 u163 u164 u165 u166 u167 u168 u169 u170 u171 u172 u173 u174 u175 u176 u177 u178 u179 u180 u181 u182 u183 u184 u185 u186 u187 u188 u189 u190 u191 u192 u193 u194 u195 u196 u197 u198 u199 u200 u201 u202 u203 u204 u205 u206 u207 u208 u209 u210 u211 u212 u213 u214 u215 u216 u217 u218 u219 u220 u221 u222 u223 u224 u225 u226 u227 u228 u229 u230 u231 u232 u233 u234 u235 u236 u237 u238 u239 u240 u241 u242 u243 u244 u245 u246 u247 u248 u249 u250 u251 u252 u253 u254 u255 u256 u257 u258 u259 u260 u261 u262 u263 u264 u265 u266 u267 u268 u269 u270 u271 u272 u273 u274 u275 u276 u277 u278 u279 u280 u281 u282 u283 u284 u285 u286 u287 u288 u289 u290 u291 u292 u293 u294 u295 u296 u297 u298 u299 u300 u301 u302 u303 u304 u305 u306 u307 u308 u309 u310 u311 u312 u313 u314 u315 u316 u317 u318 u319 u320 u321 u322 u323 u324 u325 u326 u327 u328 u329 u330 u331 u332 u333 u334 u335 u336 u337 u338 u339 u340 u341 u342 u343 u344 u345 u346 u347 u348 u349 u350 u351 u352 u353 u354 u355 u356 u357 u358 u359 u360 u361 u362 u363 u364 u365 u366 u367 u368 u369 u370 u371 u372 u373 u374 u375 u376 u377 u378 u379 u380 : Value) :
    Code.wp Try.prog putsR20 (Exit.then K1 (bodyPost Try.prog Try.f6 (fun e w' => e = .returned (.bool true) ∧ Below w.heap.size w w'))) ⟨#[.slice a len cap, undef, u2, u3, u4, u5, u6, u7, u8, u9, u10, u11, u12, u13, u14, u15, u16, u17, u18, u19, u20, u21, u22, u23, u24, u25, u26, u27, u28, u29, u30, u31, u32, u33, u34, u35, u36, u37, u38, u39, u40, u41, u42, u43, u44, u45, u46, u47, u48, u49, u50, u51, u52, u53, u54, u55, u56, u57, u58, u59, u60, u61, u62, u63, u64, u65, u66, u67, u68, u69, u70, u71, u72, u73, u74, u75, u76, u77, u78, u79, u80, u81, u82, u83, u84, u85, u86, u87, u88, u89, u90, u91, u92, u93, u94, u95, u96, u97, u98, u99, u100, u101, u102, u103, u104, u105, u106, u107, u108, u109, u110, u111, u112, u113, u114, u115, u116, u117, u118, u119, u120, u121, u122, u123, u124, u125, u126, u127, u128, u129, u130, u131, u132, u133, u134, u135, u136, u137, u138, u139, u140, u141, u142, u143, u144, u145, u146, u147, u148, u149, u150, u151, u152, u153, u154, u155, u156, u157, u158, u159, u160, u161, u162, u163, u164, u165, u166, u167, u168, u169, u170, u171, u172, u173, u174, u175, u176, u177, u178, u179, u180, u181, u182, u183, u184, u185, u186, u187, u188, u189, u190, u191, u192, u193, u194, u195, u196, u197, u198, u199, u200, u201, u202, u203, u204, u205, u206, u207, u208, u209, u210, u211, u212, u213, u214, u215, u216, u217, u218, u219, u220, u221, u222, u223, u224, u225, u226, u227, u228, u229, u230, u231, u232, u233, u234, u235, u236, u237, u238, u239, u240, u241, u242, u243, u244, u245, u246, u247, u248, u249, u250, u251, u252, u253, u254, u255, u256, u257, u258, u259, u260, u261, u262, u263, u264, u265, u266, u267, u268, u269, u270, u271, u272, u273, u274, u275, u276, u277, u278, u279, u280, u281, u282, u283, u284, u285, u286, u287, u288, u289, u290, u291, u292, u293, u294, u295, u296, u297, u298, u299, u300, u301, u302, u303, u304, u305, u306, u307, u308, u309, u310, u311, u312, u313, u314, u315, u316, u317, u318, u319, u320, u321, u322, u323, u324, u325, u326, u327, u328, u329, u330, u331, u332, u333, u334, u335, u336, u337, u338, u339, u340, u341, u342, u343, u344, u345, u346, u347, u348, u349, u350, u351, u352, u353, u354, u355, u356, u357, u358, u359, u360, u361, u362, u363, u364, u365, u366, u367, u368, u369, u370, u371, u372, u373, u374, u375, u376, u377, u378, u379, u380], []⟩ W := by
  conv => arg 2; whnf
  dsimp only
  conv at h1 => enter [aa, ww, 1, 2]; whnf
  have st0 := Lib.hid st
  clear st
  have DR := Lib.hid (drawPermuteFunc_ok (cap := cap) hl W st0.out.C)
  go_wp2_with fail
  refine DR.out.mono ?_
  rintro e w1 ⟨n, x, ys1, t1, rfl, hnx, hyl, ho1, hb1⟩
  have st1 := Lib.hid ((st0.out.below hb1).list ho1)
  clear hb1 DR st0 ho1
  obtain ⟨W2, hW2⟩ : ∃ W2, w1.alloc (.cells #[.int .i64 n, .int .i64 x] 25) = W2 := ⟨_, rfl⟩
  have st2 := Lib.hid (show LawSt w a len [(w1.heap.size, n, x)] [(W.heap.size, t1, ys1)] W2 by rw [← hW2]; exact st1.out.box n x 25)
  clear st1
  obtain ⟨rn, rb, rc, s2, s1', hc⟩ := permF (xs := ys1) (by omega) n x
  have HS1 := Lib.hid s1'
  have HS2 := Lib.hid s2
  have HC := Lib.hid hc
  clear s1' s2 hnx hc
  have p0 := (st2.out.B (w1.heap.size, n, x) (by simp)).1
  have p1 := (st2.out.B (w1.heap.size, n, x) (by simp)).2
  go_wp2_with fail
  clear hW2
  refine (HS1.out _ _ _ (st2.out.O (W.heap.size, t1, ys1) (by simp))).mono ?_
  rintro e w3 ⟨rfl, hb3⟩
  have st3 := Lib.hid (st2.out.below hb3)
  clear hb3 st2 HS1
  clear p0 p1
  obtain ⟨W4, hW4⟩ : ∃ W4, w3.alloc (.cells #[.int .i64 rn, .int .i64 rb] 25) = W4 := ⟨_, rfl⟩
  have st4 := Lib.hid (show LawSt w a len [(w3.heap.size, rn, rb), (w1.heap.size, n, x)] [(W.heap.size, t1, ys1)] W4 by rw [← hW4]; exact st3.out.box rn rb 25)
  clear st3
  have p0 := (st4.out.B (w1.heap.size, n, x) (by simp)).1
  have p1 := (st4.out.B (w1.heap.size, n, x) (by simp)).2
  go_wp2_with fail
  clear hW4
  refine (HS2.out _ _ _ (st4.out.O (W.heap.size, t1, ys1) (by simp))).mono ?_
  rintro e w5 ⟨rfl, hb5⟩
  have st5 := Lib.hid (st4.out.below hb5)
  clear hb5 st4 HS2
  clear p0 p1
  obtain ⟨W6, hW6⟩ : ∃ W6, w5.alloc (.cells #[.int .i64 rn, .int .i64 rb] 25) = W6 := ⟨_, rfl⟩
  have st6 := Lib.hid (show LawSt w a len [(w5.heap.size, rn, rb), (w3.heap.size, rn, rb), (w1.heap.size, n, x)] [(W.heap.size, t1, ys1)] W6 by rw [← hW6]; exact st5.out.box rn rb 25)
  clear st5
  have q0 := (st6.out.B (w3.heap.size, rn, rb) (by simp)).1
  have q1 := (st6.out.B (w3.heap.size, rn, rb) (by simp)).2
  have r0 := (st6.out.B (w5.heap.size, rn, rb) (by simp)).1
  have r1 := (st6.out.B (w5.heap.size, rn, rb) (by simp)).2
  rcases HC.out with ⟨rfl, A1, w1', w2'⟩ | hne
  · have HA := Lib.hid w1'
    have HB := Lib.hid w2'
    clear w1' w2' HC
    have p0 := (st6.out.B (w1.heap.size, n, x) (by simp)).1
    have p1 := (st6.out.B (w1.heap.size, n, x) (by simp)).2
    go_wp2_with fail
    clear hW6
    refine (HA.out _).mono ?_
    rintro e w7 ⟨rfl, hb7⟩
    have st7 := Lib.hid (st6.out.below hb7)
    clear hb7 st6 HA
    clear q0 q1 r0 r1 p0 p1
    have q0 := (st7.out.B (w3.heap.size, rn, rb) (by simp)).1
    have q1 := (st7.out.B (w3.heap.size, rn, rb) (by simp)).2
    go_wp2_with fail
    refine (HB.out _).mono ?_
    rintro e w8 ⟨rfl, hb8⟩
    have st8 := Lib.hid (st7.out.below hb8)
    clear hb8 st7 HB
    clear q0 q1
    go_upto_region 30 with fail
    exact fu2 hl (st8.out.less (by simp) (by simp)) (by assumption) _ _ _ _ _ _ _ _ _ _ _ _ _ _ _ _ _ _ _ _ _ _ _ _ _ _ _ _ _ _ _ _ _ _ _ _ _ _ _ _ _ _ _ _ _ _ _ _ _ _ _ _ _ _ _ _ _ _ _ _ _ _ _ _ _ _ _ _ _ _ _ _ _ _ _ _ _ _ _ _ _ _ _ _ _ _ _ _ _ _ _ _ _ _ _ _ _ _ _ _ _ _ _ _ _ _ _ _ _ _ _ _ _ _ _ _ _ _ _ _ _ _ _ _ _ _ _ _ _ _ _ _ _ _ _ _ _ _ _ _ _ _ _ _ _ _ _ _ _ _ _ _ _ _ _ _ _ _ _ _ _ _ _ _ _ _ _ _ _ _ _ _ _ _ _ _ _ _ _ _ _ _ _ _ _ _ _ _ _ _ _ _ _ _ _ _ _ _ _ _ _ _ _ _ _ _ _ _ _ _ _ _ _ _ _ _ _ _ _ _ _ _ _ _ _ _ _ _ _ _ _ _ _ _ _ _ _ _ _ _ _ _ _ _ _ _ _ _ _ _ _ _ _ _ _ _ _ _ _ _ _ _ _ _ _ _ _ _ _ _ _ _ _ _ _ _ _ _ _ _ _ _ _ _ _ _ _ _ _ _ _ _ _ _ _ _ _ _ _ _ _ _ _ _ _ _ _ _ _ _ _ _ _ _ _ _ _ _ _ _ _ _ _ _ _ _ _ _ _ _ _ _ _ _ _ _ _ _ _ _ _ _ _ _ _ _ _ _ _ _ _ _ _ _ _ _ _ _ _ _ _ _ _ _ _ _ _ _ _ _ _ _ _ _ _ _ _ _ _
  · have hq : (rc == 0) = false := by simp [hne]
    go_upto_region 30 with fail
    clear hW6
    clear q0 q1 r0 r1
    exact fu2 hl (st6.out.less (by simp) (by simp)) (by assumption) _ _ _ _ _ _ _ _ _ _ _ _ _ _ _ _ _ _ _ _ _ _ _ _ _ _ _ _ _ _ _ _ _ _ _ _ _ _ _ _ _ _ _ _ _ _ _ _ _ _ _ _ _ _ _ _ _ _ _ _ _ _ _ _ _ _ _ _ _ _ _ _ _ _ _ _ _ _ _ _ _ _ _ _ _ _ _ _ _ _ _ _ _ _ _ _ _ _ _ _ _ _ _ _ _ _ _ _ _ _ _ _ _ _ _ _ _ _ _ _ _ _ _ _ _ _ _ _ _ _ _ _ _ _ _ _ _ _ _ _ _ _ _ _ _ _ _ _ _ _ _ _ _ _ _ _ _ _ _ _ _ _ _ _ _ _ _ _ _ _ _ _ _ _ _ _ _ _ _ _ _ _ _ _ _ _ _ _ _ _ _ _ _ _ _ _ _ _ _ _ _ _ _ _ _ _ _ _ _ _ _ _ _ _ _ _ _ _ _ _ _ _ _ _ _ _ _ _ _ _ _ _ _ _ _ _ _ _ _ _ _ _ _ _ _ _ _ _ _ _ _ _ _ _ _ _ _ _ _ _ _ _ _ _ _ _ _ _ _ _ _ _ _ _ _ _ _ _ _ _ _ _ _ _ _ _ _ _ _ _ _ _ _ _ _ _ _ _ _ _ _ _ _ _ _ _ _ _ _ _ _ _ _ _ _ _ _ _ _ _ _ _ _ _ _ _ _ _ _ _ _ _ _ _ _ _ _ _ _ _ _ _ _ _ _ _ _ _ _ _ _ _ _ _ _ _ _ _ _ _ _ _ _ _ _ _ _ _ _ _ _ _ _ _ _ _ _ _ _
end Go.Proofs.Ytenbokdcdokhiab

/- FFnPuts:
  The walk of FnPuts. -/
namespace Go.Proofs.Ytenbokdcdokhiab
open Go.RowKit
set_option linter.unusedVariables false
set_option linter.unusedSimpArgs false

set_option maxRecDepth 100000 in
set_option maxHeartbeats 64000000 in
theorem fnPuts_walk {a : Option Addr} {len cap : Nat} (w : World) (C : Code w a len) :
    Calls Try.prog 6 #[.slice a len cap] w fun e w' => e = .returned (.bool true) ∧ Below w.heap.size w w' := by
  by_cases hbig : 4096 < len
  · have hq : decide (4096 < len) = true := by simpa using hbig
    go_enter Try.func6, Try.ntmps6
    go_wp2_with (go_at_call 9; refine (big_ok _).mono ?_; rintro e w' ⟨rfl, rfl⟩)
    go_ret
    exact ⟨rfl, Below.refl _ _⟩
  · have hq : decide (4096 < len) = false := by simpa using hbig
    have hl : len ≤ 1048576 := by omega
    obtain ⟨i0, hi, hz0, hz1, hz2⟩ := info_parts infoF
    have st0 := Lib.hid (LawSt.start C)
    have DR := Lib.hid (drawPutFuncs_ok (cap := cap) hl w C)
    clear C
    go_enter Try.func6, Try.ntmps6
    go_wp2_with (go_at_call 9; refine (big_ok _).mono ?_; rintro e w' ⟨rfl, rfl⟩)
    refine DR.out.mono ?_
    rintro e w1 ⟨n, x, xs, sv, rfl, hnx, hxl, ho1, hb1⟩
    have st1 := Lib.hid (st0.out.below hb1)
    have OF := Lib.hid ho1
    clear hb1 ho1 DR st0 hnx
    obtain ⟨W2, hW2⟩ : ∃ W2, w1.alloc (.cells #[.int .i64 n, .int .i64 x] 25) = W2 := ⟨_, rfl⟩
    have st2 := Lib.hid (show LawSt w a len [(w1.heap.size, n, x)] [] W2 by rw [← hW2]; exact st1.out.box n x 25)
    clear st1
    replace OF := Lib.hid (show OwnsF W2 w.heap.size sv xs by rw [← hW2]; exact OF.out.below (bnew _ _))
    obtain ⟨rn, rb, rc, s2, s1', hc⟩ := putF (xs := xs) (by omega) n x
    have HS1 := Lib.hid s1'
    have HS2 := Lib.hid s2
    have HC := Lib.hid hc
    clear s1' s2 hc
    have p0 := (st2.out.B (w1.heap.size, n, x) (by simp)).1
    have p1 := (st2.out.B (w1.heap.size, n, x) (by simp)).2
    go_wp2_with fail
    clear hW2
    refine (HS1.out _ _ _ OF.out).mono ?_
    rintro e w3 ⟨rfl, hb3⟩
    have st3 := Lib.hid (st2.out.below hb3)
    replace OF := Lib.hid (OF.out.below hb3)
    clear hb3 st2 HS1
    clear p0 p1
    obtain ⟨W4, hW4⟩ : ∃ W4, w3.alloc (.cells #[.int .i64 rn, .int .i64 rb] 25) = W4 := ⟨_, rfl⟩
    have st4 := Lib.hid (show LawSt w a len [(w3.heap.size, rn, rb), (w1.heap.size, n, x)] [] W4 by rw [← hW4]; exact st3.out.box rn rb 25)
    clear st3
    replace OF := Lib.hid (show OwnsF W4 w.heap.size sv xs by rw [← hW4]; exact OF.out.below (bnew _ _))
    have p0 := (st4.out.B (w1.heap.size, n, x) (by simp)).1
    have p1 := (st4.out.B (w1.heap.size, n, x) (by simp)).2
    go_wp2_with fail
    clear hW4
    refine (HS2.out _ _ _ OF.out).mono ?_
    rintro e w5 ⟨rfl, hb5⟩
    have st5 := Lib.hid (st4.out.below hb5)
    replace OF := Lib.hid (OF.out.below hb5)
    clear hb5 st4 HS2
    clear p0 p1
    obtain ⟨W6, hW6⟩ : ∃ W6, w5.alloc (.cells #[.int .i64 rn, .int .i64 rb] 25) = W6 := ⟨_, rfl⟩
    have st6 := Lib.hid (show LawSt w a len [(w5.heap.size, rn, rb), (w3.heap.size, rn, rb), (w1.heap.size, n, x)] [] W6 by rw [← hW6]; exact st5.out.box rn rb 25)
    clear st5
    clear OF
    have q0 := (st6.out.B (w3.heap.size, rn, rb) (by simp)).1
    have q1 := (st6.out.B (w3.heap.size, rn, rb) (by simp)).2
    have r0 := (st6.out.B (w5.heap.size, rn, rb) (by simp)).1
    have r1 := (st6.out.B (w5.heap.size, rn, rb) (by simp)).2
    rcases HC.out with ⟨rfl, m, y, R, rfl, rfl, ok, m1, m4⟩ | hne
    · have OK := Lib.hid ok
      clear ok HC
      have p0 := (st6.out.B (w1.heap.size, (m : Int), (y : Int)) (by simp)).1
      have p1 := (st6.out.B (w1.heap.size, (m : Int), (y : Int)) (by simp)).2
      obtain ⟨W8, hW8⟩ : ∃ W8, W6.alloc (.cells #[] 25) = W8 := ⟨_, rfl⟩
      have hb8 : Below W6.heap.size W6 W8 := by rw [← hW8]; exact bnew _ _
      have OP := Lib.hid (show OwnsF W8 W6.heap.size (.slice (some ⟨W6.heap.size, 0, none⟩) 0 0) (projL (m : Int) R 0) by rw [← hW8]; exact World.ownsRow_lit W6 #[] 0 (Nat.le_refl _) (by decide) rfl)
      have hz8 : W6.heap.size ≤ W8.heap.size := hb8.size
      have HB8 := Lib.hid hb8
      have hbl : w1.heap.size < W6.heap.size := cell_lt p0
      have P0 := Lib.hid (kc hb8 p0)
      have P1 := Lib.hid (kc hb8 p1)
      clear hb8
      go_wp2_with fail
      clear hW6
      clear q0 q1 r0 r1 p0 p1
      clear hW8
      go_loopw [9, 10] (fun s i wr => ∃ k : Nat, k ≤ m ∧ i = .int .i64 k ∧ Hid (OwnsF wr W6.heap.size s (projL (m : Int) R k)) ∧ Below W6.heap.size W8 wr) (fun _ i _ => m - (intOf i).toNat)
      case atStart => exact ⟨0, Nat.zero_le _, rfl, OP, Below.refl _ _⟩
      case round =>
        clear OP
        obtain ⟨k, hk, rfl, O, hN⟩ := hrel
        have p0 := (hN.cell (p := ⟨w1.heap.size, 0, none⟩) hbl).trans P0.out
        have p1 := (hN.cell (p := ⟨w1.heap.size, 1, none⟩) hbl).trans P1.out
        have hzr : W6.heap.size ≤ wr.heap.size := Nat.le_trans hz8 hN.size
        by_cases hlt : k < m
        · have PF := Lib.hid (fun w => projF OK.out k hlt w)
          have HN := Lib.hid hN
          clear hN
          go_wp2_with fail
          refine (PF.out _).mono ?_
          rintro e w9 ⟨rfl, hb9⟩
          have O9 := O.out.below hb9
          have hz9 : W6.heap.size ≤ w9.heap.size := Nat.le_trans hzr hb9.size
          have N9 := HN.out.trans (hb9.mono hzr)
          obtain ⟨Wp, hWp⟩ : ∃ Wp, w9.alloc (.cells #[.int .i64 (m : Int), .int .i64 (sumN (fun r => bitN r k) R : Int)] 25) = Wp := ⟨_, rfl⟩
          have hbp : Below w9.heap.size w9 Wp := by rw [← hWp]; exact bnew _ _
          have q0 : Wp.cell? ⟨w9.heap.size, 0, none⟩ = some (.int .i64 (m : Int)) := by rw [← hWp]; simp [go_sem]
          have q1 : Wp.cell? ⟨w9.heap.size, 1, none⟩ = some (.int .i64 (sumN (fun r => bitN r k) R : Int)) := by rw [← hWp]; simp [go_sem]
          have hzp : W6.heap.size ≤ Wp.heap.size := Nat.le_trans hz9 hbp.size
          have NP := Lib.hid (N9.trans (hbp.mono hz9))
          have hown5 := O9.below hbp
          unfold OwnsF at hown5
          rw [projL_len] at hown5
          have PS := Lib.hid (projL_succ (m : Int) R k)
          clear hb9 PF O O9 HN N9 hbp p0 p1
          generalize (sumN (fun r => bitN r k) R : Int) = z at *
          go_wp2_with (at_builtin; refine wpList_append_own _ rfl _ _ 52 rfl W6.heap.size 25 i0 (.agg #[.int .i64 0, .int .i64 0]) 2 16 Try.underlying52 hi hz0 hz1 hz2 rfl (by decide) _ _ _ rfl (hown5.alloc _) ⟨Wp.heap.size, 0, none⟩ 1 1 [.int .i64 (m : Int), .int .i64 z] rfl rfl (cell_two_new _ _ _ _) (one_cell_two _ _) (by unfold maxLen; omega) (by omega) (by simp; omega) ?_)
          intro v' w10 hown' hgrow _
          have N10 := Lib.hid ((NP.out.alloc hzp (.cells #[.int .i64 (m : Int), .int .i64 z] 25)).grown hgrow (by simp; omega) (fun j e => (hown5.lt j e).1))
          have O10 := Lib.hid (show OwnsF w10 W6.heap.size v' (projL (m : Int) R (k + 1)) by
            rw [PS.out]
            apply OwnsF.snoc
            rw [projL_len]
            exact hown')
          clear hgrow hown5 hown' NP q0 q1 hWp PS
          go_wp2
          go_roundw
          case rel => exact ⟨k + 1, by omega, by go_num, O10, N10.out⟩
          case measure => simp [intOf]; omega
        · obtain rfl : m = k := by omega
          have BP := Lib.hid (backP OK.out m1 m4 wr O.out)
          have ST := Lib.hid (st6.out.below (HB8.out.trans hN))
          obtain ⟨ap, cp, hsp⟩ := O.out.form
          rw [projL_len] at hsp
          subst hsp
          clear hN O st6 HB8 P0 P1
          go_wp2_with fail
          refine (BP.out).mono ?_
          rintro e w41 ⟨rfl, hb41⟩
          have st41 := Lib.hid (ST.out.below hb41)
          clear hb41 ST BP
          obtain ⟨W42, hW42⟩ : ∃ W42, w41.alloc (.cells #[.int .i64 (m : Int), .int .i64 (y : Int)] 25) = W42 := ⟨_, rfl⟩
          have st42 := Lib.hid (show LawSt w a len [(w41.heap.size, (m : Int), (y : Int)), (w5.heap.size, rn, rb), (w3.heap.size, rn, rb), (w1.heap.size, (m : Int), (y : Int))] [] W42 by rw [← hW42]; exact st41.out.box (m : Int) (y : Int) 25)
          clear st41
          have q0 := (st42.out.B (w41.heap.size, (m : Int), (y : Int)) (by simp)).1
          have q1 := (st42.out.B (w41.heap.size, (m : Int), (y : Int)) (by simp)).2
          have p0 := (st42.out.B (w1.heap.size, (m : Int), (y : Int)) (by simp)).1
          have p1 := (st42.out.B (w1.heap.size, (m : Int), (y : Int)) (by simp)).2
          go_upto_region 20 with fail
          clear hW42
          clear q0 q1 p0 p1
          exact fu3 hl (st42.out.less (by simp) (by simp)) (by assumption) _ _ _ _ _ _ _ _ _ _ _ _ _ _ _ _ _ _ _ _ _ _ _ _ _ _ _ _ _ _ _ _ _ _ _ _ _ _ _ _ _ _ _ _ _ _ _ _ _ _ _ _ _ _ _ _ _ _ _ _ _ _ _ _ _ _ _ _ _ _ _ _ _ _ _ _ _ _ _ _ _ _ _ _ _ _ _ _ _ _ _ _ _ _ _ _ _ _ _ _ _ _ _ _ _ _ _ _ _ _ _ _ _ _ _ _ _ _ _ _ _ _ _ _ _ _ _ _ _ _ _ _ _ _ _ _ _ _ _ _ _ _ _ _ _ _ _ _ _ _ _ _ _ _ _ _ _ _ _ _ _ _ _ _ _ _ _ _ _ _ _ _ _ _ _ _ _ _ _ _ _ _ _ _ _ _ _ _ _ _ _ _ _ _ _ _ _ _ _ _ _ _ _ _ _ _ _ _ _ _ _ _ _ _ _ _ _ _ _ _ _ _ _ _ _ _ _ _ _ _ _ _ _ _ _ _ _ _ _ _ _ _ _ _ _ _ _ _ _ _ _ _ _ _ _ _ _ _ _ _ _ _ _ _ _ _ _ _ _ _ _ _ _ _ _ _ _ _ _ _ _ _ _ _ _ _ _ _ _ _ _ _ _ _ _ _ _ _ _ _ _ _ _ _ _ _ _ _ _ _ _ _ _ _ _ _ _ _ _ _ _ _ _ _ _ _ _ _ _ _ _ _ _ _ _ _ _ _ _ _ _ _ _ _ _ _ _ _ _ _ _ _ _ _ _ _ _ _ _ _ _ _ _ _ _ _ _ _ _ _ _ _ _ _ _ _ _ _ _
    · have hq : (rc == 0) = false := by simp [hne]
      go_upto_region 20 with fail
      clear hW6
      clear q0 q1 r0 r1
      exact fu3 hl (st6.out.less (by simp) (by simp)) (by assumption) _ _ _ _ _ _ _ _ _ _ _ _ _ _ _ _ _ _ _ _ _ _ _ _ _ _ _ _ _ _ _ _ _ _ _ _ _ _ _ _ _ _ _ _ _ _ _ _ _ _ _ _ _ _ _ _ _ _ _ _ _ _ _ _ _ _ _ _ _ _ _ _ _ _ _ _ _ _ _ _ _ _ _ _ _ _ _ _ _ _ _ _ _ _ _ _ _ _ _ _ _ _ _ _ _ _ _ _ _ _ _ _ _ _ _ _ _ _ _ _ _ _ _ _ _ _ _ _ _ _ _ _ _ _ _ _ _ _ _ _ _ _ _ _ _ _ _ _ _ _ _ _ _ _ _ _ _ _ _ _ _ _ _ _ _ _ _ _ _ _ _ _ _ _ _ _ _ _ _ _ _ _ _ _ _ _ _ _ _ _ _ _ _ _ _ _ _ _ _ _ _ _ _ _ _ _ _ _ _ _ _ _ _ _ _ _ _ _ _ _ _ _ _ _ _ _ _ _ _ _ _ _ _ _ _ _ _ _ _ _ _ _ _ _ _ _ _ _ _ _ _ _ _ _ _ _ _ _ _ _ _ _ _ _ _ _ _ _ _ _ _ _ _ _ _ _ _ _ _ _ _ _ _ _ _ _ _ _ _ _ _ _ _ _ _ _ _ _ _ _ _ _ _ _ _ _ _ _ _ _ _ _ _ _ _ _ _ _ _ _ _ _ _ _ _ _ _ _ _ _ _ _ _ _ _ _ _ _ _ _ _ _ _ _ _ _ _ _ _ _ _ _ _ _ _ _ _ _ _ _ _ _ _ _ _ _ _ _ _ _ _ _ _ _ _ _ _ _ _
end Go.Proofs.Ytenbokdcdokhiab
