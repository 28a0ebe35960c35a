/-
  The texts FS2d, FS2c, FS2b, FS2a, FS1, FFnSpectrum in one.
-/
import Derived.Test.YtenbokdcdokhiabMFSB8
import Derived.Deep.DeepCutAuto

/- FS2d:
  FnSpectrum: bent functions have no correlation elsewhere. -/
namespace Go.Proofs.Ytenbokdcdokhiab
open Go.RowKit
set_option linter.unusedVariables false
set_option linter.unusedSimpArgs false

/-- The code behind the region k, in its sequence. -/
def afterReg (k : Nat) : Go.Code → Option Go.Code
  | .seq a b => match a with
    | .region n _ _ => match Nat.beq n k with
      | true => some b
      | false => afterReg k b
    | _ => match afterReg k a with
      | some c => some c
      | none => afterReg k b
  | .cond _ a b => match afterReg k a with
    | some c => some c
    | none => afterReg k b
  | .loop c => afterReg k c
  | .block _ c => afterReg k c
  | .scope c => afterReg k c
  | _ => none
noncomputable def spcR35 : Go.Code := ((Try.f4.body.bind (regAt 35)).getD .skip)
noncomputable def spcC36 : Go.Code := ((Try.f4.body.bind (afterReg 35)).getD .skip)
set_option maxRecDepth 100000 in
set_option maxHeartbeats 64000000 in
theorem fs2d {a : Option Addr} {len cap : Nat} {w W : World} {m x R g6 q6 : Nat} {rb : Bool} (ok : FOk (m : Int) x R) (hrb : rb = (mostS (spV x R) R == leastS (spV x R) R R)) (hg6 : g6 < W.heap.size) (hc6 : Hid (∀ j, j < R → W.cell? ⟨g6, j, none⟩ = some (.int .i64 (corS (bitN x) j R))))
    (st : LawSt w a len [] [] W) {K : Act → World → Prop} {Q : Exit → Act → World → Prop} (hK : Hid (∀ (v2 v3 v4 v5 v6 v7 v8 v9 v10 v11 v12 v13 v14 v15 v16 v17 v18 v19 v20 v21 v22 v23 v24 v25 v26 v27 v28 v29 v30 v31 v32 v33 v34 v35 v36 v37 v38 v39 v40 v41 v42 v43 v44 v45 v46 v47 v48 v49 v50 v51 v52 v53 v54 v55 v56 v57 v58 v59 v60 v61 v62 v63 v64 v65 v66 v67 v68 v69 v70 v71 v72 v73 v74 v75 v76 v77 v78 v79 v80 v81 v82 v83 v84 v85 v86 v87 v88 v89 v90 v91 v92 v93 v94 v95 v96 v97 v98 v99 v100 v101 v102 v103 v104 v105 v106 v107 v108 v109 v110 v111 v112 v113 v114 v115 v116 v117 v118 v119 v120 v121 v122 v123 v124 v125 v126 v127 v128 v129 v130 v131 v132 v133 v134 v135 v136 v137 v138 v139 v140 v141 v142 v143 v144 v145 v146 v147 v148 v149 v150 v151 v152 v153 v154 v155 v156 v157 v158 v159 v160 v161 v162 v163 v164 v165 v166 v167 v168 v169 v170 v171 v172 v173 v174 v175 v176 v177 v178 v179 v180 v181 v182 v183 v184 v185 v186 v187 v188 v189 v190 v191 v192 v193 v194 v195 v196 v197 v198 v199 v200 v201 v202 v203 v204 v205 v206 v207 v208 v209 v210 v211 v212 v213 v214 v215 v216 v217 v218 v219 v220 v221 v222 v223 v224 v225 v226 v227 v228 v229 v230 v231 v232 v233 v234 v235 v236 v237 v238 v239 v240 v241 v242 v243 v244 v245 v246 v247 v248 v249 v250 v251 v252 v253 v254 v255 v256 v257 v258 v259 v260 v261 v262 v263 v264 v265 v266 v267 v268 v269 v270 v271 v272 v273 v274 v275 v276 v277 v278 v279 v280 v281 v282 v283 v284 v285 v286 v287 v288 v289 v290 v291 v292 v293 v294 v295 v296 v297 v298 v299 v300 v301 v302 v303 v304 v305 v306 v307 v308 v309 v310 v311 v312 v313 v314 v315 v316 v317 v318 v319 v320 v321 v322 v323 v324 v325 v326 v327 v328 v329 v330 v331 v332 v333 v334 v335 v336 v337 v338 v339 v340 v341 v342 v343 v344 v345 v346 v347 v348 v349 v350 v351 v352 v353 v354 v355 v356 v357 v358 v359 v360 v361 v362 v363 v364 v365 v366 v367 v368 v369 v370 v371 v372 v373 v374 v375 v376 v377 v378 v379 v380 v381 v382 v383 v384 v385 v386 : Value) (wx : World), LawSt w a len [] [] wx → K ⟨#[.slice a len cap, undef, v2, v3, v4, v5, v6, v7, v8, v9, v10, v11, v12, v13, v14, v15, v16, v17, v18, v19, v20, v21, v22, v23, v24, v25, v26, v27, v28, v29, v30, v31, v32, v33, v34, v35, v36, v37, v38, v39, v40, v41, v42, v43, v44, v45, v46, v47, v48, v49, v50, v51, v52, v53, v54, v55, v56, v57, v58, v59, v60, v61, v62, v63, v64, v65, v66, v67, v68, v69, v70, v71, v72, v73, v74, v75, v76, v77, v78, v79, v80, v81, v82, v83, v84, v85, v86, v87, v88, v89, v90, v91, v92, v93, v94, v95, v96, v97, v98, v99, v100, v101, v102, v103, v104, v105, v106, v107, v108, v109, v110, v111, v112, v113, v114, v115, v116, v117, v118, v119, v120, v121, v122, v123, v124, v125, v126, v127, v128, v129, v130, v131, v132, v133, v134, v135, v136, v137, v138, v139, v140, v141, v142, v143, v144, v145, v146, v147, v148, v149, v150, v151, v152, v153, v154, v155, v156, v157, v158, v159, v160, v161, v162, v163, v164, v165, v166, v167, v168, v169, v170, v171, v172, v173, v174, v175, v176, v177, v178, v179, v180, v181, v182, v183, v184, v185, v186, v187, v188, v189, v190, v191, v192, v193, v194, v195, v196, v197, v198, v199, v200, v201, v202, v203, v204, v205, v206, v207, v208, v209, v210, v211, v212, v213, v214, v215, v216, v217, v218, v219, v220, v221, v222, v223, v224, v225, v226, v227, v228, v229, v230, v231, v232, v233, v234, v235, v236, v237, v238, v239, v240, v241, v242, v243, v244, v245, v246, v247, v248, v249, v250, v251, v252, v253, v254, v255, v256, v257, v258, v259, v260, v261, v262, v263, v264, v265, v266, v267, v268, v269, v270, v271, v272, v273, v274, v275, v276, v277, v278, v279, v280, v281, v282, v283, v284, v285, v286, v287, v288, v289, v290, v291, v292, v293, v294, v295, v296, v297, v298, v299, v300, v301, v302, v303, v304, v305, v306, v307, v308, v309, v310, v311, v312, v313, v314, v315, v316, v317, v318, v319, v320, v321, v322, v323, v324, v325, v326, v327, v328, v329, v330, v331, v332, v333, v334, v335, v336, v337, v338, v339, v340, v341, v342, v343, v344, v345, v346, v347, v348, v349, v350, v351, v352, v353, v354, v355, v356, v357, v358, v359, v360, v361, v362, v363, v364, v365, v366, v367, v368, v369, v370, v371, v372, v373, v374, v375, v376, v377, v378, v379, v380, v381, v382, v383, v384, v385, v386], []⟩ wx))
    {K1 : Act → World → Prop} (h1 : ∀ aa ww, Code.wp Try.prog spcC36 (Exit.then K Q) aa ww → K1 aa ww)
    (u2 u3 u5 u6 u7 u8 u9 u10 u11 u12 u13 u14 u15 u17 u18 u19 u20 u21 u22 u23 u24 u25 u26 u27 u28 u29 u30 u31 u32 u33 u34 u35 u36 u37 u38 u39 u40 u41 u42 u43 u44 u45 u46 u47 u48 u49 u50 u51 u52 u53 u54 u55 u56 u57 u58 u59 u60 u61 u62 u63 u64 u65 u66 u67 u68 u69 u70 u71 u72 u73 u74 u75 u76 u77 u78 u79 u80 u81 u82 u83 u84 u85 u86 u87 u88 u89 u90 u91 u92 u93 u94 u95 u96 u97 u98 u99 u100 u101 u102 u103 u104 u105 u106 u107 u108 u109 u110 u111 u112 u113 u114 u115 u116 u117 u118 u119 u120 u121 u122 u123 u124 u125 u126 u127 u128 u129 u130 u131 u132 u133 u134 u135 u136 u137 u138 u139 u140 u141 u142 u143 u144 u145 u146 u147 u148 u149 u150 u151 u152 u153 u154 u155 u156 u157 u158 u159 u160 u161 u162 u163 u164 u165 u166 u167 u168 u169 u170 u171 u172 u173 u174 u175 u176 u177 u178 u179 u180 u181 u182 u183 u184 u185 u186 u187 u188 u189 u190 u191 u192 u193 u194 u195 u196 u197 u198 u199 u200 u201 u202 u203 u204 u205 u206 u207 u208 u209 u210 u211 u212 u213 u214 u215 u216 u217 u218 u219 u220 u221 u222 u223 u224 u225 u226 u227 u228 u229 u230 u231 u232 u233 u234 u235 u236 u237 u238 u239 u240 u241 u242 u243 u244 u245 u246 u247 u248 u249 u250 u251 u252 u253 u254 u255 u256 u257 u258 u259 u260 u261 u262 u263 u264 u265 u266 u267 u268 u269 u270 u271 u272 u273 u274 u275 u276 u277 u278 u279 u280 u281 u282 u283 u284 u285 u286 u287 u288 u289 u290 u291 u292 u293 u294 u295 u296 u297 u298 u299 u300 u301 u302 u303 u304 u305 u306 u307 u308 u309 u310 u311 u312 u313 u314 u315 u316 u317 u318 u319 u320 u321 u322 u323 u324 u325 u326 u327 u328 u329 u330 u331 u332 u333 u334 u335 u336 u337 u338 u339 u340 u341 u342 u343 u344 u345 u346 u347 u348 u349 u350 u351 u352 u353 u354 u355 u356 u357 u358 u359 u360 u361 u362 u363 u364 u365 u366 u367 u368 u369 u370 u371 u372 u373 u374 u375 u376 u377 u378 u379 u380 u381 u382 u383 u384 u385 u386 : Value) :
    Code.wp Try.prog spcR35 (Exit.then K1 (Exit.then K Q)) ⟨#[.slice a len cap, undef, u2, u3, .bool rb, u5, u6, u7, u8, u9, u10, u11, u12, u13, u14, u15, .slice (some ⟨g6, 0, none⟩) R q6, u17, u18, u19, u20, u21, u22, u23, u24, u25, u26, u27, u28, u29, u30, u31, u32, u33, u34, u35, u36, u37, u38, u39, u40, u41, u42, u43, u44, u45, u46, u47, u48, u49, u50, u51, u52, u53, u54, u55, u56, u57, u58, u59, u60, u61, u62, u63, u64, u65, u66, u67, u68, u69, u70, u71, u72, u73, u74, u75, u76, u77, u78, u79, u80, u81, u82, u83, u84, u85, u86, u87, u88, u89, u90, u91, u92, u93, u94, u95, u96, u97, u98, u99, u100, u101, u102, u103, u104, u105, u106, u107, u108, u109, u110, u111, u112, u113, u114, u115, u116, u117, u118, u119, u120, u121, u122, u123, u124, u125, u126, u127, u128, u129, u130, u131, u132, u133, u134, u135, u136, u137, u138, u139, u140, u141, u142, u143, u144, u145, u146, u147, u148, u149, u150, u151, u152, u153, u154, u155, u156, u157, u158, u159, u160, u161, u162, u163, u164, u165, u166, u167, u168, u169, u170, u171, u172, u173, u174, u175, u176, u177, u178, u179, u180, u181, u182, u183, u184, u185, u186, u187, u188, u189, u190, u191, u192, u193, u194, u195, u196, u197, u198, u199, u200, u201, u202, u203, u204, u205, u206, u207, u208, u209, u210, u211, u212, u213, u214, u215, u216, u217, u218, u219, u220, u221, u222, u223, u224, u225, u226, u227, u228, u229, u230, u231, u232, u233, u234, u235, u236, u237, u238, u239, u240, u241, u242, u243, u244, u245, u246, u247, u248, u249, u250, u251, u252, u253, u254, u255, u256, u257, u258, u259, u260, u261, u262, u263, u264, u265, u266, u267, u268, u269, u270, u271, u272, u273, u274, u275, u276, u277, u278, u279, u280, u281, u282, u283, u284, u285, u286, u287, u288, u289, u290, u291, u292, u293, u294, u295, u296, u297, u298, u299, u300, u301, u302, u303, u304, u305, u306, u307, u308, u309, u310, u311, u312, u313, u314, u315, u316, u317, u318, u319, u320, u321, u322, u323, u324, u325, u326, u327, u328, u329, u330, u331, u332, u333, u334, u335, u336, u337, u338, u339, u340, u341, u342, u343, u344, u345, u346, u347, u348, u349, u350, u351, u352, u353, u354, u355, u356, u357, u358, u359, u360, u361, u362, u363, u364, u365, u366, u367, u368, u369, u370, u371, u372, u373, u374, u375, u376, u377, u378, u379, u380, u381, u382, u383, u384, u385, u386], []⟩ W := by
  conv => arg 2; whnf
  dsimp only
  replace hK := hK.out
  dsimp only at hK
  replace hK := Lib.hid hK
  conv at h1 => enter [aa, ww, 1, 2]; whnf
  have r0 := ok.r0
  have r16 := ok.r16
  have ST := Lib.hid st
  have BC := Lib.hid (fun (h : rb = true) (j : Nat) (hj : j < R) (h1 : j ≠ 0) => bent_cor ok (by rw [← hrb]; exact h) j hj h1)
  clear st ok hrb
  go_wp2_with fail
  go_loopw [28] (fun i wr => ∃ k : Nat, 1 ≤ k ∧ i = .int .i64 k ∧ Below W.heap.size W wr) (fun i _ => R - (intOf i).toNat)
  case atStart => exact ⟨1, Nat.le_refl _, rfl, Below.refl _ _⟩
  case round =>
    obtain ⟨k, hk, rfl, hB⟩ := hrel
    by_cases hlt : k < R
    · have c1 : decide ((k : Int) < (R : Int)) = true := by simp; omega
      cases rb
      · have st2 := Lib.hid (ST.out.below hB)
        clear hB ST hc6 BC
        go_wp2_with fail
        exact hK.out _ _ _ _ _ _ _ _ _ _ _ _ _ _ _ _ _ _ _ _ _ _ _ _ _ _ _ _ _ _ _ _ _ _ _ _ _ _ _ _ _ _ _ _ _ _ _ _ _ _ _ _ _ _ _ _ _ _ _ _ _ _ _ _ _ _ _ _ _ _ _ _ _ _ _ _ _ _ _ _ _ _ _ _ _ _ _ _ _ _ _ _ _ _ _ _ _ _ _ _ _ _ _ _ _ _ _ _ _ _ _ _ _ _ _ _ _ _ _ _ _ _ _ _ _ _ _ _ _ _ _ _ _ _ _ _ _ _ _ _ _ _ _ _ _ _ _ _ _ _ _ _ _ _ _ _ _ _ _ _ _ _ _ _ _ _ _ _ _ _ _ _ _ _ _ _ _ _ _ _ _ _ _ _ _ _ _ _ _ _ _ _ _ _ _ _ _ _ _ _ _ _ _ _ _ _ _ _ _ _ _ _ _ _ _ _ _ _ _ _ _ _ _ _ _ _ _ _ _ _ _ _ _ _ _ _ _ _ _ _ _ _ _ _ _ _ _ _ _ _ _ _ _ _ _ _ _ _ _ _ _ _ _ _ _ _ _ _ _ _ _ _ _ _ _ _ _ _ _ _ _ _ _ _ _ _ _ _ _ _ _ _ _ _ _ _ _ _ _ _ _ _ _ _ _ _ _ _ _ _ _ _ _ _ _ _ _ _ _ _ _ _ _ _ _ _ _ _ _ _ _ _ _ _ _ _ _ _ _ _ _ _ _ _ _ _ _ _ _ _ _ _ _ _ _ _ _ _ _ _ _ _ _ _ _ _ _ _ _ _ _ _ _ _ _ _ _ _ _ _ _ _ _ _ _ _ (st2.out.less (by simp) (by simp))
      · have d1 := (hB.cell (p := ⟨g6, k, none⟩) hg6).trans (hc6.out k hlt)
        rw [BC.out rfl k hlt (by omega)] at d1
        have HB := Lib.hid hB
        clear hB
        go_wp2_with fail
        go_roundw
        case rel => exact ⟨k + 1, by omega, by go_num, HB.out⟩
        case measure => simp [intOf]; omega
    · have c1 : decide ((k : Int) < (R : Int)) = false := by simp; omega
      have st2 := Lib.hid (ST.out.below hB)
      clear hB ST hc6 BC
      go_wp2_with fail
      exact hK.out _ _ _ _ _ _ _ _ _ _ _ _ _ _ _ _ _ _ _ _ _ _ _ _ _ _ _ _ _ _ _ _ _ _ _ _ _ _ _ _ _ _ _ _ _ _ _ _ _ _ _ _ _ _ _ _ _ _ _ _ _ _ _ _ _ _ _ _ _ _ _ _ _ _ _ _ _ _ _ _ _ _ _ _ _ _ _ _ _ _ _ _ _ _ _ _ _ _ _ _ _ _ _ _ _ _ _ _ _ _ _ _ _ _ _ _ _ _ _ _ _ _ _ _ _ _ _ _ _ _ _ _ _ _ _ _ _ _ _ _ _ _ _ _ _ _ _ _ _ _ _ _ _ _ _ _ _ _ _ _ _ _ _ _ _ _ _ _ _ _ _ _ _ _ _ _ _ _ _ _ _ _ _ _ _ _ _ _ _ _ _ _ _ _ _ _ _ _ _ _ _ _ _ _ _ _ _ _ _ _ _ _ _ _ _ _ _ _ _ _ _ _ _ _ _ _ _ _ _ _ _ _ _ _ _ _ _ _ _ _ _ _ _ _ _ _ _ _ _ _ _ _ _ _ _ _ _ _ _ _ _ _ _ _ _ _ _ _ _ _ _ _ _ _ _ _ _ _ _ _ _ _ _ _ _ _ _ _ _ _ _ _ _ _ _ _ _ _ _ _ _ _ _ _ _ _ _ _ _ _ _ _ _ _ _ _ _ _ _ _ _ _ _ _ _ _ _ _ _ _ _ _ _ _ _ _ _ _ _ _ _ _ _ _ _ _ _ _ _ _ _ _ _ _ _ _ _ _ _ _ _ _ _ _ _ _ _ _ _ _ _ _ _ _ _ _ _ _ _ _ _ _ _ _ _ _ (st2.out.less (by simp) (by simp))
end Go.Proofs.Ytenbokdcdokhiab

/- FS2c:
  FnSpectrum: variables have an influence exactly if they are essential. -/
namespace Go.Proofs.Ytenbokdcdokhiab
open Go.RowKit
set_option linter.unusedVariables false
set_option linter.unusedSimpArgs false

noncomputable def spcR27 : Go.Code := ((Try.f4.body.bind (regAt 27)).getD .skip)
noncomputable def spcC28 : Go.Code := ((Try.f4.body.bind (fromReg 28)).getD .skip)
set_option maxRecDepth 100000 in
set_option maxHeartbeats 64000000 in
theorem fs2c {a : Option Addr} {len cap : Nat} {w W : World} {m x R g6 q6 q8 L20 q20 b8 : Nat} {a8 a20 : Option Addr} {rb : Bool} (ok : FOk (m : Int) x R) (hrb : rb = (mostS (spV x R) R == leastS (spV x R) R R)) (hg6 : g6 < W.heap.size) (hc6 : Hid (∀ j, j < R → W.cell? ⟨g6, j, none⟩ = some (.int .i64 (corS (bitN x) j R))))
    (ho8 : Owns W b8 (.slice a8 m q8) (natL (fun i => infS (bitN x) (2 ^ i) R) m)) (hL : L20 = (essK (m : Int) x m).length)
    (st : LawSt w a len [] [] W) {K : Act → World → Prop} {Q : Exit → Act → World → Prop} (hK : Hid (∀ (v2 v3 v4 v5 v6 v7 v8 v9 v10 v11 v12 v13 v14 v15 v16 v17 v18 v19 v20 v21 v22 v23 v24 v25 v26 v27 v28 v29 v30 v31 v32 v33 v34 v35 v36 v37 v38 v39 v40 v41 v42 v43 v44 v45 v46 v47 v48 v49 v50 v51 v52 v53 v54 v55 v56 v57 v58 v59 v60 v61 v62 v63 v64 v65 v66 v67 v68 v69 v70 v71 v72 v73 v74 v75 v76 v77 v78 v79 v80 v81 v82 v83 v84 v85 v86 v87 v88 v89 v90 v91 v92 v93 v94 v95 v96 v97 v98 v99 v100 v101 v102 v103 v104 v105 v106 v107 v108 v109 v110 v111 v112 v113 v114 v115 v116 v117 v118 v119 v120 v121 v122 v123 v124 v125 v126 v127 v128 v129 v130 v131 v132 v133 v134 v135 v136 v137 v138 v139 v140 v141 v142 v143 v144 v145 v146 v147 v148 v149 v150 v151 v152 v153 v154 v155 v156 v157 v158 v159 v160 v161 v162 v163 v164 v165 v166 v167 v168 v169 v170 v171 v172 v173 v174 v175 v176 v177 v178 v179 v180 v181 v182 v183 v184 v185 v186 v187 v188 v189 v190 v191 v192 v193 v194 v195 v196 v197 v198 v199 v200 v201 v202 v203 v204 v205 v206 v207 v208 v209 v210 v211 v212 v213 v214 v215 v216 v217 v218 v219 v220 v221 v222 v223 v224 v225 v226 v227 v228 v229 v230 v231 v232 v233 v234 v235 v236 v237 v238 v239 v240 v241 v242 v243 v244 v245 v246 v247 v248 v249 v250 v251 v252 v253 v254 v255 v256 v257 v258 v259 v260 v261 v262 v263 v264 v265 v266 v267 v268 v269 v270 v271 v272 v273 v274 v275 v276 v277 v278 v279 v280 v281 v282 v283 v284 v285 v286 v287 v288 v289 v290 v291 v292 v293 v294 v295 v296 v297 v298 v299 v300 v301 v302 v303 v304 v305 v306 v307 v308 v309 v310 v311 v312 v313 v314 v315 v316 v317 v318 v319 v320 v321 v322 v323 v324 v325 v326 v327 v328 v329 v330 v331 v332 v333 v334 v335 v336 v337 v338 v339 v340 v341 v342 v343 v344 v345 v346 v347 v348 v349 v350 v351 v352 v353 v354 v355 v356 v357 v358 v359 v360 v361 v362 v363 v364 v365 v366 v367 v368 v369 v370 v371 v372 v373 v374 v375 v376 v377 v378 v379 v380 v381 v382 v383 v384 v385 v386 : Value) (wx : World), LawSt w a len [] [] wx → K ⟨#[.slice a len cap, undef, v2, v3, v4, v5, v6, v7, v8, v9, v10, v11, v12, v13, v14, v15, v16, v17, v18, v19, v20, v21, v22, v23, v24, v25, v26, v27, v28, v29, v30, v31, v32, v33, v34, v35, v36, v37, v38, v39, v40, v41, v42, v43, v44, v45, v46, v47, v48, v49, v50, v51, v52, v53, v54, v55, v56, v57, v58, v59, v60, v61, v62, v63, v64, v65, v66, v67, v68, v69, v70, v71, v72, v73, v74, v75, v76, v77, v78, v79, v80, v81, v82, v83, v84, v85, v86, v87, v88, v89, v90, v91, v92, v93, v94, v95, v96, v97, v98, v99, v100, v101, v102, v103, v104, v105, v106, v107, v108, v109, v110, v111, v112, v113, v114, v115, v116, v117, v118, v119, v120, v121, v122, v123, v124, v125, v126, v127, v128, v129, v130, v131, v132, v133, v134, v135, v136, v137, v138, v139, v140, v141, v142, v143, v144, v145, v146, v147, v148, v149, v150, v151, v152, v153, v154, v155, v156, v157, v158, v159, v160, v161, v162, v163, v164, v165, v166, v167, v168, v169, v170, v171, v172, v173, v174, v175, v176, v177, v178, v179, v180, v181, v182, v183, v184, v185, v186, v187, v188, v189, v190, v191, v192, v193, v194, v195, v196, v197, v198, v199, v200, v201, v202, v203, v204, v205, v206, v207, v208, v209, v210, v211, v212, v213, v214, v215, v216, v217, v218, v219, v220, v221, v222, v223, v224, v225, v226, v227, v228, v229, v230, v231, v232, v233, v234, v235, v236, v237, v238, v239, v240, v241, v242, v243, v244, v245, v246, v247, v248, v249, v250, v251, v252, v253, v254, v255, v256, v257, v258, v259, v260, v261, v262, v263, v264, v265, v266, v267, v268, v269, v270, v271, v272, v273, v274, v275, v276, v277, v278, v279, v280, v281, v282, v283, v284, v285, v286, v287, v288, v289, v290, v291, v292, v293, v294, v295, v296, v297, v298, v299, v300, v301, v302, v303, v304, v305, v306, v307, v308, v309, v310, v311, v312, v313, v314, v315, v316, v317, v318, v319, v320, v321, v322, v323, v324, v325, v326, v327, v328, v329, v330, v331, v332, v333, v334, v335, v336, v337, v338, v339, v340, v341, v342, v343, v344, v345, v346, v347, v348, v349, v350, v351, v352, v353, v354, v355, v356, v357, v358, v359, v360, v361, v362, v363, v364, v365, v366, v367, v368, v369, v370, v371, v372, v373, v374, v375, v376, v377, v378, v379, v380, v381, v382, v383, v384, v385, v386], []⟩ wx))
    {K1 : Act → World → Prop} (h1 : ∀ aa ww, Code.wp Try.prog spcC28 (Exit.then K Q) aa ww → K1 aa ww)
    (u2 u3 u5 u6 u7 u8 u9 u10 u11 u12 u13 u14 u15 u17 u19 u21 u22 u23 u24 u25 u26 u27 u28 u29 u30 u31 u32 u33 u34 u35 u36 u37 u38 u39 u40 u41 u42 u43 u44 u45 u46 u47 u48 u49 u50 u51 u52 u53 u54 u55 u56 u57 u58 u59 u60 u61 u62 u63 u64 u65 u66 u67 u68 u69 u70 u71 u72 u73 u74 u75 u76 u77 u78 u79 u80 u81 u82 u83 u84 u85 u86 u87 u88 u89 u90 u91 u92 u93 u94 u95 u96 u97 u98 u99 u100 u101 u102 u103 u104 u105 u106 u107 u108 u109 u110 u111 u112 u113 u114 u115 u116 u117 u118 u119 u120 u121 u122 u123 u124 u125 u126 u127 u128 u129 u130 u131 u132 u133 u134 u135 u136 u137 u138 u139 u140 u141 u142 u143 u144 u145 u146 u147 u148 u149 u150 u151 u152 u153 u154 u155 u156 u157 u158 u159 u160 u161 u162 u163 u164 u165 u166 u167 u168 u169 u170 u171 u172 u173 u174 u175 u176 u177 u178 u179 u180 u181 u182 u183 u184 u185 u186 u187 u188 u189 u190 u191 u192 u193 u194 u195 u196 u197 u198 u199 u200 u201 u202 u203 u204 u205 u206 u207 u208 u209 u210 u211 u212 u213 u214 u215 u216 u217 u218 u219 u220 u221 u222 u223 u224 u225 u226 u227 u228 u229 u230 u231 u232 u233 u234 u235 u236 u237 u238 u239 u240 u241 u242 u243 u244 u245 u246 u247 u248 u249 u250 u251 u252 u253 u254 u255 u256 u257 u258 u259 u260 u261 u262 u263 u264 u265 u266 u267 u268 u269 u270 u271 u272 u273 u274 u275 u276 u277 u278 u279 u280 u281 u282 u283 u284 u285 u286 u287 u288 u289 u290 u291 u292 u293 u294 u295 u296 u297 u298 u299 u300 u301 u302 u303 u304 u305 u306 u307 u308 u309 u310 u311 u312 u313 u314 u315 u316 u317 u318 u319 u320 u321 u322 u323 u324 u325 u326 u327 u328 u329 u330 u331 u332 u333 u334 u335 u336 u337 u338 u339 u340 u341 u342 u343 u344 u345 u346 u347 u348 u349 u350 u351 u352 u353 u354 u355 u356 u357 u358 u359 u360 u361 u362 u363 u364 u365 u366 u367 u368 u369 u370 u371 u372 u373 u374 u375 u376 u377 u378 u379 u380 u381 u382 u383 u384 u385 u386 : Value) :
    Code.wp Try.prog spcR27 (Exit.then K1 (Exit.then K Q)) ⟨#[.slice a len cap, undef, u2, u3, .bool rb, u5, u6, u7, u8, u9, u10, u11, u12, u13, u14, u15, .slice (some ⟨g6, 0, none⟩) R q6, u17, .slice a8 m q8, u19, .slice a20 L20 q20, u21, u22, u23, u24, u25, u26, u27, u28, u29, u30, u31, u32, u33, u34, u35, u36, u37, u38, u39, u40, u41, u42, u43, u44, u45, u46, u47, u48, u49, u50, u51, u52, u53, u54, u55, u56, u57, u58, u59, u60, u61, u62, u63, u64, u65, u66, u67, u68, u69, u70, u71, u72, u73, u74, u75, u76, u77, u78, u79, u80, u81, u82, u83, u84, u85, u86, u87, u88, u89, u90, u91, u92, u93, u94, u95, u96, u97, u98, u99, u100, u101, u102, u103, u104, u105, u106, u107, u108, u109, u110, u111, u112, u113, u114, u115, u116, u117, u118, u119, u120, u121, u122, u123, u124, u125, u126, u127, u128, u129, u130, u131, u132, u133, u134, u135, u136, u137, u138, u139, u140, u141, u142, u143, u144, u145, u146, u147, u148, u149, u150, u151, u152, u153, u154, u155, u156, u157, u158, u159, u160, u161, u162, u163, u164, u165, u166, u167, u168, u169, u170, u171, u172, u173, u174, u175, u176, u177, u178, u179, u180, u181, u182, u183, u184, u185, u186, u187, u188, u189, u190, u191, u192, u193, u194, u195, u196, u197, u198, u199, u200, u201, u202, u203, u204, u205, u206, u207, u208, u209, u210, u211, u212, u213, u214, u215, u216, u217, u218, u219, u220, u221, u222, u223, u224, u225, u226, u227, u228, u229, u230, u231, u232, u233, u234, u235, u236, u237, u238, u239, u240, u241, u242, u243, u244, u245, u246, u247, u248, u249, u250, u251, u252, u253, u254, u255, u256, u257, u258, u259, u260, u261, u262, u263, u264, u265, u266, u267, u268, u269, u270, u271, u272, u273, u274, u275, u276, u277, u278, u279, u280, u281, u282, u283, u284, u285, u286, u287, u288, u289, u290, u291, u292, u293, u294, u295, u296, u297, u298, u299, u300, u301, u302, u303, u304, u305, u306, u307, u308, u309, u310, u311, u312, u313, u314, u315, u316, u317, u318, u319, u320, u321, u322, u323, u324, u325, u326, u327, u328, u329, u330, u331, u332, u333, u334, u335, u336, u337, u338, u339, u340, u341, u342, u343, u344, u345, u346, u347, u348, u349, u350, u351, u352, u353, u354, u355, u356, u357, u358, u359, u360, u361, u362, u363, u364, u365, u366, u367, u368, u369, u370, u371, u372, u373, u374, u375, u376, u377, u378, u379, u380, u381, u382, u383, u384, u385, u386], []⟩ W := by
  conv => arg 2; whnf
  dsimp only
  replace hK := hK.out
  dsimp only at hK
  replace hK := Lib.hid hK
  conv at h1 => enter [aa, ww, 1, 2]; whnf
  have m4 : m ≤ 4 := by have := ok.h4; omega
  have HP := Lib.hid (show posN (fun i => infS (bitN x) (2 ^ i) R) m = L20 by rw [hL]; exact inf_count ok)
  have OK := Lib.hid ok
  have HR := Lib.hid hrb
  have ST := Lib.hid st
  have CC : Hid (∀ k, k < m → ∃ g, a8 = some ⟨g, 0, none⟩ ∧ g < W.heap.size ∧ W.cell? ⟨g, k, none⟩ = some (.int .i64 (infS (bitN x) (2 ^ k) R : Int))) := Lib.hid (by
    intro k hk
    rcases ho8.shape with ⟨h0, _⟩ | ⟨_, g, c, e', _, hg, hc, _⟩
    · have := congrArg List.length h0
      rw [natL_len] at this
      simp at this
      omega
    · have e1 : a8 = some ⟨g, 0, none⟩ := by injection e'
      exact ⟨g, e1, hg, by rw [hc.out k (by rw [natL_len]; exact hk), natL_get _ _ _ hk]⟩)
  clear ok hrb st ho8 hL
  go_wp2_with fail
  go_loopw [26, 27] (fun c i wr => ∃ k : Nat, k ≤ m ∧ i = .int .i64 k ∧ c = .int .i64 (posN (fun i => infS (bitN x) (2 ^ i) R) k : Int) ∧ Below W.heap.size W wr) (fun _ i _ => m - (intOf i).toNat)
  case atStart => exact ⟨0, Nat.zero_le _, rfl, rfl, Below.refl _ _⟩
  case round =>
    obtain ⟨k, hk, rfl, rfl, hB⟩ := hrel
    by_cases hlt : k < m
    · obtain ⟨g, rfl, hg, hcell⟩ := CC.out k hlt
      have d1 := (hB.cell (p := ⟨g, k, none⟩) hg).trans hcell
      have HB := Lib.hid hB
      have PN := Lib.hid (posN_succ (fun i => infS (bitN x) (2 ^ i) R) k)
      have hpk : posN (fun i => infS (bitN x) (2 ^ i) R) k ≤ k := by unfold posN; exact Nat.le_trans List.countP_le_length (by simp)
      clear hB hcell CC
      by_cases hv : 0 < infS (bitN x) (2 ^ k) R
      · have c1 : decide ((0 : Int) < (infS (bitN x) (2 ^ k) R : Int)) = true := by simp; omega
        have c2 : (0 : Int) < (infS (bitN x) (2 ^ k) R : Int) := by omega
        go_wp2_with fail
        go_roundw
        case rel => exact ⟨k + 1, by omega, by go_num, by rw [PN.out, if_pos hv]; go_num, HB.out⟩
        case measure => simp [intOf]; omega
      · have c1 : decide ((0 : Int) < (infS (bitN x) (2 ^ k) R : Int)) = false := by simp; omega
        have c2 : ¬ (0 : Int) < (infS (bitN x) (2 ^ k) R : Int) := by omega
        go_wp2_with fail
        go_roundw
        case rel => exact ⟨k + 1, by omega, by go_num, by rw [PN.out, if_neg hv]; rfl, HB.out⟩
        case measure => simp [intOf]; omega
    · obtain rfl : k = m := by omega
      have st2 := Lib.hid (ST.out.below hB)
      have HC := Lib.hid (fun (j : Nat) (hj : j < R) => (hB.cell (p := ⟨g6, j, none⟩) hg6).trans (hc6.out j hj))
      have hg6' : g6 < wr.heap.size := Nat.lt_of_lt_of_le hg6 hB.size
      have hp := HP.out
      rw [hp]
      clear hB ST CC hp
      go_upto_region 35 with fail
      exact fs2d OK.out HR.out hg6' HC st2.out hK (by assumption) _ _ _ _ _ _ _ _ _ _ _ _ _ _ _ _ _ _ _ _ _ _ _ _ _ _ _ _ _ _ _ _ _ _ _ _ _ _ _ _ _ _ _ _ _ _ _ _ _ _ _ _ _ _ _ _ _ _ _ _ _ _ _ _ _ _ _ _ _ _ _ _ _ _ _ _ _ _ _ _ _ _ _ _ _ _ _ _ _ _ _ _ _ _ _ _ _ _ _ _ _ _ _ _ _ _ _ _ _ _ _ _ _ _ _ _ _ _ _ _ _ _ _ _ _ _ _ _ _ _ _ _ _ _ _ _ _ _ _ _ _ _ _ _ _ _ _ _ _ _ _ _ _ _ _ _ _ _ _ _ _ _ _ _ _ _ _ _ _ _ _ _ _ _ _ _ _ _ _ _ _ _ _ _ _ _ _ _ _ _ _ _ _ _ _ _ _ _ _ _ _ _ _ _ _ _ _ _ _ _ _ _ _ _ _ _ _ _ _ _ _ _ _ _ _ _ _ _ _ _ _ _ _ _ _ _ _ _ _ _ _ _ _ _ _ _ _ _ _ _ _ _ _ _ _ _ _ _ _ _ _ _ _ _ _ _ _ _ _ _ _ _ _ _ _ _ _ _ _ _ _ _ _ _ _ _ _ _ _ _ _ _ _ _ _ _ _ _ _ _ _ _ _ _ _ _ _ _ _ _ _ _ _ _ _ _ _ _ _ _ _ _ _ _ _ _ _ _ _ _ _ _ _ _ _ _ _ _ _ _ _ _ _ _ _ _ _ _ _ _ _ _ _ _ _ _ _ _ _ _ _ _ _ _ _ _ _ _ _ _ _ _ _ _ _ _ _ _ _ _ _ _ _
end Go.Proofs.Ytenbokdcdokhiab

/- FS2b:
  FnSpectrum: correlations at 0, balance, distance. -/
namespace Go.Proofs.Ytenbokdcdokhiab
open Go.RowKit
set_option linter.unusedVariables false
set_option linter.unusedSimpArgs false

theorem Owns.sizedM {W : World} {base m : Nat} {s : Value} {xs : List Int} (h : Owns W base s xs) (hx : xs.length = m) : ∃ a cap, s = .slice a m cap := by
  rcases h.shape with ⟨rfl, a, cap, rfl⟩ | ⟨_, g, cap, rfl, _⟩
  · exact ⟨a, cap, by rw [← hx]; rfl⟩
  · exact ⟨_, cap, by rw [hx]⟩
noncomputable def spcR20 : Go.Code := ((Try.f4.body.bind (regAt 20)).getD .skip)
noncomputable def spcC21 : Go.Code := ((Try.f4.body.bind (fromReg 21)).getD .skip)
set_option maxRecDepth 100000 in
set_option maxHeartbeats 64000000 in
theorem fs2b {a : Option Addr} {len cap : Nat} {w W : World} {m x R bF g8 p8 q8 : Nat} {rb : Bool} (ok : FOk (m : Int) x R) (hrb : rb = (mostS (spV x R) R == leastS (spV x R) R R)) (hg8 : g8 < W.heap.size) (hc8 : W.cell? ⟨g8, p8, none⟩ = some (.int .i64 (spV x R 0)))
    (st : LawSt w a len [(bF, (m : Int), (x : Int))] [] W) {K : Act → World → Prop} {Q : Exit → Act → World → Prop} (hK : Hid (∀ (v2 v3 v4 v5 v6 v7 v8 v9 v10 v11 v12 v13 v14 v15 v16 v17 v18 v19 v20 v21 v22 v23 v24 v25 v26 v27 v28 v29 v30 v31 v32 v33 v34 v35 v36 v37 v38 v39 v40 v41 v42 v43 v44 v45 v46 v47 v48 v49 v50 v51 v52 v53 v54 v55 v56 v57 v58 v59 v60 v61 v62 v63 v64 v65 v66 v67 v68 v69 v70 v71 v72 v73 v74 v75 v76 v77 v78 v79 v80 v81 v82 v83 v84 v85 v86 v87 v88 v89 v90 v91 v92 v93 v94 v95 v96 v97 v98 v99 v100 v101 v102 v103 v104 v105 v106 v107 v108 v109 v110 v111 v112 v113 v114 v115 v116 v117 v118 v119 v120 v121 v122 v123 v124 v125 v126 v127 v128 v129 v130 v131 v132 v133 v134 v135 v136 v137 v138 v139 v140 v141 v142 v143 v144 v145 v146 v147 v148 v149 v150 v151 v152 v153 v154 v155 v156 v157 v158 v159 v160 v161 v162 v163 v164 v165 v166 v167 v168 v169 v170 v171 v172 v173 v174 v175 v176 v177 v178 v179 v180 v181 v182 v183 v184 v185 v186 v187 v188 v189 v190 v191 v192 v193 v194 v195 v196 v197 v198 v199 v200 v201 v202 v203 v204 v205 v206 v207 v208 v209 v210 v211 v212 v213 v214 v215 v216 v217 v218 v219 v220 v221 v222 v223 v224 v225 v226 v227 v228 v229 v230 v231 v232 v233 v234 v235 v236 v237 v238 v239 v240 v241 v242 v243 v244 v245 v246 v247 v248 v249 v250 v251 v252 v253 v254 v255 v256 v257 v258 v259 v260 v261 v262 v263 v264 v265 v266 v267 v268 v269 v270 v271 v272 v273 v274 v275 v276 v277 v278 v279 v280 v281 v282 v283 v284 v285 v286 v287 v288 v289 v290 v291 v292 v293 v294 v295 v296 v297 v298 v299 v300 v301 v302 v303 v304 v305 v306 v307 v308 v309 v310 v311 v312 v313 v314 v315 v316 v317 v318 v319 v320 v321 v322 v323 v324 v325 v326 v327 v328 v329 v330 v331 v332 v333 v334 v335 v336 v337 v338 v339 v340 v341 v342 v343 v344 v345 v346 v347 v348 v349 v350 v351 v352 v353 v354 v355 v356 v357 v358 v359 v360 v361 v362 v363 v364 v365 v366 v367 v368 v369 v370 v371 v372 v373 v374 v375 v376 v377 v378 v379 v380 v381 v382 v383 v384 v385 v386 : Value) (wx : World), LawSt w a len [] [] wx → K ⟨#[.slice a len cap, undef, v2, v3, v4, v5, v6, v7, v8, v9, v10, v11, v12, v13, v14, v15, v16, v17, v18, v19, v20, v21, v22, v23, v24, v25, v26, v27, v28, v29, v30, v31, v32, v33, v34, v35, v36, v37, v38, v39, v40, v41, v42, v43, v44, v45, v46, v47, v48, v49, v50, v51, v52, v53, v54, v55, v56, v57, v58, v59, v60, v61, v62, v63, v64, v65, v66, v67, v68, v69, v70, v71, v72, v73, v74, v75, v76, v77, v78, v79, v80, v81, v82, v83, v84, v85, v86, v87, v88, v89, v90, v91, v92, v93, v94, v95, v96, v97, v98, v99, v100, v101, v102, v103, v104, v105, v106, v107, v108, v109, v110, v111, v112, v113, v114, v115, v116, v117, v118, v119, v120, v121, v122, v123, v124, v125, v126, v127, v128, v129, v130, v131, v132, v133, v134, v135, v136, v137, v138, v139, v140, v141, v142, v143, v144, v145, v146, v147, v148, v149, v150, v151, v152, v153, v154, v155, v156, v157, v158, v159, v160, v161, v162, v163, v164, v165, v166, v167, v168, v169, v170, v171, v172, v173, v174, v175, v176, v177, v178, v179, v180, v181, v182, v183, v184, v185, v186, v187, v188, v189, v190, v191, v192, v193, v194, v195, v196, v197, v198, v199, v200, v201, v202, v203, v204, v205, v206, v207, v208, v209, v210, v211, v212, v213, v214, v215, v216, v217, v218, v219, v220, v221, v222, v223, v224, v225, v226, v227, v228, v229, v230, v231, v232, v233, v234, v235, v236, v237, v238, v239, v240, v241, v242, v243, v244, v245, v246, v247, v248, v249, v250, v251, v252, v253, v254, v255, v256, v257, v258, v259, v260, v261, v262, v263, v264, v265, v266, v267, v268, v269, v270, v271, v272, v273, v274, v275, v276, v277, v278, v279, v280, v281, v282, v283, v284, v285, v286, v287, v288, v289, v290, v291, v292, v293, v294, v295, v296, v297, v298, v299, v300, v301, v302, v303, v304, v305, v306, v307, v308, v309, v310, v311, v312, v313, v314, v315, v316, v317, v318, v319, v320, v321, v322, v323, v324, v325, v326, v327, v328, v329, v330, v331, v332, v333, v334, v335, v336, v337, v338, v339, v340, v341, v342, v343, v344, v345, v346, v347, v348, v349, v350, v351, v352, v353, v354, v355, v356, v357, v358, v359, v360, v361, v362, v363, v364, v365, v366, v367, v368, v369, v370, v371, v372, v373, v374, v375, v376, v377, v378, v379, v380, v381, v382, v383, v384, v385, v386], []⟩ wx))
    {K1 : Act → World → Prop} (h1 : ∀ aa ww, Code.wp Try.prog spcC21 (Exit.then K Q) aa ww → K1 aa ww)
    (u2 u5 u6 u7 u9 u10 u11 u15 u16 u17 u18 u19 u20 u21 u22 u23 u24 u25 u26 u27 u28 u29 u30 u31 u32 u33 u34 u35 u36 u37 u38 u39 u40 u41 u42 u43 u44 u45 u46 u47 u48 u49 u50 u51 u52 u53 u54 u55 u56 u57 u58 u59 u60 u61 u62 u63 u64 u65 u66 u67 u68 u69 u70 u71 u72 u73 u74 u75 u76 u77 u78 u79 u80 u81 u82 u83 u84 u85 u86 u87 u88 u89 u90 u91 u92 u93 u94 u95 u96 u97 u98 u99 u100 u101 u102 u103 u104 u105 u106 u107 u108 u109 u110 u111 u112 u113 u114 u115 u116 u117 u118 u119 u120 u121 u122 u123 u124 u125 u126 u127 u128 u129 u130 u131 u132 u133 u134 u135 u136 u137 u138 u139 u140 u141 u142 u143 u144 u145 u146 u147 u148 u149 u150 u151 u152 u153 u154 u155 u156 u157 u158 u159 u160 u161 u162 u163 u164 u165 u166 u167 u168 u169 u170 u171 u172 u173 u174 u175 u176 u177 u178 u179 u180 u181 u182 u183 u184 u185 u186 u187 u188 u189 u190 u191 u192 u193 u194 u195 u196 u197 u198 u199 u200 u201 u202 u203 u204 u205 u206 u207 u208 u209 u210 u211 u212 u213 u214 u215 u216 u217 u218 u219 u220 u221 u222 u223 u224 u225 u226 u227 u228 u229 u230 u231 u232 u233 u234 u235 u236 u237 u238 u239 u240 u241 u242 u243 u244 u245 u246 u247 u248 u249 u250 u251 u252 u253 u254 u255 u256 u257 u258 u259 u260 u261 u262 u263 u264 u265 u266 u267 u268 u269 u270 u271 u272 u273 u274 u275 u276 u277 u278 u279 u280 u281 u282 u283 u284 u285 u286 u287 u288 u289 u290 u291 u292 u293 u294 u295 u296 u297 u298 u299 u300 u301 u302 u303 u304 u305 u306 u307 u308 u309 u310 u311 u312 u313 u314 u315 u316 u317 u318 u319 u320 u321 u322 u323 u324 u325 u326 u327 u328 u329 u330 u331 u332 u333 u334 u335 u336 u337 u338 u339 u340 u341 u342 u343 u344 u345 u346 u347 u348 u349 u350 u351 u352 u353 u354 u355 u356 u357 u358 u359 u360 u361 u362 u363 u364 u365 u366 u367 u368 u369 u370 u371 u372 u373 u374 u375 u376 u377 u378 u379 u380 u381 u382 u383 u384 u385 u386 : Value) :
    Code.wp Try.prog spcR20 (Exit.then K1 (Exit.then K Q)) ⟨#[.slice a len cap, undef, u2, .pointer (some ⟨bF, 0, none⟩), .bool rb, u5, u6, u7, .slice (some ⟨g8, p8, none⟩) R q8, u9, u10, u11, .int .i64 (R : Int), .int .i64 ((R : Int) * (R : Int)), .int .i64 (mostS (spV x R) R), u15, u16, u17, u18, u19, u20, u21, u22, u23, u24, u25, u26, u27, u28, u29, u30, u31, u32, u33, u34, u35, u36, u37, u38, u39, u40, u41, u42, u43, u44, u45, u46, u47, u48, u49, u50, u51, u52, u53, u54, u55, u56, u57, u58, u59, u60, u61, u62, u63, u64, u65, u66, u67, u68, u69, u70, u71, u72, u73, u74, u75, u76, u77, u78, u79, u80, u81, u82, u83, u84, u85, u86, u87, u88, u89, u90, u91, u92, u93, u94, u95, u96, u97, u98, u99, u100, u101, u102, u103, u104, u105, u106, u107, u108, u109, u110, u111, u112, u113, u114, u115, u116, u117, u118, u119, u120, u121, u122, u123, u124, u125, u126, u127, u128, u129, u130, u131, u132, u133, u134, u135, u136, u137, u138, u139, u140, u141, u142, u143, u144, u145, u146, u147, u148, u149, u150, u151, u152, u153, u154, u155, u156, u157, u158, u159, u160, u161, u162, u163, u164, u165, u166, u167, u168, u169, u170, u171, u172, u173, u174, u175, u176, u177, u178, u179, u180, u181, u182, u183, u184, u185, u186, u187, u188, u189, u190, u191, u192, u193, u194, u195, u196, u197, u198, u199, u200, u201, u202, u203, u204, u205, u206, u207, u208, u209, u210, u211, u212, u213, u214, u215, u216, u217, u218, u219, u220, u221, u222, u223, u224, u225, u226, u227, u228, u229, u230, u231, u232, u233, u234, u235, u236, u237, u238, u239, u240, u241, u242, u243, u244, u245, u246, u247, u248, u249, u250, u251, u252, u253, u254, u255, u256, u257, u258, u259, u260, u261, u262, u263, u264, u265, u266, u267, u268, u269, u270, u271, u272, u273, u274, u275, u276, u277, u278, u279, u280, u281, u282, u283, u284, u285, u286, u287, u288, u289, u290, u291, u292, u293, u294, u295, u296, u297, u298, u299, u300, u301, u302, u303, u304, u305, u306, u307, u308, u309, u310, u311, u312, u313, u314, u315, u316, u317, u318, u319, u320, u321, u322, u323, u324, u325, u326, u327, u328, u329, u330, u331, u332, u333, u334, u335, u336, u337, u338, u339, u340, u341, u342, u343, u344, u345, u346, u347, u348, u349, u350, u351, u352, u353, u354, u355, u356, u357, u358, u359, u360, u361, u362, u363, u364, u365, u366, u367, u368, u369, u370, u371, u372, u373, u374, u375, u376, u377, u378, u379, u380, u381, u382, u383, u384, u385, u386], []⟩ W := by
  conv => arg 2; whnf
  dsimp only
  replace hK := hK.out
  dsimp only at hK
  replace hK := Lib.hid hK
  conv at h1 => enter [aa, ww, 1, 2]; whnf
  have r0 := ok.r0
  have r16 := ok.r16
  have CR := Lib.hid (implCorrelationsOf_yes ok)
  have IR := Lib.hid (fun w => (show Calls Try.prog 39 #[.agg #[.int .i64 (m : Int), .int .i64 (x : Int)]] w (ListCodePost w.heap.size (natL (fun i => infS (bitN x) (2 ^ i) R) m) 0 w) from implInfluencesOf_yes ok w))
  have ER := Lib.hid (fun w => (show Calls Try.prog 40 #[.agg #[.int .i64 (m : Int), .int .i64 (x : Int)]] w (ListCodePost w.heap.size (essK (m : Int) x m) 0 w) from implEssentialOf_yes ok w))
  have BR := Lib.hid (fun w => (show Calls Try.prog 41 #[.agg #[.int .i64 (m : Int), .int .i64 (x : Int)]] w fun e w' => e = .returned (.tuple #[.bool (spV x R 0 == 0), .int .i64 0]) ∧ Below w.heap.size w w' by
    have h := implIsBalanced_yes ok w
    rw [balanced_is] at h
    exact h))
  have AR := Lib.hid (implAffineDistance_yes ok)
  have hd := dist_is ok
  have hm := mostS_bound (s := spV x R) (R := (R : Int)) (by omega) R (fun j _ => spS_bd x j R)
  have OK := Lib.hid ok
  have HR := Lib.hid hrb
  have st0 := Lib.hid st
  have hq0 : (0 : Int) ≤ (R : Int) * (R : Int) := Int.mul_nonneg (by omega) (by omega)
  have hq1 : (R : Int) * (R : Int) ≤ 256 := by
    have : R * R ≤ 16 * 16 := Nat.mul_le_mul r16 r16
    have e : ((R * R : Nat) : Int) = (R : Int) * (R : Int) := by push_cast; rfl
    omega
  generalize ((R : Int) - mostS (spV x R) R) / 2 = D at hd AR
  have hl8 := hg8
  clear ok hrb st
  have p0 := (st0.out.B (bF, (m : Int), (x : Int)) (by simp)).1
  have p1 := (st0.out.B (bF, (m : Int), (x : Int)) (by simp)).2
  go_wp2_with fail
  refine (CR.out _).mono ?_
  rintro e w1 ⟨s16, rfl, ho1, hb1⟩
  have hc8 := kc hb1 hc8
  have st1 := Lib.hid ((st0.out.below hb1).list ho1)
  clear hb1 st0 CR ho1
  clear p0 p1
  have p0 := (st1.out.B (bF, (m : Int), (x : Int)) (by simp)).1
  have p1 := (st1.out.B (bF, (m : Int), (x : Int)) (by simp)).2
  go_wp2_with fail
  refine (IR.out _).mono ?_
  rintro e w2 ⟨s18, rfl, ho2, hb2⟩
  have hc8 := kc hb2 hc8
  have st2 := Lib.hid ((st1.out.below hb2).list ho2)
  clear hb2 st1 IR ho2
  clear p0 p1
  have p0 := (st2.out.B (bF, (m : Int), (x : Int)) (by simp)).1
  have p1 := (st2.out.B (bF, (m : Int), (x : Int)) (by simp)).2
  go_wp2_with fail
  refine (ER.out _).mono ?_
  rintro e w3 ⟨s20, rfl, ho3, hb3⟩
  have hc8 := kc hb3 hc8
  have st3 := Lib.hid ((st2.out.below hb3).list ho3)
  clear hb3 st2 ER ho3
  clear p0 p1
  have p0 := (st3.out.B (bF, (m : Int), (x : Int)) (by simp)).1
  have p1 := (st3.out.B (bF, (m : Int), (x : Int)) (by simp)).2
  go_wp2_with fail
  refine (BR.out _).mono ?_
  rintro e w4 ⟨rfl, hb4⟩
  have hc8 := kc hb4 hc8
  have st4 := Lib.hid (st3.out.below hb4)
  clear hb4 st3 BR
  clear p0 p1
  have p0 := (st4.out.B (bF, (m : Int), (x : Int)) (by simp)).1
  have p1 := (st4.out.B (bF, (m : Int), (x : Int)) (by simp)).2
  go_wp2_with fail
  refine (AR.out _).mono ?_
  rintro e w5 ⟨rfl, hb5⟩
  have hc8 := kc hb5 hc8
  have st5 := Lib.hid (st4.out.below hb5)
  clear hb5 st4 AR
  clear p0 p1
  obtain ⟨g6, q6, rfl, hg6, hc6⟩ := Owns.cellsI (st5.out.O (W.heap.size, s16, intL (fun a => corS (bitN x) a R) R) (by simp)) r0
  have O18 := Lib.hid (st5.out.O (w1.heap.size, s18, natL (fun i => infS (bitN x) (2 ^ i) R) m) (by simp))
  obtain ⟨a18, q18, rfl⟩ := Owns.sizedM O18.out (natL_len _ m)
  obtain ⟨a20, q20, rfl⟩ := Owns.sizedM (st5.out.O (w2.heap.size, s20, essK (m : Int) x m) (by simp)) (m := (essK (m : Int) x m).length) rfl
  have d0 := hc6.out 0 r0
  rw [cor_zero] at d0
  have HC6 := Lib.hid hc6
  have LL : ∃ L, L = (essK (m : Int) x m).length := ⟨_, rfl⟩
  obtain ⟨L, hL⟩ := LL
  have HL := Lib.hid hL
  rw [← hL]
  clear hc6 hL
  go_upto_region 27 with fail
  exact fs2c OK.out HR.out hg6 HC6.out O18.out HL.out (st5.out.less (by simp) (by simp)) hK (by assumption) _ _ _ _ _ _ _ _ _ _ _ _ _ _ _ _ _ _ _ _ _ _ _ _ _ _ _ _ _ _ _ _ _ _ _ _ _ _ _ _ _ _ _ _ _ _ _ _ _ _ _ _ _ _ _ _ _ _ _ _ _ _ _ _ _ _ _ _ _ _ _ _ _ _ _ _ _ _ _ _ _ _ _ _ _ _ _ _ _ _ _ _ _ _ _ _ _ _ _ _ _ _ _ _ _ _ _ _ _ _ _ _ _ _ _ _ _ _ _ _ _ _ _ _ _ _ _ _ _ _ _ _ _ _ _ _ _ _ _ _ _ _ _ _ _ _ _ _ _ _ _ _ _ _ _ _ _ _ _ _ _ _ _ _ _ _ _ _ _ _ _ _ _ _ _ _ _ _ _ _ _ _ _ _ _ _ _ _ _ _ _ _ _ _ _ _ _ _ _ _ _ _ _ _ _ _ _ _ _ _ _ _ _ _ _ _ _ _ _ _ _ _ _ _ _ _ _ _ _ _ _ _ _ _ _ _ _ _ _ _ _ _ _ _ _ _ _ _ _ _ _ _ _ _ _ _ _ _ _ _ _ _ _ _ _ _ _ _ _ _ _ _ _ _ _ _ _ _ _ _ _ _ _ _ _ _ _ _ _ _ _ _ _ _ _ _ _ _ _ _ _ _ _ _ _ _ _ _ _ _ _ _ _ _ _ _ _ _ _ _ _ _ _ _ _ _ _ _ _ _ _ _ _ _ _ _ _ _ _ _ _ _ _ _ _ _ _ _ _ _ _ _ _ _ _ _ _ _ _ _ _ _ _ _ _ _ _ _ _ _ _ _ _ _ _ _ _ _ _ _ _
end Go.Proofs.Ytenbokdcdokhiab

/- FS2a:
  FnSpectrum: squares of spectra add up. -/
namespace Go.Proofs.Ytenbokdcdokhiab
open Go.RowKit
set_option linter.unusedVariables false
set_option linter.unusedSimpArgs false

noncomputable def spcI103 : Go.Code := ((Try.f4.body.bind (ifAt 103)).getD .skip)
set_option maxRecDepth 100000 in
set_option maxHeartbeats 64000000 in
theorem fs2a {a : Option Addr} {len cap : Nat} {w W : World} {m x R bF b8 : Nat} {s8 : Value} {rb : Bool} (ok : FOk (m : Int) x R) (hrb : rb = (mostS (spV x R) R == leastS (spV x R) R R)) (ha8 : AtL W b8 s8 (intL (spV x R) R))
    (st : LawSt w a len [(bF, (m : Int), (x : Int))] [] W) {K : Act → World → Prop} {Q : Exit → Act → World → Prop} (hK : Hid (∀ (v2 v3 v4 v5 v6 v7 v8 v9 v10 v11 v12 v13 v14 v15 v16 v17 v18 v19 v20 v21 v22 v23 v24 v25 v26 v27 v28 v29 v30 v31 v32 v33 v34 v35 v36 v37 v38 v39 v40 v41 v42 v43 v44 v45 v46 v47 v48 v49 v50 v51 v52 v53 v54 v55 v56 v57 v58 v59 v60 v61 v62 v63 v64 v65 v66 v67 v68 v69 v70 v71 v72 v73 v74 v75 v76 v77 v78 v79 v80 v81 v82 v83 v84 v85 v86 v87 v88 v89 v90 v91 v92 v93 v94 v95 v96 v97 v98 v99 v100 v101 v102 v103 v104 v105 v106 v107 v108 v109 v110 v111 v112 v113 v114 v115 v116 v117 v118 v119 v120 v121 v122 v123 v124 v125 v126 v127 v128 v129 v130 v131 v132 v133 v134 v135 v136 v137 v138 v139 v140 v141 v142 v143 v144 v145 v146 v147 v148 v149 v150 v151 v152 v153 v154 v155 v156 v157 v158 v159 v160 v161 v162 v163 v164 v165 v166 v167 v168 v169 v170 v171 v172 v173 v174 v175 v176 v177 v178 v179 v180 v181 v182 v183 v184 v185 v186 v187 v188 v189 v190 v191 v192 v193 v194 v195 v196 v197 v198 v199 v200 v201 v202 v203 v204 v205 v206 v207 v208 v209 v210 v211 v212 v213 v214 v215 v216 v217 v218 v219 v220 v221 v222 v223 v224 v225 v226 v227 v228 v229 v230 v231 v232 v233 v234 v235 v236 v237 v238 v239 v240 v241 v242 v243 v244 v245 v246 v247 v248 v249 v250 v251 v252 v253 v254 v255 v256 v257 v258 v259 v260 v261 v262 v263 v264 v265 v266 v267 v268 v269 v270 v271 v272 v273 v274 v275 v276 v277 v278 v279 v280 v281 v282 v283 v284 v285 v286 v287 v288 v289 v290 v291 v292 v293 v294 v295 v296 v297 v298 v299 v300 v301 v302 v303 v304 v305 v306 v307 v308 v309 v310 v311 v312 v313 v314 v315 v316 v317 v318 v319 v320 v321 v322 v323 v324 v325 v326 v327 v328 v329 v330 v331 v332 v333 v334 v335 v336 v337 v338 v339 v340 v341 v342 v343 v344 v345 v346 v347 v348 v349 v350 v351 v352 v353 v354 v355 v356 v357 v358 v359 v360 v361 v362 v363 v364 v365 v366 v367 v368 v369 v370 v371 v372 v373 v374 v375 v376 v377 v378 v379 v380 v381 v382 v383 v384 v385 v386 : Value) (wx : World), LawSt w a len [] [] wx → K ⟨#[.slice a len cap, undef, v2, v3, v4, v5, v6, v7, v8, v9, v10, v11, v12, v13, v14, v15, v16, v17, v18, v19, v20, v21, v22, v23, v24, v25, v26, v27, v28, v29, v30, v31, v32, v33, v34, v35, v36, v37, v38, v39, v40, v41, v42, v43, v44, v45, v46, v47, v48, v49, v50, v51, v52, v53, v54, v55, v56, v57, v58, v59, v60, v61, v62, v63, v64, v65, v66, v67, v68, v69, v70, v71, v72, v73, v74, v75, v76, v77, v78, v79, v80, v81, v82, v83, v84, v85, v86, v87, v88, v89, v90, v91, v92, v93, v94, v95, v96, v97, v98, v99, v100, v101, v102, v103, v104, v105, v106, v107, v108, v109, v110, v111, v112, v113, v114, v115, v116, v117, v118, v119, v120, v121, v122, v123, v124, v125, v126, v127, v128, v129, v130, v131, v132, v133, v134, v135, v136, v137, v138, v139, v140, v141, v142, v143, v144, v145, v146, v147, v148, v149, v150, v151, v152, v153, v154, v155, v156, v157, v158, v159, v160, v161, v162, v163, v164, v165, v166, v167, v168, v169, v170, v171, v172, v173, v174, v175, v176, v177, v178, v179, v180, v181, v182, v183, v184, v185, v186, v187, v188, v189, v190, v191, v192, v193, v194, v195, v196, v197, v198, v199, v200, v201, v202, v203, v204, v205, v206, v207, v208, v209, v210, v211, v212, v213, v214, v215, v216, v217, v218, v219, v220, v221, v222, v223, v224, v225, v226, v227, v228, v229, v230, v231, v232, v233, v234, v235, v236, v237, v238, v239, v240, v241, v242, v243, v244, v245, v246, v247, v248, v249, v250, v251, v252, v253, v254, v255, v256, v257, v258, v259, v260, v261, v262, v263, v264, v265, v266, v267, v268, v269, v270, v271, v272, v273, v274, v275, v276, v277, v278, v279, v280, v281, v282, v283, v284, v285, v286, v287, v288, v289, v290, v291, v292, v293, v294, v295, v296, v297, v298, v299, v300, v301, v302, v303, v304, v305, v306, v307, v308, v309, v310, v311, v312, v313, v314, v315, v316, v317, v318, v319, v320, v321, v322, v323, v324, v325, v326, v327, v328, v329, v330, v331, v332, v333, v334, v335, v336, v337, v338, v339, v340, v341, v342, v343, v344, v345, v346, v347, v348, v349, v350, v351, v352, v353, v354, v355, v356, v357, v358, v359, v360, v361, v362, v363, v364, v365, v366, v367, v368, v369, v370, v371, v372, v373, v374, v375, v376, v377, v378, v379, v380, v381, v382, v383, v384, v385, v386], []⟩ wx))
    (u2 u5 u6 u7 u9 u10 u11 u12 u13 u14 u15 u16 u17 u18 u19 u20 u21 u22 u23 u24 u25 u26 u27 u28 u29 u30 u31 u32 u33 u34 u35 u36 u37 u38 u39 u40 u41 u42 u43 u44 u45 u46 u47 u48 u49 u50 u51 u52 u53 u54 u55 u56 u57 u58 u59 u60 u61 u62 u63 u64 u65 u66 u67 u68 u69 u70 u71 u72 u73 u74 u75 u76 u77 u78 u79 u80 u81 u82 u83 u84 u85 u86 u87 u88 u89 u90 u91 u92 u93 u94 u95 u96 u97 u98 u99 u100 u101 u102 u104 u105 u106 u107 u108 u109 u110 u111 u112 u113 u114 u115 u116 u117 u118 u119 u120 u121 u122 u123 u124 u125 u126 u127 u128 u129 u130 u131 u132 u133 u134 u135 u136 u137 u138 u139 u140 u141 u142 u143 u144 u145 u146 u147 u148 u149 u150 u151 u152 u153 u154 u155 u156 u157 u158 u159 u160 u161 u162 u163 u164 u165 u166 u167 u168 u169 u170 u171 u172 u173 u174 u175 u176 u177 u178 u179 u180 u181 u182 u183 u184 u185 u186 u187 u188 u189 u190 u191 u192 u193 u194 u195 u196 u197 u198 u199 u200 u201 u202 u203 u204 u205 u206 u207 u208 u209 u210 u211 u212 u213 u214 u215 u216 u217 u218 u219 u220 u221 u222 u223 u224 u225 u226 u227 u228 u229 u230 u231 u232 u233 u234 u235 u236 u237 u238 u239 u240 u241 u242 u243 u244 u245 u246 u247 u248 u249 u250 u251 u252 u253 u254 u255 u256 u257 u258 u259 u260 u261 u262 u263 u264 u265 u266 u267 u268 u269 u270 u271 u272 u273 u274 u275 u276 u277 u278 u279 u280 u281 u282 u283 u284 u285 u286 u287 u288 u289 u290 u291 u292 u293 u294 u295 u296 u297 u298 u299 u300 u301 u302 u303 u304 u305 u306 u307 u308 u309 u310 u311 u312 u313 u314 u315 u316 u317 u318 u319 u320 u321 u322 u323 u324 u325 u326 u327 u328 u329 u330 u331 u332 u333 u334 u335 u336 u337 u338 u339 u340 u341 u342 u343 u344 u345 u346 u347 u348 u349 u350 u351 u352 u353 u354 u355 u356 u357 u358 u359 u360 u361 u362 u363 u364 u365 u366 u367 u368 u369 u370 u371 u372 u373 u374 u375 u376 u377 u378 u379 u380 u381 u382 u383 u384 u385 u386 : Value) :
    Code.wp Try.prog spcI103 (Exit.then K Q) ⟨#[.slice a len cap, undef, u2, .pointer (some ⟨bF, 0, none⟩), .bool rb, u5, u6, u7, s8, u9, u10, u11, u12, u13, u14, u15, u16, u17, u18, u19, u20, u21, u22, u23, u24, u25, u26, u27, u28, u29, u30, u31, u32, u33, u34, u35, u36, u37, u38, u39, u40, u41, u42, u43, u44, u45, u46, u47, u48, u49, u50, u51, u52, u53, u54, u55, u56, u57, u58, u59, u60, u61, u62, u63, u64, u65, u66, u67, u68, u69, u70, u71, u72, u73, u74, u75, u76, u77, u78, u79, u80, u81, u82, u83, u84, u85, u86, u87, u88, u89, u90, u91, u92, u93, u94, u95, u96, u97, u98, u99, u100, u101, u102, .bool true, u104, u105, u106, u107, u108, u109, u110, u111, u112, u113, u114, u115, u116, u117, u118, u119, u120, u121, u122, u123, u124, u125, u126, u127, u128, u129, u130, u131, u132, u133, u134, u135, u136, u137, u138, u139, u140, u141, u142, u143, u144, u145, u146, u147, u148, u149, u150, u151, u152, u153, u154, u155, u156, u157, u158, u159, u160, u161, u162, u163, u164, u165, u166, u167, u168, u169, u170, u171, u172, u173, u174, u175, u176, u177, u178, u179, u180, u181, u182, u183, u184, u185, u186, u187, u188, u189, u190, u191, u192, u193, u194, u195, u196, u197, u198, u199, u200, u201, u202, u203, u204, u205, u206, u207, u208, u209, u210, u211, u212, u213, u214, u215, u216, u217, u218, u219, u220, u221, u222, u223, u224, u225, u226, u227, u228, u229, u230, u231, u232, u233, u234, u235, u236, u237, u238, u239, u240, u241, u242, u243, u244, u245, u246, u247, u248, u249, u250, u251, u252, u253, u254, u255, u256, u257, u258, u259, u260, u261, u262, u263, u264, u265, u266, u267, u268, u269, u270, u271, u272, u273, u274, u275, u276, u277, u278, u279, u280, u281, u282, u283, u284, u285, u286, u287, u288, u289, u290, u291, u292, u293, u294, u295, u296, u297, u298, u299, u300, u301, u302, u303, u304, u305, u306, u307, u308, u309, u310, u311, u312, u313, u314, u315, u316, u317, u318, u319, u320, u321, u322, u323, u324, u325, u326, u327, u328, u329, u330, u331, u332, u333, u334, u335, u336, u337, u338, u339, u340, u341, u342, u343, u344, u345, u346, u347, u348, u349, u350, u351, u352, u353, u354, u355, u356, u357, u358, u359, u360, u361, u362, u363, u364, u365, u366, u367, u368, u369, u370, u371, u372, u373, u374, u375, u376, u377, u378, u379, u380, u381, u382, u383, u384, u385, u386], []⟩ W := by
  conv => arg 2; whnf
  dsimp only
  replace hK := hK.out
  dsimp only at hK
  replace hK := Lib.hid hK
  have r0 := ok.r0
  have r16 := ok.r16
  have m4 := ok.h4
  obtain ⟨g8, p8, q8, rfl, hg8, hc8⟩ := ha8.cells r0
  have eR : wrap64 (2 ^ m) = (R : Int) := by
    have e : (2 : Int) ^ m = ((2 ^ m : Nat) : Int) := by push_cast; rfl
    have e2 : (2 : Nat) ^ m = R := by rw [ok.he, Int.toNat_natCast]
    rw [e, e2]
    exact IntWalk.wrap64_in _ ⟨by omega, by omega⟩
  have SQ := Lib.hid (squares ok)
  have OK := Lib.hid ok
  have HR := Lib.hid hrb
  have st0 := Lib.hid st
  have C8 := Lib.hid hc8.out
  have p0 := (st.B (bF, (m : Int), (x : Int)) (by simp)).1
  clear ok hrb st ha8 hc8
  go_wp2_with fail
  clear p0
  go_loopw [13, 14, 15] (fun t mo i wr => ∃ k : Nat, k ≤ R ∧ i = .int .i64 k ∧ t = .int .i64 (sI (fun w => spV x R w * spV x R w) k) ∧ mo = .int .i64 (mostS (spV x R) k) ∧ (0 ≤ sI (fun w => spV x R w * spV x R w) k ∧ sI (fun w => spV x R w * spV x R w) k ≤ 256 * k) ∧ Below W.heap.size W wr) (fun _ _ i _ => R - (intOf i).toNat)
  case atStart => exact ⟨0, Nat.zero_le _, rfl, rfl, rfl, ⟨Int.le_refl _, Int.le_refl _⟩, Below.refl _ _⟩
  case round =>
    obtain ⟨k, hk, rfl, rfl, rfl, hT, hB⟩ := hrel
    by_cases hlt : k < R
    · have hz := spS_bd x k R
      have d1 := (hB.cell (p := ⟨g8, p8 + k, none⟩) hg8).trans (C8.out k hlt)
      have hM := mostS_bound (s := spV x R) (R := (R : Int)) (by omega) k (fun j _ => spS_bd x j R)
      have eT : sI (fun w => spV x R w * spV x R w) (k + 1) = sI (fun w => spV x R w * spV x R w) k + spV x R k * spV x R k := rfl
      have eM : mostS (spV x R) (k + 1) = max (mostS (spV x R) k) (max (spV x R k) (-(spV x R k))) := rfl
      have ET := Lib.hid eT
      have EM := Lib.hid eM
      have hz1 : -16 ≤ spV x R k ∧ spV x R k ≤ 16 := by unfold spV; omega
      have hqa : 0 ≤ spV x R k * spV x R k ∧ spV x R k * spV x R k ≤ 256 := by
        rw [← absI_sq]
        have h1 : 0 ≤ absI (spV x R k) ∧ absI (spV x R k) ≤ 16 := by unfold absI; omega
        refine ⟨Int.mul_nonneg h1.1 h1.1, ?_⟩
        have := Int.mul_le_mul h1.2 h1.2 h1.1 (by decide : (0 : Int) ≤ 16)
        omega
      have HB := Lib.hid hB
      clear hB eT eM hz
      generalize mostS (spV x R) k = M at hM EM
      generalize sI (fun w => spV x R w * spV x R w) k = T at hT ET
      generalize spV x R k = z at hz1 hqa d1 ET EM
      generalize hzz : z * z = zz at hqa ET
      by_cases h1 : M < z
      · have c1 : decide (M < z) = true := by simpa using h1
        have c2 : decide (z < -z) = false := by simp; omega
        have hm2 : mostS (spV x R) (k + 1) = z := by have := EM.out; omega
        go_wp2_with fail
        go_quiet (fail)
        go_wp2_with fail
        go_roundw
        case rel => exact ⟨k + 1, by omega, by go_num, by rw [ET.out], by rw [hm2], by rw [ET.out]; omega, below_drewN HB.out _⟩
        case measure => simp [intOf]; omega
      · have c1 : decide (M < z) = false := by simpa using h1
        by_cases h2 : M < -z
        · have c2 : decide (M < -z) = true := by simpa using h2
          have hm2 : mostS (spV x R) (k + 1) = -z := by have := EM.out; omega
          go_wp2_with fail
          go_quiet (fail)
          go_wp2_with fail
          go_roundw
          case rel => exact ⟨k + 1, by omega, by go_num, by rw [ET.out], by rw [hm2], by rw [ET.out]; omega, below_drewN HB.out _⟩
          case measure => simp [intOf]; omega
        · have c2 : decide (M < -z) = false := by simpa using h2
          have hm2 : mostS (spV x R) (k + 1) = M := by have := EM.out; omega
          go_wp2_with fail
          go_quiet (fail)
          go_wp2_with fail
          go_roundw
          case rel => exact ⟨k + 1, by omega, by go_num, by rw [ET.out], by rw [hm2], by rw [ET.out]; omega, below_drewN HB.out _⟩
          case measure => simp [intOf]; omega
    · obtain rfl : k = R := by omega
      have st2 := Lib.hid (st0.out.below hB)
      have d0 := kc hB (C8.out 0 r0)
      have hg8' := Nat.lt_of_lt_of_le hg8 hB.size
      rw [SQ.out]
      clear hB st0 C8 hT
      go_upto_region 20 with fail
      exact fs2b OK.out HR.out hg8' d0 st2.out hK (by assumption) _ _ _ _ _ _ _ _ _ _ _ _ _ _ _ _ _ _ _ _ _ _ _ _ _ _ _ _ _ _ _ _ _ _ _ _ _ _ _ _ _ _ _ _ _ _ _ _ _ _ _ _ _ _ _ _ _ _ _ _ _ _ _ _ _ _ _ _ _ _ _ _ _ _ _ _ _ _ _ _ _ _ _ _ _ _ _ _ _ _ _ _ _ _ _ _ _ _ _ _ _ _ _ _ _ _ _ _ _ _ _ _ _ _ _ _ _ _ _ _ _ _ _ _ _ _ _ _ _ _ _ _ _ _ _ _ _ _ _ _ _ _ _ _ _ _ _ _ _ _ _ _ _ _ _ _ _ _ _ _ _ _ _ _ _ _ _ _ _ _ _ _ _ _ _ _ _ _ _ _ _ _ _ _ _ _ _ _ _ _ _ _ _ _ _ _ _ _ _ _ _ _ _ _ _ _ _ _ _ _ _ _ _ _ _ _ _ _ _ _ _ _ _ _ _ _ _ _ _ _ _ _ _ _ _ _ _ _ _ _ _ _ _ _ _ _ _ _ _ _ _ _ _ _ _ _ _ _ _ _ _ _ _ _ _ _ _ _ _ _ _ _ _ _ _ _ _ _ _ _ _ _ _ _ _ _ _ _ _ _ _ _ _ _ _ _ _ _ _ _ _ _ _ _ _ _ _ _ _ _ _ _ _ _ _ _ _ _ _ _ _ _ _ _ _ _ _ _ _ _ _ _ _ _ _ _ _ _ _ _ _ _ _ _ _ _ _ _ _ _ _ _ _ _ _ _ _ _ _ _ _ _ _ _ _ _ _ _ _ _ _ _ _ _ _ _ _ _ _
end Go.Proofs.Ytenbokdcdokhiab

/- FS1:
  FnSpectrum, its tail: all other functions, both packages alike. -/
namespace Go.Proofs.Ytenbokdcdokhiab
open Go.RowKit
set_option linter.unusedVariables false
set_option linter.unusedSimpArgs false

noncomputable def spcR40 : Go.Code := ((Try.f4.body.bind (regAt 40)).getD .skip)
noncomputable def spcC41 : Go.Code := ((Try.f4.body.bind (fromReg 41)).getD .skip)
set_option maxRecDepth 100000 in
set_option maxHeartbeats 64000000 in
theorem fs1 {a : Option Addr} {len cap : Nat} {w W : World} (hl : len ≤ 1048576) (st : LawSt w a len [] [] W)
    {K1 : Act → World → Prop} (h1 : ∀ aa ww, Code.wp Try.prog spcC41 (bodyPost Try.prog Try.f4 (fun e w' => e = .returned (.bool true) ∧ Below w.heap.size w w')) aa ww → K1 aa ww)
    (u2 u3 u4 u5 u6 u7 u8 u9 u10 u11 u12 u13 u14 u15 u16 u17 u18 u19 u20 u21 u22 u23 u24 u25 u26 u27 u28 u29 u30 u31 u32 u33 u34 u35 u36 u37 u38 u39 u40 u41 u42 u43 u44 u45 u46 u47 u48 u49 u50 u51 u52 u53 u54 u55 u56 u57 u58 u59 u60 u61 u62 u63 u64 u65 u66 u67 u68 u69 u70 u71 u72 u73 u74 u75 u76 u77 u78 u79 u80 u81 u82 u83 u84 u85 u86 u87 u88 u89 u90 u91 u92 u93 u94 u95 u96 u97 u98 u99 u100 u101 u102 u103 u104 u105 u106 u107 u108 u109 u110 u111 u112 u113 u114 u115 u116 u117 u118 u119 u120 u121 u122 u123 u124 u125 u126 u127 u128 u129 u130 u131 u132 u133 u134 u135 u136 u137 u138 u139 u140 u141 u142 u143 u144 u145 u146 u147 u148 u149 u150 u151 u152 u153 u154 u155 u156 u157 u158 u159 u160 u161 u162 u163 u164 u165 u166 u167 u168 u169 u170 u171 u172 u173 u174 u175 u176 u177 u178 u179 u180 u181 u182 u183 u184 u185 u186 u187 u188 u189 u190 u191 u192 u193 u194 u195 u196 u197 u198 u199 u200 u201 u202 u203 u204 u205 u206 u207 u208 u209 u210 u211 u212 u213 u214 u215 u216 u217 u218 u219 u220 u221 u222 u223 u224 u225 u226 u227 u228 u229 u230 u231 u232 u233 u234 u235 u236 u237 u238 u239 u240 u241 u242 u243 u244 u245 u246 u247 u248 u249 u250 u251 u252 u253 u254 u255 u256 u257 u258 u259 u260 u261 u262 u263 u264 u265 u266 u267 u268 u269 u270 u271 u272 u273 u274 u275 u276 u277 u278 u279 u280 u281 u282 u283 u284 u285 u286 u287 u288 u289 u290 u291 u292 u293 u294 u295 u296 u297 u298 u299 u300 u301 u302 u303 u304 u305 u306 u307 u308 u309 u310 u311 u312 u313 u314 u315 u316 u317 u318 u319 u320 u321 u322 u323 u324 u325 u326 u327 u328 u329 u330 u331 u332 u333 u334 u335 u336 u337 u338 u339 u340 u341 u342 u343 u344 u345 u346 u347 u348 u349 u350 u351 u352 u353 u354 u355 u356 u357 u358 u359 u360 u361 u362 u363 u364 u365 u366 u367 u368 u369 u370 u371 u372 u373 u374 u375 u376 u377 u378 u379 u380 u381 u382 u383 u384 u385 u386 : Value) :
    Code.wp Try.prog spcR40 (Exit.then K1 (bodyPost Try.prog Try.f4 (fun e w' => e = .returned (.bool true) ∧ Below w.heap.size w w'))) ⟨#[.slice a len cap, undef, u2, u3, u4, u5, u6, u7, u8, u9, u10, u11, u12, u13, u14, u15, u16, u17, u18, u19, u20, u21, u22, u23, u24, u25, u26, u27, u28, u29, u30, u31, u32, u33, u34, u35, u36, u37, u38, u39, u40, u41, u42, u43, u44, u45, u46, u47, u48, u49, u50, u51, u52, u53, u54, u55, u56, u57, u58, u59, u60, u61, u62, u63, u64, u65, u66, u67, u68, u69, u70, u71, u72, u73, u74, u75, u76, u77, u78, u79, u80, u81, u82, u83, u84, u85, u86, u87, u88, u89, u90, u91, u92, u93, u94, u95, u96, u97, u98, u99, u100, u101, u102, u103, u104, u105, u106, u107, u108, u109, u110, u111, u112, u113, u114, u115, u116, u117, u118, u119, u120, u121, u122, u123, u124, u125, u126, u127, u128, u129, u130, u131, u132, u133, u134, u135, u136, u137, u138, u139, u140, u141, u142, u143, u144, u145, u146, u147, u148, u149, u150, u151, u152, u153, u154, u155, u156, u157, u158, u159, u160, u161, u162, u163, u164, u165, u166, u167, u168, u169, u170, u171, u172, u173, u174, u175, u176, u177, u178, u179, u180, u181, u182, u183, u184, u185, u186, u187, u188, u189, u190, u191, u192, u193, u194, u195, u196, u197, u198, u199, u200, u201, u202, u203, u204, u205, u206, u207, u208, u209, u210, u211, u212, u213, u214, u215, u216, u217, u218, u219, u220, u221, u222, u223, u224, u225, u226, u227, u228, u229, u230, u231, u232, u233, u234, u235, u236, u237, u238, u239, u240, u241, u242, u243, u244, u245, u246, u247, u248, u249, u250, u251, u252, u253, u254, u255, u256, u257, u258, u259, u260, u261, u262, u263, u264, u265, u266, u267, u268, u269, u270, u271, u272, u273, u274, u275, u276, u277, u278, u279, u280, u281, u282, u283, u284, u285, u286, u287, u288, u289, u290, u291, u292, u293, u294, u295, u296, u297, u298, u299, u300, u301, u302, u303, u304, u305, u306, u307, u308, u309, u310, u311, u312, u313, u314, u315, u316, u317, u318, u319, u320, u321, u322, u323, u324, u325, u326, u327, u328, u329, u330, u331, u332, u333, u334, u335, u336, u337, u338, u339, u340, u341, u342, u343, u344, u345, u346, u347, u348, u349, u350, u351, u352, u353, u354, u355, u356, u357, u358, u359, u360, u361, u362, u363, u364, u365, u366, u367, u368, u369, u370, u371, u372, u373, u374, u375, u376, u377, u378, u379, u380, u381, u382, u383, u384, u385, u386], []⟩ W := by
  conv => arg 2; whnf
  dsimp only
  conv at h1 => enter [aa, ww, 1, 2]; whnf
  have st0 := Lib.hid st
  clear st
  have DR := Lib.hid (drawImmunityOf_ok (cap := cap) hl W st0.out.C)
  go_wp2_with fail
  refine DR.out.mono ?_
  rintro e w1 ⟨n1, x1, rfl, hn, hx, hb1⟩
  have st1 := Lib.hid (st0.out.below hb1)
  clear hb1 DR st0
  obtain ⟨W2, hW2⟩ : ∃ W2, w1.alloc (.cells #[.int .i64 n1, .int .i64 x1] 25) = W2 := ⟨_, rfl⟩
  have st2 := Lib.hid (show LawSt w a len [(w1.heap.size, n1, x1)] [] W2 by rw [← hW2]; exact st1.out.box n1 x1 25)
  clear st1
  obtain ⟨r1, c1, s2, s1'⟩ := bothImmunityOf n1 x1 hn.wf hx.wf
  have HS1 := Lib.hid s1'
  have HS2 := Lib.hid s2
  clear s1' s2 hn hx
  have p0 := (st2.out.B (w1.heap.size, n1, x1) (by simp)).1
  have p1 := (st2.out.B (w1.heap.size, n1, x1) (by simp)).2
  go_wp2_with fail
  clear hW2
  refine (HS1.out _).mono ?_
  rintro e w3 ⟨rfl, hb3⟩
  have st3 := Lib.hid (st2.out.below hb3)
  clear hb3 st2 HS1
  clear p0 p1
  have p0 := (st3.out.B (w1.heap.size, n1, x1) (by simp)).1
  have p1 := (st3.out.B (w1.heap.size, n1, x1) (by simp)).2
  go_wp2_with fail
  refine (HS2.out _).mono ?_
  rintro e w4 ⟨rfl, hb4⟩
  have st4 := Lib.hid (st3.out.below hb4)
  clear hb4 st3 HS2
  clear p0 p1
  have DR := Lib.hid (drawCorrelationsOf_ok (cap := cap) hl w4 st4.out.C)
  go_wp2_with fail
  refine DR.out.mono ?_
  rintro e w5 ⟨n2, x2, rfl, hn, hx, hb5⟩
  have st5 := Lib.hid (st4.out.below hb5)
  clear hb5 DR st4
  obtain ⟨W6, hW6⟩ : ∃ W6, w5.alloc (.cells #[.int .i64 n2, .int .i64 x2] 25) = W6 := ⟨_, rfl⟩
  have st6 := Lib.hid (show LawSt w a len [(w5.heap.size, n2, x2), (w1.heap.size, n1, x1)] [] W6 by rw [← hW6]; exact st5.out.box n2 x2 25)
  clear st5
  obtain ⟨xs2, c2, hl2, s2, s1'⟩ := bothCorrelationsOf n2 x2 hn.wf hx.wf
  have HS1 := Lib.hid s1'
  have HS2 := Lib.hid s2
  clear s1' s2 hn hx
  have p0 := (st6.out.B (w5.heap.size, n2, x2) (by simp)).1
  have p1 := (st6.out.B (w5.heap.size, n2, x2) (by simp)).2
  go_wp2_with fail
  clear hW6
  refine (HS1.out _).mono ?_
  rintro e w7 ⟨v2, rfl, ho7, hb7⟩
  have st7 := Lib.hid ((st6.out.below hb7).list ho7)
  clear hb7 st6 ho7 HS1
  clear p0 p1
  have p0 := (st7.out.B (w5.heap.size, n2, x2) (by simp)).1
  have p1 := (st7.out.B (w5.heap.size, n2, x2) (by simp)).2
  go_wp2_with fail
  refine (HS2.out _).mono ?_
  rintro e w8 ⟨y2, rfl, ho8, hb8⟩
  have st8 := Lib.hid ((st7.out.below hb8).list ho8)
  clear hb8 st7 ho8 HS2
  clear p0 p1
  have DR := Lib.hid (drawInfluencesOf_ok (cap := cap) hl w8 st8.out.C)
  go_wp2_with fail
  refine DR.out.mono ?_
  rintro e w9 ⟨n3, x3, rfl, hn, hx, hb9⟩
  have st9 := Lib.hid (st8.out.below hb9)
  clear hb9 DR st8
  obtain ⟨W10, hW10⟩ : ∃ W10, w9.alloc (.cells #[.int .i64 n3, .int .i64 x3] 25) = W10 := ⟨_, rfl⟩
  have st10 := Lib.hid (show LawSt w a len [(w9.heap.size, n3, x3), (w5.heap.size, n2, x2), (w1.heap.size, n1, x1)] [(w7.heap.size, y2, xs2), (W6.heap.size, v2, xs2)] W10 by rw [← hW10]; exact st9.out.box n3 x3 25)
  clear st9
  obtain ⟨xs3, c3, hl3, s2, s1'⟩ := bothInfluencesOf n3 x3 hn.wf hx.wf
  have HS1 := Lib.hid s1'
  have HS2 := Lib.hid s2
  clear s1' s2 hn hx
  have p0 := (st10.out.B (w9.heap.size, n3, x3) (by simp)).1
  have p1 := (st10.out.B (w9.heap.size, n3, x3) (by simp)).2
  go_wp2_with fail
  clear hW10
  refine (HS1.out _).mono ?_
  rintro e w11 ⟨v3, rfl, ho11, hb11⟩
  have st11 := Lib.hid ((st10.out.below hb11).list ho11)
  clear hb11 st10 ho11 HS1
  clear p0 p1
  have p0 := (st11.out.B (w9.heap.size, n3, x3) (by simp)).1
  have p1 := (st11.out.B (w9.heap.size, n3, x3) (by simp)).2
  go_wp2_with fail
  refine (HS2.out _).mono ?_
  rintro e w12 ⟨y3, rfl, ho12, hb12⟩
  have st12 := Lib.hid ((st11.out.below hb12).list ho12)
  clear hb12 st11 ho12 HS2
  clear p0 p1
  have DR := Lib.hid (drawIsBalanced_ok (cap := cap) hl w12 st12.out.C)
  go_wp2_with fail
  refine DR.out.mono ?_
  rintro e w13 ⟨n4, x4, rfl, hn, hx, hb13⟩
  have st13 := Lib.hid (st12.out.below hb13)
  clear hb13 DR st12
  obtain ⟨W14, hW14⟩ : ∃ W14, w13.alloc (.cells #[.int .i64 n4, .int .i64 x4] 25) = W14 := ⟨_, rfl⟩
  have st14 := Lib.hid (show LawSt w a len [(w13.heap.size, n4, x4), (w9.heap.size, n3, x3), (w5.heap.size, n2, x2), (w1.heap.size, n1, x1)] [(w11.heap.size, y3, xs3), (W10.heap.size, v3, xs3), (w7.heap.size, y2, xs2), (W6.heap.size, v2, xs2)] W14 by rw [← hW14]; exact st13.out.box n4 x4 25)
  clear st13
  obtain ⟨r4, c4, s2, s1'⟩ := bothIsBalanced n4 x4 hn.wf hx.wf
  have HS1 := Lib.hid s1'
  have HS2 := Lib.hid s2
  clear s1' s2 hn hx
  have p0 := (st14.out.B (w13.heap.size, n4, x4) (by simp)).1
  have p1 := (st14.out.B (w13.heap.size, n4, x4) (by simp)).2
  go_wp2_with fail
  clear hW14
  refine (HS1.out _).mono ?_
  rintro e w15 ⟨rfl, hb15⟩
  have st15 := Lib.hid (st14.out.below hb15)
  clear hb15 st14 HS1
  clear p0 p1
  have p0 := (st15.out.B (w13.heap.size, n4, x4) (by simp)).1
  have p1 := (st15.out.B (w13.heap.size, n4, x4) (by simp)).2
  go_wp2_with fail
  refine (HS2.out _).mono ?_
  rintro e w16 ⟨rfl, hb16⟩
  have st16 := Lib.hid (st15.out.below hb16)
  clear hb16 st15 HS2
  clear p0 p1
  have DR := Lib.hid (drawAffineDistance_ok (cap := cap) hl w16 st16.out.C)
  go_wp2_with fail
  refine DR.out.mono ?_
  rintro e w17 ⟨n5, x5, rfl, hn, hx, hb17⟩
  have st17 := Lib.hid (st16.out.below hb17)
  clear hb17 DR st16
  obtain ⟨W18, hW18⟩ : ∃ W18, w17.alloc (.cells #[.int .i64 n5, .int .i64 x5] 25) = W18 := ⟨_, rfl⟩
  have st18 := Lib.hid (show LawSt w a len [(w17.heap.size, n5, x5), (w13.heap.size, n4, x4), (w9.heap.size, n3, x3), (w5.heap.size, n2, x2), (w1.heap.size, n1, x1)] [(w11.heap.size, y3, xs3), (W10.heap.size, v3, xs3), (w7.heap.size, y2, xs2), (W6.heap.size, v2, xs2)] W18 by rw [← hW18]; exact st17.out.box n5 x5 25)
  clear st17
  obtain ⟨r5, c5, s2, s1'⟩ := bothAffineDistance n5 x5 hn.wf hx.wf
  have HS1 := Lib.hid s1'
  have HS2 := Lib.hid s2
  clear s1' s2 hn hx
  have p0 := (st18.out.B (w17.heap.size, n5, x5) (by simp)).1
  have p1 := (st18.out.B (w17.heap.size, n5, x5) (by simp)).2
  go_wp2_with fail
  clear hW18
  refine (HS1.out _).mono ?_
  rintro e w19 ⟨rfl, hb19⟩
  have st19 := Lib.hid (st18.out.below hb19)
  clear hb19 st18 HS1
  clear p0 p1
  have p0 := (st19.out.B (w17.heap.size, n5, x5) (by simp)).1
  have p1 := (st19.out.B (w17.heap.size, n5, x5) (by simp)).2
  go_wp2_with fail
  refine (HS2.out _).mono ?_
  rintro e w20 ⟨rfl, hb20⟩
  have st20 := Lib.hid (st19.out.below hb20)
  clear hb20 st19 HS2
  clear p0 p1
  have DR := Lib.hid (drawSpectrumOf_ok (cap := cap) hl w20 st20.out.C)
  go_wp2_with fail
  refine DR.out.mono ?_
  rintro e w21 ⟨n6, x6, rfl, hn, hx, hb21⟩
  have st21 := Lib.hid (st20.out.below hb21)
  clear hb21 DR st20
  obtain ⟨W22, hW22⟩ : ∃ W22, w21.alloc (.cells #[.int .i64 n6, .int .i64 x6] 25) = W22 := ⟨_, rfl⟩
  have st22 := Lib.hid (show LawSt w a len [(w21.heap.size, n6, x6), (w17.heap.size, n5, x5), (w13.heap.size, n4, x4), (w9.heap.size, n3, x3), (w5.heap.size, n2, x2), (w1.heap.size, n1, x1)] [(w11.heap.size, y3, xs3), (W10.heap.size, v3, xs3), (w7.heap.size, y2, xs2), (W6.heap.size, v2, xs2)] W22 by rw [← hW22]; exact st21.out.box n6 x6 25)
  clear st21
  obtain ⟨xs6, c6, hl6, s2, s1'⟩ := bothSpectrumOf n6 x6 hn.wf hx.wf
  have HS1 := Lib.hid s1'
  have HS2 := Lib.hid s2
  clear s1' s2 hn hx
  have p0 := (st22.out.B (w21.heap.size, n6, x6) (by simp)).1
  have p1 := (st22.out.B (w21.heap.size, n6, x6) (by simp)).2
  go_wp2_with fail
  clear hW22
  refine (HS1.out _).mono ?_
  rintro e w51 ⟨v6, rfl, ho6, hb51⟩
  have A6 := Lib.hid ho6
  have st51 := Lib.hid (st22.out.below hb51)
  clear ho6 hb51 HS1 st22
  clear p0 p1
  have p0 := (st51.out.B (w21.heap.size, n6, x6) (by simp)).1
  have p1 := (st51.out.B (w21.heap.size, n6, x6) (by simp)).2
  go_wp2_with fail
  refine (HS2.out _).mono ?_
  rintro e w52 ⟨y6, rfl, ho52, hb52⟩
  have st52 := Lib.hid ((st51.out.below hb52).list ho52)
  replace A6 := Lib.hid (A6.out.below hb52)
  clear hb52 st51 ho52 HS2 
  clear p0 p1
  go_wp2_with fail
  refine (likeInts_same (xs := xs2) (by omega) _ (st52.out.O (W6.heap.size, v2, xs2) (by simp)) (st52.out.O (w7.heap.size, y2, xs2) (by simp))).mono ?_
  rintro e w61 ⟨rfl, hb61⟩
  have st61 := Lib.hid (st52.out.below hb61)
  replace A6 := Lib.hid (A6.out.below hb61)
  clear hb61 st52
  go_wp2_with fail
  refine (likeInts_same (xs := xs3) (by omega) _ (st61.out.O (W10.heap.size, v3, xs3) (by simp)) (st61.out.O (w11.heap.size, y3, xs3) (by simp))).mono ?_
  rintro e w62 ⟨rfl, hb62⟩
  have st62 := Lib.hid (st61.out.below hb62)
  replace A6 := Lib.hid (A6.out.below hb62)
  clear hb62 st61
  go_wp2_with fail
  refine (like_at (xs := xs6) (by omega) _ A6.out (st62.out.O (w51.heap.size, y6, xs6) (by simp))).mono ?_
  rintro e w63 ⟨rfl, hb63⟩
  have G := Lib.hid (bthen st62.out.G hb63)
  clear hb63 st62 A6
  go_wp2_with fail
  go_ret
  exact ⟨rfl, G.out⟩
end Go.Proofs.Ytenbokdcdokhiab

/- FFnSpectrum:
  The walk of FnSpectrum. -/
namespace Go.Proofs.Ytenbokdcdokhiab
open Go.RowKit
set_option linter.unusedVariables false
set_option linter.unusedSimpArgs false

set_option maxRecDepth 100000 in
set_option maxHeartbeats 64000000 in
theorem fnSpectrum_walk {a : Option Addr} {len cap : Nat} (w : World) (C : Code w a len) :
    Calls Try.prog 4 #[.slice a len cap] w fun e w' => e = .returned (.bool true) ∧ Below w.heap.size w w' := by
  by_cases hbig : 4096 < len
  · have hq : decide (4096 < len) = true := by simpa using hbig
    go_enter Try.func4, Try.ntmps4
    go_wp2_with (go_at_call 9; refine (big_ok _).mono ?_; rintro e w' ⟨rfl, rfl⟩)
    go_ret
    exact ⟨rfl, Below.refl _ _⟩
  · have hq : decide (4096 < len) = false := by simpa using hbig
    have hl : len ≤ 1048576 := by omega
    have st0 := Lib.hid (LawSt.start C)
    have DR := Lib.hid (drawIsBent_ok (cap := cap) hl w C)
    clear C
    go_enter Try.func4, Try.ntmps4
    go_wp2_with (go_at_call 9; refine (big_ok _).mono ?_; rintro e w' ⟨rfl, rfl⟩)
    refine DR.out.mono ?_
    rintro e w1 ⟨n, x, rfl, hn, hx, hb1⟩
    have st1 := Lib.hid (st0.out.below hb1)
    clear hb1 DR st0
    obtain ⟨W2, hW2⟩ : ∃ W2, w1.alloc (.cells #[.int .i64 n, .int .i64 x] 25) = W2 := ⟨_, rfl⟩
    have st2 := Lib.hid (show LawSt w a len [(w1.heap.size, n, x)] [] W2 by rw [← hW2]; exact st1.out.box n x 25)
    clear st1
    obtain ⟨rb, xs, c, hlen, s1', s2', s3', s4', hc⟩ := spF n x
    have HS1 := Lib.hid s1'
    have HS2 := Lib.hid s2'
    have HS3 := Lib.hid s3'
    have HS4 := Lib.hid s4'
    have HC := Lib.hid hc
    clear s1' s2' s3' s4' hn hx hc
    have p0 := (st2.out.B (w1.heap.size, n, x) (by simp)).1
    have p1 := (st2.out.B (w1.heap.size, n, x) (by simp)).2
    go_wp2_with fail
    clear hW2
    refine (HS2.out _).mono ?_
    rintro e w3 ⟨rfl, hb3⟩
    have st3 := Lib.hid (st2.out.below hb3)
    clear hb3 st2 HS2
    clear p0 p1
    have p0 := (st3.out.B (w1.heap.size, n, x) (by simp)).1
    have p1 := (st3.out.B (w1.heap.size, n, x) (by simp)).2
    go_wp2_with fail
    refine (HS1.out _).mono ?_
    rintro e w4 ⟨rfl, hb4⟩
    have st4 := Lib.hid (st3.out.below hb4)
    clear hb4 st3 HS1
    clear p0 p1
    have p0 := (st4.out.B (w1.heap.size, n, x) (by simp)).1
    have p1 := (st4.out.B (w1.heap.size, n, x) (by simp)).2
    go_wp2_with fail
    refine (HS4.out _).mono ?_
    rintro e w21 ⟨v8, rfl, ho8, hb21⟩
    have A8 := Lib.hid ho8
    have st21 := Lib.hid (st4.out.below hb21)
    clear ho8 hb21 HS4 st4
    clear p0 p1
    have p0 := (st21.out.B (w1.heap.size, n, x) (by simp)).1
    have p1 := (st21.out.B (w1.heap.size, n, x) (by simp)).2
    go_wp2_with fail
    refine (HS3.out _).mono ?_
    rintro e w22 ⟨v10, rfl, ho22, hb22⟩
    have st22 := Lib.hid ((st21.out.below hb22).list ho22)
    replace A8 := Lib.hid (A8.out.below hb22)
    clear hb22 st21 ho22 HS3
    clear p0 p1
    have LI := Lib.hid (like_at (xs := xs) (by omega) w22 A8.out (st22.out.O (w21.heap.size, v10, xs) (by simp)))
    rcases HC.out with ⟨rfl, m, v, R, rfl, ok, rfl, hrb, rfl⟩ | hne
    · have OK := Lib.hid ok
      have HR := Lib.hid hrb
      clear ok hrb HC
      go_upto_if 103 with (go_at_call 32; refine LI.out.mono ?_; rintro e w40 ⟨rfl, hb40⟩; have st40 := Lib.hid (st22.out.below hb40); replace A8 := Lib.hid (A8.out.below hb40); clear hb40 LI st22)
      refine fs2a OK.out HR.out A8.out (st40.out.less (by simp) (by simp)) (Lib.hid ?_) _ _ _ _ _ _ _ _ _ _ _ _ _ _ _ _ _ _ _ _ _ _ _ _ _ _ _ _ _ _ _ _ _ _ _ _ _ _ _ _ _ _ _ _ _ _ _ _ _ _ _ _ _ _ _ _ _ _ _ _ _ _ _ _ _ _ _ _ _ _ _ _ _ _ _ _ _ _ _ _ _ _ _ _ _ _ _ _ _ _ _ _ _ _ _ _ _ _ _ _ _ _ _ _ _ _ _ _ _ _ _ _ _ _ _ _ _ _ _ _ _ _ _ _ _ _ _ _ _ _ _ _ _ _ _ _ _ _ _ _ _ _ _ _ _ _ _ _ _ _ _ _ _ _ _ _ _ _ _ _ _ _ _ _ _ _ _ _ _ _ _ _ _ _ _ _ _ _ _ _ _ _ _ _ _ _ _ _ _ _ _ _ _ _ _ _ _ _ _ _ _ _ _ _ _ _ _ _ _ _ _ _ _ _ _ _ _ _ _ _ _ _ _ _ _ _ _ _ _ _ _ _ _ _ _ _ _ _ _ _ _ _ _ _ _ _ _ _ _ _ _ _ _ _ _ _ _ _ _ _ _ _ _ _ _ _ _ _ _ _ _ _ _ _ _ _ _ _ _ _ _ _ _ _ _ _ _ _ _ _ _ _ _ _ _ _ _ _ _ _ _ _ _ _ _ _ _ _ _ _ _ _ _ _ _ _ _ _ _ _ _ _ _ _ _ _ _ _ _ _ _ _ _ _ _ _ _ _ _ _ _ _ _ _ _ _ _ _ _ _ _ _ _ _ _ _ _ _ _ _ _ _ _ _ _ _ _ _ _ _ _ _ _ _ _ _ _ _ _ _ _
      intro v2 v3 v4 v5 v6 v7 v8 v9 v10 v11 v12 v13 v14 v15 v16 v17 v18 v19 v20 v21 v22 v23 v24 v25 v26 v27 v28 v29 v30 v31 v32 v33 v34 v35 v36 v37 v38 v39 v40 v41 v42 v43 v44 v45 v46 v47 v48 v49 v50 v51 v52 v53 v54 v55 v56 v57 v58 v59 v60 v61 v62 v63 v64 v65 v66 v67 v68 v69 v70 v71 v72 v73 v74 v75 v76 v77 v78 v79 v80 v81 v82 v83 v84 v85 v86 v87 v88 v89 v90 v91 v92 v93 v94 v95 v96 v97 v98 v99 v100 v101 v102 v103 v104 v105 v106 v107 v108 v109 v110 v111 v112 v113 v114 v115 v116 v117 v118 v119 v120 v121 v122 v123 v124 v125 v126 v127 v128 v129 v130 v131 v132 v133 v134 v135 v136 v137 v138 v139 v140 v141 v142 v143 v144 v145 v146 v147 v148 v149 v150 v151 v152 v153 v154 v155 v156 v157 v158 v159 v160 v161 v162 v163 v164 v165 v166 v167 v168 v169 v170 v171 v172 v173 v174 v175 v176 v177 v178 v179 v180 v181 v182 v183 v184 v185 v186 v187 v188 v189 v190 v191 v192 v193 v194 v195 v196 v197 v198 v199 v200 v201 v202 v203 v204 v205 v206 v207 v208 v209 v210 v211 v212 v213 v214 v215 v216 v217 v218 v219 v220 v221 v222 v223 v224 v225 v226 v227 v228 v229 v230 v231 v232 v233 v234 v235 v236 v237 v238 v239 v240 v241 v242 v243 v244 v245 v246 v247 v248 v249 v250 v251 v252 v253 v254 v255 v256 v257 v258 v259 v260 v261 v262 v263 v264 v265 v266 v267 v268 v269 v270 v271 v272 v273 v274 v275 v276 v277 v278 v279 v280 v281 v282 v283 v284 v285 v286 v287 v288 v289 v290 v291 v292 v293 v294 v295 v296 v297 v298 v299 v300 v301 v302 v303 v304 v305 v306 v307 v308 v309 v310 v311 v312 v313 v314 v315 v316 v317 v318 v319 v320 v321 v322 v323 v324 v325 v326 v327 v328 v329 v330 v331 v332 v333 v334 v335 v336 v337 v338 v339 v340 v341 v342 v343 v344 v345 v346 v347 v348 v349 v350 v351 v352 v353 v354 v355 v356 v357 v358 v359 v360 v361 v362 v363 v364 v365 v366 v367 v368 v369 v370 v371 v372 v373 v374 v375 v376 v377 v378 v379 v380 v381 v382 v383 v384 v385 v386 wx hx
      refine (‹∀ (a : Act) (w : World), Code.wp _ _ _ a w → _› : _) _ _ ?_
      go_upto_region 40 with fail
      exact fs1 hl hx (by assumption) _ _ _ _ _ _ _ _ _ _ _ _ _ _ _ _ _ _ _ _ _ _ _ _ _ _ _ _ _ _ _ _ _ _ _ _ _ _ _ _ _ _ _ _ _ _ _ _ _ _ _ _ _ _ _ _ _ _ _ _ _ _ _ _ _ _ _ _ _ _ _ _ _ _ _ _ _ _ _ _ _ _ _ _ _ _ _ _ _ _ _ _ _ _ _ _ _ _ _ _ _ _ _ _ _ _ _ _ _ _ _ _ _ _ _ _ _ _ _ _ _ _ _ _ _ _ _ _ _ _ _ _ _ _ _ _ _ _ _ _ _ _ _ _ _ _ _ _ _ _ _ _ _ _ _ _ _ _ _ _ _ _ _ _ _ _ _ _ _ _ _ _ _ _ _ _ _ _ _ _ _ _ _ _ _ _ _ _ _ _ _ _ _ _ _ _ _ _ _ _ _ _ _ _ _ _ _ _ _ _ _ _ _ _ _ _ _ _ _ _ _ _ _ _ _ _ _ _ _ _ _ _ _ _ _ _ _ _ _ _ _ _ _ _ _ _ _ _ _ _ _ _ _ _ _ _ _ _ _ _ _ _ _ _ _ _ _ _ _ _ _ _ _ _ _ _ _ _ _ _ _ _ _ _ _ _ _ _ _ _ _ _ _ _ _ _ _ _ _ _ _ _ _ _ _ _ _ _ _ _ _ _ _ _ _ _ _ _ _ _ _ _ _ _ _ _ _ _ _ _ _ _ _ _ _ _ _ _ _ _ _ _ _ _ _ _ _ _ _ _ _ _ _ _ _ _ _ _ _ _ _ _ _ _ _ _ _ _ _ _ _ _ _ _ _ _ _ _ _ _ _ _ _ _ _
    · have hq : (c == 0) = false := by simp [hne]
      go_upto_region 40 with (go_at_call 32; refine LI.out.mono ?_; rintro e w40 ⟨rfl, hb40⟩; have st40 := Lib.hid (st22.out.below hb40); clear hb40 LI st22)
      exact fs1 hl (st40.out.less (by simp) (by simp)) (by assumption) _ _ _ _ _ _ _ _ _ _ _ _ _ _ _ _ _ _ _ _ _ _ _ _ _ _ _ _ _ _ _ _ _ _ _ _ _ _ _ _ _ _ _ _ _ _ _ _ _ _ _ _ _ _ _ _ _ _ _ _ _ _ _ _ _ _ _ _ _ _ _ _ _ _ _ _ _ _ _ _ _ _ _ _ _ _ _ _ _ _ _ _ _ _ _ _ _ _ _ _ _ _ _ _ _ _ _ _ _ _ _ _ _ _ _ _ _ _ _ _ _ _ _ _ _ _ _ _ _ _ _ _ _ _ _ _ _ _ _ _ _ _ _ _ _ _ _ _ _ _ _ _ _ _ _ _ _ _ _ _ _ _ _ _ _ _ _ _ _ _ _ _ _ _ _ _ _ _ _ _ _ _ _ _ _ _ _ _ _ _ _ _ _ _ _ _ _ _ _ _ _ _ _ _ _ _ _ _ _ _ _ _ _ _ _ _ _ _ _ _ _ _ _ _ _ _ _ _ _ _ _ _ _ _ _ _ _ _ _ _ _ _ _ _ _ _ _ _ _ _ _ _ _ _ _ _ _ _ _ _ _ _ _ _ _ _ _ _ _ _ _ _ _ _ _ _ _ _ _ _ _ _ _ _ _ _ _ _ _ _ _ _ _ _ _ _ _ _ _ _ _ _ _ _ _ _ _ _ _ _ _ _ _ _ _ _ _ _ _ _ _ _ _ _ _ _ _ _ _ _ _ _ _ _ _ _ _ _ _ _ _ _ _ _ _ _ _ _ _ _ _ _ _ _ _ _ _ _ _ _ _ _ _ _ _ _ _ _ _ _ _ _ _ _ _ _ _ _ _ _ _ _ _ _ _
end Go.Proofs.Ytenbokdcdokhiab
