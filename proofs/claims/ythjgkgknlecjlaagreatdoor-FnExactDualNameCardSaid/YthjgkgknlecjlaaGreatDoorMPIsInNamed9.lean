/-
  The texts CN36, FIsInNamed, DN in one.
-/
import Derived.Test.YthjgkgknlecjlaaGreatDoorMPIsInNamed8
import Derived.Lib.LaidTab
import Derived.Below
import Derived.RowKitTokens
import Derived.LaidLaws
import Derived.LaidHandle
import Derived.MakeChecks
import Derived.Stop.LaidErr

/- CN36:
  IsInNamed in both packages. -/
namespace Go.Proofs.YthjgkgknlecjlaaGreatDoor
open Go.RowKit Go.Shelf
set_option linter.unusedVariables false
set_option linter.unusedSimpArgs false

set_option maxHeartbeats 2000000 in
theorem specIsInNamed_no {n b : Int} (h : isF n b = false) (s : ByteArray) (w : World) :
    Calls Tryz.prog 6 #[.agg #[.int .i64 n, .int .i64 b], .string s] w fun e w' => e = .returned (.tuple #[.bool false, .int .i64 1]) ∧ Below w.heap.size w w' := by
  go_enter Tryz.func6, Tryz.ntmps6
  go_wp2_with (first
    | (go_at_call 13; refine (l01Is_is h _).mono ?_; rintro e w2 ⟨rfl, hb2⟩))
  go_ret2
  exact ⟨rfl, bthen (bnew _ _) hb2⟩
set_option maxHeartbeats 2000000 in
theorem specIsInNamed_syn {n b : Int} (h : isF n b = true) {s : ByteArray} (hb : s.size ≤ 1048576) (hs : clFind s = none) (w : World) :
    Calls Tryz.prog 6 #[.agg #[.int .i64 n, .int .i64 b], .string s] w fun e w' => e = .returned (.tuple #[.bool false, .int .i64 6]) ∧ Below w.heap.size w w' := by
  have GEN := Lib.hid (fun W => gens_none hb hs W)
  go_enter Tryz.func6, Tryz.ntmps6
  go_wp2_with (first
    | (go_at_call 13; refine (l01Is_is h _).mono ?_; rintro e w2 ⟨rfl, hb2⟩)
    | (go_at_call 14; refine (GEN.out _).mono ?_; rintro e w3 ⟨rfl, hb3⟩))
  go_ret2
  exact ⟨rfl, bthen (bthen (bnew _ _) hb2) hb3⟩
set_option maxHeartbeats 2000000 in
theorem specIsInNamed_yes {n b : Int} (h : isF n b = true) {s : ByteArray} (hb : s.size ≤ 1048576) {p : Nat × Nat} (hs : clFind s = some p) (w : World) :
    Calls Tryz.prog 6 #[.agg #[.int .i64 n, .int .i64 b], .string s] w fun e w' => e = .returned (.tuple #[.bool (inNm p n b), .int .i64 0]) ∧ Below w.heap.size w w' := by
  have GEN := Lib.hid (fun W => gens_some hb hs W)
  have IN := Lib.hid (fun W => l08In_any hb hs h W)
  generalize inNm p n b = res at IN ⊢
  obtain ⟨W1, hW1⟩ : ∃ W1, w.alloc (.cells #[.int .i64 n, .int .i64 b] 26) = W1 := ⟨_, rfl⟩
  have p0 : W1.cell? ⟨w.heap.size, 0, none⟩ = some (.int .i64 n) := by rw [← hW1]; simp [go_sem]
  have p1 : W1.cell? ⟨w.heap.size, 1, none⟩ = some (.int .i64 b) := by rw [← hW1]; simp [go_sem]
  have hB : Below w.heap.size w W1 := by rw [← hW1]; exact bnew _ _
  go_enter Tryz.func6, Tryz.ntmps6
  go_wp2_with (first
    | (go_at_call 13; refine (l01Is_is h _).mono ?_; rintro e w2 ⟨rfl, hb2⟩; have d0 := kc hb2 p0; have d1 := kc hb2 p1)
    | (go_at_call 14; refine (GEN.out _).mono ?_; rintro e w3 ⟨v, rfl, _, hb3⟩; have q0 := kc hb3 d0; have q1 := kc hb3 d1)
    | (go_at_call 15; refine (IN.out _).mono ?_; rintro e w4 ⟨rfl, hb4⟩))
  exact bodyPost_ret (v := .tuple #[.bool res, .int .i64 0]) (by simp [results, Tryz.results6, go_sem]) rfl ⟨rfl, bthen (bthen (bthen hB hb2) hb3) hb4⟩

theorem bothIsInNamed (n b : Int) (s : ByteArray) (hb : s.size ≤ 1048576) : ∃ (r : Bool) (c : Int),
    (∀ w, Calls Tryz.prog 6 #[.agg #[.int .i64 n, .int .i64 b], .string s] w fun e w' => e = .returned (.tuple #[.bool r, .int .i64 c]) ∧ Below w.heap.size w w') ∧
    (∀ w a, ErrN w a → TabN w → Calls Tryz.prog 8 #[.agg #[.int .i64 n, .int .i64 b], .string s] w fun e w' => e = .returned (.tuple #[.bool r, .int .i64 c]) ∧ Below w.heap.size w w') := by
  cases hf : isF n b
  · exact ⟨_, _, fun w => specIsInNamed_no hf s w, fun w a hE hT => implIsInNamed_no hf s w⟩
  · cases hs : clFind s with
    | none => exact ⟨_, _, fun w => specIsInNamed_syn hf hb hs w, fun w a hE hT => implIsInNamed_syn hf hs w hE⟩
    | some p => exact ⟨_, _, fun w => specIsInNamed_yes hf hb hs w, fun w a hE hT => implIsInNamed_yes hf hs w hE hT⟩
end Go.Proofs.YthjgkgknlecjlaaGreatDoor

/- FIsInNamed:
  The walk of the law on IsInNamed: both packages answer alike. -/
namespace Go.Proofs.YthjgkgknlecjlaaGreatDoor
open Go.RowKit
set_option linter.unusedVariables false
set_option linter.unusedSimpArgs false
set_option maxRecDepth 100000 in
set_option maxHeartbeats 4000000 in
theorem fnExactIsInNamed_walk (n0 : Int) (b0 : Int) (s1 : ByteArray) (w : World) (wn0 : (Lit.int .i64 n0).wf = true) (wb0 : (Lit.int .i64 b0).wf = true) (_ : s1.size ≤ 140737488351232) (ad : Addr) (hE : ErrN w ad) (hT : TabN w) :
    Calls Tryz.prog 3 #[.agg #[.int .i64 n0, .int .i64 b0], .string s1] w fun e w' => e = .returned (.bool true) ∧ Below w.heap.size w w' := by
  have hB := Below.refl w.heap.size w
  by_cases hs : s1.size ≤ 1048576
  · obtain ⟨rx, rc, c1, c2⟩ := bothIsInNamed n0 b0 s1 hs
    have C1 := Lib.hid c1
    have C2 := Lib.hid c2
    have HE := Lib.hid hE
    have HT := Lib.hid hT
    clear c1 c2 wn0 wb0 hE hT
    have hd : decide (1048576 < (s1.size : Int)) = false := by simp; omega
    clear hs
    go_enter Tryz.func3, Tryz.ntmps3
    have hB := balloc hB (.cells #[.int .i64 n0, .int .i64 b0] 23)
    go_wp2_with fail
    refine (toFunc_any n0 b0 _).mono ?_
    rintro e w1 ⟨rfl, hb1⟩
    have hB := bthen hB hb1
    obtain ⟨hc1, hf1⟩ := bcell hb1
    have l1_0 : w.heap.size < w1.heap.size := by have := hb1.size; (try simp at this); omega
    go_wp2_with fail
    refine (C1.out _).mono ?_
    rintro e w2 ⟨rfl, hb2⟩
    have hB := bthen hB hb2
    obtain ⟨hc2, hf2⟩ := bcell hb2
    have l2_0 : w.heap.size < w2.heap.size := by have := hb2.size; (try simp at this); omega
    go_wp2_with fail
    refine (toFunc_any n0 b0 _).mono ?_
    rintro e w3 ⟨rfl, hb3⟩
    have hB := bthen hB hb3
    obtain ⟨hc3, hf3⟩ := bcell hb3
    have l3_0 : w.heap.size < w3.heap.size := by have := hb3.size; (try simp at this); omega
    go_wp2_with fail
    refine (C2.out _ _ (HE.out.below hB) (HT.out.below hB)).mono ?_
    rintro e w4 ⟨rfl, hb4⟩
    have hB := bthen hB hb4
    go_wp2
    go_ret
    exact ⟨rfl, hB⟩
  · have hd : decide (1048576 < (s1.size : Int)) = true := by simp; omega
    go_enter Tryz.func3, Tryz.ntmps3
    have hB := balloc hB (.cells #[.int .i64 n0, .int .i64 b0] 23)
    go_wp2_with fail
    go_ret
    exact ⟨rfl, hB⟩
end Go.Proofs.YthjgkgknlecjlaaGreatDoor

/- DN:
  The variable of the missing name: what the row's condition gives of it. -/
namespace Go.Proofs.YthjgkgknlecjlaaGreatDoor
open Go.RowKit Go.ChangeShapes
theorem gErr : Tryz.prog.globalNamed "loop.example/g01323/impl.errNoName" = some 0 := by kernel_rfl
theorem gErrType : (Tryz.prog.globals[0]?).map (·.type) = some 82 := by kernel_rfl
theorem starErr : "*" ++ "errors.errorString" = "*errors.errorString" := by decide
theorem rowErr (u : TypeId) (h : Tryz.prog.typeName? 3 u = some "*errors.errorString") : u = 143 :=
  typeName_ptr_named (nm := "errors.errorString") (by rw [starErr]; kernel_rfl) (by kernel_rfl) (by decide) u (by rw [starErr]; exact h)
theorem cellsErr : Tryz.prog.cellsOf 159 = 1 := by kernel_rfl
theorem cellsStr : Tryz.prog.cellsOf 9 = 1 := by kernel_rfl
theorem gTab : Tryz.prog.globalNamed "strings.asciiSpace" = some 1 := by kernel_rfl
theorem gTabType : (Tryz.prog.globals[1]?).map (·.type) = some 87 := by kernel_rfl
theorem cellsU8 : Tryz.prog.cellsOf 5 = 1 := by kernel_rfl
theorem cellsTab : Tryz.prog.cellsOf 87 = 256 := by kernel_rfl
theorem tabData_eq : (Rows.laid_strings_asciiSpace : DataW Unit) = Lib.tabData .u8 Lib.asciiSpaceTab := by kernel_rfl
theorem err_of_laid {W : World} (h : laidMetH Tryz.prog [("unicode.White_Space", Rows.laid_unicode_White_Space), ("strings.asciiSpace", Rows.laid_strings_asciiSpace), ("loop.example/g01323/impl.errNoName", Rows.laid_loop_example_g01323_impl_errNoName)] W) : ∃ a, W.var? Tryz.prog "loop.example/g01323/impl.errNoName" = some #[errV a] ∧ ErrN W a ∧ TabN W := by
  rw [MakeChecks.laidMetH_plain _ _ _ (by kernel_rfl)] at h
  have h2 := laidMet.tail h
  have hT : TabN W := by
    rw [tabData_eq] at h2
    exact Lib.tabIs_of_head gTab gTabType Tryz.underlying87 Tryz.underlying5 cellsU8 cellsTab h2
  obtain ⟨a, s, hv, _, _, _⟩ := laid_sentinel (laidMet.tail h2) gErr gErrType Tryz.underlying82 rowErr Tryz.underlying143 Tryz.underlying159 rfl rfl Tryz.underlying9 cellsErr cellsStr
  exact ⟨a, hv, by unfold ErrN errV; simpa using World.var?_cell gErr hv 0, hT⟩
theorem var?_below {P : Program} {W W' : World} {n : String} {cs : Array Value} (h : W.var? P n = some cs) (hb : Below W.heap.size W W') : W'.var? P n = some cs := by
  unfold World.var? at h ⊢
  cases hg : P.globalNamed n with
  | none => simp [hg] at h
  | some g =>
    simp only [hg, Option.bind_some] at h ⊢
    have hlt : g < W.heap.size := by
      rcases Nat.lt_or_ge g W.heap.size with h' | h'
      · exact h'
      · simp [Array.getElem?_eq_none h'] at h
    rw [hb.block g hlt]
    exact h
end Go.Proofs.YthjgkgknlecjlaaGreatDoor
