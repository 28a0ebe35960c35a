/-
  The walk of the law on IsBase: both packages answer alike, and the list that came in is as it was.
-/
import Derived.Test.YtkemegiofiemfaaQ11
import Derived.Test.YtkemegiofiemfaaH0
namespace Go.Proofs.Ytkemegiofiemfaa
open Go.RowKit
set_option linter.unusedVariables false

set_option maxRecDepth 100000 in
set_option maxHeartbeats 4000000 in
theorem fnExactIsBase_walk (a0 : Option Addr) (len0 cap0 : Nat) (z0 : List (Int × Int)) (w : World) (hr0 : IsRowF w a0 len0 z0) :
    Calls Try.prog 9 #[.slice a0 len0 cap0] w fun e w' => e = .returned (.bool true) ∧ Below w.heap.size w w' := by
  by_cases hle : len0 ≤ 1048576
  · have hxl : z0.length ≤ 1048576 := by rw [hr0.1]; exact hle
    obtain ⟨rx, rc, c1, c2⟩ := bothIsBase hxl 
    have C1 := Lib.hid c1
    have C2 := Lib.hid c2
    have HR := Lib.hid hr0
    have HX := Lib.hid hxl
    clear c1 c2 hr0 hxl
    obtain ⟨W1, hW1⟩ : ∃ W1, w = W1 := ⟨_, rfl⟩
    have hN : Below w.heap.size w W1 := by rw [← hW1]; exact Below.refl _ _
    go_enter Try.func9, Try.ntmps9
    go_wp2_with fail
    clear hW1
    refine (szFuncS_ok a0 len0 cap0 hle _).mono ?_
    rintro e w' ⟨rfl, rfl⟩
    go_wp2_with fail
    refine (toFuncS_any HR.out hle _ hN).mono ?_
    rintro e w2 ⟨s1, rfl, o, hb⟩
    have O1 := Lib.hid o
    clear o
    replace hN := bthen hN hb
    clear hb
    go_wp2_with fail
    refine (C1.out _ _ _ O1.out).mono ?_
    rintro e w3 ⟨rfl, hb⟩
    replace hN := bthen hN hb
    replace O1 := Lib.hid (O1.out.below hb)
    clear hb
    clear O1
    go_wp2_with fail
    refine (toFuncS_any HR.out hle _ hN).mono ?_
    rintro e w4 ⟨s2, rfl, o, hb⟩
    have O2 := Lib.hid o
    clear o
    replace hN := bthen hN hb
    clear hb
    go_wp2_with fail
    refine (C2.out _ _ _ O2.out).mono ?_
    rintro e w5 ⟨rfl, hb⟩
    replace hN := bthen hN hb
    replace O2 := Lib.hid (O2.out.below hb)
    clear hb
    go_wp2_with fail
    refine (toFuncS_any HR.out hle _ hN).mono ?_
    rintro e w6 ⟨s3, rfl, o, hb⟩
    have O3 := Lib.hid o
    clear o
    replace hN := bthen hN hb
    replace O2 := Lib.hid (O2.out.below hb)
    clear hb
    go_wp2_with fail
    refine (eqFuncS_same (by have := HX.out; omega) _ O2.out O3.out).mono ?_
    rintro e w7 ⟨rfl, hb⟩
    replace hN := bthen hN hb
    replace O2 := Lib.hid (O2.out.below hb)
    replace O3 := Lib.hid (O3.out.below hb)
    clear hb
    clear O3
    go_wp2
    go_ret
    exact ⟨rfl, hN⟩
  · have hlim := hr0.2.1
    clear hr0
    obtain ⟨W1, hW1⟩ : ∃ W1, w = W1 := ⟨_, rfl⟩
    have hN : Below w.heap.size w W1 := by rw [← hW1]; exact Below.refl _ _
    go_enter Try.func9, Try.ntmps9
    go_wp2_with (go_at_call 41; refine (szFuncS_over a0 len0 cap0 (by omega) hlim _).mono ?_; rintro e w' ⟨rfl, rfl⟩)
    go_ret
    exact ⟨rfl, hN⟩
end Go.Proofs.Ytkemegiofiemfaa
