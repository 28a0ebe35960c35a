/-
  The walk of the law on ClassesOf: both packages answer alike, and the list that came in is as it was.
-/
import Derived.Test.YtkemegiofiemfaaQ5
import Derived.Test.YtkemegiofiemfaaH0
import Derived.Test.YtkemegiofiemfaaH9
namespace Go.Proofs.Ytkemegiofiemfaa
open Go.RowKit
set_option linter.unusedVariables false

set_option maxRecDepth 100000 in
set_option maxHeartbeats 4000000 in
theorem fnExactClassesOf_walk (a0 : Option Addr) (len0 cap0 : Nat) (z0 : List (Int × Int)) (w : World) (hr0 : IsRowF w a0 len0 z0) :
    Calls Try.prog 7 #[.slice a0 len0 cap0] w fun e w' => e = .returned (.bool true) ∧ Below w.heap.size w w' := by
  by_cases hle : len0 ≤ 1048576
  · have hxl : z0.length ≤ 1048576 := by rw [hr0.1]; exact hle
    obtain ⟨ys, rc, hlen, c1, c2⟩ := bothClassesOf hxl 
    have C1 := Lib.hid c1
    have C2 := Lib.hid c2
    have HR := Lib.hid hr0
    have HX := Lib.hid hxl
    clear c1 c2 hr0 hxl
    obtain ⟨W1, hW1⟩ : ∃ W1, w = W1 := ⟨_, rfl⟩
    have hN : Below w.heap.size w W1 := by rw [← hW1]; exact Below.refl _ _
    go_enter Try.func7, Try.ntmps7
    go_wp2_with fail
    clear hW1
    refine (szFuncS_ok a0 len0 cap0 hle _).mono ?_
    rintro e w' ⟨rfl, rfl⟩
    go_wp2_with fail
    have hs_O1 := hN.size
    go_wp2_with fail
    refine (toFuncS_any HR.out hle _ hN).mono ?_
    rintro e w2 ⟨s1, rfl, o, hb⟩
    have O1 := Lib.hid o
    clear o
    replace hN := bthen hN hb
    clear hb
    go_wp2_with fail
    have lt_O1_O2 := Lib.hid O1.out.lt
    have hs_O2 := hN.size
    go_wp2_with fail
    refine (C1.out _ _ _ O1.out).mono ?_
    rintro e w3 ⟨s2, rfl, o, hb⟩
    have O2 := Lib.hid o
    clear o
    replace hN := bthen hN hb
    replace O1 := Lib.hid (O1.out.below hb)
    clear hb
    clear O1
    go_wp2_with fail
    have lt_O2_O3 := Lib.hid O2.out.lt
    have hs_O3 := hN.size
    go_wp2_with fail
    refine (toFuncS_any HR.out hle _ hN).mono ?_
    rintro e w4 ⟨s3, rfl, o, hb⟩
    have O3 := Lib.hid o
    clear o
    replace hN := bthen hN hb
    replace O2 := Lib.hid (O2.out.below hb)
    clear hb
    go_wp2_with fail
    have lt_O2_O4 := Lib.hid O2.out.lt
    have lt_O3_O4 := Lib.hid O3.out.lt
    have hs_O4 := hN.size
    go_wp2_with fail
    refine (C2.out _ _ _ O3.out).mono ?_
    rintro e w5 ⟨s4, rfl, o, hb⟩
    have O4 := Lib.hid o
    clear o
    replace hN := bthen hN hb
    replace O2 := Lib.hid (O2.out.below hb)
    replace O3 := Lib.hid (O3.out.below hb)
    clear hb
    go_wp2_with fail
    refine (eqInt64S_same (by omega) _ O4.out O2.out).mono ?_
    rintro e w6 ⟨rfl, hb⟩
    replace hN := bthen hN hb
    replace O2 := Lib.hid (O2.out.below hb)
    replace O3 := Lib.hid (O3.out.below hb)
    replace O4 := Lib.hid (O4.out.below hb)
    clear hb
    go_wp2_with fail
    have lt_O2_O5 := Lib.hid O2.out.lt
    have lt_O3_O5 := Lib.hid O3.out.lt
    have lt_O4_O5 := Lib.hid O4.out.lt
    have hs_O5 := hN.size
    go_wp2_with fail
    refine (toFuncS_any HR.out hle _ hN).mono ?_
    rintro e w7 ⟨s5, rfl, o, hb⟩
    have O5 := Lib.hid o
    clear o
    replace hN := bthen hN hb
    replace O2 := Lib.hid (O2.out.below hb)
    replace O3 := Lib.hid (O3.out.below hb)
    replace O4 := Lib.hid (O4.out.below hb)
    clear hb
    go_wp2_with fail
    refine (eqFuncS_same (by have := HX.out; omega) _ O3.out O5.out).mono ?_
    rintro e w8 ⟨rfl, hb⟩
    replace hN := bthen hN hb
    replace O2 := Lib.hid (O2.out.below hb)
    replace O3 := Lib.hid (O3.out.below hb)
    replace O4 := Lib.hid (O4.out.below hb)
    replace O5 := Lib.hid (O5.out.below hb)
    clear hb
    clear O5
    go_wp2_with fail
    refine (markFuncS_any (by have := HX.out; omega) 1 (by omega) (by omega) _ O3.out).mono ?_
    rintro e w9 ⟨rfl, o, hg⟩
    replace hN := below_markedF hN O3.out hg hs_O3 hN.size
    replace O2 := Lib.hid (O2.out.keep hg fun k hk he => by have h1 := lt_O2_O3.out k hk; have h2 := O3.out.ge k he.symm; omega)
    replace O4 := Lib.hid (O4.out.keep hg fun k hk he => by have h1 := lt_O3_O4.out k he.symm; have h2 := O4.out.ge k hk; omega)
    replace O3 := Lib.hid o
    clear o hg
    go_wp2_with fail
    refine (eqInt64S_same (by omega) _ O4.out O2.out).mono ?_
    rintro e w10 ⟨rfl, hb⟩
    replace hN := bthen hN hb
    replace O2 := Lib.hid (O2.out.below hb)
    replace O3 := Lib.hid (O3.out.below hb)
    replace O4 := Lib.hid (O4.out.below hb)
    clear hb
    clear O3
    go_wp2_with fail
    refine (mark_any (by omega) 1 (by omega) (by omega) _ O4.out).mono ?_
    rintro e w11 ⟨rfl, o, hg⟩
    replace hN := below_marked hN O4.out hg hs_O4 hN.size
    replace O2 := Lib.hid (O2.out.keep hg fun k hk he => by have h1 := lt_O2_O4.out k hk; have h2 := O4.out.ge k he.symm; omega)
    replace O4 := Lib.hid o
    clear o hg
    go_wp2_with fail
    refine (held_any (by omega) 1 (by omega) (by omega) _ O4.out).mono ?_
    rintro e w12 ⟨rfl, rfl⟩
    go_wp2_with fail
    have lt_O2_O6 := Lib.hid O2.out.lt
    have lt_O4_O6 := Lib.hid O4.out.lt
    have hs_O6 := hN.size
    go_wp2_with fail
    refine (toFuncS_any HR.out hle _ hN).mono ?_
    rintro e w13 ⟨s6, rfl, o, hb⟩
    have O6 := Lib.hid o
    clear o
    replace hN := bthen hN hb
    replace O2 := Lib.hid (O2.out.below hb)
    replace O4 := Lib.hid (O4.out.below hb)
    clear hb
    go_wp2_with fail
    have lt_O2_O7 := Lib.hid O2.out.lt
    have lt_O4_O7 := Lib.hid O4.out.lt
    have lt_O6_O7 := Lib.hid O6.out.lt
    have hs_O7 := hN.size
    go_wp2_with fail
    refine (C2.out _ _ _ O6.out).mono ?_
    rintro e w14 ⟨s7, rfl, o, hb⟩
    have O7 := Lib.hid o
    clear o
    replace hN := bthen hN hb
    replace O2 := Lib.hid (O2.out.below hb)
    replace O4 := Lib.hid (O4.out.below hb)
    replace O6 := Lib.hid (O6.out.below hb)
    clear hb
    clear O6
    go_wp2_with fail
    refine (eqInt64S_same (by omega) _ O7.out O2.out).mono ?_
    rintro e w15 ⟨rfl, hb⟩
    replace hN := bthen hN hb
    replace O2 := Lib.hid (O2.out.below hb)
    replace O4 := Lib.hid (O4.out.below hb)
    replace O7 := Lib.hid (O7.out.below hb)
    clear hb
    clear O7
    go_wp2_with fail
    refine (held_any (by omega) 1 (by omega) (by omega) _ O4.out).mono ?_
    rintro e w16 ⟨rfl, rfl⟩
    go_wp2
    go_ret
    exact ⟨rfl, hN⟩
  · have hlim := hr0.2.1
    clear hr0
    obtain ⟨W1, hW1⟩ : ∃ W1, w = W1 := ⟨_, rfl⟩
    have hN : Below w.heap.size w W1 := by rw [← hW1]; exact Below.refl _ _
    go_enter Try.func7, Try.ntmps7
    go_wp2_with (go_at_call 41; refine (szFuncS_over a0 len0 cap0 (by omega) hlim _).mono ?_; rintro e w' ⟨rfl, rfl⟩)
    go_ret
    exact ⟨rfl, hN⟩
end Go.Proofs.Ytkemegiofiemfaa
