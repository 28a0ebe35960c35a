/-
  The walk of the law on PutFormulas: both packages answer alike, and the list that came in is as it was.
-/
import Derived.Test.YtleighihfgabkaaDoorPU2
import Derived.Test.YtleighihfgabkaaDoorLS3
namespace Go.Proofs.YtleighihfgabkaaDoor
open Go.RowKit
set_option linter.unusedVariables false
set_option linter.unusedSimpArgs false
set_option maxRecDepth 100000 in
set_option maxHeartbeats 4000000 in
theorem fnExactPutFormulas_walk (t0 : ByteArray) (v1 : Value) (xs : List ByteArray) (w : World) (_ : t0.size ≤ 140737488351232) (hA : ArgS w v1 xs) (ad : Addr) (hE : ErrAt w ad) :
    Calls Tryd.prog 9 #[.string t0, v1] w fun e w' => e = .returned (.bool true) ∧ Below w.heap.size w w' := by
  by_cases hs : t0.size ≤ 1048576
  · have hd : decide (1048576 < (t0.size : Int)) = false := by simp; omega
    have HE := Lib.hid (fun w' (hb : Below w.heap.size w w') => hE.below hb)
    have HA := Lib.hid (fun w' (hb : Below w.heap.size w w') => hA.below hb)
    have SZ := Lib.hid (szStringS_any w hA)
    clear hA hE
    go_enter Tryd.func9, Tryd.ntmps9
    go_wp2_with fail
    refine (SZ.out).mono ?_
    rintro e w1 ⟨z, rfl, rfl, hz⟩
    rcases hz with hz | ⟨hz, hl, hx⟩
    · have c1 : decide (z < 0) = true := by simpa using hz
      go_wp2_with fail
      go_ret
      exact ⟨rfl, Below.refl _ _⟩
    · have c1 : decide (z < 0) = false := by simpa using hz
      obtain ⟨R, rc, b1, b2⟩ := bothPutFormulas t0 hs xs hx hl (ad := ad)
      have C1 := Lib.hid b1
      have C2 := Lib.hid b2
      have hq : (R.toList == R.toList) = true := beq_self_eq_true _
      clear b1 b2 hx
      go_wp2_with fail
      refine (toStringS_any hl w (HA.out _ (Below.refl _ _))).mono ?_
      rintro e w2 ⟨s2, rfl, o2, hb2⟩
      have O2 := Lib.hid o2
      clear o2
      go_wp2_with fail
      refine (C1.out _ _ _ O2.out).mono ?_
      rintro e w3 ⟨rfl, hb3⟩
      have hN3 := bthen hb2 hb3
      clear O2 hb2 hb3
      go_wp2_with fail
      refine (toStringS_any hl w3 (HA.out _ hN3)).mono ?_
      rintro e w4 ⟨s4, rfl, o4, hb4⟩
      have O4 := Lib.hid o4
      have hN4 := bthen hN3 hb4
      clear o4 hb4 hN3
      go_wp2_with fail
      refine (C2.out _ _ _ O4.out (HE.out _ hN4)).mono ?_
      rintro e w5 ⟨rfl, hb5⟩
      replace O4 := Lib.hid (O4.out.below hb5)
      have hN5 := bthen hN4 hb5
      clear hb5 hN4
      go_wp2_with fail
      refine (toStringS_any hl w5 (HA.out _ hN5)).mono ?_
      rintro e w6 ⟨s6, rfl, o6, hb6⟩
      replace O4 := Lib.hid (O4.out.below hb6)
      have O6 := Lib.hid o6
      have hN6 := bthen hN5 hb6
      clear o6 hb6 hN5
      go_wp2_with fail
      refine (eqStringS_same hl _ O4.out O6.out).mono ?_
      rintro e w7 ⟨rfl, hb7⟩
      go_wp2_with fail
      go_ret
      exact ⟨rfl, bthen hN6 hb7⟩
  · have hd : decide (1048576 < (t0.size : Int)) = true := by simp; omega
    go_enter Tryd.func9, Tryd.ntmps9
    go_wp2_with fail
    go_ret
    exact ⟨rfl, Below.refl _ _⟩
end Go.Proofs.YtleighihfgabkaaDoor
