/-
  The walk of the law on ShefferFunctions: both packages answer alike, and each answer has memory of its own.
-/
import Derived.Test.YtkemegiofiemfaaKSf
namespace Go.Proofs.Ytkemegiofiemfaa
open Go.RowKit

theorem below_markedF {B : Nat} {W0 W W' : World} {b : Nat} {s : Value} {xs : List (Int × Int)} (hN : Below B W0 W) (h : OwnsF W b s xs) (hg : W.grownBy W' s.ownBlock) (hB : B ≤ b) (hs : B ≤ W.heap.size) : Below B W0 W' :=
  hN.grown hg hs (fun j e => Nat.le_trans hB (h.ge j e))
theorem OwnsF.other {W W' : World} {b1 b2 : Nat} {s1 s2 : Value} {xs ys : List (Int × Int)} (h : OwnsF W b1 s1 xs) (hg : W.grownBy W' s2.ownBlock) (h2 : OwnsF W b2 s2 ys) (hlt : ∀ k, s1.ownBlock = some k → k < b2) : OwnsF W' b1 s1 xs :=
  h.keep hg fun k hk he => by
    have h3 := hlt k hk
    have h4 := h2.ge k he.symm
    omega

set_option maxRecDepth 100000 in
set_option maxHeartbeats 4000000 in
theorem fnExactShefferFunctions_walk (a0 : Int) (w : World) (wa0 : (Lit.int .i64 a0).wf = true) :
    Calls Try.prog 12 #[.int .i64 a0] w fun e w' => e = .returned (.bool true) ∧ Below w.heap.size w w' := by
  obtain ⟨xs, rc, hlen, c1, c2⟩ := bothShefferFunctions a0 wa0
  have C1 := Lib.hid c1
  have C2 := Lib.hid c2
  clear c1 c2 wa0
  go_enter Try.func12, Try.ntmps12
  go_wp2_with fail
  refine (C1.out _).mono ?_
  rintro e w3 ⟨s0, rfl, o0, hN3⟩
  have O0 := Lib.hid o0
  clear o0
  go_wp2_with fail
  have hs3 := hN3.size
  refine (C2.out _).mono ?_
  rintro e w5 ⟨s1, rfl, o1, hb⟩
  have hN5 := bthen hN3 hb
  have lt0 := Lib.hid O0.out.lt
  replace O0 := Lib.hid (O0.out.below hb)
  have O1 := Lib.hid o1
  clear hb hN3 o1
  go_wp2_with fail
  refine (eqFuncS_same (by omega) _ O1.out O0.out).mono ?_
  rintro e w6 ⟨rfl, hb⟩
  have hN6 := bthen hN5 hb
  replace O0 := Lib.hid (O0.out.below hb)
  replace O1 := Lib.hid (O1.out.below hb)
  clear hb hN5
  go_wp2_with fail
  refine (markFuncS_any (by omega) 1 (by omega) (by omega) _ O1.out).mono ?_
  rintro e w7 ⟨rfl, o1, hg⟩
  have hN7 := below_markedF hN6 O1.out hg hs3 hN6.size
  replace O0 := Lib.hid (O0.out.other hg O1.out lt0.out)
  have M1 := Lib.hid o1
  clear O1 o1 hg hN6
  go_wp2_with fail
  refine (heldFuncS_any (by omega) 1 (by omega) (by omega) _ M1.out).mono ?_
  rintro e w8 ⟨rfl, rfl⟩
  go_wp2_with fail
  refine (C2.out _).mono ?_
  rintro e w10 ⟨s2, rfl, o2, hb⟩
  have hN10 := bthen hN7 hb
  replace O0 := Lib.hid (O0.out.below hb)
  replace M1 := Lib.hid (M1.out.below hb)
  have O2 := Lib.hid o2
  clear hb hN7 o2
  go_wp2_with fail
  refine (eqFuncS_same (by omega) _ O2.out O0.out).mono ?_
  rintro e w11 ⟨rfl, hb⟩
  have hN11 := bthen hN10 hb
  replace M1 := Lib.hid (M1.out.below hb)
  clear hb hN10
  go_wp2_with fail
  refine (heldFuncS_any (by omega) 1 (by omega) (by omega) _ M1.out).mono ?_
  rintro e w12 ⟨rfl, rfl⟩
  go_wp2
  go_ret
  exact ⟨rfl, hN11⟩
end Go.Proofs.Ytkemegiofiemfaa
