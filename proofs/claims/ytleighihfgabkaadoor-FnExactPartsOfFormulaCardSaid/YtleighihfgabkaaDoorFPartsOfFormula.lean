/-
  The walk of the law on PartsOfFormula: both packages answer alike, and each answer has memory of its own.
-/
import Derived.Test.YtleighihfgabkaaDoorPF12
import Derived.Test.YtleighihfgabkaaDoorLS2
namespace Go.Proofs.YtleighihfgabkaaDoor
open Go.RowKit
set_option linter.unusedVariables false
set_option linter.unusedSimpArgs false
theorem OwnsS.other {W W' : World} {b1 b2 : Nat} {s1 s2 : Value} {xs ys : List ByteArray} (h : OwnsS W b1 s1 xs) (hg : W.grownBy W' s2.ownBlock) (h2 : OwnsS W b2 s2 ys) (hlt : ∀ k, s1.ownBlock = some k → k < b2) : OwnsS W' b1 s1 xs := by
  refine World.ownsRow.kept h hg ?_
  cases hs : s1.ownBlock with
  | none => exact .inl rfl
  | some k =>
    refine .inr ?_
    intro he
    have h3 := hlt k hs
    have h4 := (World.ownsRow.lt h2 k he.symm).1
    omega
theorem OwnsS.ltS {W : World} {b : Nat} {s : Value} {xs : List ByteArray} (h : OwnsS W b s xs) : ∀ k, s.ownBlock = some k → k < W.heap.size := fun k hk => (World.ownsRow.lt h k hk).2
theorem below_markedS {B : Nat} {W0 W W' : World} {b : Nat} {s : Value} {xs : List ByteArray} (hN : Below B W0 W) (h : OwnsS W b s xs) (hg : W.grownBy W' s.ownBlock) (hB : B ≤ b) (hs : B ≤ W.heap.size) : Below B W0 W' :=
  hN.grown hg hs (fun j e => Nat.le_trans hB (World.ownsRow.lt h j e).1)

set_option maxRecDepth 100000 in
set_option maxHeartbeats 4000000 in
theorem fnExactPartsOfFormula_walk (t0 : ByteArray) (w : World) (_ : t0.size ≤ 140737488351232) (ad : Addr) (hE : ErrAt w ad) :
    Calls Tryd.prog 10 #[.string t0] w fun e w' => e = .returned (.bool true) ∧ Below w.heap.size w w' := by
  by_cases hs : t0.size ≤ 1048576
  · obtain ⟨xs, rc, hlen, c1, c2⟩ := bothPartsOfFormula t0 hs (a := ad)
    have C1 := Lib.hid (c1 w)
    have C2 := Lib.hid c2
    have HE := Lib.hid (fun w' (hb : Below w.heap.size w w') => hE.below hb)
    clear c1 c2 hE
    have hd : decide (1048576 < (t0.size : Int)) = false := by simp; omega
    go_enter Tryd.func10, Tryd.ntmps10
    go_wp2_with fail
    -- the model
    refine (C1.out).mono ?_
    rintro e w3 ⟨s0, rfl, o0, hb⟩
    have hN3 := hb
    have O0 := Lib.hid o0
    clear hb o0
    go_wp2_with fail
    -- the program
    refine (C2.out _ (HE.out _ hN3)).mono ?_
    rintro e w5 ⟨s1, rfl, o1, hb⟩
    have hN5 := bthen hN3 hb
    have lt0 := Lib.hid O0.out.ltS
    replace O0 := Lib.hid (O0.out.below hb)
    have hs4 := hN3.size
    have O1 := Lib.hid o1
    clear hb hN3 o1
    go_wp2_with fail
    refine (eqStringS_same (by omega) _ O1.out O0.out).mono ?_
    rintro e w6 ⟨rfl, hb⟩
    have hN6 := bthen hN5 hb
    replace O0 := Lib.hid (O0.out.below hb)
    replace O1 := Lib.hid (O1.out.below hb)
    clear hb hN5
    go_wp2_with fail
    -- the marks
    refine (markS_any (by omega) _ O1.out).mono ?_
    rintro e w7 ⟨rfl, o1, hg⟩
    have hN7 := below_markedS hN6 O1.out hg hs4 hN6.size
    replace O0 := Lib.hid (O0.out.other hg O1.out lt0.out)
    have M1 := Lib.hid o1
    clear O1 o1 hg hN6
    go_wp2_with fail
    refine (heldS_any (by omega) _ M1.out).mono ?_
    rintro e w8 ⟨rfl, hb⟩
    have hN8 := bthen hN7 hb
    replace O0 := Lib.hid (O0.out.below hb)
    replace M1 := Lib.hid (M1.out.below hb)
    clear hb hN7
    have hp0 : decide (((1 + xs.length : Nat) : Int) < 0) = false := by simp; omega
    go_wp2_with fail
    -- the program once more
    refine (C2.out _ (HE.out _ hN8)).mono ?_
    rintro e w10 ⟨s2, rfl, o2, hb⟩
    have hN10 := bthen hN8 hb
    replace O0 := Lib.hid (O0.out.below hb)
    replace M1 := Lib.hid (M1.out.below hb)
    have O2 := Lib.hid o2
    clear hb hN8 o2
    go_wp2_with fail
    refine (eqStringS_same (by omega) _ O2.out O0.out).mono ?_
    rintro e w11 ⟨rfl, hb⟩
    have hN11 := bthen hN10 hb
    replace M1 := Lib.hid (M1.out.below hb)
    clear hb hN10
    go_wp2_with fail
    refine (heldS_any (by omega) _ M1.out).mono ?_
    rintro e w12 ⟨rfl, hb⟩
    have hN12 := bthen hN11 hb
    clear hb hN11
    go_wp2
    go_ret
    exact ⟨rfl, hN12⟩
  · have hd : decide (1048576 < (t0.size : Int)) = true := by simp; omega
    go_enter Tryd.func10, Tryd.ntmps10
    go_wp2_with fail
    go_ret
    exact ⟨rfl, Below.refl _ _⟩
end Go.Proofs.YtleighihfgabkaaDoor
