/-
  slices.Concat of two lists of functions.
-/
import Derived.Test.YtkemegiofiemfaaQ8
import Derived.Test.YtkemegiofiemfaaM4
namespace Go.Proofs.Ytkemegiofiemfaa
open Go.RowKit
set_option linter.unusedVariables false
set_option linter.unusedSimpArgs false

theorem growF_any (n : Nat) (h8 : n ≤ 8) (w : World) :
    Calls Try.prog 124 #[.slice none 0 0, .int .i64 (n : Int)] w fun e w' => ∃ v, e = .returned v ∧ w'.ownsRow w.heap.size 25 2 v 0 [] ∧ Below w.heap.size w w' := by
  by_cases h0 : n = 0
  · subst h0
    refine (growF_zero w).mono ?_
    rintro e w' ⟨rfl, rfl⟩
    exact ⟨_, rfl, World.ownsRow_nil _ _ _ _, Below.refl _ _⟩
  · refine (growF_some n (by omega) h8 w).mono ?_
    rintro e w' ⟨cap, rfl, h1, h2⟩
    exact ⟨_, rfl, h1, h2⟩

theorem fcells_one (ys : List (Int × Int)) : ∀ u ∈ fcells ys, u.oneCell' = true := by
  induction ys with
  | nil => intro u hu; cases hu
  | cons p l ih =>
    intro u hu
    rcases List.mem_cons.1 hu with rfl | hu
    · rfl
    · rcases List.mem_cons.1 hu with rfl | hu
      · rfl
      · exact ih u hu

set_option maxRecDepth 100000 in
set_option maxHeartbeats 4000000 in
theorem concatF_any (q : Nat) (ad1 ad2 : Addr) (c1 c2 : Nat) (ys1 ys2 : List (Int × Int)) (h8 : ys1.length + ys2.length ≤ 8) (w : World)
    (hq1 : w.cell? ⟨q, 0, none⟩ = some (.slice (some ad1) ys1.length c1)) (hq2 : w.cell? ⟨q, 1, none⟩ = some (.slice (some ad2) ys2.length c2))
    (H1 : Hid (∀ (j : Nat) (u : Value), (fcells ys1)[j]? = some u → w.cell? (ad1.add j) = some u)) (H2 : Hid (∀ (j : Nat) (u : Value), (fcells ys2)[j]? = some u → w.cell? (ad2.add j) = some u)) :
    Calls Try.prog 119 #[.slice (some ⟨q, 0, none⟩) 2 2] w fun e w' => ∃ v, e = .returned v ∧ OwnsF w' w.heap.size v (ys1 ++ ys2) ∧ Below w.heap.size w w' := by
  obtain ⟨i0, hi, hz0, hz1, hz2⟩ := info_parts infoF
  have L1 := Lib.hid (fcells_length ys1)
  have L2 := Lib.hid (fcells_length ys2)
  have O1 := Lib.hid (fcells_one ys1)
  have O2 := Lib.hid (fcells_one ys2)
  obtain ⟨m1, hm1⟩ : ∃ m, ys1.length = m := ⟨_, rfl⟩
  obtain ⟨m2, hm2⟩ : ∃ m, ys2.length = m := ⟨_, rfl⟩
  rw [hm1] at L1 hq1 h8
  rw [hm2] at L2 hq2 h8
  have HM1 := Lib.hid hm1
  have HM2 := Lib.hid hm2
  clear hm1 hm2
  have GR := Lib.hid fun W => (by have := growF_any (m1 + m2) h8 W; rwa [Int.natCast_add] at this : Calls Try.prog 124 #[.slice none 0 0, .int .i64 ((m1 : Int) + (m2 : Int))] W fun e w' => ∃ v, e = .returned v ∧ w'.ownsRow W.heap.size 25 2 v 0 [] ∧ Below W.heap.size W w')
  have hd1 : decide ((m1 : Int) < 0) = false := by simp
  have hd2 : decide ((m1 : Int) + (m2 : Int) < 0) = false := by simp; omega
  go_enter Try.func119, Try.ntmps119
  go_wp2_with fail
  refine wp_loop_rounds 3 ?_
  rw [rounds_succ]
  go_wp2_with fail
  rw [rounds_succ]
  go_wp2_with fail
  rw [rounds_succ]
  go_wp2_with fail
  refine (GR.out _).mono ?_
  rintro e w2 ⟨v, rfl, hown, hb⟩
  have q1 := kc hb hq1
  have q2 := kc hb hq2
  have hsz2 := hb.size
  have hc1 : ∀ (j : Nat) (u : Value), (fcells ys1)[j]? = some u → w2.cell? (ad1.add j) = some u := fun j u h => kc hb (H1.out j u h)
  have hc2 : ∀ (j : Nat) (u : Value), (fcells ys2)[j]? = some u → w2.cell? (ad2.add j) = some u := fun j u h => kc hb (H2.out j u h)
  have ad1v := Lib.hid hc1
  have ad2v := Lib.hid hc2
  clear hc1 hc2
  go_wp2_with fail
  refine wp_loop_rounds 3 ?_
  rw [rounds_succ]
  go_wp2_with (at_builtin; refine wpList_append_own _ rfl _ _ 40 rfl w.heap.size 25 i0 (.agg #[.int .i64 0, .int .i64 0]) 2 16 Try.underlying40 hi hz0 hz1 hz2 rfl (by decide) _ _ _ rfl hown ad1 m1 c1 (fcells ys1) rfl L1.out ad1v.out O1.out (by unfold maxLen; omega) (by omega) hsz2 ?_)
  intro v1 w3 hown1 hgrow1 _
  have hB3 : Below w.heap.size w w3 := hb.grown hgrow1 hsz2 (fun j e => (hown.lt j e).1)
  have r1 := kc hB3 hq1
  have r2 := kc hB3 hq2
  have hsz3 := hB3.size
  have hc3 := Lib.hid (fun (j : Nat) (u : Value) (h : (fcells ys2)[j]? = some u) => kc hB3 (H2.out j u h))
  clear hown hgrow1 q1 q2 hb ad1v ad2v
  go_wp2_with fail
  rw [rounds_succ]
  go_wp2_with (at_builtin; refine wpList_append_own _ rfl _ _ 40 rfl w.heap.size 25 i0 (.agg #[.int .i64 0, .int .i64 0]) 2 16 Try.underlying40 hi hz0 hz1 hz2 rfl (by decide) _ _ _ rfl hown1 ad2 m2 c2 (fcells ys2) rfl L2.out hc3.out O2.out (by unfold maxLen; omega) (by omega) hsz3 ?_)
  intro v2 w4 hown2 hgrow2 _
  have hB4 : Below w.heap.size w w4 := hB3.grown hgrow2 hsz3 (fun j e => (hown1.lt j e).1)
  have HO := Lib.hid hown2
  clear hown1 hgrow2 r1 r2 hown2
  go_wp2_with fail
  rw [rounds_succ]
  go_wp2
  go_ret
  refine ⟨_, rfl, ?_, hB4⟩
  unfold OwnsF
  rw [fcells_append, List.length_append, HM1.out, HM2.out]
  exact HO.out
end Go.Proofs.Ytkemegiofiemfaa
