/-
  putFrom by contract: by induction on how many are still to be put in.
-/
import Derived.Test.YtlohldddioikaaaNP1
namespace Go.Proofs.Ytlohldddioikaaa
open Go.RowKit Go.Shelf
attribute [local go_sem] Oper.semAt_some
set_option linter.unusedVariables false
set_option linter.unusedSimpArgs false

theorem YieldAt.anyD {m : Nat} (m' : Nat) {P : Program} {l : Nat} {args : Array Value} {W : World} {R : Ending → World → Prop} (h : YieldAt Fence.wide m P l args W R) : YieldAt Fence.wide m' P l args W R := by
  obtain ⟨fn, tmps, assign, body, hy, hR⟩ := h
  exact ⟨fn, tmps, assign, body, hy, hR.1, fun c cs _ => hR.2 c cs (fun d h => by cases h)⟩

/-- The iterator's memory: the tree and the list of what was put in. -/
structure SMem (T U : Nat) (L m : Nat) (tr pu : List Int) (W : World) : Prop where
  ot : Owns W T (.slice (some ⟨T, 0, none⟩) L L) tr
  ou : Owns W U (.slice (some ⟨U, 0, none⟩) m m) pu
  lt : tr.length = L
  lu : pu.length = m

set_option maxRecDepth 100000 in
set_option maxHeartbeats 4000000 in
theorem putFrom_zero {v : Nat → Nat} (hv : ∀ q, v q < 2 ^ 4) (l T U K m N L : Nat) (S : Nat → Prop) (sg : Value) (J Jx : List Out → World → Prop) (hJ : Firm K J)
    (hL : L = 2 ^ (m + 1))
    (hY : ∀ pre x W, J pre W → pre.length < N → YieldAt Fence.wide 1 Try.prog l (encS x) W fun e W' =>
      Above S W W' ∧ ((e = .returned (.bool true) ∧ J (pre ++ [x]) W') ∨ (e = .returned (.bool false) ∧ Jx (pre ++ [x]) W')))
    (n : Nat) (p : List Nat) (hp : p.length = m) (pre : List Out) (tr pu : List Int) (W : World) (hm : SMem T U L m tr pu W) (hlev : ∀ q, q < 2 ^ 0 → tr[2 ^ 0 + q]? = some ((levF v p q : Nat) : Int)) (hj : J pre W) (hN : pre.length < N) (hT : T < W.heap.size) (hU : U < W.heap.size) (hK : K ≤ W.heap.size) :
    CallsIn Fence.wide n Try.prog 107 #[.agg #[.slice (some ⟨T, 0, none⟩) L L, .slice (some ⟨U, 0, none⟩) m m, sg], .int .i64 (m : Int), .func (.yield l) #[] #[]] W fun e W' =>
      (e = .returned (.bool true) ∧ Above S W W' ∧ J (pre ++ [outOf (.slice (some ⟨U, 0, none⟩) m m) hv p]) W') ∨ (e = .returned (.bool false) ∧ Jx (pre ++ [outOf (.slice (some ⟨U, 0, none⟩) m m) hv p]) W') := by
  have hb := bnew W (.cells #[.slice (some ⟨T, 0, none⟩) L L, .slice (some ⟨U, 0, none⟩) m m, sg] 119)
  obtain ⟨W1, hW1⟩ : ∃ W1, W.alloc (.cells #[.slice (some ⟨T, 0, none⟩) L L, .slice (some ⟨U, 0, none⟩) m m, sg] 119) = W1 := ⟨_, rfl⟩
  have p0 : W1.cell? ⟨W.heap.size, 0, none⟩ = some (.slice (some ⟨T, 0, none⟩) L L) := by rw [← hW1]; simp [go_sem]
  have p1 : W1.cell? ⟨W.heap.size, 1, none⟩ = some (.slice (some ⟨U, 0, none⟩) m m) := by rw [← hW1]; simp [go_sem]
  have hL2 : 2 ≤ L := by rw [hL, Nat.pow_succ]; have := Nat.two_pow_pos m; omega
  have c1 : W1.cell? ⟨T, 1, none⟩ = some (.int .i64 (levF v p 0 : Int)) := by
    rw [hW1] at hb
    refine kc hb (cell_of_owns hm.ot (by rw [hm.lt]) 1 _ ?_)
    simpa using hlev 0 (by decide)
  have hj0 : J pre W1 := by rw [← hW1]; exact hJ.alloc _ hj
  have hj1 : J pre W1.drew := hJ _ W1 W1.drew none hj0 ⟨rfl, rfl, rfl, Nat.le_refl _, fun _ _ _ => rfl⟩ (fun r e => by cases e)
  have hL3 : (1 : Int) < (L : Int) := by omega
  rw [hW1] at hb
  obtain ⟨fn, tmps, assign, body, hy, hR⟩ := YieldAt.mono (R' := fun e W' => ∃ b, e = .returned (.bool b) ∧ Above S W1.drew W' ∧ (b = true → J (pre ++ [outOf (.slice (some ⟨U, 0, none⟩) m m) hv p]) W') ∧ (b = false → Jx (pre ++ [outOf (.slice (some ⟨U, 0, none⟩) m m) hv p]) W'))
    (YieldAt.anyD (n - 1) (hY pre (outOf (.slice (some ⟨U, 0, none⟩) m m) hv p) W1.drew hj1 hN))
    (fun e W' h => by rcases h with ⟨ha, ⟨rfl, h2⟩ | ⟨rfl, h2⟩⟩ <;> exact ⟨_, rfl, ha, by simp [h2], by simp [h2]⟩)
  have FIN := Lib.hid (fun (b : Bool) (W2 : World) (h2 : Above S W1.drew W2 ∧ (b = true → J (pre ++ [outOf (.slice (some ⟨U, 0, none⟩) m m) hv p]) W2) ∧ (b = false → Jx (pre ++ [outOf (.slice (some ⟨U, 0, none⟩) m m) hv p]) W2)) =>
    show ((Ending.returned (.bool b) = .returned (.bool true) ∧ Above S W W2 ∧ J (pre ++ [outOf (.slice (some ⟨U, 0, none⟩) m m) hv p]) W2) ∨ (Ending.returned (.bool b) = .returned (.bool false) ∧ Jx (pre ++ [outOf (.slice (some ⟨U, 0, none⟩) m m) hv p]) W2)) by
      have hA : Above S W W1.drew := Above.below hb.drew
      cases b
      · exact .inr ⟨rfl, h2.2.2 rfl⟩
      · exact .inl ⟨rfl, hA.trans h2.1, h2.2.1 rfl⟩)
  unfold encS outOf at hy
  dsimp only at hy
  clear hL hlev hY hJ hj hj1
  refine callsIn_of_wp Try.func107 rfl trivial ?_ rfl
  simp only [Try.ntmps107, List.size_toArray, List.length_cons, List.length_nil, Nat.reduceAdd, Nat.reduceSub, Array.replicate_succ, Array.replicate_zero, List.push_toArray, List.append_toArray, List.nil_append, List.cons_append]
  have hmx : Try.prog.follows .mixedOrders = true := by kernel_rfl
  gi_wp2
  clear hW1
  refine wpIn_region_any hmx ?_
  change wpAnyIn _ _ _ _ _ _ _ _ _ (World.drew _)
  refine wpAnyIn_take (i := 0) (v := ?_) rfl rfl (by kernel_rfl) (by kernel_rfl) (by kernel_rfl) (fun _ _ _ h => h) ⟨Or.inl ⟨by rfl, by intro w; go_simp; try (with_reducible rfl)⟩, fun _ => rfl⟩ ?_
  refine wpAnyIn_take (i := 1) (v := ?_) rfl rfl (by kernel_rfl) (by kernel_rfl) (by kernel_rfl) (fun _ _ _ h => h) ⟨Or.inl ⟨by rfl, by intro w; go_simp; try (with_reducible rfl)⟩, fun _ => rfl⟩ ?_
  refine wpAnyIn_take (i := 3) (v := ?_) rfl rfl (by kernel_rfl) (by kernel_rfl) (by kernel_rfl) (fun _ _ _ h => h) ⟨Or.inl ⟨by rfl, by intro w; go_simp; try (with_reducible rfl)⟩, fun _ => rfl⟩ ?_
  refine wpAnyIn_ready (rs := [2, 4]) (by kernel_rfl) (by simp) ?_
  refine AllReadyIn.cons rfl (fun K hK => ?_) ?_
  · go_simp
    refine hK _ _ ?_
    clear hK K
    refine wpAnyIn_ready (rs := [4]) (by kernel_rfl) (by simp) ?_
    refine AllReadyIn.cons rfl (fun K hK => ?_) ?_
    · go_simp
      refine hK _ _ ?_
      clear hK K
      refine wpAnyIn_ready (rs := [5]) (by kernel_rfl) (by simp) ?_
      refine AllReadyIn.cons rfl (fun K hK => ?_) ?_
      · go_simp
        refine hK _ _ ?_
        clear hK K
        refine wpAnyIn_ready (rs := [6]) (by kernel_rfl) (by simp) ?_
        refine AllReadyIn.cons rfl (fun K hK => ?_) ?_
        · go_simp
          refine hK _ _ ?_
          clear hK K
          refine wpAnyIn_ready (rs := [7]) (by kernel_rfl) (by simp) ?_
          refine AllReadyIn.cons rfl (fun K hK => ?_) ?_
          · go_simp
            refine ⟨fun h => (by cases h), ?_⟩
            refine hR.mono ?_
            rintro e W2 ⟨b, rfl, h2⟩
            dsimp only
            refine hK _ _ ?_
            clear hK K
            refine wpAnyIn_ready (rs := [8]) (by kernel_rfl) (by simp) ?_
            refine AllReadyIn.cons rfl (fun K hK => ?_) ?_
            · go_simp
              refine hK _ _ ?_
              clear hK K
              refine wpAnyIn_done (by kernel_rfl) ?_ _
              gi_wp2
              go_ret
              exact FIN.out b W2 h2
            exact AllReadyIn.nil
          exact AllReadyIn.nil
        exact AllReadyIn.nil
      exact AllReadyIn.nil
    exact AllReadyIn.nil
  refine AllReadyIn.cons rfl (fun K hK => ?_) ?_
  · go_simp
    refine hK _ _ ?_
    clear hK K
    refine wpAnyIn_ready (rs := [2, 5]) (by kernel_rfl) (by simp) ?_
    refine AllReadyIn.cons rfl (fun K hK => ?_) ?_
    · go_simp
      refine hK _ _ ?_
      clear hK K
      refine wpAnyIn_ready (rs := [5]) (by kernel_rfl) (by simp) ?_
      refine AllReadyIn.cons rfl (fun K hK => ?_) ?_
      · go_simp
        refine hK _ _ ?_
        clear hK K
        refine wpAnyIn_ready (rs := [6]) (by kernel_rfl) (by simp) ?_
        refine AllReadyIn.cons rfl (fun K hK => ?_) ?_
        · go_simp
          refine hK _ _ ?_
          clear hK K
          refine wpAnyIn_ready (rs := [7]) (by kernel_rfl) (by simp) ?_
          refine AllReadyIn.cons rfl (fun K hK => ?_) ?_
          · go_simp
            refine ⟨fun h => (by cases h), ?_⟩
            refine hR.mono ?_
            rintro e W2 ⟨b, rfl, h2⟩
            dsimp only
            refine hK _ _ ?_
            clear hK K
            refine wpAnyIn_ready (rs := [8]) (by kernel_rfl) (by simp) ?_
            refine AllReadyIn.cons rfl (fun K hK => ?_) ?_
            · go_simp
              refine hK _ _ ?_
              clear hK K
              refine wpAnyIn_done (by kernel_rfl) ?_ _
              gi_wp2
              go_ret
              exact FIN.out b W2 h2
            exact AllReadyIn.nil
          exact AllReadyIn.nil
        exact AllReadyIn.nil
      exact AllReadyIn.nil
    refine AllReadyIn.cons rfl (fun K hK => ?_) ?_
    · go_simp
      refine hK _ _ ?_
      clear hK K
      refine wpAnyIn_ready (rs := [2, 6]) (by kernel_rfl) (by simp) ?_
      refine AllReadyIn.cons rfl (fun K hK => ?_) ?_
      · go_simp
        refine hK _ _ ?_
        clear hK K
        refine wpAnyIn_ready (rs := [6]) (by kernel_rfl) (by simp) ?_
        refine AllReadyIn.cons rfl (fun K hK => ?_) ?_
        · go_simp
          refine hK _ _ ?_
          clear hK K
          refine wpAnyIn_ready (rs := [7]) (by kernel_rfl) (by simp) ?_
          refine AllReadyIn.cons rfl (fun K hK => ?_) ?_
          · go_simp
            refine ⟨fun h => (by cases h), ?_⟩
            refine hR.mono ?_
            rintro e W2 ⟨b, rfl, h2⟩
            dsimp only
            refine hK _ _ ?_
            clear hK K
            refine wpAnyIn_ready (rs := [8]) (by kernel_rfl) (by simp) ?_
            refine AllReadyIn.cons rfl (fun K hK => ?_) ?_
            · go_simp
              refine hK _ _ ?_
              clear hK K
              refine wpAnyIn_done (by kernel_rfl) ?_ _
              gi_wp2
              go_ret
              exact FIN.out b W2 h2
            exact AllReadyIn.nil
          exact AllReadyIn.nil
        exact AllReadyIn.nil
      refine AllReadyIn.cons rfl (fun K hK => ?_) ?_
      · go_simp
        refine hK _ _ ?_
        clear hK K
        refine wpAnyIn_ready (rs := [2]) (by kernel_rfl) (by simp) ?_
        refine AllReadyIn.cons rfl (fun K hK => ?_) ?_
        · go_simp
          refine hK _ _ ?_
          clear hK K
          refine wpAnyIn_ready (rs := [7]) (by kernel_rfl) (by simp) ?_
          refine AllReadyIn.cons rfl (fun K hK => ?_) ?_
          · go_simp
            refine ⟨fun h => (by cases h), ?_⟩
            refine hR.mono ?_
            rintro e W2 ⟨b, rfl, h2⟩
            dsimp only
            refine hK _ _ ?_
            clear hK K
            refine wpAnyIn_ready (rs := [8]) (by kernel_rfl) (by simp) ?_
            refine AllReadyIn.cons rfl (fun K hK => ?_) ?_
            · go_simp
              refine hK _ _ ?_
              clear hK K
              refine wpAnyIn_done (by kernel_rfl) ?_ _
              gi_wp2
              go_ret
              exact FIN.out b W2 h2
            exact AllReadyIn.nil
          exact AllReadyIn.nil
        exact AllReadyIn.nil
      exact AllReadyIn.nil
    exact AllReadyIn.nil
  exact AllReadyIn.nil
end Go.Proofs.Ytlohldddioikaaa
