/-
  The texts NP2, NP3, C2, NP4, K2, K3, K4, K5, K6, CT1, CT2, M2, M4 in one.
-/
import Derived.Test.YthkmapflbopdpaaMPEasyRow1
import Derived.StillTailTactics
import Derived.BigRegion
import Derived.Deep.SlicePairs

/- NP2:
  putFrom by contract: by induction on how many are still to be put in. -/
namespace Go.Proofs.Ythkmapflbopdpaa
open Go.RowKit Go.Shelf
attribute [local go_sem] Oper.semAt_some
set_option linter.unusedVariables false
set_option linter.unusedSimpArgs false

theorem YieldAt.anyD {m : Nat} (m' : Nat) {P : Program} {l : Nat} {args : Array Value} {W : World} {R : Ending → World → Prop} (h : YieldAt Fence.wide m P l args W R) : YieldAt Fence.wide m' P l args W R := by
  obtain ⟨fn, tmps, assign, body, hy, hR⟩ := h
  exact ⟨fn, tmps, assign, body, hy, hR.1, fun c cs _ => hR.2 c cs (fun d h => by cases h)⟩

/-- The iterator's memory: the tree and the list of what was put in. -/
structure SMem (T U : Nat) (L m : Nat) (tr pu : List Int) (W : World) : Prop where
  ot : Owns W T (.slice (some ⟨T, 0, none⟩) L L) tr
  ou : Owns W U (.slice (some ⟨U, 0, none⟩) m m) pu
  lt : tr.length = L
  lu : pu.length = m

set_option maxRecDepth 100000 in
set_option maxHeartbeats 4000000 in
theorem putFrom_zero {v : Nat → Nat} (hv : ∀ q, v q < 2 ^ 4) (l T U K m N L : Nat) (S : Nat → Prop) (sg : Value) (J Jx : List Out → World → Prop) (hJ : Firm K J)
    (hL : L = 2 ^ (m + 1))
    (hY : ∀ pre x W, J pre W → pre.length < N → YieldAt Fence.wide 1 Try.prog l (encS x) W fun e W' =>
      Above S W W' ∧ ((e = .returned (.bool true) ∧ J (pre ++ [x]) W') ∨ (e = .returned (.bool false) ∧ Jx (pre ++ [x]) W')))
    (n : Nat) (p : List Nat) (hp : p.length = m) (pre : List Out) (tr pu : List Int) (W : World) (hm : SMem T U L m tr pu W) (hlev : ∀ q, q < 2 ^ 0 → tr[2 ^ 0 + q]? = some ((levF v p q : Nat) : Int)) (hj : J pre W) (hN : pre.length < N) (hT : T < W.heap.size) (hU : U < W.heap.size) (hK : K ≤ W.heap.size) :
    CallsIn Fence.wide n Try.prog 212 #[.agg #[.slice (some ⟨T, 0, none⟩) L L, .slice (some ⟨U, 0, none⟩) m m, sg], .int .i64 (m : Int), .func (.yield l) #[] #[]] W fun e W' =>
      (e = .returned (.bool true) ∧ Above S W W' ∧ J (pre ++ [outOf (.slice (some ⟨U, 0, none⟩) m m) hv p]) W') ∨ (e = .returned (.bool false) ∧ Jx (pre ++ [outOf (.slice (some ⟨U, 0, none⟩) m m) hv p]) W') := by
  have hb := bnew W (.cells #[.slice (some ⟨T, 0, none⟩) L L, .slice (some ⟨U, 0, none⟩) m m, sg] 217)
  obtain ⟨W1, hW1⟩ : ∃ W1, W.alloc (.cells #[.slice (some ⟨T, 0, none⟩) L L, .slice (some ⟨U, 0, none⟩) m m, sg] 217) = W1 := ⟨_, rfl⟩
  have p0 : W1.cell? ⟨W.heap.size, 0, none⟩ = some (.slice (some ⟨T, 0, none⟩) L L) := by rw [← hW1]; simp [go_sem]
  have p1 : W1.cell? ⟨W.heap.size, 1, none⟩ = some (.slice (some ⟨U, 0, none⟩) m m) := by rw [← hW1]; simp [go_sem]
  have hL2 : 2 ≤ L := by rw [hL, Nat.pow_succ]; have := Nat.two_pow_pos m; omega
  have c1 : W1.cell? ⟨T, 1, none⟩ = some (.int .i64 (levF v p 0 : Int)) := by
    rw [hW1] at hb
    refine kc hb (cell_of_owns hm.ot (by rw [hm.lt]) 1 _ ?_)
    simpa using hlev 0 (by decide)
  have hj0 : J pre W1 := by rw [← hW1]; exact hJ.alloc _ hj
  have hj1 : J pre W1.drew := hJ _ W1 W1.drew none hj0 ⟨rfl, rfl, rfl, Nat.le_refl _, fun _ _ _ => rfl⟩ (fun r e => by cases e)
  have hL3 : (1 : Int) < (L : Int) := by omega
  rw [hW1] at hb
  obtain ⟨fn, tmps, assign, body, hy, hR⟩ := YieldAt.mono (R' := fun e W' => ∃ b, e = .returned (.bool b) ∧ Above S W1.drew W' ∧ (b = true → J (pre ++ [outOf (.slice (some ⟨U, 0, none⟩) m m) hv p]) W') ∧ (b = false → Jx (pre ++ [outOf (.slice (some ⟨U, 0, none⟩) m m) hv p]) W'))
    (YieldAt.anyD (n - 1) (hY pre (outOf (.slice (some ⟨U, 0, none⟩) m m) hv p) W1.drew hj1 hN))
    (fun e W' h => by rcases h with ⟨ha, ⟨rfl, h2⟩ | ⟨rfl, h2⟩⟩ <;> exact ⟨_, rfl, ha, by simp [h2], by simp [h2]⟩)
  have FIN := Lib.hid (fun (b : Bool) (W2 : World) (h2 : Above S W1.drew W2 ∧ (b = true → J (pre ++ [outOf (.slice (some ⟨U, 0, none⟩) m m) hv p]) W2) ∧ (b = false → Jx (pre ++ [outOf (.slice (some ⟨U, 0, none⟩) m m) hv p]) W2)) =>
    show ((Ending.returned (.bool b) = .returned (.bool true) ∧ Above S W W2 ∧ J (pre ++ [outOf (.slice (some ⟨U, 0, none⟩) m m) hv p]) W2) ∨ (Ending.returned (.bool b) = .returned (.bool false) ∧ Jx (pre ++ [outOf (.slice (some ⟨U, 0, none⟩) m m) hv p]) W2)) by
      have hA : Above S W W1.drew := Above.below hb.drew
      cases b
      · exact .inr ⟨rfl, h2.2.2 rfl⟩
      · exact .inl ⟨rfl, hA.trans h2.1, h2.2.1 rfl⟩)
  unfold encS outOf at hy
  dsimp only at hy
  clear hL hlev hY hJ hj hj1
  refine callsIn_of_wp Try.func212 rfl trivial ?_ rfl
  simp only [Try.ntmps212, List.size_toArray, List.length_cons, List.length_nil, Nat.reduceAdd, Nat.reduceSub, Array.replicate_succ, Array.replicate_zero, List.push_toArray, List.append_toArray, List.nil_append, List.cons_append]
  have hmx : Try.prog.follows .mixedOrders = true := by kernel_rfl
  gi_wp2
  clear hW1
  refine wpIn_region_any hmx ?_
  change wpAnyIn _ _ _ _ _ _ _ _ _ (World.drew _)
  refine wpAnyIn_take (i := 0) (v := ?_) rfl rfl (by kernel_rfl) (by kernel_rfl) (by kernel_rfl) (fun _ _ _ h => h) ⟨Or.inl ⟨by rfl, by intro w; go_simp; try (with_reducible rfl)⟩, fun _ => rfl⟩ ?_
  refine wpAnyIn_take (i := 1) (v := ?_) rfl rfl (by kernel_rfl) (by kernel_rfl) (by kernel_rfl) (fun _ _ _ h => h) ⟨Or.inl ⟨by rfl, by intro w; go_simp; try (with_reducible rfl)⟩, fun _ => rfl⟩ ?_
  refine wpAnyIn_take (i := 3) (v := ?_) rfl rfl (by kernel_rfl) (by kernel_rfl) (by kernel_rfl) (fun _ _ _ h => h) ⟨Or.inl ⟨by rfl, by intro w; go_simp; try (with_reducible rfl)⟩, fun _ => rfl⟩ ?_
  refine wpAnyIn_ready (rs := [2, 4]) (by kernel_rfl) (by simp) ?_
  refine AllReadyIn.cons rfl (fun K hK => ?_) ?_
  · go_simp
    refine hK _ _ ?_
    clear hK K
    refine wpAnyIn_ready (rs := [4]) (by kernel_rfl) (by simp) ?_
    refine AllReadyIn.cons rfl (fun K hK => ?_) ?_
    · go_simp
      refine hK _ _ ?_
      clear hK K
      refine wpAnyIn_ready (rs := [5]) (by kernel_rfl) (by simp) ?_
      refine AllReadyIn.cons rfl (fun K hK => ?_) ?_
      · go_simp
        refine hK _ _ ?_
        clear hK K
        refine wpAnyIn_ready (rs := [6]) (by kernel_rfl) (by simp) ?_
        refine AllReadyIn.cons rfl (fun K hK => ?_) ?_
        · go_simp
          refine hK _ _ ?_
          clear hK K
          refine wpAnyIn_ready (rs := [7]) (by kernel_rfl) (by simp) ?_
          refine AllReadyIn.cons rfl (fun K hK => ?_) ?_
          · go_simp
            refine ⟨fun h => (by cases h), ?_⟩
            refine hR.mono ?_
            rintro e W2 ⟨b, rfl, h2⟩
            dsimp only
            refine hK _ _ ?_
            clear hK K
            refine wpAnyIn_ready (rs := [8]) (by kernel_rfl) (by simp) ?_
            refine AllReadyIn.cons rfl (fun K hK => ?_) ?_
            · go_simp
              refine hK _ _ ?_
              clear hK K
              refine wpAnyIn_done (by kernel_rfl) ?_ _
              gi_wp2
              go_ret
              exact FIN.out b W2 h2
            exact AllReadyIn.nil
          exact AllReadyIn.nil
        exact AllReadyIn.nil
      exact AllReadyIn.nil
    exact AllReadyIn.nil
  refine AllReadyIn.cons rfl (fun K hK => ?_) ?_
  · go_simp
    refine hK _ _ ?_
    clear hK K
    refine wpAnyIn_ready (rs := [2, 5]) (by kernel_rfl) (by simp) ?_
    refine AllReadyIn.cons rfl (fun K hK => ?_) ?_
    · go_simp
      refine hK _ _ ?_
      clear hK K
      refine wpAnyIn_ready (rs := [5]) (by kernel_rfl) (by simp) ?_
      refine AllReadyIn.cons rfl (fun K hK => ?_) ?_
      · go_simp
        refine hK _ _ ?_
        clear hK K
        refine wpAnyIn_ready (rs := [6]) (by kernel_rfl) (by simp) ?_
        refine AllReadyIn.cons rfl (fun K hK => ?_) ?_
        · go_simp
          refine hK _ _ ?_
          clear hK K
          refine wpAnyIn_ready (rs := [7]) (by kernel_rfl) (by simp) ?_
          refine AllReadyIn.cons rfl (fun K hK => ?_) ?_
          · go_simp
            refine ⟨fun h => (by cases h), ?_⟩
            refine hR.mono ?_
            rintro e W2 ⟨b, rfl, h2⟩
            dsimp only
            refine hK _ _ ?_
            clear hK K
            refine wpAnyIn_ready (rs := [8]) (by kernel_rfl) (by simp) ?_
            refine AllReadyIn.cons rfl (fun K hK => ?_) ?_
            · go_simp
              refine hK _ _ ?_
              clear hK K
              refine wpAnyIn_done (by kernel_rfl) ?_ _
              gi_wp2
              go_ret
              exact FIN.out b W2 h2
            exact AllReadyIn.nil
          exact AllReadyIn.nil
        exact AllReadyIn.nil
      exact AllReadyIn.nil
    refine AllReadyIn.cons rfl (fun K hK => ?_) ?_
    · go_simp
      refine hK _ _ ?_
      clear hK K
      refine wpAnyIn_ready (rs := [2, 6]) (by kernel_rfl) (by simp) ?_
      refine AllReadyIn.cons rfl (fun K hK => ?_) ?_
      · go_simp
        refine hK _ _ ?_
        clear hK K
        refine wpAnyIn_ready (rs := [6]) (by kernel_rfl) (by simp) ?_
        refine AllReadyIn.cons rfl (fun K hK => ?_) ?_
        · go_simp
          refine hK _ _ ?_
          clear hK K
          refine wpAnyIn_ready (rs := [7]) (by kernel_rfl) (by simp) ?_
          refine AllReadyIn.cons rfl (fun K hK => ?_) ?_
          · go_simp
            refine ⟨fun h => (by cases h), ?_⟩
            refine hR.mono ?_
            rintro e W2 ⟨b, rfl, h2⟩
            dsimp only
            refine hK _ _ ?_
            clear hK K
            refine wpAnyIn_ready (rs := [8]) (by kernel_rfl) (by simp) ?_
            refine AllReadyIn.cons rfl (fun K hK => ?_) ?_
            · go_simp
              refine hK _ _ ?_
              clear hK K
              refine wpAnyIn_done (by kernel_rfl) ?_ _
              gi_wp2
              go_ret
              exact FIN.out b W2 h2
            exact AllReadyIn.nil
          exact AllReadyIn.nil
        exact AllReadyIn.nil
      refine AllReadyIn.cons rfl (fun K hK => ?_) ?_
      · go_simp
        refine hK _ _ ?_
        clear hK K
        refine wpAnyIn_ready (rs := [2]) (by kernel_rfl) (by simp) ?_
        refine AllReadyIn.cons rfl (fun K hK => ?_) ?_
        · go_simp
          refine hK _ _ ?_
          clear hK K
          refine wpAnyIn_ready (rs := [7]) (by kernel_rfl) (by simp) ?_
          refine AllReadyIn.cons rfl (fun K hK => ?_) ?_
          · go_simp
            refine ⟨fun h => (by cases h), ?_⟩
            refine hR.mono ?_
            rintro e W2 ⟨b, rfl, h2⟩
            dsimp only
            refine hK _ _ ?_
            clear hK K
            refine wpAnyIn_ready (rs := [8]) (by kernel_rfl) (by simp) ?_
            refine AllReadyIn.cons rfl (fun K hK => ?_) ?_
            · go_simp
              refine hK _ _ ?_
              clear hK K
              refine wpAnyIn_done (by kernel_rfl) ?_ _
              gi_wp2
              go_ret
              exact FIN.out b W2 h2
            exact AllReadyIn.nil
          exact AllReadyIn.nil
        exact AllReadyIn.nil
      exact AllReadyIn.nil
    exact AllReadyIn.nil
  exact AllReadyIn.nil
end Go.Proofs.Ythkmapflbopdpaa

/- NP3:
  putFrom by contract: one more to put in. -/
namespace Go.Proofs.Ythkmapflbopdpaa
open Go.RowKit Go.Shelf
set_option linter.unusedVariables false
set_option linter.unusedSimpArgs false

theorem Firm.drew {β : Type} {K : Nat} {J : β → World → Prop} (h : Firm K J) {s : β} {W : World} (hs : J s W) : J s W.drew :=
  h s W W.drew none hs ⟨rfl, rfl, rfl, Nat.le_refl _, fun _ _ _ => rfl⟩ (fun r e => by cases e)
theorem Firm.set {β : Type} {K : Nat} {J : β → World → Prop} (h : Firm K J) {s : β} {W : World} (b o : Nat) (v : Value) (hs : J s W) (hb : K ≤ b) : J s (W.setCell ⟨b, o, none⟩ v) :=
  h s W _ (some b) hs (grownSet W b o v) (fun r e => by cases e; exact hb)

/-- All that is handed out behind p. -/
def outs (sp : Value) {v : Nat → Nat} (hv : ∀ q, v q < 2 ^ 4) (gs p : List Nat) (d : Nat) : List Out := (allP gs d).map fun t => outOf sp hv (p ++ t)
theorem outs_zero (sp : Value) {v : Nat → Nat} (hv : ∀ q, v q < 2 ^ 4) (gs p : List Nat) : outs sp hv gs p 0 = [outOf sp hv p] := by simp [outs, allP]
/-- .. the first j of what is put in next. -/
def outsTo (sp : Value) {v : Nat → Nat} (hv : ∀ q, v q < 2 ^ 4) (gs p : List Nat) (d j : Nat) : List Out := (gs.take j).flatMap fun a => outs sp hv gs (p ++ [a]) d
theorem outsTo_succ (sp : Value) {v : Nat → Nat} (hv : ∀ q, v q < 2 ^ 4) (gs p : List Nat) (d j a : Nat) (h : gs[j]? = some a) : outsTo sp hv gs p d (j + 1) = outsTo sp hv gs p d j ++ outs sp hv gs (p ++ [a]) d := by
  obtain ⟨hj, e⟩ := List.getElem?_eq_some_iff.1 h
  unfold outsTo
  rw [List.take_succ_eq_append_getElem hj, List.flatMap_append, e]
  simp
theorem outs_succ (sp : Value) {v : Nat → Nat} (hv : ∀ q, v q < 2 ^ 4) (gs p : List Nat) (d : Nat) : outs sp hv gs p (d + 1) = outsTo sp hv gs p d gs.length := by
  unfold outsTo outs
  rw [List.take_length, allP, List.map_flatMap]
  congr 1
  funext a
  rw [List.map_map]
  congr 1
  funext t
  simp
theorem outs_length (sp : Value) {v : Nat → Nat} (hv : ∀ q, v q < 2 ^ 4) (gs p : List Nat) (d : Nat) : (outs sp hv gs p d).length = gs.length ^ d := by simp [outs, allP_length]
theorem outsTo_length (sp : Value) {v : Nat → Nat} (hv : ∀ q, v q < 2 ^ 4) (gs p : List Nat) (d j : Nat) (hj : j ≤ gs.length) : (outsTo sp hv gs p d j).length = j * gs.length ^ d := by
  simp [outsTo, List.length_flatMap, outs_length, List.map_const', List.sum_replicate_nat, Nat.min_eq_left hj]

theorem outsTo_pref (sp : Value) {v : Nat → Nat} (hv : ∀ q, v q < 2 ^ 4) (gs p : List Nat) (d j k : Nat) (h : j ≤ k) : outsTo sp hv gs p d j <+: outsTo sp hv gs p d k := by
  unfold outsTo
  have e : gs.take k = gs.take j ++ (gs.take k).drop j := by
    conv => lhs; rw [← List.take_append_drop j (gs.take k), List.take_take, Nat.min_eq_left h]
  rw [e, List.flatMap_append]
  exact ⟨_, rfl⟩
theorem outsTo_cat (sp : Value) {v : Nat → Nat} (hv : ∀ q, v q < 2 ^ 4) (gs p : List Nat) (d j a : Nat) (h : gs[j]? = some a) (q : List Out) (hq : q <+: outs sp hv gs (p ++ [a]) d) : outsTo sp hv gs p d j ++ q <+: outsTo sp hv gs p d (j + 1) := by
  rw [outsTo_succ sp hv gs p d j a h]
  exact (List.prefix_append_right_inj _).2 hq

/-- What putFrom answers, and what it leaves. -/
def PutPost {v : Nat → Nat} (hv : ∀ q, v q < 2 ^ 4) (T U L m d : Nat) (S : Nat → Prop) (J Jx : List Out → World → Prop) (gs p : List Nat) (pre : List Out) (tr : List Int) (W : World) (e : Ending) (W' : World) : Prop :=
  (e = .returned (.bool true) ∧ Above (fun k => S k ∧ k ≠ T ∧ k ≠ U) W W' ∧ (∃ tr' pu', SMem T U L m tr' pu' W' ∧ ∀ j, 2 ^ d ≤ j → tr'[j]? = tr[j]?) ∧ J (pre ++ outs (.slice (some ⟨U, 0, none⟩) m m) hv gs p d) W') ∨
  (e = .returned (.bool false) ∧ ∃ q, q <+: outs (.slice (some ⟨U, 0, none⟩) m m) hv gs p d ∧ Jx (pre ++ q) W')

/-- What is asked of memory at a call of putFrom. -/
structure PutPre (v : Nat → Nat) (T U L m d K N : Nat) (S : Nat → Prop) (J : List Out → World → Prop) (sg : Value) (gs p : List Nat) (pre : List Out) (tr pu : List Int) (W : World) : Prop where
  hp : p.length + d = m
  hm : SMem T U L m tr pu W
  hlev : ∀ q, q < 2 ^ d → tr[2 ^ d + q]? = some ((levF v p q : Nat) : Int)
  hj : J pre W
  hN : pre.length + gs.length ^ d ≤ N
  hK : K ≤ W.heap.size
  hg : Owns W 0 sg (nI gs)

/-- What stays as it is. -/
structure PutFix (T U L m K : Nat) (S : Nat → Prop) (sg : Value) (gs : List Nat) : Prop where
  hL : L = 2 ^ (m + 1)
  m4 : m ≤ 4
  kT : K ≤ T
  kU : K ≤ U
  ne : T ≠ U
  kS : ∀ k, K ≤ k → S k
  gS : ∀ k, sg.ownBlock = some k → S k ∧ k ≠ T ∧ k ≠ U
  g16 : ∀ a, a ∈ gs → a < 16
  gl : gs.length ≤ 16

set_option maxRecDepth 100000 in
set_option maxHeartbeats 8000000 in
theorem putFrom_succ {v : Nat → Nat} (hv : ∀ q, v q < 2 ^ 4) (l T U K m N L : Nat) (S : Nat → Prop) (sg : Value) (gs : List Nat) (J Jx : List Out → World → Prop) (hJ : Firm K J) (fx : PutFix T U L m K S sg gs) (d : Nat)
    (ih : ∀ p pre tr pu W, PutPre v T U L m d K N S J sg gs p pre tr pu W →
      Calls Try.prog 212 #[.agg #[.slice (some ⟨T, 0, none⟩) L L, .slice (some ⟨U, 0, none⟩) m m, sg], .int .i64 (p.length : Int), .func (.yield l) #[] #[]] W (PutPost hv T U L m d S J Jx gs p pre tr W))
    (p : List Nat) (pre : List Out) (tr pu : List Int) (W : World) (h : PutPre v T U L m (d + 1) K N S J sg gs p pre tr pu W) :
    Calls Try.prog 212 #[.agg #[.slice (some ⟨T, 0, none⟩) L L, .slice (some ⟨U, 0, none⟩) m m, sg], .int .i64 (p.length : Int), .func (.yield l) #[] #[]] W (PutPost hv T U L m (d + 1) S J Jx gs p pre tr W) := by
  obtain ⟨i, hi'⟩ : ∃ i, p.length = i := ⟨_, rfl⟩
  obtain ⟨hp, hm, hlev, hj, hN, hK, hg⟩ := h
  obtain ⟨hL, m4, kT, kU, ne, kS, gS, g16, gl⟩ := fx
  have lT : T < W.heap.size := (World.ownsRow.lt hm.ot T rfl).2
  have lU : U < W.heap.size := (World.ownsRow.lt hm.ou U rfl).2
  obtain ⟨W1, hW1⟩ : ∃ W1, W.alloc (.cells #[.slice (some ⟨T, 0, none⟩) L L, .slice (some ⟨U, 0, none⟩) m m, sg] 217) = W1 := ⟨_, rfl⟩
  have p0 : W1.cell? ⟨W.heap.size, 0, none⟩ = some (.slice (some ⟨T, 0, none⟩) L L) := by rw [← hW1]; simp [go_sem]
  have p1 : W1.cell? ⟨W.heap.size, 1, none⟩ = some (.slice (some ⟨U, 0, none⟩) m m) := by rw [← hW1]; simp [go_sem]
  have p2 : W1.cell? ⟨W.heap.size, 2, none⟩ = some sg := by rw [← hW1]; simp [go_sem]
  have hb : Below W.heap.size W W1 := by rw [← hW1]; exact bnew _ _
  have sB : S W.heap.size ∧ W.heap.size ≠ T ∧ W.heap.size ≠ U := ⟨kS _ hK, by omega, by omega⟩
  have hA1 : Above (fun k => S k ∧ k ≠ T ∧ k ≠ U) W W1 := Above.below hb
  have hm1 : SMem T U L m tr pu W1 := ⟨hm.ot.below hb, hm.ou.below hb, hm.lt, hm.lu⟩
  have hg1 : Owns W1 0 sg (nI gs) := hg.below hb
  have hj1 : J pre W1 := by rw [← hW1]; exact hJ.alloc _ hj
  obtain ⟨sa, cap, rfl⟩ : ∃ a cap, sg = .slice a gs.length cap := by
    obtain ⟨a, cap, e⟩ := owns_len hg (nI_length gs)
    exact ⟨a, cap, e⟩
  rw [hi'] at hp ⊢
  have hd4 : d ≤ 3 := by omega
  have hlp : (i : Int) < (m : Int) := by omega
  have hne : ((i : Int) == (m : Int)) = false := by simp; omega
  have hs1 : (m : Int) - (i : Int) - 1 = (d : Int) := by omega
  obtain ⟨F, hFd⟩ : ∃ F, F = 2 ^ d := ⟨_, rfl⟩
  have hF : wrap64 ((2 : Int) ^ d) = (F : Int) := by
    have h8 : F ≤ 8 := by rw [hFd]; exact Nat.pow_le_pow_right (by decide) hd4
    have e : (2 : Int) ^ d = (F : Int) := by rw [hFd]; push_cast; rfl
    rw [e]
    exact IntWalk.wrap64_in _ ⟨by omega, by omega⟩
  have F1 : 1 ≤ F := by rw [hFd]; exact Nat.two_pow_pos d
  have F8 : F ≤ 8 := by rw [hFd]; exact Nat.pow_le_pow_right (by decide) hd4
  have hF2 : 2 ^ (d + 1) = 2 * F := by rw [hFd, Nat.pow_succ]; omega
  have FL : 4 * F ≤ L := by
    rw [hFd, hL]
    have h1 : 2 ^ (d + 2) ≤ 2 ^ (m + 1) := Nat.pow_le_pow_right (by decide) (by omega)
    have h2 : 2 ^ (d + 2) = 4 * 2 ^ d := by rw [Nat.pow_succ, Nat.pow_succ, Nat.mul_assoc, Nat.mul_comm]
    exact h2 ▸ h1
  have L32 : L ≤ 32 := by rw [hL]; exact Nat.pow_le_pow_right (by decide) (show m + 1 ≤ 5 by omega)
  rw [hF2] at hlev
  have HF2 := Lib.hid hF2
  have HLV := Lib.hid hlev
  have HFD := Lib.hid hFd
  have HN := Lib.hid hN
  have HOS := Lib.hid (outs_succ (.slice (some ⟨U, 0, none⟩) m m) hv gs p d)
  have HI := Lib.hid hi'
  clear hi'
  clear hL hF2 hFd hlev hN hm hg hj hb
  go_enter Try.func212, Try.ntmps212
  go_wp2_with fail
  clear hW1
  rw [hF]
  clear hF
  go_loopw [34] (fun j' wr => ∃ j : Nat, j ≤ gs.length ∧ j' = .int .i64 j ∧ (∃ trj puj, SMem T U L m trj puj wr ∧ ∀ x, 2 * F ≤ x → trj[x]? = tr[x]?) ∧ Above (fun k => S k ∧ k ≠ T ∧ k ≠ U) W1 wr ∧ J (pre ++ outsTo (.slice (some ⟨U, 0, none⟩) m m) hv gs p d j) wr)
    (fun j' _ => gs.length - (intOf j').toNat)
  case atStart => exact ⟨0, Nat.zero_le _, rfl, ⟨tr, pu, hm1, fun _ _ => rfl⟩, Above.refl _ _, by simpa [outsTo] using hj1⟩
  case round =>
    obtain ⟨j, hjl, rfl, ⟨trj, puj, hmj, hkeep⟩, hAj, hJj⟩ := hrel
    by_cases hlt : j < gs.length
    · obtain ⟨a, ha⟩ : ∃ a, gs[j]? = some a := ⟨_, List.getElem?_eq_getElem hlt⟩
      have a16 : a < 16 := g16 a (List.mem_of_getElem? ha)
      obtain ⟨G, rfl⟩ : ∃ G, sa = some ⟨G, 0, none⟩ := by
        rcases hg1.shape with ⟨e, _⟩ | ⟨_, g, c, e, _⟩
        · have := congrArg List.length e; rw [nI_length] at this; simp at this; rw [this] at hlt; simp at hlt
        · injection e with e1 _ _
          exact ⟨g, e1⟩
      have hgj := owns_above hg1 hAj gS
      have cG : wr.cell? ⟨G, j, none⟩ = some (.int .i64 (a : Int)) := cell_of_owns hgj (by rw [nI_length]) j _ (by simp [nI, ha])
      have q0 := cell_above hAj sB p0
      have q1 := cell_above hAj sB p1
      obtain ⟨W2, hW2⟩ : ∃ W2, wr.setCell ⟨U, i, none⟩ (.int .i64 (a : Int)) = W2 := ⟨_, rfl⟩
      obtain ⟨u, cu⟩ : ∃ u, wr.cell? ⟨U, i, none⟩ = some u := by
        have hl : i < puj.length := by rw [hmj.lu]; omega
        exact ⟨_, cell_of_owns hmj.ou (by rw [hmj.lu]) i _ (List.getElem?_eq_getElem hl)⟩
      have fu : wr.frozen? ⟨U, i, none⟩ = false := by
        have := hmj.ou; rw [← hmj.lu] at this; exact frozen_of_owns this i
      have hm2 : SMem T U L m trj (puj.set i a) W2 := by
        rw [← hW2]
        exact ⟨owns_other hmj.ot U i _ (fun k e => by cases e; exact ne), owns_set hmj.ou hmj.lu.symm i a, hmj.lt, by rw [List.length_set]; exact hmj.lu⟩
      have hA2 : Above (fun k => S k ∧ k ≠ T ∧ k ≠ U) W1 W2 := by
        rw [← hW2]; exact hAj.trans (Above.grown (grownSet _ _ _ _) (fun r e h => by cases e; exact h.2.2 rfl))
      have hJ2 : J (pre ++ outsTo (.slice (some ⟨U, 0, none⟩) m m) hv gs p d j) W2 := by
        rw [← hW2]; exact hJ _ _ _ _ hJj (grownSet _ _ _ _) (fun r e => by cases e; exact kU)
      have HA := Lib.hid ha
      clear ha hmj hAj hJj hgj
      go_wp2
      go_loopw [10] (fun pl wq => ∃ k : Nat, k ≤ F ∧ pl = .int .i64 ((F + k : Nat) : Int) ∧ SMem T U L m (setsN trj F (fun q => ((levF v (p ++ [a]) q : Nat) : Int)) k) (puj.set i a) wq ∧ Above (fun k => S k ∧ k ≠ T ∧ k ≠ U) W1 wq ∧ J (pre ++ outsTo (.slice (some ⟨U, 0, none⟩) m m) hv gs p d j) wq)
        (fun pl _ => 2 * F - (intOf pl).toNat)
      case atStart => exact ⟨0, Nat.zero_le _, by simp, hm2, hA2, hJ2⟩
      case round =>
        clear q0 q1 cG cu fu hW2 hm2 hA2 hJ2
        obtain ⟨k, hk, rfl, hmq, hAq, hJq⟩ := hrel
        have q0 := cell_above hAq sB p0
        have q1 := cell_above hAq sB p1
        have q2 := cell_above hAq sB p2
        by_cases hkl : k < F
        · have hx1 : (setsN trj F (fun q => ((levF v (p ++ [a]) q : Nat) : Int)) k)[2 * (F + k)]? = some ((levF v p (2 * k) : Nat) : Int) := by
            rw [setsN_out _ _ _ _ _ (by omega), hkeep _ (by omega), show 2 * (F + k) = 2 * F + 2 * k by omega]
            exact HLV.out _ (by omega)
          have hx2 : (setsN trj F (fun q => ((levF v (p ++ [a]) q : Nat) : Int)) k)[2 * (F + k) + 1]? = some ((levF v p (2 * k + 1) : Nat) : Int) := by
            rw [setsN_out _ _ _ _ _ (by omega), hkeep _ (by omega), show 2 * (F + k) + 1 = 2 * F + (2 * k + 1) by omega]
            exact HLV.out _ (by omega)
          have hlev2 := Lib.hid (levF_snoc v p a k)
          have hop := sel_ops (levF v p (2 * k)) (levF_lt hv p _) (levF v p (2 * k + 1)) (levF_lt hv p _) a a16
          have x16 := levF_lt hv p (2 * k)
          generalize levF v p (2 * k) = x1 at hx1 hlev2 hop x16
          generalize levF v p (2 * k + 1) = x2 at hx2 hlev2 hop
          obtain ⟨P, hP⟩ : ∃ P, P = F + k := ⟨_, rfl⟩
          obtain ⟨A, hA⟩ : ∃ A, A = 2 * P := ⟨_, rfl⟩
          obtain ⟨B, hB⟩ : ∃ B, B = A + 1 := ⟨_, rfl⟩
          have hw1 : IntKind.i64.wrap (2 * (P : Int)) = (A : Int) := by rw [wrap64_small (by omega) (by omega)]; omega
          have hw2 : IntKind.i64.wrap ((A : Int) + 1) = (B : Int) := by rw [wrap64_small (by omega) (by omega)]; omega
          have c1 : wr.cell? ⟨T, A, none⟩ = some (.int .i64 (x1 : Int)) := cell_of_owns hmq.ot (by rw [hmq.lt]) A _ (by rw [hA, hP]; exact hx1)
          have c2 : wr.cell? ⟨T, B, none⟩ = some (.int .i64 (x2 : Int)) := cell_of_owns hmq.ot (by rw [hmq.lt]) B _ (by rw [hB, hA, hP]; exact hx2)
          have hPL : P < L := by omega
          have hAL : A < L := by omega
          have hBL : B < L := by omega
          have hP2 : (P : Int) < 2 * (F : Int) := by omega
          obtain ⟨u3, c3⟩ : ∃ u, wr.cell? ⟨T, P, none⟩ = some u := by
            have hl : P < (setsN trj F (fun q => ((levF v (p ++ [a]) q : Nat) : Int)) k).length := by rw [hmq.lt]; omega
            exact ⟨_, cell_of_owns hmq.ot (by rw [hmq.lt]) P _ (List.getElem?_eq_getElem hl)⟩
          have f3 : wr.frozen? ⟨T, P, none⟩ = false := by
            have := hmq.ot; rw [← hmq.lt] at this; exact frozen_of_owns this P
          have HMQ := Lib.hid hmq
          have HPK := Lib.hid hP
          have hA3 := Lib.hid hA
          have hB3 := Lib.hid hB
          rw [← hP]
          clear hx1 hx2 hmq hA hB hP
          go_wp2
          go_region
          go_wp2
          go_roundw
          case rel =>
            have hl2 := hlev2.out
            refine ⟨k + 1, by omega, ?_, ?_, ?_, ?_⟩
            · rw [HPK.out]; go_num
            · have hst := owns_set HMQ.out.ot HMQ.out.lt.symm P ((selN x1 x2 a : Nat) : Int)
              have e : (setsN trj F (fun q => ((levF v (p ++ [a]) q : Nat) : Int)) k).set P ((selN x1 x2 a : Nat) : Int) = setsN trj F (fun q => ((levF v (p ++ [a]) q : Nat) : Int)) (k + 1) := by
                rw [setsN, hl2, HPK.out]
              rw [e] at hst
              exact ⟨hst.below (Below.refl _ _).drew, (owns_other HMQ.out.ou T P _ (fun k e => by cases e; exact fun h => ne h.symm)).below (Below.refl _ _).drew, by rw [setsN_length, ← setsN_length trj F (fun q => ((levF v (p ++ [a]) q : Nat) : Int)) k]; exact HMQ.out.lt, HMQ.out.lu⟩
            · exact hAq.trans ((Above.grown (grownSet wr T P _) (fun r e h => by cases e; exact h.2.1 rfl)).trans (Above.below (Below.refl _ _).drew))
            · exact hJ.drew (hJ.set T P _ hJq kT)
          case measure => simp [intOf]; omega
        · obtain rfl : k = F := by omega
          have hsN := setsN_length trj k (fun q => ((levF v (p ++ [a]) q : Nat) : Int)) k
          have hlen2 : (p ++ [a]).length = i + 1 := by rw [List.length_append, HI.out]; rfl
          have hN2 : (pre ++ outsTo (.slice (some ⟨U, 0, none⟩) m m) hv gs p d j).length + gs.length ^ d ≤ N := by
            have h1 := HN.out
            rw [List.length_append, outsTo_length _ _ _ _ _ _ hjl]
            have h2 : (j + 1) * gs.length ^ d ≤ gs.length * gs.length ^ d := Nat.mul_le_mul_right _ hlt
            rw [Nat.pow_succ, Nat.mul_comm] at h1
            rw [Nat.add_mul, Nat.one_mul] at h2
            omega
          have hKr : K ≤ wr.heap.size := Nat.le_trans (Nat.le_trans hK (Nat.le_trans (by have := hA1.size; exact this) (Nat.le_refl _))) hAq.size
          have IH := ih (p ++ [a]) (pre ++ outsTo (.slice (some ⟨U, 0, none⟩) m m) hv gs p d j) (setsN trj k (fun q => ((levF v (p ++ [a]) q : Nat) : Int)) k) (puj.set i a) wr
            ⟨by rw [hlen2]; omega, hmq, fun q hq => by rw [← HFD.out] at hq ⊢; exact setsN_in _ _ _ _ _ hq (by have := hmq.lt; rw [hsN] at this; omega), hJq, hN2, hKr, owns_above hg1 hAq gS⟩
          rw [hlen2] at IH
          have hw5 : IntKind.i64.wrap ((i : Int) + 1) = ((i + 1 : Nat) : Int) := by rw [wrap64_small (by omega) (by omega)]; push_cast; rfl
          have IHH := Lib.hid IH
          have HMQ := Lib.hid hmq
          have HHJ := Lib.hid hJq
          have hkp : ∀ x, 2 * k ≤ x → (setsN trj k (fun q => ((levF v (p ++ [a]) q : Nat) : Int)) k)[x]? = tr[x]? := fun x hx => by rw [setsN_out _ _ _ _ _ (by omega), hkeep x hx]
          have HKP := Lib.hid hkp
          have hP2 : decide (((k + k : Nat) : Int) < 2 * (k : Int)) = false := by simp; omega
          clear IH hmq hJq hsN hlen2 hN2 hkp
          go_wp2_with (go_at_call 212; refine IHH.out.mono ?_; rintro e w5 (⟨rfl, hA5, ⟨tr5, pu5, hm5, hk5⟩, hJ5⟩ | ⟨rfl, q, hqp, hq⟩))
          · go_roundw
            case rel =>
              refine ⟨j + 1, by omega, by go_num, ⟨tr5, pu5, hm5, fun x hx => ?_⟩, hAq.trans hA5, ?_⟩
              · rw [hk5 x (by rw [← HFD.out]; omega), HKP.out x hx]
              · rw [outsTo_succ _ _ _ _ _ _ _ HA.out, ← List.append_assoc]; exact hJ5
            case measure => simp [intOf]; omega
          · go_ret
            refine .inr ⟨rfl, outsTo (.slice (some ⟨U, 0, none⟩) m m) hv gs p d j ++ q, ?_, by rw [← List.append_assoc]; exact hq⟩
            rw [HOS.out]
            exact (outsTo_cat _ _ _ _ _ _ _ HA.out q hqp).trans (outsTo_pref _ _ _ _ _ _ _ hlt)
    · obtain rfl : j = gs.length := by omega
      have HMJ := Lib.hid hmj
      have HJJ := Lib.hid hJj
      clear hmj hJj
      go_wp2
      go_ret
      refine .inl ⟨rfl, hA1.trans hAj, ⟨trj, puj, HMJ.out, fun x hx => hkeep x (by rw [← HF2.out]; exact hx)⟩, ?_⟩
      rw [HOS.out]
      exact HJJ.out
end Go.Proofs.Ythkmapflbopdpaa

/- C2:
  ConstantOf in both packages. -/
namespace Go.Proofs.Ythkmapflbopdpaa
open Go.RowKit

set_option maxHeartbeats 400000 in
theorem isDigit_any (v : Int) (w : World) :
    Calls Try.prog 76 #[.int .i64 v] w fun e w' => e = .returned (.bool (inB v 0 1)) ∧ w = w' := by
  by_cases h1 : v = 0
  · subst h1
    rw [inB_true (by omega) (by omega)]
    go_enter Try.func76, Try.ntmps76
    go_wp2
    go_ret
    exact ⟨rfl, rfl⟩
  · have e0 : (v == 0) = false := by simp [h1]
    by_cases h2 : v = 1
    · subst h2
      rw [inB_true (by omega) (by omega)]
      go_enter Try.func76, Try.ntmps76
      go_wp2
      go_ret
      exact ⟨rfl, rfl⟩
    · have e1 : (v == 1) = false := by simp [h2]
      rw [inB_false (by omega)]
      go_enter Try.func76, Try.ntmps76
      go_wp2
      go_ret
      exact ⟨rfl, rfl⟩
theorem isDigit_is {v : Int} {x : Bool} (h : inB v 0 1 = x) (w : World) :
    Calls Try.prog 76 #[.int .i64 v] w fun e w' => e = .returned (.bool x) ∧ w = w' := h ▸ isDigit_any v w

set_option maxHeartbeats 400000 in
theorem Constant1_any (b r : Nat) (v : Int) (w : World) (hc : w.cell? ⟨b, 0, none⟩ = some (.int .i64 v)) :
    Calls Try.prog 213 #[.int .i64 (r : Int), .pointer (some ⟨b, 0, none⟩)] w fun e w' => e = .returned (.int .i64 v) ∧ Below w.heap.size w w' := by
  go_enter Try.func213, Try.ntmps213
  go_wp2
  go_ret
  exact ⟨rfl, Below.refl _ _⟩

set_option maxRecDepth 100000 in
set_option maxHeartbeats 1000000 in
theorem implConstantOf_yes {n : Int} {R : Nat} (h0 : 0 ≤ n) (h4 : n ≤ 4) (r0 : 0 < R) (r16 : R ≤ 16) (hR : Hid (rowsN n = (R : Int))) (he : R = 2 ^ n.toNat) (v : Nat) (hv : v ≤ 1) (w : World) :
    Calls Try.prog 211 #[.int .i64 n, .int .i64 (v : Int)] w fun e w' => e = .returned (.tuple #[.agg #[.int .i64 n, .int .i64 (v * allN n)], .int .i64 0]) ∧ Below w.heap.size w w' := by
  have H1 : inB n 0 4 = true := inB_true (by omega) h4
  have H2 : inB (v : Int) 0 1 = true := inB_true (by omega) (by omega)
  obtain ⟨W1, hW1⟩ : ∃ W1, (w.alloc (.cells #[.int .i64 (v : Int)] 2)).alloc (.cells #[.int .i64 0, .int .i64 0] 113) = W1 := ⟨_, rfl⟩
  have cI : W1.cell? ⟨w.heap.size, 0, none⟩ = some (.int .i64 (v : Int)) := by rw [← hW1]; simp [go_sem]
  have c0 : W1.cell? ⟨w.heap.size + 1, 0, none⟩ = some (.int .i64 0) := by rw [← hW1]; simp [go_sem]
  have c1 : W1.cell? ⟨w.heap.size + 1, 1, none⟩ = some (.int .i64 0) := by rw [← hW1]; simp [go_sem]
  have f0 : W1.frozen? ⟨w.heap.size + 1, 0, none⟩ = false := by rw [← hW1]; simp [go_sem]
  have f1 : W1.frozen? ⟨w.heap.size + 1, 1, none⟩ = false := by rw [← hW1]; simp [go_sem]
  have hB : Below w.heap.size w W1 := by rw [← hW1]; exact balloc (bnew _ _) _
  have F := Lib.hid (funcByRows_any n (by omega) h4 R r0 r16 hR 213 #[.pointer (some ⟨w.heap.size, 0, none⟩)] (enters_of Try.func213 (by kernel_rfl) rfl)
    (fun _ => v) (fun _ _ => hv) W1 (Lib.hid fun W hW r _ => Constant1_any w.heap.size r v W (kc hW cI)))
  rw [orBits_sum r0 _ (fun _ _ => hv), sum_const he hv] at F
  clear he
  go_enter Try.func211, Try.ntmps211
  go_wp2_with (first
    | (go_at_call 190; refine (isArity_is H1 _).mono ?_; rintro e w' ⟨rfl, rfl⟩)
    | (go_at_call 76; refine (isDigit_is H2 _).mono ?_; rintro e w' ⟨rfl, rfl⟩)
    | (go_at_call 202; refine F.out.mono ?_; rintro e w3 ⟨rfl, hb3⟩; have e0 := kc hb3 c0; have e1 := kc hb3 c1; have k0 := kf hb3 c0 f0; have k1 := kf hb3 c1 f1; have hB3 := bthen hB hb3))
  exact bodyPost_ret (v := .tuple #[.agg #[.int .i64 n, .int .i64 (v * allN n)], .int .i64 0]) (by simp [results, Try.results211, go_sem, e0, e1]) rfl ⟨rfl, (hB3.setCell (p := ⟨w.heap.size + 1, 0, none⟩) (by simp) _).setCell (p := ⟨w.heap.size + 1, 1, none⟩) (by simp) _⟩

set_option maxRecDepth 100000 in
set_option maxHeartbeats 1000000 in
theorem implConstantOf_no {n i : Int} (h : ¬ (0 ≤ n ∧ n ≤ 4 ∧ 0 ≤ i ∧ i ≤ 1)) (w : World) :
    Calls Try.prog 211 #[.int .i64 n, .int .i64 i] w fun e w' => e = .returned (.tuple #[.agg #[.int .i64 0, .int .i64 0], .int .i64 2]) ∧ Below w.heap.size w w' := by
  have hB := balloc (bnew w (.cells #[.int .i64 i] 2)) (.cells #[.int .i64 0, .int .i64 0] 113)
  generalize h1 : inB n 0 4 = x
  cases x
  · go_enter Try.func211, Try.ntmps211
    go_wp2_with (first
      | (go_at_call 190; refine (isArity_is h1 _).mono ?_; rintro e w' ⟨rfl, rfl⟩))
    exact bodyPost_ret (v := .tuple #[.agg #[.int .i64 0, .int .i64 0], .int .i64 2]) (by simp [results, Try.results211, go_sem]) rfl ⟨rfl, hB⟩
  · have h2 : inB i 0 1 = false := inB_false (by simp [inB] at h1; omega)
    go_enter Try.func211, Try.ntmps211
    go_wp2_with (first
      | (go_at_call 190; refine (isArity_is h1 _).mono ?_; rintro e w' ⟨rfl, rfl⟩)
      | (go_at_call 76; refine (isDigit_is h2 _).mono ?_; rintro e w' ⟨rfl, rfl⟩))
    exact bodyPost_ret (v := .tuple #[.agg #[.int .i64 0, .int .i64 0], .int .i64 2]) (by simp [results, Try.results211, go_sem]) rfl ⟨rfl, hB⟩

end Go.Proofs.Ythkmapflbopdpaa

/- NP4:
  stepsOf: all functions that can be put into one, as a function that is ranged over. -/
namespace Go.Proofs.Ythkmapflbopdpaa
open Go.RowKit Go.Shelf
set_option linter.unusedVariables false
set_option linter.unusedSimpArgs false

theorem putFrom_all {v : Nat → Nat} (hv : ∀ q, v q < 2 ^ 4) (l T U K m N L : Nat) (S : Nat → Prop) (sg : Value) (gs : List Nat) (J Jx : List Out → World → Prop) (hJ : Firm K J) (fx : PutFix T U L m K S sg gs)
    (hY : ∀ pre x W, J pre W → pre.length < N → YieldAt Fence.wide 1 Try.prog l (encS x) W fun e W' =>
      Above S W W' ∧ ((e = .returned (.bool true) ∧ J (pre ++ [x]) W') ∨ (e = .returned (.bool false) ∧ Jx (pre ++ [x]) W'))) (d : Nat) :
    ∀ p pre tr pu W, PutPre v T U L m d K N S J sg gs p pre tr pu W →
      Calls Try.prog 212 #[.agg #[.slice (some ⟨T, 0, none⟩) L L, .slice (some ⟨U, 0, none⟩) m m, sg], .int .i64 (p.length : Int), .func (.yield l) #[] #[]] W (PutPost hv T U L m d S J Jx gs p pre tr W) := by
  induction d with
  | zero =>
    intro p pre tr pu W h
    have hp : p.length = m := by have := h.hp; omega
    rw [hp]
    have lT : T < W.heap.size := (World.ownsRow.lt h.hm.ot T rfl).2
    have lU : U < W.heap.size := (World.ownsRow.lt h.hm.ou U rfl).2
    have hN : pre.length < N := by have := h.hN; rw [Nat.pow_zero] at this; omega
    refine ((callsIn_wide (n := 3)).1 (putFrom_zero hv l T U K m N L S sg J Jx hJ fx.hL hY 3 p hp pre tr pu W h.hm h.hlev h.hj hN lT lU h.hK)).mono ?_
    rintro e W' (⟨rfl, ha, hj⟩ | ⟨rfl, hq⟩)
    · refine .inl ⟨rfl, ha.mono (fun k hk => hk.1), ⟨tr, pu, ⟨owns_above h.hm.ot ha (fun k e => by cases e; exact fx.kS _ fx.kT), owns_above h.hm.ou ha (fun k e => by cases e; exact fx.kS _ fx.kU), h.hm.lt, h.hm.lu⟩, fun _ _ => rfl⟩, ?_⟩
      rw [outs_zero]; exact hj
    · exact .inr ⟨rfl, _, by rw [outs_zero]; exact List.prefix_refl _, hq⟩
  | succ d ih => exact fun p pre tr pu W h => putFrom_succ hv l T U K m N L S sg gs J Jx hJ fx d ih p pre tr pu W h

theorem made_zeros (c : Nat) : madeCells (Value.int .i64 0).cells c = (ints (List.replicate c 0)).toArray := by
  apply Array.ext'
  rw [List.toList_toArray]
  exact (toList_madeCells_one (.int .i64 0) c).trans (by simp [ints])

theorem Firm.below {β : Type} {K : Nat} {J : β → World → Prop} (h : Firm K J) {s : β} {W W' : World} (hs : J s W) (hb : Below W.heap.size W W') : J s W' :=
  h s W W' none hs ⟨hb.os, hb.tape, hb.output, hb.size, fun k hk _ => hb.block k hk⟩ (fun r e => by cases e)
theorem own_laid {V : World} {T n : Nat} {xs : List Int} (h : V.heap[T]? = some (.cells (ints xs).toArray 2 (0, 0))) (hn : xs.length = n) (hm : n ≤ 1000) : Owns V T (.slice (some ⟨T, 0, none⟩) n n) xs := by
  subst hn
  have hl : (ints xs).length = xs.length := by simp [ints]
  exact ⟨by rw [hl, Nat.mul_one], .inr ⟨T, xs.length, (ints xs).toArray, rfl, Nat.le_refl _, h, Nat.le_refl _, by unfold maxLen; omega, by rw [List.size_toArray, hl, Nat.mul_one], by rw [List.toList_toArray, Nat.mul_one, ← hl, List.take_length]⟩⟩
theorem cells3_laid {V : World} {B : Nat} {u0 u1 u2 : Value} {t : TypeId} (h : V.heap[B]? = some (.cells #[u0, u1, u2] t (0, 0))) : V.cell? ⟨B, 0, none⟩ = some u0 ∧ V.cell? ⟨B, 1, none⟩ = some u1 ∧ V.cell? ⟨B, 2, none⟩ = some u2 := by
  refine ⟨?_, ?_, ?_⟩ <;> simp [World.cell?, h]

theorem frozen_own {W : World} {base g n cap : Nat} {xs : List Int} (h : Owns W base (.slice (some ⟨g, 0, none⟩) n cap) xs) (hn : n = xs.length) (j : Nat) : W.frozen? ⟨g, j, none⟩ = false := by
  subst hn; exact World.ownsRow.frozenAt h j

theorem three_laid (W : World) (o1 o2 o3 : Obj) : (((W.alloc o1).alloc o2).alloc o3).drew.heap[W.heap.size]? = some o1 ∧ (((W.alloc o1).alloc o2).alloc o3).drew.heap[W.heap.size + 1]? = some o2 ∧ (((W.alloc o1).alloc o2).alloc o3).drew.heap[W.heap.size + 1 + 1]? = some o3 ∧ Below W.heap.size W (((W.alloc o1).alloc o2).alloc o3).drew := by
  have e1 : (W.alloc o1).heap.size = W.heap.size + 1 := by simp
  have e2 : ((W.alloc o1).alloc o2).heap.size = W.heap.size + 1 + 1 := by simp
  have g1 := heap_alloc_new W o1
  have g2 := heap_alloc_new (W.alloc o1) o2
  have g3 := heap_alloc_new ((W.alloc o1).alloc o2) o3
  rw [e1] at g2
  rw [e2] at g3
  refine ⟨?_, ?_, g3, (balloc (balloc (bnew _ _) _) _).drew⟩
  · exact (Below.heap_alloc _ _ _ (by rw [e2]; omega)).trans ((Below.heap_alloc _ _ _ (by rw [e1]; omega)).trans g1)
  · exact (Below.heap_alloc _ _ _ (by rw [e2]; omega)).trans g2

set_option maxRecDepth 100000 in
set_option maxHeartbeats 8000000 in
theorem steps1_any {x R m N : Nat} (ok : FOk (m : Int) x R) (m4 : m ≤ 4) (l Bf Bg Bn K : Nat) (S : Nat → Prop) (sg : Value) (gs : List Nat) (g16 : ∀ a, a ∈ gs → a < 16) (gl : gs.length ≤ 16) (hN : gs.length ^ m ≤ N)
    (J Jx : List Out → World → Prop) (hJ : Firm K J) (kS : ∀ k, K ≤ k → S k) (gS : ∀ k, sg.ownBlock = some k → S k)
    (hY : ∀ pre x W, J pre W → pre.length < N → YieldAt Fence.wide 1 Try.prog l (encS x) W fun e W' =>
      Above S W W' ∧ ((e = .returned (.bool true) ∧ J (pre ++ [x]) W') ∨ (e = .returned (.bool false) ∧ Jx (pre ++ [x]) W')))
    (W : World) (p0 : W.cell? ⟨Bf, 0, none⟩ = some (.int .i64 (m : Int))) (p1 : W.cell? ⟨Bf, 1, none⟩ = some (.int .i64 (x : Int))) (cg : W.cell? ⟨Bg, 0, none⟩ = some sg) (cn : W.cell? ⟨Bn, 0, none⟩ = some (.int .i64 2))
    (hg : Owns W 0 sg (nI gs)) (hK : K ≤ W.heap.size) (hj : J [] W) :
    Calls Try.prog 209 #[.func (.yield l) #[] #[], .pointer (some ⟨Bf, 0, none⟩), .pointer (some ⟨Bg, 0, none⟩), .pointer (some ⟨Bn, 0, none⟩)] W fun e W' => (∃ v, e = .returned v) ∧
      ((∃ sp, J (outs sp (v := fun q => bitN x q * 15) (fun q => by have := bitN_le x q; show bitN x q * 15 < 16; omega) gs [] m) W') ∨ (∃ sp q, q <+: outs sp (v := fun q => bitN x q * 15) (fun q => by have := bitN_le x q; show bitN x q * 15 < 16; omega) gs [] m ∧ Jx q W')) := by
  obtain ⟨i0, hi, hz0, hz1, hz2⟩ := info_parts infoI
  have r16 := ok.r16
  obtain ⟨sa, cap, rfl⟩ : ∃ a cap, sg = .slice a gs.length cap := owns_len hg (nI_length gs)
  have hmk : ∀ (c : Nat) (W : World), c ≤ 32 → (Instr.makeSlice 35 (.int .i64 (c : Int)) (.int .i64 (c : Int))).run Try.prog W = .ok (.slice (some ⟨W.heap.size, 0, none⟩) c c) (W.alloc (.cells (ints (List.replicate c 0)).toArray 2)) := fun c W hc => by
    have h := run_make (P := Try.prog) W 35 2 i0 (.int .i64 0) Try.underlying35 hi hz0 .i64 .i64 (c : Int) (c : Int) (by omega) (by omega) (by rw [hz2]; omega) (by omega)
    rw [hz1, Nat.mul_one, Int.toNat_natCast, made_zeros] at h
    simpa using h
  obtain ⟨L, hL⟩ : ∃ L, L = 2 * R := ⟨_, rfl⟩
  have hwL : IntKind.i64.wrap (2 * (R : Int)) = (L : Int) := by rw [wrap64_small (by omega) (by omega)]; omega
  have hmkL := fun W => hmk L W (by omega)
  have hmkm := fun W => hmk m W (by omega)
  have lf : Bf < W.heap.size := cell_lt p0
  have lg : Bg < W.heap.size := cell_lt cg
  have ln : Bn < W.heap.size := cell_lt cn
  have lf0 : ¬ Bf = W.heap.size := by omega
  have lfr0 : ¬ W.heap.size = Bf := by omega
  have lfl0 : Bf < W.heap.size := by omega
  have lf1 : ¬ Bf = W.heap.size + 1 := by omega
  have lfr1 : ¬ W.heap.size + 1 = Bf := by omega
  have lfl1 : Bf < W.heap.size + 1 := by omega
  have lf2 : ¬ Bf = W.heap.size + 1 + 1 := by omega
  have lfr2 : ¬ W.heap.size + 1 + 1 = Bf := by omega
  have lfl2 : Bf < W.heap.size + 1 + 1 := by omega
  have lg0 : ¬ Bg = W.heap.size := by omega
  have lgr0 : ¬ W.heap.size = Bg := by omega
  have lgl0 : Bg < W.heap.size := by omega
  have lg1 : ¬ Bg = W.heap.size + 1 := by omega
  have lgr1 : ¬ W.heap.size + 1 = Bg := by omega
  have lgl1 : Bg < W.heap.size + 1 := by omega
  have lg2 : ¬ Bg = W.heap.size + 1 + 1 := by omega
  have lgr2 : ¬ W.heap.size + 1 + 1 = Bg := by omega
  have lgl2 : Bg < W.heap.size + 1 + 1 := by omega
  have ln0 : ¬ Bn = W.heap.size := by omega
  have lnr0 : ¬ W.heap.size = Bn := by omega
  have lnl0 : Bn < W.heap.size := by omega
  have ln1 : ¬ Bn = W.heap.size + 1 := by omega
  have lnr1 : ¬ W.heap.size + 1 = Bn := by omega
  have lnl1 : Bn < W.heap.size + 1 := by omega
  have ln2 : ¬ Bn = W.heap.size + 1 + 1 := by omega
  have lnr2 : ¬ W.heap.size + 1 + 1 = Bn := by omega
  have lnl2 : Bn < W.heap.size + 1 + 1 := by omega
  have HL := Lib.hid hL
  have HHJ := Lib.hid hj
  have HG := Lib.hid hg
  have HY := Lib.hid hY
  have HGL : Hid (∀ k, (Value.slice sa gs.length cap).ownBlock = some k → k < W.heap.size) := Lib.hid fun k e => (World.ownsRow.lt hg k e).2
  clear hL hmk hj hg hY
  go_enter Try.func209, Try.ntmps209
  go_wp2_with (go_at_call 140; refine (rowCount_is ok.h0 ok.h4 ok.hR _).mono ?_; rintro e w' ⟨rfl, rfl⟩)
  refine Code.wp_mono (Q := fun e a w' => e = .normal ∧ ∃ T U B, a = { tmps := #[.func (.yield l) #[] #[], .pointer (some ⟨Bf, 0, none⟩), .pointer (some ⟨Bg, 0, none⟩), .pointer (some ⟨Bn, 0, none⟩), undef, .int .i64 R, .pointer (some ⟨B, 0, none⟩), undef, undef, undef, undef, .pointer (some ⟨Bf, 0, none⟩), .int .i64 m, .int .i64 R, .int .i64 R, .int .i64 L, .slice (some ⟨T, 0, none⟩) L L, .pointer (some ⟨Bf, 0, none⟩), .int .i64 m, .slice (some ⟨U, 0, none⟩) m m, .slice sa gs.length cap, .agg #[.slice (some ⟨T, 0, none⟩) L L, .slice (some ⟨U, 0, none⟩) m m, .slice sa gs.length cap], undef, undef, undef, undef, undef, undef, undef, undef, undef, undef, undef, undef, undef, undef, undef, undef, undef, undef, undef, undef, undef, undef, undef, undef, undef, undef], defers := [] } ∧ (W.heap.size ≤ T ∧ W.heap.size ≤ U ∧ W.heap.size ≤ B ∧ T ≠ U ∧ B ≠ T ∧ B ≠ U) ∧ (w'.heap[T]? = some (.cells (ints (List.replicate L 0)).toArray 2 (0, 0)) ∧ w'.heap[U]? = some (.cells (ints (List.replicate m 0)).toArray 2 (0, 0)) ∧ w'.heap[B]? = some (.cells #[.slice (some ⟨T, 0, none⟩) L L, .slice (some ⟨U, 0, none⟩) m m, .slice sa gs.length cap] 217 (0, 0))) ∧ Below W.heap.size W w') ?rest ?reg
  case reg =>
    go_region
    all_goals
      obtain ⟨h1, h2, h3, hb⟩ := three_laid W _ _ _
      refine ⟨rfl, _, _, _, rfl, ⟨?_, ?_, ?_, ?_, ?_, ?_⟩, ⟨?_, ?_, ?_⟩, hb⟩
      all_goals first | omega | exact h1 | exact h2 | exact h3
  case rest =>
  clear lf0 lfr0 lfl0 lf1 lfr1 lfl1 lf2 lfr2 lfl2 lg0 lgr0 lgl0 lg1 lgr1 lgl1 lg2 lgr2 lgl2 ln0 lnr0 lnl0 ln1 lnr1 lnl1 ln2 lnr2 lnl2
  rintro e a w2 ⟨rfl, T, U, B, rfl, ⟨t1, u1, b1, n1, n2, n3⟩, ⟨hT, hU, hBx⟩, hb⟩
  dsimp only
  have ot := own_laid hT (List.length_replicate (n := L) (a := 0)) (by have := HL.out; omega)
  have ou := own_laid hU (List.length_replicate (n := m) (a := 0)) (by omega)
  obtain ⟨b0, b1', b2⟩ := cells3_laid hBx
  have hj2 := hJ.below HHJ.out hb
  have q0 := kc hb p0
  have q1 := kc hb p1
  have qn := kc hb cn
  have hg2 := HG.out.below hb
  have sT := (World.ownsRow.lt ot T rfl).2
  have sU := (World.ownsRow.lt ou U rfl).2
  have sB : B < w2.heap.size := cell_lt b0
  have hKw : K ≤ w2.heap.size := Nat.le_trans hK hb.size
  clear hT hU hBx p0 p1 cn cg HHJ HG hmkL hmkm
  go_wp2_with fail
  refine (valuesOf_any ok _).mono ?_
  rintro e w3 ⟨s3, rfl, o3, hb3⟩
  replace ot := ot.below hb3
  replace ou := ou.below hb3
  replace b0 := kc hb3 b0
  replace b1' := kc hb3 b1'
  replace b2 := kc hb3 b2
  have hj3 := hJ.below hj2 hb3
  replace q0 := kc hb3 q0
  replace q1 := kc hb3 q1
  replace qn := kc hb3 qn
  have hg3 := hg2.below hb3
  have r0 := ok.r0
  obtain ⟨V, cap3, rfl, hV⟩ : ∃ V cap3, s3 = .slice (some ⟨V, 0, none⟩) R cap3 ∧ w2.heap.size ≤ V := by
    rcases o3.shape with ⟨e, _⟩ | ⟨_, g, c, e, hge, _⟩
    · have := congrArg List.length e; rw [natL_len] at this; simp at this; omega
    · rw [natL_len] at e; exact ⟨g, c, e, hge⟩
  have HO3 := Lib.hid o3
  have HG3 := Lib.hid hg3
  have HOU := Lib.hid ou
  clear hj2 hg2 o3 hg3 ou
  have sz3 := hb3.size
  go_wp2_with fail
  go_loopw [25] (fun k' wr => ∃ k : Nat, k ≤ R ∧ k' = .int .i64 k ∧ Owns wr T (.slice (some ⟨T, 0, none⟩) L L) (setsN (List.replicate L 0) R (fun q => ((bitN x q * 15 : Nat) : Int)) k) ∧ Above (fun k => k ≠ T) w3 wr ∧ J [] wr)
    (fun k' _ => R - (intOf k').toNat)
  case atStart => exact ⟨0, Nat.zero_le _, rfl, ot, Above.refl _ _, hj3⟩
  case round =>
    clear ot hj3
    obtain ⟨k, hk, rfl, hot, hA, hjr⟩ := hrel
    have d0 := cell_above hA (show B ≠ T from n2) b0
    have d1 := cell_above hA (show B ≠ T from n2) b1'
    have d2 := cell_above hA (show B ≠ T from n2) b2
    have dn := cell_above hA (show Bn ≠ T by omega) qn
    have szr := hA.size
    by_cases hlt : k < R
    · have cv : wr.cell? ⟨V, k, none⟩ = some (.int .i64 (bitN x k : Int)) := by
        refine cell_above hA (show V ≠ T by omega) (cell_of_owns HO3.out (by rw [natL_len]) k _ ?_)
        simp [natL, hlt]
      have hlen := setsN_length (List.replicate L 0) R (fun q => ((bitN x q * 15 : Nat) : Int)) k
      rw [List.length_replicate] at hlen
      have hw1 : IntKind.i64.wrap ((R : Int) + (k : Int)) = ((R + k : Nat) : Int) := by rw [wrap64_small (by omega) (by omega)]; push_cast; rfl
      have hRL : R + k < L := by have := HL.out; omega
      obtain ⟨P, hP⟩ : ∃ P, P = R + k := ⟨_, rfl⟩
      rw [← hP] at hw1 hRL
      obtain ⟨u3, c3⟩ : ∃ u, wr.cell? ⟨T, P, none⟩ = some u := by
        have hl : P < (setsN (List.replicate L 0) R (fun q => ((bitN x q * 15 : Nat) : Int)) k).length := by rw [hlen]; exact hRL
        exact ⟨_, cell_of_owns hot (by rw [hlen]) P _ (List.getElem?_eq_getElem hl)⟩
      have f3 : wr.frozen? ⟨T, P, none⟩ = false := by
        exact frozen_own hot hlen.symm P
      have HPR := Lib.hid hP
      have HOT := Lib.hid hot
      have HC := Lib.hid (implConstantOf_yes (n := 2) (R := 4) (by decide) (by decide) (by decide) (by decide) (Lib.hid (by decide)) (by decide) (bitN x k) (bitN_le x k))
      obtain ⟨y, hy⟩ : ∃ y, y = bitN x k * 15 := ⟨_, rfl⟩
      have hv15 : (bitN x k : Int) * allN 2 = (y : Int) := by rw [hy, show allN 2 = 15 by decide]; push_cast; rfl
      have HYY := Lib.hid hy
      clear hy
      clear hP hot
      go_wp2_with (go_at_call 211; refine (HC.out _).mono ?_; rintro e w5 ⟨rfl, hb5⟩; rw [hv15]; have e0 := kc hb5 d0; have e3 := kc hb5 c3; have k3 := kf hb5 c3 f3; have l5 := hb5.size; have lT5 : T < w5.heap.size := cell_lt e3; have lB5 : B < w5.heap.size := cell_lt e0)
      go_roundw
      case rel =>
        refine ⟨k + 1, by omega, by go_num, ?_, ?_, ?_⟩
        · have hst := (owns_set (HOT.out.below hb5) hlen.symm P (y : Int)).below (bnew _ (.cells #[.int .i64 2, .int .i64 (y : Int)] 113))
          have e : (setsN (List.replicate L 0) R (fun q => ((bitN x q * 15 : Nat) : Int)) k).set P (y : Int) = setsN (List.replicate L 0) R (fun q => ((bitN x q * 15 : Nat) : Int)) (k + 1) := by
            rw [setsN, HPR.out, HYY.out]
          rw [e] at hst
          exact hst
        · exact hA.trans ((Above.below hb5).trans ((Above.grown (grownSet w5 T P (.int .i64 (y : Int))) (fun r e h => by cases e; exact h rfl)).trans (Above.below (bnew _ _))))
        · exact hJ.alloc _ (hJ.set T P _ (hJ.below hjr hb5) (by omega))
      case measure => simp [intOf]; omega
    · obtain rfl : k = R := by omega
      have hm : SMem T U L m (setsN (List.replicate L 0) k (fun q => ((bitN x q * 15 : Nat) : Int)) k) (List.replicate m 0) wr :=
        ⟨hot, owns_above HOU.out hA (fun k e => by cases e; exact fun h => n1 h.symm), by rw [setsN_length, List.length_replicate], List.length_replicate⟩
      have hk2 : k = 2 ^ m := by have := ok.he; simpa using this
      have hLm : L = 2 ^ (m + 1) := by rw [HL.out, hk2, Nat.pow_succ, Nat.mul_comm]
      have PA := putFrom_all (v := fun q => bitN x q * 15) (fun q => by have := bitN_le x q; show bitN x q * 15 < 16; omega) l T U K m N L S (.slice sa gs.length cap) gs J Jx hJ
        ⟨hLm, m4, by omega, by omega, n1, kS, fun b e => ⟨gS b e, by have := HGL.out b e; omega, by have := HGL.out b e; omega⟩, g16, gl⟩ HY.out m [] [] _ _ wr
        ⟨by simp, hm, fun q hq => by rw [← hk2] at hq ⊢; exact setsN_in _ _ _ _ _ hq (by rw [List.length_replicate, HL.out]; omega), hjr, by simpa using hN, by omega, owns_above HG3.out hA (fun b e => by have := HGL.out b e; omega)⟩
      have HPA := Lib.hid PA
      clear PA hm hot hjr hk2 hLm
      go_wp2_with (go_at_call 212; refine HPA.out.mono ?_; rintro e w9 (⟨rfl, _, _, hj9⟩ | ⟨rfl, q, hqp, hq9⟩))
      · go_end0
        exact ⟨⟨_, rfl⟩, .inl ⟨_, hj9⟩⟩
      · go_end0
        exact ⟨⟨_, rfl⟩, .inr ⟨_, q, hqp, by simpa using hq9⟩⟩
end Go.Proofs.Ythkmapflbopdpaa

/- K2:
  Small facts on digits and the tests of classes of the program: monotone, and the affine function with the same values. -/
namespace Go.Proofs.Ythkmapflbopdpaa
open Go.RowKit

theorem bitN_test (x i : Nat) : x.testBit i = (bitN x i == 1) := by
  rw [Nat.testBit_eq_decide_div_mod_eq, bitN]
  by_cases h : x / 2 ^ i % 2 = 1 <;> simp [h]

/-- 'a &^ b' is 0 just where no digit of a lacks in b. -/
theorem andNot_no (Z a b : Nat) (hZ : Z ≤ 16) (ha : a < 2 ^ Z) : (bits .andNot .i64 (a : Int) (b : Int) != 0) = !(allLt Z fun r => !(bitN a r == 1 && bitN b r == 0)) := by
  have hz : (2 : Nat) ^ Z ≤ 2 ^ 16 := Nat.pow_le_pow_right (by decide) hZ
  have h64 : (2 : Nat) ^ 16 < 2 ^ 64 := by decide
  have hbit : ∀ i, (BitVec.ofNat 64 a &&& ~~~(BitVec.ofNat 64 b)).toNat.testBit i = (bitN a i == 1 && bitN b i == 0) := by
    intro i
    rw [BitVec.testBit_toNat, BitVec.getLsbD_and, BitVec.getLsbD_not, BitVec.getLsbD_ofNat, BitVec.getLsbD_ofNat]
    by_cases hi : i < 64
    · have h2 := bitN_le b i
      rw [bitN_test, bitN_test]
      simp only [hi, decide_true, Bool.true_and]
      congr 1
      by_cases h : bitN b i = 1
      · simp [h]
      · have : bitN b i = 0 := by omega
        simp [this]
    · have h64i : (2 : Nat) ^ 64 ≤ 2 ^ i := Nat.pow_le_pow_right (by decide) (by omega)
      have : bitN a i = 0 := by unfold bitN; rw [Nat.div_eq_of_lt (by omega)]
      simp [hi, this]
  have hle : (BitVec.ofNat 64 a &&& ~~~(BitVec.ofNat 64 b)).toNat ≤ a := by
    rw [BitVec.toNat_and, BitVec.toNat_ofNat, Nat.mod_eq_of_lt (by omega)]
    exact Nat.and_le_left
  have e : bits .andNot .i64 (a : Int) (b : Int) = (((BitVec.ofNat 64 a &&& ~~~(BitVec.ofNat 64 b)).toNat : Nat) : Int) := by
    show IntKind.i64.wrap ((BitVec.ofInt 64 (a : Int) &&& ~~~(BitVec.ofInt 64 (b : Int))).toNat : Int) = _
    rw [BitVec.ofInt_natCast, BitVec.ofInt_natCast]
    exact wrap64_small (by omega) (by omega)
  rw [e]
  generalize (BitVec.ofNat 64 a &&& ~~~(BitVec.ofNat 64 b)).toNat = t at *
  rw [Bool.eq_iff_iff]
  constructor
  · intro h
    have ht : t ≠ 0 := by
      intro e0
      subst e0
      simp at h
    obtain ⟨i, hi⟩ := Nat.exists_testBit_of_ne_zero ht
    rw [hbit] at hi
    have hiZ : i < Z := by
      apply Decidable.byContradiction
      intro hc
      have h1 : (2 : Nat) ^ Z ≤ 2 ^ i := Nat.pow_le_pow_right (by decide) (by omega)
      have : bitN a i = 0 := by unfold bitN; rw [Nat.div_eq_of_lt (by omega)]
      simp [this] at hi
    cases hall : allLt Z fun r => !(bitN a r == 1 && bitN b r == 0)
    · rfl
    · have := allLt_iff.1 hall i hiZ
      rw [hi] at this
      cases this
  · intro h
    have ht : t ≠ 0 := by
      intro e0
      subst e0
      have : (allLt Z fun r => !(bitN a r == 1 && bitN b r == 0)) = true := allLt_iff.2 fun r _ => by rw [← hbit]; simp
      rw [this] at h
      cases h
    simp [ht]

theorem FOk.nn {n : Int} {x R : Nat} (ok : FOk n x R) : n = (n.toNat : Int) := by have := ok.h0; omega

theorem fixN_lt (n : Int) (x i v : Nat) : fixN n x i v < 2 ^ 2 ^ (n.toNat - 1) := sumN_lt _ _ (fun _ _ => bitN_le _ _)

/-- What the program asks at a variable. -/
theorem noFall_is {n : Int} {x R : Nat} (ok : FOk n x R) (h1 : 1 ≤ n) (i : Nat) : (bits .andNot .i64 (fixN n x i 0 : Int) (fixN n x i 1 : Int) != 0) = !noFall n x i := by
  obtain ⟨_, z8, _⟩ := ok.lesser h1
  exact andNot_no _ _ _ (by omega) (fixN_lt n x i 0)

theorem xor_01 (a b : Nat) (ha : a ≤ 1) (hb : b ≤ 1) : bits .xor .i64 (a : Int) (b : Int) = (xorN a b : Int) := by
  obtain rfl | rfl : a = 0 ∨ a = 1 := by omega
  all_goals obtain rfl | rfl : b = 0 ∨ b = 1 := by omega
  all_goals decide
theorem and_01 (a b : Nat) (ha : a ≤ 1) (hb : b ≤ 1) : bits .and .i64 (a : Int) (b : Int) = ((a * b : Nat) : Int) := by
  obtain rfl | rfl : a = 0 ∨ a = 1 := by omega
  all_goals obtain rfl | rfl : b = 0 ∨ b = 1 := by omega
  all_goals decide
theorem xorN_le (a b : Nat) : xorN a b ≤ 1 := by unfold xorN; omega

theorem aff_round (x r k : Nat) : bits .xor .i64 (affV (difN x) (bitN x 0) r k : Int) (bits .and .i64 (bitN r k : Int) (bits .xor .i64 (bitN x 0 : Int) (bitN x (2 ^ k) : Int))) = (affV (difN x) (bitN x 0) r (k + 1) : Int) := by
  have h1 := bitN_le r k
  have h2 := difN_lt x k
  have h3 : bitN r k * difN x k ≤ 1 := by
    have := Nat.mul_le_mul h1 h2
    omega
  rw [xor_01 _ _ (bitN_le x 0) (bitN_le x _)]
  show bits .xor .i64 _ (bits .and .i64 (bitN r k : Int) (difN x k : Int)) = _
  rw [and_01 _ _ h1 h2, xor_01 _ _ (affV_le _ _ _ (bitN_le x 0) k) h3]
  rfl

end Go.Proofs.Ythkmapflbopdpaa

/- K3:
  The tests of classes of the program: isMonotone, affineLike. -/
namespace Go.Proofs.Ythkmapflbopdpaa
open Go.RowKit

theorem fixed_int2 {n : Int} {x R : Nat} (ok : FOk n x R) (h1 : 1 ≤ n) (i : Nat) (hi : i < 4) (v : Int) (hv : v = 0 ∨ v = 1) (w : World) :
    Calls Try.prog 204 #[.agg #[.int .i64 n, .int .i64 (x : Int)], .int .i64 (i : Int), .int .i64 v] w fun e w' => e = .returned (.agg #[.int .i64 (n - 1), .int .i64 (fixN n x i v.toNat : Int)]) ∧ Below w.heap.size w w' := by
  rcases hv with rfl | rfl
  · exact fixed_any ok h1 i 0 hi (by omega) w
  · exact fixed_any ok h1 i 1 hi (by omega) w

theorem step_held2 {W w' w : World} {a b : Addr} {u v : Value} (hb : Below W.heap.size W w') (h : (W.cell? a = some u ∧ W.cell? b = some v) ∧ Below w.heap.size w W) :
    (w'.cell? a = some u ∧ w'.cell? b = some v) ∧ Below w.heap.size w w' := ⟨⟨kc hb h.1.1, kc hb h.1.2⟩, bthen h.2 hb⟩

theorem field1 (a b : Value) (w : World) : (Instr.field 113 (.agg #[a, b]) 1).run Try.prog w = .ok b w := by kernel_rfl

/-- All variables below k: no fall. -/
def monoTo (n : Int) (x k : Nat) : Bool := allLt k fun i => noFall n x i
theorem monoTo_zero (n : Int) (x : Nat) : monoTo n x 0 = true := rfl
theorem monoTo_succ (n : Int) (x k : Nat) : monoTo n x (k + 1) = (monoTo n x k && noFall n x k) := allLt_succ _ _
theorem monoTo_false {n : Int} {x k m : Nat} (hk : k < m) (h : noFall n x k = false) : monoTo n x m = false := by
  cases hc : monoTo n x m
  · rfl
  · have := allLt_iff.1 hc k hk
    rw [h] at this
    cases this
theorem FOk.mono {n : Int} {x R : Nat} (ok : FOk n x R) : cls3 n.toNat x R = monoTo n x n.toNat := by
  have h4 := ok.h4
  rw [ok.he, cls3_is (by omega), ← ok.nn]
  rfl

set_option maxRecDepth 100000 in
set_option maxHeartbeats 2000000 in
theorem isMonotone_any {n : Int} {x R : Nat} (ok : FOk n x R) (w : World) :
    Calls Try.prog 193 #[.agg #[.int .i64 n, .int .i64 (x : Int)]] w fun e w' => e = .returned (.bool (cls3 n.toNat x R)) ∧ Below w.heap.size w w' := by
  have h4 := ok.h4
  have h0 := ok.h0
  rw [ok.mono]
  obtain ⟨W1, hW1⟩ : ∃ W1, w.alloc (.cells #[.int .i64 n, .int .i64 (x : Int)] 113) = W1 := ⟨_, rfl⟩
  have p0 : W1.cell? ⟨w.heap.size, 0, none⟩ = some (.int .i64 n) := by rw [← hW1]; simp [go_sem]
  have p1 : W1.cell? ⟨w.heap.size, 1, none⟩ = some (.int .i64 (x : Int)) := by rw [← hW1]; simp [go_sem]
  have hB : Below w.heap.size w W1 := by rw [← hW1]; exact bnew _ _
  go_enter Try.func193, Try.ntmps193
  go_wp2
  clear hW1
  go_loopw [6] (fun i' wr => ∃ k : Nat, (k : Int) ≤ n ∧ i' = .int .i64 k ∧ Hid (monoTo n x k = true) ∧ ((wr.cell? ⟨w.heap.size, 0, none⟩ = some (.int .i64 n) ∧ wr.cell? ⟨w.heap.size, 1, none⟩ = some (.int .i64 (x : Int))) ∧ Below w.heap.size w wr))
    (fun i' _ => (n - intOf i').toNat)
  case atStart => exact ⟨0, by omega, rfl, Lib.hid rfl, ⟨p0, p1⟩, hB⟩
  case round =>
    clear p0 p1 hB
    obtain ⟨k, hk, rfl, hm, ⟨p0, p1⟩, hB⟩ := hrel
    by_cases hlt : (k : Int) < n
    · have hn := noFall_is ok (by omega) k
      cases hf : noFall n x k
      · rw [hf] at hn
        simp only [Bool.not_false] at hn
        have HR := Lib.hid (monoTo_false (n := n) (x := x) (m := n.toNat) (by omega) hf)
        clear hf
        have hfd := field1
        go_wp2
        go_region_held3 (fun w' => (w'.cell? ⟨w.heap.size, 0, none⟩ = some (.int .i64 n) ∧ w'.cell? ⟨w.heap.size, 1, none⟩ = some (.int .i64 (x : Int))) ∧ Below w.heap.size w w') (first | exact ⟨⟨p0, p1⟩, hB.drew⟩ | exact step_held2 hb1 (by assumption))
          (first
            | (go_at_call 204; refine (fixed_int2 ok (by omega) k (by omega) _ (by first | exact .inl rfl | exact .inr rfl) _).mono ?_; rintro e w' ⟨rfl, hb1⟩))
        go_wp2
        go_ret
        exact ⟨by rw [HR.out]; rfl, (‹(_ ∧ _) ∧ Below _ _ _›).2⟩
      · rw [hf] at hn
        simp only [Bool.not_true] at hn
        have HR := Lib.hid (show monoTo n x (k + 1) = true by rw [monoTo_succ, hm.out, hf]; rfl)
        clear hf
        have hfd := field1
        go_wp2
        go_region_held3 (fun w' => (w'.cell? ⟨w.heap.size, 0, none⟩ = some (.int .i64 n) ∧ w'.cell? ⟨w.heap.size, 1, none⟩ = some (.int .i64 (x : Int))) ∧ Below w.heap.size w w') (first | exact ⟨⟨p0, p1⟩, hB.drew⟩ | exact step_held2 hb1 (by assumption))
          (first
            | (go_at_call 204; refine (fixed_int2 ok (by omega) k (by omega) _ (by first | exact .inl rfl | exact .inr rfl) _).mono ?_; rintro e w' ⟨rfl, hb1⟩))
        go_wp2
        go_roundw
        case rel => exact ⟨k + 1, by omega, by go_num, HR, ‹(_ ∧ _) ∧ Below _ _ _›⟩
        case measure => simp [intOf]; omega
    · obtain hkn : n.toNat = k := by omega
      have HM := Lib.hid (show monoTo n x n.toNat = true by rw [hkn]; exact hm.out)
      clear hkn hm
      go_wp2
      go_ret
      exact ⟨by rw [HM.out]; rfl, hB⟩
end Go.Proofs.Ythkmapflbopdpaa

/- K4:
  The affine function with the same values: affineLike. -/
namespace Go.Proofs.Ythkmapflbopdpaa
open Go.RowKit

theorem shl_one (k : Nat) (hk : k < 16) : IntKind.i64.wrap (2 ^ k) = ((2 ^ k : Nat) : Int) := by
  have h1 : (2 : Nat) ^ k < 2 ^ 16 := Nat.pow_lt_pow_right (by decide) hk
  have e : (2 : Int) ^ k = ((2 ^ k : Nat) : Int) := by push_cast; rfl
  rw [e]
  generalize (2 : Nat) ^ k = q at h1
  exact wrap64_small (by omega) (by omega)

theorem step_held3 {W w' w : World} {a b c : Addr} {u v z : Value} (hb : Below W.heap.size W w') (h : ((W.cell? a = some u ∧ W.cell? b = some v) ∧ W.cell? c = some z) ∧ Below w.heap.size w W) :
    ((w'.cell? a = some u ∧ w'.cell? b = some v) ∧ w'.cell? c = some z) ∧ Below w.heap.size w w' := ⟨⟨⟨kc hb h.1.1.1, kc hb h.1.1.2⟩, kc hb h.1.2⟩, bthen h.2 hb⟩

set_option maxRecDepth 100000 in
set_option maxHeartbeats 2000000 in
theorem affineLike1_any {n : Int} {x R : Nat} (ok : FOk n x R) (r : Nat) (hr : r < R) (bc b : Nat) (w : World) (hb : FBox b n x w) (cc : w.cell? ⟨bc, 0, none⟩ = some (.int .i64 (bitN x 0 : Int))) :
    Calls Try.prog 205 #[.int .i64 (r : Int), .pointer (some ⟨bc, 0, none⟩), .pointer (some ⟨b, 0, none⟩)] w fun e w' => e = .returned (.int .i64 (affV (difN x) (bitN x 0) r n.toNat : Int)) ∧ Below w.heap.size w w' := by
  have r16 := ok.r16
  have h4 := ok.h4
  have h0 := ok.h0
  obtain ⟨c0, c1⟩ := hb
  go_enter Try.func205, Try.ntmps205
  go_wp2
  go_loopw [5, 10] (fun v' i' wr => ∃ k : Nat, (k : Int) ≤ n ∧ i' = .int .i64 k ∧ v' = .int .i64 (affV (difN x) (bitN x 0) r k : Int) ∧ ((wr.cell? ⟨b, 0, none⟩ = some (.int .i64 n) ∧ wr.cell? ⟨b, 1, none⟩ = some (.int .i64 (x : Int))) ∧ wr.cell? ⟨bc, 0, none⟩ = some (.int .i64 (bitN x 0 : Int))) ∧ Below w.heap.size w wr)
    (fun _ i' _ => (n - intOf i').toNat)
  case atStart => exact ⟨0, by omega, rfl, rfl, ⟨⟨c0, c1⟩, cc⟩, Below.refl _ _⟩
  case round =>
    clear c0 c1 cc
    obtain ⟨k, hk, rfl, rfl, ⟨⟨c0, c1⟩, cc⟩, hB⟩ := hrel
    by_cases hlt : (k : Int) < n
    · have HA := Lib.hid (aff_round x r k)
      have hv := shl_one k (by omega)
      have h16 : 2 ^ k < 62 := by
        have h1 : (2 : Nat) ^ k ≤ 2 ^ 4 := Nat.pow_le_pow_right (by decide) (by omega)
        omega
      go_wp2
      go_region_held3 (fun w' => ((w'.cell? ⟨b, 0, none⟩ = some (.int .i64 n) ∧ w'.cell? ⟨b, 1, none⟩ = some (.int .i64 (x : Int))) ∧ w'.cell? ⟨bc, 0, none⟩ = some (.int .i64 (bitN x 0 : Int))) ∧ Below w.heap.size w w') (first | exact ⟨⟨⟨c0, c1⟩, cc⟩, hB.drew⟩ | exact step_held3 hb1 (by assumption))
        (first
          | (go_at_call 119; refine (digitOf_any r k (by omega) (by omega) _).mono ?_; rintro e w' ⟨rfl, rfl⟩)
          | (go_at_call 191; refine (valueInRow_any n x (2 ^ k) ok.hx h16 _).mono ?_; rintro e w' ⟨rfl, hb1⟩))
      rw [HA.out]
      go_wp2
      go_roundw
      case rel => exact ⟨k + 1, by omega, by go_num, rfl, (‹(_ ∧ _) ∧ Below _ _ _›).1, (‹(_ ∧ _) ∧ Below _ _ _›).2⟩
      case measure => simp [intOf]; omega
    · obtain hkn : n.toNat = k := by omega
      have HK := Lib.hid hkn
      clear hkn
      go_wp2
      go_ret
      exact ⟨by rw [HK.out]; rfl, hB⟩

theorem valueInRow_zero (n : Int) (x : Nat) (hx : x < 2 ^ 62) (w : World) :
    Calls Try.prog 191 #[.agg #[.int .i64 n, .int .i64 (x : Int)], .int .i64 0] w fun e w' => e = .returned (.int .i64 (bitN x 0 : Int)) ∧ Below w.heap.size w w' := valueInRow_any n x 0 hx (by omega) w

theorem affRows {n : Int} {x R : Nat} (ok : FOk n x R) (b bc : Nat) (W : World) (hb : FBox b n x W) (cc : W.cell? ⟨bc, 0, none⟩ = some (.int .i64 (bitN x 0 : Int))) :
    Calls Try.prog 202 #[.int .i64 n, .func (.func 205) #[] #[.pointer (some ⟨bc, 0, none⟩), .pointer (some ⟨b, 0, none⟩)]] W fun e W' => e = .returned (.agg #[.int .i64 n, .int .i64 (affN n.toNat x : Int)]) ∧ Below W.heap.size W W' := by
  have F := funcByRows_any n ok.h0 ok.h4 R ok.r0 ok.r16 ok.hR 205 #[.pointer (some ⟨bc, 0, none⟩), .pointer (some ⟨b, 0, none⟩)] (enters_of Try.func205 (by kernel_rfl) rfl)
    (fun r => affV (difN x) (bitN x 0) r n.toNat) (fun r _ => affV_le _ _ _ (bitN_le x 0) _) W (Lib.hid fun W' hW r hr => affineLike1_any ok r hr bc b W' (hb.keep hW) (kc hW cc))
  rw [orBits_sum ok.r0 _ (fun r _ => affV_le _ _ _ (bitN_le x 0) _)] at F
  rw [affN, ← ok.he]
  exact F

set_option maxRecDepth 100000 in
set_option maxHeartbeats 1000000 in
theorem affineLike_any {n : Int} {x R : Nat} (ok : FOk n x R) (w : World) :
    Calls Try.prog 194 #[.agg #[.int .i64 n, .int .i64 (x : Int)]] w fun e w' => e = .returned (.agg #[.int .i64 n, .int .i64 (affN n.toNat x : Int)]) ∧ Below w.heap.size w w' := by
  obtain ⟨W1, hW1⟩ : ∃ W1, (w.alloc (.cells #[.int .i64 n, .int .i64 (x : Int)] 113)).alloc (.cells #[.int .i64 0, .int .i64 0] 113) = W1 := ⟨_, rfl⟩
  have p0 : W1.cell? ⟨w.heap.size, 0, none⟩ = some (.int .i64 n) := by rw [← hW1]; simp [go_sem]
  have p1 : W1.cell? ⟨w.heap.size, 1, none⟩ = some (.int .i64 (x : Int)) := by rw [← hW1]; simp [go_sem]
  have c0 : W1.cell? ⟨w.heap.size + 1, 0, none⟩ = some (.int .i64 0) := by rw [← hW1]; simp [go_sem]
  have c1 : W1.cell? ⟨w.heap.size + 1, 1, none⟩ = some (.int .i64 0) := by rw [← hW1]; simp [go_sem]
  have f0 : W1.frozen? ⟨w.heap.size + 1, 0, none⟩ = false := by rw [← hW1]; simp [go_sem]
  have f1 : W1.frozen? ⟨w.heap.size + 1, 1, none⟩ = false := by rw [← hW1]; simp [go_sem]
  have hB : Below w.heap.size w W1 := by rw [← hW1]; exact balloc (bnew _ _) _
  go_enter Try.func194, Try.ntmps194
  go_wp2_with fail
  clear hW1
  refine (valueInRow_zero n x ok.hx _).mono ?_
  rintro e w2 ⟨rfl, hb2⟩
  obtain ⟨W2, hW2⟩ : ∃ W2, w2.alloc (.cells #[.int .i64 (bitN x 0 : Int)] 2) = W2 := ⟨_, rfl⟩
  have hb3 : Below W1.heap.size W1 W2 := by rw [← hW2]; exact balloc hb2 _
  have q0 := kc hb3 p0
  have q1 := kc hb3 p1
  have d0 := kc hb3 c0
  have d1 := kc hb3 c1
  have g0 := kf hb3 c0 f0
  have g1 := kf hb3 c1 f1
  have cc : W2.cell? ⟨w2.heap.size, 0, none⟩ = some (.int .i64 (bitN x 0 : Int)) := by rw [← hW2]; simp [go_sem]
  have hB2 := bthen hB hb3
  have hb2q := kc hb2 p0
  clear p0 p1 c0 c1 f0 f1 hb2 hb3
  go_wp2_with fail
  clear hW2
  refine (affRows ok w.heap.size w2.heap.size _ ⟨q0, q1⟩ cc).mono ?_
  rintro e w3 ⟨rfl, hb3⟩
  have e0 := kc hb3 d0
  have e1 := kc hb3 d1
  have k0 := kf hb3 d0 g0
  have k1 := kf hb3 d1 g1
  have hB3 := bthen hB2 hb3
  go_wp2
  exact bodyPost_ret (v := .agg #[.int .i64 n, .int .i64 (affN n.toNat x : Int)]) (by simp [results, Try.results194, go_sem, e0, e1]) rfl ⟨rfl, (hB3.setCell (p := ⟨w.heap.size + 1, 0, none⟩) (by simp) _).setCell (p := ⟨w.heap.size + 1, 1, none⟩) (by simp) _⟩
end Go.Proofs.Ythkmapflbopdpaa

/- K5:
  isInClass, class by class. -/
namespace Go.Proofs.Ythkmapflbopdpaa
open Go.RowKit

theorem ret_bool {a b : Bool} (h : a = b) : Ending.returned (.bool a) = .returned (.bool b) := by rw [h]

theorem valueInRow_last {n : Int} {x R : Nat} (ok : FOk n x R) (w : World) :
    Calls Try.prog 191 #[.agg #[.int .i64 n, .int .i64 (x : Int)], .int .i64 ((R : Int) - 1)] w fun e w' => e = .returned (.int .i64 (bitN x (R - 1) : Int)) ∧ Below w.heap.size w w' := by
  have r0 := ok.r0
  have r16 := ok.r16
  rw [show (R : Int) - 1 = ((R - 1 : Nat) : Int) by omega]
  exact valueInRow_any n x (R - 1) ok.hx (by omega) w

set_option maxRecDepth 100000 in
set_option maxHeartbeats 1000000 in
theorem isInClass_0 {n : Int} {x R : Nat} (ok : FOk n x R) (w : World) :
    Calls Try.prog 166 #[.agg #[.int .i64 n, .int .i64 (x : Int)], .int .i64 0] w fun e w' => e = .returned (.bool (cls0 x)) ∧ Below w.heap.size w w' := by
  go_enter Try.func166, Try.ntmps166
  go_wp2_with fail
  refine (valueInRow_zero n x ok.hx _).mono ?_
  rintro e w2 ⟨rfl, hb2⟩
  go_wp2
  go_ret
  refine ⟨ret_bool ?_, bthen (bnew _ _) hb2⟩
  unfold cls0
  rw [Bool.eq_iff_iff]
  simp
  try omega

set_option maxRecDepth 100000 in
set_option maxHeartbeats 1000000 in
theorem isInClass_1 {n : Int} {x R : Nat} (ok : FOk n x R) (w : World) :
    Calls Try.prog 166 #[.agg #[.int .i64 n, .int .i64 (x : Int)], .int .i64 1] w fun e w' => e = .returned (.bool (cls1 x R)) ∧ Below w.heap.size w w' := by
  obtain ⟨W1, hW1⟩ : ∃ W1, w.alloc (.cells #[.int .i64 n, .int .i64 (x : Int)] 113) = W1 := ⟨_, rfl⟩
  have p0 : W1.cell? ⟨w.heap.size, 0, none⟩ = some (.int .i64 n) := by rw [← hW1]; simp [go_sem]
  have p1 : W1.cell? ⟨w.heap.size, 1, none⟩ = some (.int .i64 (x : Int)) := by rw [← hW1]; simp [go_sem]
  have hB : Below w.heap.size w W1 := by rw [← hW1]; exact bnew _ _
  go_enter Try.func166, Try.ntmps166
  go_wp2
  clear hW1
  go_region_held3 (fun w' => (w'.cell? ⟨w.heap.size, 0, none⟩ = some (.int .i64 n) ∧ w'.cell? ⟨w.heap.size, 1, none⟩ = some (.int .i64 (x : Int))) ∧ Below w.heap.size w w') (first | exact ⟨⟨p0, p1⟩, hB.drew⟩ | exact step_held2 hb1 (by assumption))
    (first
      | (go_at_call 116; refine (lastRow_is ok.h0 ok.h4 ok.r0 ok.r16 ok.hR _).mono ?_; rintro e w' ⟨rfl, rfl⟩)
      | (go_at_call 191; refine (valueInRow_last ok _).mono ?_; rintro e w' ⟨rfl, hb1⟩))
  go_wp2
  go_ret
  refine ⟨ret_bool ?_, (‹(_ ∧ _) ∧ Below _ _ _›).2⟩
  unfold cls1
  rw [Bool.eq_iff_iff]
  simp
  try omega

set_option maxRecDepth 100000 in
set_option maxHeartbeats 1000000 in
theorem isInClass_2 {n : Int} {x R : Nat} (ok : FOk n x R) (w : World) :
    Calls Try.prog 166 #[.agg #[.int .i64 n, .int .i64 (x : Int)], .int .i64 2] w fun e w' => e = .returned (.bool (cls2 x R)) ∧ Below w.heap.size w w' := by
  have D := implDualOf_yes ok
  obtain ⟨W1, hW1⟩ : ∃ W1, w.alloc (.cells #[.int .i64 n, .int .i64 (x : Int)] 113) = W1 := ⟨_, rfl⟩
  have p0 : W1.cell? ⟨w.heap.size, 0, none⟩ = some (.int .i64 n) := by rw [← hW1]; simp [go_sem]
  have p1 : W1.cell? ⟨w.heap.size, 1, none⟩ = some (.int .i64 (x : Int)) := by rw [← hW1]; simp [go_sem]
  have hB : Below w.heap.size w W1 := by rw [← hW1]; exact bnew _ _
  rw [← cls2_is ok.hB]
  generalize sumN (fun r => 1 - bitN x (R - 1 - r)) R = y at D ⊢
  have D2 := Lib.hid D
  clear D
  by_cases hy : y = x
  · have he : ((x : Int) == (y : Int)) = true := by simp [hy]
    rw [show (y == x) = true by simp [hy]]
    clear hy
    go_enter Try.func166, Try.ntmps166
    go_wp2_with fail
    clear hW1
    refine (D2.out _).mono ?_
    rintro e w2 ⟨rfl, hb2⟩
    have q0 := kc hb2 p0
    have q1 := kc hb2 p1
    have hs : w.heap.size < w2.heap.size := cell_lt q0
    go_wp2
    go_ret
    exact ⟨rfl, balloc (bthen hB hb2) _⟩
  · have he : ((x : Int) == (y : Int)) = false := by simp; omega
    rw [show (y == x) = false by simpa using hy]
    clear hy
    go_enter Try.func166, Try.ntmps166
    go_wp2_with fail
    clear hW1
    refine (D2.out _).mono ?_
    rintro e w2 ⟨rfl, hb2⟩
    have q0 := kc hb2 p0
    have q1 := kc hb2 p1
    have hs : w.heap.size < w2.heap.size := cell_lt q0
    go_wp2
    go_ret
    exact ⟨rfl, balloc (bthen hB hb2) _⟩

set_option maxRecDepth 100000 in
set_option maxHeartbeats 1000000 in
theorem isInClass_3 {n : Int} {x R : Nat} (ok : FOk n x R) (w : World) :
    Calls Try.prog 166 #[.agg #[.int .i64 n, .int .i64 (x : Int)], .int .i64 3] w fun e w' => e = .returned (.bool (cls3 n.toNat x R)) ∧ Below w.heap.size w w' := by
  go_enter Try.func166, Try.ntmps166
  go_wp2_with fail
  refine (isMonotone_any ok _).mono ?_
  rintro e w2 ⟨rfl, hb2⟩
  go_wp2
  go_ret
  exact ⟨rfl, bthen (bnew _ _) hb2⟩

set_option maxRecDepth 100000 in
set_option maxHeartbeats 1000000 in
theorem isInClass_4 {n : Int} {x R : Nat} (ok : FOk n x R) (w : World) :
    Calls Try.prog 166 #[.agg #[.int .i64 n, .int .i64 (x : Int)], .int .i64 4] w fun e w' => e = .returned (.bool (cls4 n.toNat x R)) ∧ Below w.heap.size w w' := by
  obtain ⟨W1, hW1⟩ : ∃ W1, w.alloc (.cells #[.int .i64 n, .int .i64 (x : Int)] 113) = W1 := ⟨_, rfl⟩
  have p0 : W1.cell? ⟨w.heap.size, 0, none⟩ = some (.int .i64 n) := by rw [← hW1]; simp [go_sem]
  have p1 : W1.cell? ⟨w.heap.size, 1, none⟩ = some (.int .i64 (x : Int)) := by rw [← hW1]; simp [go_sem]
  have hB : Below w.heap.size w W1 := by rw [← hW1]; exact bnew _ _
  have D := affineLike_any ok
  have h4 := ok.h4
  rw [ok.he, ← cls4_is (n := n.toNat) (by omega) (by rw [← ok.he]; exact ok.hB)]
  generalize affN n.toNat x = y at D ⊢
  have D2 := Lib.hid D
  clear D
  by_cases hy : y = x
  · have he : ((x : Int) == (y : Int)) = true := by simp [hy]
    rw [show (y == x) = true by simp [hy]]
    clear hy
    go_enter Try.func166, Try.ntmps166
    go_wp2
    clear hW1
    go_region_held3 (fun w' => (w'.cell? ⟨w.heap.size, 0, none⟩ = some (.int .i64 n) ∧ w'.cell? ⟨w.heap.size, 1, none⟩ = some (.int .i64 (x : Int))) ∧ Below w.heap.size w w') (first | exact ⟨⟨p0, p1⟩, hB.drew⟩ | exact step_held2 hb1 (by assumption))
      (first
        | (go_at_call 194; refine (D2.out _).mono ?_; rintro e w' ⟨rfl, hb1⟩))
    go_wp2
    go_ret
    exact ⟨rfl, (‹(_ ∧ _) ∧ Below _ _ _›).2⟩
  · have he : ((x : Int) == (y : Int)) = false := by simp; omega
    rw [show (y == x) = false by simpa using hy]
    clear hy
    go_enter Try.func166, Try.ntmps166
    go_wp2
    clear hW1
    go_region_held3 (fun w' => (w'.cell? ⟨w.heap.size, 0, none⟩ = some (.int .i64 n) ∧ w'.cell? ⟨w.heap.size, 1, none⟩ = some (.int .i64 (x : Int))) ∧ Below w.heap.size w w') (first | exact ⟨⟨p0, p1⟩, hB.drew⟩ | exact step_held2 hb1 (by assumption))
      (first
        | (go_at_call 194; refine (D2.out _).mono ?_; rintro e w' ⟨rfl, hb1⟩))
    go_wp2
    go_ret
    exact ⟨rfl, (‹(_ ∧ _) ∧ Below _ _ _›).2⟩
end Go.Proofs.Ythkmapflbopdpaa

/- K6:
  The classes of a function by number; isSheffer, classSetOf and IsInClass of the program. -/
namespace Go.Proofs.Ythkmapflbopdpaa
open Go.RowKit

/-- Whether a function is in the class k. -/
def clsN (n x R k : Nat) : Bool := match k with
  | 0 => cls0 x
  | 1 => cls1 x R
  | 2 => cls2 x R
  | 3 => cls3 n x R
  | _ => cls4 n x R

theorem isInClass_is {n : Int} {x R : Nat} (ok : FOk n x R) (k : Nat) (hk : k ≤ 4) {b : Bool} (hb : clsN n.toNat x R k = b) (w : World) :
    Calls Try.prog 166 #[.agg #[.int .i64 n, .int .i64 (x : Int)], .int .i64 (k : Int)] w fun e w' => e = .returned (.bool b) ∧ Below w.heap.size w w' := by
  subst hb
  obtain rfl | rfl | rfl | rfl | rfl : k = 0 ∨ k = 1 ∨ k = 2 ∨ k = 3 ∨ k = 4 := by omega
  · exact isInClass_0 ok w
  · exact isInClass_1 ok w
  · exact isInClass_2 ok w
  · exact isInClass_3 ok w
  · exact isInClass_4 ok w

/-- In none of the classes below k. -/
def noneTo (n x R k : Nat) : Bool := allLt k fun j => !clsN n x R j
theorem noneTo_succ (n x R k : Nat) : noneTo n x R (k + 1) = (noneTo n x R k && !clsN n x R k) := allLt_succ _ _
theorem noneTo_false {n x R k m : Nat} (hk : k < m) (h : clsN n x R k = true) : noneTo n x R m = false := by
  cases hc : noneTo n x R m
  · rfl
  · have := allLt_iff.1 hc k hk
    rw [h] at this
    cases this

/-- The classes as digits. -/
def clsV (n x R k : Nat) : Nat := (clsN n x R k).toNat
theorem clsV_le (n x R k : Nat) : clsV n x R k ≤ 1 := by unfold clsV; cases clsN n x R k <;> decide
def setN (n x R : Nat) : Nat := sumN (clsV n x R) 5
theorem set_step (v : Nat → Nat) (k : Nat) (hk : k < 16) (hv : ∀ r, r < k → v r ≤ 1) (h1 : v k = 1) : bits .or .i64 (sumN v k : Int) (wrap64 (2 ^ k)) = (sumN v (k + 1) : Int) := by
  have e : (2 : Int) ^ k = ((2 ^ k : Nat) : Int) := by push_cast; rfl
  have hlt := sumN_lt v k hv
  have hp : (2 : Nat) ^ k < 2 ^ 16 := Nat.pow_lt_pow_right (by decide) hk
  rw [e, IntWalk.wrap64_in _ ⟨by omega, by omega⟩, bits_or_nat _ _ (by omega) (by omega), Nat.or_comm, show (2 : Nat) ^ k = 1 <<< k by rw [Nat.shiftLeft_eq, Nat.one_mul], ← Nat.shiftLeft_add_eq_or_of_lt hlt, Nat.shiftLeft_eq]
  simp only [sumN, h1]
  omega

set_option maxRecDepth 100000 in
set_option maxHeartbeats 2000000 in
theorem classSetOf_any {n : Int} {x R : Nat} (ok : FOk n x R) (w : World) :
    Calls Try.prog 128 #[.agg #[.int .i64 n, .int .i64 (x : Int)]] w fun e w' => e = .returned (.int .i64 (setN n.toNat x R : Int)) ∧ Below w.heap.size w w' := by
  obtain ⟨W1, hW1⟩ : ∃ W1, w.alloc (.cells #[.int .i64 n, .int .i64 (x : Int)] 113) = W1 := ⟨_, rfl⟩
  have p0 : W1.cell? ⟨w.heap.size, 0, none⟩ = some (.int .i64 n) := by rw [← hW1]; simp [go_sem]
  have p1 : W1.cell? ⟨w.heap.size, 1, none⟩ = some (.int .i64 (x : Int)) := by rw [← hW1]; simp [go_sem]
  have hB : Below w.heap.size w W1 := by rw [← hW1]; exact bnew _ _
  go_enter Try.func128, Try.ntmps128
  go_wp2
  clear hW1
  go_loopw [3, 5] (fun s' i' wr => ∃ k : Nat, k ≤ 5 ∧ i' = .int .i64 k ∧ s' = .int .i64 (sumN (clsV n.toNat x R) k : Int) ∧ ((wr.cell? ⟨w.heap.size, 0, none⟩ = some (.int .i64 n) ∧ wr.cell? ⟨w.heap.size, 1, none⟩ = some (.int .i64 (x : Int))) ∧ Below w.heap.size w wr))
    (fun _ i' _ => 5 - (intOf i').toNat)
  case atStart => exact ⟨0, by omega, rfl, rfl, ⟨p0, p1⟩, hB⟩
  case round =>
    clear p0 p1 hB
    obtain ⟨k, hk, rfl, rfl, ⟨p0, p1⟩, hB⟩ := hrel
    by_cases hlt : k < 5
    · cases hf : clsN n.toNat x R k
      · have HR := Lib.hid (show sumN (clsV n.toNat x R) (k + 1) = sumN (clsV n.toNat x R) k by simp [sumN, clsV, hf])
        have HF := Lib.hid hf
        clear hf
        go_wp2_with fail
        refine (isInClass_is ok k (by omega) HF.out _).mono ?_
        rintro e w2 ⟨rfl, hb2⟩
        have q0 := kc hb2 p0
        have q1 := kc hb2 p1
        go_wp2
        go_roundw
        case rel => exact ⟨k + 1, by omega, by go_num, by rw [HR.out], ⟨q0, q1⟩, bthen hB hb2⟩
        case measure => simp [intOf]; omega
      · have HR := Lib.hid (set_step (clsV n.toNat x R) k (by omega) (fun r _ => clsV_le _ _ _ r) (by simp [clsV, hf]))
        have HF := Lib.hid hf
        clear hf
        go_wp2_with fail
        refine (isInClass_is ok k (by omega) HF.out _).mono ?_
        rintro e w2 ⟨rfl, hb2⟩
        have q0 := kc hb2 p0
        have q1 := kc hb2 p1
        go_wp2
        go_roundw
        case rel => exact ⟨k + 1, by omega, by go_num, by rw [← HR.out], ⟨q0, q1⟩, bthen hB hb2⟩
        case measure => simp [intOf]; omega
    · obtain rfl : k = 5 := by omega
      go_wp2
      go_ret
      exact ⟨rfl, hB⟩
end Go.Proofs.Ythkmapflbopdpaa

/- CT1:
  The functions of an arity as a function that is ranged over, and their count by whatever closure. -/
namespace Go.Proofs.Ythkmapflbopdpaa
open Go.RowKit Go.Shelf
attribute [local go_sem] Oper.semAt_some

/-- A function as it is handed out. -/
def encFunc {T : Nat} (m : Int) (x : Row T) : Array Value := #[.agg #[.int .i64 m, .int .i64 (x.1 : Int)]]

theorem shl_T (R T : Nat) (hT : T = 2 ^ R) (h16 : T ≤ 65536) : wrap64 (2 ^ R) = (T : Int) := by
  have e : (2 : Int) ^ R = (T : Int) := by rw [hT]; push_cast; rfl
  rw [e]
  exact IntWalk.wrap64_in _ ⟨by omega, by omega⟩

/-- The cell of the box B stays. -/
def Stays (B : Nat) (n₀ : Nat) (A C : World) : Prop := Below n₀ A C ∧ ∀ v, A.cell? ⟨B, 0, none⟩ = some v → C.cell? ⟨B, 0, none⟩ = some v

end Go.Proofs.Ythkmapflbopdpaa

/- CT2:
  countFuncs by contract, for whatever closure. -/
namespace Go.Proofs.Ythkmapflbopdpaa
open Go.RowKit Go.Shelf
attribute [local go_sem] Oper.semAt_some

/-- How many of the functions handed out so far hold. -/
def cntF {T : Nat} (p : Nat → Bool) (pre : List (Row T)) : Nat := pre.countP fun x => p x.1
theorem cntF_snoc {T : Nat} (p : Nat → Bool) (pre : List (Row T)) (x : Row T) : cntF p (pre ++ [x]) = cntF p pre + (p x.1).toNat := by
  unfold cntF
  rw [List.countP_append, List.countP_cons, List.countP_nil]
  cases p x.1 <;> rfl
theorem cntF_le {T : Nat} (p : Nat → Bool) (pre : List (Row T)) : cntF p pre ≤ pre.length := List.countP_le_length
/-- .. of the numbers below k. -/
def cntTo (p : Nat → Bool) (k : Nat) : Nat := (List.range k).countP p
theorem cntTo_succ (p : Nat → Bool) (k : Nat) : cntTo p (k + 1) = cntTo p k + (p k).toNat := by
  unfold cntTo
  rw [List.range_succ, List.countP_append, List.countP_cons, List.countP_nil]
  cases p k <;> rfl
theorem cntTo_le (p : Nat → Bool) (k : Nat) : cntTo p k ≤ k := by
  have := List.countP_le_length (p := p) (l := List.range k)
  rw [List.length_range] at this
  exact this
theorem cntF_upto {T : Nat} (hT : 0 < T) (p : Nat → Bool) (k : Nat) (hk : k ≤ T) : cntF p (upto hT k) = cntTo p k := by
  induction k with
  | zero => rfl
  | succ k ih => rw [upto_succ, cntF_snoc, ih (by omega), cntTo_succ, rowAt_val hT (by omega)]

/-- countFuncs between two rounds. -/
structure CMid (B : Nat) (fv : Value) (c : Nat) (W : World) : Prop where
  c3 : W.cell? ⟨B, 0, none⟩ = some fv
  c5 : W.cell? ⟨B + 1, 0, none⟩ = some (.int .i64 (c : Int))
  f5 : W.frozen? ⟨B + 1, 0, none⟩ = false
theorem CMid.kept {B : Nat} {fv : Value} {c : Nat} {W W' : World} {row : Option Nat} (h : CMid B fv c W) (hg : W.grownBy W' row) (hr : ∀ r, row = some r → ∃ o : Obj, W.heap[r]? = some o ∧ o.isCells = false) : CMid B fv c W' :=
  ⟨cell_kept h.c3 hg hr, cell_kept h.c5 hg hr, (frozen_kept h.c5 hg hr).trans h.f5⟩
theorem CMid.below {B : Nat} {fv : Value} {c : Nat} {W W' : World} (h : CMid B fv c W) (hb : Below W.heap.size W W') : CMid B fv c W' := ⟨kc hb h.c3, kc hb h.c5, kf hb h.c5 h.f5⟩
theorem CMid.up {B : Nat} {fv : Value} {c c2 : Nat} {W : World} (h : CMid B fv c W) : CMid B fv c2 (W.setCell ⟨B + 1, 0, none⟩ (.int .i64 (c2 : Int))) := by
  have d3 := h.c3
  have d5 := h.c5
  exact ⟨by simp [go_sem, d3], by simp [go_sem, d5], by rw [World.frozen?_setCell]; exact h.f5⟩

theorem stays_t {B n₀ : Nat} {A C D : World} (h : Stays B n₀ A C) (k : Stays B n₀ C D) : Stays B n₀ A D := ⟨h.1.trans k.1, fun v hv => k.2 v (h.2 v hv)⟩
theorem stays_b {B n₀ : Nat} {w : World} (hn : n₀ ≤ w.heap.size) (W : World) (l : Nat) (o o' : Obj) (hl : w.heap.size ≤ l) (h : W.heap[l]? = some o) (hc : o.isCells = false) (hw : o.isWalk = false) : Stays B n₀ W (W.putObj l o') :=
  ⟨belowK_b hn W l o o' hl h hc hw, fun _ hv => cell_kept hv (grownBy_putObj' W l o') (fun r e => by cases e; exact ⟨o, h, hc⟩)⟩
theorem stays_below {B n₀ : Nat} {W W' : World} (hn : n₀ ≤ W.heap.size) (h : Below W.heap.size W W') : Stays B n₀ W W' := ⟨h.mono hn, fun _ hv => kc h hv⟩
theorem stays_set {B n₀ C : Nat} (W : World) (hne : C ≠ B) (hn : n₀ ≤ C) (v : Value) : Stays B n₀ W (W.setCell ⟨C, 0, none⟩ v) :=
  ⟨(Below.refl _ _).setCell (p := ⟨C, 0, none⟩) hn v, fun u hu => by simp [go_sem, hu]⟩
theorem kotb {W w' : World} (hb : Below W.heap.size W w') : KeepsOthers W w' :=
  ⟨hb.size, fun k _ hk _ => (hb.block k (Array.getElem?_eq_some_iff.1 hk).1).trans hk⟩

end Go.Proofs.Ythkmapflbopdpaa

/- M2:
  A list of functions that came in, copied. -/
namespace Go.Proofs.Ythkmapflbopdpaa
open Go.RowKit

/-- A slice of structs of two numbers that came in: its numbers are zs. -/
def IsRowF (w : World) (a : Option Addr) (len : Nat) (zs : List (Int × Int)) : Prop :=
  zs.length = len ∧ len ≤ 9223372036854775807 ∧ (len = 0 ∨ ∃ b off, a = some ⟨b, off, none⟩ ∧ b < w.heap.size ∧ Hid (∀ j, j < len → w.cell? ⟨b, off + j * 2, none⟩ = some (.int .i64 (fget zs j).1) ∧ w.cell? ⟨b, off + j * 2 + 1, none⟩ = some (.int .i64 (fget zs j).2)))

/-- A post with 'there is a list of functions'. -/
def FListPost (base : Nat) (xs : List (Int × Int)) (w : World) (e : Ending) (w' : World) : Prop := ∃ s, e = .returned s ∧ OwnsF w' base s xs ∧ Below w.heap.size w w'
def FListCodePost (base : Nat) (xs : List (Int × Int)) (c : Int) (w : World) (e : Ending) (w' : World) : Prop := ∃ s, e = .returned (.tuple #[s, .int .i64 c]) ∧ OwnsF w' base s xs ∧ Below w.heap.size w w'

set_option maxRecDepth 100000 in
set_option maxHeartbeats 2000000 in
theorem toFuncS_any {a : Option Addr} {len cap : Nat} {zs : List (Int × Int)} {w0 : World} (h : IsRowF w0 a len zs) (hl : len ≤ 1048576) (w : World) (hw : Below w0.heap.size w0 w) :
    Calls Try.prog 43 #[.slice a len cap] w (FListPost w.heap.size zs w) := by
  obtain ⟨i0, hi, hz0, hz1, hz2⟩ := info_parts infoF
  obtain ⟨hzl, _, h0 | ⟨b, off, rfl, hb, hc⟩⟩ := h
  · subst h0
    obtain rfl : zs = [] := List.length_eq_zero_iff.1 hzl
    go_enter Try.func43, Try.ntmps43
    go_wp2_with (at_make; refine wpList_make_full _ rfl _ _ 64 rfl w.heap.size 113 i0 (.agg #[.int .i64 0, .int .i64 0]) 2 Try.underlying64 hi hz0 hz1 .i64 .i64 _ _ 0 rfl rfl rfl rfl (by rw [hz2]; decide) (by decide) (Nat.le_refl _) ?_; intro w1 hown1 hgrow1)
    have hB : Below w.heap.size w w1 := (Below.refl _ _).grown hgrow1 (Nat.le_refl _) (fun j e => by cases e)
    generalize (madeCells (Value.agg #[.int .i64 0, .int .i64 0]).cells (0 * 2)).toList = vs at hown1
    obtain rfl : vs = [] := List.length_eq_zero_iff.1 (by simpa using hown1.1)
    have ho := Lib.hid hown1
    clear hown1 hgrow1
    refine wp_loop_rounds 1 ?_
    rw [rounds_succ]
    go_wp2
    go_ret
    refine ⟨.slice (some ⟨w.heap.size, 0, none⟩) 0 0, rfl, ?_, hB⟩
    exact ho.out
  · go_enter Try.func43, Try.ntmps43
    go_wp2_with (at_make; refine wpList_make_full _ rfl _ _ 64 rfl w.heap.size 113 i0 (.agg #[.int .i64 0, .int .i64 0]) 2 Try.underlying64 hi hz0 hz1 .i64 .i64 _ _ len rfl rfl rfl rfl (by rw [hz2]; omega) (by unfold maxLen; omega) (Nat.le_refl _) ?_; intro w1 hown1 hgrow1)
    have hB : Below w.heap.size w w1 := (Below.refl _ _).grown hgrow1 (Nat.le_refl _) (fun j e => by cases e)
    have hvl := hown1.1
    generalize (madeCells (Value.agg #[.int .i64 0, .int .i64 0]).cells (len * 2)).toList = vs at hown1 hvl
    clear hgrow1
    go_loopw [4] (fun i' wr => ∃ i : Nat, i ≤ len ∧ i' = .int .i64 i ∧ wr.ownsRow w.heap.size 113 2 (.slice (some ⟨w.heap.size, 0, none⟩) len len) len (fcells (zs.take i) ++ vs.drop (i * 2)) ∧ Below w.heap.size w wr) (fun i' _ => len - (intOf i').toNat)
    case atStart => exact ⟨0, Nat.zero_le _, rfl, by simpa [fcells] using hown1, hB⟩
    case round =>
      clear hown1 hB
      obtain ⟨i, hi', rfl, ho, hN⟩ := hrel
      by_cases hlt : i < len
      · have hs := hw.size
        obtain ⟨c0, c1⟩ := hc.out i hlt
        have s0 := ((hN.cell (p := ⟨b, off + i * 2, none⟩) (by show b < w.heap.size; omega)).trans (hw.cell (p := ⟨b, off + i * 2, none⟩) hb)).trans c0
        have s1 := ((hN.cell (p := ⟨b, off + i * 2 + 1, none⟩) (by show b < w.heap.size; omega)).trans (hw.cell (p := ⟨b, off + i * 2 + 1, none⟩) hb)).trans c1
        clear c0 c1
        have hHO := Lib.hid ho
        clear ho
        go_wp2_with fail
        refine (toFunc_any (fget zs i).1 (fget zs i).2 _).mono ?_
        rintro e w2 ⟨rfl, hb2⟩
        have hN2 := bthen hN hb2
        have ho : w2.ownsRow w.heap.size 113 2 (.slice (some ⟨w.heap.size, 0, none⟩) len len) len (fcells (zs.take i) ++ vs.drop (i * 2)) := by
          obtain ⟨h1, h2 | ⟨g, cap, cur, e1, e2, e3, r⟩⟩ := hHO.out
          · exact ⟨h1, .inl h2⟩
          · exact ⟨h1, .inr ⟨g, cap, cur, e1, e2, (hb2.block g (Array.getElem?_eq_some_iff.1 e3).1).trans e3, r⟩⟩
        have hlen : (fcells (zs.take i) ++ vs.drop (i * 2)).length = len * 2 := by rw [List.length_append, fcells_length, List.length_take, List.length_drop]; omega
        obtain ⟨u, hu⟩ : ∃ u, w2.cell? ⟨w.heap.size, i * 2, none⟩ = some u := by
          rw [ho.cellAt (i * 2) (by omega)]
          exact ⟨_, List.getElem?_eq_getElem (by omega)⟩
        obtain ⟨u2, hu2⟩ : ∃ u, w2.cell? ⟨w.heap.size, i * 2 + 1, none⟩ = some u := by
          rw [ho.cellAt (i * 2 + 1) (by omega)]
          exact ⟨_, List.getElem?_eq_getElem (by omega)⟩
        have hfz := ho.frozenAt (i * 2)
        have hfz2 := ho.frozenAt (i * 2 + 1)
        obtain ⟨o1, g1⟩ := ho.stored (i * 2) (.int .i64 (fget zs i).1)
        obtain ⟨o2, g2⟩ := o1.stored (i * 2 + 1) (.int .i64 (fget zs i).2)
        rw [fset (zs.take i) vs i (fget zs i) (by rw [List.length_take]; omega) (by omega), ← ftake_snoc zs i (by omega)] at o2
        have HST := Lib.hid o2
        clear o1 o2 g1 g2 ho hvl hlen hHO s0 s1
        go_wp2
        go_roundw
        case rel => exact ⟨i + 1, by omega, by go_num, HST.out, (hN2.setCell (p := ⟨w.heap.size, i * 2, none⟩) (Nat.le_refl _) _).setCell (p := ⟨w.heap.size, i * 2 + 1, none⟩) (Nat.le_refl _) _⟩
        case measure => simp [intOf]; omega
      · obtain rfl : i = len := by omega
        have ho' := Lib.hid ho
        have hd := Lib.hid (List.drop_of_length_le (l := vs) (i := i * 2) (by omega))
        have ht := Lib.hid (List.take_of_length_le (l := zs) (i := i) (by omega))
        have hll := Lib.hid hzl
        clear ho hvl hzl
        go_wp2
        go_ret
        refine ⟨_, rfl, ?_, hN⟩
        unfold OwnsF
        rw [hll.out]
        have := ho'.out
        rw [hd.out, List.append_nil, ht.out] at this
        exact this

/-- From what is told of a slice of structs at each place. -/
theorem isRowF_mk {w : World} {x : Addr} {len : Nat} (hl : len ≤ 9223372036854775807) (h : ∀ i, i < len → ∃ q : Int × Int, w.cell? (x.add (i * 2)) = some (.int .i64 q.1) ∧ w.cell? (x.add (i * 2 + 1)) = some (.int .i64 q.2)) : ∃ zs, IsRowF w (some x) len zs := by
  obtain ⟨q, hq⟩ := Go.Deep.choose_lt h
  refine ⟨(List.range len).map q, by simp, hl, ?_⟩
  by_cases h0 : len = 0
  · exact .inl h0
  · obtain ⟨b, off, spot⟩ := x
    have hc0 := (hq 0 (by omega)).1
    have hs : spot = none := by simpa [Addr.add] using World.cell?_spot hc0
    subst hs
    have hb : b < w.heap.size := cell_lt (a := ⟨b, off, none⟩) (by simpa [Addr.add] using hc0)
    refine .inr ⟨b, off, rfl, hb, Lib.hid fun j hj => ?_⟩
    have e : ∀ k, Addr.add ⟨b, off, none⟩ k = ⟨b, off + k, none⟩ := fun k => by cases k <;> simp [Addr.add]
    obtain ⟨h1, h2⟩ := hq j hj
    rw [e] at h1 h2
    have hg : fget ((List.range len).map q) j = q j := by simp [fget, hj]
    rw [hg]
    exact ⟨h1, h2⟩
end Go.Proofs.Ythkmapflbopdpaa

/- M4:
  Appending a function to a list of functions. -/
namespace Go.Proofs.Ythkmapflbopdpaa
open Go.RowKit

theorem cell_two_new (W : World) (a b : Value) (t : TypeId) : ∀ (j : Nat) (u : Value), [a, b][j]? = some u → (W.alloc (.cells #[a, b] t)).cell? ((⟨W.heap.size, 0, none⟩ : Addr).add j) = some u := by
  intro j u h
  match j, h with
  | 0, h => simp at h; subst h; simp [go_sem, Addr.add]
  | 1, h => simp at h; subst h; simp [go_sem, Addr.add]
theorem one_cell_two (n x : Int) : ∀ u ∈ [Value.int .i64 n, Value.int .i64 x], u.oneCell' = true := by
  intro u hu
  simp at hu
  rcases hu with rfl | rfl <;> rfl
theorem OwnsF.snoc {W : World} {base : Nat} {s : Value} {xs : List (Int × Int)} {n x : Int} (h : W.ownsRow base 113 2 s (xs.length + 1) (fcells xs ++ [.int .i64 n, .int .i64 x])) : OwnsF W base s (xs ++ [(n, x)]) := by
  unfold OwnsF
  rw [fcells_snoc, List.length_append]
  exact h
end Go.Proofs.Ythkmapflbopdpaa
