/-
  withMade of the program.
-/
import Derived.Test.YtlohldddioikaaaNK1
namespace Go.Proofs.Ytlohldddioikaaa
open Go.RowKit Go.Shelf
attribute [local go_sem] Oper.semAt_some
set_option linter.unusedVariables false
set_option linter.unusedSimpArgs false

theorem withMade_nums {y Q : Nat} (hy : y < 2 ^ Q) (hq16 : Q ≤ 16) (pre : List (Row Q)) (z : Row Q) : ∃ p2 b c : Nat, p2 < 65536 ∧ b < 65536 ∧ IntKind.i64.wrap ((2 : Int) ^ z.1) = (p2 : Int) ∧ bits .or .i64 (b : Int) (p2 : Int) = (c : Int) ∧ b = orL y (pre.map (·.1)) ∧ Hid (orL y ((pre ++ [z]).map (·.1)) = c) := by
  have hz := z.2
  have hp16 : 2 ^ z.1 < 65536 := Nat.lt_of_lt_of_le (Nat.pow_lt_pow_right (by decide) (Nat.lt_of_lt_of_le hz hq16)) (by decide : 2 ^ 16 ≤ 65536)
  have hb16 : orL y (pre.map (·.1)) < 65536 := by
    refine Nat.lt_of_lt_of_le (orL_lt hy (fun t ht => ?_)) (Nat.pow_le_pow_right (by decide) hq16 : 2 ^ Q ≤ 2 ^ 16)
    obtain ⟨q, _, rfl⟩ := List.mem_map.1 ht
    exact q.2
  have e : (2 : Int) ^ z.1 = ((2 ^ z.1 : Nat) : Int) := by push_cast; rfl
  have HC : orL y ((pre ++ [z]).map (·.1)) = orL y (pre.map (·.1)) ||| 2 ^ z.1 := by rw [List.map_append]; simp [orL]
  refine ⟨2 ^ z.1, orL y (pre.map (·.1)), orL y (pre.map (·.1)) ||| 2 ^ z.1, hp16, hb16, ?_, ?_, rfl, Lib.hid HC⟩
  · rw [e]
    generalize 2 ^ z.1 = p at hp16 ⊢
    clear hb16 hy HC e
    exact wrap64_small (by omega) (by omega)
  · exact bits_or_nat _ _ (Nat.lt_trans hb16 (by decide)) (Nat.lt_trans hp16 (by decide))

set_option maxRecDepth 100000 in
set_option maxHeartbeats 8000000 in
theorem withMade_any {x R m : Nat} (ok : FOk (m : Int) x R) (m4 : m ≤ 4) {P y Q : Nat} (okr : ROk (P : Int) y Q) (w : World) :
    Calls Try.prog 70 #[.agg #[.int .i64 m, .int .i64 x], .agg #[.int .i64 P, .int .i64 y]] w fun e w' => e = .returned (.agg #[.int .i64 P, .int .i64 (orL y (madeL x P (tupsL y Q) [] m) : Int)]) ∧ Below w.heap.size w w' := by
  have hq16 := okr.r16
  have hy := Lib.hid okr.hB
  obtain ⟨W0, hW0⟩ : ∃ W0, (((((w.alloc (.cells #[.int .i64 m, .int .i64 x] 34)).alloc (.cells #[.int .i64 P, .int .i64 y] 25)).alloc (.cells #[.int .i64 0, .int .i64 0] 25)).alloc (.cells #[.int .i64 P, .int .i64 y] 25)).alloc (.cells #[.int .i64 m, .int .i64 x] 34)).alloc (.cells #[.int .i64 P, .int .i64 y] 25) = W0 := ⟨_, rfl⟩
  refine (callsIn_wide (n := 3)).1 ?_
  refine callsIn_of_wp_marks Try.func70 rfl trivial ?_ rfl
  simp only [Try.ntmps70, List.size_toArray, List.length_cons, List.length_nil, Nat.reduceAdd, Nat.reduceSub, Array.replicate_succ, Array.replicate_zero, List.push_toArray, List.append_toArray, List.nil_append, List.cons_append]
  gi_wp2_with (refine ⟨trivial, ?_⟩; gi_at_call 90; refine (callsIn_wide.2 (tuplesMade_any _ _ _ _ _)).mono ?_; rintro e w' ⟨rfl, rfl⟩)
  have sz : W0.heap.size = w.heap.size + 6 := by rw [← hW0]; simp
  have hB0 : Below w.heap.size w W0 := by rw [← hW0]; exact balloc (balloc (balloc (balloc (balloc (bnew _ _) _) _) _) _) _
  have f0 : W0.cell? ⟨w.heap.size + 1 + 1 + 1 + 1, 0, none⟩ = some (.int .i64 (m : Int)) := by rw [← hW0]; simp [go_sem]
  have f1 : W0.cell? ⟨w.heap.size + 1 + 1 + 1 + 1, 1, none⟩ = some (.int .i64 (x : Int)) := by rw [← hW0]; simp [go_sem]
  have r0 : W0.cell? ⟨w.heap.size + 1 + 1 + 1 + 1 + 1, 0, none⟩ = some (.int .i64 (P : Int)) := by rw [← hW0]; simp [go_sem]
  have r1 : W0.cell? ⟨w.heap.size + 1 + 1 + 1 + 1 + 1, 1, none⟩ = some (.int .i64 (y : Int)) := by rw [← hW0]; simp [go_sem]
  have hbg : W0.heap[w.heap.size + 1 + 1 + 1]? = some (.cells #[.int .i64 P, .int .i64 y] 25 (0, 0)) := by
    rw [← hW0]
    have e := heap_alloc_new (((w.alloc (.cells #[.int .i64 m, .int .i64 x] 34)).alloc (.cells #[.int .i64 P, .int .i64 y] 25)).alloc (.cells #[.int .i64 0, .int .i64 0] 25)) (.cells #[.int .i64 P, .int .i64 y] 25)
    rw [World.size_alloc, World.size_alloc, World.size_alloc] at e
    exact (Below.heap_alloc _ _ _ (by simp <;> omega)).trans ((Below.heap_alloc _ _ _ (by simp)).trans e)
  have hbo : W0.heap[w.heap.size + 1 + 1]? = some (.cells #[.int .i64 0, .int .i64 0] 25 (0, 0)) := by
    rw [← hW0]
    have e := heap_alloc_new ((w.alloc (.cells #[.int .i64 m, .int .i64 x] 34)).alloc (.cells #[.int .i64 P, .int .i64 y] 25)) (.cells #[.int .i64 0, .int .i64 0] 25)
    rw [World.size_alloc, World.size_alloc] at e
    exact (Below.heap_alloc _ _ _ (by simp <;> omega)).trans ((Below.heap_alloc _ _ _ (by simp <;> omega)).trans ((Below.heap_alloc _ _ _ (by simp)).trans e))
  try rw [hW0]
  clear hW0
  refine wpIn_rangeFunc_X (α := Row Q) rfl (by omega) (T := fun k => W0.heap.size + 2 ≤ k) (gf := 101) (lb := #[.pointer (some ⟨w.heap.size + 1 + 1 + 1 + 1 + 1, 0, none⟩), .pointer (some ⟨w.heap.size + 1 + 1 + 1 + 1, 0, none⟩)]) rfl trivial (enters_of Try.func101 (by kernel_rfl) rfl) (by omega)
    (tuples_seq ok m4 okr (w.heap.size + 1 + 1 + 1 + 1) (w.heap.size + 1 + 1 + 1 + 1 + 1) (W0.heap.size + 2) (3 - 1) W0 f0 f1 r0 r1)
    (Below.refl _ _) (fun _ => rfl)
    (fun pre W => W.heap[w.heap.size + 1 + 1 + 1]? = some (.cells #[.int .i64 P, .int .i64 (orL y (pre.map (·.1)) : Int)] 25 (0, 0)) ∧ (W.heap[w.heap.size + 1 + 1]? = some (.cells #[.int .i64 0, .int .i64 0] 25 (0, 0)) ∧ Below w.heap.size w W))
    (fun _ _ _ => False)
    (Firm.and (fun pre => firm_block (β := Unit) (by omega) (.cells #[.int .i64 P, .int .i64 (orL y (pre.map (·.1)) : Int)] 25 (0, 0)) ()) (Firm.and (firm_block (by omega) _) (firm_below (by omega) (Nat.le_refl _))))
    (fun c _ _ _ _ h _ _ => h)
    ⟨hbg, hbo, hB0⟩
    (fun z => { tmps := #[.agg #[.int .i64 m, .int .i64 x], .agg #[.int .i64 P, .int .i64 y], .pointer (some ⟨w.heap.size, 0, none⟩), .pointer (some ⟨w.heap.size + 1, 0, none⟩), .pointer (some ⟨w.heap.size + 1 + 1, 0, none⟩), .pointer (some ⟨w.heap.size + 1 + 1 + 1, 0, none⟩), .int .i64 (z.1 : Int), .agg #[.int .i64 P, .int .i64 y], .agg #[.int .i64 m, .int .i64 x], .agg #[.int .i64 P, .int .i64 y], .func (.func 101) #[] #[.pointer (some ⟨w.heap.size + 1 + 1 + 1 + 1 + 1, 0, none⟩), .pointer (some ⟨w.heap.size + 1 + 1 + 1 + 1, 0, none⟩)], .int .i64 (z.1 : Int), undef, undef, undef, undef, undef, undef, undef], defers := [] }) ?assign ?body ?done ?stop
  case assign =>
    intro l z W K hK
    unfold encRow
    gi_wp2
    exact hK
  case body =>
    clear hbg hbo hB0 f0 f1 r0 r1
    rintro l pre z W ⟨hg, ho, hB⟩ hlen
    have hz := z.2
    obtain ⟨p2, b, c, hp16, hb16, hs, hor, hb, HC⟩ := withMade_nums hy.out hq16 pre z
    rw [← hb] at hg
    have g1 : W.cell? ⟨w.heap.size + 1 + 1 + 1, 1, none⟩ = some (.int .i64 (b : Int)) := by simp [World.cell?, hg]
    have z1 : W.frozen? ⟨w.heap.size + 1 + 1 + 1, 1, none⟩ = false := by simp [World.frozen?, hg]
    have hset : (((W.setCell ⟨w.heap.size + 1 + 1 + 1, 1, none⟩ (.int .i64 (c : Int))).drew).heap[w.heap.size + 1 + 1 + 1]?) = some (.cells #[.int .i64 P, .int .i64 (c : Int)] 25 (0, 0)) := by
      obtain ⟨hlt, hk⟩ := Array.getElem?_eq_some_iff.1 hg
      show (W.heap.modify (w.heap.size + 1 + 1 + 1) _)[w.heap.size + 1 + 1 + 1]? = _
      rw [Array.getElem?_eq_getElem (by rw [Array.size_modify]; exact hlt), Array.getElem_modify_self, hk]
      rfl
    have END := Lib.hid (show (KeepsFrom W0.heap.size W ((W.setCell ⟨w.heap.size + 1 + 1 + 1, 1, none⟩ (.int .i64 (c : Int))).drew) ∧ Above (fun k => W0.heap.size + 2 ≤ k) W ((W.setCell ⟨w.heap.size + 1 + 1 + 1, 1, none⟩ (.int .i64 (c : Int))).drew)) ∧
      (((W.setCell ⟨w.heap.size + 1 + 1 + 1, 1, none⟩ (.int .i64 (c : Int))).drew).heap[w.heap.size + 1 + 1 + 1]? = some (.cells #[.int .i64 P, .int .i64 (orL y ((pre ++ [z]).map (·.1)) : Int)] 25 (0, 0)) ∧ (((W.setCell ⟨w.heap.size + 1 + 1 + 1, 1, none⟩ (.int .i64 (c : Int))).drew).heap[w.heap.size + 1 + 1]? = some (.cells #[.int .i64 0, .int .i64 0] 25 (0, 0)) ∧ Below w.heap.size w ((W.setCell ⟨w.heap.size + 1 + 1 + 1, 1, none⟩ (.int .i64 (c : Int))).drew))) from
      ⟨⟨KeepsFrom.trans ((KeepsOthers.setCell W _ _).from _) (show KeepsFrom _ _ (World.drew _) from ⟨Nat.le_refl _, fun _ _ _ h _ => h⟩), Above.trans (Above.grown (grownSet _ _ _ _) (fun r e => by cases e; omega)) (Above.below (Below.refl _ _).drew)⟩,
        by rw [HC.out]; exact hset, (Below.heap_setCell _ _ _ _ (by simp)).trans ho, (hB.setCell (p := ⟨w.heap.size + 1 + 1 + 1, 1, none⟩) (by show w.heap.size ≤ w.heap.size + 1 + 1 + 1; omega) _).drew⟩)
    have hmx : Try.prog.follows .mixedOrders = true := by kernel_rfl
    have g1' : W.drew.cell? ⟨w.heap.size + 1 + 1 + 1, 1, none⟩ = some (.int .i64 (b : Int)) := g1
    have z1' : W.drew.frozen? ⟨w.heap.size + 1 + 1 + 1, 1, none⟩ = false := z1
    clear hg ho hb hset
    generalize z.1 = t at hz hs ⊢
    gi_wp2
    refine wpIn_region_any hmx ?_
    refine wpAnyIn_round (F := Fence.wide) l (by kernel_rfl) _ _ _ _ ?_
    change wpAnyIn _ _ _ _ _ _ _ _ _ (World.drew _)
    refine wpAnyIn_take (i := 0) (v := ?_) rfl rfl (by kernel_rfl) (by kernel_rfl) (by kernel_rfl) (fun _ _ _ h => h) ⟨Or.inl ⟨by rfl, by intro w; go_simp; try (with_reducible rfl)⟩, fun _ => rfl⟩ ?_
    refine wpAnyIn_take (i := 2) (v := ?_) rfl rfl (by kernel_rfl) (by kernel_rfl) (by kernel_rfl) (fun _ _ _ h => h) ⟨Or.inl ⟨by rfl, by intro w; go_simp; try (with_reducible rfl)⟩, fun _ => rfl⟩ ?_
    refine wpAnyIn_ready (rs := [1, 3]) (by kernel_rfl) (by simp) ?_
    refine AllReadyIn.cons rfl (fun K hK => ?_) ?_
    · go_simp
      refine hK _ _ ?_
      clear hK K
      refine wpAnyIn_ready (rs := [3]) (by kernel_rfl) (by simp) ?_
      refine AllReadyIn.cons rfl (fun K hK => ?_) ?_
      · go_simp
        refine hK _ _ ?_
        clear hK K
        refine wpAnyIn_ready (rs := [4]) (by kernel_rfl) (by simp) ?_
        refine AllReadyIn.cons rfl (fun K hK => ?_) ?_
        · go_simp
          refine hK _ _ ?_
          clear hK K
          refine wpAnyIn_ready (rs := [5]) (by kernel_rfl) (by simp) ?_
          refine AllReadyIn.cons rfl (fun K hK => ?_) ?_
          · go_simp
            refine hK _ _ ?_
            clear hK K
            refine wpAnyIn_ready (rs := [6]) (by kernel_rfl) (by simp) ?_
            refine AllReadyIn.cons rfl (fun K hK => ?_) ?_
            · go_simp
              refine hK _ _ ?_
              clear hK K
              refine wpAnyIn_done (by kernel_rfl) ?_ _
              gi_wp2
              exact END.out
            exact AllReadyIn.nil
          exact AllReadyIn.nil
        exact AllReadyIn.nil
      exact AllReadyIn.nil
    refine AllReadyIn.cons rfl (fun K hK => ?_) ?_
    · go_simp
      refine hK _ _ ?_
      clear hK K
      refine wpAnyIn_ready (rs := [1]) (by kernel_rfl) (by simp) ?_
      refine AllReadyIn.cons rfl (fun K hK => ?_) ?_
      · go_simp
        refine hK _ _ ?_
        clear hK K
        refine wpAnyIn_ready (rs := [4]) (by kernel_rfl) (by simp) ?_
        refine AllReadyIn.cons rfl (fun K hK => ?_) ?_
        · go_simp
          refine hK _ _ ?_
          clear hK K
          refine wpAnyIn_ready (rs := [5]) (by kernel_rfl) (by simp) ?_
          refine AllReadyIn.cons rfl (fun K hK => ?_) ?_
          · go_simp
            refine hK _ _ ?_
            clear hK K
            refine wpAnyIn_ready (rs := [6]) (by kernel_rfl) (by simp) ?_
            refine AllReadyIn.cons rfl (fun K hK => ?_) ?_
            · go_simp
              refine hK _ _ ?_
              clear hK K
              refine wpAnyIn_done (by kernel_rfl) ?_ _
              gi_wp2
              exact END.out
            exact AllReadyIn.nil
          exact AllReadyIn.nil
        exact AllReadyIn.nil
      exact AllReadyIn.nil
    exact AllReadyIn.nil
  case done =>
    clear hbg hbo hB0 f0 f1 r0 r1
    rintro D ys W hD hys ⟨hg, ho, hB⟩ hKd
    rw [hys] at hg
    obtain ⟨c, hc⟩ : ∃ c, c = orL y (madeL x P (tupsL y Q) [] m) := ⟨_, rfl⟩
    rw [← hc] at hg
    have HC := Lib.hid hc
    clear hc
    have g0 : W.cell? ⟨w.heap.size + 1 + 1 + 1, 0, none⟩ = some (.int .i64 (P : Int)) := by simp [World.cell?, hg]
    have g1 : W.cell? ⟨w.heap.size + 1 + 1 + 1, 1, none⟩ = some (.int .i64 (c : Int)) := by simp [World.cell?, hg]
    have o0 : W.cell? ⟨w.heap.size + 1 + 1, 0, none⟩ = some (.int .i64 0) := by simp [World.cell?, ho]
    have o1 : W.cell? ⟨w.heap.size + 1 + 1, 1, none⟩ = some (.int .i64 0) := by simp [World.cell?, ho]
    have q0 : W.frozen? ⟨w.heap.size + 1 + 1, 0, none⟩ = false := by simp [World.frozen?, ho]
    have q1 : W.frozen? ⟨w.heap.size + 1 + 1, 1, none⟩ = false := by simp [World.frozen?, ho]
    obtain ⟨W2, hW2⟩ : ∃ W2, (W.setCell ⟨w.heap.size + 1 + 1, 0, none⟩ (.int .i64 (P : Int))).setCell ⟨w.heap.size + 1 + 1, 1, none⟩ (.int .i64 (c : Int)) = W2 := ⟨_, rfl⟩
    have hKd' : W2.heap[D]? = some (.deferred (some [])) := by
      rw [← hW2]
      exact ((KeepsOthers.setCell W _ _).trans (KeepsOthers.setCell _ _ _)).same D _ hKd rfl
    have h0 : W2.cell? ⟨w.heap.size + 1 + 1, 0, none⟩ = some (.int .i64 (P : Int)) := by rw [← hW2]; simp [go_sem, o0, o1]
    have h1 : W2.cell? ⟨w.heap.size + 1 + 1, 1, none⟩ = some (.int .i64 (c : Int)) := by rw [← hW2]; simp [go_sem, o0, o1]
    have k0 := cell_kept h0 (grownBy_putObj' _ D (.deferred none)) (fun r e => by cases e; exact ⟨_, hKd', rfl⟩)
    have k1 := cell_kept h1 (grownBy_putObj' _ D (.deferred none)) (fun r e => by cases e; exact ⟨_, hKd', rfl⟩)
    have hB2 : Below w.heap.size w W2 := by
      rw [← hW2]
      exact (hB.setCell (p := ⟨w.heap.size + 1 + 1, 0, none⟩) (by show w.heap.size ≤ w.heap.size + 1 + 1; omega) _).setCell (p := ⟨w.heap.size + 1 + 1, 1, none⟩) (by show w.heap.size ≤ w.heap.size + 1 + 1; omega) _
    clear hg ho h0 h1
    gi_wp2
    first | rw [hW2] | skip
    refine ⟨by simp, .inl ⟨_, _, rfl, run_takeDeferred hKd', ?_⟩⟩
    refine ⟨.agg #[.int .i64 P, .int .i64 (c : Int)], by simp [results, Try.results70, go_sem, k0, k1], by rw [HC.out], ?_⟩
    exact hB2.trans (belowK_b (w := w) (Nat.le_refl _) _ D _ _ (by omega) hKd' rfl rfl)
  case stop =>
    rintro D c pre W _ _ h _
    exact h.elim
end Go.Proofs.Ytlohldddioikaaa
