/-
  keeps and withMade of the program.
-/
import Derived.Test.YtlohldddioikaaaNP5
namespace Go.Proofs.Ytlohldddioikaaa
open Go.RowKit Go.Shelf
attribute [local go_sem] Oper.semAt_some
set_option linter.unusedVariables false
set_option linter.unusedSimpArgs false

theorem firm_all {β : Type} (K : Nat) (p : β → Prop) : Firm K (fun s (_ : World) => p s) := fun _ _ _ _ hs _ _ => hs
theorem above_keeps {K : Nat} {W W' : World} (h : Below W.heap.size W W') (S : Nat → Prop) : KeepsFrom K W W' ∧ Above S W W' :=
  ⟨⟨h.size, fun k o _ hk _ => (h.block k (Array.getElem?_eq_some_iff.1 hk).1).trans hk⟩, Above.below h⟩

set_option maxRecDepth 100000 in
set_option maxHeartbeats 8000000 in
theorem keeps_any {x R m : Nat} (ok : FOk (m : Int) x R) (m4 : m ≤ 4) {P y Q : Nat} (okr : ROk (P : Int) y Q) (w : World) :
    Calls Try.prog 62 #[.agg #[.int .i64 m, .int .i64 x], .agg #[.int .i64 P, .int .i64 y]] w fun e w' => e = .returned (.bool (keepsN x y m P)) ∧ Below w.heap.size w w' := by
  have hQ : Q = 2 ^ P := by have := okr.he; simpa using this
  have hq16 := okr.r16
  have HKN : Hid (keepsN x y m P = (madeL x P (tupsL y Q) [] m).all fun t => bitN y t == 1) := Lib.hid (by rw [keepsN, hQ])
  clear hQ
  obtain ⟨W0, hW0⟩ : ∃ W0, ((((w.alloc (.cells #[.int .i64 m, .int .i64 x] 34)).alloc (.cells #[.int .i64 P, .int .i64 y] 25)).alloc (.cells #[.bool false] 4)).alloc (.cells #[.int .i64 m, .int .i64 x] 34)).alloc (.cells #[.int .i64 P, .int .i64 y] 25) = W0 := ⟨_, rfl⟩
  refine (callsIn_wide (n := 3)).1 ?_
  refine callsIn_of_wp_marks Try.func62 rfl trivial ?_ rfl
  simp only [Try.ntmps62, List.size_toArray, List.length_cons, List.length_nil, Nat.reduceAdd, Nat.reduceSub, Array.replicate_succ, Array.replicate_zero, List.push_toArray, List.append_toArray, List.nil_append, List.cons_append]
  gi_wp2_with (refine ⟨trivial, ?_⟩; gi_at_call 90; refine (callsIn_wide.2 (tuplesMade_any _ _ _ _ _)).mono ?_; rintro e w' ⟨rfl, rfl⟩)
  have sz : W0.heap.size = w.heap.size + 5 := by rw [← hW0]; simp
  have hB0 : Below w.heap.size w W0 := by rw [← hW0]; exact balloc (balloc (balloc (balloc (bnew _ _) _) _) _) _
  have f0 : W0.cell? ⟨w.heap.size + 1 + 1 + 1, 0, none⟩ = some (.int .i64 (m : Int)) := by rw [← hW0]; simp [go_sem]
  have f1 : W0.cell? ⟨w.heap.size + 1 + 1 + 1, 1, none⟩ = some (.int .i64 (x : Int)) := by rw [← hW0]; simp [go_sem]
  have r0 : W0.cell? ⟨w.heap.size + 1 + 1 + 1 + 1, 0, none⟩ = some (.int .i64 (P : Int)) := by rw [← hW0]; simp [go_sem]
  have r1 : W0.cell? ⟨w.heap.size + 1 + 1 + 1 + 1, 1, none⟩ = some (.int .i64 (y : Int)) := by rw [← hW0]; simp [go_sem]
  have b1 : W0.cell? ⟨w.heap.size + 1, 1, none⟩ = some (.int .i64 (y : Int)) := by rw [← hW0]; simp [go_sem]
  have g0 : W0.cell? ⟨w.heap.size + 1 + 1, 0, none⟩ = some (.bool false) := by rw [← hW0]; simp [go_sem]
  have g1 : W0.frozen? ⟨w.heap.size + 1 + 1, 0, none⟩ = false := by rw [← hW0]; simp [go_sem]
  have hbr0 : W0.heap[w.heap.size + 1]? = some (.cells #[.int .i64 P, .int .i64 y] 25 (0, 0)) := by
    rw [← hW0]
    have e := heap_alloc_new (w.alloc (.cells #[.int .i64 m, .int .i64 x] 34)) (.cells #[.int .i64 P, .int .i64 y] 25)
    rw [World.size_alloc] at e
    exact (Below.heap_alloc _ _ _ (by simp <;> omega)).trans ((Below.heap_alloc _ _ _ (by simp <;> omega)).trans ((Below.heap_alloc _ _ _ (by simp)).trans e))
  have hbg0 : W0.heap[w.heap.size + 1 + 1]? = some (.cells #[.bool false] 4 (0, 0)) := by
    rw [← hW0]
    have e := heap_alloc_new ((w.alloc (.cells #[.int .i64 m, .int .i64 x] 34)).alloc (.cells #[.int .i64 P, .int .i64 y] 25)) (.cells #[.bool false] 4)
    rw [World.size_alloc, World.size_alloc] at e
    exact (Below.heap_alloc _ _ _ (by simp <;> omega)).trans ((Below.heap_alloc _ _ _ (by simp)).trans e)
  try rw [hW0]
  have hbr : W0.heap[w.heap.size + 1]? = some (.cells #[.int .i64 P, .int .i64 y] 25 (0, 0)) := hbr0
  have hbg : Boxed W0 (w.heap.size + 1 + 1) 4 (.bool false) := hbg0
  clear hW0 hbr0 hbg0
  refine wpIn_rangeFunc_X (α := Row Q) rfl (by omega) (T := fun k => W0.heap.size + 2 ≤ k) (gf := 101) (lb := #[.pointer (some ⟨w.heap.size + 1 + 1 + 1 + 1, 0, none⟩), .pointer (some ⟨w.heap.size + 1 + 1 + 1, 0, none⟩)]) rfl trivial (enters_of Try.func101 (by kernel_rfl) rfl) (by omega)
    (tuples_seq ok m4 okr (w.heap.size + 1 + 1 + 1) (w.heap.size + 1 + 1 + 1 + 1) (W0.heap.size + 2) (3 - 1) W0 f0 f1 r0 r1)
    (Below.refl _ _) (fun _ => rfl)
    (fun pre W => (∀ t, t ∈ pre.map (·.1) → bitN y t = 1) ∧ (W.heap[w.heap.size + 1]? = some (.cells #[.int .i64 P, .int .i64 y] 25 (0, 0)) ∧ (W.heap[w.heap.size + 1 + 1]? = some (.cells #[.bool false] 4 (0, 0)) ∧ Below w.heap.size w W)))
    (fun c pre W => (c = .ret ∧ ∃ t, t ∈ pre.map (·.1) ∧ bitN y t ≠ 1) ∧ (W.heap[w.heap.size + 1 + 1]? = some (.cells #[.bool false] 4 (0, 0)) ∧ Below w.heap.size w W))
    (Firm.and (firm_all _ _) (Firm.and (firm_block (by omega) _) (Firm.and (firm_block (by omega) _) (firm_below (by omega) (Nat.le_refl _)))))
    (fun c => Firm.and (firm_all _ _) (Firm.and (firm_block (by omega) _) (firm_below (by omega) (Nat.le_refl _))))
    ⟨fun t ht => (by simp at ht), hbr, hbg, hB0⟩
    (fun z => { tmps := #[.agg #[.int .i64 m, .int .i64 x], .agg #[.int .i64 P, .int .i64 y], .pointer (some ⟨w.heap.size, 0, none⟩), .pointer (some ⟨w.heap.size + 1, 0, none⟩), .pointer (some ⟨w.heap.size + 1 + 1, 0, none⟩), .int .i64 (z.1 : Int), .agg #[.int .i64 m, .int .i64 x], .agg #[.int .i64 P, .int .i64 y], .func (.func 101) #[] #[.pointer (some ⟨w.heap.size + 1 + 1 + 1 + 1, 0, none⟩), .pointer (some ⟨w.heap.size + 1 + 1 + 1, 0, none⟩)], .int .i64 (z.1 : Int), undef, undef, undef, undef, undef], defers := [] }) ?assign ?body ?done ?stop
  case assign =>
    intro l z W K hK
    unfold encRow
    gi_wp2
    exact hK
  case body =>
    clear hbr hbg hB0 f0 f1 r0 r1 b1 g0 g1
    rintro l pre z W ⟨hall, hr, hg, hB⟩ hlen
    have b1 : W.cell? ⟨w.heap.size + 1, 1, none⟩ = some (.int .i64 (y : Int)) := by simp [World.cell?, hr]
    have g0 : W.cell? ⟨w.heap.size + 1 + 1, 0, none⟩ = some (.bool false) := Boxed.cell hg
    have g1 : W.frozen? ⟨w.heap.size + 1 + 1, 0, none⟩ = false := Boxed.frozen hg
    have hz := z.2
    have DG := Lib.hid (fun W => digitOf_any y z.1 okr.hx (by omega) W)
    have HG := Lib.hid hg
    have HR := Lib.hid hr
    have hbl := bitN_le y z.1
    by_cases hp : bitN y z.1 = 1
    · have ht : ((bitN y z.1 : Int) == 0) = false := by simp [hp]
      have HALL : Hid (∀ t, t ∈ (pre ++ [z]).map (·.1) → bitN y t = 1) := Lib.hid fun t h => by
        rw [List.map_append, List.mem_append] at h
        rcases h with h | h
        · exact hall t h
        · simp at h; rw [h]; exact hp
      clear hall hp hg hr
      generalize bitN y z.1 = bt at DG ht hbl
      generalize z.1 = r at hz DG ⊢
      gi_wp2_with (refine ⟨trivial, ?_⟩; gi_at_call 87; refine (callsIn_wide.2 (DG.out _)).mono ?_; rintro e w' ⟨rfl, rfl⟩)
      exact ⟨⟨KeepsFrom.refl _ _, Above.refl _ _⟩, HALL.out, HR.out, HG.out, hB⟩
    · have ht : ((bitN y z.1 : Int) == 0) = true := by simp; omega
      have HEX : Hid (∃ t, t ∈ (pre ++ [z]).map (·.1) ∧ bitN y t ≠ 1) := Lib.hid ⟨z.1, by simp, hp⟩
      clear hall hp hg hr
      generalize bitN y z.1 = bt at DG ht hbl
      generalize z.1 = r at hz DG ⊢
      gi_wp2_with (refine ⟨trivial, ?_⟩; gi_at_call 87; refine (callsIn_wide.2 (DG.out _)).mono ?_; rintro e w' ⟨rfl, rfl⟩)
      exact ⟨⟨(KeepsOthers.setCell _ _ _).from _, Above.grown (grownSet _ _ _ _) (fun r e => by cases e; omega)⟩, ⟨rfl, HEX.out⟩, Boxed.set (.bool false) HG.out, hB.setCell (p := ⟨w.heap.size + 1 + 1, 0, none⟩) (by show w.heap.size ≤ w.heap.size + 1 + 1; omega) _⟩
  case done =>
    clear hbr hbg hB0 f0 f1 r0 r1 b1 g0 g1
    rintro D ys W hD hys ⟨hall, _, hg, hB⟩ hKd
    have g0 : W.cell? ⟨w.heap.size + 1 + 1, 0, none⟩ = some (.bool false) := Boxed.cell hg
    have g1 : W.frozen? ⟨w.heap.size + 1 + 1, 0, none⟩ = false := Boxed.frozen hg
    have hk : keepsN x y m P = true := by
      rw [HKN.out, ← hys, List.all_eq_true]
      intro t ht; rw [hall t ht]; rfl
    have HKK := Lib.hid hk
    clear hk
    have h1 := Boxed.cell (Boxed.set (.bool true) hg)
    have hKd' := (KeepsOthers.setCell W ⟨w.heap.size + 1 + 1, 0, none⟩ (.bool true)).same D _ hKd rfl
    have h2 := cell_kept h1 (grownBy_putObj' _ D (.deferred none)) (fun r e => by cases e; exact ⟨_, hKd', rfl⟩)
    have HG := Lib.hid hg
    clear hg h1
    gi_wp2
    refine ⟨by simp, .inl ⟨_, _, rfl, run_takeDeferred hKd', ?_⟩⟩
    refine ⟨.bool true, by simp [results, Try.results62, go_sem, h2], by rw [HKK.out], ?_⟩
    exact (hB.setCell (p := ⟨w.heap.size + 1 + 1, 0, none⟩) (by show w.heap.size ≤ w.heap.size + 1 + 1; omega) _).trans (belowK_b (w := w) (Nat.le_refl _) _ D _ _ (by omega) hKd' rfl rfl)
  case stop =>
    clear hbr hbg hB0 f0 f1 r0 r1 b1 g0 g1
    rintro D c pre W hD hpre ⟨⟨rfl, t, ht, hb⟩, hg, hB⟩ hKd
    have hk : keepsN x y m P = false := by
      rw [HKN.out]
      cases hc : (madeL x P (tupsL y Q) [] m).all fun t => bitN y t == 1
      · rfl
      · have := List.all_eq_true.1 hc t (hpre.subset ht)
        exact absurd (by simpa using this) hb
    have HKK := Lib.hid hk
    clear hk
    have h1 := Boxed.cell hg
    have h2 := cell_kept h1 (grownBy_putObj' _ D (.deferred none)) (fun r e => by cases e; exact ⟨_, hKd, rfl⟩)
    gi_wp2
    refine ⟨by simp, .inl ⟨_, _, rfl, run_takeDeferred hKd, ?_⟩⟩
    refine ⟨.bool false, by simp [results, Try.results62, go_sem, h2], by rw [HKK.out], ?_⟩
    exact hB.trans (belowK_b (w := w) (Nat.le_refl _) _ D _ _ (by omega) hKd rfl rfl)
end Go.Proofs.Ytlohldddioikaaa
