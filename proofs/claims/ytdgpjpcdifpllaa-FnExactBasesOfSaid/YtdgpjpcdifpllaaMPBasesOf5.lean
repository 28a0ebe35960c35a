/-
  The texts Z6, NP1, NQ1, NQ2, NQ3, NQ4, NX2, CT1, CT2 in one.
-/
import Derived.Test.YtdgpjpcdifpllaaMPBasesOf4
import Derived.StillTailTactics
import Derived.BigRegion

/- Z6:
  Chapter 3 of the program: valuesOf: the values of a function, by rows. -/
namespace Go.Proofs.Ytdgpjpcdifpllaa
open Go.RowKit Go.Shelf
attribute [local go_sem] Oper.semAt_some
set_option linter.unusedVariables false
set_option linter.unusedSimpArgs false

/-- A slice made with all its places. -/
theorem wpListIn_make_full {F : Fence} {n : Nat} {P : Program} (w : World) {ops : Array Oper} {rest : List Oper} {o : Oper} {a : Act} {Q : Exit → Act → World → Prop}
    (hg : o.guard = none) (l c : Operand) (t : TypeId) (hop : o.op = Op.makeSlice t l c)
    (base : Nat) (e : TypeId) (i : TypeInfo) (z : Value) (size : Nat) (h1 : P.underlying t = some (.slice e)) (h2 : P.info? e = some i) (h3 : i.zero = some z) (h4 : i.size = size)
    (kl kc : IntKind) (L C : Int) (m : Nat) (hl : a.eval l = .int kl L) (hc : a.eval c = .int kc C) (hL : L = (m : Int)) (hC : C = (m : Int)) (b2 : i.bytes * m ≤ 281474976710656) (b3 : m ≤ maxLen) (b4 : base ≤ w.heap.size)
    (hK : ∀ w', w'.ownsRow base e size (.slice (some ⟨w.heap.size, 0, none⟩) m m) m (madeCells z.cells (m * size)).toList → w.grownBy w' none → wpListIn F n P ops Q rest (a.put o.dst (.slice (some ⟨w.heap.size, 0, none⟩) m m)) w') :
    wpListIn F n P ops Q (o :: rest) a w := by
  refine wpListIn_plain hg fun K hK' => ?_
  obtain ⟨w', hrun, r1, r2⟩ := run_make_full (P := P) w base t e i z size h1 h2 h3 h4 kl kc m b2 b3 b4
  subst hL
  subst hC
  unfold Oper.wpIn
  refine ⟨?_, ?_⟩
  · simp [Oper.about, hop]
  · rw [Oper.semAt_plain F _ _ (by rw [hop]; intro c hc'; cases hc')]
    simp [execOp, hop, hl, hc, hrun, Result.andThen]
    exact hK' _ _ (hK w' r1 r2)

/-- A made list, the places handed out so far set. -/
def setL {R : Nat} (F : Nat → Value) (vs : List Value) (pre : List (Row R)) : List Value := (List.range R).map fun j => if pre.any (fun x => x.1 == j) then F j else vs[j]?.getD undef
theorem setL_len {R : Nat} (F : Nat → Value) (vs : List Value) (pre : List (Row R)) : (setL F vs pre).length = R := by simp [setL]
theorem setL_nil {R : Nat} (F : Nat → Value) (vs : List Value) (h : vs.length = R) : setL (R := R) F vs [] = vs := by
  apply List.ext_getElem
  · simp [setL, h]
  · intro j h1 h2
    simp [setL, h2]
theorem setL_snoc {R : Nat} (F : Nat → Value) (vs : List Value) (pre : List (Row R)) (x : Row R) : (setL F vs pre).set x.1 (F x.1) = setL F vs (pre ++ [x]) := by
  apply List.ext_getElem
  · simp [setL]
  · intro j h1 h2
    simp only [setL, List.length_set, List.length_map, List.length_range] at h1
    rw [List.getElem_set]
    by_cases e : x.1 = j
    · subst e; simp [setL]
    · simp [setL, e]
theorem setL_upto {R : Nat} (hR : 0 < R) (F : Nat → Value) (vs : List Value) : setL F vs (upto hR R) = (List.range R).map F := by
  unfold setL
  refine List.map_congr_left fun j hj => ?_
  have hj' := List.mem_range.1 hj
  rw [if_pos]
  rw [List.any_eq_true]
  exact ⟨rowAt hR j, List.mem_map.2 ⟨j, hj, rfl⟩, by rw [rowAt_val hR hj', beq_self_eq_true]⟩
theorem ints_natL (v : Nat → Nat) (k : Nat) : ints (natL v k) = (List.range k).map fun j => .int .i64 (v j : Int) := by simp [ints, natL]

theorem owns_keptF {W W' : World} {base : Nat} {e : TypeId} {size : Nat} {v : Value} {n : Nat} {xs : List Value} {row : Option Nat} (h : W.ownsRow base e size v n xs) (hg : W.grownBy W' row) (hr : ∀ r, row = some r → ∃ o : Obj, W.heap[r]? = some o ∧ o.isCells = false) : W'.ownsRow base e size v n xs := by
  refine World.ownsRow.kept h hg ?_
  rcases h.2 with ⟨rfl, _⟩ | ⟨g, cap, cur, rfl, _, hgb, _⟩
  · exact .inl rfl
  · refine .inr fun e' => ?_
    obtain ⟨o, ho, hc⟩ := hr g (by simpa [Value.ownBlock] using e'.symm)
    rw [hgb] at ho; cases ho; cases hc

/-- The boxes of a walk over the rows that stores into a made list: the function and the slice. -/
structure VMid (B C : Nat) (g R : Nat) (n : Int) (x : Nat) (W : World) : Prop where
  cS : W.cell? ⟨C, 0, none⟩ = some (.slice (some ⟨g, 0, none⟩) R R)
  p0 : W.cell? ⟨B, 0, none⟩ = some (.int .i64 n)
  p1 : W.cell? ⟨B, 1, none⟩ = some (.int .i64 (x : Int))
theorem VMid.kept {B C g R : Nat} {n : Int} {x : Nat} {W W' : World} {row : Option Nat} (h : VMid B C g R n x W) (hg : W.grownBy W' row) (hr : ∀ r, row = some r → ∃ o : Obj, W.heap[r]? = some o ∧ o.isCells = false) : VMid B C g R n x W' :=
  ⟨cell_kept h.cS hg hr, cell_kept h.p0 hg hr, cell_kept h.p1 hg hr⟩
theorem VMid.step {B C g R r : Nat} {n : Int} {x : Nat} {W w' : World} {u : Value} (h : VMid B C g R n x W) (hb : Below W.drew.heap.size W.drew w') (h1 : ¬ g = C) (h2 : ¬ g = B) : VMid B C g R n x (w'.setCell ⟨g, r, none⟩ u) := by
  have d1 := kcd hb h.cS
  have d2 := kcd hb h.p0
  have d3 := kcd hb h.p1
  exact ⟨by simp [go_sem, d1, h1], by simp [go_sem, d2, h2], by simp [go_sem, d3, h2]⟩


set_option maxRecDepth 100000 in
set_option maxHeartbeats 4000000 in
theorem valuesOf_any {n : Int} {x R : Nat} (ok : FOk n x R) (w : World) :
    Calls Try.prog 244 #[.agg #[.int .i64 n, .int .i64 (x : Int)]] w (ListPost w.heap.size (natL (bitN x) R) w) := by
  obtain ⟨i0, hi, hz0, hz1, hz2⟩ := info_parts infoI
  have r0 := ok.r0
  have r16 := ok.r16
  have hox := ok.hx
  obtain ⟨W1, hW1⟩ : ∃ W1, w.alloc (.cells #[.int .i64 n, .int .i64 (x : Int)] 23) = W1 := ⟨_, rfl⟩
  have p0 : W1.cell? ⟨w.heap.size, 0, none⟩ = some (.int .i64 n) := by rw [← hW1]; simp [go_sem]
  have p1 : W1.cell? ⟨w.heap.size, 1, none⟩ = some (.int .i64 (x : Int)) := by rw [← hW1]; simp [go_sem]
  have hs1 : W1.heap.size = w.heap.size + 1 := by rw [← hW1]; simp [go_sem]
  have hB : Below w.heap.size w W1 := by rw [← hW1]; exact bnew _ _
  have HS1 := Lib.hid hs1
  clear hs1
  refine (callsIn_wide (n := 3)).1 ?_
  refine callsIn_of_wp_marks Try.func244 rfl trivial ?_ rfl
  simp only [Try.ntmps244, List.size_toArray, List.length_cons, List.length_nil, Nat.reduceAdd, Nat.reduceSub, Array.replicate_succ, Array.replicate_zero, List.push_toArray, List.append_toArray, List.nil_append, List.cons_append]
  gi_wp2_with (first
    | (refine ⟨trivial, ?_⟩; gi_at_call 144; refine (callsIn_wide.2 (rowCount_is ok.h0 ok.h4 ok.hR _)).mono ?_; rintro e w' ⟨rfl, rfl⟩)
    | (gi_at_make; refine wpListIn_make_full _ rfl _ _ 55 rfl W1.heap.size 2 i0 (.int .i64 0) 1 Try.underlying55 hi hz0 hz1 .i64 .i64 _ _ R rfl rfl rfl rfl (by rw [hz2]; omega) (by unfold maxLen; omega) (Nat.le_refl _) ?_; intro w4 hown1 hgrow1; have hN4 : Below W1.heap.size W1 w4 := (Below.refl _ _).grown hgrow1 (Nat.le_refl _) (fun j e => by cases e); have q0 := kc hN4 p0; have q1 := kc hN4 p1; have lt4 : w.heap.size < w4.heap.size := by have := hN4.size; have := HS1.out; omega)
    | (refine ⟨trivial, ?_⟩; gi_at_call 103; refine (callsIn_wide.2 (rowsOf_any _ _)).mono ?_; rintro e w' ⟨rfl, rfl⟩))
  obtain ⟨W0, hW0⟩ : ∃ W0, (w4.alloc (.cells #[.slice (some ⟨W1.heap.size, 0, none⟩) R R] 55)).alloc (.cells #[.int .i64 n] 2) = W0 := ⟨_, rfl⟩
  have cS : W0.cell? ⟨w4.heap.size, 0, none⟩ = some (.slice (some ⟨W1.heap.size, 0, none⟩) R R) := by rw [← hW0]; simp [go_sem]
  have cM : W0.cell? ⟨w4.heap.size + 1, 0, none⟩ = some (.int .i64 n) := by rw [← hW0]; simp [go_sem]
  have hb04 : Below w4.heap.size w4 W0 := by rw [← hW0]; exact balloc (bnew _ _) _
  have s0 := kc hb04 q0
  have s1 := kc hb04 q1
  have hvl := hown1.1
  have own0 := owns_below hown1 hb04
  generalize (madeCells (Value.int .i64 0).cells (R * 1)).toList = vs at own0 hown1 hvl
  rw [Nat.mul_one] at hvl
  have hsz : W0.heap.size = w4.heap.size + 2 := by rw [← hW0]; simp [go_sem]
  have hB0 : Below w.heap.size w W0 := bthen (bthen hB hN4) hb04
  have hg4 : W1.heap.size < w4.heap.size := (World.ownsRow.lt hown1 W1.heap.size rfl).2
  rw [hW0]
  clear hW0 hgrow1 hown1 q0 q1 p0 p1 hW1 hN4
  have s1e : w.heap.size < W1.heap.size := by have := HS1.out; omega
  refine wpIn_rangeFunc_ownF (α := Row R) rfl (by omega) (gf := 158) (lb := #[.pointer (some ⟨w4.heap.size + 1, 0, none⟩)]) rfl trivial (enters_of Try.func158 (by kernel_rfl) rfl)
    (rows_stops (3 - 1) (by omega) (w4.heap.size + 1) w.heap.size n R ok.h0 ok.h4 r0 r16 ok.hR W0 (by omega) cM) belowK_t (belowK_b (by omega)) (Below.refl _ _) (fun _ => rfl)
    (fun pre W => (VMid w.heap.size w4.heap.size W1.heap.size R n x W ∧ W.ownsRow W1.heap.size 2 1 (.slice (some ⟨W1.heap.size, 0, none⟩) R R) R (setL (fun j => .int .i64 (bitN x j : Int)) vs pre)) ∧ Below w.heap.size w W)
    (fun _ _ _ => False)
    (OwnFrom.and (Own.from (fun s A B row hs hg hr => ⟨hs.1.kept hg hr, owns_keptF hs.2 hg hr⟩) _) (ownFrom_below (Nat.le_refl _) (by omega)))
    (fun _ _ _ _ _ hs _ _ => hs)
    ⟨⟨⟨cS, s0, s1⟩, by rw [setL_nil _ _ hvl]; exact own0⟩, hB0⟩
    (fun y => { tmps := #[.agg #[.int .i64 n, .int .i64 (x : Int)], .pointer (some ⟨w.heap.size, 0, none⟩), .slice none 0 0, .pointer (some ⟨w4.heap.size, 0, none⟩), .int .i64 (y.1 : Int), .pointer (some ⟨w.heap.size, 0, none⟩), .int .i64 n, .int .i64 R, .slice (some ⟨W1.heap.size, 0, none⟩) R R, .pointer (some ⟨w.heap.size, 0, none⟩), .int .i64 n, .func (.func 158) #[] #[.pointer (some ⟨w4.heap.size + 1, 0, none⟩)], .int .i64 (y.1 : Int), undef, undef, undef, undef, undef, undef, undef], defers := [] }) ?assign ?body ?done ?stop
  case assign =>
    intro l y W K hK
    unfold encRow
    gi_wp2
    exact hK
  case body =>
    clear cS cM s0 s1 own0 hB0 hB
    rintro l pre y W ⟨⟨hM, hO⟩, hB⟩ _
    have cS := hM.cS
    have p0 := hM.p0
    have p1 := hM.p1
    have hr := y.2
    have hsn := setL_snoc (fun j => .int .i64 (bitN x j : Int)) vs pre y
    have hlen := setL_len (fun j => .int .i64 (bitN x j : Int)) vs pre
    have hbw := hB.size
    generalize y.1 = r at hr hsn ⊢
    obtain ⟨u, cu⟩ : ∃ u, W.cell? ⟨W1.heap.size, r, none⟩ = some u := by
      rw [hO.cellAt r (by omega)]
      exact ⟨_, List.getElem?_eq_getElem (by omega)⟩
    have fu := hO.frozenAt r
    have hr62 : r < 62 := by omega
    have END := Lib.hid (fun w' (hb' : Below W.drew.heap.size W.drew w') => (show (KeepsOthers W (w'.setCell ⟨W1.heap.size, r, none⟩ (.int .i64 (bitN x r : Int))) ∧ Below w.heap.size W (w'.setCell ⟨W1.heap.size, r, none⟩ (.int .i64 (bitN x r : Int))) ∧
      ((VMid w.heap.size w4.heap.size W1.heap.size R n x (w'.setCell ⟨W1.heap.size, r, none⟩ (.int .i64 (bitN x r : Int))) ∧ (w'.setCell ⟨W1.heap.size, r, none⟩ (.int .i64 (bitN x r : Int))).ownsRow W1.heap.size 2 1 (.slice (some ⟨W1.heap.size, 0, none⟩) R R) R (setL (fun j => .int .i64 (bitN x j : Int)) vs (pre ++ [y]))) ∧ Below w.heap.size w (w'.setCell ⟨W1.heap.size, r, none⟩ (.int .i64 (bitN x r : Int))))) from
      ⟨(kot hb').trans (KeepsOthers.setCell _ _ _), ((Below.refl _ W).drew.trans (hb'.mono hbw)).setCell (p := ⟨W1.heap.size, r, none⟩) (by simp; omega) _,
        ⟨hM.step hb' (by omega) (by omega), by rw [← hsn]; exact ((owns_below (World.ownsRow.drew hO) hb').stored r _).1⟩, (hB.drew.trans (hb'.mono hbw)).setCell (p := ⟨W1.heap.size, r, none⟩) (by simp; omega) _⟩))
    have hmx : Try.prog.follows .mixedOrders = true := by kernel_rfl
    have hd : 1 ≤ 3 - 1 - 1 := by omega
    clear hM hO hsn hlen hvl s1e
    gi_wp2
    refine wpIn_region_any hmx ?_
    refine wpAnyIn_round (F := Fence.wide) l (by kernel_rfl) _ _ _ _ ?_
    change wpAnyIn _ _ _ _ _ _ _ _ _ (World.drew _)
    refine wpAnyIn_take (i := 1) (v := ?_) rfl rfl (by kernel_rfl) (by kernel_rfl) (by kernel_rfl) (fun _ _ _ h => h) ⟨Or.inl ⟨by rfl, by intro w; go_simp; try (with_reducible rfl)⟩, fun _ => rfl⟩ ?_
    refine wpAnyIn_take (i := 3) (v := ?_) rfl rfl (by kernel_rfl) (by kernel_rfl) (by kernel_rfl) (fun _ _ _ h => h) ⟨Or.inl ⟨by rfl, by intro w; go_simp; try (with_reducible rfl)⟩, fun _ => rfl⟩ ?_
    refine wpAnyIn_ready (rs := [0, 2]) (by kernel_rfl) (by simp) ?_
    refine AllReadyIn.cons rfl (fun K hK => ?_) ?_
    · go_simp
      refine hK _ _ ?_
      clear hK K
      refine wpAnyIn_ready (rs := [2]) (by kernel_rfl) (by simp) ?_
      refine AllReadyIn.cons rfl (fun K hK => ?_) ?_
      · go_simp
        refine hK _ _ ?_
        clear hK K
        refine wpAnyIn_ready (rs := [4]) (by kernel_rfl) (by simp) ?_
        refine AllReadyIn.cons rfl (fun K hK => ?_) ?_
        · go_simp
          refine ⟨trivial, ?_⟩
          refine (callsIn_wide.2 (valueInRow_any n x r hox (by omega) _)).mono ?_
          rintro e w' ⟨rfl, hb'⟩
          have dS := kcd hb' cS
          have d0 := kcd hb' p0
          have d1 := kcd hb' p1
          have du := kcd hb' cu
          have eu := kfd hb' cu fu
          dsimp only
          refine hK _ _ ?_
          clear hK K
          refine wpAnyIn_ready (rs := [5]) (by kernel_rfl) (by simp) ?_
          refine AllReadyIn.cons rfl (fun K hK => ?_) ?_
          · go_simp
            refine hK _ _ ?_
            clear hK K
            refine wpAnyIn_ready (rs := [6]) (by kernel_rfl) (by simp) ?_
            refine AllReadyIn.cons rfl (fun K hK => ?_) ?_
            · go_simp
              refine hK _ _ ?_
              clear hK K
              refine wpAnyIn_done (by kernel_rfl) ?_ _
              exact END.out _ hb'
            exact AllReadyIn.nil
          exact AllReadyIn.nil
        exact AllReadyIn.nil
      exact AllReadyIn.nil
    refine AllReadyIn.cons rfl (fun K hK => ?_) ?_
    · go_simp
      refine hK _ _ ?_
      clear hK K
      refine wpAnyIn_ready (rs := [0, 4]) (by kernel_rfl) (by simp) ?_
      refine AllReadyIn.cons rfl (fun K hK => ?_) ?_
      · go_simp
        refine hK _ _ ?_
        clear hK K
        refine wpAnyIn_ready (rs := [4]) (by kernel_rfl) (by simp) ?_
        refine AllReadyIn.cons rfl (fun K hK => ?_) ?_
        · go_simp
          refine ⟨trivial, ?_⟩
          refine (callsIn_wide.2 (valueInRow_any n x r hox (by omega) _)).mono ?_
          rintro e w' ⟨rfl, hb'⟩
          have dS := kcd hb' cS
          have d0 := kcd hb' p0
          have d1 := kcd hb' p1
          have du := kcd hb' cu
          have eu := kfd hb' cu fu
          dsimp only
          refine hK _ _ ?_
          clear hK K
          refine wpAnyIn_ready (rs := [5]) (by kernel_rfl) (by simp) ?_
          refine AllReadyIn.cons rfl (fun K hK => ?_) ?_
          · go_simp
            refine hK _ _ ?_
            clear hK K
            refine wpAnyIn_ready (rs := [6]) (by kernel_rfl) (by simp) ?_
            refine AllReadyIn.cons rfl (fun K hK => ?_) ?_
            · go_simp
              refine hK _ _ ?_
              clear hK K
              refine wpAnyIn_done (by kernel_rfl) ?_ _
              exact END.out _ hb'
            exact AllReadyIn.nil
          exact AllReadyIn.nil
        exact AllReadyIn.nil
      refine AllReadyIn.cons rfl (fun K hK => ?_) ?_
      · go_simp
        refine ⟨trivial, ?_⟩
        refine (callsIn_wide.2 (valueInRow_any n x r hox (by omega) _)).mono ?_
        rintro e w' ⟨rfl, hb'⟩
        have dS := kcd hb' cS
        have d0 := kcd hb' p0
        have d1 := kcd hb' p1
        have du := kcd hb' cu
        have eu := kfd hb' cu fu
        dsimp only
        refine hK _ _ ?_
        clear hK K
        refine wpAnyIn_ready (rs := [0]) (by kernel_rfl) (by simp) ?_
        refine AllReadyIn.cons rfl (fun K hK => ?_) ?_
        · go_simp
          refine hK _ _ ?_
          clear hK K
          refine wpAnyIn_ready (rs := [5]) (by kernel_rfl) (by simp) ?_
          refine AllReadyIn.cons rfl (fun K hK => ?_) ?_
          · go_simp
            refine hK _ _ ?_
            clear hK K
            refine wpAnyIn_ready (rs := [6]) (by kernel_rfl) (by simp) ?_
            refine AllReadyIn.cons rfl (fun K hK => ?_) ?_
            · go_simp
              refine hK _ _ ?_
              clear hK K
              refine wpAnyIn_done (by kernel_rfl) ?_ _
              exact END.out _ hb'
            exact AllReadyIn.nil
          exact AllReadyIn.nil
        exact AllReadyIn.nil
      exact AllReadyIn.nil
    exact AllReadyIn.nil
  case done =>
    clear cS cM s0 s1 own0 hB0
    rintro D ys W hD rfl ⟨⟨hM, hO⟩, hBW⟩ hK
    rw [setL_upto] at hO
    have cS := hM.cS
    have HO := Lib.hid hO
    clear hM hO
    gi_wp2
    refine ⟨by simp, .inl ⟨_, _, rfl, run_takeDeferred hK, ?_⟩⟩
    refine ⟨.slice (some ⟨W1.heap.size, 0, none⟩) R R, by simp [results, Try.results244, go_sem], ?_⟩
    refine ⟨_, rfl, ?_, hBW.trans (belowK_b (w := w) (Nat.le_refl _) W D _ _ (by omega) hK rfl rfl)⟩
    refine Owns.mono (b1 := W1.heap.size) ?_ (by omega)
    unfold Owns
    rw [natL_len, ints_natL]
    exact ownsRow_putObj HO.out _ hK rfl
  case stop =>
    rintro D c pre W _ _ h _
    exact h.elim
end Go.Proofs.Ytdgpjpcdifpllaa

/- NP1:
  Functions put into a function in all ways, as a function that is ranged over: the part that calls itself. -/
namespace Go.Proofs.Ytdgpjpcdifpllaa
open Go.RowKit Go.Shelf
attribute [local go_sem] Oper.semAt_some
set_option linter.unusedVariables false
set_option linter.unusedSimpArgs false

theorem owns_above {S : Nat → Prop} {W W' : World} {base : Nat} {s : Value} {xs : List Int} (h : Owns W base s xs) (ha : Above S W W') (hs : ∀ k, s.ownBlock = some k → S k) : Owns W' base s xs := by
  obtain ⟨h1, h2 | ⟨g, cap, cur, e1, e2, e3, r⟩⟩ := h
  · exact ⟨h1, .inl h2⟩
  · exact ⟨h1, .inr ⟨g, cap, cur, e1, e2, (ha.same g (hs g (by rw [e1]; rfl)) (Array.getElem?_eq_some_iff.1 e3).1).trans e3, r⟩⟩
theorem cell_above {S : Nat → Prop} {W W' : World} (ha : Above S W W') {b o : Nat} {u : Value} (hb : S b) (h : W.cell? ⟨b, o, none⟩ = some u) : W'.cell? ⟨b, o, none⟩ = some u := by
  have hl := cell_lt h
  have := ha.same b hb hl
  simp only [World.cell?, this] at h ⊢
  exact h
theorem cell_of_owns {W : World} {base : Nat} {s : Value} {xs : List Int} {g cap : Nat} (h : Owns W base s xs) (e : s = .slice (some ⟨g, 0, none⟩) xs.length cap) (j : Nat) (x : Int) (hx : xs[j]? = some x) : W.cell? ⟨g, j, none⟩ = some (.int .i64 x) := by
  subst e
  have hj : j < xs.length := (List.getElem?_eq_some_iff.1 hx).1
  have := World.ownsRow.cellAt h j (by omega)
  rw [this]
  simp [ints, hx]
theorem frozen_of_owns {W : World} {base : Nat} {xs : List Int} {g cap : Nat} (h : Owns W base (.slice (some ⟨g, 0, none⟩) xs.length cap) xs) (j : Nat) : W.frozen? ⟨g, j, none⟩ = false := World.ownsRow.frozenAt h j
theorem owns_set {W : World} {base g n cap : Nat} {xs : List Int} (h : Owns W base (.slice (some ⟨g, 0, none⟩) n cap) xs) (hn : n = xs.length) (j : Nat) (x : Int) : Owns (W.setCell ⟨g, j, none⟩ (.int .i64 x)) base (.slice (some ⟨g, 0, none⟩) n cap) (xs.set j x) := by
  subst hn
  have := (World.ownsRow.stored h j (.int .i64 x)).1
  unfold Owns
  rw [List.length_set, ints, List.map_set]
  exact this
theorem grownSet (W : World) (b o : Nat) (v : Value) : W.grownBy (W.setCell ⟨b, o, none⟩ v) (some b) :=
  ⟨rfl, rfl, rfl, (KeepsWalks.setCell W _ v).size, fun k _ hk => Below.heap_setCell _ _ _ k (fun e => hk (by rw [e]))⟩
theorem owns_other {W : World} {base : Nat} {s : Value} {xs : List Int} (h : Owns W base s xs) (g j : Nat) (v : Value) (hs : ∀ k, s.ownBlock = some k → k ≠ g) : Owns (W.setCell ⟨g, j, none⟩ v) base s xs := by
  refine World.ownsRow.kept h (grownSet W g j v) ?_
  cases e : s.ownBlock with
  | none => exact .inl rfl
  | some k => exact .inr (fun e' => hs k e (by cases e'; rfl))

/-- A list with places set one after the other. -/
def setsN (tr : List Int) (F : Nat) (f : Nat → Int) : Nat → List Int
  | 0 => tr
  | k + 1 => (setsN tr F f k).set (F + k) (f k)
theorem setsN_length (tr : List Int) (F : Nat) (f : Nat → Int) (k : Nat) : (setsN tr F f k).length = tr.length := by
  induction k with
  | zero => rfl
  | succ k ih => simp [setsN, ih]
theorem setsN_out (tr : List Int) (F : Nat) (f : Nat → Int) (k j : Nat) (h : j < F ∨ F + k ≤ j) : (setsN tr F f k)[j]? = tr[j]? := by
  induction k with
  | zero => rfl
  | succ k ih => rw [setsN, List.getElem?_set_ne (by omega), ih (by omega)]
theorem setsN_in (tr : List Int) (F : Nat) (f : Nat → Int) (k q : Nat) (h : q < k) (hl : F + k ≤ tr.length) : (setsN tr F f k)[F + q]? = some (f q) := by
  induction k with
  | zero => omega
  | succ k ih =>
    rw [setsN]
    by_cases e : q = k
    · subst e; rw [List.getElem?_set_self (by rw [setsN_length]; omega)]
    · rw [List.getElem?_set_ne (by omega), ih (by omega) (by omega)]

/-- What is handed out: the list of what was put in, and what arises. -/
abbrev Out := Value × Row 16
def encS (x : Out) : Array Value := #[x.1, .int .i64 (x.2.1 : Int)]
def outOf (sp : Value) {v : Nat → Nat} (hv : ∀ q, v q < 2 ^ 4) (p : List Nat) : Out := (sp, ⟨levF v p 0, levF_lt hv p 0⟩)

theorem sel_ops : ∀ a : Nat, a < 16 → ∀ b : Nat, b < 16 → ∀ g : Nat, g < 16 → bits .or .i64 (bits .andNot .i64 (a : Int) (g : Int)) (bits .and .i64 (b : Int) (g : Int)) = ((selN a b g : Nat) : Int) := by decide +kernel
end Go.Proofs.Ytdgpjpcdifpllaa

/- NQ1:
  Functions put into a function in all ways, as a function that is ranged over: a round is told what the list that is handed out holds. -/
namespace Go.Proofs.Ytdgpjpcdifpllaa
open Go.RowKit Go.Shelf
set_option linter.unusedVariables false

/-- What is handed out: the list of what was put in, what it holds, and what arises. -/
abbrev OutV := Value × List Nat × Row 16
def encSV (x : OutV) : Array Value := #[x.1, .int .i64 (x.2.2.1 : Int)]
def outOfV (sp : Value) {v : Nat → Nat} (hv : ∀ q, v q < 2 ^ 4) (p : List Nat) : OutV := (sp, p, ⟨levF v p 0, levF_lt hv p 0⟩)
/-- What can be seen of it: the list, in a block from K on; m small numbers. -/
def Vis (m K : Nat) (x : OutV) (W : World) : Prop := Owns W K x.1 (nI x.2.1) ∧ x.2.1.length = m ∧ ∀ a, a ∈ x.2.1 → a < 16

theorem take_set_succ (xs : List Int) (i : Nat) (a : Int) (h : i < xs.length) : (xs.set i a).take (i + 1) = xs.take i ++ [a] := by
  rw [List.take_succ_eq_append_getElem (by rw [List.length_set]; exact h), List.take_set_of_le (Nat.le_refl _), List.getElem_set_self]
theorem take_less {xs : List Int} {p : List Nat} {a : Nat} (h : xs.take (p ++ [a]).length = nI (p ++ [a])) : xs.take p.length = nI p := by
  have e := congrArg (List.take p.length) h
  rw [List.take_take, List.length_append, Nat.min_eq_left (Nat.le_add_right _ _)] at e
  rw [e]
  simp [nI]
end Go.Proofs.Ytdgpjpcdifpllaa

/- NQ2:
  putFrom by contract: by induction on how many are still to be put in. -/
namespace Go.Proofs.Ytdgpjpcdifpllaa
open Go.RowKit Go.Shelf
attribute [local go_sem] Oper.semAt_some
set_option linter.unusedVariables false
set_option linter.unusedSimpArgs false

theorem YieldAt.anyDV {m : Nat} (m' : Nat) {P : Program} {l : Nat} {args : Array Value} {W : World} {R : Ending → World → Prop} (h : YieldAt Fence.wide m P l args W R) : YieldAt Fence.wide m' P l args W R := by
  obtain ⟨fn, tmps, assign, body, hy, hR⟩ := h
  exact ⟨fn, tmps, assign, body, hy, hR.1, fun c cs _ => hR.2 c cs (fun d h => by cases h)⟩

/-- The iterator's memory: the tree and the list of what was put in. -/
structure SMemV (T U : Nat) (L m : Nat) (tr pu : List Int) (W : World) : Prop where
  ot : Owns W T (.slice (some ⟨T, 0, none⟩) L L) tr
  ou : Owns W U (.slice (some ⟨U, 0, none⟩) m m) pu
  lt : tr.length = L
  lu : pu.length = m

set_option maxRecDepth 100000 in
set_option maxHeartbeats 4000000 in
theorem putFrom_zeroV {v : Nat → Nat} (hv : ∀ q, v q < 2 ^ 4) (l T U K m N L : Nat) (S : Nat → Prop) (sg : Value) (J Jx : List OutV → World → Prop) (hJ : Firm K J)
    (hL : L = 2 ^ (m + 1))
    (hY : ∀ pre x W, J pre W → pre.length < N → Vis m K x W → YieldAt Fence.wide 1 Try.prog l (encSV x) W fun e W' =>
      Above S W W' ∧ ((e = .returned (.bool true) ∧ J (pre ++ [x]) W') ∨ (e = .returned (.bool false) ∧ Jx (pre ++ [x]) W')))
    (n : Nat) (p : List Nat) (hp : p.length = m) (pre : List OutV) (tr pu : List Int) (W : World) (kU : K ≤ U) (hpu : pu.take p.length = nI p) (hpb : ∀ a, a ∈ p → a < 16) (hm : SMemV T U L m tr pu W) (hlev : ∀ q, q < 2 ^ 0 → tr[2 ^ 0 + q]? = some ((levF v p q : Nat) : Int)) (hj : J pre W) (hN : pre.length < N) (hT : T < W.heap.size) (hU : U < W.heap.size) (hK : K ≤ W.heap.size) :
    CallsIn Fence.wide n Try.prog 246 #[.agg #[.slice (some ⟨T, 0, none⟩) L L, .slice (some ⟨U, 0, none⟩) m m, sg], .int .i64 (m : Int), .func (.yield l) #[] #[]] W fun e W' =>
      (e = .returned (.bool true) ∧ Above S W W' ∧ J (pre ++ [outOfV (.slice (some ⟨U, 0, none⟩) m m) hv p]) W') ∨ (e = .returned (.bool false) ∧ Jx (pre ++ [outOfV (.slice (some ⟨U, 0, none⟩) m m) hv p]) W') := by
  have hb := bnew W (.cells #[.slice (some ⟨T, 0, none⟩) L L, .slice (some ⟨U, 0, none⟩) m m, sg] 269)
  obtain ⟨W1, hW1⟩ : ∃ W1, W.alloc (.cells #[.slice (some ⟨T, 0, none⟩) L L, .slice (some ⟨U, 0, none⟩) m m, sg] 269) = W1 := ⟨_, rfl⟩
  have p0 : W1.cell? ⟨W.heap.size, 0, none⟩ = some (.slice (some ⟨T, 0, none⟩) L L) := by rw [← hW1]; simp [go_sem]
  have p1 : W1.cell? ⟨W.heap.size, 1, none⟩ = some (.slice (some ⟨U, 0, none⟩) m m) := by rw [← hW1]; simp [go_sem]
  have hL2 : 2 ≤ L := by rw [hL, Nat.pow_succ]; have := Nat.two_pow_pos m; omega
  have c1 : W1.cell? ⟨T, 1, none⟩ = some (.int .i64 (levF v p 0 : Int)) := by
    rw [hW1] at hb
    refine kc hb (cell_of_owns hm.ot (by rw [hm.lt]) 1 _ ?_)
    simpa using hlev 0 (by decide)
  have hj0 : J pre W1 := by rw [← hW1]; exact hJ.alloc _ hj
  have hj1 : J pre W1.drew := hJ _ W1 W1.drew none hj0 ⟨rfl, rfl, rfl, Nat.le_refl _, fun _ _ _ => rfl⟩ (fun r e => by cases e)
  have hL3 : (1 : Int) < (L : Int) := by omega
  rw [hW1] at hb
  have hvis : Vis m K (outOfV (.slice (some ⟨U, 0, none⟩) m m) hv p) W1.drew := by
    have e : pu = nI p := by rw [← hpu, List.take_of_length_le (by rw [hp, hm.lu]; exact Nat.le_refl _)]
    refine ⟨?_, hp, hpb⟩
    show Owns W1.drew K _ (nI p)
    rw [← e]
    exact (hm.ou.below hb.drew).mono kU
  obtain ⟨fn, tmps, assign, body, hy, hR⟩ := YieldAt.mono (R' := fun e W' => ∃ b, e = .returned (.bool b) ∧ Above S W1.drew W' ∧ (b = true → J (pre ++ [outOfV (.slice (some ⟨U, 0, none⟩) m m) hv p]) W') ∧ (b = false → Jx (pre ++ [outOfV (.slice (some ⟨U, 0, none⟩) m m) hv p]) W'))
    (YieldAt.anyDV (n - 1) (hY pre (outOfV (.slice (some ⟨U, 0, none⟩) m m) hv p) W1.drew hj1 hN hvis))
    (fun e W' h => by rcases h with ⟨ha, ⟨rfl, h2⟩ | ⟨rfl, h2⟩⟩ <;> exact ⟨_, rfl, ha, by simp [h2], by simp [h2]⟩)
  have FIN := Lib.hid (fun (b : Bool) (W2 : World) (h2 : Above S W1.drew W2 ∧ (b = true → J (pre ++ [outOfV (.slice (some ⟨U, 0, none⟩) m m) hv p]) W2) ∧ (b = false → Jx (pre ++ [outOfV (.slice (some ⟨U, 0, none⟩) m m) hv p]) W2)) =>
    show ((Ending.returned (.bool b) = .returned (.bool true) ∧ Above S W W2 ∧ J (pre ++ [outOfV (.slice (some ⟨U, 0, none⟩) m m) hv p]) W2) ∨ (Ending.returned (.bool b) = .returned (.bool false) ∧ Jx (pre ++ [outOfV (.slice (some ⟨U, 0, none⟩) m m) hv p]) W2)) by
      have hA : Above S W W1.drew := Above.below hb.drew
      cases b
      · exact .inr ⟨rfl, h2.2.2 rfl⟩
      · exact .inl ⟨rfl, hA.trans h2.1, h2.2.1 rfl⟩)
  unfold encSV outOfV at hy
  dsimp only at hy
  clear hL hlev hY hJ hj hj1 hvis hpu hpb kU
  refine callsIn_of_wp Try.func246 rfl trivial ?_ rfl
  simp only [Try.ntmps246, List.size_toArray, List.length_cons, List.length_nil, Nat.reduceAdd, Nat.reduceSub, Array.replicate_succ, Array.replicate_zero, List.push_toArray, List.append_toArray, List.nil_append, List.cons_append]
  have hmx : Try.prog.follows .mixedOrders = true := by kernel_rfl
  gi_wp2
  clear hW1
  refine wpIn_region_any hmx ?_
  change wpAnyIn _ _ _ _ _ _ _ _ _ (World.drew _)
  refine wpAnyIn_take (i := 0) (v := ?_) rfl rfl (by kernel_rfl) (by kernel_rfl) (by kernel_rfl) (fun _ _ _ h => h) ⟨Or.inl ⟨by rfl, by intro w; go_simp; try (with_reducible rfl)⟩, fun _ => rfl⟩ ?_
  refine wpAnyIn_take (i := 1) (v := ?_) rfl rfl (by kernel_rfl) (by kernel_rfl) (by kernel_rfl) (fun _ _ _ h => h) ⟨Or.inl ⟨by rfl, by intro w; go_simp; try (with_reducible rfl)⟩, fun _ => rfl⟩ ?_
  refine wpAnyIn_take (i := 3) (v := ?_) rfl rfl (by kernel_rfl) (by kernel_rfl) (by kernel_rfl) (fun _ _ _ h => h) ⟨Or.inl ⟨by rfl, by intro w; go_simp; try (with_reducible rfl)⟩, fun _ => rfl⟩ ?_
  refine wpAnyIn_ready (rs := [2, 4]) (by kernel_rfl) (by simp) ?_
  refine AllReadyIn.cons rfl (fun K hK => ?_) ?_
  · go_simp
    refine hK _ _ ?_
    clear hK K
    refine wpAnyIn_ready (rs := [4]) (by kernel_rfl) (by simp) ?_
    refine AllReadyIn.cons rfl (fun K hK => ?_) ?_
    · go_simp
      refine hK _ _ ?_
      clear hK K
      refine wpAnyIn_ready (rs := [5]) (by kernel_rfl) (by simp) ?_
      refine AllReadyIn.cons rfl (fun K hK => ?_) ?_
      · go_simp
        refine hK _ _ ?_
        clear hK K
        refine wpAnyIn_ready (rs := [6]) (by kernel_rfl) (by simp) ?_
        refine AllReadyIn.cons rfl (fun K hK => ?_) ?_
        · go_simp
          refine hK _ _ ?_
          clear hK K
          refine wpAnyIn_ready (rs := [7]) (by kernel_rfl) (by simp) ?_
          refine AllReadyIn.cons rfl (fun K hK => ?_) ?_
          · go_simp
            refine ⟨fun h => (by cases h), ?_⟩
            refine hR.mono ?_
            rintro e W2 ⟨b, rfl, h2⟩
            dsimp only
            refine hK _ _ ?_
            clear hK K
            refine wpAnyIn_ready (rs := [8]) (by kernel_rfl) (by simp) ?_
            refine AllReadyIn.cons rfl (fun K hK => ?_) ?_
            · go_simp
              refine hK _ _ ?_
              clear hK K
              refine wpAnyIn_done (by kernel_rfl) ?_ _
              gi_wp2
              go_ret
              exact FIN.out b W2 h2
            exact AllReadyIn.nil
          exact AllReadyIn.nil
        exact AllReadyIn.nil
      exact AllReadyIn.nil
    exact AllReadyIn.nil
  refine AllReadyIn.cons rfl (fun K hK => ?_) ?_
  · go_simp
    refine hK _ _ ?_
    clear hK K
    refine wpAnyIn_ready (rs := [2, 5]) (by kernel_rfl) (by simp) ?_
    refine AllReadyIn.cons rfl (fun K hK => ?_) ?_
    · go_simp
      refine hK _ _ ?_
      clear hK K
      refine wpAnyIn_ready (rs := [5]) (by kernel_rfl) (by simp) ?_
      refine AllReadyIn.cons rfl (fun K hK => ?_) ?_
      · go_simp
        refine hK _ _ ?_
        clear hK K
        refine wpAnyIn_ready (rs := [6]) (by kernel_rfl) (by simp) ?_
        refine AllReadyIn.cons rfl (fun K hK => ?_) ?_
        · go_simp
          refine hK _ _ ?_
          clear hK K
          refine wpAnyIn_ready (rs := [7]) (by kernel_rfl) (by simp) ?_
          refine AllReadyIn.cons rfl (fun K hK => ?_) ?_
          · go_simp
            refine ⟨fun h => (by cases h), ?_⟩
            refine hR.mono ?_
            rintro e W2 ⟨b, rfl, h2⟩
            dsimp only
            refine hK _ _ ?_
            clear hK K
            refine wpAnyIn_ready (rs := [8]) (by kernel_rfl) (by simp) ?_
            refine AllReadyIn.cons rfl (fun K hK => ?_) ?_
            · go_simp
              refine hK _ _ ?_
              clear hK K
              refine wpAnyIn_done (by kernel_rfl) ?_ _
              gi_wp2
              go_ret
              exact FIN.out b W2 h2
            exact AllReadyIn.nil
          exact AllReadyIn.nil
        exact AllReadyIn.nil
      exact AllReadyIn.nil
    refine AllReadyIn.cons rfl (fun K hK => ?_) ?_
    · go_simp
      refine hK _ _ ?_
      clear hK K
      refine wpAnyIn_ready (rs := [2, 6]) (by kernel_rfl) (by simp) ?_
      refine AllReadyIn.cons rfl (fun K hK => ?_) ?_
      · go_simp
        refine hK _ _ ?_
        clear hK K
        refine wpAnyIn_ready (rs := [6]) (by kernel_rfl) (by simp) ?_
        refine AllReadyIn.cons rfl (fun K hK => ?_) ?_
        · go_simp
          refine hK _ _ ?_
          clear hK K
          refine wpAnyIn_ready (rs := [7]) (by kernel_rfl) (by simp) ?_
          refine AllReadyIn.cons rfl (fun K hK => ?_) ?_
          · go_simp
            refine ⟨fun h => (by cases h), ?_⟩
            refine hR.mono ?_
            rintro e W2 ⟨b, rfl, h2⟩
            dsimp only
            refine hK _ _ ?_
            clear hK K
            refine wpAnyIn_ready (rs := [8]) (by kernel_rfl) (by simp) ?_
            refine AllReadyIn.cons rfl (fun K hK => ?_) ?_
            · go_simp
              refine hK _ _ ?_
              clear hK K
              refine wpAnyIn_done (by kernel_rfl) ?_ _
              gi_wp2
              go_ret
              exact FIN.out b W2 h2
            exact AllReadyIn.nil
          exact AllReadyIn.nil
        exact AllReadyIn.nil
      refine AllReadyIn.cons rfl (fun K hK => ?_) ?_
      · go_simp
        refine hK _ _ ?_
        clear hK K
        refine wpAnyIn_ready (rs := [2]) (by kernel_rfl) (by simp) ?_
        refine AllReadyIn.cons rfl (fun K hK => ?_) ?_
        · go_simp
          refine hK _ _ ?_
          clear hK K
          refine wpAnyIn_ready (rs := [7]) (by kernel_rfl) (by simp) ?_
          refine AllReadyIn.cons rfl (fun K hK => ?_) ?_
          · go_simp
            refine ⟨fun h => (by cases h), ?_⟩
            refine hR.mono ?_
            rintro e W2 ⟨b, rfl, h2⟩
            dsimp only
            refine hK _ _ ?_
            clear hK K
            refine wpAnyIn_ready (rs := [8]) (by kernel_rfl) (by simp) ?_
            refine AllReadyIn.cons rfl (fun K hK => ?_) ?_
            · go_simp
              refine hK _ _ ?_
              clear hK K
              refine wpAnyIn_done (by kernel_rfl) ?_ _
              gi_wp2
              go_ret
              exact FIN.out b W2 h2
            exact AllReadyIn.nil
          exact AllReadyIn.nil
        exact AllReadyIn.nil
      exact AllReadyIn.nil
    exact AllReadyIn.nil
  exact AllReadyIn.nil
end Go.Proofs.Ytdgpjpcdifpllaa

/- NQ3:
  putFrom by contract: one more to put in. -/
namespace Go.Proofs.Ytdgpjpcdifpllaa
open Go.RowKit Go.Shelf
set_option linter.unusedVariables false
set_option linter.unusedSimpArgs false

theorem Firm.drewV {β : Type} {K : Nat} {J : β → World → Prop} (h : Firm K J) {s : β} {W : World} (hs : J s W) : J s W.drew :=
  h s W W.drew none hs ⟨rfl, rfl, rfl, Nat.le_refl _, fun _ _ _ => rfl⟩ (fun r e => by cases e)
theorem Firm.setV {β : Type} {K : Nat} {J : β → World → Prop} (h : Firm K J) {s : β} {W : World} (b o : Nat) (v : Value) (hs : J s W) (hb : K ≤ b) : J s (W.setCell ⟨b, o, none⟩ v) :=
  h s W _ (some b) hs (grownSet W b o v) (fun r e => by cases e; exact hb)

/-- All that is handed out behind p. -/
def outsV (sp : Value) {v : Nat → Nat} (hv : ∀ q, v q < 2 ^ 4) (gs p : List Nat) (d : Nat) : List OutV := (allP gs d).map fun t => outOfV sp hv (p ++ t)
theorem outs_zeroV (sp : Value) {v : Nat → Nat} (hv : ∀ q, v q < 2 ^ 4) (gs p : List Nat) : outsV sp hv gs p 0 = [outOfV sp hv p] := by simp [outsV, allP]
/-- .. the first j of what is put in next. -/
def outsToV (sp : Value) {v : Nat → Nat} (hv : ∀ q, v q < 2 ^ 4) (gs p : List Nat) (d j : Nat) : List OutV := (gs.take j).flatMap fun a => outsV sp hv gs (p ++ [a]) d
theorem outsTo_succV (sp : Value) {v : Nat → Nat} (hv : ∀ q, v q < 2 ^ 4) (gs p : List Nat) (d j a : Nat) (h : gs[j]? = some a) : outsToV sp hv gs p d (j + 1) = outsToV sp hv gs p d j ++ outsV sp hv gs (p ++ [a]) d := by
  obtain ⟨hj, e⟩ := List.getElem?_eq_some_iff.1 h
  unfold outsToV
  rw [List.take_succ_eq_append_getElem hj, List.flatMap_append, e]
  simp
theorem outs_succV (sp : Value) {v : Nat → Nat} (hv : ∀ q, v q < 2 ^ 4) (gs p : List Nat) (d : Nat) : outsV sp hv gs p (d + 1) = outsToV sp hv gs p d gs.length := by
  unfold outsToV outsV
  rw [List.take_length, allP, List.map_flatMap]
  congr 1
  funext a
  rw [List.map_map]
  congr 1
  funext t
  simp
theorem outs_lengthV (sp : Value) {v : Nat → Nat} (hv : ∀ q, v q < 2 ^ 4) (gs p : List Nat) (d : Nat) : (outsV sp hv gs p d).length = gs.length ^ d := by simp [outsV, allP_length]
theorem outsTo_lengthV (sp : Value) {v : Nat → Nat} (hv : ∀ q, v q < 2 ^ 4) (gs p : List Nat) (d j : Nat) (hj : j ≤ gs.length) : (outsToV sp hv gs p d j).length = j * gs.length ^ d := by
  simp [outsToV, List.length_flatMap, outs_lengthV, List.map_const', List.sum_replicate_nat, Nat.min_eq_left hj]

theorem outsTo_prefV (sp : Value) {v : Nat → Nat} (hv : ∀ q, v q < 2 ^ 4) (gs p : List Nat) (d j k : Nat) (h : j ≤ k) : outsToV sp hv gs p d j <+: outsToV sp hv gs p d k := by
  unfold outsToV
  have e : gs.take k = gs.take j ++ (gs.take k).drop j := by
    conv => lhs; rw [← List.take_append_drop j (gs.take k), List.take_take, Nat.min_eq_left h]
  rw [e, List.flatMap_append]
  exact ⟨_, rfl⟩
theorem outsTo_catV (sp : Value) {v : Nat → Nat} (hv : ∀ q, v q < 2 ^ 4) (gs p : List Nat) (d j a : Nat) (h : gs[j]? = some a) (q : List OutV) (hq : q <+: outsV sp hv gs (p ++ [a]) d) : outsToV sp hv gs p d j ++ q <+: outsToV sp hv gs p d (j + 1) := by
  rw [outsTo_succV sp hv gs p d j a h]
  exact (List.prefix_append_right_inj _).2 hq

/-- What putFrom answers, and what it leaves. -/
def PutPostV {v : Nat → Nat} (hv : ∀ q, v q < 2 ^ 4) (T U L m d : Nat) (S : Nat → Prop) (J Jx : List OutV → World → Prop) (gs p : List Nat) (pre : List OutV) (tr : List Int) (W : World) (e : Ending) (W' : World) : Prop :=
  (e = .returned (.bool true) ∧ Above (fun k => S k ∧ k ≠ T ∧ k ≠ U) W W' ∧ (∃ tr' pu', SMemV T U L m tr' pu' W' ∧ (∀ j, 2 ^ d ≤ j → tr'[j]? = tr[j]?) ∧ pu'.take p.length = nI p) ∧ J (pre ++ outsV (.slice (some ⟨U, 0, none⟩) m m) hv gs p d) W') ∨
  (e = .returned (.bool false) ∧ ∃ q, q <+: outsV (.slice (some ⟨U, 0, none⟩) m m) hv gs p d ∧ Jx (pre ++ q) W')

/-- What is asked of memory at a call of putFrom. -/
structure PutPreV (v : Nat → Nat) (T U L m d K N : Nat) (S : Nat → Prop) (J : List OutV → World → Prop) (sg : Value) (gs p : List Nat) (pre : List OutV) (tr pu : List Int) (W : World) : Prop where
  hp : p.length + d = m
  hm : SMemV T U L m tr pu W
  hlev : ∀ q, q < 2 ^ d → tr[2 ^ d + q]? = some ((levF v p q : Nat) : Int)
  hj : J pre W
  hN : pre.length + gs.length ^ d ≤ N
  hK : K ≤ W.heap.size
  hg : Owns W 0 sg (nI gs)
  hpu : pu.take p.length = nI p
  hpb : ∀ a, a ∈ p → a < 16

/-- What stays as it is. -/
structure PutFixV (T U L m K : Nat) (S : Nat → Prop) (sg : Value) (gs : List Nat) : Prop where
  hL : L = 2 ^ (m + 1)
  m4 : m ≤ 4
  kT : K ≤ T
  kU : K ≤ U
  ne : T ≠ U
  kS : ∀ k, K ≤ k → S k
  gS : ∀ k, sg.ownBlock = some k → S k ∧ k ≠ T ∧ k ≠ U
  g16 : ∀ a, a ∈ gs → a < 16
  gl : gs.length ≤ 16

set_option maxRecDepth 100000 in
set_option maxHeartbeats 8000000 in
theorem putFrom_succV {v : Nat → Nat} (hv : ∀ q, v q < 2 ^ 4) (l T U K m N L : Nat) (S : Nat → Prop) (sg : Value) (gs : List Nat) (J Jx : List OutV → World → Prop) (hJ : Firm K J) (fx : PutFixV T U L m K S sg gs) (d : Nat)
    (ih : ∀ p pre tr pu W, PutPreV v T U L m d K N S J sg gs p pre tr pu W →
      Calls Try.prog 246 #[.agg #[.slice (some ⟨T, 0, none⟩) L L, .slice (some ⟨U, 0, none⟩) m m, sg], .int .i64 (p.length : Int), .func (.yield l) #[] #[]] W (PutPostV hv T U L m d S J Jx gs p pre tr W))
    (p : List Nat) (pre : List OutV) (tr pu : List Int) (W : World) (h : PutPreV v T U L m (d + 1) K N S J sg gs p pre tr pu W) :
    Calls Try.prog 246 #[.agg #[.slice (some ⟨T, 0, none⟩) L L, .slice (some ⟨U, 0, none⟩) m m, sg], .int .i64 (p.length : Int), .func (.yield l) #[] #[]] W (PutPostV hv T U L m (d + 1) S J Jx gs p pre tr W) := by
  obtain ⟨i, hi'⟩ : ∃ i, p.length = i := ⟨_, rfl⟩
  obtain ⟨hp, hm, hlev, hj, hN, hK, hg, hpu, hpb⟩ := h
  obtain ⟨hL, m4, kT, kU, ne, kS, gS, g16, gl⟩ := fx
  have lT : T < W.heap.size := (World.ownsRow.lt hm.ot T rfl).2
  have lU : U < W.heap.size := (World.ownsRow.lt hm.ou U rfl).2
  obtain ⟨W1, hW1⟩ : ∃ W1, W.alloc (.cells #[.slice (some ⟨T, 0, none⟩) L L, .slice (some ⟨U, 0, none⟩) m m, sg] 269) = W1 := ⟨_, rfl⟩
  have p0 : W1.cell? ⟨W.heap.size, 0, none⟩ = some (.slice (some ⟨T, 0, none⟩) L L) := by rw [← hW1]; simp [go_sem]
  have p1 : W1.cell? ⟨W.heap.size, 1, none⟩ = some (.slice (some ⟨U, 0, none⟩) m m) := by rw [← hW1]; simp [go_sem]
  have p2 : W1.cell? ⟨W.heap.size, 2, none⟩ = some sg := by rw [← hW1]; simp [go_sem]
  have hb : Below W.heap.size W W1 := by rw [← hW1]; exact bnew _ _
  have sB : S W.heap.size ∧ W.heap.size ≠ T ∧ W.heap.size ≠ U := ⟨kS _ hK, by omega, by omega⟩
  have hA1 : Above (fun k => S k ∧ k ≠ T ∧ k ≠ U) W W1 := Above.below hb
  have hm1 : SMemV T U L m tr pu W1 := ⟨hm.ot.below hb, hm.ou.below hb, hm.lt, hm.lu⟩
  have hg1 : Owns W1 0 sg (nI gs) := hg.below hb
  have hj1 : J pre W1 := by rw [← hW1]; exact hJ.alloc _ hj
  obtain ⟨sa, cap, rfl⟩ : ∃ a cap, sg = .slice a gs.length cap := by
    obtain ⟨a, cap, e⟩ := owns_len hg (nI_length gs)
    exact ⟨a, cap, e⟩
  rw [hi'] at hp hpu ⊢
  have HPU0 := Lib.hid hpu
  clear hpu
  have hd4 : d ≤ 3 := by omega
  have hlp : (i : Int) < (m : Int) := by omega
  have hne : ((i : Int) == (m : Int)) = false := by simp; omega
  have hs1 : (m : Int) - (i : Int) - 1 = (d : Int) := by omega
  obtain ⟨F, hFd⟩ : ∃ F, F = 2 ^ d := ⟨_, rfl⟩
  have hF : wrap64 ((2 : Int) ^ d) = (F : Int) := by
    have h8 : F ≤ 8 := by rw [hFd]; exact Nat.pow_le_pow_right (by decide) hd4
    have e : (2 : Int) ^ d = (F : Int) := by rw [hFd]; push_cast; rfl
    rw [e]
    exact IntWalk.wrap64_in _ ⟨by omega, by omega⟩
  have F1 : 1 ≤ F := by rw [hFd]; exact Nat.two_pow_pos d
  have F8 : F ≤ 8 := by rw [hFd]; exact Nat.pow_le_pow_right (by decide) hd4
  have hF2 : 2 ^ (d + 1) = 2 * F := by rw [hFd, Nat.pow_succ]; omega
  have FL : 4 * F ≤ L := by
    rw [hFd, hL]
    have h1 : 2 ^ (d + 2) ≤ 2 ^ (m + 1) := Nat.pow_le_pow_right (by decide) (by omega)
    have h2 : 2 ^ (d + 2) = 4 * 2 ^ d := by rw [Nat.pow_succ, Nat.pow_succ, Nat.mul_assoc, Nat.mul_comm]
    exact h2 ▸ h1
  have L32 : L ≤ 32 := by rw [hL]; exact Nat.pow_le_pow_right (by decide) (show m + 1 ≤ 5 by omega)
  rw [hF2] at hlev
  have HF2 := Lib.hid hF2
  have HLV := Lib.hid hlev
  have HFD := Lib.hid hFd
  have HN := Lib.hid hN
  have HOS := Lib.hid (outs_succV (.slice (some ⟨U, 0, none⟩) m m) hv gs p d)
  have HI := Lib.hid hi'
  clear hi'
  clear hL hF2 hFd hlev hN hm hg hj hb
  go_enter Try.func246, Try.ntmps246
  go_wp2_with fail
  clear hW1
  rw [hF]
  clear hF
  go_loopw [34] (fun j' wr => ∃ j : Nat, j ≤ gs.length ∧ j' = .int .i64 j ∧ (∃ trj puj, SMemV T U L m trj puj wr ∧ (∀ x, 2 * F ≤ x → trj[x]? = tr[x]?) ∧ Hid (puj.take i = nI p)) ∧ Above (fun k => S k ∧ k ≠ T ∧ k ≠ U) W1 wr ∧ J (pre ++ outsToV (.slice (some ⟨U, 0, none⟩) m m) hv gs p d j) wr)
    (fun j' _ => gs.length - (intOf j').toNat)
  case atStart => exact ⟨0, Nat.zero_le _, rfl, ⟨tr, pu, hm1, fun _ _ => rfl, HPU0⟩, Above.refl _ _, by simpa [outsToV] using hj1⟩
  case round =>
    obtain ⟨j, hjl, rfl, ⟨trj, puj, hmj, hkeep, HPU⟩, hAj, hJj⟩ := hrel
    by_cases hlt : j < gs.length
    · obtain ⟨a, ha⟩ : ∃ a, gs[j]? = some a := ⟨_, List.getElem?_eq_getElem hlt⟩
      have a16 : a < 16 := g16 a (List.mem_of_getElem? ha)
      obtain ⟨G, rfl⟩ : ∃ G, sa = some ⟨G, 0, none⟩ := by
        rcases hg1.shape with ⟨e, _⟩ | ⟨_, g, c, e, _⟩
        · have := congrArg List.length e; rw [nI_length] at this; simp at this; rw [this] at hlt; simp at hlt
        · injection e with e1 _ _
          exact ⟨g, e1⟩
      have hgj := owns_above hg1 hAj gS
      have cG : wr.cell? ⟨G, j, none⟩ = some (.int .i64 (a : Int)) := cell_of_owns hgj (by rw [nI_length]) j _ (by simp [nI, ha])
      have q0 := cell_above hAj sB p0
      have q1 := cell_above hAj sB p1
      obtain ⟨W2, hW2⟩ : ∃ W2, wr.setCell ⟨U, i, none⟩ (.int .i64 (a : Int)) = W2 := ⟨_, rfl⟩
      obtain ⟨u, cu⟩ : ∃ u, wr.cell? ⟨U, i, none⟩ = some u := by
        have hl : i < puj.length := by rw [hmj.lu]; omega
        exact ⟨_, cell_of_owns hmj.ou (by rw [hmj.lu]) i _ (List.getElem?_eq_getElem hl)⟩
      have fu : wr.frozen? ⟨U, i, none⟩ = false := by
        have := hmj.ou; rw [← hmj.lu] at this; exact frozen_of_owns this i
      have hm2 : SMemV T U L m trj (puj.set i a) W2 := by
        rw [← hW2]
        exact ⟨owns_other hmj.ot U i _ (fun k e => by cases e; exact ne), owns_set hmj.ou hmj.lu.symm i a, hmj.lt, by rw [List.length_set]; exact hmj.lu⟩
      have hA2 : Above (fun k => S k ∧ k ≠ T ∧ k ≠ U) W1 W2 := by
        rw [← hW2]; exact hAj.trans (Above.grown (grownSet _ _ _ _) (fun r e h => by cases e; exact h.2.2 rfl))
      have hJ2 : J (pre ++ outsToV (.slice (some ⟨U, 0, none⟩) m m) hv gs p d j) W2 := by
        rw [← hW2]; exact hJ _ _ _ _ hJj (grownSet _ _ _ _) (fun r e => by cases e; exact kU)
      have HP2 := Lib.hid (show (puj.set i (a : Int)).take (i + 1) = nI (p ++ [a]) by rw [take_set_succ _ _ _ (by rw [hmj.lu]; omega), HPU.out]; simp [nI])
      have HA := Lib.hid ha
      clear ha hmj hAj hJj hgj
      go_wp2
      go_loopw [10] (fun pl wq => ∃ k : Nat, k ≤ F ∧ pl = .int .i64 ((F + k : Nat) : Int) ∧ SMemV T U L m (setsN trj F (fun q => ((levF v (p ++ [a]) q : Nat) : Int)) k) (puj.set i a) wq ∧ Above (fun k => S k ∧ k ≠ T ∧ k ≠ U) W1 wq ∧ J (pre ++ outsToV (.slice (some ⟨U, 0, none⟩) m m) hv gs p d j) wq)
        (fun pl _ => 2 * F - (intOf pl).toNat)
      case atStart => exact ⟨0, Nat.zero_le _, by simp, hm2, hA2, hJ2⟩
      case round =>
        clear q0 q1 cG cu fu hW2 hm2 hA2 hJ2
        obtain ⟨k, hk, rfl, hmq, hAq, hJq⟩ := hrel
        have q0 := cell_above hAq sB p0
        have q1 := cell_above hAq sB p1
        have q2 := cell_above hAq sB p2
        by_cases hkl : k < F
        · have hx1 : (setsN trj F (fun q => ((levF v (p ++ [a]) q : Nat) : Int)) k)[2 * (F + k)]? = some ((levF v p (2 * k) : Nat) : Int) := by
            rw [setsN_out _ _ _ _ _ (by omega), hkeep _ (by omega), show 2 * (F + k) = 2 * F + 2 * k by omega]
            exact HLV.out _ (by omega)
          have hx2 : (setsN trj F (fun q => ((levF v (p ++ [a]) q : Nat) : Int)) k)[2 * (F + k) + 1]? = some ((levF v p (2 * k + 1) : Nat) : Int) := by
            rw [setsN_out _ _ _ _ _ (by omega), hkeep _ (by omega), show 2 * (F + k) + 1 = 2 * F + (2 * k + 1) by omega]
            exact HLV.out _ (by omega)
          have hlev2 := Lib.hid (levF_snoc v p a k)
          have hop := sel_ops (levF v p (2 * k)) (levF_lt hv p _) (levF v p (2 * k + 1)) (levF_lt hv p _) a a16
          have x16 := levF_lt hv p (2 * k)
          generalize levF v p (2 * k) = x1 at hx1 hlev2 hop x16
          generalize levF v p (2 * k + 1) = x2 at hx2 hlev2 hop
          obtain ⟨P, hP⟩ : ∃ P, P = F + k := ⟨_, rfl⟩
          obtain ⟨A, hA⟩ : ∃ A, A = 2 * P := ⟨_, rfl⟩
          obtain ⟨B, hB⟩ : ∃ B, B = A + 1 := ⟨_, rfl⟩
          have hw1 : IntKind.i64.wrap (2 * (P : Int)) = (A : Int) := by rw [wrap64_small (by omega) (by omega)]; omega
          have hw2 : IntKind.i64.wrap ((A : Int) + 1) = (B : Int) := by rw [wrap64_small (by omega) (by omega)]; omega
          have c1 : wr.cell? ⟨T, A, none⟩ = some (.int .i64 (x1 : Int)) := cell_of_owns hmq.ot (by rw [hmq.lt]) A _ (by rw [hA, hP]; exact hx1)
          have c2 : wr.cell? ⟨T, B, none⟩ = some (.int .i64 (x2 : Int)) := cell_of_owns hmq.ot (by rw [hmq.lt]) B _ (by rw [hB, hA, hP]; exact hx2)
          have hPL : P < L := by omega
          have hAL : A < L := by omega
          have hBL : B < L := by omega
          have hP2 : (P : Int) < 2 * (F : Int) := by omega
          obtain ⟨u3, c3⟩ : ∃ u, wr.cell? ⟨T, P, none⟩ = some u := by
            have hl : P < (setsN trj F (fun q => ((levF v (p ++ [a]) q : Nat) : Int)) k).length := by rw [hmq.lt]; omega
            exact ⟨_, cell_of_owns hmq.ot (by rw [hmq.lt]) P _ (List.getElem?_eq_getElem hl)⟩
          have f3 : wr.frozen? ⟨T, P, none⟩ = false := by
            have := hmq.ot; rw [← hmq.lt] at this; exact frozen_of_owns this P
          have HMQ := Lib.hid hmq
          have HPK := Lib.hid hP
          have hA3 := Lib.hid hA
          have hB3 := Lib.hid hB
          rw [← hP]
          clear hx1 hx2 hmq hA hB hP
          go_wp2
          go_region
          go_wp2
          go_roundw
          case rel =>
            have hl2 := hlev2.out
            refine ⟨k + 1, by omega, ?_, ?_, ?_, ?_⟩
            · rw [HPK.out]; go_num
            · have hst := owns_set HMQ.out.ot HMQ.out.lt.symm P ((selN x1 x2 a : Nat) : Int)
              have e : (setsN trj F (fun q => ((levF v (p ++ [a]) q : Nat) : Int)) k).set P ((selN x1 x2 a : Nat) : Int) = setsN trj F (fun q => ((levF v (p ++ [a]) q : Nat) : Int)) (k + 1) := by
                rw [setsN, hl2, HPK.out]
              rw [e] at hst
              exact ⟨hst.below (Below.refl _ _).drew, (owns_other HMQ.out.ou T P _ (fun k e => by cases e; exact fun h => ne h.symm)).below (Below.refl _ _).drew, by rw [setsN_length, ← setsN_length trj F (fun q => ((levF v (p ++ [a]) q : Nat) : Int)) k]; exact HMQ.out.lt, HMQ.out.lu⟩
            · exact hAq.trans ((Above.grown (grownSet wr T P _) (fun r e h => by cases e; exact h.2.1 rfl)).trans (Above.below (Below.refl _ _).drew))
            · exact Firm.drewV hJ (Firm.setV hJ T P _ hJq kT)
          case measure => simp [intOf]; omega
        · obtain rfl : k = F := by omega
          have hsN := setsN_length trj k (fun q => ((levF v (p ++ [a]) q : Nat) : Int)) k
          have hlen2 : (p ++ [a]).length = i + 1 := by rw [List.length_append, HI.out]; rfl
          have hN2 : (pre ++ outsToV (.slice (some ⟨U, 0, none⟩) m m) hv gs p d j).length + gs.length ^ d ≤ N := by
            have h1 := HN.out
            rw [List.length_append, outsTo_lengthV _ _ _ _ _ _ hjl]
            have h2 : (j + 1) * gs.length ^ d ≤ gs.length * gs.length ^ d := Nat.mul_le_mul_right _ hlt
            rw [Nat.pow_succ, Nat.mul_comm] at h1
            rw [Nat.add_mul, Nat.one_mul] at h2
            omega
          have hKr : K ≤ wr.heap.size := Nat.le_trans (Nat.le_trans hK (Nat.le_trans (by have := hA1.size; exact this) (Nat.le_refl _))) hAq.size
          have IH := ih (p ++ [a]) (pre ++ outsToV (.slice (some ⟨U, 0, none⟩) m m) hv gs p d j) (setsN trj k (fun q => ((levF v (p ++ [a]) q : Nat) : Int)) k) (puj.set i a) wr
            ⟨by rw [hlen2]; omega, hmq, fun q hq => by rw [← HFD.out] at hq ⊢; exact setsN_in _ _ _ _ _ hq (by have := hmq.lt; rw [hsN] at this; omega), hJq, hN2, hKr, owns_above hg1 hAq gS, by rw [hlen2]; exact HP2.out, fun b hb => by rcases List.mem_append.1 hb with h | h; exact hpb b h; rw [List.mem_singleton.1 h]; exact a16⟩
          rw [hlen2] at IH
          have hw5 : IntKind.i64.wrap ((i : Int) + 1) = ((i + 1 : Nat) : Int) := by rw [wrap64_small (by omega) (by omega)]; push_cast; rfl
          have IHH := Lib.hid IH
          have HMQ := Lib.hid hmq
          have HHJ := Lib.hid hJq
          have hkp : ∀ x, 2 * k ≤ x → (setsN trj k (fun q => ((levF v (p ++ [a]) q : Nat) : Int)) k)[x]? = tr[x]? := fun x hx => by rw [setsN_out _ _ _ _ _ (by omega), hkeep x hx]
          have HKP := Lib.hid hkp
          have hP2 : decide (((k + k : Nat) : Int) < 2 * (k : Int)) = false := by simp; omega
          clear IH hmq hJq hsN hlen2 hN2 hkp
          go_wp2_with (go_at_call 246; refine IHH.out.mono ?_; rintro e w5 (⟨rfl, hA5, ⟨tr5, pu5, hm5, hk5, hpu5⟩, hJ5⟩ | ⟨rfl, q, hqp, hq⟩))
          · go_roundw
            case rel =>
              refine ⟨j + 1, by omega, by go_num, ⟨tr5, pu5, hm5, fun x hx => ?_, Lib.hid (HI.out ▸ take_less hpu5)⟩, hAq.trans hA5, ?_⟩
              · rw [hk5 x (by rw [← HFD.out]; omega), HKP.out x hx]
              · rw [outsTo_succV _ _ _ _ _ _ _ HA.out, ← List.append_assoc]; exact hJ5
            case measure => simp [intOf]; omega
          · go_ret
            refine .inr ⟨rfl, outsToV (.slice (some ⟨U, 0, none⟩) m m) hv gs p d j ++ q, ?_, by rw [← List.append_assoc]; exact hq⟩
            rw [HOS.out]
            exact (outsTo_catV _ _ _ _ _ _ _ HA.out q hqp).trans (outsTo_prefV _ _ _ _ _ _ _ hlt)
    · obtain rfl : j = gs.length := by omega
      have HMJ := Lib.hid hmj
      have HJJ := Lib.hid hJj
      clear hmj hJj
      go_wp2
      go_ret
      refine .inl ⟨rfl, hA1.trans hAj, ⟨trj, puj, HMJ.out, fun x hx => hkeep x (by rw [← HF2.out]; exact hx), by rw [HI.out]; exact HPU.out⟩, ?_⟩
      rw [HOS.out]
      exact HJJ.out
end Go.Proofs.Ytdgpjpcdifpllaa

/- NQ4:
  stepsOf: all functions that can be put into one, as a function that is ranged over. -/
namespace Go.Proofs.Ytdgpjpcdifpllaa
open Go.RowKit Go.Shelf
set_option linter.unusedVariables false
set_option linter.unusedSimpArgs false

theorem putFrom_allV {v : Nat → Nat} (hv : ∀ q, v q < 2 ^ 4) (l T U K m N L : Nat) (S : Nat → Prop) (sg : Value) (gs : List Nat) (J Jx : List OutV → World → Prop) (hJ : Firm K J) (fx : PutFixV T U L m K S sg gs)
    (hY : ∀ pre x W, J pre W → pre.length < N → Vis m K x W → YieldAt Fence.wide 1 Try.prog l (encSV x) W fun e W' =>
      Above S W W' ∧ ((e = .returned (.bool true) ∧ J (pre ++ [x]) W') ∨ (e = .returned (.bool false) ∧ Jx (pre ++ [x]) W'))) (d : Nat) :
    ∀ p pre tr pu W, PutPreV v T U L m d K N S J sg gs p pre tr pu W →
      Calls Try.prog 246 #[.agg #[.slice (some ⟨T, 0, none⟩) L L, .slice (some ⟨U, 0, none⟩) m m, sg], .int .i64 (p.length : Int), .func (.yield l) #[] #[]] W (PutPostV hv T U L m d S J Jx gs p pre tr W) := by
  induction d with
  | zero =>
    intro p pre tr pu W h
    have hp : p.length = m := by have := h.hp; omega
    rw [hp]
    have lT : T < W.heap.size := (World.ownsRow.lt h.hm.ot T rfl).2
    have lU : U < W.heap.size := (World.ownsRow.lt h.hm.ou U rfl).2
    have hN : pre.length < N := by have := h.hN; rw [Nat.pow_zero] at this; omega
    refine ((callsIn_wide (n := 3)).1 (putFrom_zeroV hv l T U K m N L S sg J Jx hJ fx.hL hY 3 p hp pre tr pu W fx.kU h.hpu h.hpb h.hm h.hlev h.hj hN lT lU h.hK)).mono ?_
    rintro e W' (⟨rfl, ha, hj⟩ | ⟨rfl, hq⟩)
    · refine .inl ⟨rfl, ha.mono (fun k hk => hk.1), ⟨tr, pu, ⟨owns_above h.hm.ot ha (fun k e => by cases e; exact fx.kS _ fx.kT), owns_above h.hm.ou ha (fun k e => by cases e; exact fx.kS _ fx.kU), h.hm.lt, h.hm.lu⟩, fun _ _ => rfl, h.hpu⟩, ?_⟩
      rw [outs_zeroV]; exact hj
    · exact .inr ⟨rfl, _, by rw [outs_zeroV]; exact List.prefix_refl _, hq⟩
  | succ d ih => exact fun p pre tr pu W h => putFrom_succV hv l T U K m N L S sg gs J Jx hJ fx d ih p pre tr pu W h

theorem made_zerosV (c : Nat) : madeCells (Value.int .i64 0).cells c = (ints (List.replicate c 0)).toArray := by
  apply Array.ext'
  rw [List.toList_toArray]
  exact (toList_madeCells_one (.int .i64 0) c).trans (by simp [ints])

theorem Firm.belowV {β : Type} {K : Nat} {J : β → World → Prop} (h : Firm K J) {s : β} {W W' : World} (hs : J s W) (hb : Below W.heap.size W W') : J s W' :=
  h s W W' none hs ⟨hb.os, hb.tape, hb.output, hb.size, fun k hk _ => hb.block k hk⟩ (fun r e => by cases e)
theorem own_laidV {V : World} {T n : Nat} {xs : List Int} (h : V.heap[T]? = some (.cells (ints xs).toArray 2 (0, 0))) (hn : xs.length = n) (hm : n ≤ 1000) : Owns V T (.slice (some ⟨T, 0, none⟩) n n) xs := by
  subst hn
  have hl : (ints xs).length = xs.length := by simp [ints]
  exact ⟨by rw [hl, Nat.mul_one], .inr ⟨T, xs.length, (ints xs).toArray, rfl, Nat.le_refl _, h, Nat.le_refl _, by unfold maxLen; omega, by rw [List.size_toArray, hl, Nat.mul_one], by rw [List.toList_toArray, Nat.mul_one, ← hl, List.take_length]⟩⟩
theorem cells3_laidV {V : World} {B : Nat} {u0 u1 u2 : Value} {t : TypeId} (h : V.heap[B]? = some (.cells #[u0, u1, u2] t (0, 0))) : V.cell? ⟨B, 0, none⟩ = some u0 ∧ V.cell? ⟨B, 1, none⟩ = some u1 ∧ V.cell? ⟨B, 2, none⟩ = some u2 := by
  refine ⟨?_, ?_, ?_⟩ <;> simp [World.cell?, h]

theorem frozen_ownV {W : World} {base g n cap : Nat} {xs : List Int} (h : Owns W base (.slice (some ⟨g, 0, none⟩) n cap) xs) (hn : n = xs.length) (j : Nat) : W.frozen? ⟨g, j, none⟩ = false := by
  subst hn; exact World.ownsRow.frozenAt h j

theorem three_laidV (W : World) (o1 o2 o3 : Obj) : (((W.alloc o1).alloc o2).alloc o3).drew.heap[W.heap.size]? = some o1 ∧ (((W.alloc o1).alloc o2).alloc o3).drew.heap[W.heap.size + 1]? = some o2 ∧ (((W.alloc o1).alloc o2).alloc o3).drew.heap[W.heap.size + 1 + 1]? = some o3 ∧ Below W.heap.size W (((W.alloc o1).alloc o2).alloc o3).drew := by
  have e1 : (W.alloc o1).heap.size = W.heap.size + 1 := by simp
  have e2 : ((W.alloc o1).alloc o2).heap.size = W.heap.size + 1 + 1 := by simp
  have g1 := heap_alloc_new W o1
  have g2 := heap_alloc_new (W.alloc o1) o2
  have g3 := heap_alloc_new ((W.alloc o1).alloc o2) o3
  rw [e1] at g2
  rw [e2] at g3
  refine ⟨?_, ?_, g3, (balloc (balloc (bnew _ _) _) _).drew⟩
  · exact (Below.heap_alloc _ _ _ (by rw [e2]; omega)).trans ((Below.heap_alloc _ _ _ (by rw [e1]; omega)).trans g1)
  · exact (Below.heap_alloc _ _ _ (by rw [e2]; omega)).trans g2

set_option maxRecDepth 100000 in
set_option maxHeartbeats 8000000 in
theorem steps1_anyV {x R m N : Nat} (ok : FOk (m : Int) x R) (m4 : m ≤ 4) (l Bf Bg Bn K : Nat) (S : Nat → Prop) (sg : Value) (gs : List Nat) (g16 : ∀ a, a ∈ gs → a < 16) (gl : gs.length ≤ 16) (hN : gs.length ^ m ≤ N)
    (J Jx : List OutV → World → Prop) (hJ : Firm K J) (kS : ∀ k, K ≤ k → S k) (gS : ∀ k, sg.ownBlock = some k → S k)
    (hY : ∀ pre x W, J pre W → pre.length < N → Vis m K x W → YieldAt Fence.wide 1 Try.prog l (encSV x) W fun e W' =>
      Above S W W' ∧ ((e = .returned (.bool true) ∧ J (pre ++ [x]) W') ∨ (e = .returned (.bool false) ∧ Jx (pre ++ [x]) W')))
    (W : World) (p0 : W.cell? ⟨Bf, 0, none⟩ = some (.int .i64 (m : Int))) (p1 : W.cell? ⟨Bf, 1, none⟩ = some (.int .i64 (x : Int))) (cg : W.cell? ⟨Bg, 0, none⟩ = some sg) (cn : W.cell? ⟨Bn, 0, none⟩ = some (.int .i64 2))
    (hg : Owns W 0 sg (nI gs)) (hK : K ≤ W.heap.size) (hj : J [] W) :
    Calls Try.prog 243 #[.func (.yield l) #[] #[], .pointer (some ⟨Bf, 0, none⟩), .pointer (some ⟨Bg, 0, none⟩), .pointer (some ⟨Bn, 0, none⟩)] W fun e W' => (∃ v, e = .returned v) ∧
      ((∃ sp, J (outsV sp (v := fun q => bitN x q * 15) (fun q => by have := bitN_le x q; show bitN x q * 15 < 16; omega) gs [] m) W') ∨ (∃ sp q, q <+: outsV sp (v := fun q => bitN x q * 15) (fun q => by have := bitN_le x q; show bitN x q * 15 < 16; omega) gs [] m ∧ Jx q W')) := by
  obtain ⟨i0, hi, hz0, hz1, hz2⟩ := info_parts infoI
  have r16 := ok.r16
  obtain ⟨sa, cap, rfl⟩ : ∃ a cap, sg = .slice a gs.length cap := owns_len hg (nI_length gs)
  have hmk : ∀ (c : Nat) (W : World), c ≤ 32 → (Instr.makeSlice 55 (.int .i64 (c : Int)) (.int .i64 (c : Int))).run Try.prog W = .ok (.slice (some ⟨W.heap.size, 0, none⟩) c c) (W.alloc (.cells (ints (List.replicate c 0)).toArray 2)) := fun c W hc => by
    have h := run_make (P := Try.prog) W 55 2 i0 (.int .i64 0) Try.underlying55 hi hz0 .i64 .i64 (c : Int) (c : Int) (by omega) (by omega) (by rw [hz2]; omega) (by omega)
    rw [hz1, Nat.mul_one, Int.toNat_natCast, made_zerosV] at h
    simpa using h
  obtain ⟨L, hL⟩ : ∃ L, L = 2 * R := ⟨_, rfl⟩
  have hwL : IntKind.i64.wrap (2 * (R : Int)) = (L : Int) := by rw [wrap64_small (by omega) (by omega)]; omega
  have hmkL := fun W => hmk L W (by omega)
  have hmkm := fun W => hmk m W (by omega)
  have lf : Bf < W.heap.size := cell_lt p0
  have lg : Bg < W.heap.size := cell_lt cg
  have ln : Bn < W.heap.size := cell_lt cn
  have lf0 : ¬ Bf = W.heap.size := by omega
  have lfr0 : ¬ W.heap.size = Bf := by omega
  have lfl0 : Bf < W.heap.size := by omega
  have lf1 : ¬ Bf = W.heap.size + 1 := by omega
  have lfr1 : ¬ W.heap.size + 1 = Bf := by omega
  have lfl1 : Bf < W.heap.size + 1 := by omega
  have lf2 : ¬ Bf = W.heap.size + 1 + 1 := by omega
  have lfr2 : ¬ W.heap.size + 1 + 1 = Bf := by omega
  have lfl2 : Bf < W.heap.size + 1 + 1 := by omega
  have lg0 : ¬ Bg = W.heap.size := by omega
  have lgr0 : ¬ W.heap.size = Bg := by omega
  have lgl0 : Bg < W.heap.size := by omega
  have lg1 : ¬ Bg = W.heap.size + 1 := by omega
  have lgr1 : ¬ W.heap.size + 1 = Bg := by omega
  have lgl1 : Bg < W.heap.size + 1 := by omega
  have lg2 : ¬ Bg = W.heap.size + 1 + 1 := by omega
  have lgr2 : ¬ W.heap.size + 1 + 1 = Bg := by omega
  have lgl2 : Bg < W.heap.size + 1 + 1 := by omega
  have ln0 : ¬ Bn = W.heap.size := by omega
  have lnr0 : ¬ W.heap.size = Bn := by omega
  have lnl0 : Bn < W.heap.size := by omega
  have ln1 : ¬ Bn = W.heap.size + 1 := by omega
  have lnr1 : ¬ W.heap.size + 1 = Bn := by omega
  have lnl1 : Bn < W.heap.size + 1 := by omega
  have ln2 : ¬ Bn = W.heap.size + 1 + 1 := by omega
  have lnr2 : ¬ W.heap.size + 1 + 1 = Bn := by omega
  have lnl2 : Bn < W.heap.size + 1 + 1 := by omega
  have HL := Lib.hid hL
  have HHJ := Lib.hid hj
  have HG := Lib.hid hg
  have HY := Lib.hid hY
  have HGL : Hid (∀ k, (Value.slice sa gs.length cap).ownBlock = some k → k < W.heap.size) := Lib.hid fun k e => (World.ownsRow.lt hg k e).2
  clear hL hmk hj hg hY
  go_enter Try.func243, Try.ntmps243
  go_wp2_with (go_at_call 144; refine (rowCount_is ok.h0 ok.h4 ok.hR _).mono ?_; rintro e w' ⟨rfl, rfl⟩)
  refine Code.wp_mono (Q := fun e a w' => e = .normal ∧ ∃ T U B, a = { tmps := #[.func (.yield l) #[] #[], .pointer (some ⟨Bf, 0, none⟩), .pointer (some ⟨Bg, 0, none⟩), .pointer (some ⟨Bn, 0, none⟩), undef, .int .i64 R, .pointer (some ⟨B, 0, none⟩), undef, undef, undef, undef, .pointer (some ⟨Bf, 0, none⟩), .int .i64 m, .int .i64 R, .int .i64 R, .int .i64 L, .slice (some ⟨T, 0, none⟩) L L, .pointer (some ⟨Bf, 0, none⟩), .int .i64 m, .slice (some ⟨U, 0, none⟩) m m, .slice sa gs.length cap, .agg #[.slice (some ⟨T, 0, none⟩) L L, .slice (some ⟨U, 0, none⟩) m m, .slice sa gs.length cap], undef, undef, undef, undef, undef, undef, undef, undef, undef, undef, undef, undef, undef, undef, undef, undef, undef, undef, undef, undef, undef, undef, undef, undef, undef, undef], defers := [] } ∧ (W.heap.size ≤ T ∧ W.heap.size ≤ U ∧ W.heap.size ≤ B ∧ T ≠ U ∧ B ≠ T ∧ B ≠ U) ∧ (w'.heap[T]? = some (.cells (ints (List.replicate L 0)).toArray 2 (0, 0)) ∧ w'.heap[U]? = some (.cells (ints (List.replicate m 0)).toArray 2 (0, 0)) ∧ w'.heap[B]? = some (.cells #[.slice (some ⟨T, 0, none⟩) L L, .slice (some ⟨U, 0, none⟩) m m, .slice sa gs.length cap] 269 (0, 0))) ∧ Below W.heap.size W w') ?rest ?reg
  case reg =>
    go_region
    all_goals
      obtain ⟨h1, h2, h3, hb⟩ := three_laidV W _ _ _
      refine ⟨rfl, _, _, _, rfl, ⟨?_, ?_, ?_, ?_, ?_, ?_⟩, ⟨?_, ?_, ?_⟩, hb⟩
      all_goals first | omega | exact h1 | exact h2 | exact h3
  case rest =>
  clear lf0 lfr0 lfl0 lf1 lfr1 lfl1 lf2 lfr2 lfl2 lg0 lgr0 lgl0 lg1 lgr1 lgl1 lg2 lgr2 lgl2 ln0 lnr0 lnl0 ln1 lnr1 lnl1 ln2 lnr2 lnl2
  rintro e a w2 ⟨rfl, T, U, B, rfl, ⟨t1, u1, b1, n1, n2, n3⟩, ⟨hT, hU, hBx⟩, hb⟩
  dsimp only
  have ot := own_laidV hT (List.length_replicate (n := L) (a := 0)) (by have := HL.out; omega)
  have ou := own_laidV hU (List.length_replicate (n := m) (a := 0)) (by omega)
  obtain ⟨b0, b1', b2⟩ := cells3_laidV hBx
  have hj2 := Firm.belowV hJ HHJ.out hb
  have q0 := kc hb p0
  have q1 := kc hb p1
  have qn := kc hb cn
  have hg2 := HG.out.below hb
  have sT := (World.ownsRow.lt ot T rfl).2
  have sU := (World.ownsRow.lt ou U rfl).2
  have sB : B < w2.heap.size := cell_lt b0
  have hKw : K ≤ w2.heap.size := Nat.le_trans hK hb.size
  clear hT hU hBx p0 p1 cn cg HHJ HG hmkL hmkm
  go_wp2_with fail
  refine (valuesOf_any ok _).mono ?_
  rintro e w3 ⟨s3, rfl, o3, hb3⟩
  replace ot := ot.below hb3
  replace ou := ou.below hb3
  replace b0 := kc hb3 b0
  replace b1' := kc hb3 b1'
  replace b2 := kc hb3 b2
  have hj3 := Firm.belowV hJ hj2 hb3
  replace q0 := kc hb3 q0
  replace q1 := kc hb3 q1
  replace qn := kc hb3 qn
  have hg3 := hg2.below hb3
  have r0 := ok.r0
  obtain ⟨V, cap3, rfl, hV⟩ : ∃ V cap3, s3 = .slice (some ⟨V, 0, none⟩) R cap3 ∧ w2.heap.size ≤ V := by
    rcases o3.shape with ⟨e, _⟩ | ⟨_, g, c, e, hge, _⟩
    · have := congrArg List.length e; rw [natL_len] at this; simp at this; omega
    · rw [natL_len] at e; exact ⟨g, c, e, hge⟩
  have HO3 := Lib.hid o3
  have HG3 := Lib.hid hg3
  have HOU := Lib.hid ou
  clear hj2 hg2 o3 hg3 ou
  have sz3 := hb3.size
  go_wp2_with fail
  go_loopw [25] (fun k' wr => ∃ k : Nat, k ≤ R ∧ k' = .int .i64 k ∧ Owns wr T (.slice (some ⟨T, 0, none⟩) L L) (setsN (List.replicate L 0) R (fun q => ((bitN x q * 15 : Nat) : Int)) k) ∧ Above (fun k => k ≠ T) w3 wr ∧ J [] wr)
    (fun k' _ => R - (intOf k').toNat)
  case atStart => exact ⟨0, Nat.zero_le _, rfl, ot, Above.refl _ _, hj3⟩
  case round =>
    clear ot hj3
    obtain ⟨k, hk, rfl, hot, hA, hjr⟩ := hrel
    have d0 := cell_above hA (show B ≠ T from n2) b0
    have d1 := cell_above hA (show B ≠ T from n2) b1'
    have d2 := cell_above hA (show B ≠ T from n2) b2
    have dn := cell_above hA (show Bn ≠ T by omega) qn
    have szr := hA.size
    by_cases hlt : k < R
    · have cv : wr.cell? ⟨V, k, none⟩ = some (.int .i64 (bitN x k : Int)) := by
        refine cell_above hA (show V ≠ T by omega) (cell_of_owns HO3.out (by rw [natL_len]) k _ ?_)
        simp [natL, hlt]
      have hlen := setsN_length (List.replicate L 0) R (fun q => ((bitN x q * 15 : Nat) : Int)) k
      rw [List.length_replicate] at hlen
      have hw1 : IntKind.i64.wrap ((R : Int) + (k : Int)) = ((R + k : Nat) : Int) := by rw [wrap64_small (by omega) (by omega)]; push_cast; rfl
      have hRL : R + k < L := by have := HL.out; omega
      obtain ⟨P, hP⟩ : ∃ P, P = R + k := ⟨_, rfl⟩
      rw [← hP] at hw1 hRL
      obtain ⟨u3, c3⟩ : ∃ u, wr.cell? ⟨T, P, none⟩ = some u := by
        have hl : P < (setsN (List.replicate L 0) R (fun q => ((bitN x q * 15 : Nat) : Int)) k).length := by rw [hlen]; exact hRL
        exact ⟨_, cell_of_owns hot (by rw [hlen]) P _ (List.getElem?_eq_getElem hl)⟩
      have f3 : wr.frozen? ⟨T, P, none⟩ = false := by
        exact frozen_ownV hot hlen.symm P
      have HPR := Lib.hid hP
      have HOT := Lib.hid hot
      have HC := Lib.hid (implConstantOf_yes (n := 2) (R := 4) (by decide) (by decide) (by decide) (by decide) (Lib.hid (by decide)) (by decide) (bitN x k) (bitN_le x k))
      obtain ⟨y, hy⟩ : ∃ y, y = bitN x k * 15 := ⟨_, rfl⟩
      have hv15V : (bitN x k : Int) * allN 2 = (y : Int) := by rw [hy, show allN 2 = 15 by decide]; push_cast; rfl
      have HYY := Lib.hid hy
      clear hy
      clear hP hot
      go_wp2_with (go_at_call 245; refine (HC.out _).mono ?_; rintro e w5 ⟨rfl, hb5⟩; rw [hv15V]; have e0 := kc hb5 d0; have e3 := kc hb5 c3; have k3 := kf hb5 c3 f3; have l5 := hb5.size; have lT5 : T < w5.heap.size := cell_lt e3; have lB5 : B < w5.heap.size := cell_lt e0)
      go_roundw
      case rel =>
        refine ⟨k + 1, by omega, by go_num, ?_, ?_, ?_⟩
        · have hst := (owns_set (HOT.out.below hb5) hlen.symm P (y : Int)).below (bnew _ (.cells #[.int .i64 2, .int .i64 (y : Int)] 23))
          have e : (setsN (List.replicate L 0) R (fun q => ((bitN x q * 15 : Nat) : Int)) k).set P (y : Int) = setsN (List.replicate L 0) R (fun q => ((bitN x q * 15 : Nat) : Int)) (k + 1) := by
            rw [setsN, HPR.out, HYY.out]
          rw [e] at hst
          exact hst
        · exact hA.trans ((Above.below hb5).trans ((Above.grown (grownSet w5 T P (.int .i64 (y : Int))) (fun r e h => by cases e; exact h rfl)).trans (Above.below (bnew _ _))))
        · exact hJ.alloc _ (Firm.setV hJ T P _ (Firm.belowV hJ hjr hb5) (by omega))
      case measure => simp [intOf]; omega
    · obtain rfl : k = R := by omega
      have hm : SMemV T U L m (setsN (List.replicate L 0) k (fun q => ((bitN x q * 15 : Nat) : Int)) k) (List.replicate m 0) wr :=
        ⟨hot, owns_above HOU.out hA (fun k e => by cases e; exact fun h => n1 h.symm), by rw [setsN_length, List.length_replicate], List.length_replicate⟩
      have hk2 : k = 2 ^ m := by have := ok.he; simpa using this
      have hLm : L = 2 ^ (m + 1) := by rw [HL.out, hk2, Nat.pow_succ, Nat.mul_comm]
      have PA := putFrom_allV (v := fun q => bitN x q * 15) (fun q => by have := bitN_le x q; show bitN x q * 15 < 16; omega) l T U K m N L S (.slice sa gs.length cap) gs J Jx hJ
        ⟨hLm, m4, by omega, by omega, n1, kS, fun b e => ⟨gS b e, by have := HGL.out b e; omega, by have := HGL.out b e; omega⟩, g16, gl⟩ HY.out m [] [] _ _ wr
        ⟨by simp, hm, fun q hq => by rw [← hk2] at hq ⊢; exact setsN_in _ _ _ _ _ hq (by rw [List.length_replicate, HL.out]; omega), hjr, by simpa using hN, by omega, owns_above HG3.out hA (fun b e => by have := HGL.out b e; omega), rfl, fun b hb => absurd hb List.not_mem_nil⟩
      have HPA := Lib.hid PA
      clear PA hm hot hjr hk2 hLm
      go_wp2_with (go_at_call 246; refine HPA.out.mono ?_; rintro e w9 (⟨rfl, _, _, hj9⟩ | ⟨rfl, q, hqp, hq9⟩))
      · go_end0
        exact ⟨⟨_, rfl⟩, .inl ⟨_, hj9⟩⟩
      · go_end0
        exact ⟨⟨_, rfl⟩, .inr ⟨_, q, hqp, by simpa using hq9⟩⟩
end Go.Proofs.Ytdgpjpcdifpllaa

/- NX2:
  A range over a function whose iterator keeps cells of its own, as NX1: and what can be seen of an element when it is handed out (Vis, of blocks from K on). -/
namespace Go.Proofs.Ytdgpjpcdifpllaa
open Go Go.RowKit

set_option linter.unusedVariables false

/-- **The contract**: at whatever loop l whose rounds keep the blocks of T, and whose word speaks of blocks below K alone, K at most the heap's size at the call. -/
def SeqXV {α : Type} (F : Fence) (n : Nat) (P : Program) (g : Nat) (lb : Array Value) (encs : α → Array Value) (S Sp : List α → Prop) (N K : Nat) (T : Nat → Prop) (Vis : Nat → α → World → Prop) (w : World) : Prop :=
  ∀ (l : Nat) (J Jx : List α → World → Prop) (W : World), Below w.heap.size w W → K ≤ W.heap.size → Firm K J → Firm K Jx →
    (∀ pre x W1, J pre W1 → pre.length < N → Vis K x W1 → YieldAt F (n - 1) P l (encs x) W1 fun e W' =>
      Above T W1 W' ∧ ((e = .returned (.bool true) ∧ J (pre ++ [x]) W') ∨ (e = .returned (.bool false) ∧ Jx (pre ++ [x]) W'))) →
    J [] W →
    CallsIn F n P g (#[.func (.yield l) #[] #[]] ++ lb) W fun e W' => (∃ v, e = .returned v) ∧ ((∃ xs, S xs ∧ J xs W') ∨ (∃ pre, Sp pre ∧ Jx pre W'))

variable {F : Fence} {n : Nat} {P : Program}

/-- **The law of who ranges over it.** -/
theorem wpIn_rangeFunc_XV {α : Type} {g : Operand} {ps : Array Tmp} {assign body : Code} {Q : Exit → Act → World → Prop} {a : Act} {w : World}
    (hro : F.round = none) (h1 : 1 ≤ n) {gf : Nat} {lb : Array Value} (hg : a.eval g = .func (.func gf) #[] lb) (hFg : F.fn gf) (eg : ∀ args w, (callFunc gf args).run P w = .ok (.enter gf args) w)
    {encs : α → Array Value} {S Sp : List α → Prop} {N : Nat} {T : Nat → Prop} {Vis : Nat → α → World → Prop} {w0 : World} (hT : ¬ T (w.heap.size + 1)) (hseq : SeqXV F (n - 1) P gf lb encs S Sp N (w.heap.size + 2) T Vis w0)
    (hVs : ∀ x W W' row, Vis (w.heap.size + 2) x W → W.grownBy W' row → (∀ r, row = some r → r < w.heap.size + 2) → Vis (w.heap.size + 2) x W')
    (hb0 : Below w0.heap.size w0 w) (hps : ∀ x, (encs x).size = ps.size)
    (I : List α → World → Prop) (Ix : Code → List α → World → Prop) (hI : Firm w.heap.size I) (hIx : ∀ c, Firm w.heap.size (Ix c)) (h0 : I [] w) (a₁ : α → Act)
    (hassign : ∀ (l : Nat) (x : α) (W : World) (K : Act → World → Prop), K (a₁ x) W →
      assign.wpIn (F.inRound l) (n - 1 - 1) P (Exit.then K (fun _ _ _ => False)) { tmps := (ps.zip (encs x)).foldl (fun t (p, v) => t.setIfInBounds p v) a.tmps, defers := [] } W)
    (hbody : ∀ (l : Nat) (pre : List α) (x : α) (W : World), I pre W → pre.length < N → Vis (w.heap.size + 2) x W → body.wpIn (F.inRound l) (n - 1 - 1) P (postX w.heap.size T I Ix (pre ++ [x]) W) (a₁ x) W)
    (hdone : ∀ (D : Nat) (xs : List α) (W : World), w.heap.size ≤ D → S xs → I xs W → W.heap[D]? = some (.deferred (some [])) → Q .normal { a with defers := { target := .collected D, args := #[] } :: a.defers } W)
    (hstop : ∀ (D : Nat) (c : Code) (pre : List α) (W : World), w.heap.size ≤ D → Sp pre → Ix c pre W → W.heap[D]? = some (.deferred (some [])) → c.wpIn F n P Q { a with defers := { target := .collected D, args := #[] } :: a.defers } W) :
    (Code.rangeFunc g ps assign body).wpIn F n P Q a w := by
  refine wpIn_rangeFunc fun fn hfn => ?_
  rw [hro]
  -- the loop's record, as a function of its state and its pending jump; the world with both blocks of book-keeping
  let D := w.heap.size
  let L := w.heap.size + 1
  let rec' : LoopState → Option Code → Obj := fun st pe => .loop { state := st, pending := pe, fn, tmps := a.tmps, params := ps, assign, body, defers := D }
  obtain ⟨V, hV⟩ : ∃ V, (w.alloc (.deferred (some []))).alloc (rec' .ready none) = V := ⟨_, rfl⟩
  have sV : V.heap.size = w.heap.size + 2 := by rw [← hV]; simp
  have hL : V.heap[L]? = some (rec' .ready none) := by
    rw [← hV]; have := World.alloc_heap_new (w.alloc (.deferred (some []))) (rec' .ready none); rwa [World.size_alloc] at this
  have hD : V.heap[D]? = some (.deferred (some [])) := by
    rw [← hV]; exact (Below.heap_alloc _ _ _ (by simp [D])).trans (World.alloc_heap_new w _)
  have hIV : I [] V := by rw [← hV]; exact hI.alloc _ (hI.alloc _ h0)
  have hBV : Below w0.heap.size w0 V := by
    rw [← hV]; exact (hb0.alloc hb0.size _).alloc (by simp; have := hb0.size; omega) _
  refine ⟨L, [{ target := .collected D, args := #[] }], V, { target := .fn (.func gf) lb, args := #[.func (.yield L) #[] #[]] }, V, gf, #[.func (.yield L) #[] #[]] ++ lb, V, ?_, ?_, ?_, ?_, fun _ => h1, ?_⟩
  · rw [← hV]; exact run_enterLoop_outer _ _ _ _ _
  · simp only [resolve, hg]; simp [go_sem]
  · intro f' hf'; simp [Target.leads] at hf'; subst hf'; exact hFg
  · simp [invoke, go_sem, eg]
  have fL : ∀ o, Firm (w.heap.size + 2) (fun (_ : List α) W => W.heap[L]? = some o) := fun o => firm_block (by simp [L]) o
  have fD : Firm (w.heap.size + 2) (fun (_ : List α) W => W.heap[D]? = some (.deferred (some []))) := firm_block (by simp [D]) _
  have fI : Firm (w.heap.size + 2) I := hI.mono (by omega)
  refine (hseq L (fun pre W => I pre W ∧ (W.heap[L]? = some (rec' .ready none) ∧ W.heap[D]? = some (.deferred (some []))))
    (fun pre W => ∃ c, Ix c pre W ∧ (W.heap[L]? = some (rec' .done (some c)) ∧ W.heap[D]? = some (.deferred (some []))))
    V hBV (by omega) (fI.and ((fL _).and fD))
    (fun s A B row hs hg' hr => by
      obtain ⟨c, hc, hk⟩ := hs
      exact ⟨c, (hIx c).mono (Nat.le_add_right _ 2) s A B row hc hg' hr, ((fL _).and fD) s A B row hk hg' hr⟩)
    ?_ ⟨hIV, hL, hD⟩).mono ?_
  · -- one round
    rintro pre x W ⟨hi, hl, hd⟩ hlen hvis
    have hlt : L < W.heap.size := (Array.getElem?_eq_some_iff.1 hl).1
    refine ⟨fn, _, assign, body, run_yield (P := P) (args := encs x) hl (hps x), roundIn_of_wpIn hfn (hassign _ x W _ ⟨_, run_beginRound hl rfl, ?_⟩)⟩
    obtain ⟨Wb, hWb⟩ : ∃ Wb, W.putObj L (rec' .busy none) = Wb := ⟨_, rfl⟩
    have hlb : Wb.heap[L]? = some (rec' .busy none) := by rw [← hWb]; exact World.putObj_heap_same hlt
    have hdb : Wb.heap[D]? = some (.deferred (some [])) := by rw [← hWb]; exact (World.putObj_heap_other (by simp [D, L])).trans hd
    have hib : I pre Wb := by rw [← hWb]; exact hI.put _ _ hi (by simp [L])
    have hab : Above T W Wb := by rw [← hWb]; exact Above.put _ _ _ hT
    change body.wpIn _ _ _ _ _ (W.putObj L (rec' .busy none))
    rw [hWb]
    have hvb : Vis (w.heap.size + 2) x Wb := by rw [← hWb]; exact hVs x W _ (some L) hvis (grownBy_putObj' W L _) (fun r e => by cases e; simp [L])
    refine wpIn_mono (hbody L pre x Wb hib hlen hvb) ?_
    -- the round's end: the record and the block behind it lie as they lay
    have fin : ∀ (jump : Option Code) (W3 : World), KeepsFrom w.heap.size Wb W3 → Above T Wb W3 →
        ∃ W4, (Instr.endRound L jump).run P W3 = .ok (.bool jump.isNone) W4 ∧ W4.heap[L]? = some (rec' (if jump.isNone then .ready else .done) jump) ∧ W4.heap[D]? = some (.deferred (some [])) ∧ Above T W W4 ∧
          (∀ (J : List α → World → Prop), Firm w.heap.size J → ∀ ys, J ys W3 → J ys W4) := fun jump W3 hk ha => by
      have hl3 := hk.same L _ (by simp [L]) hlb rfl
      have hd3 := hk.same D _ (Nat.le_refl _) hdb rfl
      refine ⟨_, run_endRound (P := P) jump hl3, World.putObj_heap_same (Array.getElem?_eq_some_iff.1 hl3).1, (World.putObj_heap_other (by simp [D, L])).trans hd3, (hab.trans ha).trans (Above.put _ _ _ hT), fun J hJ ys h => hJ.put _ _ h (by simp [L])⟩
    rintro e a3 W3 hp
    cases e with
    | normal =>
      obtain ⟨⟨hk, ha⟩, hi3⟩ := hp
      obtain ⟨W4, hr, hl4, hd4, ha4, hj⟩ := fin none W3 hk ha
      exact ⟨_, _, hr, ha4, .inl ⟨rfl, hj I hI _ hi3, hl4, hd4⟩⟩
    | ret =>
      obtain ⟨⟨hk, ha⟩, hi3⟩ := hp
      obtain ⟨W4, hr, hl4, hd4, ha4, hj⟩ := fin (some .ret) W3 hk ha
      exact ⟨_, _, hr, ha4, .inr ⟨rfl, .ret, hj _ (hIx _) _ hi3, hl4, hd4⟩⟩
    | exit id =>
      obtain ⟨⟨hk, ha⟩, hi3⟩ := hp
      obtain ⟨W4, hr, hl4, hd4, ha4, hj⟩ := fin (some (.exit id)) W3 hk ha
      exact ⟨_, _, hr, ha4, .inr ⟨rfl, .exit id, hj _ (hIx _) _ hi3, hl4, hd4⟩⟩
    | goto t =>
      obtain ⟨⟨hk, ha⟩, hi3⟩ := hp
      obtain ⟨W4, hr, hl4, hd4, ha4, hj⟩ := fin (some (.goto t)) W3 hk ha
      exact ⟨_, _, hr, ha4, .inr ⟨rfl, .goto t, hj _ (hIx _) _ hi3, hl4, hd4⟩⟩
    | panic ch => exact hp.elim
    | outgrown => exact hp.elim
  · -- behind the iterator
    rintro e W2 ⟨⟨v, rfl⟩, (⟨xs, hS, hi, hl, hd⟩ | ⟨pre, hSp, c, hi, hl, hd⟩)⟩
    · exact ⟨none, _, run_endLoop (P := P) hl (by simp), hdone D xs _ (Nat.le_refl _) hS (hI.put _ _ hi (by simp [L])) ((World.putObj_heap_other (by simp [D, L])).trans hd)⟩
    · exact ⟨some c, _, run_endLoop (P := P) hl (by simp), hstop D c pre _ (Nat.le_refl _) hSp ((hIx c).put _ _ hi (by simp [L])) ((World.putObj_heap_other (by simp [D, L])).trans hd)⟩
end Go.Proofs.Ytdgpjpcdifpllaa

/- CT1:
  The functions of an arity as a function that is ranged over, and their count by whatever closure. -/
namespace Go.Proofs.Ytdgpjpcdifpllaa
open Go.RowKit Go.Shelf
attribute [local go_sem] Oper.semAt_some

/-- A function as it is handed out. -/
def encFunc {T : Nat} (m : Int) (x : Row T) : Array Value := #[.agg #[.int .i64 m, .int .i64 (x.1 : Int)]]

theorem shl_T (R T : Nat) (hT : T = 2 ^ R) (h16 : T ≤ 65536) : wrap64 (2 ^ R) = (T : Int) := by
  have e : (2 : Int) ^ R = (T : Int) := by rw [hT]; push_cast; rfl
  rw [e]
  exact IntWalk.wrap64_in _ ⟨by omega, by omega⟩

/-- The cell of the box B stays. -/
def Stays (B : Nat) (n₀ : Nat) (A C : World) : Prop := Below n₀ A C ∧ ∀ v, A.cell? ⟨B, 0, none⟩ = some v → C.cell? ⟨B, 0, none⟩ = some v

set_option maxRecDepth 100000 in
set_option maxHeartbeats 1000000 in
theorem funcs1_in (n : Nat) (hn : 1 ≤ n) (l Bn n₀ : Nat) (m : Int) (R T : Nat) (h0 : 0 ≤ m) (h4 : m ≤ 4) (hR0 : 0 < R) (hR16 : R ≤ 16) (hR : Hid (rowsN m = (R : Int))) (hT : T = 2 ^ R) (hT0 : 0 < T) (hT16 : T ≤ 65536) (J Jx : List (Row T) → World → Prop)
    (hY : ∀ pre x W, J pre W → pre.length < T → YieldAt Fence.wide (n - 1) Try.prog l (encFunc m x) W fun e W' =>
      (e = .returned (.bool true) ∧ J (pre ++ [x]) W' ∧ Stays Bn n₀ W W') ∨ (e = .returned (.bool false) ∧ Jx (pre ++ [x]) W'))
    (W : World) (hBn : W.cell? ⟨Bn, 0, none⟩ = some (.int .i64 m)) (hj : J [] W) :
    CallsIn Fence.wide n Try.prog 147 #[.func (.yield l) #[] #[], .pointer (some ⟨Bn, 0, none⟩)] W fun e W' => (∃ v, e = .returned v) ∧
      ((∃ ys, ys = upto hT0 T ∧ J ys W') ∨ (∃ pre, True ∧ Jx pre W')) := by
  have hs := Lib.hid (shl_T R T hT hT16)
  clear hT
  refine callsIn_of_wp Try.func147 rfl trivial ?_ rfl
  simp only [Try.ntmps147, List.size_toArray, List.length_cons, List.length_nil, Nat.reduceAdd, Nat.reduceSub, Array.replicate_succ, Array.replicate_zero, List.push_toArray, List.append_toArray, List.nil_append, List.cons_append]
  gi_wp2_with (refine ⟨trivial, ?_⟩; gi_at_call 144; refine (callsIn_wide.2 (rowCount_is h0 h4 hR _)).mono ?_; rintro e w' ⟨rfl, rfl⟩)
  rw [hs.out]
  gi_loopw [7] (fun i wr => ∃ k : Nat, k ≤ T ∧ i = .int .i64 k ∧ J (upto hT0 k) wr ∧ wr.cell? ⟨Bn, 0, none⟩ = some (.int .i64 m))
    (fun i _ => T - (intOf i).toNat)
  case atStart => exact ⟨0, Nat.zero_le _, rfl, hj, hBn⟩
  case round =>
    clear hBn
    obtain ⟨k, hk, rfl, hJs, hBn⟩ := hrel
    by_cases hlt : k < T
    · obtain ⟨fn, tmps, assign, body, hy, hRd⟩ := hY _ (rowAt hT0 k) wr hJs (by rw [upto_length]; exact hlt)
      unfold encFunc at hy
      rw [rowAt_val hT0 hlt] at hy
      gi_wp2
      refine hRd.mono ?_
      rintro e W3 (⟨rfl, hJ3, hk3⟩ | ⟨rfl, hJx3⟩)
      · have hBn3 := hk3.2 _ hBn
        gi_wp2
        go_roundw
        case rel => exact ⟨k + 1, by omega, by simp, by rw [upto_succ]; exact hJ3, hBn3⟩
        case measure => simp [intOf]; omega
      · gi_wp2
        refine bodyPost_ret (results_none rfl _ _ _) rfl ?_
        exact ⟨⟨_, rfl⟩, .inr ⟨_, trivial, hJx3⟩⟩
    · obtain rfl : k = T := by omega
      gi_wp2
      go_end0
      exact ⟨⟨_, rfl⟩, .inl ⟨_, rfl, hJs⟩⟩

theorem funcs_stops (n : Nat) (hn : 1 ≤ n) (Bn n₀ : Nat) (m : Int) (R T : Nat) (h0 : 0 ≤ m) (h4 : m ≤ 4) (hR0 : 0 < R) (hR16 : R ≤ 16) (hR : Hid (rowsN m = (R : Int))) (hT : T = 2 ^ R) (hT0 : 0 < T) (hT16 : T ≤ 65536) (w : World)
    (hc : w.cell? ⟨Bn, 0, none⟩ = some (.int .i64 m)) :
    SeqStopsK Fence.wide n Try.prog 147 #[.pointer (some ⟨Bn, 0, none⟩)] (encFunc (T := T) m) (Stays Bn n₀) (fun ys => ys = upto hT0 T) (fun _ => True) T w := fun l J Jx W hW _ _ hY hj =>
  funcs1_in n hn l Bn n₀ m R T h0 h4 hR0 hR16 hR hT hT0 hT16 J Jx hY W ((hW.cell (p := ⟨Bn, 0, none⟩) (cell_lt hc)).trans hc) hj

set_option maxHeartbeats 1000000 in
theorem funcsOfArity_any (m : Int) (w : World) :
    Calls Try.prog 88 #[.int .i64 m] w fun e w' => e = .returned (.func (.func 147) #[] #[.pointer (some ⟨w.heap.size, 0, none⟩)]) ∧ w' = w.alloc (.cells #[.int .i64 m] 2) := by
  go_enter Try.func88, Try.ntmps88
  go_wp2
  go_ret
  exact ⟨rfl, rfl⟩
end Go.Proofs.Ytdgpjpcdifpllaa

/- CT2:
  countFuncs by contract, for whatever closure. -/
namespace Go.Proofs.Ytdgpjpcdifpllaa
open Go.RowKit Go.Shelf
attribute [local go_sem] Oper.semAt_some

/-- How many of the functions handed out so far hold. -/
def cntF {T : Nat} (p : Nat → Bool) (pre : List (Row T)) : Nat := pre.countP fun x => p x.1
theorem cntF_snoc {T : Nat} (p : Nat → Bool) (pre : List (Row T)) (x : Row T) : cntF p (pre ++ [x]) = cntF p pre + (p x.1).toNat := by
  unfold cntF
  rw [List.countP_append, List.countP_cons, List.countP_nil]
  cases p x.1 <;> rfl
theorem cntF_le {T : Nat} (p : Nat → Bool) (pre : List (Row T)) : cntF p pre ≤ pre.length := List.countP_le_length
/-- .. of the numbers below k. -/
def cntTo (p : Nat → Bool) (k : Nat) : Nat := (List.range k).countP p
theorem cntTo_succ (p : Nat → Bool) (k : Nat) : cntTo p (k + 1) = cntTo p k + (p k).toNat := by
  unfold cntTo
  rw [List.range_succ, List.countP_append, List.countP_cons, List.countP_nil]
  cases p k <;> rfl
theorem cntTo_le (p : Nat → Bool) (k : Nat) : cntTo p k ≤ k := by
  have := List.countP_le_length (p := p) (l := List.range k)
  rw [List.length_range] at this
  exact this
theorem cntF_upto {T : Nat} (hT : 0 < T) (p : Nat → Bool) (k : Nat) (hk : k ≤ T) : cntF p (upto hT k) = cntTo p k := by
  induction k with
  | zero => rfl
  | succ k ih => rw [upto_succ, cntF_snoc, ih (by omega), cntTo_succ, rowAt_val hT (by omega)]

/-- countFuncs between two rounds. -/
structure CMid (B : Nat) (fv : Value) (c : Nat) (W : World) : Prop where
  c3 : W.cell? ⟨B, 0, none⟩ = some fv
  c5 : W.cell? ⟨B + 1, 0, none⟩ = some (.int .i64 (c : Int))
  f5 : W.frozen? ⟨B + 1, 0, none⟩ = false
theorem CMid.kept {B : Nat} {fv : Value} {c : Nat} {W W' : World} {row : Option Nat} (h : CMid B fv c W) (hg : W.grownBy W' row) (hr : ∀ r, row = some r → ∃ o : Obj, W.heap[r]? = some o ∧ o.isCells = false) : CMid B fv c W' :=
  ⟨cell_kept h.c3 hg hr, cell_kept h.c5 hg hr, (frozen_kept h.c5 hg hr).trans h.f5⟩
theorem CMid.below {B : Nat} {fv : Value} {c : Nat} {W W' : World} (h : CMid B fv c W) (hb : Below W.heap.size W W') : CMid B fv c W' := ⟨kc hb h.c3, kc hb h.c5, kf hb h.c5 h.f5⟩
theorem CMid.up {B : Nat} {fv : Value} {c c2 : Nat} {W : World} (h : CMid B fv c W) : CMid B fv c2 (W.setCell ⟨B + 1, 0, none⟩ (.int .i64 (c2 : Int))) := by
  have d3 := h.c3
  have d5 := h.c5
  exact ⟨by simp [go_sem, d3], by simp [go_sem, d5], by rw [World.frozen?_setCell]; exact h.f5⟩

theorem stays_t {B n₀ : Nat} {A C D : World} (h : Stays B n₀ A C) (k : Stays B n₀ C D) : Stays B n₀ A D := ⟨h.1.trans k.1, fun v hv => k.2 v (h.2 v hv)⟩
theorem stays_b {B n₀ : Nat} {w : World} (hn : n₀ ≤ w.heap.size) (W : World) (l : Nat) (o o' : Obj) (hl : w.heap.size ≤ l) (h : W.heap[l]? = some o) (hc : o.isCells = false) (hw : o.isWalk = false) : Stays B n₀ W (W.putObj l o') :=
  ⟨belowK_b hn W l o o' hl h hc hw, fun _ hv => cell_kept hv (grownBy_putObj' W l o') (fun r e => by cases e; exact ⟨o, h, hc⟩)⟩
theorem stays_below {B n₀ : Nat} {W W' : World} (hn : n₀ ≤ W.heap.size) (h : Below W.heap.size W W') : Stays B n₀ W W' := ⟨h.mono hn, fun _ hv => kc h hv⟩
theorem stays_set {B n₀ C : Nat} (W : World) (hne : C ≠ B) (hn : n₀ ≤ C) (v : Value) : Stays B n₀ W (W.setCell ⟨C, 0, none⟩ v) :=
  ⟨(Below.refl _ _).setCell (p := ⟨C, 0, none⟩) hn v, fun u hu => by simp [go_sem, hu]⟩
theorem kotb {W w' : World} (hb : Below W.heap.size W w') : KeepsOthers W w' :=
  ⟨hb.size, fun k _ hk _ => (hb.block k (Array.getElem?_eq_some_iff.1 hk).1).trans hk⟩

set_option maxRecDepth 100000 in
set_option maxHeartbeats 2000000 in
theorem countFuncs_any (m : Int) (h0 : 0 ≤ m) (h4 : m ≤ 4) (R T : Nat) (hR0 : 0 < R) (hR16 : R ≤ 16) (hR : Hid (rowsN m = (R : Int))) (hT : Hid (T = 2 ^ R)) (hT0 : 0 < T) (hT16 : T ≤ 65536) (g : Nat) (cap : Array Value)
    (eg : ∀ args w, (callFunc g args).run Try.prog w = .ok (.enter g args) w) (p : Nat → Bool) (w : World)
    (hval : Hid (∀ W, Below w.heap.size w W → ∀ x : Nat, x < T → Calls Try.prog g (#[.agg #[.int .i64 m, .int .i64 (x : Int)]] ++ cap) W fun e W' => e = .returned (.bool (p x)) ∧ Below W.heap.size W W')) :
    Calls Try.prog 138 #[.int .i64 m, .func (.func g) #[] cap] w fun e w' => e = .returned (.int .i64 (cntTo p T : Int)) ∧ Below w.heap.size w w' := by
  refine (callsIn_wide (n := 3)).1 ?_
  refine callsIn_of_wp_marks Try.func138 rfl trivial ?_ rfl
  simp only [Try.ntmps138, List.size_toArray, List.length_cons, List.length_nil, Nat.reduceAdd, Nat.reduceSub, Array.replicate_succ, Array.replicate_zero, List.push_toArray, List.append_toArray, List.nil_append, List.cons_append]
  gi_wp2_with (refine ⟨trivial, ?_⟩; gi_at_call 88; refine (callsIn_wide.2 (funcsOfArity_any _ _)).mono ?_; rintro e w' ⟨rfl, rfl⟩)
  obtain ⟨W0, hW0⟩ : ∃ W0, ((w.alloc (.cells #[.func (.func g) #[] cap] 107)).alloc (.cells #[.int .i64 0] 2)).alloc (.cells #[.int .i64 m] 2) = W0 := ⟨_, rfl⟩
  have c3 : W0.cell? ⟨w.heap.size, 0, none⟩ = some (.func (.func g) #[] cap) := by rw [← hW0]; simp [go_sem]
  have c5 : W0.cell? ⟨w.heap.size + 1, 0, none⟩ = some (.int .i64 0) := by rw [← hW0]; simp [go_sem]
  have cM : W0.cell? ⟨w.heap.size + 1 + 1, 0, none⟩ = some (.int .i64 m) := by rw [← hW0]; simp [go_sem]
  have f5 : W0.frozen? ⟨w.heap.size + 1, 0, none⟩ = false := by rw [← hW0]; simp [go_sem]
  have hsz : W0.heap.size = w.heap.size + 3 := by rw [← hW0]; simp [go_sem]
  have hB0 : Below w.heap.size w W0 := by rw [← hW0]; exact balloc (balloc (bnew _ _) _) _
  rw [hW0]
  clear hW0
  refine wpIn_rangeFunc_ownH (α := Row T) rfl (by omega) (gf := 147) (lb := #[.pointer (some ⟨w.heap.size + 1 + 1, 0, none⟩)]) rfl trivial (enters_of Try.func147 (by kernel_rfl) rfl)
    (funcs_stops (3 - 1) (by omega) (w.heap.size + 1 + 1) w.heap.size m R T h0 h4 hR0 hR16 hR hT.out hT0 hT16 W0 cM) stays_t (stays_b (by omega)) (Below.refl _ _) (fun _ => rfl)
    (fun pre W => CMid w.heap.size (.func (.func g) #[] cap) (cntF p pre) W ∧ Below w.heap.size w W)
    (fun _ _ _ => False)
    (OwnFrom.and (Own.from (fun s A B row hs hg hr => hs.kept hg hr) _) (ownFrom_below (Nat.le_refl _) (by omega)))
    (fun _ _ _ _ _ hs _ _ => hs)
    ⟨⟨c3, by simpa [cntF] using c5, f5⟩, hB0⟩
    (fun x a' W => ∃ BX, a' = { tmps := #[.int .i64 m, .func (.func g) #[] cap, undef, .pointer (some ⟨w.heap.size, 0, none⟩), .int .i64 0, .pointer (some ⟨w.heap.size + 1, 0, none⟩), .pointer (some ⟨BX, 0, none⟩), .int .i64 m,
      .func (.func 147) #[] #[.pointer (some ⟨w.heap.size + 1 + 1, 0, none⟩)], .agg #[.int .i64 m, .int .i64 (x.1 : Int)], undef, undef, undef, undef, undef, undef], defers := [] } ∧ FBox BX m x.1 W)
    (fun x a' _ A B row ⟨BX, e, hb⟩ hg hr => ⟨BX, e, ⟨cell_kept hb.c0 hg (fun r er => (hr r er).2), cell_kept hb.c1 hg (fun r er => (hr r er).2)⟩⟩)
    ?assign ?body ?done ?stop
  case assign =>
    rintro l pre x W K ⟨hM, hB⟩ hK
    unfold encFunc
    gi_wp2
    refine hK _ _ ((KeepsOthers.alloc W _).from _) (stays_below (by have := hB.size; omega) (bnew _ _)) ⟨hM.below (bnew _ _), balloc hB _⟩ ⟨W.heap.size, rfl, ⟨by simp [go_sem], by simp [go_sem]⟩⟩
  case body =>
    clear c3 c5 cM f5
    rintro l pre x _ W hl hrec ⟨hM, hB⟩ ⟨BX, rfl, hbx⟩ hlen
    have HM := Lib.hid hM
    have c3 := hM.c3
    have c0 := hbx.c0
    have c1 := hbx.c1
    clear hM hbx hrec
    have hx := x.2
    have hpx := cntF_snoc p pre x
    have hle := cntF_le p pre
    cases hp : p x.1
    · rw [hp] at hpx
      have HP := Lib.hid hp
      have HC := Lib.hid hpx
      clear hp hpx
      generalize x.1 = r at hx HP c1 ⊢
      gi_wp2_with (refine ⟨trivial, ?_⟩; refine (callsIn_wide.2 (hval.out _ hB r hx)).mono ?_; rintro e w' ⟨rfl, hb'⟩; rw [HP.out])
      exact ⟨(kotb hb').from _, stays_below (by have := hB.size; omega) hb', by rw [HC.out]; exact HM.out.below hb', bthen hB hb'⟩
    · rw [hp] at hpx
      have HP := Lib.hid hp
      have HC := Lib.hid hpx
      clear hp hpx
      generalize x.1 = r at hx HP c1 ⊢
      have c5 := HM.out.c5
      gi_wp2_with (refine ⟨trivial, ?_⟩; refine (callsIn_wide.2 (hval.out _ hB r hx)).mono ?_; rintro e w' ⟨rfl, hb'⟩; rw [HP.out]; have HM2 := Lib.hid (HM.out.below hb'); have d5 := HM2.out.c5; have g5 := HM2.out.f5)
      have hu := HM2.out.up (c2 := cntF p pre + true.toNat)
      rw [show ((cntF p pre + true.toNat : Nat) : Int) = (cntF p pre : Int) + 1 from by simp] at hu
      exact ⟨((kotb hb').trans (KeepsOthers.setCell _ _ _)).from _, stays_t (stays_below (by have := hB.size; omega) hb') (stays_set _ (by omega) (by omega) _), by rw [HC.out]; exact hu, (bthen hB hb').setCell (p := ⟨w.heap.size + 1, 0, none⟩) (by simp) _⟩
  case done =>
    clear c3 c5 cM f5
    rintro D ys W hD rfl ⟨hM, hB⟩ hK
    rw [cntF_upto hT0 p T (Nat.le_refl _)] at hM
    have c5 := hM.c5
    clear hM
    gi_wp2
    refine ⟨by simp, .inl ⟨_, _, rfl, run_takeDeferred hK, ?_⟩⟩
    exact ⟨.int .i64 (cntTo p T : Int), by simp [results, Try.results138, go_sem], rfl, hB.trans (belowK_b (w := w) (Nat.le_refl _) W D _ _ (by omega) hK rfl rfl)⟩
  case stop =>
    rintro D c pre W _ _ h _
    exact h.elim
end Go.Proofs.Ytdgpjpcdifpllaa
