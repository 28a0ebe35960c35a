/-
  The texts Z6, L4, H1, L5, H2, H3, Z7, Z2, Z9, MO7, MO12, MO13, MO14, RB, MO15 in one.
-/
import Derived.Test.YtbdhlokbpbiijaaMPFnIdentities3
import Derived.Laws.CopyOwn
import Derived.WalkLawsBesides
import Derived.Deep.RegionWith
import Derived.Deep.QuietTactic
import Derived.OrdersHeld
import Derived.Deep.RegionHeld3
import Derived.Laws.Cover1

/- Z6:
  Chapter 3 of the program: valuesOf: the values of a function, by rows. -/
namespace Go.Proofs.Ytbdhlokbpbiijaa
open Go.RowKit Go.Shelf
attribute [local go_sem] Oper.semAt_some
set_option linter.unusedVariables false
set_option linter.unusedSimpArgs false

/-- A slice made with all its places. -/
theorem wpListIn_make_full {F : Fence} {n : Nat} {P : Program} (w : World) {ops : Array Oper} {rest : List Oper} {o : Oper} {a : Act} {Q : Exit → Act → World → Prop}
    (hg : o.guard = none) (l c : Operand) (t : TypeId) (hop : o.op = Op.makeSlice t l c)
    (base : Nat) (e : TypeId) (i : TypeInfo) (z : Value) (size : Nat) (h1 : P.underlying t = some (.slice e)) (h2 : P.info? e = some i) (h3 : i.zero = some z) (h4 : i.size = size)
    (kl kc : IntKind) (L C : Int) (m : Nat) (hl : a.eval l = .int kl L) (hc : a.eval c = .int kc C) (hL : L = (m : Int)) (hC : C = (m : Int)) (b2 : i.bytes * m ≤ 281474976710656) (b3 : m ≤ maxLen) (b4 : base ≤ w.heap.size)
    (hK : ∀ w', w'.ownsRow base e size (.slice (some ⟨w.heap.size, 0, none⟩) m m) m (madeCells z.cells (m * size)).toList → w.grownBy w' none → wpListIn F n P ops Q rest (a.put o.dst (.slice (some ⟨w.heap.size, 0, none⟩) m m)) w') :
    wpListIn F n P ops Q (o :: rest) a w := by
  refine wpListIn_plain hg fun K hK' => ?_
  obtain ⟨w', hrun, r1, r2⟩ := run_make_full (P := P) w base t e i z size h1 h2 h3 h4 kl kc m b2 b3 b4
  subst hL
  subst hC
  unfold Oper.wpIn
  refine ⟨?_, ?_⟩
  · simp [Oper.about, hop]
  · rw [Oper.semAt_plain F _ _ (by rw [hop]; intro c hc'; cases hc')]
    simp [execOp, hop, hl, hc, hrun, Result.andThen]
    exact hK' _ _ (hK w' r1 r2)

/-- A made list, the places handed out so far set. -/
def setL {R : Nat} (F : Nat → Value) (vs : List Value) (pre : List (Row R)) : List Value := (List.range R).map fun j => if pre.any (fun x => x.1 == j) then F j else vs[j]?.getD undef
theorem setL_len {R : Nat} (F : Nat → Value) (vs : List Value) (pre : List (Row R)) : (setL F vs pre).length = R := by simp [setL]
theorem setL_nil {R : Nat} (F : Nat → Value) (vs : List Value) (h : vs.length = R) : setL (R := R) F vs [] = vs := by
  apply List.ext_getElem
  · simp [setL, h]
  · intro j h1 h2
    simp [setL, h2]
theorem setL_snoc {R : Nat} (F : Nat → Value) (vs : List Value) (pre : List (Row R)) (x : Row R) : (setL F vs pre).set x.1 (F x.1) = setL F vs (pre ++ [x]) := by
  apply List.ext_getElem
  · simp [setL]
  · intro j h1 h2
    simp only [setL, List.length_set, List.length_map, List.length_range] at h1
    rw [List.getElem_set]
    by_cases e : x.1 = j
    · subst e; simp [setL]
    · simp [setL, e]
theorem setL_upto {R : Nat} (hR : 0 < R) (F : Nat → Value) (vs : List Value) : setL F vs (upto hR R) = (List.range R).map F := by
  unfold setL
  refine List.map_congr_left fun j hj => ?_
  have hj' := List.mem_range.1 hj
  rw [if_pos]
  rw [List.any_eq_true]
  exact ⟨rowAt hR j, List.mem_map.2 ⟨j, hj, rfl⟩, by rw [rowAt_val hR hj', beq_self_eq_true]⟩
theorem ints_natL (v : Nat → Nat) (k : Nat) : ints (natL v k) = (List.range k).map fun j => .int .i64 (v j : Int) := by simp [ints, natL]

theorem owns_keptF {W W' : World} {base : Nat} {e : TypeId} {size : Nat} {v : Value} {n : Nat} {xs : List Value} {row : Option Nat} (h : W.ownsRow base e size v n xs) (hg : W.grownBy W' row) (hr : ∀ r, row = some r → ∃ o : Obj, W.heap[r]? = some o ∧ o.isCells = false) : W'.ownsRow base e size v n xs := by
  refine World.ownsRow.kept h hg ?_
  rcases h.2 with ⟨rfl, _⟩ | ⟨g, cap, cur, rfl, _, hgb, _⟩
  · exact .inl rfl
  · refine .inr fun e' => ?_
    obtain ⟨o, ho, hc⟩ := hr g (by simpa [Value.ownBlock] using e'.symm)
    rw [hgb] at ho; cases ho; cases hc

/-- The boxes of a walk over the rows that stores into a made list: the function and the slice. -/
structure VMid (B C : Nat) (g R : Nat) (n : Int) (x : Nat) (W : World) : Prop where
  cS : W.cell? ⟨C, 0, none⟩ = some (.slice (some ⟨g, 0, none⟩) R R)
  p0 : W.cell? ⟨B, 0, none⟩ = some (.int .i64 n)
  p1 : W.cell? ⟨B, 1, none⟩ = some (.int .i64 (x : Int))
theorem VMid.kept {B C g R : Nat} {n : Int} {x : Nat} {W W' : World} {row : Option Nat} (h : VMid B C g R n x W) (hg : W.grownBy W' row) (hr : ∀ r, row = some r → ∃ o : Obj, W.heap[r]? = some o ∧ o.isCells = false) : VMid B C g R n x W' :=
  ⟨cell_kept h.cS hg hr, cell_kept h.p0 hg hr, cell_kept h.p1 hg hr⟩
theorem VMid.step {B C g R r : Nat} {n : Int} {x : Nat} {W w' : World} {u : Value} (h : VMid B C g R n x W) (hb : Below W.drew.heap.size W.drew w') (h1 : ¬ g = C) (h2 : ¬ g = B) : VMid B C g R n x (w'.setCell ⟨g, r, none⟩ u) := by
  have d1 := kcd hb h.cS
  have d2 := kcd hb h.p0
  have d3 := kcd hb h.p1
  exact ⟨by simp [go_sem, d1, h1], by simp [go_sem, d2, h2], by simp [go_sem, d3, h2]⟩


set_option maxRecDepth 100000 in
set_option maxHeartbeats 4000000 in
theorem valuesOf_any {n : Int} {x R : Nat} (ok : FOk n x R) (w : World) :
    Calls Try.prog 254 #[.agg #[.int .i64 n, .int .i64 (x : Int)]] w (ListPost w.heap.size (natL (bitN x) R) w) := by
  obtain ⟨i0, hi, hz0, hz1, hz2⟩ := info_parts infoI
  have r0 := ok.r0
  have r16 := ok.r16
  have hox := ok.hx
  obtain ⟨W1, hW1⟩ : ∃ W1, w.alloc (.cells #[.int .i64 n, .int .i64 (x : Int)] 25) = W1 := ⟨_, rfl⟩
  have p0 : W1.cell? ⟨w.heap.size, 0, none⟩ = some (.int .i64 n) := by rw [← hW1]; simp [go_sem]
  have p1 : W1.cell? ⟨w.heap.size, 1, none⟩ = some (.int .i64 (x : Int)) := by rw [← hW1]; simp [go_sem]
  have hs1 : W1.heap.size = w.heap.size + 1 := by rw [← hW1]; simp [go_sem]
  have hB : Below w.heap.size w W1 := by rw [← hW1]; exact bnew _ _
  have HS1 := Lib.hid hs1
  clear hs1
  refine (callsIn_wide (n := 3)).1 ?_
  refine callsIn_of_wp_marks Try.func254 rfl trivial ?_ rfl
  simp only [Try.ntmps254, List.size_toArray, List.length_cons, List.length_nil, Nat.reduceAdd, Nat.reduceSub, Array.replicate_succ, Array.replicate_zero, List.push_toArray, List.append_toArray, List.nil_append, List.cons_append]
  gi_wp2_with (first
    | (refine ⟨trivial, ?_⟩; gi_at_call 91; refine (callsIn_wide.2 (rowCount_is ok.h0 ok.h4 ok.hR _)).mono ?_; rintro e w' ⟨rfl, rfl⟩)
    | (gi_at_make; refine wpListIn_make_full _ rfl _ _ 27 rfl W1.heap.size 2 i0 (.int .i64 0) 1 Try.underlying27 hi hz0 hz1 .i64 .i64 _ _ R rfl rfl rfl rfl (by rw [hz2]; omega) (by unfold maxLen; omega) (Nat.le_refl _) ?_; intro w4 hown1 hgrow1; have hN4 : Below W1.heap.size W1 w4 := (Below.refl _ _).grown hgrow1 (Nat.le_refl _) (fun j e => by cases e); have q0 := kc hN4 p0; have q1 := kc hN4 p1; have lt4 : w.heap.size < w4.heap.size := by have := hN4.size; have := HS1.out; omega)
    | (refine ⟨trivial, ?_⟩; gi_at_call 135; refine (callsIn_wide.2 (rowsOf_any _ _)).mono ?_; rintro e w' ⟨rfl, rfl⟩))
  obtain ⟨W0, hW0⟩ : ∃ W0, (w4.alloc (.cells #[.slice (some ⟨W1.heap.size, 0, none⟩) R R] 27)).alloc (.cells #[.int .i64 n] 2) = W0 := ⟨_, rfl⟩
  have cS : W0.cell? ⟨w4.heap.size, 0, none⟩ = some (.slice (some ⟨W1.heap.size, 0, none⟩) R R) := by rw [← hW0]; simp [go_sem]
  have cM : W0.cell? ⟨w4.heap.size + 1, 0, none⟩ = some (.int .i64 n) := by rw [← hW0]; simp [go_sem]
  have hb04 : Below w4.heap.size w4 W0 := by rw [← hW0]; exact balloc (bnew _ _) _
  have s0 := kc hb04 q0
  have s1 := kc hb04 q1
  have hvl := hown1.1
  have own0 := owns_below hown1 hb04
  generalize (madeCells (Value.int .i64 0).cells (R * 1)).toList = vs at own0 hown1 hvl
  rw [Nat.mul_one] at hvl
  have hsz : W0.heap.size = w4.heap.size + 2 := by rw [← hW0]; simp [go_sem]
  have hB0 : Below w.heap.size w W0 := bthen (bthen hB hN4) hb04
  have hg4 : W1.heap.size < w4.heap.size := (World.ownsRow.lt hown1 W1.heap.size rfl).2
  rw [hW0]
  clear hW0 hgrow1 hown1 q0 q1 p0 p1 hW1 hN4
  have s1e : w.heap.size < W1.heap.size := by have := HS1.out; omega
  refine wpIn_rangeFunc_ownF (α := Row R) rfl (by omega) (gf := 191) (lb := #[.pointer (some ⟨w4.heap.size + 1, 0, none⟩)]) rfl trivial (enters_of Try.func191 (by kernel_rfl) rfl)
    (rows_stops (3 - 1) (by omega) (w4.heap.size + 1) w.heap.size n R ok.h0 ok.h4 r0 r16 ok.hR W0 (by omega) cM) belowK_t (belowK_b (by omega)) (Below.refl _ _) (fun _ => rfl)
    (fun pre W => (VMid w.heap.size w4.heap.size W1.heap.size R n x W ∧ W.ownsRow W1.heap.size 2 1 (.slice (some ⟨W1.heap.size, 0, none⟩) R R) R (setL (fun j => .int .i64 (bitN x j : Int)) vs pre)) ∧ Below w.heap.size w W)
    (fun _ _ _ => False)
    (OwnFrom.and (Own.from (fun s A B row hs hg hr => ⟨hs.1.kept hg hr, owns_keptF hs.2 hg hr⟩) _) (ownFrom_below (Nat.le_refl _) (by omega)))
    (fun _ _ _ _ _ hs _ _ => hs)
    ⟨⟨⟨cS, s0, s1⟩, by rw [setL_nil _ _ hvl]; exact own0⟩, hB0⟩
    (fun y => { tmps := #[.agg #[.int .i64 n, .int .i64 (x : Int)], .pointer (some ⟨w.heap.size, 0, none⟩), .slice none 0 0, .pointer (some ⟨w4.heap.size, 0, none⟩), .int .i64 (y.1 : Int), .pointer (some ⟨w.heap.size, 0, none⟩), .int .i64 n, .int .i64 R, .slice (some ⟨W1.heap.size, 0, none⟩) R R, .pointer (some ⟨w.heap.size, 0, none⟩), .int .i64 n, .func (.func 191) #[] #[.pointer (some ⟨w4.heap.size + 1, 0, none⟩)], .int .i64 (y.1 : Int), undef, undef, undef, undef, undef, undef, undef], defers := [] }) ?assign ?body ?done ?stop
  case assign =>
    intro l y W K hK
    unfold encRow
    gi_wp2
    exact hK
  case body =>
    clear cS cM s0 s1 own0 hB0 hB
    rintro l pre y W ⟨⟨hM, hO⟩, hB⟩ _
    have cS := hM.cS
    have p0 := hM.p0
    have p1 := hM.p1
    have hr := y.2
    have hsn := setL_snoc (fun j => .int .i64 (bitN x j : Int)) vs pre y
    have hlen := setL_len (fun j => .int .i64 (bitN x j : Int)) vs pre
    have hbw := hB.size
    generalize y.1 = r at hr hsn ⊢
    obtain ⟨u, cu⟩ : ∃ u, W.cell? ⟨W1.heap.size, r, none⟩ = some u := by
      rw [hO.cellAt r (by omega)]
      exact ⟨_, List.getElem?_eq_getElem (by omega)⟩
    have fu := hO.frozenAt r
    have hr62 : r < 62 := by omega
    have END := Lib.hid (fun w' (hb' : Below W.drew.heap.size W.drew w') => (show (KeepsOthers W (w'.setCell ⟨W1.heap.size, r, none⟩ (.int .i64 (bitN x r : Int))) ∧ Below w.heap.size W (w'.setCell ⟨W1.heap.size, r, none⟩ (.int .i64 (bitN x r : Int))) ∧
      ((VMid w.heap.size w4.heap.size W1.heap.size R n x (w'.setCell ⟨W1.heap.size, r, none⟩ (.int .i64 (bitN x r : Int))) ∧ (w'.setCell ⟨W1.heap.size, r, none⟩ (.int .i64 (bitN x r : Int))).ownsRow W1.heap.size 2 1 (.slice (some ⟨W1.heap.size, 0, none⟩) R R) R (setL (fun j => .int .i64 (bitN x j : Int)) vs (pre ++ [y]))) ∧ Below w.heap.size w (w'.setCell ⟨W1.heap.size, r, none⟩ (.int .i64 (bitN x r : Int))))) from
      ⟨(kot hb').trans (KeepsOthers.setCell _ _ _), ((Below.refl _ W).drew.trans (hb'.mono hbw)).setCell (p := ⟨W1.heap.size, r, none⟩) (by simp; omega) _,
        ⟨hM.step hb' (by omega) (by omega), by rw [← hsn]; exact ((owns_below (World.ownsRow.drew hO) hb').stored r _).1⟩, (hB.drew.trans (hb'.mono hbw)).setCell (p := ⟨W1.heap.size, r, none⟩) (by simp; omega) _⟩))
    have hmx : Try.prog.follows .mixedOrders = true := by kernel_rfl
    have hd : 1 ≤ 3 - 1 - 1 := by omega
    clear hM hO hsn hlen hvl s1e
    gi_wp2
    refine wpIn_region_any hmx ?_
    refine wpAnyIn_round (F := Fence.wide) l (by kernel_rfl) _ _ _ _ ?_
    change wpAnyIn _ _ _ _ _ _ _ _ _ (World.drew _)
    refine wpAnyIn_take (i := 1) (v := ?_) rfl rfl (by kernel_rfl) (by kernel_rfl) (by kernel_rfl) (fun _ _ _ h => h) ⟨Or.inl ⟨by rfl, by intro w; go_simp; try (with_reducible rfl)⟩, fun _ => rfl⟩ ?_
    refine wpAnyIn_take (i := 3) (v := ?_) rfl rfl (by kernel_rfl) (by kernel_rfl) (by kernel_rfl) (fun _ _ _ h => h) ⟨Or.inl ⟨by rfl, by intro w; go_simp; try (with_reducible rfl)⟩, fun _ => rfl⟩ ?_
    refine wpAnyIn_ready (rs := [0, 2]) (by kernel_rfl) (by simp) ?_
    refine AllReadyIn.cons rfl (fun K hK => ?_) ?_
    · go_simp
      refine hK _ _ ?_
      clear hK K
      refine wpAnyIn_ready (rs := [2]) (by kernel_rfl) (by simp) ?_
      refine AllReadyIn.cons rfl (fun K hK => ?_) ?_
      · go_simp
        refine hK _ _ ?_
        clear hK K
        refine wpAnyIn_ready (rs := [4]) (by kernel_rfl) (by simp) ?_
        refine AllReadyIn.cons rfl (fun K hK => ?_) ?_
        · go_simp
          refine ⟨trivial, ?_⟩
          refine (callsIn_wide.2 (valueInRow_any n x r hox (by omega) _)).mono ?_
          rintro e w' ⟨rfl, hb'⟩
          have dS := kcd hb' cS
          have d0 := kcd hb' p0
          have d1 := kcd hb' p1
          have du := kcd hb' cu
          have eu := kfd hb' cu fu
          dsimp only
          refine hK _ _ ?_
          clear hK K
          refine wpAnyIn_ready (rs := [5]) (by kernel_rfl) (by simp) ?_
          refine AllReadyIn.cons rfl (fun K hK => ?_) ?_
          · go_simp
            refine hK _ _ ?_
            clear hK K
            refine wpAnyIn_ready (rs := [6]) (by kernel_rfl) (by simp) ?_
            refine AllReadyIn.cons rfl (fun K hK => ?_) ?_
            · go_simp
              refine hK _ _ ?_
              clear hK K
              refine wpAnyIn_done (by kernel_rfl) ?_ _
              exact END.out _ hb'
            exact AllReadyIn.nil
          exact AllReadyIn.nil
        exact AllReadyIn.nil
      exact AllReadyIn.nil
    refine AllReadyIn.cons rfl (fun K hK => ?_) ?_
    · go_simp
      refine hK _ _ ?_
      clear hK K
      refine wpAnyIn_ready (rs := [0, 4]) (by kernel_rfl) (by simp) ?_
      refine AllReadyIn.cons rfl (fun K hK => ?_) ?_
      · go_simp
        refine hK _ _ ?_
        clear hK K
        refine wpAnyIn_ready (rs := [4]) (by kernel_rfl) (by simp) ?_
        refine AllReadyIn.cons rfl (fun K hK => ?_) ?_
        · go_simp
          refine ⟨trivial, ?_⟩
          refine (callsIn_wide.2 (valueInRow_any n x r hox (by omega) _)).mono ?_
          rintro e w' ⟨rfl, hb'⟩
          have dS := kcd hb' cS
          have d0 := kcd hb' p0
          have d1 := kcd hb' p1
          have du := kcd hb' cu
          have eu := kfd hb' cu fu
          dsimp only
          refine hK _ _ ?_
          clear hK K
          refine wpAnyIn_ready (rs := [5]) (by kernel_rfl) (by simp) ?_
          refine AllReadyIn.cons rfl (fun K hK => ?_) ?_
          · go_simp
            refine hK _ _ ?_
            clear hK K
            refine wpAnyIn_ready (rs := [6]) (by kernel_rfl) (by simp) ?_
            refine AllReadyIn.cons rfl (fun K hK => ?_) ?_
            · go_simp
              refine hK _ _ ?_
              clear hK K
              refine wpAnyIn_done (by kernel_rfl) ?_ _
              exact END.out _ hb'
            exact AllReadyIn.nil
          exact AllReadyIn.nil
        exact AllReadyIn.nil
      refine AllReadyIn.cons rfl (fun K hK => ?_) ?_
      · go_simp
        refine ⟨trivial, ?_⟩
        refine (callsIn_wide.2 (valueInRow_any n x r hox (by omega) _)).mono ?_
        rintro e w' ⟨rfl, hb'⟩
        have dS := kcd hb' cS
        have d0 := kcd hb' p0
        have d1 := kcd hb' p1
        have du := kcd hb' cu
        have eu := kfd hb' cu fu
        dsimp only
        refine hK _ _ ?_
        clear hK K
        refine wpAnyIn_ready (rs := [0]) (by kernel_rfl) (by simp) ?_
        refine AllReadyIn.cons rfl (fun K hK => ?_) ?_
        · go_simp
          refine hK _ _ ?_
          clear hK K
          refine wpAnyIn_ready (rs := [5]) (by kernel_rfl) (by simp) ?_
          refine AllReadyIn.cons rfl (fun K hK => ?_) ?_
          · go_simp
            refine hK _ _ ?_
            clear hK K
            refine wpAnyIn_ready (rs := [6]) (by kernel_rfl) (by simp) ?_
            refine AllReadyIn.cons rfl (fun K hK => ?_) ?_
            · go_simp
              refine hK _ _ ?_
              clear hK K
              refine wpAnyIn_done (by kernel_rfl) ?_ _
              exact END.out _ hb'
            exact AllReadyIn.nil
          exact AllReadyIn.nil
        exact AllReadyIn.nil
      exact AllReadyIn.nil
    exact AllReadyIn.nil
  case done =>
    clear cS cM s0 s1 own0 hB0
    rintro D ys W hD rfl ⟨⟨hM, hO⟩, hBW⟩ hK
    rw [setL_upto] at hO
    have cS := hM.cS
    have HO := Lib.hid hO
    clear hM hO
    gi_wp2
    refine ⟨by simp, .inl ⟨_, _, rfl, run_takeDeferred hK, ?_⟩⟩
    refine ⟨.slice (some ⟨W1.heap.size, 0, none⟩) R R, by simp [results, Try.results254, go_sem], ?_⟩
    refine ⟨_, rfl, ?_, hBW.trans (belowK_b (w := w) (Nat.le_refl _) W D _ _ (by omega) hK rfl rfl)⟩
    refine Owns.mono (b1 := W1.heap.size) ?_ (by omega)
    unfold Owns
    rw [natL_len, ints_natL]
    exact ownsRow_putObj HO.out _ hK rfl
  case stop =>
    rintro D c pre W _ _ h _
    exact h.elim
end Go.Proofs.Ytbdhlokbpbiijaa

/- L4:
  Rows of arguments, in both packages. -/
namespace Go.Proofs.Ytbdhlokbpbiijaa
open Go.RowKit

theorem w64 (x : Int) : wrap64 x = IntKind.i64.wrap x := by
  simp [wrap64, IntKind.wrap, IntKind.bits, IntKind.signed]
  split <;> omega

theorem or_sum (v : Nat → Nat) (k : Nat) (hk : k < 16) (hv : ∀ r, r < k + 1 → v r ≤ 1) : bits .or .i64 (sumN v k : Int) (wrap64 ((v k : Int) * 2 ^ k)) = (sumN v (k + 1) : Int) := by
  rw [w64]
  have h := sumN_lt v k (fun r hr => hv r (by omega))
  have h2 : (2 : Nat) ^ k ≤ 2 ^ 16 := Nat.pow_le_pow_right (by decide) (by omega)
  rw [or_step _ _ _ (by omega) (hv k (by omega)) hk, Nat.or_comm, ← Nat.shiftLeft_add_eq_or_of_lt h, Nat.shiftLeft_eq, sumN, Nat.add_comm]

set_option maxRecDepth 100000 in
set_option maxHeartbeats 1000000 in
theorem rowWith_any (m : Nat) (hm : m ≤ 4) (g : Nat) (cap : Array Value) (eg : ∀ args w, (callFunc g args).run Try.prog w = .ok (.enter g args) w) (v : Nat → Nat) (hv : ∀ i, i < m → v i ≤ 1) (w : World)
    (hval : Hid (∀ W, Below w.heap.size w W → ∀ i : Nat, i < m → Calls Try.prog g (#[.int .i64 (i : Int)] ++ cap) W fun e W' => e = .returned (.int .i64 (v i : Int)) ∧ Below W.heap.size W W')) :
    Calls Try.prog 188 #[.int .i64 (m : Int), .func (.func g) #[] cap] w fun e w' => e = .returned (.int .i64 (sumN v m : Int)) ∧ Below w.heap.size w w' := by
  go_enter Try.func188, Try.ntmps188
  go_wp2
  go_loopw [5, 8] (fun q i' wr => ∃ i : Nat, i ≤ m ∧ i' = .int .i64 i ∧ q = .int .i64 (sumN v i : Int) ∧ Below w.heap.size w wr) (fun _ i' _ => m - (intOf i').toNat)
  case atStart => exact ⟨0, Nat.zero_le _, rfl, rfl, Below.refl _ _⟩
  case round =>
    obtain ⟨i, hi, rfl, rfl, hB⟩ := hrel
    by_cases hlt : i < m
    · have HO := Lib.hid (or_sum v i (by omega) (fun r hr => hv r (by omega)))
      go_wp2_with fail
      refine (hval.out _ hB i hlt).mono ?_
      rintro e w' ⟨rfl, hb⟩
      have hB' := bthen hB hb
      go_wp2
      go_roundw
      case rel => exact ⟨i + 1, by omega, by go_num, by rw [HO.out], hB'⟩
      case measure => simp [intOf]; omega
    · obtain rfl : i = m := by omega
      go_wp2
      go_ret
      exact ⟨rfl, hB⟩

/-- The digits of a list. -/
def dig (xs : List Int) (i : Nat) : Nat := (xs[i]?.getD 0).toNat
theorem dig_ok {xs : List Int} (h : (xs.all fun v => inB v 0 1) = true) (i : Nat) (hi : i < xs.length) : dig xs i ≤ 1 ∧ xs[i]?.getD 0 = (dig xs i : Int) := by
  have := List.all_eq_true.1 h xs[i] (List.getElem_mem hi)
  have h2 : 0 ≤ xs[i] ∧ xs[i] ≤ 1 := by simpa [inB] using this
  unfold dig
  rw [List.getElem?_eq_getElem hi]
  exact ⟨by simp; omega, by simp; omega⟩

theorem sum_fin' (v : Nat → Nat) (k : Nat) (hk : k < 16) (hv : ∀ r, r < k + 1 → v r ≤ 1) : wrap64 ((sumN v k : Int) + wrap64 ((v k : Int) * 2 ^ k)) = (sumN v (k + 1) : Int) := by
  rw [w64, w64]
  obtain ⟨s1, s2, s3, _⟩ := sum_step v k hk hv
  rw [s1, s2]
  exact wrap64_small (by omega) (by omega)

end Go.Proofs.Ytbdhlokbpbiijaa

/- H1:
  A list turned into a table of sixteen places. -/
namespace Go.Proofs.Ytbdhlokbpbiijaa
open Go.RowKit

theorem size1 : (Try.prog.info? 2).map (·.size) = some 1 := by kernel_rfl
theorem size16 : (Try.prog.info? 100).map (·.size) = some 16 := by kernel_rfl
theorem under16 : Try.prog.underlying 100 = some (.array 16 2) := by kernel_rfl

/-- The conversion of a slice that is long enough. -/
theorem wpList_toArray {P : Program} {ops : Array Oper} {rest : List Oper} {o : Oper} {a : Act} {w : World} {Q : Exit → Act → World → Prop} (hgd : o.guard = none) (arr : TypeId) (x : Operand) (ho : o.op = .sliceToArrayPointer arr x)
    (n : Nat) (e : TypeId) (hu : P.underlying arr = some (.array n e)) (ad : Option Addr) (len cap : Nat) (hx : a.eval x = .slice ad len cap) (hn : n ≤ len)
    (h : wpList P ops Q rest (a.put o.dst (.pointer ad)) w) : wpList P ops Q (o :: rest) a w := by
  refine wpList_plain hgd fun K hK => ?_
  unfold Oper.wp
  simp [execOp, ho, hx, run_arrayAt w arr e n ad len cap hu hn, Result.andThen]
  exact hK _ _ h

def zeros16 : List Value := List.replicate 16 (.int .i64 0)

theorem row16 {w : World} {base g : Nat} (h : w.ownsRow base 2 1 (.slice (some ⟨g, 0, none⟩) 16 16) 16 (madeCells (Value.int .i64 0).cells (16 * 1)).toList) : w.heap[g]? = some (.cells zeros16.toArray 2 (0, 0)) := by
  obtain ⟨_, ⟨h0, _⟩ | ⟨g', cap, cur, h1, _, h2, _, _, h3, h4⟩⟩ := h
  · cases h0
  · cases h1
    rw [h2]
    have e : cur.toList.take (16 * 1) = cur.toList := List.take_of_length_le (by simp [h3])
    rw [e] at h4
    have e2 : cur = zeros16.toArray := by
      apply Array.toList_inj.1
      rw [h4]
      kernel_rfl
    rw [e2]

set_option maxRecDepth 100000 in
set_option maxHeartbeats 1000000 in
theorem tableOf_any {g0 cap n : Nat} {xs : List Int} (hn : n ≤ 16) (w : World) (hx : (ints xs).length = n) (hc : Hid (∀ j u, (ints xs)[j]? = some u → w.cell? ((⟨g0, 0, none⟩ : Addr).add j) = some u)) :
    Calls Try.prog 93 #[.slice (some ⟨g0, 0, none⟩) n cap] w fun e w' => e = .returned (.agg ((ints xs) ++ List.replicate (16 - n) (Value.int .i64 0)).toArray) ∧ Below w.heap.size w w' := by
  obtain ⟨i0, hi, hz0, hz1, hzb⟩ := info_parts infoI
  obtain ⟨W1, hW1⟩ : ∃ W1, w.alloc (.cells #[.int .i64 0, .int .i64 0, .int .i64 0, .int .i64 0, .int .i64 0, .int .i64 0, .int .i64 0, .int .i64 0, .int .i64 0, .int .i64 0, .int .i64 0, .int .i64 0, .int .i64 0, .int .i64 0, .int .i64 0, .int .i64 0] 100) = W1 := ⟨_, rfl⟩
  have hs1 : W1.heap.size = w.heap.size + 1 := by rw [← hW1]; simp
  have hz : W1.heap[w.heap.size]? = some (.cells zeros16.toArray 100 (0, 0)) := by rw [← hW1]; exact heap_alloc_new _ _
  have hB1 : Below w.heap.size w W1 := by rw [← hW1]; exact bnew _ _
  have hc1 : Hid (∀ j u, (ints xs)[j]? = some u → W1.cell? ((⟨g0, 0, none⟩ : Addr).add j) = some u) := Lib.hid fun j u h => kc hB1 (hc.out j u h)
  have hlen : (ints xs ++ List.replicate (16 - n) (Value.int .i64 0)).length = 16 := by simp [hx]; omega
  have hint : ∀ v ∈ ints xs, v.oneCell' = true := by
    intro v hv
    obtain ⟨z, _, rfl⟩ := List.mem_map.1 hv
    rfl
  have hmin : (ints xs).length = Nat.min n 16 := by rw [hx]; exact (Nat.min_eq_left hn).symm
  have hfit : 0 + (ints xs).length ≤ zeros16.length := by rw [Nat.zero_add, hx]; exact hn
  have hall : (ints xs ++ List.replicate (16 - n) (Value.int .i64 0)).toArray.all (·.oneCell') = true := by
    rw [List.all_toArray, List.all_append, List.all_eq_true.2 hint, List.all_replicate]
    simp [Value.oneCell']
  have hold : zeros16.toArray.size = (ints xs ++ List.replicate (16 - n) (Value.int .i64 0)).toArray.size := by
    rw [List.size_toArray, List.size_toArray]
    exact (show zeros16.length = 16 from rfl).trans hlen.symm
  have hspl : splice zeros16 0 (ints xs) = ints xs ++ List.replicate (16 - n) (Value.int .i64 0) := by
    unfold splice zeros16
    rw [List.take_zero, List.nil_append, Nat.zero_add, hx, List.drop_replicate]
  go_enter Try.func93, Try.ntmps93
  go_wp2_with (first
    | (at_make; refine wpList_make_full _ rfl _ _ 27 rfl W1.heap.size 2 i0 (.int .i64 0) 1 Try.underlying27 hi hz0 hz1 .i64 .i64 _ _ 16 rfl rfl rfl rfl (by rw [hzb]; decide) (by decide) (Nat.le_refl _) ?_; intro w1 hown1 hgrow1
       rw [hs1] at hown1
       have hg1 := row16 hown1
       have hb1 : Below (w.heap.size + 1) W1 w1 := by rw [← hs1]; exact (Below.refl _ _).grown hgrow1 (Nat.le_refl _) (fun j e => by cases e)
       have hcc : ∀ j u, (ints xs)[j]? = some u → w1.cell? ((⟨g0, 0, none⟩ : Addr).add j) = some u := fun j u h => kc (hs1 ▸ hb1) (hc1.out j u h)
       clear hown1 hgrow1)
    | (refine wpList_copy_splice rfl (.tmp 5) (.tmp 6) 27 27 rfl 2 Try.underlying27 size1 _ _ _ _ _ _ rfl rfl (w.heap.size + 1) 0 zeros16 2 hg1 (ints xs) hmin (fun _ => ⟨rfl, _, rfl, hcc⟩) hfit hint (w.heap.size + 1) W1 hb1 (Nat.le_refl _) ?_; intro w2 hw2 hb2
       rw [hspl] at hw2
       have hz2 : w2.heap[w.heap.size]? = some (.cells zeros16.toArray 100 (0, 0)) := (hb2.block _ (Nat.lt_succ_self _)).trans hz)
    | (refine wpList_toArray rfl 100 (.tmp 8) rfl 16 2 under16 _ 16 16 rfl (Nat.le_refl _) ?_)
    | (refine wpList_load_row rfl 100 (.tmp 9) rfl (w.heap.size + 1) rfl 2 (ints xs ++ List.replicate (16 - n) (Value.int .i64 0)).toArray (0, 0) _ hw2.out under16 rfl (by rw [size16, List.size_toArray, hlen]) ?_)
    | (refine wpList_store_row rfl 100 (.tmp 2) (.tmp 10) rfl w.heap.size (ints xs ++ List.replicate (16 - n) (Value.int .i64 0)).toArray rfl rfl 100 zeros16.toArray hz2 (by rw [size16, List.size_toArray, hlen]) hold hall ?_))
  have hb2' : Below W1.heap.size W1 w2 := by rw [hs1]; exact hb2
  have hb3 : Below w.heap.size w w2 := bthen hB1 hb2'
  refine bodyPost_ret (results_cell_row Try.results93 _ _ w.heap.size 100 (ints xs ++ List.replicate (16 - n) (Value.int .i64 0)).toArray (0, 0) _ rfl (setRow_heap w2 w.heap.size _ _ _ _ hz2) under16 rfl (by rw [size16, List.size_toArray, hlen])) rfl ⟨rfl, below_setRow hb3 (Nat.le_refl _) _⟩
end Go.Proofs.Ytbdhlokbpbiijaa

/- L5:
  ValueAt in both packages. -/
namespace Go.Proofs.Ytbdhlokbpbiijaa
open Go.RowKit
set_option linter.unusedVariables false

theorem Owns.slice {W : World} {base : Nat} {s : Value} {xs : List Int} (h : Owns W base s xs) : ∃ a cap, s = .slice a xs.length cap := by
  rcases h.shape with ⟨rfl, a, cap, rfl⟩ | ⟨_, g, cap, rfl, _⟩
  · exact ⟨_, _, rfl⟩
  · exact ⟨_, _, rfl⟩

/-- The boxes of ValueAt. -/
theorem valueBoxes (n b : Int) (a : Option Addr) (len cap : Nat) (w : World) : ∃ W1, (w.alloc (.cells #[.int .i64 n, .int .i64 b] 25)).alloc (.cells #[.slice a len cap] 27) = W1 ∧ W1.cell? ⟨w.heap.size, 0, none⟩ = some (.int .i64 n) ∧ W1.cell? ⟨w.heap.size, 1, none⟩ = some (.int .i64 b) ∧
    W1.cell? ⟨w.heap.size + 1, 0, none⟩ = some (.slice a len cap) ∧ Below w.heap.size w W1 :=
  ⟨_, rfl, by simp [go_sem], by simp [go_sem], by simp [go_sem], balloc (bnew _ _) _⟩

/-- The box of the model's ValueAt. -/
theorem valueBox (n b : Int) (w : World) : ∃ W1, w.alloc (.cells #[.int .i64 n, .int .i64 b] 25) = W1 ∧ W1.cell? ⟨w.heap.size, 0, none⟩ = some (.int .i64 n) ∧ W1.cell? ⟨w.heap.size, 1, none⟩ = some (.int .i64 b) ∧ Below w.heap.size w W1 :=
  ⟨_, rfl, by simp [go_sem], by simp [go_sem], bnew _ _⟩

end Go.Proofs.Ytbdhlokbpbiijaa

/- H2:
  FuncOf in both packages. -/
namespace Go.Proofs.Ytbdhlokbpbiijaa
open Go.RowKit
set_option linter.unusedVariables false

set_option maxHeartbeats 400000 in
theorem FuncOf1_any (b r : Nat) (x : Int) (hr : r < 16) (w : World) (hc : w.cell? ⟨b, r, none⟩ = some (.int .i64 x)) :
    Calls Try.prog 95 #[.int .i64 (r : Int), .pointer (some ⟨b, 0, none⟩)] w fun e w' => e = .returned (.int .i64 x) ∧ Below w.heap.size w w' := by
  go_enter Try.func95, Try.ntmps95
  go_wp2
  go_ret
  exact ⟨rfl, Below.refl _ _⟩

/-- The box of the answer. -/
theorem ofBox (w : World) : ∃ W1, w.alloc (.cells #[.int .i64 0, .int .i64 0] 25) = W1 ∧ W1.cell? ⟨w.heap.size, 0, none⟩ = some (.int .i64 0) ∧ W1.cell? ⟨w.heap.size, 1, none⟩ = some (.int .i64 0) ∧
    W1.frozen? ⟨w.heap.size, 0, none⟩ = false ∧ W1.frozen? ⟨w.heap.size, 1, none⟩ = false ∧ Below w.heap.size w W1 ∧ W1.heap.size = w.heap.size + 1 :=
  ⟨_, rfl, by simp [go_sem], by simp [go_sem], by simp [go_sem], by simp [go_sem], bnew _ _, by simp⟩

set_option maxRecDepth 100000 in
set_option maxHeartbeats 1000000 in
theorem implFuncOf_no {base : Nat} {s : Value} {xs : List Int} (hl : xs.length ≤ 1048576) {n : Int} (h1 : inB n 0 4 = false) (w : World) (ho : Owns w base s xs) :
    Calls Try.prog 15 #[.int .i64 n, s] w fun e w' => e = .returned (.tuple #[.agg #[.int .i64 0, .int .i64 0], .int .i64 2]) ∧ Below w.heap.size w w' := by
  obtain ⟨a, cap, rfl⟩ := ho.slice
  obtain ⟨W1, hW1, p0, p1, f0, f1, hB, hs1⟩ := ofBox w
  have O1 := Lib.hid (ho.below hB)
  have hL := Lib.hid (rfl : xs.length = xs.length)
  go_enter Try.func15, Try.ntmps15
  go_wp2_with (first
    | (go_at_call 90; refine (isArity_is h1 _).mono ?_; rintro e w' ⟨rfl, rfl⟩))
  exact bodyPost_ret (v := .tuple #[.agg #[.int .i64 0, .int .i64 0], .int .i64 2]) (by simp [results, Try.results15, go_sem, p0, p1]) rfl ⟨rfl, (hB.setCell (p := ⟨w.heap.size, 0, none⟩) (by simp) _).setCell (p := ⟨w.heap.size, 1, none⟩) (by simp) _⟩

set_option maxRecDepth 100000 in
set_option maxHeartbeats 1000000 in
theorem implFuncOf_len {base : Nat} {s : Value} {xs : List Int} (hl : xs.length ≤ 1048576) {n : Int} {R : Nat} (h0 : 0 ≤ n) (h4 : n ≤ 4) (h1 : inB n 0 4 = true) (r0 : 0 < R) (r16 : R ≤ 16) (hR : Hid (rowsN n = (R : Int))) (hne : ((xs.length : Int) != (R : Int)) = true) (w : World) (ho : Owns w base s xs) :
    Calls Try.prog 15 #[.int .i64 n, s] w fun e w' => e = .returned (.tuple #[.agg #[.int .i64 0, .int .i64 0], .int .i64 2]) ∧ Below w.heap.size w w' := by
  obtain ⟨a, cap, rfl⟩ := ho.slice
  obtain ⟨W1, hW1, p0, p1, f0, f1, hB, hs1⟩ := ofBox w
  have O1 := Lib.hid (ho.below hB)
  have hL := Lib.hid (rfl : xs.length = xs.length)
  go_enter Try.func15, Try.ntmps15
  go_wp2_with (first
    | (go_at_call 90; refine (isArity_is h1 _).mono ?_; rintro e w' ⟨rfl, rfl⟩)
    | (go_at_call 91; refine (rowCount_is h0 h4 hR _).mono ?_; rintro e w' ⟨rfl, rfl⟩))
  exact bodyPost_ret (v := .tuple #[.agg #[.int .i64 0, .int .i64 0], .int .i64 2]) (by simp [results, Try.results15, go_sem, p0, p1]) rfl ⟨rfl, (hB.setCell (p := ⟨w.heap.size, 0, none⟩) (by simp) _).setCell (p := ⟨w.heap.size, 1, none⟩) (by simp) _⟩

set_option maxRecDepth 100000 in
set_option maxHeartbeats 1000000 in
theorem implFuncOf_dig {base : Nat} {s : Value} {xs : List Int} (hl : xs.length ≤ 1048576) {n : Int} {R : Nat} (h0 : 0 ≤ n) (h4 : n ≤ 4) (h1 : inB n 0 4 = true) (r0 : 0 < R) (r16 : R ≤ 16) (hR : Hid (rowsN n = (R : Int))) (hne : ((xs.length : Int) != (R : Int)) = false) (hd : (xs.all fun v => inB v 0 1) = false) (w : World) (ho : Owns w base s xs) :
    Calls Try.prog 15 #[.int .i64 n, s] w fun e w' => e = .returned (.tuple #[.agg #[.int .i64 0, .int .i64 0], .int .i64 2]) ∧ Below w.heap.size w w' := by
  obtain ⟨a, cap, rfl⟩ := ho.slice
  obtain ⟨W1, hW1, p0, p1, f0, f1, hB, hs1⟩ := ofBox w
  have O1 := Lib.hid (ho.below hB)
  have hL := Lib.hid (rfl : xs.length = xs.length)
  go_enter Try.func15, Try.ntmps15
  go_wp2_with (first
    | (go_at_call 90; refine (isArity_is h1 _).mono ?_; rintro e w' ⟨rfl, rfl⟩)
    | (go_at_call 91; refine (rowCount_is h0 h4 hR _).mono ?_; rintro e w' ⟨rfl, rfl⟩)
    | (go_at_call 92; refine (areDigits_any hl _ O1.out).mono ?_; rintro e w' ⟨rfl, rfl⟩))
  exact bodyPost_ret (v := .tuple #[.agg #[.int .i64 0, .int .i64 0], .int .i64 2]) (by simp [results, Try.results15, go_sem, p0, p1]) rfl ⟨rfl, (hB.setCell (p := ⟨w.heap.size, 0, none⟩) (by simp) _).setCell (p := ⟨w.heap.size, 1, none⟩) (by simp) _⟩

end Go.Proofs.Ytbdhlokbpbiijaa

/- H3:
  FuncOf in both packages, at lists of digits. -/
namespace Go.Proofs.Ytbdhlokbpbiijaa
open Go.RowKit
set_option linter.unusedVariables false

theorem digs_get {xs : List Int} (hd : (xs.all fun v => inB v 0 1) = true) (ys : List Value) (r : Nat) (hr : r < xs.length) : (ints xs ++ ys)[r]? = some (.int .i64 (dig xs r : Int)) := by
  have h := (dig_ok hd r hr).2
  rw [List.getElem?_eq_getElem hr] at h
  rw [List.getElem?_append_left (by simpa [ints] using hr)]
  simp [ints, hr]
  simpa using h

/-- The box of the table, and what stands in it when it is stored. -/
theorem tableBox (w : World) (cells : List Value) (hl : cells.length = 16) (h1 : cells.toArray.all (·.oneCell') = true) :
    ∃ W4, w.alloc (.cells #[.int .i64 0, .int .i64 0, .int .i64 0, .int .i64 0, .int .i64 0, .int .i64 0, .int .i64 0, .int .i64 0, .int .i64 0, .int .i64 0, .int .i64 0, .int .i64 0, .int .i64 0, .int .i64 0, .int .i64 0, .int .i64 0] 100) = W4 ∧ Below w.heap.size w W4 ∧ W4.heap[w.heap.size]? = some (.cells zeros16.toArray 100 (0, 0)) ∧ W4.heap.size = w.heap.size + 1 :=
  ⟨_, rfl, bnew _ _, heap_alloc_new _ _, by simp⟩

theorem tableStored {w W4 : World} (cells : List Value) (hb : Below w.heap.size w W4) (hg : W4.heap[w.heap.size]? = some (.cells zeros16.toArray 100 (0, 0))) :
    ∃ W5, W4.setRow w.heap.size cells.toArray = W5 ∧ Below w.heap.size w W5 ∧ ∀ r v, cells[r]? = some v → W5.cell? ⟨w.heap.size, r, none⟩ = some v := by
  refine ⟨_, rfl, below_setRow hb (Nat.le_refl _) _, fun r v h => ?_⟩
  have hs := setRow_heap W4 w.heap.size _ cells.toArray _ _ hg
  simp [World.cell?, hs, h]

set_option maxRecDepth 100000 in
set_option maxHeartbeats 2000000 in
theorem implFuncOf_yes {base : Nat} {s : Value} {xs : List Int} {n : Int} {R : Nat} (h0 : 0 ≤ n) (h4 : n ≤ 4) (h1 : inB n 0 4 = true) (r0 : 0 < R) (r16 : R ≤ 16) (hR : Hid (rowsN n = (R : Int)))
    (hx : xs.length = R) (hd : (xs.all fun v => inB v 0 1) = true) (w : World) (ho : Owns w base s xs) :
    Calls Try.prog 15 #[.int .i64 n, s] w fun e w' => e = .returned (.tuple #[.agg #[.int .i64 n, .int .i64 (sumN (dig xs) R : Int)], .int .i64 0]) ∧ Below w.heap.size w w' := by
  have hdi := Lib.hid (dig_ok hd)
  rcases ho.shape with ⟨rfl, _⟩ | ⟨hn, g, cap, rfl, hbg, hg, hcc, hf⟩
  · simp at hx; omega
  subst hx
  have hne : ((xs.length : Int) != (xs.length : Int)) = false := by simp
  have hcell : Hid (∀ j u, (ints xs)[j]? = some u → w.cell? ((⟨g, 0, none⟩ : Addr).add j) = some u) := Lib.hid fun j u h => by
    have hj : j < xs.length := by
      have := (List.getElem?_eq_some_iff.1 h).1
      simpa [ints] using this
    have e : Addr.add ⟨g, 0, none⟩ j = ⟨g, j, none⟩ := by cases j <;> simp [Addr.add]
    rw [e, hcc.out j hj, ← h, List.getElem?_eq_getElem (by simpa [ints] using hj)]
    simp [ints, hj]
  have hlen16 : (ints xs ++ List.replicate (16 - xs.length) (Value.int .i64 0)).length = 16 := by simp [ints]; omega
  have hall : (ints xs ++ List.replicate (16 - xs.length) (Value.int .i64 0)).toArray.all (·.oneCell') = true := by
    rw [List.all_toArray, List.all_append, List.all_replicate]
    simp [Value.oneCell', ints]
  have hold : zeros16.toArray.size = (ints xs ++ List.replicate (16 - xs.length) (Value.int .i64 0)).toArray.size := by
    rw [List.size_toArray, List.size_toArray]
    exact (show zeros16.length = 16 from rfl).trans hlen16.symm
  have hsz : (Try.prog.info? 100).map (·.size) = some (ints xs ++ List.replicate (16 - xs.length) (Value.int .i64 0)).toArray.size := by rw [size16, List.size_toArray, hlen16]
  have hget := Lib.hid (digs_get hd (List.replicate (16 - xs.length) (Value.int .i64 0)))
  generalize hcs : ints xs ++ List.replicate (16 - xs.length) (Value.int .i64 0) = cs at hlen16 hall hold hsz hget
  have hT : Hid (∀ w0 : World, Below w.heap.size w w0 → Calls Try.prog 93 #[.slice (some ⟨g, 0, none⟩) xs.length cap] w0 fun e w' => e = .returned (.agg cs.toArray) ∧ Below w0.heap.size w0 w') :=
    Lib.hid fun w0 hw0 => hcs ▸ tableOf_any (xs := xs) r16 w0 (by simp [ints]) (Lib.hid fun j u h => kc hw0 (hcell.out j u h))
  clear hcs hcell hcc hf hg
  obtain ⟨W1, hW1, p0, p1, f0, f1, hB, hs1⟩ := ofBox w
  have O1 := Lib.hid (ho.below hB)
  have HD := Lib.hid hd
  clear hd ho
  have hL := Lib.hid (rfl : xs.length = xs.length)
  go_enter Try.func15, Try.ntmps15
  go_wp2_with (first
    | (go_at_call 90; refine (isArity_is h1 _).mono ?_; rintro e w' ⟨rfl, rfl⟩)
    | (go_at_call 91; refine (rowCount_is h0 h4 hR _).mono ?_; rintro e w' ⟨rfl, rfl⟩)
    | (go_at_call 92; refine (areDigits_any (by omega) _ O1.out).mono ?_; rintro e w' ⟨he, rfl⟩; rw [HD.out] at he; subst he)
    | (go_at_call 93; refine (hT.out _ hB).mono ?_; rintro e w3 ⟨rfl, hb3⟩
       have q0 := kc hb3 p0
       have q1 := kc hb3 p1
       have k0 := kf hb3 p0 f0
       have k1 := kf hb3 p1 f1
       have hB3 := bthen hB hb3
       obtain ⟨W4, hW4, hb4, hg4, hs4⟩ := tableBox w3 cs hlen16 hall
       obtain ⟨W5, hW5, hb5, hc5⟩ := tableStored cs hb4 hg4
       have HC5 := Lib.hid hc5
       have q50 := kc hb5 q0
       have q51 := kc hb5 q1
       have k50 := kf hb5 q0 k0
       have k51 := kf hb5 q1 k1
       have hB5 := bthen hB3 hb5
       clear hc5 p0 p1 f0 f1)
    | (refine wpList_store_row rfl 100 (.tmp 6) (.tmp 24) rfl w3.heap.size cs.toArray rfl rfl 100 zeros16.toArray hg4 hsz hold hall ?_; rw [hW5])
    | (go_at_call 94
       have F := Lib.hid (funcByRows_any n h0 h4 xs.length r0 r16 hR 95 #[.pointer (some ⟨w3.heap.size, 0, none⟩)] (enters_of Try.func95 (by kernel_rfl) rfl)
         (dig xs) (fun r hr => (hdi.out r hr).1) W5 (Lib.hid fun W hW r hr => FuncOf1_any w3.heap.size r (dig xs r : Int) (by omega) W (kc hW (HC5.out r _ (hget.out r hr)))))
       rw [orBits_sum r0 _ (fun r hr => (hdi.out r hr).1)] at F
       refine F.out.mono ?_; rintro e w6 ⟨rfl, hb6⟩
       have e0 := kc hb6 q50
       have e1 := kc hb6 q51
       have j0 := kf hb6 q50 k50
       have j1 := kf hb6 q51 k51
       have hB6 := bthen hB5 hb6))
  exact bodyPost_ret (v := .tuple #[.agg #[.int .i64 n, .int .i64 (sumN (dig xs) xs.length : Int)], .int .i64 0]) (by simp [results, Try.results15, go_sem, e0, e1]) rfl ⟨rfl, (hB6.setCell (p := ⟨w.heap.size, 0, none⟩) (by simp) _).setCell (p := ⟨w.heap.size, 1, none⟩) (by simp) _⟩

end Go.Proofs.Ytbdhlokbpbiijaa

/- Z7:
  PolynomialOf and FuncOfPolynomial in both packages. -/
namespace Go.Proofs.Ytbdhlokbpbiijaa
open Go.RowKit
set_option linter.unusedVariables false
set_option linter.unusedSimpArgs false

theorem polFun_bit {x R : Nat} (r : Nat) (hr : r < R) : bitN (sumN (polV x) R) r = polV x r := bitN_sum (polV x) R (fun r _ => polV_le _ _) r hr
theorem polFun_list {x R : Nat} : natL (bitN (sumN (polV x) R)) R = natL (polV x) R := natL_congr fun r hr => polFun_bit r hr

theorem digs_list {xs : List Int} {R : Nat} (hx : xs.length = R) (hd : (xs.all fun v => inB v 0 1) = true) : xs = natL (bitN (sumN (dig xs) R)) R := by
  apply List.ext_getElem
  · rw [natL_len, hx]
  · intro j h1 h2
    have h := dig_ok hd j h1
    have hb := bitN_sum (dig xs) R (fun r hr => (dig_ok hd r (by omega)).1) j (by omega)
    simp only [natL, List.getElem_map, List.getElem_range, hb]
    rw [← h.2, List.getElem?_eq_getElem h1]
    rfl
theorem digs_fok {n : Int} {R : Nat} {xs : List Int} (h0 : 0 ≤ n) (h4 : n ≤ 4) (r0 : 0 < R) (r16 : R ≤ 16) (hR : Hid (rowsN n = (R : Int))) (he : R = 2 ^ n.toNat) (hx : xs.length = R) (hd : (xs.all fun v => inB v 0 1) = true) : FOk n (sumN (dig xs) R) R := by
  have h := sumN_lt (dig xs) R (fun r hr => (dig_ok hd r (by omega)).1)
  have h16 : (2 : Nat) ^ R ≤ 2 ^ 16 := Nat.pow_le_pow_right (by decide) r16
  exact ⟨h0, h4, r0, r16, hR, by omega, he, h⟩

end Go.Proofs.Ytbdhlokbpbiijaa

/- Z2:
  The affine part as plain words. -/
namespace Go.Proofs.Ytbdhlokbpbiijaa
open Go.RowKit
set_option linter.unusedVariables false
set_option linter.unusedSimpArgs false

/-- A polynomial with the numbers at rows of a size of more than 1 left out. -/
def lowV (c : Nat → Nat) (w : Nat) : Nat := if 1 < sizeN w then 0 else c w
theorem subs_all : (List.range 16).map subsOf = [[0], [0, 1], [0, 2], [0, 1, 2, 3], [0, 4], [0, 1, 4, 5], [0, 2, 4, 6], [0, 1, 2, 3, 4, 5, 6, 7], [0, 8], [0, 1, 8, 9], [0, 2, 8, 10], [0, 1, 2, 3, 8, 9, 10, 11], [0, 4, 8, 12], [0, 1, 4, 5, 8, 9, 12, 13], [0, 2, 4, 6, 8, 10, 12, 14], [0, 1, 2, 3, 4, 5, 6, 7, 8, 9, 10, 11, 12, 13, 14, 15]] := by decide +kernel
theorem subs_at (r : Nat) (hr : r < 16) : some (subsOf r) = ([[0], [0, 1], [0, 2], [0, 1, 2, 3], [0, 4], [0, 1, 4, 5], [0, 2, 4, 6], [0, 1, 2, 3, 4, 5, 6, 7], [0, 8], [0, 1, 8, 9], [0, 2, 8, 10], [0, 1, 2, 3, 8, 9, 10, 11], [0, 4, 8, 12], [0, 1, 4, 5, 8, 9, 12, 13], [0, 2, 4, 6, 8, 10, 12, 14], [0, 1, 2, 3, 4, 5, 6, 7, 8, 9, 10, 11, 12, 13, 14, 15]] : List (List Nat))[r]? := by
  rw [← subs_all]; simp [hr]
theorem low_low (x w : Nat) (hw : w < 16) : lowV (fun u => par (bitN x) (subsOf u)) w = if w = 0 then bitN x 0 else if w = 1 ∨ w = 2 ∨ w = 4 ∨ w = 8 then (bitN x 0 + bitN x w) % 2 else 0 := by
  have hb := bitN_le x 0
  have h := subs_at w hw
  rcases (show w = 0 ∨ w = 1 ∨ w = 2 ∨ w = 3 ∨ w = 4 ∨ w = 5 ∨ w = 6 ∨ w = 7 ∨ w = 8 ∨ w = 9 ∨ w = 10 ∨ w = 11 ∨ w = 12 ∨ w = 13 ∨ w = 14 ∨ w = 15 by omega) with rfl | rfl | rfl | rfl | rfl | rfl | rfl | rfl | rfl | rfl | rfl | rfl | rfl | rfl | rfl | rfl <;>
    simp only [List.getElem?_cons_zero, List.getElem?_cons_succ, Option.some.injEq] at h <;> simp [lowV, sizeN, h, par] <;> omega
theorem aff_low (x : Nat) {n : Nat} (hn : n < 5) (r : Nat) (hr : r < 2 ^ n) : affV (difN x) (bitN x 0) r n = par (lowV fun u => par (bitN x) (subsOf u)) (subsOf r) := by
  have hb := bitN_le x 0
  have h16 : r < 16 := by
    have : (2 : Nat) ^ n ≤ 2 ^ 4 := Nat.pow_le_pow_right (by decide) (by omega)
    omega
  have h := subs_at r h16
  have low := low_low x
  generalize lowV (fun u => par (bitN x) (subsOf u)) = L at low ⊢
  have h0 := low 0 (by decide)
  have h1 := low 1 (by decide)
  have h2 := low 2 (by decide)
  have h3 := low 3 (by decide)
  have h4 := low 4 (by decide)
  have h5 := low 5 (by decide)
  have h6 := low 6 (by decide)
  have h7 := low 7 (by decide)
  have h8 := low 8 (by decide)
  have h9 := low 9 (by decide)
  have h10 := low 10 (by decide)
  have h11 := low 11 (by decide)
  have h12 := low 12 (by decide)
  have h13 := low 13 (by decide)
  have h14 := low 14 (by decide)
  have h15 := low 15 (by decide)
  simp at h0 h1 h2 h3 h4 h5 h6 h7 h8 h9 h10 h11 h12 h13 h14 h15
  clear low
  rcases (show n = 0 ∨ n = 1 ∨ n = 2 ∨ n = 3 ∨ n = 4 by omega) with rfl | rfl | rfl | rfl | rfl
  all_goals rcases (show r = 0 ∨ r = 1 ∨ r = 2 ∨ r = 3 ∨ r = 4 ∨ r = 5 ∨ r = 6 ∨ r = 7 ∨ r = 8 ∨ r = 9 ∨ r = 10 ∨ r = 11 ∨ r = 12 ∨ r = 13 ∨ r = 14 ∨ r = 15 by omega) with rfl | rfl | rfl | rfl | rfl | rfl | rfl | rfl | rfl | rfl | rfl | rfl | rfl | rfl | rfl | rfl
  all_goals first
    | (exfalso; revert hr; decide)
    | (simp only [List.getElem?_cons_zero, List.getElem?_cons_succ, Option.some.injEq] at h; rw [h]; simp [par, affV, difN, xorN, h0, h1, h2, h3, h4, h5, h6, h7, h8, h9, h10, h11, h12, h13, h14, h15, show ∀ i, bitN 0 i = 0 from fun i => by simp [bitN], show ∀ a b, bitN a b = a / 2 ^ b % 2 from fun _ _ => rfl] <;> omega)
end Go.Proofs.Ytbdhlokbpbiijaa

/- Z9:
  AffinePart in both packages. -/
namespace Go.Proofs.Ytbdhlokbpbiijaa
open Go.RowKit
set_option linter.unusedVariables false
set_option linter.unusedSimpArgs false

/-- The function of the affine part. -/
def affP (x R : Nat) : Nat := sumN (fun r => par (lowV (polV x)) (subsOf r)) R
theorem lowV_le (x r : Nat) : lowV (polV x) r ≤ 1 := by have := polV_le x r; unfold lowV; split <;> omega
theorem aff_sum {n : Int} {x R : Nat} (ok : FOk n x R) : affN n.toNat x = affP x R := by
  unfold affN affP
  rw [← ok.he]
  exact sumN_congr R fun r hr => aff_low x ok.n5 r (by rw [← ok.he]; exact hr)
theorem natL_set (v : Nat → Nat) (R k u : Nat) : (ints (natL v R)).set k (.int .i64 (u : Int)) = ints (natL (fun j => if j = k then u else v j) R) := by
  rw [ints_natL, ints_natL]
  apply List.ext_getElem
  · simp
  · intro j h1 h2
    simp only [List.getElem_set, List.getElem_map, List.getElem_range]
    by_cases e : k = j
    · subst e; simp
    · simp [e, Ne.symm e]
/-- The numbers below k left out where the size is more than 1. -/
def lowTo (x k : Nat) (j : Nat) : Nat := if j < k then lowV (polV x) j else polV x j
theorem lowTo_big {x k R : Nat} (h : 1 < sizeN k) : natL (fun j => if j = k then 0 else lowTo x k j) R = natL (lowTo x (k + 1)) R := by
  refine natL_congr fun j _ => ?_
  simp only [lowTo]
  by_cases e : j = k
  · subst e; rw [if_pos rfl, if_pos (by omega), lowV, if_pos h]
  · rw [if_neg e]
    by_cases h2 : j < k
    · rw [if_pos h2, if_pos (by omega)]
    · rw [if_neg h2, if_neg (by omega)]
theorem lowTo_small {x k R : Nat} (h : ¬ 1 < sizeN k) : natL (lowTo x k) R = natL (lowTo x (k + 1)) R := by
  refine natL_congr fun j _ => ?_
  simp only [lowTo]
  by_cases e : j = k
  · subst e; rw [if_neg (by omega), if_pos (by omega), lowV, if_neg h]
  · by_cases h2 : j < k
    · rw [if_pos h2, if_pos (by omega)]
    · rw [if_neg h2, if_neg (by omega)]
theorem lowTo_all {x R : Nat} : natL (lowTo x R) R = natL (lowV (polV x)) R := natL_congr fun j hj => by simp only [lowTo]; rw [if_pos hj]
theorem lowTo_zero {x R : Nat} : natL (lowTo x 0) R = natL (polV x) R := natL_congr fun j hj => by simp only [lowTo]; rw [if_neg (by omega)]

/-- The cells of a list of small numbers of the call's own. -/
theorem owned_cells {W : World} {base R : Nat} {v : Nat → Nat} {s : Value} (r0 : 0 < R) (h : Owns W base s (natL v R)) : ∃ g cap, s = .slice (some ⟨g, 0, none⟩) R cap ∧ g < W.heap.size ∧ Hid (∀ j, j < R → W.cell? ⟨g, j, none⟩ = some (.int .i64 (v j : Int))) := by
  have h2 : W.ownsRow base 2 1 s R (valsN v R) := by
    have := h
    unfold Owns at this
    rw [natL_len, ints_natL] at this
    exact this
  exact owned_slice r0 h2

end Go.Proofs.Ytbdhlokbpbiijaa

/- MO7:
  TransversalsOf in both packages. -/
namespace Go.Proofs.Ytbdhlokbpbiijaa
open Go.RowKit
set_option linter.unusedVariables false
set_option linter.unusedSimpArgs false

theorem dual_ok {n : Int} {x R : Nat} (ok : FOk n x R) : FOk n (dualX x R) R := by
  have h := sumN_lt (fun r => 1 - bitN x (R - 1 - r)) R (fun r _ => by omega)
  have h16 : (2 : Nat) ^ R ≤ 2 ^ 16 := Nat.pow_le_pow_right (by decide) ok.r16
  exact ⟨ok.h0, ok.h4, ok.r0, ok.r16, ok.hR, by unfold dualX; omega, ok.he, h⟩

/-- A list of the call's own, opened. -/
theorem owns_open {W : World} {base : Nat} {s : Value} {l : List Nat} (h : Owns W base s (nL l)) :
    ∃ a cap, s = .slice a l.length cap ∧ Hid (∀ j, j < l.length → ∃ g, a = some ⟨g, 0, none⟩ ∧ g < W.heap.size ∧ W.cell? ⟨g, j, none⟩ = some (.int .i64 ((l[j]?.getD 0 : Nat) : Int))) := by
  rcases h.shape with ⟨he, a, cap, rfl⟩ | ⟨hn, g, cap, rfl, hbg, hg, hc, hf⟩
  · have e0 : l = [] := by cases l with
      | nil => rfl
      | cons a l => cases he
    subst e0
    exact ⟨a, cap, rfl, Lib.hid fun j hj => absurd hj (Nat.not_lt_zero _)⟩
  · rw [nL_length] at hc ⊢
    exact ⟨some ⟨g, 0, none⟩, cap, rfl, Lib.hid fun j hj => ⟨g, rfl, hg, by rw [hc.out j hj, nL_get l j hj]⟩⟩

theorem meets_succ {r : Nat} {l : List Nat} {i : Nat} (hi : i < l.length) : meets r (l.take (i + 1)) = if (r &&& (l[i]?.getD 0) == 0) = true then 0 else meets r (l.take i) := by
  unfold meets
  rw [List.take_succ_eq_append_getElem hi, List.any_append, List.getElem?_eq_getElem hi]
  simp only [List.any_cons, List.any_nil, Bool.or_false, Option.getD_some]
  cases h1 : (List.any (List.take i l) fun o => r &&& o == 0) <;> by_cases h2 : (r &&& l[i] == 0) = true <;> simp_all
theorem and_zero {r o : Nat} (hr : r < 62) (ho : o < 62) : (bits .and .i64 (r : Int) (o : Int) == 0) = (r &&& o == 0) := by
  rw [bits_and_i64 r o (by omega) (by omega)]
  exact beq_cast (r &&& o) 0
theorem meets_sum {n x R : Nat} (hn : n < 5) (hR : R = 2 ^ n) (h : cls3 n x R = true) : sumN (fun r => meets r (endsL x R 1 true R)) R = dualX x R := by
  subst hR
  unfold dualX
  refine sumN_congr _ fun r hr => ?_
  rw [meets_dual hn h hr, dualX_bit hr]

end Go.Proofs.Ytbdhlokbpbiijaa

/- MO12:
  FuncOfRows in both packages. -/
namespace Go.Proofs.Ytbdhlokbpbiijaa
open Go.RowKit
set_option linter.unusedVariables false
set_option linter.unusedSimpArgs false

theorem rows_nat {R : Nat} {xs : List Int} (h : rowsB R xs = true) : ∃ l : List Nat, xs = nL l ∧ ∀ o ∈ l, o < R := by
  unfold rowsB at h
  rw [List.all_eq_true] at h
  have hb : ∀ v ∈ xs, 0 ≤ v ∧ v ≤ (R : Int) - 1 := fun v hv => by simpa [inB] using h v hv
  refine ⟨xs.map Int.toNat, ?_, fun o ho => ?_⟩
  · unfold nL
    rw [List.map_map]
    conv => lhs; rw [← List.map_id xs]
    refine List.map_congr_left fun v hv => ?_
    have := (hb v hv).1
    simp; omega
  · obtain ⟨v, hv, rfl⟩ := List.mem_map.1 ho
    have := hb v hv
    omega

theorem abTo_nat {r : Nat} {l : List Nat} {i : Nat} (hi : i < l.length) {b : Bool} (hb : inR r (l[i]?.getD 0) = b) : ((abTo r l (i + 1)).toNat : Int) = if b = true then 1 else ((abTo r l i).toNat : Int) := by
  rw [abTo_succ hi, hb]
  cases b <;> simp

set_option maxRecDepth 100000 in
set_option maxHeartbeats 8000000 in
theorem l07Made_any {n : Int} {R : Nat} (h0 : 0 ≤ n) (h4 : n ≤ 4) (r0 : 0 < R) (r16 : R ≤ 16) (hR : Hid (rowsN n = (R : Int))) {base : Nat} {s : Value} {l : List Nat} (hl : l.length ≤ 1048576) (hm : ∀ o ∈ l, o < 62) (w : World) (ho : Owns w base s (nL l)) :
    Calls Try.prog 175 #[.int .i64 n, s] w fun e w' => e = .returned (.agg #[.int .i64 n, .int .i64 (sumN (madeV l) R : Int)]) ∧ Below w.heap.size w w' := by
  obtain ⟨i0, hi, hz0, hz1, hz2⟩ := info_parts infoI
  have RWS := Lib.hid (fun W => l01Rows_is h0 h4 hR W)
  obtain ⟨a, cap, rfl, HL⟩ := owns_open ho
  have HG := Lib.hid (fun j (hj : j < l.length) => (show l[j]?.getD 0 < 62 by rw [List.getElem?_eq_getElem hj, Option.getD_some]; exact hm _ (List.getElem_mem hj)))
  have HHA := Lib.hid (fun (i j : Nat) (hi : i < 62) (hj : j < 62) (b : Bool) (hb : inR i j = b) W => l03Has_is (x := b) hi hj hb W)
  have HST := Lib.hid (fun r i (hi : i < l.length) b hb => abTo_nat (r := r) hi (b := b) hb)
  have HALL := Lib.hid (fun r => (show ((abTo r l l.length).toNat : Int) = (madeV l r : Int) by rw [abTo_all]; rfl))
  obtain ⟨m, hmm⟩ : ∃ m, l.length = m := ⟨_, rfl⟩
  rw [hmm] at HL HG HST HALL hl ⊢
  clear hmm ho hm
  obtain ⟨W1, hW1, p0, p1, f0, f1, hB, hs1⟩ := ofBox w
  have HS1 := Lib.hid hs1
  have hw1 : w.heap.size < W1.heap.size := by omega
  clear hs1
  go_enter Try.func175, Try.ntmps175
  go_wp2_with fail
  clear hW1
  go_loopw [5, 6] (fun s' i' wr => ∃ k : Nat, k ≤ R ∧ i' = .int .i64 k ∧ Owns wr W1.heap.size s' (natL (madeV l) k) ∧ Below W1.heap.size W1 wr)
    (fun _ i' _ => R - (intOf i').toNat)
  case atStart => exact ⟨0, by omega, rfl, World.ownsRow_lit W1 #[] 0 (Nat.le_refl _) (by decide) rfl, bnew _ _⟩
  case round =>
    obtain ⟨k, hk, rfl, hown, hN⟩ := hrel
    have hsz := hN.size
    by_cases hlt : k < R
    · go_wp2_with (go_at_call 116; refine (RWS.out _).mono ?_; rintro e w' ⟨rfl, rfl⟩)
      go_loop [7, 8] (fun v' i' => ∃ i : Nat, i ≤ m ∧ i' = .int .i64 i ∧ v' = .int .i64 ((abTo k l i).toNat : Int)) (fun _ i' => m - (intOf i').toNat)
      case atStart => exact ⟨0, Nat.zero_le _, rfl, rfl⟩
      case round =>
        obtain ⟨i, hii, rfl, rfl⟩ := hrel
        by_cases hlti : i < m
        · have ho := HG.out i hlti
          have HS := Lib.hid (HST.out k i hlti)
          obtain ⟨g, rfl, hg, hc⟩ := HL.out i hlti
          have hu := kc hN (kc hB hc)
          clear hc
          generalize l[i]?.getD 0 = o at ho HS hu
          cases hx : inR k o
          · have HA := Lib.hid (HHA.out k o (by omega) ho _ hx)
            have HS2 := Lib.hid ((HS.out _ hx).trans (if_neg (by decide)))
            clear hx HS
            go_wp2_with (go_at_call 215; refine (HA.out _).mono ?_; rintro e w' ⟨rfl, rfl⟩)
            go_round
            case rel => exact ⟨i + 1, by omega, by go_num, by rw [HS2.out]⟩
            case measure => simp [intOf]; omega
          · have HA := Lib.hid (HHA.out k o (by omega) ho _ hx)
            have HS2 := Lib.hid ((HS.out _ hx).trans (if_pos rfl))
            clear hx HS
            go_wp2_with (go_at_call 215; refine (HA.out _).mono ?_; rintro e w' ⟨rfl, rfl⟩)
            go_round
            case rel => exact ⟨i + 1, by omega, by go_num, by rw [HS2.out]⟩
            case measure => simp [intOf]; omega
        · obtain rfl : i = m := by omega
          rw [HALL.out k]
          have hlen := natL_len (madeV l) k
          have HS := Lib.hid (natL_succ (madeV l) k)
          have hown5 : World.ownsRow _ _ _ _ _ _ _ := hown
          generalize madeV l k = mk at HS ⊢
          go_wp2_with (at_builtin; refine wpList_append_own _ rfl _ _ 27 rfl W1.heap.size 2 i0 (.int .i64 0) 1 8 Try.underlying27 hi hz0 hz1 hz2 rfl (by decide) _ _ _ rfl (hown5.alloc _) ⟨wr.heap.size, 0, none⟩ 1 1 [.int .i64 (mk : Int)] rfl rfl (cell_one_new _ _ _) (one_cell_int _) (by unfold maxLen; omega) (by omega) (by simp; omega) ?_)
          intro v' w1 hown' hgrow _
          have hN' := (balloc hN (.cells #[.int .i64 (mk : Int)] 2)).grown hgrow (by simp; omega) (fun j e => (World.ownsRow.lt hown5 j e).1)
          clear hgrow hown5 hown hN
          go_wp2
          go_roundw
          case rel => exact ⟨k + 1, by omega, by go_num, by rw [HS.out]; unfold Owns; rw [ints_snoc, List.length_append, natL_len]; exact hown', hN'⟩
          case measure => simp [intOf]; omega
    · obtain rfl : k = R := by omega
      obtain ⟨g, cap2, rfl, hg, hc⟩ := owned_cells r0 hown
      have v0 := kc hN p0
      have v1 := kc hN p1
      have y0 := kf hN p0 f0
      have y1 := kf hN p1 f1
      have hBr := bthen hB hN
      clear hown hN p0 p1 f0 f1
      go_wp2_with (first
        | (go_at_call 116; refine (RWS.out _).mono ?_; rintro e w' ⟨rfl, rfl⟩)
        | (go_at_call 168; refine (l01Of_any h0 h4 r0 r16 hR g cap2 (madeV l) (fun r _ => madeV_le _ _) _ hg hc).mono ?_; rintro e w6 ⟨rfl, hb6⟩; have o0 := kc hb6 v0; have o1 := kc hb6 v1; have i0 := kf hb6 v0 y0; have i1 := kf hb6 v1 y1; have hB6 := bthen hBr hb6; clear v0 v1 y0 y1))
      exact bodyPost_ret (v := .agg #[.int .i64 n, .int .i64 (sumN (madeV l) k : Int)]) (by simp [results, Try.results175, go_sem, o0, o1]) rfl ⟨rfl, (hB6.setCell (p := ⟨w.heap.size, 0, none⟩) (by simp) _).setCell (p := ⟨w.heap.size, 1, none⟩) (by simp) _⟩

/- the program -/
/-- The boxes of the program's FuncOfRows: the list, the answer. -/
theorem forBox (s : Value) (w : World) : ∃ W1, (w.alloc (.cells #[s] 27)).alloc (.cells #[.int .i64 0, .int .i64 0] 25) = W1 ∧ W1.cell? ⟨w.heap.size, 0, none⟩ = some s ∧
    (W1.cell? ⟨w.heap.size + 1, 0, none⟩ = some (.int .i64 0) ∧ W1.cell? ⟨w.heap.size + 1, 1, none⟩ = some (.int .i64 0)) ∧ (W1.frozen? ⟨w.heap.size + 1, 0, none⟩ = false ∧ W1.frozen? ⟨w.heap.size + 1, 1, none⟩ = false) ∧ Below w.heap.size w W1 :=
  ⟨_, rfl, by simp [go_sem], ⟨by simp [go_sem], by simp [go_sem]⟩, ⟨by simp [go_sem], by simp [go_sem]⟩, balloc (bnew _ _) _⟩

end Go.Proofs.Ytbdhlokbpbiijaa

/- MO13:
  FuncOfRows of the model; both packages. -/
namespace Go.Proofs.Ytbdhlokbpbiijaa
open Go.RowKit
set_option linter.unusedVariables false
set_option linter.unusedSimpArgs false

/-- A list of the call's own, opened. -/
theorem owns_openI {W : World} {base : Nat} {s : Value} {xs : List Int} (h : Owns W base s xs) :
    ∃ a cap, s = .slice a xs.length cap ∧ Hid (∀ j, j < xs.length → ∃ g, a = some ⟨g, 0, none⟩ ∧ g < W.heap.size ∧ W.cell? ⟨g, j, none⟩ = some (.int .i64 (xs[j]?.getD 0))) := by
  rcases h.shape with ⟨he, a, cap, rfl⟩ | ⟨hn, g, cap, rfl, hbg, hg, hc, hf⟩
  · subst he
    exact ⟨a, cap, rfl, Lib.hid fun j hj => absurd hj (Nat.not_lt_zero _)⟩
  · exact ⟨some ⟨g, 0, none⟩, cap, rfl, Lib.hid fun j hj => ⟨g, rfl, hg, hc.out j hj⟩⟩
theorem rowsB_all {R : Nat} {xs : List Int} (h : ∀ j, j < xs.length → inB (xs[j]?.getD 0) 0 ((R : Int) - 1) = true) : rowsB R xs = true := by
  unfold rowsB
  rw [List.all_eq_true]
  intro v hv
  obtain ⟨j, hj, rfl⟩ := List.mem_iff_getElem.1 hv
  have := h j hj
  rwa [List.getElem?_eq_getElem hj] at this
theorem rowsB_not {R : Nat} {xs : List Int} {k : Nat} (hk : k < xs.length) (h : inB (xs[k]?.getD 0) 0 ((R : Int) - 1) = false) : rowsB R xs = false := by
  unfold rowsB
  rw [List.all_eq_false]
  exact ⟨xs[k], List.getElem_mem hk, by rw [List.getElem?_eq_getElem hk] at h; simpa using h⟩

end Go.Proofs.Ytbdhlokbpbiijaa

/- MO14:
  FuncOfLevels in both packages. -/
namespace Go.Proofs.Ytbdhlokbpbiijaa
open Go.RowKit
set_option linter.unusedVariables false
set_option linter.unusedSimpArgs false

/-- The value at a row of the symmetric function with levels. -/
def symV (xs : List Int) (r : Nat) : Nat := dig xs (sizeN r)
theorem size_lt : ∀ n < 5, ∀ r < 2 ^ n, sizeN r ≤ n := by decide +kernel
theorem size_in {n : Int} {R m r : Nat} (h4 : n ≤ 4) (h0 : 0 ≤ n) (he : R = 2 ^ n.toNat) (hm : n = (m : Int) - 1) (hr : r < R) : sizeN r < m := by
  have := size_lt n.toNat (by omega) r (by rw [← he]; exact hr)
  omega

set_option maxRecDepth 100000 in
set_option maxHeartbeats 8000000 in
theorem l07Symmetric_any {n : Int} {R m : Nat} (h0 : 0 ≤ n) (h4 : n ≤ 4) (r0 : 0 < R) (r16 : R ≤ 16) (hR : Hid (rowsN n = (R : Int))) (he : R = 2 ^ n.toNat) {base : Nat} {s : Value} {xs : List Int} (hm : xs.length = m) (hnm : n = (m : Int) - 1) (hd : (xs.all fun v => inB v 0 1) = true) (w : World) (ho : Owns w base s xs) :
    Calls Try.prog 112 #[s] w fun e w' => e = .returned (.agg #[.int .i64 n, .int .i64 (sumN (symV xs) R : Int)]) ∧ Below w.heap.size w w' := by
  obtain ⟨i0, hi, hz0, hz1, hz2⟩ := info_parts infoI
  have RWS := Lib.hid (fun W => l01Rows_is h0 h4 hR W)
  obtain ⟨a, cap, rfl, HL⟩ := owns_openI ho
  have HSZ := Lib.hid (fun r (hr : r < R) => size_in h4 h0 he hnm hr)
  have HDG := Lib.hid (fun j (hj : j < m) => dig_ok hd j (hm ▸ hj))
  have HV1 := Lib.hid (fun r (hr : r < R) => (dig_ok hd (sizeN r) (hm ▸ size_in h4 h0 he hnm hr)).1)
  rw [hm] at HL ⊢
  clear ho hm hd
  subst hnm
  have hm5 : m ≤ 5 := by omega
  have hm1 : 1 ≤ m := by omega
  clear he
  obtain ⟨W1, hW1, p0, p1, f0, f1, hB, hs1⟩ := ofBox w
  have HS1 := Lib.hid hs1
  have hw1 : w.heap.size < W1.heap.size := by omega
  clear hs1
  go_enter Try.func112, Try.ntmps112
  go_wp2_with fail
  clear hW1
  go_loopw [4, 5] (fun s' i' wr => ∃ k : Nat, k ≤ R ∧ i' = .int .i64 k ∧ Owns wr W1.heap.size s' (natL (symV xs) k) ∧ Below W1.heap.size W1 wr)
    (fun _ i' _ => R - (intOf i').toNat)
  case atStart => exact ⟨0, by omega, rfl, World.ownsRow_lit W1 #[] 0 (Nat.le_refl _) (by decide) rfl, bnew _ _⟩
  case round =>
    obtain ⟨k, hk, rfl, hown, hN⟩ := hrel
    have hsz := hN.size
    by_cases hlt : k < R
    · have hq := HSZ.out k hlt
      obtain ⟨g, rfl, hg, hc⟩ := HL.out (sizeN k) hq
      rw [(HDG.out (sizeN k) hq).2] at hc
      have hu := kc hN (kc hB hc)
      clear hc
      have hlen := natL_len (symV xs) k
      have HS := Lib.hid (natL_succ (symV xs) k)
      have HSV : Hid (symV xs k = dig xs (sizeN k)) := Lib.hid rfl
      have hown5 : World.ownsRow _ _ _ _ _ _ _ := hown
      have SZ := Lib.hid (fun W => l03Size_any k (by omega) W)
      generalize dig xs (sizeN k) = d at hu HSV
      generalize sizeN k = q at hq hu SZ
      go_wp2_with (first
        | (go_at_call 116; refine (RWS.out _).mono ?_; rintro e w' ⟨rfl, rfl⟩)
        | (go_at_call 117; refine (SZ.out _).mono ?_; rintro e w' ⟨rfl, rfl⟩)
        | (at_builtin; refine wpList_append_own _ rfl _ _ 27 rfl W1.heap.size 2 i0 (.int .i64 0) 1 8 Try.underlying27 hi hz0 hz1 hz2 rfl (by decide) _ _ _ rfl (hown5.alloc _) ⟨wr.heap.size, 0, none⟩ 1 1 [.int .i64 (d : Int)] rfl rfl (cell_one_new _ _ _) (one_cell_int _) (by unfold maxLen; omega) (by omega) (by simp; omega) ?_))
      intro v' w1 hown' hgrow _
      have hN' := (balloc hN (.cells #[.int .i64 (d : Int)] 2)).grown hgrow (by simp; omega) (fun j e => (World.ownsRow.lt hown5 j e).1)
      clear hgrow hown5 hown hN
      go_wp2
      go_roundw
      case rel => exact ⟨k + 1, by omega, by go_num, by rw [HS.out, HSV.out]; unfold Owns; rw [ints_snoc, List.length_append, natL_len]; exact hown', hN'⟩
      case measure => simp [intOf]; omega
    · obtain rfl : k = R := by omega
      obtain ⟨g, cap2, rfl, hg, hc⟩ := owned_cells r0 hown
      have v0 := kc hN p0
      have v1 := kc hN p1
      have y0 := kf hN p0 f0
      have y1 := kf hN p1 f1
      have hBr := bthen hB hN
      clear hown hN p0 p1 f0 f1
      go_wp2_with (first
        | (go_at_call 116; refine (RWS.out _).mono ?_; rintro e w' ⟨rfl, rfl⟩)
        | (go_at_call 168; refine (l01Of_any h0 h4 r0 r16 hR g cap2 (symV xs) HV1.out _ hg hc).mono ?_; rintro e w6 ⟨rfl, hb6⟩; have o0 := kc hb6 v0; have o1 := kc hb6 v1; have i0 := kf hb6 v0 y0; have i1 := kf hb6 v1 y1; have hB6 := bthen hBr hb6; clear v0 v1 y0 y1))
      exact bodyPost_ret (v := .agg #[.int .i64 ((m : Int) - 1), .int .i64 (sumN (symV xs) k : Int)]) (by simp [results, Try.results112, go_sem, o0, o1]) rfl ⟨rfl, (hB6.setCell (p := ⟨w.heap.size, 0, none⟩) (by simp) _).setCell (p := ⟨w.heap.size, 1, none⟩) (by simp) _⟩

/- the program -/
set_option maxHeartbeats 1000000 in
theorem FuncOfLevels1_any {s : Value} {m : Nat} {g cap : Nat} (r : Nat) (hr : r < 16) (d : Nat) (hq : sizeN r < m) (hm5 : m ≤ 5) (b : Nat) (w : World) (hc : w.cell? ⟨b, 0, none⟩ = some (.slice (some ⟨g, 0, none⟩) m cap)) (hu : w.cell? ⟨g, sizeN r, none⟩ = some (.int .i64 (d : Int))) :
    Calls Try.prog 118 #[.int .i64 (r : Int), .pointer (some ⟨b, 0, none⟩)] w fun e w' => e = .returned (.int .i64 (d : Int)) ∧ Below w.heap.size w w' := by
  have SZ := Lib.hid (fun W => rowSize_any r hr W)
  generalize sizeN r = q at hq hu SZ
  go_enter Try.func118, Try.ntmps118
  go_wp2
  go_quiet (first | (go_at_call 119; exact quiet_eq (SZ.out _)))
  go_wp2
  go_ret
  exact ⟨rfl, below_drewN (Below.refl _ _) _⟩

set_option maxRecDepth 100000 in
set_option maxHeartbeats 2000000 in
theorem implFuncOfLevels_len {base : Nat} {s : Value} {xs : List Int} (hl : xs.length ≤ 1048576) (h1 : inB ((xs.length : Int) - 1) 0 4 = false) (w : World) (ho : Owns w base s xs) :
    Calls Try.prog 26 #[s] w fun e w' => e = .returned (.tuple #[.agg #[.int .i64 0, .int .i64 0], .int .i64 2]) ∧ Below w.heap.size w w' := by
  obtain ⟨a, cap, rfl⟩ := ho.slice
  obtain ⟨W1, hW1, pS, ⟨p0, p1⟩, ⟨f0, f1⟩, hB⟩ := forBox (.slice a xs.length cap) w
  generalize xs.length = m at hl h1 pS hW1 ⊢
  clear ho
  go_enter Try.func26, Try.ntmps26
  go_wp2_with (go_at_call 90; refine (isArity_is h1 _).mono ?_; rintro e w' ⟨rfl, rfl⟩)
  exact bodyPost_ret (v := .tuple #[.agg #[.int .i64 0, .int .i64 0], .int .i64 2]) (by simp [results, Try.results26, go_sem, p0, p1]) rfl ⟨rfl, (hB.setCell (p := ⟨w.heap.size + 1, 0, none⟩) (by simp) _).setCell (p := ⟨w.heap.size + 1, 1, none⟩) (by simp) _⟩

set_option maxRecDepth 100000 in
set_option maxHeartbeats 2000000 in
theorem implFuncOfLevels_dig {base : Nat} {s : Value} {xs : List Int} (hl : xs.length ≤ 1048576) (h1 : inB ((xs.length : Int) - 1) 0 4 = true) (hd : (xs.all fun v => inB v 0 1) = false) (w : World) (ho : Owns w base s xs) :
    Calls Try.prog 26 #[s] w fun e w' => e = .returned (.tuple #[.agg #[.int .i64 0, .int .i64 0], .int .i64 2]) ∧ Below w.heap.size w w' := by
  obtain ⟨a, cap, rfl⟩ := ho.slice
  obtain ⟨W1, hW1, pS, ⟨p0, p1⟩, ⟨f0, f1⟩, hB⟩ := forBox (.slice a xs.length cap) w
  have AD0 := areDigits_any hl W1 (ho.below hB)
  rw [hd] at AD0
  have AD := Lib.hid AD0
  generalize xs.length = m at hl h1 pS hW1 AD ⊢
  clear ho AD0 hd
  go_enter Try.func26, Try.ntmps26
  go_wp2_with (first
    | (go_at_call 90; refine (isArity_is h1 _).mono ?_; rintro e w' ⟨rfl, rfl⟩)
    | (go_at_call 92; refine AD.out.mono ?_; rintro e w' ⟨rfl, rfl⟩))
  exact bodyPost_ret (v := .tuple #[.agg #[.int .i64 0, .int .i64 0], .int .i64 2]) (by simp [results, Try.results26, go_sem, p0, p1]) rfl ⟨rfl, (hB.setCell (p := ⟨w.heap.size + 1, 0, none⟩) (by simp) _).setCell (p := ⟨w.heap.size + 1, 1, none⟩) (by simp) _⟩

set_option maxRecDepth 100000 in
set_option maxHeartbeats 4000000 in
theorem implFuncOfLevels_yes {base : Nat} {s : Value} {xs : List Int} {n : Int} {R m : Nat} (h0 : 0 ≤ n) (h4 : n ≤ 4) (h1 : inB n 0 4 = true) (r0 : 0 < R) (r16 : R ≤ 16) (hR : Hid (rowsN n = (R : Int))) (he : R = 2 ^ n.toNat) (hm : xs.length = m) (hnm : n = (m : Int) - 1) (hd : (xs.all fun v => inB v 0 1) = true) (w : World) (ho : Owns w base s xs) :
    Calls Try.prog 26 #[s] w fun e w' => e = .returned (.tuple #[.agg #[.int .i64 n, .int .i64 (sumN (symV xs) R : Int)], .int .i64 0]) ∧ Below w.heap.size w w' := by
  rcases ho.shape with ⟨he0, _⟩ | ⟨hn, g, cap, rfl, hbg, hg, hcc, hf⟩
  · rw [he0] at hm; simp at hm; omega
  have HSZ := Lib.hid (fun r (hr : r < R) => size_in h4 h0 he hnm hr)
  have HDG := Lib.hid (fun j (hj : j < m) => dig_ok hd j (hm ▸ hj))
  have HCC : Hid (∀ j, j < m → w.cell? ⟨g, j, none⟩ = some (.int .i64 (dig xs j : Int))) := Lib.hid fun j hj => by rw [hcc.out j (hm ▸ hj), (HDG.out j hj).2]
  obtain ⟨W1, hW1, pS, ⟨p0, p1⟩, ⟨f0, f1⟩, hB⟩ := forBox (.slice (some ⟨g, 0, none⟩) xs.length cap) w
  have AD0 := areDigits_any (by omega) W1 (ho.below hB)
  rw [hd] at AD0
  have AD := Lib.hid AD0
  rw [hm] at pS hW1 AD ⊢
  have FR0 := funcByRows_any n h0 h4 R r0 r16 hR 118 #[.pointer (some ⟨w.heap.size, 0, none⟩)] (enters_of Try.func118 (by kernel_rfl) rfl)
    (symV xs) (fun r hr => (HDG.out _ (HSZ.out r hr)).1) W1 (Lib.hid fun W hW r hr => FuncOfLevels1_any (s := .bool true) r (by omega) (dig xs (sizeN r)) (HSZ.out r hr) (by omega) w.heap.size W (kc hW pS) (kc hW (kc hB (HCC.out _ (HSZ.out r hr)))))
  rw [orBits_sum r0 (symV xs) (fun r hr => (HDG.out _ (HSZ.out r hr)).1)] at FR0
  have FR := Lib.hid FR0
  have hm5 : m ≤ 5 := by omega
  have hm1 : 1 ≤ m := by omega
  clear ho FR0 AD0 hd hm hcc hf hn he HSZ HDG HCC
  subst hnm
  have IA := Lib.hid (fun W => isArity_is h1 W)
  have FR2 := FR
  generalize sumN (symV xs) R = S at FR2 ⊢
  go_enter Try.func26, Try.ntmps26
  go_wp2_with (first
    | (go_at_call 90; refine (IA.out _).mono ?_; rintro e w' ⟨rfl, rfl⟩)
    | (go_at_call 92; refine AD.out.mono ?_; rintro e w' ⟨rfl, rfl⟩)
    | (go_at_call 94; refine FR2.out.mono ?_; rintro e w3 ⟨rfl, hb3⟩; have e0 := kc hb3 p0; have e1 := kc hb3 p1; have k0 := kf hb3 p0 f0; have k1 := kf hb3 p1 f1; have hB3 := bthen hB hb3))
  exact bodyPost_ret (v := .tuple #[.agg #[.int .i64 ((m : Int) - 1), .int .i64 (S : Int)], .int .i64 0]) (by simp [results, Try.results26, go_sem, e0, e1]) rfl ⟨rfl, (hB3.setCell (p := ⟨w.heap.size + 1, 0, none⟩) (by simp) _).setCell (p := ⟨w.heap.size + 1, 1, none⟩) (by simp) _⟩

/- the model -/
set_option maxRecDepth 100000 in
set_option maxHeartbeats 2000000 in
theorem specFuncOfLevels_len {base : Nat} {s : Value} {xs : List Int} (hl : xs.length ≤ 1048576) (h1 : inB (xs.length : Int) 1 5 = false) (w : World) (ho : Owns w base s xs) :
    Calls Try.prog 28 #[s] w fun e w' => e = .returned (.tuple #[.agg #[.int .i64 0, .int .i64 0], .int .i64 2]) ∧ Below w.heap.size w w' := by
  obtain ⟨a, cap, rfl⟩ := ho.slice
  obtain ⟨W1, hW1, p0, p1, f0, f1, hB, hs1⟩ := ofBox w
  generalize xs.length = m at hl h1 ⊢
  clear ho hs1
  go_enter Try.func28, Try.ntmps28
  go_wp2_with (go_at_call 105; refine (l01In_is h1 _).mono ?_; rintro e w' ⟨rfl, rfl⟩)
  exact bodyPost_ret (v := .tuple #[.agg #[.int .i64 0, .int .i64 0], .int .i64 2]) (by simp [results, Try.results28, go_sem, p0, p1]) rfl ⟨rfl, (hB.setCell (p := ⟨w.heap.size, 0, none⟩) (by simp) _).setCell (p := ⟨w.heap.size, 1, none⟩) (by simp) _⟩

set_option maxRecDepth 100000 in
set_option maxHeartbeats 2000000 in
theorem specFuncOfLevels_dig {base : Nat} {s : Value} {xs : List Int} (hl : xs.length ≤ 1048576) (h1 : inB (xs.length : Int) 1 5 = true) (hd : (xs.all fun v => inB v 0 1) = false) (w : World) (ho : Owns w base s xs) :
    Calls Try.prog 28 #[s] w fun e w' => e = .returned (.tuple #[.agg #[.int .i64 0, .int .i64 0], .int .i64 2]) ∧ Below w.heap.size w w' := by
  obtain ⟨a, cap, rfl⟩ := ho.slice
  obtain ⟨W1, hW1, p0, p1, f0, f1, hB, hs1⟩ := ofBox w
  have AD0 := l01Bits_any hl W1 (ho.below hB)
  rw [hd] at AD0
  have AD := Lib.hid AD0
  generalize xs.length = m at hl h1 AD ⊢
  clear ho hs1 AD0 hd
  go_enter Try.func28, Try.ntmps28
  go_wp2_with (first
    | (go_at_call 105; refine (l01In_is h1 _).mono ?_; rintro e w' ⟨rfl, rfl⟩)
    | (go_at_call 120; refine AD.out.mono ?_; rintro e w' ⟨rfl, rfl⟩))
  exact bodyPost_ret (v := .tuple #[.agg #[.int .i64 0, .int .i64 0], .int .i64 2]) (by simp [results, Try.results28, go_sem, p0, p1]) rfl ⟨rfl, (hB.setCell (p := ⟨w.heap.size, 0, none⟩) (by simp) _).setCell (p := ⟨w.heap.size, 1, none⟩) (by simp) _⟩

set_option maxRecDepth 100000 in
set_option maxHeartbeats 4000000 in
theorem specFuncOfLevels_yes {base : Nat} {s : Value} {xs : List Int} {n : Int} {R m : Nat} (h0 : 0 ≤ n) (h4 : n ≤ 4) (h1 : inB (xs.length : Int) 1 5 = true) (r0 : 0 < R) (r16 : R ≤ 16) (hR : Hid (rowsN n = (R : Int))) (he : R = 2 ^ n.toNat) (hm : xs.length = m) (hnm : n = (m : Int) - 1) (hd : (xs.all fun v => inB v 0 1) = true) (w : World) (ho : Owns w base s xs) :
    Calls Try.prog 28 #[s] w fun e w' => e = .returned (.tuple #[.agg #[.int .i64 n, .int .i64 (sumN (symV xs) R : Int)], .int .i64 0]) ∧ Below w.heap.size w w' := by
  obtain ⟨a, cap, rfl⟩ := ho.slice
  obtain ⟨W1, hW1, p0, p1, f0, f1, hB, hs1⟩ := ofBox w
  have AD0 := l01Bits_any (by omega) W1 (ho.below hB)
  rw [hd] at AD0
  have AD := Lib.hid AD0
  have SY := Lib.hid (l07Symmetric_any h0 h4 r0 r16 hR he hm hnm hd W1 (ho.below hB))
  rw [hm] at h1 AD SY ⊢
  have hm5 : m ≤ 5 := by omega
  clear ho hs1 AD0 hd hnm hm
  generalize sumN (symV xs) R = S at SY ⊢
  go_enter Try.func28, Try.ntmps28
  go_wp2_with (first
    | (go_at_call 105; refine (l01In_is h1 _).mono ?_; rintro e w' ⟨rfl, rfl⟩)
    | (go_at_call 120; refine AD.out.mono ?_; rintro e w' ⟨rfl, rfl⟩)
    | (go_at_call 112; refine SY.out.mono ?_; rintro e w3 ⟨rfl, hb3⟩; have e0 := kc hb3 p0; have e1 := kc hb3 p1; have k0 := kf hb3 p0 f0; have k1 := kf hb3 p1 f1; have hB3 := bthen hB hb3))
  exact bodyPost_ret (v := .tuple #[.agg #[.int .i64 n, .int .i64 (S : Int)], .int .i64 0]) (by simp [results, Try.results28, go_sem, e0, e1]) rfl ⟨rfl, (hB3.setCell (p := ⟨w.heap.size, 0, none⟩) (by simp) _).setCell (p := ⟨w.heap.size, 1, none⟩) (by simp) _⟩

theorem bothFuncOfLevels {xs : List Int} (hl : xs.length ≤ 1048576) : ∃ rn rb rc : Int,
    (∀ (base : Nat) (s : Value) (w : World), Owns w base s xs → Calls Try.prog 28 #[s] w fun e w' => e = .returned (.tuple #[.agg #[.int .i64 rn, .int .i64 rb], .int .i64 rc]) ∧ Below w.heap.size w w') ∧
    (∀ (base : Nat) (s : Value) (w : World), Owns w base s xs → Calls Try.prog 26 #[s] w fun e w' => e = .returned (.tuple #[.agg #[.int .i64 rn, .int .i64 rb], .int .i64 rc]) ∧ Below w.heap.size w w') := by
  have h15 : inB ((xs.length : Int) - 1) 0 4 = inB (xs.length : Int) 1 5 := by
    unfold inB
    rw [Bool.eq_iff_iff, decide_eq_true_iff, decide_eq_true_iff]
    omega
  cases h1 : inB (xs.length : Int) 1 5
  · rw [h1] at h15
    exact ⟨_, _, _, fun _ _ w ho => specFuncOfLevels_len hl h1 w ho, fun _ _ w ho => implFuncOfLevels_len hl h15 w ho⟩
  · rw [h1] at h15
    cases hd : (xs.all fun v => inB v 0 1)
    · exact ⟨_, _, _, fun _ _ w ho => specFuncOfLevels_dig hl h1 hd w ho, fun _ _ w ho => implFuncOfLevels_dig hl h15 hd w ho⟩
    · have hn : 0 ≤ (xs.length : Int) - 1 ∧ (xs.length : Int) - 1 ≤ 4 := by simpa [inB] using h15
      obtain ⟨h0, h4⟩ := hn
      obtain ⟨R, hR, r0, r16, he⟩ := rowsN_eq h0 h4
      have HR := Lib.hid hR
      exact ⟨_, _, _, fun _ _ w ho => specFuncOfLevels_yes h0 h4 h1 r0 r16 HR he rfl rfl hd w ho, fun _ _ w ho => implFuncOfLevels_yes h0 h4 h15 r0 r16 HR he rfl rfl hd w ho⟩
end Go.Proofs.Ytbdhlokbpbiijaa

/- RB:
  A region that draws its order inside a round, none of whose operations is a defer, walked by the plain calculus (so that loads may be taken first: the laws of OrdersHeld). -/
namespace Go.Proofs.Ytbdhlokbpbiijaa
open Go Go.RowKit

theorem upon_wide {P : Program} {o : Oper} {a : Act} {K : Act → World → Prop} {Q : Exit → Act → World → Prop} {n : Nat} (hn : 1 ≤ n) : ∀ r, o.upon P a K Q r → o.uponIn Fence.wide n P a K Q r := by
  intro r h
  cases r with
  | ok x w' =>
    cases x with
    | value v => exact h
    | skip => exact h
    | defer d => exact h
    | enter f args =>
      refine ⟨fun _ => hn, CallsIn.mono (callsIn_wide.2 h) fun e w'' he => ?_⟩
      cases e <;> exact he
    | row row args => exact ⟨fun _ => hn, fun c cs _ => let ⟨v, w', r, s⟩ := h c cs; ⟨v, w', r, stepsIn_wide.2 s⟩⟩
    | _ => exact h.elim
  | halt x w' => cases x <;> first | exact h | exact h.elim

theorem wpOp_wide {P : Program} {ops : Array Oper} {Q : Exit → Act → World → Prop} {i : Nat} {K : Act → World → Prop} {a : Act} {w : World} {n : Nat} (hn : 1 ≤ n) (hL : ¬ LetsOut Q) (h : wpOp P ops Q i K a w) : wpOpIn Fence.wide n P ops Q i K a w := by
  unfold wpOp at h
  unfold wpOpIn
  cases ho : ops[i]? with
  | none => simp only [ho] at h ⊢; exact h
  | some o =>
    simp only [ho] at h ⊢
    split
    · rename_i hw
      rw [if_pos hw] at h
      rcases h with h | ⟨_, h⟩
      · exact ⟨fun _ _ => trivial, upon_wide hn _ h⟩
      · exact absurd h hL
    · rename_i hw
      rw [if_neg hw] at h
      exact ⟨fun _ _ => trivial, h⟩

theorem wpAny_wide {P : Program} {md : Region.Mode} {ops : Array Oper} {Q : Exit → Act → World → Prop} {n : Nat} (hn : 1 ≤ n) (hL : ¬ LetsOut Q) : ∀ (fuel : Nat) (listed : Array Bool) (a : Act) (w : World),
    wpAny P md ops Q fuel listed a w → wpAnyIn Fence.wide n P md ops Q fuel listed a w
  | 0, _, _, _, h => h
  | fuel + 1, _, _, _, h => ⟨h.1, fun i hi => wpOp_wide hn hL (wpOp_mono (fun a w => wpAny_wide hn hL fuel _ a w) (h.2 i hi))⟩

/-- **The bridge.** -/
theorem region_round {P : Program} {id l n : Nat} {ops : Array Oper} {Q : Exit → Act → World → Prop} {a : Act} {w : World} (S : World → Prop) (hm : P.follows .mixedOrders = true) (hnd : noDefer ops = true) (hn : 1 ≤ n) (hL : ¬ LetsOut Q)
    (h : wpAnyH P .any ops Q S ops.size (Array.replicate ops.size false) a w.drew) : (Code.region id ops true).wpIn (Fence.wide.inRound l) n P Q a w :=
  wpIn_region_any hm (wpAnyIn_round (F := Fence.wide) l hnd _ _ _ _ (wpAny_wide hn hL _ _ _ _ (wpAny_of_held _ _ _ _ h)))
end Go.Proofs.Ytbdhlokbpbiijaa

/- MO15:
  The levels: least and greatest values of the rows of each size, in the program. -/
namespace Go.Proofs.Ytbdhlokbpbiijaa
open Go.RowKit Go.Shelf
attribute [local go_sem] Oper.semAt_some
set_option linter.unusedVariables false
set_option linter.unusedSimpArgs false

/-- The least value of the rows of the size s handed out so far, 1 if there is none; 0 beyond n. -/
def loF {R : Nat} (n x : Nat) (pre : List (Row R)) (s : Nat) : Nat := if s ≤ n then (pre.all fun y => sizeN y.1 != s || bitN x y.1 == 1).toNat else 0
/-- The greatest one, 0 if there is none. -/
def hiF {R : Nat} (x : Nat) (pre : List (Row R)) (s : Nat) : Nat := (pre.any fun y => sizeN y.1 == s && bitN x y.1 == 1).toNat
theorem b_le (b : Bool) : b.toNat ≤ 1 := by cases b <;> decide
theorem loF_le {R : Nat} (n x : Nat) (pre : List (Row R)) (s : Nat) : loF n x pre s ≤ 1 := by unfold loF; split; exact b_le _; omega
theorem hiF_le {R : Nat} (x : Nat) (pre : List (Row R)) (s : Nat) : hiF x pre s ≤ 1 := b_le _
theorem loF_snoc {R : Nat} (n x : Nat) (pre : List (Row R)) (y : Row R) (s : Nat) (hs : sizeN y.1 ≤ n) : loF n x (pre ++ [y]) s = if s = sizeN y.1 then min (loF n x pre s) (bitN x y.1) else loF n x pre s := by
  have hb := bitN_le x y.1
  unfold loF
  by_cases hsn : s ≤ n
  · rw [if_pos hsn, if_pos hsn, List.all_append]
    by_cases e : s = sizeN y.1
    · subst e
      rw [if_pos rfl]
      rcases (show bitN x y.1 = 0 ∨ bitN x y.1 = 1 by omega) with h | h <;> cases (pre.all fun z => sizeN z.1 != sizeN y.1 || bitN x z.1 == 1) <;> simp [h]
    · rw [if_neg e]
      have e2 : (sizeN y.1 != s) = true := by simp; omega
      cases (pre.all fun z => sizeN z.1 != s || bitN x z.1 == 1) <;> simp [e2]
  · rw [if_neg hsn, if_neg hsn, if_neg (by omega)]
theorem hiF_snoc {R : Nat} (x : Nat) (pre : List (Row R)) (y : Row R) (s : Nat) : hiF x (pre ++ [y]) s = if s = sizeN y.1 then max (hiF x pre s) (bitN x y.1) else hiF x pre s := by
  have hb := bitN_le x y.1
  unfold hiF
  rw [List.any_append]
  by_cases e : s = sizeN y.1
  · subst e
    rw [if_pos rfl]
    rcases (show bitN x y.1 = 0 ∨ bitN x y.1 = 1 by omega) with h | h <;> cases (pre.any fun z => sizeN z.1 == sizeN y.1 && bitN x z.1 == 1) <;> simp [h]
  · rw [if_neg e]
    have e2 : (sizeN y.1 == s) = false := by simp; omega
    cases (pre.any fun z => sizeN z.1 == s && bitN x z.1 == 1) <;> simp [e2]

/-- The memory of an array of five. -/
structure Ar5 (B : Nat) (d : Nat → Nat) (W : World) : Prop where
  c : ∀ j, j < 5 → W.cell? ⟨B, j, none⟩ = some (.int .i64 (d j : Int))
  f : ∀ j, j < 5 → W.frozen? ⟨B, j, none⟩ = false
theorem Ar5.below {B : Nat} {d : Nat → Nat} {W W' : World} (h : Ar5 B d W) (hb : Below W.heap.size W W') : Ar5 B d W' :=
  ⟨fun j hj => kc hb (h.c j hj), fun j hj => kf hb (h.c j hj) (h.f j hj)⟩
theorem Ar5.kept {B : Nat} {d : Nat → Nat} {W W' : World} {row : Option Nat} (h : Ar5 B d W) (hg : W.grownBy W' row) (hr : ∀ r, row = some r → ∃ o : Obj, W.heap[r]? = some o ∧ o.isCells = false) : Ar5 B d W' :=
  ⟨fun j hj => cell_kept (h.c j hj) hg hr, fun j hj => (frozen_kept (h.c j hj) hg hr).trans (h.f j hj)⟩
theorem Ar5.set {B : Nat} {d e : Nat → Nat} {W : World} (h : Ar5 B d W) (i : Nat) (hi : i < 5) (v : Nat) (he : ∀ j, j < 5 → e j = if j = i then v else d j) : Ar5 B e (W.setCell ⟨B, i, none⟩ (.int .i64 (v : Int))) :=
  ⟨fun j hj => by
    by_cases hji : j = i
    · subst hji
      have h1 := he j hj
      rw [if_pos rfl] at h1
      rw [h1]; simp [go_sem, h.c j hj]
    · have h1 := he j hj
      rw [if_neg hji] at h1
      have h2 : ¬ i = j := fun e => hji e.symm
      rw [h1]; simp [go_sem, h.c j hj, hji, h2],
  fun j hj => by simp [go_sem, h.f j hj]⟩
theorem Ar5.other {B C : Nat} {d : Nat → Nat} {W : World} (h : Ar5 B d W) (hne : ¬ C = B) (i : Nat) (v : Value) : Ar5 B d (W.setCell ⟨C, i, none⟩ v) :=
  ⟨fun j hj => by
    have h2 : ¬ B = C := fun e => hne e.symm
    simp [go_sem, h.c j hj, hne, h2], fun j hj => by simp [go_sem, h.f j hj]⟩
theorem Ar5.congr {B : Nat} {d e : Nat → Nat} {W : World} (h : Ar5 B d W) (he : ∀ j, j < 5 → e j = d j) : Ar5 B e W := ⟨fun j hj => by rw [he j hj]; exact h.c j hj, h.f⟩

/-- The memory of levelBounds. -/
structure LvM (B : Nat) (n : Int) (x : Nat) (lo hi : Nat → Nat) (W : World) : Prop where
  c0 : W.cell? ⟨B, 0, none⟩ = some (.int .i64 n)
  c1 : W.cell? ⟨B, 1, none⟩ = some (.int .i64 (x : Int))
  l : Ar5 (B + 1) lo W
  h : Ar5 (B + 1 + 1) hi W
theorem LvM.below {B : Nat} {n : Int} {x : Nat} {lo hi : Nat → Nat} {W W' : World} (h : LvM B n x lo hi W) (hb : Below W.heap.size W W') : LvM B n x lo hi W' := ⟨kc hb h.c0, kc hb h.c1, h.l.below hb, h.h.below hb⟩
theorem LvM.kept {B : Nat} {n : Int} {x : Nat} {lo hi : Nat → Nat} {W W' : World} {row : Option Nat} (h : LvM B n x lo hi W) (hg : W.grownBy W' row) (hr : ∀ r, row = some r → ∃ o : Obj, W.heap[r]? = some o ∧ o.isCells = false) : LvM B n x lo hi W' :=
  ⟨cell_kept h.c0 hg hr, cell_kept h.c1 hg hr, h.l.kept hg hr, h.h.kept hg hr⟩
theorem LvM.setL {B : Nat} {n : Int} {x : Nat} {lo lo2 hi : Nat → Nat} {W : World} (h : LvM B n x lo hi W) (i : Nat) (hi5 : i < 5) (v : Nat) (he : ∀ j, j < 5 → lo2 j = if j = i then v else lo j) : LvM B n x lo2 hi (W.setCell ⟨B + 1, i, none⟩ (.int .i64 (v : Int))) :=
  ⟨by simp [go_sem, h.c0], by simp [go_sem, h.c1], h.l.set i hi5 v he, h.h.other (by omega) i _⟩
theorem LvM.setH {B : Nat} {n : Int} {x : Nat} {lo hi hi2 : Nat → Nat} {W : World} (h : LvM B n x lo hi W) (i : Nat) (hi5 : i < 5) (v : Nat) (he : ∀ j, j < 5 → hi2 j = if j = i then v else hi j) : LvM B n x lo hi2 (W.setCell ⟨B + 1 + 1, i, none⟩ (.int .i64 (v : Int))) :=
  ⟨by have e : ¬ B + 1 + 1 = B := by omega
      simp [go_sem, h.c0, e], by have e : ¬ B + 1 + 1 = B := by omega
                                 simp [go_sem, h.c1, e], h.l.other (by omega) i _, h.h.set i hi5 v he⟩

/-- An array of five as a value. -/
def arr5 (v : Nat → Nat) : Value := .agg #[.int .i64 (v 0 : Int), .int .i64 (v 1 : Int), .int .i64 (v 2 : Int), .int .i64 (v 3 : Int), .int .i64 (v 4 : Int)]

end Go.Proofs.Ytbdhlokbpbiijaa
