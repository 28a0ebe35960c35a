/-
  The texts NQ6, CM2, K7, K8, K9, M3, N1, Q1, Q2, Q3, AB2, CM3 in one.
-/
import Derived.Test.YtdgpjpcdifpllaaMPCentraliserOf4
import Derived.Maps.OwnSet
import Derived.Maps.Views
import Derived.DeepKeys5
import Derived.WalkMore

/- NQ6:
  rowLists by contract: all lists of rows, each with the row of the values at the columns. -/
namespace Go.Proofs.Ytdgpjpcdifpllaa
open Go.RowKit Go.Shelf
attribute [local go_sem] Oper.semAt_some
set_option linter.unusedVariables false
set_option linter.unusedSimpArgs false

theorem region_wide {P : Program} {id n : Nat} {ops : Array Oper} {Q : Exit → Act → World → Prop} {a : Act} {w : World} (S : World → Prop) (hm : P.follows .mixedOrders = true) (hn : 1 ≤ n) (hL : ¬ LetsOut Q)
    (h : wpAnyH P .any ops Q S ops.size (Array.replicate ops.size false) a w.drew) : (Code.region id ops true).wpIn Fence.wide n P Q a w :=
  wpIn_region_any hm (wpAny_wide hn hL _ _ _ _ (wpAny_of_held _ _ _ _ h))
theorem firm_cell {β : Type} {K b o : Nat} {u : Value} (hb : b < K) : Firm K (fun (_ : β) W => W.cell? ⟨b, o, none⟩ = some u) := fun _ W W' row hs hg hr => by
  have hl := cell_lt hs
  have h := hg.block b hl (fun e => by have := hr b e.symm; omega)
  simp only [World.cell?, h] at hs ⊢
  exact hs

/-- What is handed on: the places below P alone. -/
def cutV (P : Nat) (z : OutV) : OutV := (z.1, z.2.1, ⟨z.2.2.1 &&& (2 ^ P - 1), Nat.lt_of_le_of_lt Nat.and_le_left z.2.2.2⟩)
def keyV (z : OutV) : List Nat × Nat := (z.2.1, z.2.2.1)
/-- All lists of rows, with the rows of the values at the columns. -/
def linesL (x P Q m : Nat) : List (List Nat × Nat) := (allP (List.range Q) m).map fun p => (p, tupV x p P)
theorem linesL_len (x P Q m : Nat) : (linesL x P Q m).length = Q ^ m := by unfold linesL; rw [List.length_map, allP_length, List.length_range]
theorem cutV_outs {P : Nat} (h4 : P ≤ 4) (sp : Value) (x Q m : Nat) : ((outsV sp (hv15V x) (List.range Q) [] m).map (cutV P)).map keyV = linesL x P Q m := by
  unfold outsV linesL
  rw [List.map_map, List.map_map]
  refine List.map_congr_left fun t ht => ?_
  show (t, levF (fun q => bitN x q * 15) t 0 &&& (2 ^ P - 1)) = (t, tupV x t P)
  rw [tupV_lev x t P h4]
theorem cutV_pref {P : Nat} (h4 : P ≤ 4) (sp : Value) (x Q m : Nat) (q : List OutV) (hq : q <+: outsV sp (hv15V x) (List.range Q) [] m) : (q.map (cutV P)).map keyV <+: linesL x P Q m := by
  rw [← cutV_outs h4 sp x Q m]
  exact (hq.map _).map _
theorem and_maskV (a P : Nat) (ha : a < 16) (hP : P ≤ 4) : bits .and .i64 (a : Int) ((2 ^ P - 1 : Nat) : Int) = ((a &&& (2 ^ P - 1) : Nat) : Int) := by
  have h : 2 ^ P ≤ 2 ^ 4 := Nat.pow_le_pow_right (by decide) hP
  have h1 : ∀ a : Nat, a < 16 → ∀ b : Nat, b < 16 → bits .and .i64 (a : Int) (b : Int) = ((a &&& b : Nat) : Int) := by decide +kernel
  exact h1 a ha _ (by omega)

set_option maxHeartbeats 1000000 in
theorem rowLists_any (n x k : Int) (w : World) :
    Calls Try.prog 148 #[.agg #[.int .i64 n, .int .i64 x], .int .i64 k] w fun e w' => e = .returned (.func (.func 191) #[] #[.pointer (some ⟨w.heap.size, 0, none⟩), .pointer (some ⟨w.heap.size + 1, 0, none⟩)]) ∧
      w' = (w.alloc (.cells #[.int .i64 n, .int .i64 x] 23)).alloc (.cells #[.int .i64 k] 2) := by
  go_enter Try.func148, Try.ntmps148
  go_wp2
  go_ret
  exact ⟨rfl, rfl⟩

set_option maxRecDepth 100000 in
set_option maxHeartbeats 8000000 in
theorem rowLists1_in {x R m : Nat} (ok : FOk (m : Int) x R) (m4 : m ≤ 4) {P Q : Nat} (hP0 : 0 ≤ (P : Int)) (hP4 : (P : Int) ≤ 4) (Q0 : 0 < Q) (Q16 : Q ≤ 16) (hQr : Hid (rowsN (P : Int) = (Q : Int))) (hQ : Q = 2 ^ P) (l Bf Bn K : Nat) (J Jx : List OutV → World → Prop) (hJ : Firm K J) (hJx : Firm K Jx)
    (W : World) (p0 : W.cell? ⟨Bf, 0, none⟩ = some (.int .i64 (m : Int))) (p1 : W.cell? ⟨Bf, 1, none⟩ = some (.int .i64 (x : Int))) (r0 : W.cell? ⟨Bn, 0, none⟩ = some (.int .i64 (P : Int))) (hK : K ≤ W.heap.size)
    (hY : ∀ pre z W1, J pre W1 → pre.length < Q ^ m → Vis m K z W1 → YieldAt Fence.wide 1 Try.prog l (encSV z) W1 fun e W' => Above (fun k => K ≤ k ∨ k = Bn) W1 W' ∧ ((e = .returned (.bool true) ∧ J (pre ++ [z]) W') ∨ (e = .returned (.bool false) ∧ Jx (pre ++ [z]) W')))
    (hj : J [] W) :
    CallsIn Fence.wide 3 Try.prog 191 #[.func (.yield l) #[] #[], .pointer (some ⟨Bf, 0, none⟩), .pointer (some ⟨Bn, 0, none⟩)] W fun e W' => (∃ v, e = .returned v) ∧ ((∃ ys, ys.map keyV = linesL x P Q m ∧ J ys W') ∨ (∃ pre, pre.map keyV <+: linesL x P Q m ∧ Jx pre W')) := by
  refine callsIn_of_wp_marks Try.func191 rfl trivial ?_ rfl
  simp only [Try.ntmps191, List.size_toArray, List.length_cons, List.length_nil, Nat.reduceAdd, Nat.reduceSub, Array.replicate_succ, Array.replicate_zero, List.push_toArray, List.append_toArray, List.nil_append, List.cons_append]
  have lf : Bf < W.heap.size := cell_lt p0
  have ln : Bn < W.heap.size := cell_lt r0
  have hP44 : P ≤ 4 := by omega
  obtain ⟨M, hM⟩ : ∃ M, M = 2 ^ P - 1 := ⟨_, rfl⟩
  have hl1 : ∀ w, Calls Try.prog 194 #[.int .i64 (P : Int)] w fun e w' => e = .returned (.int .i64 (M : Int)) ∧ w = w' := by
    have h := lastRow_is hP0 hP4 Q0 Q16 hQr
    have e : (Q : Int) - 1 = (M : Int) := by omega
    rw [e] at h
    exact h
  have HL1 := Lib.hid hl1
  have HM := Lib.hid hM
  clear hM hl1 hQ
  obtain ⟨V, hV⟩ : ∃ V, W.alloc (.cells #[.func (.yield l) #[] #[]] 231) = V := ⟨_, rfl⟩
  have hb : Below W.heap.size W V := by rw [← hV]; exact bnew _ _
  have hbY : V.heap[W.heap.size]? = some (.cells #[.func (.yield l) #[] #[]] 231 (0, 0)) := by rw [← hV]; exact heap_alloc_new _ _
  have hjV : J [] V := by rw [← hV]; exact hJ.alloc _ hj
  have sV : W.heap.size + 1 = V.heap.size := by rw [← hV]; simp
  have hmx : Try.prog.follows .mixedOrders = true := by kernel_rfl
  gi_wp2
  have c0 := kc hb p0
  have c1 := kc hb p1
  have d0 := kc hb r0
  have SV := Lib.hid sV
  try rw [hV]
  clear hV p0 p1 r0 hj sV
  refine wpIn_mono (Q := fun e a w' => match e with | Exit.normal => ∃ X Bc sa cap, a = { tmps := #[.func (.yield l) #[] #[], .pointer (some ⟨Bf, 0, none⟩), .pointer (some ⟨Bn, 0, none⟩), .pointer (some ⟨W.heap.size, 0, none⟩), undef, undef, .agg #[.int .i64 m, .int .i64 x], .int .i64 P, .func (.func 158) #[] #[.pointer (some ⟨Bc, 0, none⟩)], .slice sa Q cap, .func (.func 243) #[] #[.pointer (some ⟨X, 0, none⟩), .pointer (some ⟨X + 1 + 1, 0, none⟩), .pointer (some ⟨X + 1, 0, none⟩)], undef, undef, undef, undef, undef, undef, undef, undef, undef, undef], defers := [] } ∧ Below V.heap.size V w' ∧ Owns w' V.heap.size (.slice sa Q cap) (nI (List.range Q)) ∧ (X + 3 = w'.heap.size ∧ V.heap.size ≤ X) ∧ w'.cell? ⟨X, 0, none⟩ = some (.int .i64 m) ∧ w'.cell? ⟨X, 1, none⟩ = some (.int .i64 x) ∧ w'.cell? ⟨X + 1 + 1, 0, none⟩ = some (.slice sa Q cap) ∧ w'.cell? ⟨X + 1, 0, none⟩ = some (.int .i64 2) | _ => False) ?reg ?rest
  case reg =>
    refine region_wide (fun w' => ((w'.cell? ⟨Bf, 0, none⟩ = some (.int .i64 m) ∧ w'.cell? ⟨Bf, 1, none⟩ = some (.int .i64 x)) ∧ w'.cell? ⟨Bn, 0, none⟩ = some (.int .i64 P)) ∧ Below V.heap.size V w') hmx (by omega) (by rintro ⟨_, _, h⟩; exact h) ?_
    have hHeld : (fun w' => ((w'.cell? ⟨Bf, 0, none⟩ = some (.int .i64 m) ∧ w'.cell? ⟨Bf, 1, none⟩ = some (.int .i64 x)) ∧ w'.cell? ⟨Bn, 0, none⟩ = some (.int .i64 P)) ∧ Below V.heap.size V w') (World.drew V) := ⟨⟨⟨c0, c1⟩, d0⟩, (Below.refl _ _).drew⟩
    change wpAnyH _ _ _ _ _ _ _ _ (World.drew _)
    refine wpAnyH_take (i := 0) (v := ?_) rfl (by kernel_rfl) (by kernel_rfl) (by kernel_rfl) (fun _ _ _ h => h) (Or.inl ⟨by rfl, by intro w hSw; (try dsimp only at hSw); go_simp; try (with_reducible rfl)⟩) (by assumption) ?_
    try simp only [Act.put, List.setIfInBounds_toArray, List.set_cons_zero, List.set_cons_succ, List.getElem_toArray, List.getElem_cons_zero, List.getElem_cons_succ]
    refine wpAnyH_take (i := 1) (v := ?_) rfl (by kernel_rfl) (by kernel_rfl) (by kernel_rfl) (fun _ _ _ h => h) (Or.inl ⟨by rfl, by intro w hSw; (try dsimp only at hSw); go_simp; try (with_reducible rfl)⟩) (by assumption) ?_
    try simp only [Act.put, List.setIfInBounds_toArray, List.set_cons_zero, List.set_cons_succ, List.getElem_toArray, List.getElem_cons_zero, List.getElem_cons_succ]
    refine wpAnyH_ready (rs := [2]) (by kernel_rfl) (by simp) ?_
    refine AllReadyH.cons rfl (fun K hK => ?_) AllReadyH.nil
    go_simp
    refine (rowsOf_any _ _).mono ?_
    rintro e w3 ⟨rfl, rfl⟩
    have cB := (show ((World.drew V).alloc (.cells #[.int .i64 (P : Int)] 2)).cell? ⟨V.heap.size, 0, none⟩ = some (.int .i64 (P : Int)) by simp [go_sem])
    have hb3 := bnew (World.drew V) (.cells #[.int .i64 (P : Int)] 2)
    refine hK _ _ (step_held3 hb3 hHeld) (fun hHeld => ?_)
    clear hK K
    try simp only [Act.put, List.setIfInBounds_toArray, List.set_cons_zero, List.set_cons_succ, List.getElem_toArray, List.getElem_cons_zero, List.getElem_cons_succ]
    refine wpAnyH_ready (rs := [3]) (by kernel_rfl) (by simp) ?_
    refine AllReadyH.cons rfl (fun K hK => ?_) AllReadyH.nil
    go_simp
    refine (collect_rows hP0 hP4 Q0 Q16 hQr V.heap.size _ cB).mono ?_
    rintro e w4 ⟨s4, rfl, o4, hb4⟩
    obtain ⟨sa, cap, rfl⟩ := owns_len o4 (show (nI (List.range Q)).length = Q by rw [nI_length, List.length_range])
    have O4 := Lib.hid o4
    clear o4
    dsimp only
    refine hK _ _ (step_held3 hb4 hHeld) (fun hHeld => ?_)
    clear hK K
    try simp only [Act.put, List.setIfInBounds_toArray, List.set_cons_zero, List.set_cons_succ, List.getElem_toArray, List.getElem_cons_zero, List.getElem_cons_succ]
    refine wpAnyH_ready (rs := [4]) (by kernel_rfl) (by simp) ?_
    refine AllReadyH.cons rfl (fun K hK => ?_) AllReadyH.nil
    go_simp
    refine (stepsOf_anyV _ _ _ _ _ _ _).mono ?_
    rintro e w5 ⟨rfl, rfl⟩
    have hb5 := balloc (balloc (bnew w4 (.cells #[.int .i64 (m : Int), .int .i64 (x : Int)] 23)) (.cells #[.int .i64 2] 2)) (.cells #[.slice sa Q cap] 55)
    refine hK _ _ (step_held3 hb5 hHeld) (fun hHeld => ?_)
    clear hK K
    try simp only [Act.put, List.setIfInBounds_toArray, List.set_cons_zero, List.set_cons_succ, List.getElem_toArray, List.getElem_cons_zero, List.getElem_cons_succ]
    refine wpAnyH_done (by kernel_rfl) ?_ _
    exact ⟨w4.heap.size, V.heap.size, sa, cap, rfl, hHeld.2, ((Owns.mono O4.out (by simp)).below (bnew _ _) |>.below (bnew _ _)).below (bnew _ _), ⟨by simp, by have := hb4.size; simp at this; omega⟩, by simp [go_sem], by simp [go_sem], by simp [go_sem], by simp [go_sem]⟩
  case rest =>
    intro e a w5 hPost
    obtain ⟨rfl, X, Bc, sa, cap, rfl, hb5, o5, ⟨x5, x6⟩, e0, e1, e2, e3⟩ : e = .normal ∧ ∃ X Bc sa cap, a = { tmps := #[.func (.yield l) #[] #[], .pointer (some ⟨Bf, 0, none⟩), .pointer (some ⟨Bn, 0, none⟩), .pointer (some ⟨W.heap.size, 0, none⟩), undef, undef, .agg #[.int .i64 m, .int .i64 x], .int .i64 P, .func (.func 158) #[] #[.pointer (some ⟨Bc, 0, none⟩)], .slice sa Q cap, .func (.func 243) #[] #[.pointer (some ⟨X, 0, none⟩), .pointer (some ⟨X + 1 + 1, 0, none⟩), .pointer (some ⟨X + 1, 0, none⟩)], undef, undef, undef, undef, undef, undef, undef, undef, undef, undef], defers := [] } ∧ Below V.heap.size V w5 ∧ Owns w5 V.heap.size (.slice sa Q cap) (nI (List.range Q)) ∧ (X + 3 = w5.heap.size ∧ V.heap.size ≤ X) ∧ w5.cell? ⟨X, 0, none⟩ = some (.int .i64 m) ∧ w5.cell? ⟨X, 1, none⟩ = some (.int .i64 x) ∧ w5.cell? ⟨X + 1 + 1, 0, none⟩ = some (.slice sa Q cap) ∧ w5.cell? ⟨X + 1, 0, none⟩ = some (.int .i64 2) := by
      cases e <;> first | exact ⟨rfl, hPost⟩ | exact hPost.elim
    clear hPost
    have hj5 := Firm.belowV hJ hjV hb5
    have sV := SV.out
    have s5 := hb5.size
    have hbl : ∀ k, (Value.slice sa Q cap).ownBlock = some k → V.heap.size ≤ k ∧ k < w5.heap.size := fun k e => World.ownsRow.lt o5 k e
    have hmem : ∀ a, a ∈ List.range Q → a < 16 := fun a ha => by have := List.mem_range.1 ha; omega
    have d5 := kc hb5 d0
    have SEQ := steps_seqV ok m4 X (X + 1 + 1) (X + 1) (w5.heap.size + 2) (fun k => K ≤ k ∧ k ≠ w5.heap.size + 1) (.slice sa Q cap) (List.range Q) hmem (by rw [List.length_range]; exact Q16) (fun k hk => ⟨by omega, by omega⟩) (fun k e => ⟨by have := hbl k e; omega, by have := hbl k e; omega⟩) w5 e0 e1 e2 e3 (Owns.mono o5 (Nat.zero_le _)) (3 - 1)
    rw [List.length_range] at SEQ
    gi_wp2_with fail
    refine wpIn_rangeFunc_XV (α := OutV) (Vis := Vis m) rfl (by omega) (T := fun k => K ≤ k ∧ k ≠ w5.heap.size + 1) (gf := 243) (lb := #[.pointer (some ⟨X, 0, none⟩), .pointer (some ⟨X + 1 + 1, 0, none⟩), .pointer (some ⟨X + 1, 0, none⟩)]) rfl trivial (enters_of Try.func243 (by kernel_rfl) rfl) (fun h => h.2 rfl)
      SEQ (fun x W W' row h hg hr => vis_kept m _ x W W' row h hg hr)
      (Below.refl _ _) (fun _ => rfl)
      (fun pre W' => J (pre.map (cutV P)) W' ∧ (W'.heap[W.heap.size]? = some (.cells #[.func (.yield l) #[] #[]] 231 (0, 0)) ∧ W'.cell? ⟨Bn, 0, none⟩ = some (.int .i64 (P : Int))))
      (fun c pre W' => c = .ret ∧ Jx (pre.map (cutV P)) W')
      (Firm.and (fun pre => hJ.mono (by omega) (pre.map (cutV P))) (Firm.and (firm_block (by omega) _) (firm_cell (by omega))))
      (fun c pre A B row hs hg hr => ⟨hs.1, hJx.mono (by omega) _ A B row hs.2 hg hr⟩)
      ⟨hj5, (hb5.block _ (by omega)).trans hbY, d5⟩
      (fun z => { tmps := #[.func (.yield l) #[] #[], .pointer (some ⟨Bf, 0, none⟩), .pointer (some ⟨Bn, 0, none⟩), .pointer (some ⟨W.heap.size, 0, none⟩), z.1, .int .i64 (z.2.2.1 : Int), .agg #[.int .i64 m, .int .i64 x], .int .i64 P, .func (.func 158) #[] #[.pointer (some ⟨Bc, 0, none⟩)], .slice sa Q cap, .func (.func 243) #[] #[.pointer (some ⟨X, 0, none⟩), .pointer (some ⟨X + 1 + 1, 0, none⟩), .pointer (some ⟨X + 1, 0, none⟩)], z.1, .int .i64 (z.2.2.1 : Int), undef, undef, undef, undef, undef, undef, undef, undef], defers := [] }) ?assign ?body ?done ?stop
    case assign =>
      intro l' z W' K' hK'
      unfold encSV
      gi_wp2
      exact hK'
    case body =>
      rintro l' pre z W' ⟨hjp, hy1, hn1⟩ hlenp hvis
      have hYP := hY (pre.map (cutV P)) (cutV P z) W'.drew (Firm.drewV hJ hjp) (by rw [List.length_map]; exact hlenp) ⟨show Owns W'.drew K z.1 (nI z.2.1) from ((Owns.mono hvis.1 (by omega)).below (Below.refl _ _).drew), hvis.2⟩
      obtain ⟨fn, tmps, assign, body, hy, hR⟩ := YieldAt.anyDV (3 - 1 - 1 - 1) hYP
      have cy : W'.cell? ⟨W.heap.size, 0, none⟩ = some (.func (.yield l) #[] #[]) := by simp [World.cell?, hy1]
      have hz := z.2.2.2
      have hand : bits .and .i64 (z.2.2.1 : Int) (M : Int) = (((cutV P z).2.2.1 : Nat) : Int) := by rw [HM.out]; exact and_maskV _ _ hz hP44
      unfold encSV at hy
      have HY1 := Lib.hid hy1
      have HN1 := Lib.hid hn1
      have lY : W.heap.size < W'.heap.size := cell_lt cy
      have FIN := Lib.hid (fun (e : Ending) (W3 : World) (h : Above (fun k => K ≤ k ∨ k = Bn) W'.drew W3 ∧ ((e = .returned (.bool true) ∧ J (pre.map (cutV P) ++ [cutV P z]) W3) ∨ (e = .returned (.bool false) ∧ Jx (pre.map (cutV P) ++ [cutV P z]) W3))) =>
        show ∃ b : Bool, e = .returned (.bool b) ∧ (Above (fun k => K ≤ k ∨ k = Bn) W'.drew W3 ∧ (b = true → J ((pre ++ [z]).map (cutV P)) W3) ∧ (b = false → Jx ((pre ++ [z]).map (cutV P)) W3)) by
          rw [List.map_append]
          rcases h with ⟨ha, ⟨rfl, h2⟩ | ⟨rfl, h2⟩⟩
          · exact ⟨true, rfl, ha, (fun _ => h2), (fun e => by cases e)⟩
          · exact ⟨false, rfl, ha, (fun e => by cases e), fun _ => h2⟩)
      clear hy1 hYP
      have hzc : (cutV P z).1 = z.1 := rfl
      rw [hzc] at hy
      clear hzc
      generalize (cutV P z).2.2.1 = cz at hand hy
      gi_wp2
      refine wpIn_region_any hmx (wpAnyIn_round (F := Fence.wide) l' (by kernel_rfl) _ _ _ _ ?_)
      change wpAnyIn _ _ _ _ _ _ _ _ _ (World.drew _)
      refine wpAnyIn_take (i := 1) (v := ?_) rfl rfl (by kernel_rfl) (by kernel_rfl) (by kernel_rfl) (fun _ _ _ h => h) ⟨Or.inl ⟨by rfl, by intro w; go_simp; try (with_reducible rfl)⟩, fun _ => rfl⟩ ?_
      refine wpAnyIn_take (i := 2) (v := ?_) rfl rfl (by kernel_rfl) (by kernel_rfl) (by kernel_rfl) (fun _ _ _ h => h) ⟨Or.inl ⟨by rfl, by intro w; go_simp; try (with_reducible rfl)⟩, fun _ => rfl⟩ ?_
      refine wpAnyIn_ready (rs := [0, 3]) (by kernel_rfl) (by simp) ?_
      refine AllReadyIn.cons rfl (fun K hK => ?_) ?_
      · go_simp
        refine hK _ _ ?_
        clear hK K
        refine wpAnyIn_ready (rs := [3]) (by kernel_rfl) (by simp) ?_
        refine AllReadyIn.cons rfl (fun K hK => ?_) ?_
        · go_simp
          refine hK _ _ ?_
          clear hK K
          refine wpAnyIn_ready (rs := [4]) (by kernel_rfl) (by simp) ?_
          refine AllReadyIn.cons rfl (fun K hK => ?_) ?_
          · go_simp
            refine ⟨trivial, ?_⟩
            refine (callsIn_wide.2 (HL1.out _)).mono ?_
            rintro e w' ⟨rfl, rfl⟩
            dsimp only
            refine hK _ _ ?_
            clear hK K
            refine wpAnyIn_take (i := 5) (v := ?_) rfl rfl (by kernel_rfl) (by kernel_rfl) (by kernel_rfl) (fun _ _ _ h => h) ⟨Or.inl ⟨by rfl, by intro w; go_simp; try (with_reducible rfl)⟩, fun _ => rfl⟩ ?_
            refine wpAnyIn_ready (rs := [6]) (by kernel_rfl) (by simp) ?_
            refine AllReadyIn.cons rfl (fun K hK => ?_) ?_
            · go_simp
              refine hR.mono ?_
              rintro e W3 hE
              obtain ⟨b3, rfl, ha, hjt, hjf⟩ := FIN.out e W3 hE
              dsimp only
              refine hK _ _ ?_
              clear hK K
              refine wpAnyIn_take (i := 7) (v := ?_) rfl rfl (by kernel_rfl) (by kernel_rfl) (by kernel_rfl) (fun _ _ _ h => h) ⟨Or.inl ⟨by rfl, by intro w; go_simp; try (with_reducible rfl)⟩, fun _ => rfl⟩ ?_
              refine wpAnyIn_done (by kernel_rfl) ?_ _
              cases b3
              · gi_wp2
                exact ⟨⟨⟨ha.size, fun k o hk h0 _ => (ha.same k (.inl (by omega)) (Array.getElem?_eq_some_iff.1 h0).1).trans h0⟩, ⟨ha.size, fun k hk h0 => ha.same k (Or.inl hk.1) h0⟩⟩, rfl, hjf (by first | rfl | trivial)⟩
              · gi_wp2
                exact ⟨⟨⟨ha.size, fun k o hk h0 _ => (ha.same k (.inl (by omega)) (Array.getElem?_eq_some_iff.1 h0).1).trans h0⟩, ⟨ha.size, fun k hk h0 => ha.same k (Or.inl hk.1) h0⟩⟩, hjt (by first | rfl | trivial), (ha.same _ (.inl hK) lY).trans HY1.out, cell_above ha (.inr rfl) HN1.out⟩
            exact AllReadyIn.nil
          exact AllReadyIn.nil
        exact AllReadyIn.nil
      refine AllReadyIn.cons rfl (fun K hK => ?_) ?_
      · go_simp
        refine hK _ _ ?_
        clear hK K
        refine wpAnyIn_ready (rs := [0, 4]) (by kernel_rfl) (by simp) ?_
        refine AllReadyIn.cons rfl (fun K hK => ?_) ?_
        · go_simp
          refine hK _ _ ?_
          clear hK K
          refine wpAnyIn_ready (rs := [4]) (by kernel_rfl) (by simp) ?_
          refine AllReadyIn.cons rfl (fun K hK => ?_) ?_
          · go_simp
            refine ⟨trivial, ?_⟩
            refine (callsIn_wide.2 (HL1.out _)).mono ?_
            rintro e w' ⟨rfl, rfl⟩
            dsimp only
            refine hK _ _ ?_
            clear hK K
            refine wpAnyIn_take (i := 5) (v := ?_) rfl rfl (by kernel_rfl) (by kernel_rfl) (by kernel_rfl) (fun _ _ _ h => h) ⟨Or.inl ⟨by rfl, by intro w; go_simp; try (with_reducible rfl)⟩, fun _ => rfl⟩ ?_
            refine wpAnyIn_ready (rs := [6]) (by kernel_rfl) (by simp) ?_
            refine AllReadyIn.cons rfl (fun K hK => ?_) ?_
            · go_simp
              refine hR.mono ?_
              rintro e W3 hE
              obtain ⟨b3, rfl, ha, hjt, hjf⟩ := FIN.out e W3 hE
              dsimp only
              refine hK _ _ ?_
              clear hK K
              refine wpAnyIn_take (i := 7) (v := ?_) rfl rfl (by kernel_rfl) (by kernel_rfl) (by kernel_rfl) (fun _ _ _ h => h) ⟨Or.inl ⟨by rfl, by intro w; go_simp; try (with_reducible rfl)⟩, fun _ => rfl⟩ ?_
              refine wpAnyIn_done (by kernel_rfl) ?_ _
              cases b3
              · gi_wp2
                exact ⟨⟨⟨ha.size, fun k o hk h0 _ => (ha.same k (.inl (by omega)) (Array.getElem?_eq_some_iff.1 h0).1).trans h0⟩, ⟨ha.size, fun k hk h0 => ha.same k (Or.inl hk.1) h0⟩⟩, rfl, hjf (by first | rfl | trivial)⟩
              · gi_wp2
                exact ⟨⟨⟨ha.size, fun k o hk h0 _ => (ha.same k (.inl (by omega)) (Array.getElem?_eq_some_iff.1 h0).1).trans h0⟩, ⟨ha.size, fun k hk h0 => ha.same k (Or.inl hk.1) h0⟩⟩, hjt (by first | rfl | trivial), (ha.same _ (.inl hK) lY).trans HY1.out, cell_above ha (.inr rfl) HN1.out⟩
            exact AllReadyIn.nil
          exact AllReadyIn.nil
        refine AllReadyIn.cons rfl (fun K hK => ?_) ?_
        · go_simp
          refine ⟨trivial, ?_⟩
          refine (callsIn_wide.2 (HL1.out _)).mono ?_
          rintro e w' ⟨rfl, rfl⟩
          dsimp only
          refine hK _ _ ?_
          clear hK K
          refine wpAnyIn_take (i := 5) (v := ?_) rfl rfl (by kernel_rfl) (by kernel_rfl) (by kernel_rfl) (fun _ _ _ h => h) ⟨Or.inl ⟨by rfl, by intro w; go_simp; try (with_reducible rfl)⟩, fun _ => rfl⟩ ?_
          refine wpAnyIn_ready (rs := [0]) (by kernel_rfl) (by simp) ?_
          refine AllReadyIn.cons rfl (fun K hK => ?_) ?_
          · go_simp
            refine hK _ _ ?_
            clear hK K
            refine wpAnyIn_ready (rs := [6]) (by kernel_rfl) (by simp) ?_
            refine AllReadyIn.cons rfl (fun K hK => ?_) ?_
            · go_simp
              refine hR.mono ?_
              rintro e W3 hE
              obtain ⟨b3, rfl, ha, hjt, hjf⟩ := FIN.out e W3 hE
              dsimp only
              refine hK _ _ ?_
              clear hK K
              refine wpAnyIn_take (i := 7) (v := ?_) rfl rfl (by kernel_rfl) (by kernel_rfl) (by kernel_rfl) (fun _ _ _ h => h) ⟨Or.inl ⟨by rfl, by intro w; go_simp; try (with_reducible rfl)⟩, fun _ => rfl⟩ ?_
              refine wpAnyIn_done (by kernel_rfl) ?_ _
              cases b3
              · gi_wp2
                exact ⟨⟨⟨ha.size, fun k o hk h0 _ => (ha.same k (.inl (by omega)) (Array.getElem?_eq_some_iff.1 h0).1).trans h0⟩, ⟨ha.size, fun k hk h0 => ha.same k (Or.inl hk.1) h0⟩⟩, rfl, hjf (by first | rfl | trivial)⟩
              · gi_wp2
                exact ⟨⟨⟨ha.size, fun k o hk h0 _ => (ha.same k (.inl (by omega)) (Array.getElem?_eq_some_iff.1 h0).1).trans h0⟩, ⟨ha.size, fun k hk h0 => ha.same k (Or.inl hk.1) h0⟩⟩, hjt (by first | rfl | trivial), (ha.same _ (.inl hK) lY).trans HY1.out, cell_above ha (.inr rfl) HN1.out⟩
            exact AllReadyIn.nil
          exact AllReadyIn.nil
        exact AllReadyIn.nil
      exact AllReadyIn.nil
    case done =>
      rintro D xs W' hD ⟨sp, rfl⟩ ⟨hjx, _⟩ hKd
      gi_wp2
      refine ⟨by simp, .inl ⟨_, _, rfl, run_takeDeferred hKd, ?_⟩⟩
      exact ⟨_, results_none rfl _ _ _, ⟨_, rfl⟩, .inl ⟨_, cutV_outs hP44 sp x Q m, hJ.put D _ hjx (by omega)⟩⟩
    case stop =>
      rintro D c pre W' hD ⟨sp, hsp⟩ ⟨rfl, hq⟩ hKd
      gi_wp2
      refine ⟨by simp, .inl ⟨_, _, rfl, run_takeDeferred hKd, ?_⟩⟩
      exact ⟨_, results_none rfl _ _ _, ⟨_, rfl⟩, .inr ⟨_, cutV_pref hP44 sp x Q m _ hsp, hJx.put D _ hq (by omega)⟩⟩

theorem rowLists_seq {x R m : Nat} (ok : FOk (m : Int) x R) (m4 : m ≤ 4) {P Q : Nat} (hP0 : 0 ≤ (P : Int)) (hP4 : (P : Int) ≤ 4) (Q0 : 0 < Q) (Q16 : Q ≤ 16) (hQr : Hid (rowsN (P : Int) = (Q : Int))) (hQ : Q = 2 ^ P) (Bf Bn K n : Nat)
    (w : World) (p0 : w.cell? ⟨Bf, 0, none⟩ = some (.int .i64 (m : Int))) (p1 : w.cell? ⟨Bf, 1, none⟩ = some (.int .i64 (x : Int))) (r0 : w.cell? ⟨Bn, 0, none⟩ = some (.int .i64 (P : Int))) :
    SeqXV Fence.wide n Try.prog 191 #[.pointer (some ⟨Bf, 0, none⟩), .pointer (some ⟨Bn, 0, none⟩)] encSV (fun ys => ys.map keyV = linesL x P Q m) (fun ys => ys.map keyV <+: linesL x P Q m) (Q ^ m) K (fun k => K ≤ k ∨ k = Bn) (Vis m) w := by
  intro l J Jx W hW hK hJ hJx hY hj
  exact callsIn_wide.2 (callsIn_wide.1 (rowLists1_in ok m4 hP0 hP4 Q0 Q16 hQr hQ l Bf Bn K J Jx hJ hJx W (kc hW p0) (kc hW p1) (kc hW r0) hK (fun pre z W1 h1 h2 h3 => YieldAt.anyDV 1 (hY pre z W1 h1 h2 h3)) hj))
end Go.Proofs.Ytdgpjpcdifpllaa

/- CM2:
  areCommuting of the program. -/
namespace Go.Proofs.Ytdgpjpcdifpllaa
open Go.RowKit Go.Shelf
attribute [local go_sem] Oper.semAt_some
set_option linter.unusedVariables false
set_option linter.unusedSimpArgs false

/-- A list of rows, with the row of the columns' values, does not show that f and g do not commute. -/
def agL (x y : Nat) (l : List Nat × Nat) : Bool := bitN x (rowS y l.1) == bitN y l.2
def comB (x y m P Q : Nat) : Bool := (linesL x P Q m).all (agL x y)

theorem above_keepsV {K : Nat} {W W' : World} (h : Below W.heap.size W W') (S : Nat → Prop) : KeepsFrom K W W' ∧ Above S W W' :=
  ⟨⟨h.size, fun k o _ hk _ => (h.block k (Array.getElem?_eq_some_iff.1 hk).1).trans hk⟩, Above.below h⟩

set_option maxRecDepth 100000 in
set_option maxHeartbeats 8000000 in
theorem areCommuting_any {x R m : Nat} (ok : FOk (m : Int) x R) (m4 : m ≤ 4) {y Q P : Nat} (okg : FOk (P : Int) y Q) (w : World) :
    Calls Try.prog 110 #[.agg #[.int .i64 m, .int .i64 x], .agg #[.int .i64 P, .int .i64 y]] w fun e w' => e = .returned (.bool (comB x y m P Q)) ∧ Below w.heap.size w w' := by
  have hQ : Q = 2 ^ P := by have := okg.he; simpa using this
  have hq16 := okg.r16
  have hLL := linesL_len x P Q m
  have HKN := Lib.hid (show comB x y m P Q = (linesL x P Q m).all (agL x y) from rfl)
  obtain ⟨W0, hW0⟩ : ∃ W0, ((((w.alloc (.cells #[.int .i64 m, .int .i64 x] 23)).alloc (.cells #[.int .i64 P, .int .i64 y] 23)).alloc (.cells #[.bool false] 4)).alloc (.cells #[.int .i64 m, .int .i64 x] 23)).alloc (.cells #[.int .i64 P] 2) = W0 := ⟨_, rfl⟩
  refine (callsIn_wide (n := 3)).1 ?_
  refine callsIn_of_wp_marks Try.func110 rfl trivial ?_ rfl
  simp only [Try.ntmps110, List.size_toArray, List.length_cons, List.length_nil, Nat.reduceAdd, Nat.reduceSub, Array.replicate_succ, Array.replicate_zero, List.push_toArray, List.append_toArray, List.nil_append, List.cons_append]
  gi_wp2_with (refine ⟨trivial, ?_⟩; gi_at_call 148; refine (callsIn_wide.2 (rowLists_any _ _ _ _)).mono ?_; rintro e w' ⟨rfl, rfl⟩)
  have sz : W0.heap.size = w.heap.size + 5 := by rw [← hW0]; simp
  have hB0 : Below w.heap.size w W0 := by rw [← hW0]; exact balloc (balloc (balloc (balloc (bnew _ _) _) _) _) _
  have f0 : W0.cell? ⟨w.heap.size + 1 + 1 + 1, 0, none⟩ = some (.int .i64 (m : Int)) := by rw [← hW0]; simp [go_sem]
  have f1 : W0.cell? ⟨w.heap.size + 1 + 1 + 1, 1, none⟩ = some (.int .i64 (x : Int)) := by rw [← hW0]; simp [go_sem]
  have r0 : W0.cell? ⟨w.heap.size + 1 + 1 + 1 + 1, 0, none⟩ = some (.int .i64 (P : Int)) := by rw [← hW0]; simp [go_sem]
  have a0 : W0.cell? ⟨w.heap.size, 0, none⟩ = some (.int .i64 (m : Int)) := by rw [← hW0]; simp [go_sem]
  have a1 : W0.cell? ⟨w.heap.size, 1, none⟩ = some (.int .i64 (x : Int)) := by rw [← hW0]; simp [go_sem]
  have b0 : W0.cell? ⟨w.heap.size + 1, 0, none⟩ = some (.int .i64 (P : Int)) := by rw [← hW0]; simp [go_sem]
  have b1 : W0.cell? ⟨w.heap.size + 1, 1, none⟩ = some (.int .i64 (y : Int)) := by rw [← hW0]; simp [go_sem]
  have hbg0 : W0.heap[w.heap.size + 1 + 1]? = some (.cells #[.bool false] 4 (0, 0)) := by
    rw [← hW0]
    have e := heap_alloc_new ((w.alloc (.cells #[.int .i64 m, .int .i64 x] 23)).alloc (.cells #[.int .i64 P, .int .i64 y] 23)) (.cells #[.bool false] 4)
    rw [World.size_alloc, World.size_alloc] at e
    exact (Below.heap_alloc _ _ _ (by simp <;> omega)).trans ((Below.heap_alloc _ _ _ (by simp)).trans e)
  try rw [hW0]
  have hbg : Boxed W0 (w.heap.size + 1 + 1) 4 (.bool false) := hbg0
  clear hW0 hbg0
  refine wpIn_rangeFunc_XV (α := OutV) (Vis := Vis m) rfl (by omega) (T := fun k => W0.heap.size + 2 ≤ k ∨ k = w.heap.size + 1 + 1 + 1 + 1) (gf := 191) (lb := #[.pointer (some ⟨w.heap.size + 1 + 1 + 1, 0, none⟩), .pointer (some ⟨w.heap.size + 1 + 1 + 1 + 1, 0, none⟩)]) rfl trivial (enters_of Try.func191 (by kernel_rfl) rfl) (by omega)
    (rowLists_seq ok m4 okg.h0 okg.h4 okg.r0 okg.r16 okg.hR hQ (w.heap.size + 1 + 1 + 1) (w.heap.size + 1 + 1 + 1 + 1) (W0.heap.size + 2) (3 - 1) W0 f0 f1 r0)
    (fun x W W' row h hg hr => vis_kept m _ x W W' row h hg hr)
    (Below.refl _ _) (fun _ => rfl)
    (fun pre W => (∀ t, t ∈ pre.map keyV → agL x y t = true) ∧ (((W.cell? ⟨w.heap.size, 0, none⟩ = some (.int .i64 m) ∧ W.cell? ⟨w.heap.size, 1, none⟩ = some (.int .i64 x)) ∧ (W.cell? ⟨w.heap.size + 1, 0, none⟩ = some (.int .i64 P) ∧ W.cell? ⟨w.heap.size + 1, 1, none⟩ = some (.int .i64 y))) ∧ (W.heap[w.heap.size + 1 + 1]? = some (.cells #[.bool false] 4 (0, 0)) ∧ Below w.heap.size w W)))
    (fun c pre W => (c = .ret ∧ ∃ t, t ∈ pre.map keyV ∧ agL x y t = false) ∧ (W.heap[w.heap.size + 1 + 1]? = some (.cells #[.bool false] 4 (0, 0)) ∧ Below w.heap.size w W))
    (Firm.and (firm_pure _ (fun (pre : List OutV) => ∀ t, t ∈ pre.map keyV → agL x y t = true)) (Firm.and (Firm.and (Firm.and (firm_cell (by omega)) (firm_cell (by omega))) (Firm.and (firm_cell (by omega)) (firm_cell (by omega)))) (Firm.and (firm_block (by omega) _) (firm_below (by omega) (Nat.le_refl _)))))
    (fun c => Firm.and (firm_pure _ (fun (pre : List OutV) => c = .ret ∧ ∃ t, t ∈ pre.map keyV ∧ agL x y t = false)) (Firm.and (firm_block (by omega) _) (firm_below (by omega) (Nat.le_refl _))))
    ⟨fun t ht => (by simp at ht), ⟨⟨a0, a1⟩, ⟨b0, b1⟩⟩, hbg, hB0⟩
    (fun z => { tmps := #[.agg #[.int .i64 m, .int .i64 x], .agg #[.int .i64 P, .int .i64 y], .pointer (some ⟨w.heap.size, 0, none⟩), .pointer (some ⟨w.heap.size + 1, 0, none⟩), .pointer (some ⟨w.heap.size + 1 + 1, 0, none⟩), z.1, .int .i64 (z.2.2.1 : Int), .agg #[.int .i64 m, .int .i64 x], .pointer (some ⟨w.heap.size + 1, 0, none⟩), .int .i64 P, .func (.func 191) #[] #[.pointer (some ⟨w.heap.size + 1 + 1 + 1, 0, none⟩), .pointer (some ⟨w.heap.size + 1 + 1 + 1 + 1, 0, none⟩)], z.1, .int .i64 (z.2.2.1 : Int), undef, undef, undef, undef, undef, undef], defers := [] }) ?assign ?body ?done ?stop
  case assign =>
    intro l z W K hK
    unfold encSV
    gi_wp2
    exact hK
  case body =>
    clear hbg hB0 f0 f1 r0 a0 a1 b0 b1
    rintro l pre z W ⟨hall, ⟨⟨a0, a1⟩, ⟨b0, b1⟩⟩, hg, hB⟩ hlen ⟨hown, hzl, hzb⟩
    have AG0 := fun W2 (hW2 : Below W.heap.size W W2) => agreeAt_any ok m4 (n := (P : Int)) (y := y) okg.hx (base := W0.heap.size + 2) (s := z.1) (p := z.2.1) hzl (fun a ha => Nat.lt_trans (hzb a ha) (by decide)) z.2.2.1 (Nat.lt_trans z.2.2.2 (by decide)) W2 (hown.below hW2)
    have HG := Lib.hid hg
    have HA := Lib.hid (And.intro (And.intro a0 a1) (And.intro b0 b1))
    obtain ⟨ag, hag⟩ : ∃ ag, ag = (bitN x (rowS y z.2.1) == bitN y z.2.2.1) := ⟨_, rfl⟩
    rw [← hag] at AG0
    have AG := Lib.hid AG0
    have hsz := hB.size
    clear AG0 hown hzl hzb hg
    cases ag
    · have HEX : Hid (∃ t, t ∈ (pre ++ [z]).map keyV ∧ agL x y t = false) := Lib.hid ⟨keyV z, by simp, hag.symm⟩
      clear hall hag
      have lg := (Array.getElem?_eq_some_iff.1 HG.out).1
      gi_wp2_with (refine ⟨trivial, ?_⟩; gi_at_call 150; refine (callsIn_wide.2 (AG.out _ (Below.refl _ _))).mono ?_; rintro e w2 ⟨rfl, hb2⟩; have hg2 := Lib.hid ((hb2.block _ lg).trans HG.out); have g0 := Boxed.cell (show Boxed w2 (w.heap.size + 1 + 1) 4 (.bool false) from hg2.out); have g1 := Boxed.frozen (show Boxed w2 (w.heap.size + 1 + 1) 4 (.bool false) from hg2.out))
      obtain ⟨k1, k2⟩ := above_keepsV (K := W0.heap.size) hb2 (fun k => W0.heap.size + 2 ≤ k ∨ k = w.heap.size + 1 + 1 + 1 + 1)
      exact ⟨⟨k1.trans ((KeepsOthers.setCell _ _ _).from _), k2.trans (Above.grown (grownSet _ _ _ _) (fun r e => by cases e; omega))⟩, ⟨rfl, HEX.out⟩, Boxed.set (.bool false) hg2.out, (bthen hB hb2).setCell (p := ⟨w.heap.size + 1 + 1, 0, none⟩) (by show w.heap.size ≤ w.heap.size + 1 + 1; omega) _⟩
    · have HALL : Hid (∀ t, t ∈ (pre ++ [z]).map keyV → agL x y t = true) := Lib.hid fun t h => by
        rw [List.map_append, List.mem_append] at h
        rcases h with h | h
        · exact hall t h
        · simp at h; rw [h]; exact hag.symm
      clear hall hag
      have lg := (Array.getElem?_eq_some_iff.1 HG.out).1
      gi_wp2_with (refine ⟨trivial, ?_⟩; gi_at_call 150; refine (callsIn_wide.2 (AG.out _ (Below.refl _ _))).mono ?_; rintro e w2 ⟨rfl, hb2⟩)
      exact ⟨above_keepsV hb2 _, HALL.out, ⟨⟨kc hb2 HA.out.1.1, kc hb2 HA.out.1.2⟩, ⟨kc hb2 HA.out.2.1, kc hb2 HA.out.2.2⟩⟩, (hb2.block _ lg).trans HG.out, bthen hB hb2⟩
  case done =>
    clear hbg hB0 f0 f1 r0 a0 a1 b0 b1
    rintro D ys W hD hys ⟨hall, _, hg, hB⟩ hKd
    have g0 : W.cell? ⟨w.heap.size + 1 + 1, 0, none⟩ = some (.bool false) := Boxed.cell hg
    have g1 : W.frozen? ⟨w.heap.size + 1 + 1, 0, none⟩ = false := Boxed.frozen hg
    have hk : comB x y m P Q = true := by
      rw [HKN.out, ← hys, List.all_eq_true]
      exact hall
    have HKK := Lib.hid hk
    clear hk
    have h1 := Boxed.cell (Boxed.set (.bool true) hg)
    have hKd' := (KeepsOthers.setCell W ⟨w.heap.size + 1 + 1, 0, none⟩ (.bool true)).same D _ hKd rfl
    have h2 := cell_kept h1 (grownBy_putObj' _ D (.deferred none)) (fun r e => by cases e; exact ⟨_, hKd', rfl⟩)
    have HG := Lib.hid hg
    clear hg h1
    gi_wp2
    refine ⟨by simp, .inl ⟨_, _, rfl, run_takeDeferred hKd', ?_⟩⟩
    refine ⟨.bool true, by simp [results, Try.results110, go_sem, h2], by rw [HKK.out], ?_⟩
    exact (hB.setCell (p := ⟨w.heap.size + 1 + 1, 0, none⟩) (by show w.heap.size ≤ w.heap.size + 1 + 1; omega) _).trans (belowK_b (w := w) (Nat.le_refl _) _ D _ _ (by omega) hKd' rfl rfl)
  case stop =>
    clear hbg hB0 f0 f1 r0 a0 a1 b0 b1
    rintro D c pre W hD hpre ⟨⟨rfl, t, ht, hb⟩, hg, hB⟩ hKd
    have hk : comB x y m P Q = false := by
      rw [HKN.out]
      cases hc : (linesL x P Q m).all (agL x y)
      · rfl
      · have := List.all_eq_true.1 hc t (hpre.subset ht)
        rw [hb] at this
        cases this
    have HKK := Lib.hid hk
    clear hk
    have h1 := Boxed.cell hg
    have h2 := cell_kept h1 (grownBy_putObj' _ D (.deferred none)) (fun r e => by cases e; exact ⟨_, hKd, rfl⟩)
    gi_wp2
    refine ⟨by simp, .inl ⟨_, _, rfl, run_takeDeferred hKd, ?_⟩⟩
    refine ⟨.bool false, by simp [results, Try.results110, go_sem, h2], by rw [HKK.out], ?_⟩
    exact hB.trans (belowK_b (w := w) (Nat.le_refl _) _ D _ _ (by omega) hKd rfl rfl)
end Go.Proofs.Ytdgpjpcdifpllaa

/- K7:
  The classes in the model: l02In. -/
namespace Go.Proofs.Ytdgpjpcdifpllaa
open Go.RowKit

theorem l01At_zero {n : Int} {x R : Nat} (ok : FOk n x R) (w : World) :
    Calls Try.prog 107 #[.agg #[.int .i64 n, .int .i64 (x : Int)], .int .i64 0] w fun e w' => e = .returned (.int .i64 (bitN x 0 : Int)) ∧ Below w.heap.size w w' := l01At_any n x 0 ok.hx (by omega) w
/-- The digit at a place that is told as an integer. -/
def bitI (x : Nat) (i : Int) : Nat := bitN x i.toNat
theorem bitI_nat (x i : Nat) : bitI x (i : Int) = bitN x i := rfl
theorem bitI_zero (x : Nat) : bitI x 0 = bitN x 0 := rfl
theorem bitI_mirror {x R k : Nat} (h : k < R) : bitI x ((R : Int) - 1 - (k : Int)) = bitN x (R - 1 - k) := by
  unfold bitI
  rw [show ((R : Int) - 1 - (k : Int)).toNat = R - 1 - k by omega]
theorem l01At_int {n : Int} {x R : Nat} (ok : FOk n x R) (i : Int) (h0 : 0 ≤ i) (h1 : i < 62) (w : World) :
    Calls Try.prog 107 #[.agg #[.int .i64 n, .int .i64 (x : Int)], .int .i64 i] w fun e w' => e = .returned (.int .i64 (bitI x i : Int)) ∧ Below w.heap.size w w' := by
  obtain ⟨j, rfl⟩ := Int.eq_ofNat_of_zero_le h0
  exact l01At_any n x j ok.hx (by omega) w
theorem l01At_last {n : Int} {x R : Nat} (ok : FOk n x R) (w : World) :
    Calls Try.prog 107 #[.agg #[.int .i64 n, .int .i64 (x : Int)], .int .i64 ((R : Int) - 1)] w fun e w' => e = .returned (.int .i64 (bitN x (R - 1) : Int)) ∧ Below w.heap.size w w' := by
  have r0 := ok.r0
  have r16 := ok.r16
  rw [show (R : Int) - 1 = ((R - 1 : Nat) : Int) by omega]
  exact l01At_any n x (R - 1) ok.hx (by omega) w

set_option maxRecDepth 100000 in
set_option maxHeartbeats 1000000 in
theorem l02In_0 {n : Int} {x R : Nat} (ok : FOk n x R) (w : World) :
    Calls Try.prog 231 #[.agg #[.int .i64 n, .int .i64 (x : Int)], .int .i64 0] w fun e w' => e = .returned (.bool (cls0 x)) ∧ Below w.heap.size w w' := by
  go_enter Try.func231, Try.ntmps231
  go_wp2_with fail
  refine (l01Rows_is ok.h0 ok.h4 ok.hR _).mono ?_
  rintro e w' ⟨rfl, rfl⟩
  go_wp2_with fail
  refine (l01At_zero ok _).mono ?_
  rintro e w2 ⟨rfl, hb2⟩
  go_wp2
  go_ret
  refine ⟨ret_bool ?_, bthen (bnew _ _) hb2⟩
  unfold cls0
  rw [Bool.eq_iff_iff]
  simp
  try omega

set_option maxRecDepth 100000 in
set_option maxHeartbeats 1000000 in
theorem l02In_1 {n : Int} {x R : Nat} (ok : FOk n x R) (w : World) :
    Calls Try.prog 231 #[.agg #[.int .i64 n, .int .i64 (x : Int)], .int .i64 1] w fun e w' => e = .returned (.bool (cls1 x R)) ∧ Below w.heap.size w w' := by
  have r0 := ok.r0
  have r16 := ok.r16
  go_enter Try.func231, Try.ntmps231
  go_wp2_with fail
  refine (l01Rows_is ok.h0 ok.h4 ok.hR _).mono ?_
  rintro e w' ⟨rfl, rfl⟩
  go_wp2_with fail
  refine (l01At_last ok _).mono ?_
  rintro e w2 ⟨rfl, hb2⟩
  go_wp2
  go_ret
  refine ⟨ret_bool ?_, bthen (bnew _ _) hb2⟩
  unfold cls1
  rw [Bool.eq_iff_iff]
  simp
  try omega

/-- Rows below k differ from those opposite. -/
def dualTo (x R k : Nat) : Bool := allLt k fun i => bitN x i != bitN x (R - 1 - i)
theorem dualTo_succ (x R k : Nat) : dualTo x R (k + 1) = (dualTo x R k && bitN x k != bitN x (R - 1 - k)) := allLt_succ _ _
theorem dualTo_false {x R k m : Nat} (hk : k < m) (h : bitN x k = bitN x (R - 1 - k)) : dualTo x R m = false := by
  cases hc : dualTo x R m
  · rfl
  · have := allLt_iff.1 hc k hk
    rw [h] at this
    simp at this

set_option maxRecDepth 100000 in
set_option maxHeartbeats 2000000 in
theorem l02In_2 {n : Int} {x R : Nat} (ok : FOk n x R) (w : World) :
    Calls Try.prog 231 #[.agg #[.int .i64 n, .int .i64 (x : Int)], .int .i64 2] w fun e w' => e = .returned (.bool (cls2 x R)) ∧ Below w.heap.size w w' := by
  have r0 := ok.r0
  have r16 := ok.r16
  obtain ⟨W1, hW1⟩ : ∃ W1, w.alloc (.cells #[.int .i64 n, .int .i64 (x : Int)] 23) = W1 := ⟨_, rfl⟩
  have p0 : W1.cell? ⟨w.heap.size, 0, none⟩ = some (.int .i64 n) := by rw [← hW1]; simp [go_sem]
  have p1 : W1.cell? ⟨w.heap.size, 1, none⟩ = some (.int .i64 (x : Int)) := by rw [← hW1]; simp [go_sem]
  have hB : Below w.heap.size w W1 := by rw [← hW1]; exact bnew _ _
  go_enter Try.func231, Try.ntmps231
  go_wp2_with (go_at_call 106; refine (l01Rows_is ok.h0 ok.h4 ok.hR _).mono ?_; rintro e w' ⟨rfl, rfl⟩)
  clear hW1
  go_loopw [6] (fun i' wr => ∃ k : Nat, k ≤ R ∧ i' = .int .i64 k ∧ Hid (dualTo x R k = true) ∧ ((wr.cell? ⟨w.heap.size, 0, none⟩ = some (.int .i64 n) ∧ wr.cell? ⟨w.heap.size, 1, none⟩ = some (.int .i64 (x : Int))) ∧ Below w.heap.size w wr))
    (fun i' _ => R - (intOf i').toNat)
  case atStart => exact ⟨0, by omega, rfl, Lib.hid rfl, ⟨p0, p1⟩, hB⟩
  case round =>
    clear p0 p1 hB
    obtain ⟨k, hk, rfl, hm, ⟨p0, p1⟩, hB⟩ := hrel
    by_cases hlt : k < R
    · have hs1 : IntKind.i64.wrap ((R : Int) - 1) = (R : Int) - 1 := IntWalk.i64_in _ (by omega)
      have hs2 : IntKind.i64.wrap ((R : Int) - 1 - (k : Int)) = (R : Int) - 1 - (k : Int) := IntWalk.i64_in _ (by omega)
      by_cases he : bitN x k = bitN x (R - 1 - k)
      · have ht : ((bitI x (k : Int) : Int) == (bitI x ((R : Int) - 1 - (k : Int)) : Int)) = true := by rw [bitI_mirror hlt, bitI_nat]; simp [he]
        have HR := Lib.hid (dualTo_false (m := R) hlt he)
        clear he
        go_wp2
        go_region_held3 (fun w' => (w'.cell? ⟨w.heap.size, 0, none⟩ = some (.int .i64 n) ∧ w'.cell? ⟨w.heap.size, 1, none⟩ = some (.int .i64 (x : Int))) ∧ Below w.heap.size w w') (first | exact ⟨⟨p0, p1⟩, hB.drew⟩ | exact step_held2 hb1 (by assumption))
          (first
            | (go_at_call 107; refine (l01At_int ok _ (by omega) (by omega) _).mono ?_; rintro e w' ⟨rfl, hb1⟩))
        go_wp2
        go_ret
        exact ⟨by show _ = Ending.returned (.bool (dualTo x R R)); rw [HR.out]; rfl, (‹(_ ∧ _) ∧ Below _ _ _›).2⟩
      · have ht : ((bitI x (k : Int) : Int) == (bitI x ((R : Int) - 1 - (k : Int)) : Int)) = false := by rw [bitI_mirror hlt, bitI_nat]; simp; omega
        have HR := Lib.hid (show dualTo x R (k + 1) = true by rw [dualTo_succ, hm.out]; simpa using he)
        clear he
        go_wp2
        go_region_held3 (fun w' => (w'.cell? ⟨w.heap.size, 0, none⟩ = some (.int .i64 n) ∧ w'.cell? ⟨w.heap.size, 1, none⟩ = some (.int .i64 (x : Int))) ∧ Below w.heap.size w w') (first | exact ⟨⟨p0, p1⟩, hB.drew⟩ | exact step_held2 hb1 (by assumption))
          (first
            | (go_at_call 107; refine (l01At_int ok _ (by omega) (by omega) _).mono ?_; rintro e w' ⟨rfl, hb1⟩))
        go_wp2
        go_roundw
        case rel => exact ⟨k + 1, by omega, by go_num, HR, ‹(_ ∧ _) ∧ Below _ _ _›⟩
        case measure => simp [intOf]; omega
    · obtain rfl : k = R := by omega
      go_wp2
      go_ret
      exact ⟨by show _ = Ending.returned (.bool (dualTo x k k)); rw [hm.out]; rfl, hB⟩
end Go.Proofs.Ytdgpjpcdifpllaa

/- K8:
  The classes in the model: the monotone ones. -/
namespace Go.Proofs.Ytdgpjpcdifpllaa
open Go.RowKit

theorem pow_bits : ∀ v : Nat, v < 4 → (wrap64 (2 ^ v) = ((2 ^ v : Nat) : Int)) ∧ ∀ i : Nat, i < 16 → ((bits .and .i64 (i : Int) ((2 ^ v : Nat) : Int) == 0) = (bitN i v == 0)) ∧ bits .or .i64 (i : Int) ((2 ^ v : Nat) : Int) = ((i ||| 2 ^ v : Nat) : Int) ∧ bits .xor .i64 (i : Int) ((2 ^ v : Nat) : Int) = ((i ^^^ 2 ^ v : Nat) : Int) ∧ i ||| 2 ^ v < 16 ∧ i ^^^ 2 ^ v < 16 := by decide +kernel

/-- No fall at row i by the variables below k. -/
def upTo (x i k : Nat) : Bool := allLt k fun v => up1 x i v
theorem upTo_succ (x i k : Nat) : upTo x i (k + 1) = (upTo x i k && up1 x i k) := allLt_succ _ _
/-- .. at the rows below j. -/
def upRows (n x j : Nat) : Bool := allLt j fun i => upTo x i n
theorem upRows_succ (n x j : Nat) : upRows n x (j + 1) = (upRows n x j && upTo x j n) := allLt_succ _ _
theorem upRows_false {n x i k m : Nat} (hi : i < m) (hk : k < n) (h : up1 x i k = false) : upRows n x m = false := by
  cases hc : upRows n x m
  · rfl
  · have := allLt_iff.1 (allLt_iff.1 hc i hi) k hk
    rw [h] at this
    cases this

set_option maxRecDepth 100000 in
set_option maxHeartbeats 4000000 in
theorem l02In_3 {n : Int} {x R : Nat} (ok : FOk n x R) (w : World) :
    Calls Try.prog 231 #[.agg #[.int .i64 n, .int .i64 (x : Int)], .int .i64 3] w fun e w' => e = .returned (.bool (cls3 n.toNat x R)) ∧ Below w.heap.size w w' := by
  have r0 := ok.r0
  have r16 := ok.r16
  have h4 := ok.h4
  have h0 := ok.h0
  show Calls _ _ _ _ fun e w' => e = .returned (.bool (upRows n.toNat x R)) ∧ Below w.heap.size w w'
  obtain ⟨W1, hW1⟩ : ∃ W1, w.alloc (.cells #[.int .i64 n, .int .i64 (x : Int)] 23) = W1 := ⟨_, rfl⟩
  have p0 : W1.cell? ⟨w.heap.size, 0, none⟩ = some (.int .i64 n) := by rw [← hW1]; simp [go_sem]
  have p1 : W1.cell? ⟨w.heap.size, 1, none⟩ = some (.int .i64 (x : Int)) := by rw [← hW1]; simp [go_sem]
  have hB : Below w.heap.size w W1 := by rw [← hW1]; exact bnew _ _
  go_enter Try.func231, Try.ntmps231
  go_wp2_with (go_at_call 106; refine (l01Rows_is ok.h0 ok.h4 ok.hR _).mono ?_; rintro e w' ⟨rfl, rfl⟩)
  clear hW1
  go_loopw [7] (fun i' wr => ∃ i : Nat, i ≤ R ∧ i' = .int .i64 i ∧ Hid (upRows n.toNat x i = true) ∧ ((wr.cell? ⟨w.heap.size, 0, none⟩ = some (.int .i64 n) ∧ wr.cell? ⟨w.heap.size, 1, none⟩ = some (.int .i64 (x : Int))) ∧ Below w.heap.size w wr))
    (fun i' _ => R - (intOf i').toNat)
  case atStart => exact ⟨0, by omega, rfl, Lib.hid rfl, ⟨p0, p1⟩, hB⟩
  case round =>
    clear p0 p1 hB
    obtain ⟨i, hi, rfl, hm, ⟨p0, p1⟩, hB⟩ := hrel
    obtain ⟨wo, rfl⟩ : ∃ wo : World, wo = wr := ⟨_, rfl⟩
    by_cases hlt : i < R
    · go_wp2
      go_loopw [8] (fun v' wr => ∃ k : Nat, (k : Int) ≤ n ∧ v' = .int .i64 k ∧ Hid (upTo x i k = true) ∧ ((wr.cell? ⟨w.heap.size, 0, none⟩ = some (.int .i64 n) ∧ wr.cell? ⟨w.heap.size, 1, none⟩ = some (.int .i64 (x : Int))) ∧ Below w.heap.size w wr))
        (fun v' _ => (n - intOf v').toNat)
      case atStart => exact ⟨0, by omega, rfl, Lib.hid rfl, ⟨p0, p1⟩, hB⟩
      case round =>
        clear p0 p1 hB
        obtain ⟨k, hk, rfl, hu, ⟨p0, p1⟩, hB⟩ := hrel
        by_cases hltk : (k : Int) < n
        · obtain ⟨hw, hI⟩ := pow_bits k (by omega)
          obtain ⟨ha, ho, _, ho16, _⟩ := hI i (by omega)
          clear hI
          generalize hp : (2 : Nat) ^ k = P at hw ha ho ho16
          have HP := Lib.hid hp
          clear hp
          cases hb1 : bitN i k == 0
          · rw [hb1] at ha
            have HU := Lib.hid (show upTo x i (k + 1) = true by rw [upTo_succ, hu.out]; simp [up1, hb1])
            clear hb1
            go_wp2
            go_roundw
            case rel => exact ⟨k + 1, by omega, by go_num, HU, ⟨p0, p1⟩, hB⟩
            case measure => simp [intOf]; omega
          · rw [hb1] at ha
            have hI := bitI_nat x i
            have hJ := bitI_nat x (i ||| P)
            cases hb2 : bitN x i == 1
            · have ht : ((bitI x (i : Int) : Int) == 1) = false := by rw [hI]; have := bitN_le x i; simp at hb2 ⊢; omega
              have HU := Lib.hid (show upTo x i (k + 1) = true by rw [upTo_succ, hu.out]; simp [up1, hb2])
              clear hb1 hb2 hI hJ
              go_wp2_with (go_at_call 107; refine (l01At_int ok _ (by omega) (by omega) _).mono ?_; rintro e w' ⟨rfl, hb⟩)
              have q0 := kc hb p0
              have q1 := kc hb p1
              go_roundw
              case rel => exact ⟨k + 1, by omega, by go_num, HU, ⟨q0, q1⟩, bthen hB hb⟩
              case measure => simp [intOf]; omega
            · have ht : ((bitI x (i : Int) : Int) == 1) = true := by rw [hI]; simp at hb2 ⊢; omega
              cases hb3 : bitN x (i ||| P) == 0
              · have ht2 : ((bitI x ((i ||| P : Nat) : Int) : Int) == 0) = false := by rw [hJ]; simp at hb3 ⊢; omega
                have HU := Lib.hid (show upTo x i (k + 1) = true by rw [upTo_succ, hu.out]; simp [up1, HP.out, hb3])
                clear hb1 hb2 hb3 hI hJ
                go_wp2_with fail
                refine (l01At_int ok _ (by omega) (by omega) _).mono ?_
                rintro e w2 ⟨rfl, hb⟩
                have q0 := kc hb p0
                have q1 := kc hb p1
                have hB2 := bthen hB hb
                clear p0 p1 hB
                go_wp2_with fail
                refine (l01At_int ok _ (by omega) (by omega) _).mono ?_
                rintro e w3 ⟨rfl, hb⟩
                have r0 := kc hb q0
                have r1 := kc hb q1
                have hB3 := bthen hB2 hb
                clear q0 q1 hB2
                go_wp2
                go_roundw
                case rel => exact ⟨k + 1, by omega, by go_num, HU, ⟨r0, r1⟩, hB3⟩
                case measure => simp [intOf]; omega
              · have ht2 : ((bitI x ((i ||| P : Nat) : Int) : Int) == 0) = true := by rw [hJ]; simp at hb3 ⊢; omega
                have HU := Lib.hid (upRows_false (n := n.toNat) (m := R) hlt (k := k) (x := x) (by omega) (by simp [up1, HP.out, hb1, hb2, hb3]))
                clear hb1 hb2 hb3 hI hJ
                go_wp2_with fail
                refine (l01At_int ok _ (by omega) (by omega) _).mono ?_
                rintro e w2 ⟨rfl, hb⟩
                have q0 := kc hb p0
                have q1 := kc hb p1
                have hB2 := bthen hB hb
                clear p0 p1 hB
                go_wp2_with fail
                refine (l01At_int ok _ (by omega) (by omega) _).mono ?_
                rintro e w3 ⟨rfl, hb⟩
                have r0 := kc hb q0
                have r1 := kc hb q1
                have hB3 := bthen hB2 hb
                clear q0 q1 hB2
                go_wp2
                go_ret
                exact ⟨by rw [HU.out]; rfl, hB3⟩
        · obtain hkn : n.toNat = k := by omega
          have HU := Lib.hid (show upRows n.toNat x (i + 1) = true by rw [upRows_succ, hm.out, hkn, hu.out]; rfl)
          clear hkn
          go_wp2
          go_roundw
          case rel => exact ⟨i + 1, by omega, by go_num, HU, ⟨p0, p1⟩, hB⟩
          case measure => simp [intOf]; omega
    · obtain rfl : i = R := by omega
      go_wp2
      go_ret
      exact ⟨by rw [hm.out]; rfl, hB⟩
end Go.Proofs.Ytdgpjpcdifpllaa

/- K9:
  The classes in the model: the affine ones; all of them by number. -/
namespace Go.Proofs.Ytdgpjpcdifpllaa
open Go.RowKit

/-- The rows below j change by the variable v as the row 0 does. -/
def altTo (x v j : Nat) : Bool := allLt j fun i => alt1 x v i
theorem altTo_succ (x v j : Nat) : altTo x v (j + 1) = (altTo x v j && alt1 x v j) := allLt_succ _ _
def altVars (R x k : Nat) : Bool := allLt k fun v => altTo x v R
theorem altVars_succ (R x k : Nat) : altVars R x (k + 1) = (altVars R x k && altTo x k R) := allLt_succ _ _
theorem altVars_false {R x v i m : Nat} (hv : v < m) (hi : i < R) (h : alt1 x v i = false) : altVars R x m = false := by
  cases hc : altVars R x m
  · rfl
  · have := allLt_iff.1 (allLt_iff.1 hc v hv) i hi
    rw [h] at this
    cases this

theorem neq_nat (a b : Nat) : ((a : Int) != (b : Int)) = (a != b) := by
  rw [Bool.eq_iff_iff]
  simp
  omega
theorem bool_neq (a b : Bool) : (a != b) = !(a == b) := by cases a <;> cases b <;> rfl

set_option maxRecDepth 100000 in
set_option maxHeartbeats 4000000 in
theorem l02In_4 {n : Int} {x R : Nat} (ok : FOk n x R) (w : World) :
    Calls Try.prog 231 #[.agg #[.int .i64 n, .int .i64 (x : Int)], .int .i64 4] w fun e w' => e = .returned (.bool (cls4 n.toNat x R)) ∧ Below w.heap.size w w' := by
  have r0 := ok.r0
  have r16 := ok.r16
  have h4 := ok.h4
  have h0 := ok.h0
  show Calls _ _ _ _ fun e w' => e = .returned (.bool (altVars R x n.toNat)) ∧ Below w.heap.size w w'
  obtain ⟨W1, hW1⟩ : ∃ W1, w.alloc (.cells #[.int .i64 n, .int .i64 (x : Int)] 23) = W1 := ⟨_, rfl⟩
  have p0 : W1.cell? ⟨w.heap.size, 0, none⟩ = some (.int .i64 n) := by rw [← hW1]; simp [go_sem]
  have p1 : W1.cell? ⟨w.heap.size, 1, none⟩ = some (.int .i64 (x : Int)) := by rw [← hW1]; simp [go_sem]
  have hB : Below w.heap.size w W1 := by rw [← hW1]; exact bnew _ _
  go_enter Try.func231, Try.ntmps231
  go_wp2_with (go_at_call 106; refine (l01Rows_is ok.h0 ok.h4 ok.hR _).mono ?_; rintro e w' ⟨rfl, rfl⟩)
  clear hW1
  go_loopw [10] (fun v' wr => ∃ k : Nat, (k : Int) ≤ n ∧ v' = .int .i64 k ∧ Hid (altVars R x k = true) ∧ ((wr.cell? ⟨w.heap.size, 0, none⟩ = some (.int .i64 n) ∧ wr.cell? ⟨w.heap.size, 1, none⟩ = some (.int .i64 (x : Int))) ∧ Below w.heap.size w wr))
    (fun v' _ => (n - intOf v').toNat)
  case atStart => exact ⟨0, by omega, rfl, Lib.hid rfl, ⟨p0, p1⟩, hB⟩
  case round =>
    clear p0 p1 hB
    obtain ⟨k, hk, rfl, hm, ⟨p0, p1⟩, hB⟩ := hrel
    obtain ⟨wo, rfl⟩ : ∃ wo : World, wo = wr := ⟨_, rfl⟩
    by_cases hlt : (k : Int) < n
    · obtain ⟨hw, hI⟩ := pow_bits k (by omega)
      have hP16 : 2 ^ k < 16 := Nat.pow_lt_pow_right (n := 4) (by decide) (by omega)
      generalize hp : (2 : Nat) ^ k = P at hw hI hP16
      have HP := Lib.hid hp
      have HI := Lib.hid hI
      clear hp hI
      go_wp2
      go_region_held3 (fun w' => (w'.cell? ⟨w.heap.size, 0, none⟩ = some (.int .i64 n) ∧ w'.cell? ⟨w.heap.size, 1, none⟩ = some (.int .i64 (x : Int))) ∧ Below w.heap.size w w') (first | exact ⟨⟨p0, p1⟩, hB.drew⟩ | exact step_held2 hb1 (by assumption))
        (first
          | (go_at_call 107; refine (l01At_int ok _ (by omega) (by omega) _).mono ?_; rintro e w' ⟨rfl, hb1⟩))
      obtain ⟨⟨q0, q1⟩, hB2⟩ := ‹(_ ∧ _) ∧ Below _ _ _›
      clear p0 p1 hB
      go_wp2
      have hc : ((bitI x 0 : Int) != (bitI x (P : Int) : Int)) = (bitN x 0 != bitN x (2 ^ k)) := by rw [HP.out, neq_nat]; rfl
      generalize ((bitI x 0 : Int) != (bitI x (P : Int) : Int)) = c at hc ⊢
      have HC := Lib.hid hc
      clear hc
      obtain ⟨wi, hwi⟩ : ∃ wi : World, wi = w' := ⟨_, rfl⟩
      subst hwi
      go_loopw [13] (fun i' wr => ∃ i : Nat, i ≤ R ∧ i' = .int .i64 i ∧ Hid (altTo x k i = true) ∧ ((wr.cell? ⟨w.heap.size, 0, none⟩ = some (.int .i64 n) ∧ wr.cell? ⟨w.heap.size, 1, none⟩ = some (.int .i64 (x : Int))) ∧ Below w.heap.size w wr))
        (fun i' _ => R - (intOf i').toNat)
      case atStart => exact ⟨0, by omega, rfl, Lib.hid rfl, ⟨q0, q1⟩, hB2⟩
      case round =>
        clear q0 q1 hB2
        obtain ⟨i, hi, rfl, hu, ⟨p0, p1⟩, hB⟩ := hrel
        by_cases hlti : i < R
        · obtain ⟨_, _, hx, _, hx16⟩ := HI.out i (by omega)
          have hne : ((bitI x (i : Int) : Int) != (bitI x ((i ^^^ P : Nat) : Int) : Int)) = (bitN x i != bitN x (i ^^^ P)) := neq_nat _ _
          have hal : alt1 x k i = ((bitN x i != bitN x (i ^^^ P)) == c) := by rw [HC.out, ← HP.out]; rfl
          generalize (bitN x i != bitN x (i ^^^ P)) = d at hne hal
          cases c
          · cases d
            · have HU := Lib.hid (show altTo x k (i + 1) = true by rw [altTo_succ, hu.out, hal]; rfl)
              clear hal
              go_wp2
              go_region_held3 (fun w' => (w'.cell? ⟨w.heap.size, 0, none⟩ = some (.int .i64 n) ∧ w'.cell? ⟨w.heap.size, 1, none⟩ = some (.int .i64 (x : Int))) ∧ Below w.heap.size w w') (first | exact ⟨⟨p0, p1⟩, hB.drew⟩ | exact step_held2 hb1 (by assumption))
                (first
                  | (go_at_call 107; refine (l01At_int ok _ (by omega) (by omega) _).mono ?_; rintro e w' ⟨rfl, hb1⟩))
              go_wp2
              go_roundw
              case rel => exact ⟨i + 1, by omega, by go_num, HU, ‹(_ ∧ _) ∧ Below _ _ _›⟩
              case measure => simp [intOf]; omega
            · have HU := Lib.hid (altVars_false (v := k) (m := n.toNat) (by omega) hlti (by rw [hal]; rfl))
              clear hal
              go_wp2
              go_region_held3 (fun w' => (w'.cell? ⟨w.heap.size, 0, none⟩ = some (.int .i64 n) ∧ w'.cell? ⟨w.heap.size, 1, none⟩ = some (.int .i64 (x : Int))) ∧ Below w.heap.size w w') (first | exact ⟨⟨p0, p1⟩, hB.drew⟩ | exact step_held2 hb1 (by assumption))
                (first
                  | (go_at_call 107; refine (l01At_int ok _ (by omega) (by omega) _).mono ?_; rintro e w' ⟨rfl, hb1⟩))
              go_wp2
              go_ret
              exact ⟨by rw [HU.out]; rfl, (‹(_ ∧ _) ∧ Below _ _ _›).2⟩
          · cases d
            · have HU := Lib.hid (altVars_false (v := k) (m := n.toNat) (by omega) hlti (by rw [hal]; rfl))
              clear hal
              go_wp2
              go_region_held3 (fun w' => (w'.cell? ⟨w.heap.size, 0, none⟩ = some (.int .i64 n) ∧ w'.cell? ⟨w.heap.size, 1, none⟩ = some (.int .i64 (x : Int))) ∧ Below w.heap.size w w') (first | exact ⟨⟨p0, p1⟩, hB.drew⟩ | exact step_held2 hb1 (by assumption))
                (first
                  | (go_at_call 107; refine (l01At_int ok _ (by omega) (by omega) _).mono ?_; rintro e w' ⟨rfl, hb1⟩))
              go_wp2
              go_ret
              exact ⟨by rw [HU.out]; rfl, (‹(_ ∧ _) ∧ Below _ _ _›).2⟩
            · have HU := Lib.hid (show altTo x k (i + 1) = true by rw [altTo_succ, hu.out, hal]; rfl)
              clear hal
              go_wp2
              go_region_held3 (fun w' => (w'.cell? ⟨w.heap.size, 0, none⟩ = some (.int .i64 n) ∧ w'.cell? ⟨w.heap.size, 1, none⟩ = some (.int .i64 (x : Int))) ∧ Below w.heap.size w w') (first | exact ⟨⟨p0, p1⟩, hB.drew⟩ | exact step_held2 hb1 (by assumption))
                (first
                  | (go_at_call 107; refine (l01At_int ok _ (by omega) (by omega) _).mono ?_; rintro e w' ⟨rfl, hb1⟩))
              go_wp2
              go_roundw
              case rel => exact ⟨i + 1, by omega, by go_num, HU, ‹(_ ∧ _) ∧ Below _ _ _›⟩
              case measure => simp [intOf]; omega
        · obtain rfl : i = R := by omega
          have HU := Lib.hid (show altVars i x (k + 1) = true by rw [altVars_succ, hm.out, hu.out]; rfl)
          go_wp2
          go_roundw
          case rel => exact ⟨k + 1, by omega, by go_num, HU, ⟨p0, p1⟩, hB⟩
          case measure => simp [intOf]; omega
    · obtain hkn : n.toNat = k := by omega
      have HM := Lib.hid (show altVars R x n.toNat = true by rw [hkn]; exact hm.out)
      clear hkn
      go_wp2
      go_ret
      exact ⟨by rw [HM.out]; rfl, hB⟩

theorem l02In_is {n : Int} {x R : Nat} (ok : FOk n x R) (k : Nat) (hk : k ≤ 4) {b : Bool} (hb : clsN n.toNat x R k = b) (w : World) :
    Calls Try.prog 231 #[.agg #[.int .i64 n, .int .i64 (x : Int)], .int .i64 (k : Int)] w fun e w' => e = .returned (.bool b) ∧ Below w.heap.size w w' := by
  subst hb
  obtain rfl | rfl | rfl | rfl | rfl : k = 0 ∨ k = 1 ∨ k = 2 ∨ k = 3 ∨ k = 4 := by omega
  · exact l02In_0 ok w
  · exact l02In_1 ok w
  · exact l02In_2 ok w
  · exact l02In_3 ok w
  · exact l02In_4 ok w
end Go.Proofs.Ytdgpjpcdifpllaa

/- M3:
  The classes of a part of a list in the model: l02Classes; l02Sheffer. -/
namespace Go.Proofs.Ytdgpjpcdifpllaa
open Go.RowKit

/-- What a valid function is, at numbers told as integers. -/
theorem fokP {p : Int × Int} (h : isF p.1 p.2 = true) : ∃ x R : Nat, p.2 = (x : Int) ∧ R = 2 ^ p.1.toNat ∧ FOk p.1 x R := by
  obtain ⟨x, R, e, ok⟩ := fok h
  exact ⟨x, R, e, ok.he, ok⟩
/-- Whether a function that is told as two integers is in the class k. -/
def clsP (p : Int × Int) (k : Nat) : Bool := clsN p.1.toNat p.2.toNat (2 ^ p.1.toNat) k
theorem l02In_p {p : Int × Int} (h : isF p.1 p.2 = true) (k : Nat) (hk : k ≤ 4) {b : Bool} (hb : clsP p k = b) (w : World) :
    Calls Try.prog 231 #[.agg #[.int .i64 p.1, .int .i64 p.2], .int .i64 (k : Int)] w fun e w' => e = .returned (.bool b) ∧ Below w.heap.size w w' := by
  obtain ⟨x, R, e, he, ok⟩ := fokP h
  rw [e]
  refine l02In_is ok k hk ?_ w
  rw [← hb, clsP, e, he]
  rfl

/-- All functions of a list are functions. -/
def AreF (xs : List (Int × Int)) : Prop := ∀ j, j < xs.length → isF (fget xs j).1 (fget xs j).2 = true

/-- Whether the functions of a part, of those below j, are in the class k. -/
def partTo (xs : List (Int × Int)) (part k j : Nat) : Bool := allLt j fun i => bitN part i == 0 || clsP (fget xs i) k
theorem partTo_succ (xs : List (Int × Int)) (part k j : Nat) : partTo xs part k (j + 1) = (partTo xs part k j && (bitN part j == 0 || clsP (fget xs j) k)) := allLt_succ _ _
def partV (xs : List (Int × Int)) (part k : Nat) : Nat := (partTo xs part k xs.length).toNat
theorem partV_le (xs : List (Int × Int)) (part k : Nat) : partV xs part k ≤ 1 := by unfold partV; cases partTo xs part k xs.length <;> decide
/-- The classes of a part, as a number. -/
def partN (xs : List (Int × Int)) (part : Nat) : Nat := sumN (partV xs part) 5

theorem part_digit (x i : Nat) (hx : x < 2 ^ 62) : ((bits .and .i64 ((x : Int) / 2 ^ i) 1) == 0) = (bitN x i == 0) := by
  rw [digit_eq x i hx, Bool.eq_iff_iff]
  simp

set_option maxRecDepth 100000 in
set_option maxHeartbeats 4000000 in
theorem l02Classes_any {base : Nat} {s : Value} {xs : List (Int × Int)} (hl : xs.length ≤ 1048576) (hx : AreF xs) (part : Nat) (hp : part < 2 ^ 62) (hp2 : xs.length ≤ 61) (w : World) (h : OwnsF w base s xs) :
    Calls Try.prog 176 #[s, .int .i64 (part : Int)] w fun e w' => e = .returned (.int .i64 (partN xs part : Int)) ∧ Below w.heap.size w w' := by
  obtain ⟨a, cap, hs, hrow⟩ : ∃ a cap, s = .slice a xs.length cap ∧ (xs.length = 0 ∨ ∃ g, a = some ⟨g, 0, none⟩ ∧ g < w.heap.size ∧ Hid (∀ j, j < xs.length → w.cell? ⟨g, j * 2, none⟩ = some (.int .i64 (fget xs j).1) ∧ w.cell? ⟨g, j * 2 + 1, none⟩ = some (.int .i64 (fget xs j).2))) := by
    rcases h.shape with ⟨rfl, a, cap, rfl⟩ | ⟨hn, g, cap, rfl, hbg, hg, hc, hf⟩
    · exact ⟨a, cap, rfl, .inl rfl⟩
    · exact ⟨_, cap, rfl, .inr ⟨g, rfl, hg, hc⟩⟩
  subst hs
  clear h
  have HX := Lib.hid hx
  clear hx
  have hlen : xs.length = xs.length := rfl
  clear hlen
  generalize hL : xs.length = L at hl hp2 hrow
  have HL := Lib.hid hL
  clear hL
  have HROW := Lib.hid hrow
  clear hrow
  go_enter Try.func176, Try.ntmps176
  go_wp2
  go_loopw [5, 6] (fun o' k' wr => ∃ k : Nat, k ≤ 5 ∧ k' = .int .i64 k ∧ o' = .int .i64 (sumN (partV xs part) k : Int) ∧ Below w.heap.size w wr)
    (fun _ k' _ => 5 - (intOf k').toNat)
  case atStart => exact ⟨0, by omega, rfl, rfl, Below.refl _ _⟩
  case round =>
    obtain ⟨k, hk, rfl, rfl, hB⟩ := hrel
    obtain ⟨wo, rfl⟩ : ∃ wo : World, wo = wr := ⟨_, rfl⟩
    by_cases hlt : k < 5
    · have hd5 : decide ((k : Int) < 5) = true := by simp; omega
      go_wp2
      clear hd5
      go_loopw [7, 8] (fun a' i' wr => ∃ i : Nat, i ≤ L ∧ i' = .int .i64 i ∧ a' = .bool (partTo xs part k i) ∧ Below w.heap.size w wr)
        (fun _ i' _ => L - (intOf i').toNat)
      case atStart => exact ⟨0, by omega, rfl, rfl, hB⟩
      case round =>
        clear hB
        obtain ⟨i, hi, rfl, rfl, hB⟩ := hrel
        by_cases hlti : i < L
        · obtain ⟨g, rfl, hg, hc⟩ : ∃ g, a = some ⟨g, 0, none⟩ ∧ g < w.heap.size ∧ Hid (∀ j, j < L → w.cell? ⟨g, j * 2, none⟩ = some (.int .i64 (fget xs j).1) ∧ w.cell? ⟨g, j * 2 + 1, none⟩ = some (.int .i64 (fget xs j).2)) := by
            rcases HROW.out with h0 | h1
            · omega
            · exact h1
          obtain ⟨c0, c1⟩ := hc.out i hlti
          have d0 := (hB.cell (p := ⟨g, i * 2, none⟩) hg).trans c0
          have d1 := (hB.cell (p := ⟨g, i * 2 + 1, none⟩) hg).trans c1
          clear c0 c1
          have hs := partTo_succ xs part k i
          have hb := part_digit part i hp
          cases ha : partTo xs part k i
          · rw [ha] at hs
            have HS := Lib.hid hs
            clear hs ha hb
            go_wp2
            go_roundw
            case rel => exact ⟨i + 1, by omega, by go_num, by rw [HS.out]; rfl, hB⟩
            case measure => simp [intOf]; omega
          · rw [ha] at hs
            cases hd : bitN part i == 0
            · rw [hd] at hs hb
              cases hq : clsP (fget xs i) k
              · rw [hq] at hs
                have HS := Lib.hid hs
                have HQ := Lib.hid hq
                have hF := Lib.hid (HX.out i (by have := HL.out; omega))
                clear hs ha hd hq
                go_wp2_with fail
                refine (l02In_p hF.out k (by omega) HQ.out _).mono ?_
                rintro e w2 ⟨rfl, hb2⟩
                go_wp2
                go_roundw
                case rel => exact ⟨i + 1, by omega, by go_num, by rw [HS.out]; rfl, bthen hB hb2⟩
                case measure => simp [intOf]; omega
              · rw [hq] at hs
                have HS := Lib.hid hs
                have HQ := Lib.hid hq
                have hF := Lib.hid (HX.out i (by have := HL.out; omega))
                clear hs ha hd hq
                go_wp2_with fail
                refine (l02In_p hF.out k (by omega) HQ.out _).mono ?_
                rintro e w2 ⟨rfl, hb2⟩
                go_wp2
                go_roundw
                case rel => exact ⟨i + 1, by omega, by go_num, by rw [HS.out]; rfl, bthen hB hb2⟩
                case measure => simp [intOf]; omega
            · rw [hd] at hs hb
              have HS := Lib.hid hs
              clear hs ha hd
              go_wp2
              go_roundw
              case rel => exact ⟨i + 1, by omega, by go_num, by rw [HS.out]; rfl, hB⟩
              case measure => simp [intOf]; omega
        · obtain rfl : i = L := by omega
          cases ha : partTo xs part k i
          · have HS := Lib.hid (show sumN (partV xs part) (k + 1) = sumN (partV xs part) k by simp [sumN, partV, HL.out, ha])
            clear ha
            go_wp2
            go_roundw
            case rel => exact ⟨k + 1, by omega, by go_num, by rw [HS.out], hB⟩
            case measure => simp [intOf]; omega
          · have HS := Lib.hid (set_step (partV xs part) k (by omega) (fun r _ => partV_le _ _ r) (by simp [partV, HL.out, ha]))
            clear ha
            go_wp2
            go_roundw
            case rel => exact ⟨k + 1, by omega, by go_num, by rw [← HS.out], hB⟩
            case measure => simp [intOf]; omega
    · obtain rfl : k = 5 := by omega
      go_wp2
      go_ret
      exact ⟨rfl, hB⟩
end Go.Proofs.Ytdgpjpcdifpllaa

/- N1:
  Lists of functions: are they functions (both packages). -/
namespace Go.Proofs.Ytdgpjpcdifpllaa
open Go.RowKit

/-- The functions below j of a list are functions. -/
def allTo (xs : List (Int × Int)) (j : Nat) : Bool := allLt j fun i => isF (fget xs i).1 (fget xs i).2
theorem allTo_succ (xs : List (Int × Int)) (j : Nat) : allTo xs (j + 1) = (allTo xs j && isF (fget xs j).1 (fget xs j).2) := allLt_succ _ _
theorem allTo_false {xs : List (Int × Int)} {k m : Nat} (hk : k < m) (h : isF (fget xs k).1 (fget xs k).2 = false) : allTo xs m = false := by
  cases hc : allTo xs m
  · rfl
  · have := allLt_iff.1 hc k hk
    rw [h] at this
    cases this
theorem allTo_get {xs : List (Int × Int)} {m : Nat} (h : allTo xs m = true) (k : Nat) (hk : k < m) : isF (fget xs k).1 (fget xs k).2 = true := allLt_iff.1 h k hk

/-- A list's shape, whatever its length. -/
theorem OwnsF.cells {W : World} {base : Nat} {s : Value} {xs : List (Int × Int)} (h : OwnsF W base s xs) :
    ∃ a cap, s = .slice a xs.length cap ∧ (xs.length = 0 ∨ ∃ g, a = some ⟨g, 0, none⟩ ∧ g < W.heap.size ∧ Hid (∀ j, j < xs.length → W.cell? ⟨g, j * 2, none⟩ = some (.int .i64 (fget xs j).1) ∧ W.cell? ⟨g, j * 2 + 1, none⟩ = some (.int .i64 (fget xs j).2))) := by
  rcases h.shape with ⟨rfl, a, cap, rfl⟩ | ⟨hn, g, cap, rfl, hbg, hg, hc, hf⟩
  · exact ⟨a, cap, rfl, .inl rfl⟩
  · exact ⟨_, cap, rfl, .inr ⟨g, rfl, hg, hc⟩⟩

set_option maxRecDepth 100000 in
set_option maxHeartbeats 2000000 in
theorem areFuncs_any {base : Nat} {s : Value} {xs : List (Int × Int)} (hl : xs.length ≤ 1048576) (w : World) (h : OwnsF w base s xs) {b : Bool} (hb : allTo xs xs.length = b) :
    Calls Try.prog 145 #[s] w fun e w' => e = .returned (.bool b) ∧ Below w.heap.size w w' := by
  obtain ⟨a, cap, rfl, hrow⟩ := h.cells
  have HROW := Lib.hid hrow
  have HBB := Lib.hid hb
  clear h hrow hb
  generalize hL : xs.length = L at hl HROW HBB ⊢
  clear hL
  go_enter Try.func145, Try.ntmps145
  go_wp2
  go_loopw [7] (fun i' wr => ∃ i : Nat, i ≤ L ∧ i' = .int .i64 i ∧ Hid (allTo xs i = true) ∧ Below w.heap.size w wr) (fun i' _ => L - (intOf i').toNat)
  case atStart => exact ⟨0, Nat.zero_le _, rfl, Lib.hid rfl, Below.refl _ _⟩
  case round =>
    obtain ⟨i, hi, rfl, hm, hB⟩ := hrel
    by_cases hlt : i < L
    · obtain ⟨g, rfl, hg, hc⟩ : ∃ g, a = some ⟨g, 0, none⟩ ∧ g < w.heap.size ∧ Hid (∀ j, j < L → w.cell? ⟨g, j * 2, none⟩ = some (.int .i64 (fget xs j).1) ∧ w.cell? ⟨g, j * 2 + 1, none⟩ = some (.int .i64 (fget xs j).2)) := by
        rcases HROW.out with h0 | h1
        · omega
        · exact h1
      obtain ⟨c0, c1⟩ := hc.out i hlt
      have d0 := (hB.cell (p := ⟨g, i * 2, none⟩) hg).trans c0
      have d1 := (hB.cell (p := ⟨g, i * 2 + 1, none⟩) hg).trans c1
      clear c0 c1
      cases hf : isF (fget xs i).1 (fget xs i).2
      · obtain rfl : b = false := HBB.out.symm.trans (allTo_false hlt hf)
        go_wp2_with (go_at_call 81; refine (IsFunc_is hf _).mono ?_; rintro e w2 ⟨rfl, hb2⟩)
        go_ret
        exact ⟨rfl, bthen hB (bthen (bnew _ _) hb2)⟩
      · have HM := Lib.hid (show allTo xs (i + 1) = true by rw [allTo_succ, hm.out, hf]; rfl)
        go_wp2_with (go_at_call 81; refine (IsFunc_is hf _).mono ?_; rintro e w2 ⟨rfl, hb2⟩)
        go_roundw
        case rel => exact ⟨i + 1, by omega, by go_num, HM, bthen hB (bthen (bnew _ _) hb2)⟩
        case measure => simp [intOf]; omega
    · obtain rfl : i = L := by omega
      obtain rfl : b = true := HBB.out.symm.trans hm.out
      go_wp2
      go_ret
      exact ⟨rfl, hB⟩

/-- The code of a list. -/
def codeA (b : Bool) : Int := if b then 0 else 1

end Go.Proofs.Ytdgpjpcdifpllaa

/- Q1:
  A map whose keys are functions: what a key reads as; the map of the sets of classes. -/
namespace Go.Proofs.Ytdgpjpcdifpllaa
open Go.RowKit
open Go.Maps (Keyed)

theorem lawF : Keyed Try.prog 23 :=
  Keyed.of_law (deep_law_gate (by kernel_rfl) (of_decide_eq_true (by kernel_rfl)) (of_decide_eq_true (by kernel_rfl)) (by kernel_rfl) (by kernel_rfl))
theorem zeroI (w : World) : (zeroValue 2).run Try.prog w = .ok (.int .i64 0) w := by kernel_rfl

/-- What a function reads as, as a key. -/
def kl (p : Int × Int) : Lit := .string (keyBytes [.int .i64 p.1, .int .i64 p.2])
theorem kl_isKey (p : Int × Int) : WideAt.IsKeyLit (kl p) := trivial

theorem keyF {p : Int × Int} (h1 : (Lit.int .i64 p.1).wf = true) (h2 : (Lit.int .i64 p.2).wf = true) : keyOf Try.prog 23 (.agg #[.int .i64 p.1, .int .i64 p.2]) = some (kl p) := by
  have k1 : Try.prog.keyType 23 = true := by kernel_rfl
  have c1 : Try.prog.cellsOf 23 = 2 := by kernel_rfl
  have c2 : Try.prog.cellsOf 2 = 1 := by kernel_rfl
  have hd : decide (Try.prog.types.size ≠ 0) = true := by kernel_rfl
  obtain ⟨m, hm⟩ : ∃ m, Try.prog.types.size = m + 1 := Nat.exists_eq_succ_of_ne_zero (of_decide_eq_true hd)
  have f1 : (Value.agg #[.int .i64 p.1, .int .i64 p.2]).formed Try.prog 23 = true := by
    simp [Value.formed, Try.underlying23, c1]
  have e1 : Try.prog.keyLits (Try.prog.types.size + 1) 23 [.int .i64 p.1, .int .i64 p.2] = some [.int .i64 p.1, .int .i64 p.2] := by
    rw [hm]
    simp [Program.keyLits, Try.underlying23, Try.underlying2, c1, c2, h1, h2]
  unfold keyOf
  rw [Try.underlying23]
  simp only [k1, f1, Bool.and_self, if_true]
  rw [show (Value.agg #[.int .i64 p.1, .int .i64 p.2]).cells.toList = [.int .i64 p.1, .int .i64 p.2] from rfl, e1]
  rfl
end Go.Proofs.Ytdgpjpcdifpllaa

/- Q2:
  classSetsOf: the map of the sets of classes of a list. -/
namespace Go.Proofs.Ytdgpjpcdifpllaa
open Go.RowKit
open Go.Maps (Keyed)

abbrev DU := DataW Unit
/-- The set of classes of a function that is told as two integers. -/
def setP (p : Int × Int) : Nat := setN p.1.toNat p.2.toNat (2 ^ p.1.toNat)
theorem setP_lt (p : Int × Int) : setP p < 32 := sumN_lt _ 5 (fun r _ => clsV_le _ _ _ r)
def isP (p : Int × Int) : Prop := isF p.1 p.2 = true
theorem isP.wf {p : Int × Int} (h : isP p) : (Lit.int .i64 p.1).wf = true ∧ (Lit.int .i64 p.2).wf = true := by
  obtain ⟨h0, h4, hb, ha⟩ := isF_iff.1 h
  have := allN_bd h0 h4
  exact ⟨WalkArith.wf_i64 (by omega), WalkArith.wf_i64 (by omega)⟩
theorem isP.key {p : Int × Int} (h : isP p) : keyOf Try.prog 23 (.agg #[.int .i64 p.1, .int .i64 p.2]) = some (kl p) := keyF h.wf.1 h.wf.2
theorem kl_ne {p q : Int × Int} (hp : isP p) (hq : isP q) (h : p ≠ q) : kl p ≠ kl q := by
  intro e
  have h1 := hp.key
  have h2 := hq.key
  rw [← e] at h2
  have := lawF.inj h1 h2
  simp at this
  exact h (Prod.ext this.1 this.2)
theorem classSetOf_p {p : Int × Int} (h : isP p) (w : World) :
    Calls Try.prog 177 #[.agg #[.int .i64 p.1, .int .i64 p.2]] w fun e w' => e = .returned (.int .i64 (setP p : Int)) ∧ Below w.heap.size w w' := by
  obtain ⟨x, R, e, he, ok⟩ := fokP h
  have := classSetOf_any ok w
  unfold setP
  rw [e, ← he]
  exact this

/-- The map has the functions below j of the list, and with each function that it has its set of classes. -/
def MapOk (D : DU) (xs : List (Int × Int)) (j : Nat) : Prop :=
  Maps.IsMap D ∧ (∀ i, i < j → Maps.has D (kl (fget xs i)) = true) ∧ ∀ p, isP p → Maps.has D (kl p) = true → ∀ z, D.atKey (kl p) z = .lit (.int .i64 (setP p : Int))
theorem MapOk.zero (xs : List (Int × Int)) : MapOk (.map []) xs 0 := ⟨Maps.isMap_empty, fun i h => by omega, fun p _ h => by simp [Maps.has] at h⟩
theorem MapOk.same {D : DU} {xs : List (Int × Int)} {j : Nat} (h : MapOk D xs j) (hh : Maps.has D (kl (fget xs j)) = true) : MapOk D xs (j + 1) :=
  ⟨h.1, fun i hi => by
    by_cases e : i = j
    · subst e; exact hh
    · exact h.2.1 i (by omega), h.2.2⟩
theorem MapOk.put {D : DU} {xs : List (Int × Int)} {j : Nat} (h : MapOk D xs j) (hx : ∀ i, i < j + 1 → isP (fget xs i)) : MapOk (D.put (kl (fget xs j)) (.lit (.int .i64 (setP (fget xs j) : Int)))) xs (j + 1) := by
  obtain ⟨h1, h2, h3⟩ := h
  have hsame := Maps.has_put_same h1 (kl_isKey (fget xs j)) (.lit (.int .i64 (setP (fget xs j) : Int)))
  refine ⟨h1.put _ _, fun i hi => ?_, fun p hp hh z => ?_⟩
  · by_cases e : fget xs i = fget xs j
    · rw [e]; exact hsame
    · have hij : i ≠ j := fun e2 => e (by rw [e2])
      rw [Maps.has_put_other (kl_ne (hx i hi) (hx j (by omega)) e)]
      exact h2 i (by omega)
  · by_cases e : p = fget xs j
    · rw [e]; exact Maps.atKey_put_same h1 (kl_isKey _) _ _
    · have hne := kl_ne hp (hx j (by omega)) e
      rw [Maps.has_put_other hne] at hh
      rw [Maps.atKey_put_other hne]
      exact h3 p hp hh z
theorem owns_map_below {w w' : World} {b n : Nat} {D : DU} (h : w.ownsMap Try.prog 23 (plainElem Try.prog 2) b n D) (hb : Below w.heap.size w w') : w'.ownsMap Try.prog 23 (plainElem Try.prog 2) b n D := by
  obtain ⟨es, clock, hh, F, hs, hD⟩ := h
  exact ⟨es, clock, (hb.block b (Array.getElem?_eq_some_iff.1 hh).1).trans hh, F, hs, hD⟩

/-- A post with 'there is a map'. -/
def MapPost (xs : List (Int × Int)) (w : World) (e : Ending) (w' : World) : Prop := ∃ (b : Nat) (D : DU), e = .returned (.map (some b)) ∧ w'.ownsMap Try.prog 23 (plainElem Try.prog 2) b xs.length D ∧ MapOk D xs xs.length ∧ Below w.heap.size w w'

set_option maxRecDepth 100000 in
set_option maxHeartbeats 4000000 in
theorem classSetsOf_any {base : Nat} {s : Value} {xs : List (Int × Int)} (hl : xs.length ≤ 1048576) (hx : AreF xs) (w : World) (h : OwnsF w base s xs) :
    Calls Try.prog 131 #[s] w (MapPost xs w) := by
  obtain ⟨a, cap, rfl, hrow⟩ := h.cells
  have HROW := Lib.hid hrow
  have HX := Lib.hid hx
  clear h hrow hx
  generalize hL : xs.length = L at hl HROW
  have HL := Lib.hid hL
  clear hL
  have hmm := @run_makeMap Try.prog
  go_enter Try.func131, Try.ntmps131
  go_wp2
  clear hmm
  go_loopw [11] (fun i' wr => ∃ (i : Nat) (D : DU), i ≤ L ∧ i' = .int .i64 i ∧ wr.ownsMap Try.prog 23 (plainElem Try.prog 2) w.heap.size i D ∧ Hid (MapOk D xs i) ∧ Below w.heap.size w wr) (fun i' _ => L - (intOf i').toNat)
  case atStart => exact ⟨0, _, Nat.zero_le _, rfl, World.ownsMap_made _ _ _ _, Lib.hid (MapOk.zero xs), bnew _ _⟩
  case round =>
    obtain ⟨i, D, hi, rfl, hown, hm, hB⟩ := hrel
    by_cases hlt : i < L
    · obtain ⟨g, rfl, hg, hc⟩ : ∃ g, a = some ⟨g, 0, none⟩ ∧ g < w.heap.size ∧ Hid (∀ j, j < L → w.cell? ⟨g, j * 2, none⟩ = some (.int .i64 (fget xs j).1) ∧ w.cell? ⟨g, j * 2 + 1, none⟩ = some (.int .i64 (fget xs j).2)) := by
        rcases HROW.out with h0 | h1
        · omega
        · exact h1
      obtain ⟨e0, e1⟩ := hc.out i hlt
      have d0 := (hB.cell (p := ⟨g, i * 2, none⟩) hg).trans e0
      have d1 := (hB.cell (p := ⟨g, i * 2 + 1, none⟩) hg).trans e1
      clear e0 e1
      have hall : ∀ j, j < i + 1 → isP (fget xs j) := fun j hj => HX.out j (by have := HL.out; omega)
      have HALL := Lib.hid hall
      have HK := Lib.hid (hall i (by omega))
      clear hall
      obtain ⟨W1, hW1⟩ : ∃ W1, wr.alloc (.cells #[.int .i64 (fget xs i).1, .int .i64 (fget xs i).2] 23) = W1 := ⟨_, rfl⟩
      have p0 : W1.cell? ⟨wr.heap.size, 0, none⟩ = some (.int .i64 (fget xs i).1) := by rw [← hW1]; simp [go_sem]
      have p1 : W1.cell? ⟨wr.heap.size, 1, none⟩ = some (.int .i64 (fget xs i).2) := by rw [← hW1]; simp [go_sem]
      have hB1 : Below wr.heap.size wr W1 := by rw [← hW1]; exact bnew _ _
      have hown1 : W1.ownsMap Try.prog 23 (plainElem Try.prog 2) w.heap.size i D := owns_map_below hown hB1
      clear hown
      cases hh : Maps.has D (kl (fget xs i))
      · go_wp2_with (at_lookup; refine wpList_lookup_own_ok_int _ rfl _ _ 171 rfl 23 2 .i64 lawF Try.underlying171 Try.underlying2 (zeroI _) w.heap.size i D rfl hown1 _ (kl (fget xs i)) rfl HK.out.key ?_; intro c hat hwc; clear hat hwc)
        have HM := Lib.hid (hm.out.put HALL.out)
        have hwf : (Lit.int .i64 (setP (fget xs i) : Int)).wf = true := by
          have := setP_lt (fget xs i)
          exact WalkArith.wf_i64 (by omega)
        have HWF := Lib.hid hwf
        clear hwf hh
        have HO1 := Lib.hid hown1
        clear hown1
        go_region_with (go_at_call 177; refine (classSetOf_p HK.out _).mono ?_; rintro e w' ⟨rfl, hb1⟩; have q0 := kcd hb1 p0; have q1 := kcd hb1 p1; obtain ⟨w2, hrun, hown2, hgrow2⟩ := (owns_map_below HO1.out.drew hb1).update lawF Try.underlying171 (by unfold maxLen; omega) HK.out.key (plainElem_int Try.underlying2 HWF.out))
        all_goals
          have hw1 := (bthen hB hB1).drew
          have hw2 := bthen hw1 hb1
          have hw3 : Below w.heap.size w w2 := hw2.grown hgrow2 hw2.size (fun k e => by cases e; exact Nat.le_refl _)
          have HO2 := Lib.hid hown2
          clear hown2 hgrow2 hrun p0 p1 q0 q1 hw1 hw2
          go_wp2
          go_roundw
          case rel => exact ⟨i + 1, _, by omega, by go_num, HO2.out, HM, hw3⟩
          case measure => simp [intOf]; omega
      · have HM := Lib.hid (hm.out.same hh)
        have HH := Lib.hid hh
        go_wp2_with (at_lookup; refine wpList_lookup_own_ok_int _ rfl _ _ 171 rfl 23 2 .i64 lawF Try.underlying171 Try.underlying2 (zeroI _) w.heap.size i D rfl hown1 _ (kl (fget xs i)) rfl HK.out.key ?_; intro c hat hwc; clear hat hwc)
        go_roundw
        case rel => exact ⟨i + 1, D, by omega, by go_num, hown1.mono (by omega), HM, bthen hB hB1⟩
        case measure => simp [intOf]; omega
    · obtain rfl : i = L := by omega
      have HO := Lib.hid hown
      clear hown
      go_wp2
      go_ret
      exact ⟨_, D, rfl, by rw [HL.out]; exact HO.out, by rw [HL.out]; exact hm.out, hB⟩
end Go.Proofs.Ytdgpjpcdifpllaa

/- Q3:
  commonClasses; the codes of lists; the whole of a list. -/
namespace Go.Proofs.Ytdgpjpcdifpllaa
open Go.RowKit

theorem bits_and_nat (x y : Nat) (hx : x < 2 ^ 62) (hy : y < 2 ^ 62) : bits .and .i64 (x : Int) (y : Int) = ((x &&& y : Nat) : Int) := by
  have h : x &&& y ≤ x := Nat.and_le_left
  have h64 : (2 : Nat) ^ 62 < 2 ^ 64 := by decide
  show IntKind.i64.wrap ((BitVec.ofInt 64 (x : Int) &&& BitVec.ofInt 64 (y : Int)).toNat : Int) = _
  rw [BitVec.ofInt_natCast, BitVec.ofInt_natCast, BitVec.toNat_and, BitVec.toNat_ofNat, BitVec.toNat_ofNat, Nat.mod_eq_of_lt (Nat.lt_trans hx h64), Nat.mod_eq_of_lt (Nat.lt_trans hy h64)]
  exact wrap64_small (by omega) (by omega)
theorem bitN_of_test (x i : Nat) : bitN x i = (x.testBit i).toNat := by
  have := bitN_le x i
  rw [bitN_test]
  cases h : bitN x i == 1
  · simp at h ⊢; omega
  · simp at h ⊢; omega
theorem bitN_and (x y i : Nat) : bitN (x &&& y) i = bitN x i * bitN y i := by
  rw [bitN_of_test, bitN_of_test, bitN_of_test, Nat.testBit_and]
  cases x.testBit i <;> cases y.testBit i <;> rfl

/-- The classes that the functions below j have in common. -/
def comTo (xs : List (Int × Int)) : Nat → Nat
  | 0 => 31
  | j + 1 => comTo xs j &&& setP (fget xs j)
theorem comTo_lt (xs : List (Int × Int)) (j : Nat) : comTo xs j < 32 := by
  induction j with
  | zero => show 31 < 32; decide
  | succ j ih => exact Nat.lt_of_le_of_lt Nat.and_le_left ih
/-- All functions of a list are in the class k. -/
def allCls (xs : List (Int × Int)) (k j : Nat) : Bool := allLt j fun i => clsP (fget xs i) k
theorem allCls_succ (xs : List (Int × Int)) (k j : Nat) : allCls xs k (j + 1) = (allCls xs k j && clsP (fget xs j) k) := allLt_succ _ _
theorem setP_digit (p : Int × Int) (k : Nat) (hk : k < 5) : bitN (setP p) k = (clsP p k).toNat := bitN_sum _ 5 (fun r _ => clsV_le _ _ _ r) k hk
theorem comTo_digit (xs : List (Int × Int)) (k : Nat) (hk : k < 5) (j : Nat) : bitN (comTo xs j) k = (allCls xs k j).toNat := by
  induction j with
  | zero =>
    have : ∀ k < 5, bitN 31 k = 1 := by decide
    exact this k hk
  | succ j ih =>
    rw [comTo, bitN_and, ih, setP_digit _ k hk, allCls_succ]
    cases allCls xs k j <;> cases clsP (fget xs j) k <;> rfl

def wholeN (L : Nat) : Nat := 2 ^ L - 1
theorem whole_digit : ∀ L < 9, ∀ i < L, bitN (wholeN L) i = 1 := by decide +kernel
theorem partTo_whole (xs : List (Int × Int)) (k : Nat) (h8 : xs.length ≤ 8) (j : Nat) (hj : j ≤ xs.length) : partTo xs (wholeN xs.length) k j = allCls xs k j := by
  induction j with
  | zero => rfl
  | succ j ih =>
    rw [partTo_succ, allCls_succ, ih (by omega)]
    have h1 := whole_digit xs.length (by omega) j (by omega)
    simp [h1]
theorem part_whole (xs : List (Int × Int)) (h8 : xs.length ≤ 8) : partN xs (wholeN xs.length) = comTo xs xs.length := by
  rw [partN, sum_is _ 5 _ (fun r _ => partV_le _ _ r) (comTo_lt xs _)]
  intro r hr
  rw [comTo_digit xs r hr, partV, partTo_whole xs r h8 _ (Nat.le_refl _)]

set_option maxRecDepth 100000 in
set_option maxHeartbeats 2000000 in
theorem commonClasses_any {base : Nat} {s : Value} {xs : List (Int × Int)} (hl : xs.length ≤ 1048576) (b n j : Nat) (D : DU) (ys : List (Int × Int)) (w : World) (h : OwnsF w base s xs)
    (hown : w.ownsMap Try.prog 23 (plainElem Try.prog 2) b n D) (hD : MapOk D ys j) (hx : ∀ i, i < xs.length → isP (fget xs i) ∧ Maps.has D (kl (fget xs i)) = true) :
    Calls Try.prog 234 #[.map (some b), s] w fun e w' => e = .returned (.int .i64 (comTo xs xs.length : Int)) ∧ Below w.heap.size w w' := by
  obtain ⟨a, cap, rfl, hrow⟩ := h.cells
  have HROW := Lib.hid hrow
  have HX := Lib.hid hx
  have HD := Lib.hid hD
  have HO := Lib.hid hown
  clear h hrow hx hD hown
  generalize xs.length = L at hl HROW HX ⊢
  go_enter Try.func234, Try.ntmps234
  go_wp2
  go_loopw [5, 10] (fun c' i' wr => ∃ i : Nat, i ≤ L ∧ i' = .int .i64 i ∧ c' = .int .i64 (comTo xs i : Int) ∧ Below w.heap.size w wr) (fun _ i' _ => L - (intOf i').toNat)
  case atStart => exact ⟨0, Nat.zero_le _, rfl, rfl, Below.refl _ _⟩
  case round =>
    obtain ⟨i, hi, rfl, rfl, hB⟩ := hrel
    by_cases hlt : i < L
    · obtain ⟨g, rfl, hg, hc⟩ : ∃ g, a = some ⟨g, 0, none⟩ ∧ g < w.heap.size ∧ Hid (∀ j, j < L → w.cell? ⟨g, j * 2, none⟩ = some (.int .i64 (fget xs j).1) ∧ w.cell? ⟨g, j * 2 + 1, none⟩ = some (.int .i64 (fget xs j).2)) := by
        rcases HROW.out with h0 | h1
        · omega
        · exact h1
      obtain ⟨e0, e1⟩ := hc.out i hlt
      have d0 := (hB.cell (p := ⟨g, i * 2, none⟩) hg).trans e0
      have d1 := (hB.cell (p := ⟨g, i * 2 + 1, none⟩) hg).trans e1
      clear e0 e1
      have hlc := comTo_lt xs i
      have hls := setP_lt (fget xs i)
      have HA := Lib.hid (bits_and_nat (comTo xs i) (setP (fget xs i)) (by omega) (by omega))
      obtain ⟨hp, hh⟩ := HX.out i hlt
      have HK := Lib.hid hp
      have hown1 := (owns_map_below HO.out hB).alloc (.cells #[.int .i64 (fget xs i).1, .int .i64 (fget xs i).2] 23)
      have HAT := Lib.hid (HD.out.2.2 _ hp hh (.lit (.int .i64 0)))
      clear hp hh
      go_wp2_with (at_lookup; refine wpList_lookup_own_int _ rfl _ _ 171 rfl 23 2 .i64 lawF Try.underlying171 Try.underlying2 (zeroI _) b n D rfl hown1 _ (kl (fget xs i)) rfl HK.out.key ?_; intro c hat hwc; rw [HAT.out] at hat; obtain rfl : (setP (fget xs i) : Int) = c := by simpa using hat)
      rw [HA.out]
      go_wp2
      go_roundw
      case rel => exact ⟨i + 1, by omega, by go_num, rfl, balloc hB _⟩
      case measure => simp [intOf]; omega
    · obtain rfl : i = L := by omega
      go_wp2
      go_ret
      exact ⟨rfl, hB⟩

/-- The code of a list of functions. -/
def codeL (xs : List (Int × Int)) : Int := if allTo xs xs.length then (if 8 < xs.length then 2 else 0) else 1

set_option maxRecDepth 100000 in
set_option maxHeartbeats 1000000 in
theorem listCode_any {base : Nat} {s : Value} {xs : List (Int × Int)} (hl : xs.length ≤ 1048576) (w : World) (h : OwnsF w base s xs) {c : Int} (hc : codeL xs = c) :
    Calls Try.prog 82 #[s] w fun e w' => e = .returned (.int .i64 c) ∧ Below w.heap.size w w' := by
  subst hc
  unfold codeL
  have AF := Lib.hid (fun b => areFuncs_any (b := b) hl w h)
  obtain ⟨a, cap, rfl, _⟩ := h.cells
  clear h
  cases hA : allTo xs xs.length
  · have HA := Lib.hid hA
    clear hA
    rw [if_neg (by decide)]
    generalize xs.length = L at *
    go_enter Try.func82, Try.ntmps82
    go_wp2_with (go_at_call 145; refine (AF.out _ HA.out).mono ?_; rintro e w2 ⟨rfl, hb2⟩)
    go_ret
    exact ⟨rfl, hb2⟩
  · have HA := Lib.hid hA
    clear hA
    rw [if_pos rfl]
    by_cases h8 : 8 < xs.length
    · rw [if_pos h8]
      have hd : decide ((8 : Int) < (xs.length : Int)) = true := by simp; omega
      go_enter Try.func82, Try.ntmps82
      go_wp2_with (go_at_call 145; refine (AF.out _ HA.out).mono ?_; rintro e w2 ⟨rfl, hb2⟩)
      go_ret
      exact ⟨rfl, hb2⟩
    · rw [if_neg h8]
      have hd : decide ((8 : Int) < (xs.length : Int)) = false := by simp; omega
      go_enter Try.func82, Try.ntmps82
      go_wp2_with (go_at_call 145; refine (AF.out _ HA.out).mono ?_; rintro e w2 ⟨rfl, hb2⟩)
      go_ret
      exact ⟨rfl, hb2⟩

set_option maxRecDepth 100000 in
set_option maxHeartbeats 2000000 in
theorem l02Code_any {base : Nat} {s : Value} {xs : List (Int × Int)} (hl : xs.length ≤ 1048576) (w : World) (h : OwnsF w base s xs) {c : Int} (hcd : codeL xs = c) :
    Calls Try.prog 78 #[s] w fun e w' => e = .returned (.int .i64 c) ∧ Below w.heap.size w w' := by
  subst hcd
  unfold codeL
  obtain ⟨a, cap, rfl, hrow⟩ := h.cells
  have HROW := Lib.hid hrow
  clear h hrow
  generalize hL : xs.length = L at hl HROW ⊢
  clear hL
  generalize hA : allTo xs L = A
  have HBB := Lib.hid hA
  clear hA
  go_enter Try.func78, Try.ntmps78
  go_wp2
  go_loopw [3] (fun i' wr => ∃ i : Nat, i ≤ L ∧ i' = .int .i64 i ∧ Hid (allTo xs i = true) ∧ Below w.heap.size w wr) (fun i' _ => L - (intOf i').toNat)
  case atStart => exact ⟨0, Nat.zero_le _, rfl, Lib.hid rfl, Below.refl _ _⟩
  case round =>
    obtain ⟨i, hi, rfl, hm, hB⟩ := hrel
    by_cases hlt : i < L
    · obtain ⟨g, rfl, hg, hc⟩ : ∃ g, a = some ⟨g, 0, none⟩ ∧ g < w.heap.size ∧ Hid (∀ j, j < L → w.cell? ⟨g, j * 2, none⟩ = some (.int .i64 (fget xs j).1) ∧ w.cell? ⟨g, j * 2 + 1, none⟩ = some (.int .i64 (fget xs j).2)) := by
        rcases HROW.out with h0 | h1
        · omega
        · exact h1
      obtain ⟨c0, c1⟩ := hc.out i hlt
      have d0 := (hB.cell (p := ⟨g, i * 2, none⟩) hg).trans c0
      have d1 := (hB.cell (p := ⟨g, i * 2 + 1, none⟩) hg).trans c1
      clear c0 c1
      cases hf : isF (fget xs i).1 (fget xs i).2
      · obtain rfl : A = false := HBB.out.symm.trans (allTo_false hlt hf)
        go_wp2_with (go_at_call 77; refine (l01Is_is hf _).mono ?_; rintro e w2 ⟨rfl, hb2⟩)
        go_ret
        exact ⟨rfl, bthen hB hb2⟩
      · have HM := Lib.hid (show allTo xs (i + 1) = true by rw [allTo_succ, hm.out, hf]; rfl)
        go_wp2_with (go_at_call 77; refine (l01Is_is hf _).mono ?_; rintro e w2 ⟨rfl, hb2⟩)
        go_roundw
        case rel => exact ⟨i + 1, by omega, by go_num, HM, bthen hB hb2⟩
        case measure => simp [intOf]; omega
    · obtain rfl : i = L := by omega
      obtain rfl : A = true := HBB.out.symm.trans hm.out
      by_cases h8 : 8 < i
      · have hd : decide ((8 : Int) < (i : Int)) = true := by simp; omega
        go_wp2
        go_ret
        exact ⟨rfl, hB⟩
      · have hd : decide ((8 : Int) < (i : Int)) = false := by simp; omega
        go_wp2
        go_ret
        exact ⟨rfl, hB⟩

theorem whole_int : ∀ L < 9, wrap64 (2 ^ L) = ((2 ^ L : Nat) : Int) ∧ ((2 ^ L : Nat) : Int) - 1 = (wholeN L : Int) ∧ wholeN L < 2 ^ 62 := by decide +kernel

end Go.Proofs.Ytdgpjpcdifpllaa

/- AB2:
  centraliserAmong of the program, at functions. -/
namespace Go.Proofs.Ytdgpjpcdifpllaa
open Go.RowKit Go.Shelf
attribute [local go_sem] Oper.semAt_some
set_option linter.unusedVariables false
set_option linter.unusedSimpArgs false

/-- Two functions commute. -/
def comP (p q : Int × Int) : Bool := comB p.2.toNat q.2.toNat p.1.toNat q.1.toNat (2 ^ q.1.toNat)
theorem areCommuting_p {p q : Int × Int} (hp : isF p.1 p.2 = true) (hq : isF q.1 q.2 = true) (w : World) :
    Calls Try.prog 110 #[.agg #[.int .i64 p.1, .int .i64 p.2], .agg #[.int .i64 q.1, .int .i64 q.2]] w fun e w' => e = .returned (.bool (comP p q)) ∧ Below w.heap.size w w' := by
  obtain ⟨n, b⟩ := p
  obtain ⟨n2, b2⟩ := q
  obtain ⟨x, R, rfl, ok⟩ := fok hp
  obtain ⟨y, Q, rfl, okg⟩ := fok hq
  obtain ⟨m, rfl⟩ : ∃ m : Nat, n = (m : Int) := Int.eq_ofNat_of_zero_le ok.h0
  obtain ⟨P, rfl⟩ : ∃ P : Nat, n2 = (P : Int) := Int.eq_ofNat_of_zero_le okg.h0
  have h := areCommuting_any ok (by have := ok.h4; omega) okg w
  have hQ : Q = 2 ^ P := by have := okg.he; simpa using this
  rw [hQ] at h
  exact h

/-- g commutes with the first k functions of a list. -/
def abTo2 (xs : List (Int × Int)) (g : Int × Int) (k : Nat) : Bool := allLt k fun i => comP (fget xs i) g
theorem abTo2_succ (xs : List (Int × Int)) (g : Int × Int) (k : Nat) : abTo2 xs g (k + 1) = (abTo2 xs g k && comP (fget xs k) g) := allLt_succ _ _
theorem abTo2_no {xs : List (Int × Int)} {g : Int × Int} {i L : Nat} (hi : i < L) (h : comP (fget xs i) g = false) : abTo2 xs g L = false := by
  cases hc : abTo2 xs g L
  · rfl
  · have := allLt_iff.1 hc i hi
    rw [h] at this
    cases this
/-- Those of the places handed out so far that commute with all. -/
def abF {T : Nat} (xs : List (Int × Int)) (L : Nat) (pre : List (Row T)) : List (Int × Int) := (pre.filter fun x => abTo2 xs (fget xs x.1) L).map fun x => fget xs x.1
theorem abF_yes {T : Nat} (xs : List (Int × Int)) (L : Nat) (pre : List (Row T)) (x : Row T) (h : abTo2 xs (fget xs x.1) L = true) : abF xs L (pre ++ [x]) = abF xs L pre ++ [fget xs x.1] := by simp [abF, h]
theorem abF_no {T : Nat} (xs : List (Int × Int)) (L : Nat) (pre : List (Row T)) (x : Row T) (h : abTo2 xs (fget xs x.1) L = false) : abF xs L (pre ++ [x]) = abF xs L pre := by simp [abF, h]
theorem abF_len {T : Nat} (xs : List (Int × Int)) (L : Nat) (pre : List (Row T)) : (abF xs L pre).length ≤ pre.length := by
  unfold abF
  rw [List.length_map]
  exact List.length_filter_le _ _
theorem keepV_of {Bs n₀ m : Nat} {a : Option Addr} {W W' : World} (hb : Below n₀ W W') (hBs : Bs < n₀) (hg : ∀ g, a = some ⟨g, 0, none⟩ → 0 < m → g < n₀) : KeepV Bs a m n₀ W W' :=
  ⟨hb, fun v hv => (hb.cell (p := ⟨Bs, 0, none⟩) hBs).trans hv, fun g e j hj v hv => (hb.cell (p := ⟨g, j, none⟩) (hg g e (by omega))).trans hv⟩

end Go.Proofs.Ytdgpjpcdifpllaa

/- CM3:
  l10Commute of the model: the tables as lists of rows. -/
namespace Go.Proofs.Ytdgpjpcdifpllaa
open Go.RowKit Go.Shelf
set_option linter.unusedVariables false
set_option linter.unusedSimpArgs false

/-- The row i of a table with rows of P numbers. -/
def rowT (t P i : Nat) : Nat := t / 2 ^ (i * P) % 2 ^ P
def rowsT (t P m : Nat) : List Nat := (List.range m).map fun i => rowT t P i
theorem rowsT_len (t P m : Nat) : (rowsT t P m).length = m := by simp [rowsT]
theorem rowT_lt (t P i : Nat) : rowT t P i < 2 ^ P := Nat.mod_lt _ (Nat.two_pow_pos P)
theorem rowsT_get (t P m i : Nat) (h : i < m) : (rowsT t P m)[i]?.getD 0 = rowT t P i := by simp [rowsT, h]
/-- The column k. -/
def colT (t P m k : Nat) : Nat := sumN (fun i => bitN t (i * P + k)) m
theorem rowT_bit (t P i k : Nat) (hk : k < P) : bitN (rowT t P i) k = bitN t (i * P + k) := by
  rw [bitN_testBit, bitN_testBit]
  unfold rowT
  rw [Nat.testBit_mod_two_pow, Nat.testBit_div_two_pow, Nat.add_comm k]
  simp [hk]
theorem rowP_sum (p : List Nat) (k : Nat) : rowP p k = sumN (fun i => bitN (p[i]?.getD 0) k) p.length := by
  have key : ∀ q : List Nat, rowP (q.reverse) k = sumN (fun i => bitN ((q.reverse)[i]?.getD 0) k) q.reverse.length := by
    intro q
    induction q with
    | nil => rfl
    | cons a q ih =>
      rw [List.reverse_cons, rowP_snoc, ih, List.length_append, List.length_singleton]
      show _ = sumN _ _ + _ * _
      congr 1
      · refine sumN_congr _ fun i hi => ?_
        rw [List.getElem?_append_left hi]
      · have e : (q.reverse ++ [a])[q.reverse.length]? = some a := by rw [List.getElem?_append_right (Nat.le_refl _), Nat.sub_self]; rfl
        show _ = bitN ((q.reverse ++ [a])[q.reverse.length]?.getD 0) k * _
        rw [e, bitN_testBit]
        rfl
  have := key p.reverse
  rwa [List.reverse_reverse] at this
theorem rowP_col (t P m k : Nat) (hk : k < P) : rowP (rowsT t P m) k = colT t P m k := by
  rw [rowP_sum, rowsT_len]
  refine sumN_congr _ fun i hi => ?_
  rw [rowsT_get t P m i hi, rowT_bit t P i k hk]
/-- What the model makes of a table. -/
def fstT (y t P m : Nat) : Nat := sumN (fun i => bitN y (rowT t P i)) m
def sndT (x t P m : Nat) : Nat := sumN (fun k => bitN x (colT t P m k)) P
theorem fst_is (y t P m : Nat) : rowS y (rowsT t P m) = fstT y t P m := by
  unfold rowS fstT
  rw [rowsT_len]
  exact sumN_congr _ fun i hi => by rw [rowsT_get t P m i hi]
theorem snd_is (x t P m : Nat) : tupV x (rowsT t P m) P = sndT x t P m := by
  unfold tupV sndT
  exact sumN_congr _ fun k hk => by rw [rowP_col t P m k hk]
def comT (x y m P t : Nat) : Bool := bitN x (fstT y t P m) == bitN y (sndT x t P m)
def commTo (x y m P j : Nat) : Bool := allLt j fun t => comT x y m P t
theorem commTo_succ (x y m P j : Nat) : commTo x y m P (j + 1) = (commTo x y m P j && comT x y m P j) := allLt_succ _ _

/-- The table of a list of rows. -/
def tabP (P : Nat) : List Nat → Nat
  | [] => 0
  | a :: q => a + 2 ^ P * tabP P q
theorem tab_lt {P : Nat} : ∀ (p : List Nat), (∀ a ∈ p, a < 2 ^ P) → tabP P p < 2 ^ (p.length * P)
  | [], _ => by simp [tabP]
  | a :: q, h => by
    have h1 := h a (by simp)
    have h2 := tab_lt q (fun b hb => h b (by simp [hb]))
    simp only [tabP, List.length_cons]
    rw [Nat.add_mul, Nat.one_mul, Nat.pow_add]
    have h3 : 2 ^ P * (tabP P q + 1) ≤ 2 ^ P * 2 ^ (q.length * P) := Nat.mul_le_mul_left _ h2
    rw [Nat.mul_add, Nat.mul_one] at h3
    rw [Nat.mul_comm (2 ^ (q.length * P))]
    omega
theorem rowT_zero {P a q : Nat} (h : a < 2 ^ P) : rowT (a + 2 ^ P * q) P 0 = a := by
  unfold rowT
  rw [Nat.zero_mul, Nat.pow_zero, Nat.div_one, Nat.add_mul_mod_self_left, Nat.mod_eq_of_lt h]
theorem rowT_succ {P a q : Nat} (h : a < 2 ^ P) (i : Nat) : rowT (a + 2 ^ P * q) P (i + 1) = rowT q P i := by
  unfold rowT
  rw [Nat.add_mul, Nat.one_mul, Nat.add_comm (i * P), Nat.pow_add, ← Nat.div_div_eq_div_mul, Nat.add_mul_div_left _ _ (Nat.two_pow_pos P), Nat.div_eq_of_lt h, Nat.zero_add]
theorem tab_rows {P : Nat} : ∀ (p : List Nat), (∀ a ∈ p, a < 2 ^ P) → rowsT (tabP P p) P p.length = p
  | [], _ => rfl
  | a :: q, h => by
    have h1 := h a (by simp)
    have h2 := tab_rows q (fun b hb => h b (by simp [hb]))
    unfold rowsT at h2 ⊢
    rw [List.length_cons, List.range_succ_eq_map, List.map_cons, List.map_map]
    simp only [tabP]
    rw [rowT_zero h1]
    congr 1
    exact (List.map_congr_left fun i hi => rowT_succ h1 i).trans h2
theorem comB_is (x y m P : Nat) : comB x y m P (2 ^ P) = commTo x y m P (2 ^ (m * P)) := by
  rw [Bool.eq_iff_iff]
  unfold comB commTo
  rw [List.all_eq_true, allLt_iff]
  have key : ∀ t, agL x y (rowsT t P m, tupV x (rowsT t P m) P) = comT x y m P t := fun t => by
    unfold agL comT
    rw [fst_is, snd_is]
  constructor
  · intro h t ht
    rw [← key]
    refine h _ (List.mem_map.2 ⟨rowsT t P m, allP_mem.2 ⟨rowsT_len t P m, fun a ha => ?_⟩, rfl⟩)
    simp only [rowsT, List.mem_map] at ha
    obtain ⟨i, _, rfl⟩ := ha
    exact List.mem_range.2 (rowT_lt t P i)
  · rintro h l hl
    obtain ⟨p, hp, rfl⟩ := List.mem_map.1 hl
    obtain ⟨h1, h2⟩ := allP_mem.1 hp
    have hb : ∀ a ∈ p, a < 2 ^ P := fun a ha => List.mem_range.1 (h2 a ha)
    have e := tab_rows p hb
    have := h (tabP P p) (by have := tab_lt p hb; rwa [h1] at this)
    rw [← key, ← h1, e] at this
    exact this
end Go.Proofs.Ytdgpjpcdifpllaa
