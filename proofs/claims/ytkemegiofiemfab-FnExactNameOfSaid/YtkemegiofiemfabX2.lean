/-
  namesByFunc: the map of names by functions, filled in whatever order.
-/
import Derived.Test.YtkemegiofiemfabX1
namespace Go.Proofs.Ytkemegiofiemfab
open Go.RowKit
open Go.Maps (Keyed IsMap)
set_option linter.unusedVariables false
set_option linter.unusedSimpArgs false

theorem ownsMap_below {H : Type} {P : Program} {k : TypeId} {R : Value → Option (DataW H × List MemPlace)} {w w' : World} {b n : Nat} {D : DataW H} (h : w.ownsMap P k R b n D) (hb : Below w.heap.size w w') : w'.ownsMap P k R b n D := by
  obtain ⟨es, clock, hh, F, hs, hD⟩ := h
  exact ⟨es, clock, (hb.block b (Array.getElem?_eq_some_iff.1 hh).1).trans hh, F, hs, hD⟩

theorem rdFn_shape {v : Value} {y : DV × List MemPlace} (h : rdFn v = some y) : ∃ c : Int × Int, v = .agg #[.int .i64 c.1, .int .i64 c.2] := by
  unfold rdFn at h
  split at h
  · rename_i cs
    split at h
    · rename_i n' x' he
      exact ⟨(n', x'), by rw [show cs = cs.toList.toArray by simp, he]⟩
    · cases h
  · cases h

section
variable (w : World) {ops : Array Oper} {rest : List Oper} {o : Oper} {a : Act} {Q : Exit → Act → World → Prop}
/-- The next entry of the map of the names. -/
theorem wpList_next_named (hg : o.guard = none) (it : Operand) (hop : o.op = Op.next it false) (b r n : Nat) (left : Lit → Bool) (cnt : Nat)
    (hit : a.eval it = .pointer (some ⟨r, 0, none⟩)) (h : w.ranges Try.prog 9 rdFn b r n (putNm (.map []) nmL) left cnt)
    (hDone : cnt = 0 → (∀ kl, left kl = false) → wpList Try.prog ops Q rest (a.put o.dst (.tuple #[.bool false])) w)
    (hMore : ∀ (e : List UInt8 × Int × Int) (w' : World) (cnt' : Nat), e ∈ nmL → left (.string e.1) = true → w'.ranges Try.prog 9 rdFn b r n (putNm (.map []) nmL) (fun z => left z && !z.sameKey (.string e.1)) cnt' → cnt' < cnt →
      w.grownBy w' (some r) → w'.heap.size = w.heap.size → (Instr.entry (.pointer (some ⟨r, 0, none⟩))).run Try.prog w' = .ok (.tuple #[.string ⟨e.1.toArray⟩, .agg #[.int .i64 e.2.1, .int .i64 e.2.2]]) w' →
      wpList Try.prog ops Q rest (a.put o.dst (.tuple #[.bool true, .string ⟨e.1.toArray⟩, .agg #[.int .i64 e.2.1, .int .i64 e.2.2]])) w') :
    wpList Try.prog ops Q (o :: rest) a w := by
  refine wpList_next_ranges w hg it hop 9 lawS rdFn Value.string (fun (c : Int × Int) => .agg #[.int .i64 c.1, .int .i64 c.2])
    (fun key kl hk => by obtain ⟨s, rfl, _, _⟩ := WideMaps.string_of_keyOf Try.underlying9 hk; exact ⟨s, rfl⟩) (fun v y hv => rdFn_shape hv) b r n _ left cnt hit h hDone ?_
  intro x c kl y w' cnt' hkey hlk hv hat hrg hlt hgr hsz hen
  obtain ⟨s, es, rfl, _⟩ := WideMaps.string_of_keyOf Try.underlying9 hkey
  cases es
  have hy : y = (fnD c.1 c.2, []) := (Option.some.inj hv).symm
  subst hy
  have h1 := hat (.map [])
  have h2 := hat (.lit (.bool true))
  rw [at_putNm ⟨_, rfl⟩ _ nmL_apart] at h1 h2
  cases hf : nmL.find? (fun e => e.1 == x.data.toList) with
  | none =>
    rw [hf] at h2
    cases h2
  | some e =>
    rw [hf] at h1
    have he := List.mem_of_find?_eq_some hf
    have hp : e.1 = x.data.toList := by simpa using List.find?_some hf
    simp [fnD] at h1
    have hx : x = ⟨e.1.toArray⟩ := by rw [hp]
    have hc : c = e.2 := Prod.ext h1.1.symm h1.2.symm
    subst hc
    rw [← hp] at hlk hrg
    subst hx
    exact hMore e w' cnt' he hlk hrg hlt hgr hsz hen
end

theorem nmL_short : ∀ e ∈ nmL, (⟨e.1.toArray⟩ : ByteArray).size ≤ maxLen := by
  unfold maxLen
  decide +kernel
theorem size_nm : Maps.size (putNm (.map []) nmL) = 14 := by decide +kernel

set_option maxRecDepth 100000 in
set_option maxHeartbeats 4000000 in
theorem namesByFunc_any (w : World) :
    Calls Try.prog 94 #[] w fun e w' => ∃ D : DV, e = .returned (.map (some w.heap.size)) ∧ w'.ownsMap Try.prog 26 (plainElem Try.prog 9) w.heap.size 14 D ∧ NInv D (fun _ => false) ∧ Below w.heap.size w w' := by
  have hmm := @run_makeMap Try.prog
  obtain ⟨W1, hW1⟩ : ∃ W1, w.alloc (.map #[] 0) = W1 := ⟨_, rfl⟩
  have hout0 : W1.ownsMap Try.prog 26 (plainElem (H := Unit) Try.prog 9) w.heap.size 0 (.map []) := by rw [← hW1]; exact World.ownsMap_made _ _ _ _
  have hB : Below w.heap.size w W1 := by rw [← hW1]; exact bnew _ _
  have hl1 : w.heap.size < W1.heap.size := hout0.lt
  go_enter Try.func94, Try.ntmps94
  go_wp2_with (first
    | (go_at_call 92; refine (funcsByName_any _).mono ?_; rintro e' w2 ⟨rfl, hown, hb⟩; have hout2 := ownsMap_below hout0 hb; have hB2 := bthen hB hb; have hl2 := hown.lt)
    | (at_range; refine wpList_range_own _ rfl _ 84 rfl 9 26 lawS Try.underlying84 rdFn W1.heap.size 14 _ rfl hown ?_; intro w3 hrg0 hg0 hs0))
  go_frame
  have hB3 : Below w.heap.size w w3 := hB2.grown hg0 hB2.size (fun j e => by cases e)
  have hout3 := hout2.kept hg0 (by simp)
  clear hW1 hout0 hout2 hB hB2 hb hown hmm hg0
  go_loopw [2] (fun _ wr => ∃ (left : Lit → Bool) (cnt : Nat) (D : DV), wr.ranges Try.prog 9 rdFn W1.heap.size w2.heap.size 14 (putNm (.map []) nmL) left cnt ∧ cnt ≤ 14 ∧
      wr.ownsMap Try.prog 26 (plainElem Try.prog 9) w.heap.size (14 - cnt) D ∧ Hid (NInv D left) ∧ Below w.heap.size w wr)
    (fun _ wr => wr.rangeLeft W1.heap.size w2.heap.size)
  case atStart => exact ⟨_, _, _, hrg0, by rw [size_nm]; exact Nat.le_refl _, hout3.mono (Nat.zero_le _), Lib.hid NInv.start, hB3⟩
  case round =>
    obtain ⟨left, cnt, D, hrg, hcs, hout, hA, hnx⟩ := hrel
    go_wp2_with (first
      | (at_next; refine wpList_next_named _ rfl _ rfl W1.heap.size w2.heap.size 14 _ _ rfl hrg ?_ ?_))
    · intro hc0 hl0
      have hA2 : Hid (NInv D (fun _ => false)) := by rw [show left = fun _ => false from funext hl0] at hA; exact hA
      subst hc0
      go_wp2
      go_ret
      exact ⟨D, rfl, hout, hA2.out, hnx⟩
    · intro q n x w4 cnt1 he hlx hrg1 hlt hg1 hs1 hen
      have hout1 := hout.kept hg1 (by simp; omega)
      have hk := Lib.hid (nmL_wf (q, n, x) he).key
      have hA2 := Lib.hid (hA.out.step he)
      have hqz := Lib.hid (nmL_short (q, n, x) he)
      have hsz1 := hnx.size
      have hB4 : Below w.heap.size w w4 := hnx.grown hg1 hnx.size (fun j hj => by cases hj; omega)
      clear hout hA
      go_wp2_with (at_mapUpdate; refine wpList_mapUpdate_own _ rfl _ _ _ 88 rfl 26 9 lawN Try.underlying88 _ w.heap.size _ _ rfl (hout1.alloc _) (by unfold maxLen; omega) _ _ _ rfl rfl hk.out _ [] (plainElem_string (s := ⟨q.toArray⟩) Try.underlying9 hqz.out) ?_; intro w5 hout2 hg2; go_frame)
      have hrg2 := (hrg1.alloc (.cells #[.int .i64 n, .int .i64 x] 26)).kept hg2 (fun e => by have := Option.some.inj e; omega) (fun e => by have := Option.some.inj e; omega)
      go_roundw
      case rel => exact ⟨_, cnt1, _, hrg2, by omega, hout2.mono (by omega), hA2, (balloc hB4 _).grown hg2 (balloc hB4 _).size (fun j hj => by cases hj; exact Nat.le_refl _)⟩
      case measure => rw [hrg2.left_eq, hrg.left_eq]; exact hlt
end Go.Proofs.Ytkemegiofiemfab
