/-
  The texts U3, U4, X4, X5, LC, LN, YP, YQ, FF0 in one.
-/
import Derived.Test.YtenbokdcdokhiabMPFnFunctions2
import Derived.OwnWalkIn
import Derived.Deep.AppendLies
import Derived.Deep.RegionHeld3
import Derived.Laws.Concat
import Derived.Laws.IdiomStrings
import Derived.Deep.LoopGhost

/- U3:
  FuncText in both packages. -/

namespace Go.Proofs.Ytenbokdcdokhiab
open Go.RowKit Go.Shelf
set_option linter.unusedVariables false
attribute [local go_sem] Oper.semAt_some

set_option maxRecDepth 100000 in
set_option maxHeartbeats 1000000 in
theorem specFuncText_yes {n : Int} {x R : Nat} (ok : FOk n x R) (h : isF n (x : Int) = true) (w : World) :
    Calls Try.prog 79 #[.agg #[.int .i64 n, .int .i64 (x : Int)]] w fun e w' => e = .returned (.tuple #[.string (txtS n.toNat x R), .int .i64 0]) ∧ Below w.heap.size w w' := by
  obtain ⟨W1, hW1⟩ : ∃ W1, w.alloc (.cells #[.int .i64 n, .int .i64 (x : Int)] 25) = W1 := ⟨_, rfl⟩
  have p0 : W1.cell? ⟨w.heap.size, 0, none⟩ = some (.int .i64 n) := by rw [← hW1]; simp [go_sem]
  have p1 : W1.cell? ⟨w.heap.size, 1, none⟩ = some (.int .i64 (x : Int)) := by rw [← hW1]; simp [go_sem]
  have hB : Below w.heap.size w W1 := by rw [← hW1]; exact bnew _ _
  have T := Lib.hid fun W => l01Text_any ok W
  go_enter Try.func79, Try.ntmps79
  go_wp2_with (first
    | (go_at_call 153; refine (l01Is_is h _).mono ?_; rintro e w2 ⟨rfl, hb⟩; have q0 := kc hb p0; have q1 := kc hb p1; have hB2 := bthen hB hb)
    | (go_at_call 196; refine (T.out _).mono ?_; rintro e w3 ⟨rfl, hb3⟩))
  go_ret2
  exact ⟨rfl, bthen hB2 hb3⟩

set_option maxRecDepth 100000 in
set_option maxHeartbeats 1000000 in
theorem specFuncText_no {n b : Int} (h : isF n b = false) (w : World) :
    Calls Try.prog 79 #[.agg #[.int .i64 n, .int .i64 b]] w fun e w' => e = .returned (.tuple #[.string ⟨#[]⟩, .int .i64 1]) ∧ Below w.heap.size w w' := by
  obtain ⟨W1, hW1⟩ : ∃ W1, w.alloc (.cells #[.int .i64 n, .int .i64 b] 25) = W1 := ⟨_, rfl⟩
  have p0 : W1.cell? ⟨w.heap.size, 0, none⟩ = some (.int .i64 n) := by rw [← hW1]; simp [go_sem]
  have p1 : W1.cell? ⟨w.heap.size, 1, none⟩ = some (.int .i64 b) := by rw [← hW1]; simp [go_sem]
  have hB : Below w.heap.size w W1 := by rw [← hW1]; exact bnew _ _
  go_enter Try.func79, Try.ntmps79
  go_wp2_with (first
    | (go_at_call 153; refine (l01Is_is h _).mono ?_; rintro e w2 ⟨rfl, hb⟩; have hB2 := bthen hB hb))
  go_ret2
  exact ⟨rfl, hB2⟩

theorem infoU8 : (Try.prog.info? 5).map (fun i => (i.zero, i.size, i.bytes)) = some (some (.int .u8 0), 1, 1) := by kernel_rfl

/-- .. of the rows handed out. -/
def txtF {R : Nat} (n x : Nat) (pre : List (Row R)) : List UInt8 := dgB n :: 58 :: pre.map fun r => dgB (bitN x r.1)
def bvals (l : List UInt8) : List Value := l.map fun b => .int .u8 (b.toNat : Int)
theorem bvals_snoc (l : List UInt8) (b : UInt8) : bvals (l ++ [b]) = bvals l ++ [.int .u8 (b.toNat : Int)] := by simp [bvals]
theorem txtF_snoc {R : Nat} (n x : Nat) (pre : List (Row R)) (r : Row R) : txtF n x (pre ++ [r]) = txtF n x pre ++ [dgB (bitN x r.1)] := by simp [txtF]
theorem txtF_len {R : Nat} (n x : Nat) (pre : List (Row R)) : (txtF n x pre).length = pre.length + 2 := by simp [txtF]
theorem txtF_upto {R : Nat} (hR : 0 < R) (n x k : Nat) (hk : k ≤ R) : txtF n x (upto hR k) = txtL n x k := by
  induction k with
  | zero => rfl
  | succ k ih => rw [upto_succ, txtF_snoc, ih (by omega), txtL_succ, rowAt_val hR (k := k) (by omega)]

/-- An append to a list of one's own, within a region that draws. -/
theorem stepIn_append_own {F : Fence} {n : Nat} {P : Program} (w : World) {ops : Array Oper} {o : Oper} {a : Act} {K : Act → World → Prop} {Q : Exit → Act → World → Prop} {E : Prop}
    (hg : o.guard = none) (s x : Operand) (t : TypeId) (hop : o.op = Op.call { callee := Callee.builtin Builtin.append, args := #[s, x], argTypes := #[t, t] })
    (base : Nat) (e : TypeId) (i : TypeInfo) (z : Value) (size bytes : Nat) (h1 : P.underlying t = some (.slice e)) (h2 : P.info? e = some i) (h3 : i.zero = some z) (h4 : i.size = size) (h5 : i.bytes = bytes) (h6 : z.cells.size = size) (h7 : 0 < size)
    (v : Value) (k : Nat) (xs : List Value) (hs : a.eval s = v) (hown : w.ownsRow base e size v k xs) (ad : Addr) (m c : Nat) (news : List Value) (hx : a.eval x = .slice (some ad) m c) (hn : news.length = m * size)
    (hc : ∀ j u, news[j]? = some u → w.cell? (ad.add j) = some u) (h1c : ∀ u ∈ news, u.oneCell' = true) (b1 : k + m ≤ maxLen) (b2 : (k + m) * bytes ≤ 140737488355328) (b3 : base ≤ w.heap.size)
    (hK : ∀ v' w', w'.ownsRow base e size v' (k + m) (xs ++ news) → w.grownBy w' v.ownBlock → K (a.put o.dst v') w') :
    if Region.wanted o (yielded ops a.tmps) = true then Oper.wpIn F n P o a w K Q else E := by
  rw [if_pos (by simp [Region.wanted, hg])]
  obtain ⟨v', w', hrun, r1, r2, _⟩ := run_append_own (P := P) w base t o.type e i z size bytes h1 h2 h3 h4 h5 h6 h7 v k xs hown ad m c news hn hc h1c b1 b2 b3
  unfold Oper.wpIn
  refine ⟨by simp [Oper.about, hop, resolve, Target.leads, Sem.run_pure], ?_⟩
  rw [Oper.semAt_plain F _ _ (by rw [hop]; intro c hc'; cases hc')]
  simp [execOp, hop, resolve, invoke, builtin, hs, hx, hrun, Result.andThen]
  exact hK _ _ r1 r2

theorem digitByte_any (d : Nat) (hd : d < 10) (w : World) :
    Calls Try.prog 181 #[.int .i64 (d : Int)] w fun e w' => e = .returned (.int .u8 ((dgB d).toNat : Int)) ∧ w = w' := by
  have hv := dgB_nat d (by omega)
  go_enter Try.func181, Try.ntmps181
  go_wp2
  go_ret
  exact ⟨by rw [hv]; push_cast; rfl, rfl⟩

set_option maxRecDepth 100000 in
set_option maxHeartbeats 4000000 in
theorem implFuncText_yes {n : Int} {x R : Nat} (ok : FOk n x R) (h : isF n (x : Int) = true) (w : World) :
    Calls Try.prog 61 #[.agg #[.int .i64 n, .int .i64 (x : Int)]] w fun e w' => e = .returned (.tuple #[.string (txtS n.toNat x R), .int .i64 0]) ∧ Below w.heap.size w w' := by
  have h0 := ok.h0
  have h4 := ok.h4
  have r0 := ok.r0
  have r16 := ok.r16
  have hR := ok.hR
  have hx62 := ok.hx
  obtain ⟨i0, hi, hz0, hz1, hz2⟩ := info_parts infoU8
  obtain ⟨m, rfl⟩ := Int.eq_ofNat_of_zero_le h0
  simp only [Int.toNat_natCast]
  have DG := Lib.hid fun W => digitByte_any m (by omega) W
  obtain ⟨W1, hW1⟩ : ∃ W1, w.alloc (.cells #[.int .i64 (m : Int), .int .i64 (x : Int)] 25) = W1 := ⟨_, rfl⟩
  have p0 : W1.cell? ⟨w.heap.size, 0, none⟩ = some (.int .i64 (m : Int)) := by rw [← hW1]; simp [go_sem]
  have p1 : W1.cell? ⟨w.heap.size, 1, none⟩ = some (.int .i64 (x : Int)) := by rw [← hW1]; simp [go_sem]
  have hB : Below w.heap.size w W1 := by rw [← hW1]; exact bnew _ _
  have hz1' : w.heap.size < W1.heap.size := by rw [← hW1]; simp [go_sem]
  refine (callsIn_wide (n := 3)).1 ?_
  refine callsIn_of_wp_marks Try.func61 rfl trivial ?_ rfl
  simp only [Try.ntmps61, List.size_toArray, List.length_cons, List.length_nil, Nat.reduceAdd, Nat.reduceSub, Array.replicate_succ, Array.replicate_zero, List.push_toArray, List.append_toArray, List.nil_append, List.cons_append]
  gi_wp2_with (first
    | (refine ⟨trivial, ?_⟩; gi_at_call 16; refine (callsIn_wide.2 (IsFunc_is h _)).mono ?_; rintro e w2 ⟨rfl, hb⟩; have q0 := kc hb p0; have q1 := kc hb p1; have hB2 := bthen hB hb; have hz2' := hb.size; have k0 : ∀ o1 o2, ((w2.alloc o1).alloc o2).cell? ⟨w.heap.size, 0, none⟩ = some (.int .i64 (m : Int)) := fun o1 o2 => kc (balloc (bnew _ _) _) q0)
    | (refine ⟨trivial, ?_⟩; gi_at_call 181; refine (callsIn_wide.2 (DG.out _)).mono ?_; rintro e w3 ⟨rfl, rfl⟩)
    | (refine ⟨trivial, ?_⟩; gi_at_call 142; refine (callsIn_wide.2 (rowsOf_any _ _)).mono ?_; rintro e w' ⟨rfl, rfl⟩))
  obtain ⟨W0, hW0⟩ : ∃ W0, ((w2.alloc (.cells #[.int .u8 ((dgB m).toNat : Int), .int .u8 58] 5)).alloc (.cells #[.slice (some ⟨w2.heap.size, 0, none⟩) 2 2] 22)).alloc (.cells #[.int .i64 (m : Int)] 2) = W0 := ⟨_, rfl⟩
  have hbx : Boxed W0 (w2.heap.size + 1) 22 (.slice (some ⟨w2.heap.size, 0, none⟩) 2 2) := by
    rw [← hW0]
    refine Boxed.alloc ?_ _
    have := Boxed.new (w2.alloc (.cells #[.int .u8 ((dgB m).toNat : Int), .int .u8 58] 5)) 22 (.slice (some ⟨w2.heap.size, 0, none⟩) 2 2)
    simpa using this
  have hrow : W0.ownsRow w2.heap.size 5 1 (.slice (some ⟨w2.heap.size, 0, none⟩) 2 2) 2 (bvals (txtF (R := R) m x [])) := by
    rw [← hW0]
    exact ((World.ownsRow_lit w2 #[.int .u8 ((dgB m).toNat : Int), .int .u8 58] 2 (Nat.le_refl _) (by decide) rfl).alloc _).alloc _
  have cR : W0.cell? ⟨w2.heap.size + 1 + 1, 0, none⟩ = some (.int .i64 (m : Int)) := by rw [← hW0]; simp [go_sem]
  have hB3 : Below w2.heap.size w2 W0 := by rw [← hW0]; exact balloc (balloc (bnew _ _) _) _
  have s0 := kc hB3 q0
  have s1 := kc hB3 q1
  have hB0 : Below w.heap.size w W0 := bthen hB2 hB3
  have hsz : W0.heap.size = w2.heap.size + 3 := by rw [← hW0]; simp [go_sem]
  rw [hW0]
  clear hW0 k0 p0 p1 q0 q1 hB hB2 hB3 hW1
  refine wpIn_rangeFunc_ownF (α := Row R) rfl (by omega) (gf := 252) (lb := #[.pointer (some ⟨w2.heap.size + 1 + 1, 0, none⟩)]) rfl trivial (enters_of Try.func252 (by kernel_rfl) rfl)
    (rows_stops (3 - 1) (by omega) (w2.heap.size + 1 + 1) w.heap.size (m : Int) R h0 h4 r0 r16 hR W0 (by omega) cR) belowK_t (belowK_b (by omega)) (Below.refl _ _) (fun _ => rfl)
    (fun pre W => (∃ v, Boxed W (w2.heap.size + 1) 22 v ∧ W.ownsRow w2.heap.size 5 1 v (pre.length + 2) (bvals (txtF m x pre)) ∧ True) ∧ (FBox w.heap.size (m : Int) x W ∧ Below w.heap.size w W))
    (fun _ _ _ => False)
    (OwnFrom.and (Own.from (holdsRow_own w2.heap.size (w2.heap.size + 1) 22 5 1 (fun pre => pre.length + 2) (fun pre => bvals (txtF m x pre)) (fun _ _ => True)) _) (OwnFrom.and (Own.from (fun s A B row hs hg hr => ⟨cell_kept hs.c0 hg hr, cell_kept hs.c1 hg hr⟩) _) (ownFrom_below (Nat.le_refl _) (by omega))))
    (fun _ _ _ _ _ hs _ _ => hs)
    ⟨⟨_, hbx, hrow, trivial⟩, ⟨s0, s1⟩, hB0⟩
    (fun y => { tmps := #[.agg #[.int .i64 (m : Int), .int .i64 (x : Int)], .pointer (some ⟨w.heap.size, 0, none⟩), .string ⟨#[]⟩, .int .i64 0, .pointer (some ⟨w2.heap.size + 1, 0, none⟩), .int .i64 (y.1 : Int), .agg #[.int .i64 (m : Int), .int .i64 (x : Int)], .bool true, .bool false,
      .pointer (some ⟨w.heap.size, 0, none⟩), .int .i64 (m : Int), .int .u8 ((dgB m).toNat : Int), .slice (some ⟨w2.heap.size, 0, none⟩) 2 2, .pointer (some ⟨w.heap.size, 0, none⟩), .int .i64 (m : Int), .func (.func 252) #[] #[.pointer (some ⟨w2.heap.size + 1 + 1, 0, none⟩)], .int .i64 (y.1 : Int), undef, undef, undef, undef, undef, undef, undef, undef, undef], defers := [] }) ?assign ?body ?done ?stop
  case assign =>
    intro l y W K hK
    unfold encRow
    gi_wp2
    exact hK
  case body =>
    clear cR hbx hrow s0 s1 hB0 DG
    rintro l pre y W ⟨⟨v, hv, hrow, _⟩, hf, hB⟩ hlen
    have c0 := hf.c0
    have c1 := hf.c1
    have dv := hv.cell
    have HV := Lib.hid hv
    have HR := Lib.hid hrow
    have HF := Lib.hid hf
    clear hv hrow hf
    have hy := y.2
    have HS := Lib.hid (txtF_snoc m x pre y)
    have HLN := Lib.hid (txtF_len m x pre)
    have HL2 : Hid ((pre ++ [y]).length + 2 = pre.length + 2 + 1) := Lib.hid (by simp)
    have hle2 : w.heap.size ≤ w2.heap.size := by omega
    have hlt2 : w.heap.size < w2.heap.size := by omega
    generalize y.1 = r at hy HS ⊢
    have VR := Lib.hid fun W => valueInRow_any (m : Int) x r hx62 (by omega) W
    have DR := Lib.hid fun W => digitByte_any (bitN x r) (by have := bitN_le x r; omega) W
    have hmx : Try.prog.follows .mixedOrders = true := by kernel_rfl
    have hd : 1 ≤ 3 - 1 - 1 := by omega
    gi_wp2
    refine wpIn_region_any hmx ?_
    refine wpAnyIn_round (F := Fence.wide) l (by kernel_rfl) _ _ _ _ ?_
    change wpAnyIn _ _ _ _ _ _ _ _ _ (World.drew _)
    refine wpAnyIn_take (i := 2) (v := ?_) rfl rfl (by kernel_rfl) (by kernel_rfl) (by kernel_rfl) (fun _ _ _ h => h) ⟨Or.inl ⟨by rfl, by intro w; go_simp; try (with_reducible rfl)⟩, fun _ => rfl⟩ ?_
    refine wpAnyIn_ready (rs := [0, 1]) (by kernel_rfl) (by simp) ?_
    refine AllReadyIn.cons rfl (fun K hK => ?_) ?_
    · go_simp
      refine hK _ _ ?_
      clear hK K
      refine wpAnyIn_ready (rs := [1]) (by kernel_rfl) (by simp) ?_
      refine AllReadyIn.cons rfl (fun K hK => ?_) ?_
      · go_simp
        refine hK _ _ ?_
        clear hK K
        refine wpAnyIn_ready (rs := [3]) (by kernel_rfl) (by simp) ?_
        refine AllReadyIn.cons rfl (fun K hK => ?_) ?_
        · go_simp
          refine ⟨trivial, ?_⟩
          refine (callsIn_wide.2 (VR.out _)).mono ?_
          rintro e w4 ⟨rfl, hb4⟩
          have HB4 := Lib.hid hb4
          have hv5 : Boxed w4 (w2.heap.size + 1) 22 v := (hb4.block (w2.heap.size + 1) (by have := HV.out.lt; simpa using this)).trans HV.out
          have HV5 := Lib.hid hv5
          have dv := hv5.cell
          have dv5 : ∀ o, (w4.alloc o).cell? ⟨w2.heap.size + 1, 0, none⟩ = some v := fun o => (hv5.alloc o).cell
          clear hv5 hb4
          dsimp only
          refine hK _ _ ?_
          clear hK K
          refine wpAnyIn_ready (rs := [4]) (by kernel_rfl) (by simp) ?_
          refine AllReadyIn.cons rfl (fun K hK => ?_) ?_
          · go_simp
            refine ⟨trivial, ?_⟩
            refine (callsIn_wide.2 (DR.out _)).mono ?_
            rintro e w5 ⟨rfl, rfl⟩
            dsimp only
            refine hK _ _ ?_
            clear hK K
            refine wpAnyIn_ready (rs := [5]) (by kernel_rfl) (by simp) ?_
            refine AllReadyIn.cons rfl (fun K hK => ?_) ?_
            · go_simp
              refine hK _ _ ?_
              clear hK K
              refine wpAnyIn_ready (rs := [6]) (by kernel_rfl) (by simp) ?_
              refine AllReadyIn.cons rfl (fun K hK => ?_) ?_
              · have hrow5 : World.ownsRow _ _ _ _ _ _ _ := owns_below' (HR.out.drew) HB4.out
                have hs5 : w2.heap.size ≤ w4.heap.size := by have := HB4.out.size; have := HV.out.lt; simp at *; omega
                refine stepIn_append_own _ rfl _ _ 22 rfl w2.heap.size 5 i0 (.int .u8 0) 1 1 Try.underlying22 hi hz0 hz1 hz2 rfl (by decide) _ _ _ rfl (hrow5.alloc _) ⟨w4.heap.size, 0, none⟩ 1 1 [.int .u8 ((dgB (bitN x r)).toNat : Int)] rfl rfl (World.news_of_block (cs := #[.int .u8 ((dgB (bitN x r)).toNat : Int)]) (t := 5) (fr := (0, 0)) (heap_alloc_new w4 _)) (by simp [Value.oneCell']) (by unfold maxLen; omega) (by omega) (by simp; omega) ?_
                intro v' w1 hown' hgrow
                have HAP := Lib.hid (Boxed.appended HV5.out (by decide) hrow5 hs5 (by omega) hown' hgrow)
                obtain ⟨g5, cap5, rfl⟩ := ownsRow_succ hown'
                have e5 := HAP.out.1.cell
                have z5 := HAP.out.1.frozen
                clear hgrow hown' hrow5
                refine hK _ _ ?_
                clear hK K
                refine wpAnyIn_ready (rs := [7]) (by kernel_rfl) (by simp) ?_
                refine AllReadyIn.cons rfl (fun K hK => ?_) ?_
                · go_simp
                  refine hK _ _ ?_
                  clear hK K
                  refine wpAnyIn_done (by kernel_rfl) ?_ _
                  obtain ⟨a1, a2, a3, a4, a5⟩ := HAP.out
                  exact ⟨(kot HB4.out).trans a4, ((Below.refl _ W).drew.trans (HB4.out.mono hB.size)).trans (a5.mono hle2), ⟨_, a2, by rw [HS.out, bvals_snoc, HL2.out]; exact a3, trivial⟩, ⟨(a5.cell (p := ⟨w.heap.size, 0, none⟩) hlt2).trans (kcd HB4.out c0), (a5.cell (p := ⟨w.heap.size, 1, none⟩) hlt2).trans (kcd HB4.out c1)⟩, (hB.drew.trans (HB4.out.mono hB.size)).trans (a5.mono hle2)⟩
                exact AllReadyIn.nil
              exact AllReadyIn.nil
            exact AllReadyIn.nil
          exact AllReadyIn.nil
        exact AllReadyIn.nil
      exact AllReadyIn.nil
    refine AllReadyIn.cons rfl (fun K hK => ?_) ?_
    · go_simp
      refine hK _ _ ?_
      clear hK K
      refine wpAnyIn_ready (rs := [0, 3]) (by kernel_rfl) (by simp) ?_
      refine AllReadyIn.cons rfl (fun K hK => ?_) ?_
      · go_simp
        refine hK _ _ ?_
        clear hK K
        refine wpAnyIn_ready (rs := [3]) (by kernel_rfl) (by simp) ?_
        refine AllReadyIn.cons rfl (fun K hK => ?_) ?_
        · go_simp
          refine ⟨trivial, ?_⟩
          refine (callsIn_wide.2 (VR.out _)).mono ?_
          rintro e w4 ⟨rfl, hb4⟩
          have HB4 := Lib.hid hb4
          have hv5 : Boxed w4 (w2.heap.size + 1) 22 v := (hb4.block (w2.heap.size + 1) (by have := HV.out.lt; simpa using this)).trans HV.out
          have HV5 := Lib.hid hv5
          have dv := hv5.cell
          have dv5 : ∀ o, (w4.alloc o).cell? ⟨w2.heap.size + 1, 0, none⟩ = some v := fun o => (hv5.alloc o).cell
          clear hv5 hb4
          dsimp only
          refine hK _ _ ?_
          clear hK K
          refine wpAnyIn_ready (rs := [4]) (by kernel_rfl) (by simp) ?_
          refine AllReadyIn.cons rfl (fun K hK => ?_) ?_
          · go_simp
            refine ⟨trivial, ?_⟩
            refine (callsIn_wide.2 (DR.out _)).mono ?_
            rintro e w5 ⟨rfl, rfl⟩
            dsimp only
            refine hK _ _ ?_
            clear hK K
            refine wpAnyIn_ready (rs := [5]) (by kernel_rfl) (by simp) ?_
            refine AllReadyIn.cons rfl (fun K hK => ?_) ?_
            · go_simp
              refine hK _ _ ?_
              clear hK K
              refine wpAnyIn_ready (rs := [6]) (by kernel_rfl) (by simp) ?_
              refine AllReadyIn.cons rfl (fun K hK => ?_) ?_
              · have hrow5 : World.ownsRow _ _ _ _ _ _ _ := owns_below' (HR.out.drew) HB4.out
                have hs5 : w2.heap.size ≤ w4.heap.size := by have := HB4.out.size; have := HV.out.lt; simp at *; omega
                refine stepIn_append_own _ rfl _ _ 22 rfl w2.heap.size 5 i0 (.int .u8 0) 1 1 Try.underlying22 hi hz0 hz1 hz2 rfl (by decide) _ _ _ rfl (hrow5.alloc _) ⟨w4.heap.size, 0, none⟩ 1 1 [.int .u8 ((dgB (bitN x r)).toNat : Int)] rfl rfl (World.news_of_block (cs := #[.int .u8 ((dgB (bitN x r)).toNat : Int)]) (t := 5) (fr := (0, 0)) (heap_alloc_new w4 _)) (by simp [Value.oneCell']) (by unfold maxLen; omega) (by omega) (by simp; omega) ?_
                intro v' w1 hown' hgrow
                have HAP := Lib.hid (Boxed.appended HV5.out (by decide) hrow5 hs5 (by omega) hown' hgrow)
                obtain ⟨g5, cap5, rfl⟩ := ownsRow_succ hown'
                have e5 := HAP.out.1.cell
                have z5 := HAP.out.1.frozen
                clear hgrow hown' hrow5
                refine hK _ _ ?_
                clear hK K
                refine wpAnyIn_ready (rs := [7]) (by kernel_rfl) (by simp) ?_
                refine AllReadyIn.cons rfl (fun K hK => ?_) ?_
                · go_simp
                  refine hK _ _ ?_
                  clear hK K
                  refine wpAnyIn_done (by kernel_rfl) ?_ _
                  obtain ⟨a1, a2, a3, a4, a5⟩ := HAP.out
                  exact ⟨(kot HB4.out).trans a4, ((Below.refl _ W).drew.trans (HB4.out.mono hB.size)).trans (a5.mono hle2), ⟨_, a2, by rw [HS.out, bvals_snoc, HL2.out]; exact a3, trivial⟩, ⟨(a5.cell (p := ⟨w.heap.size, 0, none⟩) hlt2).trans (kcd HB4.out c0), (a5.cell (p := ⟨w.heap.size, 1, none⟩) hlt2).trans (kcd HB4.out c1)⟩, (hB.drew.trans (HB4.out.mono hB.size)).trans (a5.mono hle2)⟩
                exact AllReadyIn.nil
              exact AllReadyIn.nil
            exact AllReadyIn.nil
          exact AllReadyIn.nil
        exact AllReadyIn.nil
      refine AllReadyIn.cons rfl (fun K hK => ?_) ?_
      · go_simp
        refine ⟨trivial, ?_⟩
        refine (callsIn_wide.2 (VR.out _)).mono ?_
        rintro e w4 ⟨rfl, hb4⟩
        have HB4 := Lib.hid hb4
        have hv5 : Boxed w4 (w2.heap.size + 1) 22 v := (hb4.block (w2.heap.size + 1) (by have := HV.out.lt; simpa using this)).trans HV.out
        have HV5 := Lib.hid hv5
        have dv := hv5.cell
        have dv5 : ∀ o, (w4.alloc o).cell? ⟨w2.heap.size + 1, 0, none⟩ = some v := fun o => (hv5.alloc o).cell
        clear hv5 hb4
        dsimp only
        refine hK _ _ ?_
        clear hK K
        refine wpAnyIn_ready (rs := [0, 4]) (by kernel_rfl) (by simp) ?_
        refine AllReadyIn.cons rfl (fun K hK => ?_) ?_
        · go_simp
          refine hK _ _ ?_
          clear hK K
          refine wpAnyIn_ready (rs := [4]) (by kernel_rfl) (by simp) ?_
          refine AllReadyIn.cons rfl (fun K hK => ?_) ?_
          · go_simp
            refine ⟨trivial, ?_⟩
            refine (callsIn_wide.2 (DR.out _)).mono ?_
            rintro e w5 ⟨rfl, rfl⟩
            dsimp only
            refine hK _ _ ?_
            clear hK K
            refine wpAnyIn_ready (rs := [5]) (by kernel_rfl) (by simp) ?_
            refine AllReadyIn.cons rfl (fun K hK => ?_) ?_
            · go_simp
              refine hK _ _ ?_
              clear hK K
              refine wpAnyIn_ready (rs := [6]) (by kernel_rfl) (by simp) ?_
              refine AllReadyIn.cons rfl (fun K hK => ?_) ?_
              · have hrow5 : World.ownsRow _ _ _ _ _ _ _ := owns_below' (HR.out.drew) HB4.out
                have hs5 : w2.heap.size ≤ w4.heap.size := by have := HB4.out.size; have := HV.out.lt; simp at *; omega
                refine stepIn_append_own _ rfl _ _ 22 rfl w2.heap.size 5 i0 (.int .u8 0) 1 1 Try.underlying22 hi hz0 hz1 hz2 rfl (by decide) _ _ _ rfl (hrow5.alloc _) ⟨w4.heap.size, 0, none⟩ 1 1 [.int .u8 ((dgB (bitN x r)).toNat : Int)] rfl rfl (World.news_of_block (cs := #[.int .u8 ((dgB (bitN x r)).toNat : Int)]) (t := 5) (fr := (0, 0)) (heap_alloc_new w4 _)) (by simp [Value.oneCell']) (by unfold maxLen; omega) (by omega) (by simp; omega) ?_
                intro v' w1 hown' hgrow
                have HAP := Lib.hid (Boxed.appended HV5.out (by decide) hrow5 hs5 (by omega) hown' hgrow)
                obtain ⟨g5, cap5, rfl⟩ := ownsRow_succ hown'
                have e5 := HAP.out.1.cell
                have z5 := HAP.out.1.frozen
                clear hgrow hown' hrow5
                refine hK _ _ ?_
                clear hK K
                refine wpAnyIn_ready (rs := [7]) (by kernel_rfl) (by simp) ?_
                refine AllReadyIn.cons rfl (fun K hK => ?_) ?_
                · go_simp
                  refine hK _ _ ?_
                  clear hK K
                  refine wpAnyIn_done (by kernel_rfl) ?_ _
                  obtain ⟨a1, a2, a3, a4, a5⟩ := HAP.out
                  exact ⟨(kot HB4.out).trans a4, ((Below.refl _ W).drew.trans (HB4.out.mono hB.size)).trans (a5.mono hle2), ⟨_, a2, by rw [HS.out, bvals_snoc, HL2.out]; exact a3, trivial⟩, ⟨(a5.cell (p := ⟨w.heap.size, 0, none⟩) hlt2).trans (kcd HB4.out c0), (a5.cell (p := ⟨w.heap.size, 1, none⟩) hlt2).trans (kcd HB4.out c1)⟩, (hB.drew.trans (HB4.out.mono hB.size)).trans (a5.mono hle2)⟩
                exact AllReadyIn.nil
              exact AllReadyIn.nil
            exact AllReadyIn.nil
          exact AllReadyIn.nil
        refine AllReadyIn.cons rfl (fun K hK => ?_) ?_
        · go_simp
          refine ⟨trivial, ?_⟩
          refine (callsIn_wide.2 (DR.out _)).mono ?_
          rintro e w5 ⟨rfl, rfl⟩
          dsimp only
          refine hK _ _ ?_
          clear hK K
          refine wpAnyIn_ready (rs := [0, 5]) (by kernel_rfl) (by simp) ?_
          refine AllReadyIn.cons rfl (fun K hK => ?_) ?_
          · go_simp
            refine hK _ _ ?_
            clear hK K
            refine wpAnyIn_ready (rs := [5]) (by kernel_rfl) (by simp) ?_
            refine AllReadyIn.cons rfl (fun K hK => ?_) ?_
            · go_simp
              refine hK _ _ ?_
              clear hK K
              refine wpAnyIn_ready (rs := [6]) (by kernel_rfl) (by simp) ?_
              refine AllReadyIn.cons rfl (fun K hK => ?_) ?_
              · have hrow5 : World.ownsRow _ _ _ _ _ _ _ := owns_below' (HR.out.drew) HB4.out
                have hs5 : w2.heap.size ≤ w4.heap.size := by have := HB4.out.size; have := HV.out.lt; simp at *; omega
                refine stepIn_append_own _ rfl _ _ 22 rfl w2.heap.size 5 i0 (.int .u8 0) 1 1 Try.underlying22 hi hz0 hz1 hz2 rfl (by decide) _ _ _ rfl (hrow5.alloc _) ⟨w4.heap.size, 0, none⟩ 1 1 [.int .u8 ((dgB (bitN x r)).toNat : Int)] rfl rfl (World.news_of_block (cs := #[.int .u8 ((dgB (bitN x r)).toNat : Int)]) (t := 5) (fr := (0, 0)) (heap_alloc_new w4 _)) (by simp [Value.oneCell']) (by unfold maxLen; omega) (by omega) (by simp; omega) ?_
                intro v' w1 hown' hgrow
                have HAP := Lib.hid (Boxed.appended HV5.out (by decide) hrow5 hs5 (by omega) hown' hgrow)
                obtain ⟨g5, cap5, rfl⟩ := ownsRow_succ hown'
                have e5 := HAP.out.1.cell
                have z5 := HAP.out.1.frozen
                clear hgrow hown' hrow5
                refine hK _ _ ?_
                clear hK K
                refine wpAnyIn_ready (rs := [7]) (by kernel_rfl) (by simp) ?_
                refine AllReadyIn.cons rfl (fun K hK => ?_) ?_
                · go_simp
                  refine hK _ _ ?_
                  clear hK K
                  refine wpAnyIn_done (by kernel_rfl) ?_ _
                  obtain ⟨a1, a2, a3, a4, a5⟩ := HAP.out
                  exact ⟨(kot HB4.out).trans a4, ((Below.refl _ W).drew.trans (HB4.out.mono hB.size)).trans (a5.mono hle2), ⟨_, a2, by rw [HS.out, bvals_snoc, HL2.out]; exact a3, trivial⟩, ⟨(a5.cell (p := ⟨w.heap.size, 0, none⟩) hlt2).trans (kcd HB4.out c0), (a5.cell (p := ⟨w.heap.size, 1, none⟩) hlt2).trans (kcd HB4.out c1)⟩, (hB.drew.trans (HB4.out.mono hB.size)).trans (a5.mono hle2)⟩
                exact AllReadyIn.nil
              exact AllReadyIn.nil
            exact AllReadyIn.nil
          refine AllReadyIn.cons rfl (fun K hK => ?_) ?_
          · go_simp
            refine hK _ _ ?_
            clear hK K
            refine wpAnyIn_ready (rs := [0]) (by kernel_rfl) (by simp) ?_
            refine AllReadyIn.cons rfl (fun K hK => ?_) ?_
            · go_simp
              refine hK _ _ ?_
              clear hK K
              refine wpAnyIn_ready (rs := [6]) (by kernel_rfl) (by simp) ?_
              refine AllReadyIn.cons rfl (fun K hK => ?_) ?_
              · have hrow5 : World.ownsRow _ _ _ _ _ _ _ := owns_below' (HR.out.drew) HB4.out
                have hs5 : w2.heap.size ≤ w4.heap.size := by have := HB4.out.size; have := HV.out.lt; simp at *; omega
                refine stepIn_append_own _ rfl _ _ 22 rfl w2.heap.size 5 i0 (.int .u8 0) 1 1 Try.underlying22 hi hz0 hz1 hz2 rfl (by decide) _ _ _ rfl (hrow5.alloc _) ⟨w4.heap.size, 0, none⟩ 1 1 [.int .u8 ((dgB (bitN x r)).toNat : Int)] rfl rfl (World.news_of_block (cs := #[.int .u8 ((dgB (bitN x r)).toNat : Int)]) (t := 5) (fr := (0, 0)) (heap_alloc_new w4 _)) (by simp [Value.oneCell']) (by unfold maxLen; omega) (by omega) (by simp; omega) ?_
                intro v' w1 hown' hgrow
                have HAP := Lib.hid (Boxed.appended HV5.out (by decide) hrow5 hs5 (by omega) hown' hgrow)
                obtain ⟨g5, cap5, rfl⟩ := ownsRow_succ hown'
                have e5 := HAP.out.1.cell
                have z5 := HAP.out.1.frozen
                clear hgrow hown' hrow5
                refine hK _ _ ?_
                clear hK K
                refine wpAnyIn_ready (rs := [7]) (by kernel_rfl) (by simp) ?_
                refine AllReadyIn.cons rfl (fun K hK => ?_) ?_
                · go_simp
                  refine hK _ _ ?_
                  clear hK K
                  refine wpAnyIn_done (by kernel_rfl) ?_ _
                  obtain ⟨a1, a2, a3, a4, a5⟩ := HAP.out
                  exact ⟨(kot HB4.out).trans a4, ((Below.refl _ W).drew.trans (HB4.out.mono hB.size)).trans (a5.mono hle2), ⟨_, a2, by rw [HS.out, bvals_snoc, HL2.out]; exact a3, trivial⟩, ⟨(a5.cell (p := ⟨w.heap.size, 0, none⟩) hlt2).trans (kcd HB4.out c0), (a5.cell (p := ⟨w.heap.size, 1, none⟩) hlt2).trans (kcd HB4.out c1)⟩, (hB.drew.trans (HB4.out.mono hB.size)).trans (a5.mono hle2)⟩
                exact AllReadyIn.nil
              exact AllReadyIn.nil
            exact AllReadyIn.nil
          exact AllReadyIn.nil
        exact AllReadyIn.nil
      exact AllReadyIn.nil
    exact AllReadyIn.nil
  case done =>
    clear cR hbx hrow s0 s1 hB0 DG
    rintro D ys W hD rfl ⟨⟨v, hv, hrow, _⟩, _, hB⟩ hK
    have hk : (upto r0 R).length + 2 = R + 1 + 1 := by rw [← txtF_len m x, txtF_upto r0 m x R (Nat.le_refl _), txtL_len]
    rw [hk, txtF_upto r0 m x R (Nat.le_refl _)] at hrow
    obtain ⟨g, cap, rfl⟩ := ownsRow_succ hrow
    have dv := hv.cell
    have hcv := run_convert_bytes_back (P := Try.prog) W 22 9 5 ⟨g, 0, none⟩ cap (txtL m x R) Try.underlying22 Try.underlying5 Try.underlying9 (fun j hj => by
      rw [txtL_len] at hj
      have h2 := hrow.cellAt j (by simpa using hj)
      rw [show (⟨g, 0, none⟩ : Addr).add j = ⟨g, j, none⟩ from by simp only [Addr.add, Nat.zero_add]; split <;> simp_all, h2]
      unfold bvals
      rw [List.getElem?_map, List.getElem?_eq_getElem (by rw [txtL_len]; exact hj)]
      rfl)
    rw [txtL_len, show R + 2 = R + 1 + 1 from rfl] at hcv
    clear hk hrow hv
    gi_wp2
    refine ⟨by simp, .inl ⟨_, _, rfl, run_takeDeferred hK, ?_⟩⟩
    refine ⟨.tuple #[.string (txtS m x R), .int .i64 0], by simp [results, Try.results61, go_sem, txtS], rfl, hB.trans (belowK_b (w := w) (Nat.le_refl _) W D _ _ (by omega) hK rfl rfl)⟩
  case stop =>
    rintro D c pre W _ _ h _
    exact h.elim

set_option maxRecDepth 100000 in
set_option maxHeartbeats 1000000 in
theorem implFuncText_no {n b : Int} (h : isF n b = false) (w : World) :
    Calls Try.prog 61 #[.agg #[.int .i64 n, .int .i64 b]] w fun e w' => e = .returned (.tuple #[.string ⟨#[]⟩, .int .i64 1]) ∧ Below w.heap.size w w' := by
  obtain ⟨W1, hW1⟩ : ∃ W1, w.alloc (.cells #[.int .i64 n, .int .i64 b] 25) = W1 := ⟨_, rfl⟩
  have p0 : W1.cell? ⟨w.heap.size, 0, none⟩ = some (.int .i64 n) := by rw [← hW1]; simp [go_sem]
  have p1 : W1.cell? ⟨w.heap.size, 1, none⟩ = some (.int .i64 b) := by rw [← hW1]; simp [go_sem]
  have hB : Below w.heap.size w W1 := by rw [← hW1]; exact bnew _ _
  go_enter Try.func61, Try.ntmps61
  go_wp2_with (first
    | (go_at_call 16; refine (IsFunc_is h _).mono ?_; rintro e w2 ⟨rfl, hb⟩; have hB2 := bthen hB hb))
  go_ret2
  exact ⟨rfl, hB2⟩
end Go.Proofs.Ytenbokdcdokhiab

/- U4:
  FuncText: both packages, whatever comes in. -/
namespace Go.Proofs.Ytenbokdcdokhiab
open Go.RowKit
set_option linter.unusedVariables false

theorem bothFuncText (n b : Int) (wn : (Lit.int .i64 n).wf = true) (wb : (Lit.int .i64 b).wf = true) : ∃ (t : ByteArray) (rc : Int),
    (∀ w, Calls Try.prog 79 #[.agg #[.int .i64 n, .int .i64 b]] w fun e w' => e = .returned (.tuple #[.string t, .int .i64 rc]) ∧ Below w.heap.size w w') ∧
    (∀ w, Calls Try.prog 61 #[.agg #[.int .i64 n, .int .i64 b]] w fun e w' => e = .returned (.tuple #[.string t, .int .i64 rc]) ∧ Below w.heap.size w w') := by
  cases h : isF n b
  · exact ⟨_, _, fun w => specFuncText_no h w, fun w => implFuncText_no h w⟩
  · obtain ⟨x, R, rfl, ok⟩ := fok h
    exact ⟨_, _, fun w => specFuncText_yes ok h w, fun w => implFuncText_yes ok h w⟩
end Go.Proofs.Ytenbokdcdokhiab

/- X4:
  NameOf in the model. -/
namespace Go.Proofs.Ytenbokdcdokhiab
open Go.RowKit
set_option linter.unusedVariables false
set_option linter.unusedSimpArgs false

def txK (i : Nat) : List UInt8 := (txL[i]?).getD []
def nmP (i : Nat) : Int × Int := (nmL[i]?.map (·.2)).getD (5, 5)

theorem tx0 : ∀ x, x < 2 → ∀ i, i < 14 → (txK i == txtL 0 x 1) = (nmP i == (0, (x : Int))) := by decide +kernel
theorem tx1 : ∀ x, x < 4 → ∀ i, i < 14 → (txK i == txtL 1 x 2) = (nmP i == (1, (x : Int))) := by decide +kernel
theorem tx2 : ∀ x, x < 16 → ∀ i, i < 14 → (txK i == txtL 2 x 4) = (nmP i == (2, (x : Int))) := by decide +kernel
theorem tx3 : ∀ x, x < 256 → ∀ i, i < 14 → (txK i == txtL 3 x 8) = (nmP i == (3, (x : Int))) := by decide +kernel
theorem tx4a : ∀ i, i < 14 → (txK i).head? ≠ some 52 := by decide +kernel
theorem tx4b : ∀ i, i < 14 → (nmP i).1 ≠ 4 := by decide +kernel
theorem tx4 (x R : Nat) (i : Nat) (h : i < 14) : (txK i == txtL 4 x R) = (nmP i == (4, (x : Int))) := by
  have h1 := tx4a i h
  have h2 := tx4b i h
  have e1 : (txK i == txtL 4 x R) = false := by
    rw [beq_eq_false_iff_ne]
    intro e
    rw [e] at h1
    exact h1 rfl
  have e2 : (nmP i == (4, (x : Int))) = false := by
    rw [beq_eq_false_iff_ne]
    intro e
    rw [e] at h2
    exact h2 rfl
  rw [e1, e2]

theorem tx_cmp {n : Int} {x R : Nat} (ok : FOk n x R) (i : Nat) (hi : i < 14) : ((txAt i).toList == (txtS n.toNat x R).toList) = (nmP i == (n, (x : Int))) := by
  rw [Lib.toList_data, Lib.toList_data]
  show (txK i == txtL n.toNat x R) = _
  have he := ok.he
  have hB := ok.hB
  rcases five ok.h0 ok.h4 with rfl | rfl | rfl | rfl | rfl
  · obtain rfl : R = 1 := he
    exact tx0 x hB i hi
  · obtain rfl : R = 2 := he
    exact tx1 x hB i hi
  · obtain rfl : R = 4 := he
    exact tx2 x hB i hi
  · obtain rfl : R = 8 := he
    exact tx3 x hB i hi
  · exact tx4 x R i hi

set_option maxRecDepth 100000 in
set_option maxHeartbeats 1000000 in
theorem specNameOf_no {n b : Int} (h : isF n b = false) (w : World) :
    Calls Try.prog 75 #[.agg #[.int .i64 n, .int .i64 b]] w fun e w' => e = .returned (.tuple #[.string ⟨#[]⟩, .int .i64 1]) ∧ Below w.heap.size w w' := by
  obtain ⟨W1, hW1⟩ : ∃ W1, w.alloc (.cells #[.int .i64 n, .int .i64 b] 25) = W1 := ⟨_, rfl⟩
  have p0 : W1.cell? ⟨w.heap.size, 0, none⟩ = some (.int .i64 n) := by rw [← hW1]; simp [go_sem]
  have p1 : W1.cell? ⟨w.heap.size, 1, none⟩ = some (.int .i64 b) := by rw [← hW1]; simp [go_sem]
  have hB : Below w.heap.size w W1 := by rw [← hW1]; exact bnew _ _
  go_enter Try.func75, Try.ntmps75
  go_wp2_with (first
    | (go_at_call 153; refine (l01Is_is h _).mono ?_; rintro e w2 ⟨rfl, hb⟩; have hB2 := bthen hB hb))
  go_ret2
  exact ⟨rfl, hB2⟩

theorem keepN {W W' : World} {a b : Addr} {u v : Value} {g : Nat} {t : Value} {i : Nat} {w : World} (hb : Below W.heap.size W W') (h : ((W.cell? a = some u ∧ W.cell? b = some v) ∧ W.cell? ⟨g, i, none⟩ = some t) ∧ Below w.heap.size w W) :
    ((W'.cell? a = some u ∧ W'.cell? b = some v) ∧ W'.cell? ⟨g, i, none⟩ = some t) ∧ Below w.heap.size w W' := ⟨⟨⟨kc hb h.1.1.1, kc hb h.1.1.2⟩, kc hb h.1.2⟩, bthen h.2 hb⟩

set_option maxRecDepth 100000 in
set_option maxHeartbeats 4000000 in
/-- k: the place where the loop ends: a place of the list, or its end. -/
theorem specNameOf_yes {n : Int} {x R : Nat} (ok : FOk n x R) (h : isF n (x : Int) = true) {k : Nat} (hk : k ≤ 14) (hb : ∀ j, j < k → (nmP j == (n, (x : Int))) = false) (he : k < 14 → (nmP k == (n, (x : Int))) = true) (w : World) :
    Calls Try.prog 75 #[.agg #[.int .i64 n, .int .i64 (x : Int)]] w fun e w' => e = .returned (.tuple #[.string (if k < 14 then nmAt k else ⟨#[]⟩), .int .i64 (if k < 14 then 0 else 4)]) ∧ Below w.heap.size w w' := by
  obtain ⟨W1, hW1⟩ : ∃ W1, w.alloc (.cells #[.int .i64 n, .int .i64 (x : Int)] 25) = W1 := ⟨_, rfl⟩
  have p0 : W1.cell? ⟨w.heap.size, 0, none⟩ = some (.int .i64 n) := by rw [← hW1]; simp [go_sem]
  have p1 : W1.cell? ⟨w.heap.size, 1, none⟩ = some (.int .i64 (x : Int)) := by rw [← hW1]; simp [go_sem]
  have hB : Below w.heap.size w W1 := by rw [← hW1]; exact bnew _ _
  have T := Lib.hid fun W => l01Text_any ok W
  have CM := Lib.hid fun i hi => tx_cmp ok i hi
  have HB := Lib.hid hb
  have HE := Lib.hid he
  clear hb he
  go_enter Try.func75, Try.ntmps75
  go_wp2_with (first
    | (go_at_call 153; refine (l01Is_is h _).mono ?_; rintro e w2 ⟨rfl, hb⟩; have q0 := kc hb p0; have q1 := kc hb p1; have hB2 := bthen hB hb)
    | (go_at_call 190; refine (l01Names_any _).mono ?_; rintro e' w3 ⟨rfl, hn, hb3⟩; have r0 := kc hb3 q0; have r1 := kc hb3 q1; have hB3 := bthen hB2 hb3)
    | (go_at_call 193; refine (l01Known_any _).mono ?_; rintro e' w4 ⟨rfl, ht, hb4⟩; have s0 := kc hb4 r0; have s1 := kc hb4 r1; have hB4 := bthen hB3 hb4))
  have hn4 : Hid (∀ i, i < 14 → w4.cell? ⟨w2.heap.size, i, none⟩ = some (.string (nmAt i))) := Lib.hid fun i hi => kc hb4 (hn.out i hi)
  clear hn hb3 hb4 r0 r1 q0 q1 hB hB2 hB3 p0 p1 hW1
  go_loopw [6] (fun i' wr => ∃ i : Nat, i ≤ k ∧ i' = .int .i64 i ∧ Below w4.heap.size w4 wr) (fun i' _ => 14 - (intOf i').toNat)
  case atStart => exact ⟨0, Nat.zero_le _, rfl, Below.refl _ _⟩
  case round =>
    obtain ⟨i, hi, rfl, hN⟩ := hrel
    have c0 := kc hN s0
    have c1 := kc hN s1
    by_cases hlt : i < 14
    · have hi14 : (i : Int) < 14 := by omega
      have hi0 : (0 : Int) ≤ (i : Int) := by omega
      have hc := kc hN (hn4.out i hlt)
      have ht' := kc hN (ht.out i hlt)
      have hcm := CM.out i hlt
      by_cases hik : i < k
      · rw [HB.out i hik] at hcm
        go_wp2_with fail
        go_region_held3 (fun w' => ((w'.cell? ⟨w.heap.size, 0, none⟩ = some (.int .i64 n) ∧ w'.cell? ⟨w.heap.size, 1, none⟩ = some (.int .i64 (x : Int))) ∧ w'.cell? ⟨w3.heap.size, i, none⟩ = some (.string (txAt i))) ∧ Below wr.heap.size wr w') (first | exact ⟨⟨⟨c0, c1⟩, ht'⟩, (Below.refl _ _).drew⟩ | exact keepN hb5 (by assumption))
          (first
            | (go_at_call 196; refine (T.out _).mono ?_; rintro e w5 ⟨rfl, hb5⟩))
        have hN5 := bthen hN (‹((_ ∧ _) ∧ _) ∧ Below wr.heap.size wr _›).2
        go_wp2
        go_roundw
        case rel => exact ⟨i + 1, by omega, by go_num, hN5⟩
        case measure => simp [intOf]; omega
      · obtain rfl : i = k := by omega
        rw [HE.out hlt] at hcm
        go_wp2_with fail
        go_region_held3 (fun w' => ((w'.cell? ⟨w.heap.size, 0, none⟩ = some (.int .i64 n) ∧ w'.cell? ⟨w.heap.size, 1, none⟩ = some (.int .i64 (x : Int))) ∧ w'.cell? ⟨w3.heap.size, i, none⟩ = some (.string (txAt i))) ∧ Below wr.heap.size wr w') (first | exact ⟨⟨⟨c0, c1⟩, ht'⟩, (Below.refl _ _).drew⟩ | exact keepN hb5 (by assumption))
          (first
            | (go_at_call 196; refine (T.out _).mono ?_; rintro e w5 ⟨rfl, hb5⟩))
        have hN5 := bthen hN (‹((_ ∧ _) ∧ _) ∧ Below wr.heap.size wr _›).2
        have hc5 := kc hN5 (hn4.out i hlt)
        go_wp2
        go_ret2
        exact ⟨rfl, bthen hB4 hN5⟩
    · obtain rfl : i = 14 := by omega
      obtain rfl : k = 14 := by omega
      go_wp2
      go_ret2
      exact ⟨rfl, bthen hB4 hN⟩
end Go.Proofs.Ytenbokdcdokhiab

/- X5:
  NameOf: both packages. -/
namespace Go.Proofs.Ytenbokdcdokhiab
open Go.RowKit
set_option linter.unusedVariables false

theorem nmP_get {i : Nat} (h : i < nmL.length) : nmP i = nmL[i].2 := by simp [nmP, h]

theorem bothNameOf (n b : Int) (wn : (Lit.int .i64 n).wf = true) (wb : (Lit.int .i64 b).wf = true) : ∃ (t : ByteArray) (rc : Int),
    (∀ w, Calls Try.prog 75 #[.agg #[.int .i64 n, .int .i64 b]] w fun e w' => e = .returned (.tuple #[.string t, .int .i64 rc]) ∧ Below w.heap.size w w') ∧
    (∀ w, Calls Try.prog 73 #[.agg #[.int .i64 n, .int .i64 b]] w fun e w' => e = .returned (.tuple #[.string t, .int .i64 rc]) ∧ Below w.heap.size w w') := by
  cases h : isF n b
  · exact ⟨_, _, fun w => specNameOf_no h w, fun w => implNameOf_no h w⟩
  · obtain ⟨x, R, rfl, ok⟩ := fok h
    cases ho : nameOf (n, (x : Int)) with
    | none =>
      have hn := List.find?_eq_none.1 ho
      refine ⟨_, _, fun w => specNameOf_yes ok h (k := 14) (Nat.le_refl _) (fun j hj => ?_) (fun hk => absurd hk (Nat.lt_irrefl _)) w, fun w => implNameOf_yes h ⟨wn, wb⟩ ho w⟩
      have hj' : j < nmL.length := hj
      have := hn nmL[j] (List.getElem_mem hj')
      rw [nmP_get hj']
      simpa using this
    | some e =>
      obtain ⟨hp, k, hk, he, hbefore⟩ := List.find?_eq_some_iff_getElem.1 ho
      have hk14 : k < 14 := hk
      refine ⟨_, _, fun w => ?_, fun w => implNameOf_yes h ⟨wn, wb⟩ ho w⟩
      have M := specNameOf_yes ok h (k := k) (Nat.le_of_lt hk14) (fun j hj => by
        have hj' : j < nmL.length := Nat.lt_trans hj hk
        have := hbefore j hj
        rw [nmP_get hj']
        simpa using this) (fun _ => by rw [nmP_get hk, he]; simpa using hp) w
      rw [if_pos hk14, if_pos hk14] at M
      have hname : nmAt k = nameB (some e) := by
        unfold nmAt
        rw [nmK_get hk, he]
        rfl
      rw [hname] at M
      exact M
end Go.Proofs.Ytenbokdcdokhiab

/- LC:
  The mathematics of the source's numbers: from whatever state one comes, in steps of two, to a state at which a number is no multiple of 3, twice. -/
namespace Go.Proofs.Ytenbokdcdokhiab

/-- One step of the source. -/
def lcg (h : Nat) : Nat := (h * 6364136223846793005 + 1442695040888963407) % 2 ^ 64
def itN (f : Nat → Nat) : Nat → Nat → Nat
  | 0, h => h
  | k + 1, h => itN f k (f h)
theorem itN_zero (f : Nat → Nat) (h : Nat) : itN f 0 h = h := rfl
theorem itN_next (f : Nat → Nat) (k h : Nat) : itN f (k + 1) h = itN f k (f h) := rfl
theorem itN_add (f : Nat → Nat) (a b h : Nat) : itN f (a + b) h = itN f b (itN f a h) := by
  induction a generalizing h with
  | zero => rw [Nat.zero_add, itN_zero]
  | succ a ih => rw [show a + 1 + b = (a + b) + 1 by omega, itN_next, itN_next, ih]
theorem itN_low (f : Nat → Nat) (M : Nat) (hf : ∀ h t, h % M = t % M → f h % M = f t % M) (k : Nat) : ∀ {h t : Nat}, h % M = t % M → itN f k h % M = itN f k t % M := by
  induction k with
  | zero => intro h t e; rw [itN_zero, itN_zero]; exact e
  | succ k ih => intro h t e; rw [itN_next, itN_next]; exact ih (hf _ _ e)
def lcgN (k h : Nat) : Nat := itN lcg k h
theorem lcgN_add (a b h : Nat) : lcgN (a + b) h = lcgN b (lcgN a h) := itN_add lcg a b h
theorem lcg_lt (h : Nat) : lcg h < 2 ^ 64 := by unfold lcg; exact Nat.mod_lt _ (Nat.two_pow_pos _)
theorem lcgN_zero (h : Nat) : lcgN 0 h = h := itN_zero lcg h
theorem lcgN_next (k h : Nat) : lcgN (k + 1) h = lcgN k (lcg h) := itN_next lcg k h
theorem lcgN_one (h : Nat) : lcgN 1 h = lcg h := by rw [show (1 : Nat) = 0 + 1 from rfl, lcgN_next, lcgN_zero]
theorem lcgN_succ (k h : Nat) : lcgN (k + 1) h = lcg (lcgN k h) := by rw [lcgN_add, lcgN_one]
theorem alg1 (M u : Nat) : (1 + 4 * (M * u)) * (1 + 4 * (M * u)) = 1 + 4 * (M * 2 * (u + 2 * (M * (u * u)))) := by grind
theorem alg2 (M u v : Nat) : M * (1 + 2 * v) * (1 + 4 * (M * u)) + M * (1 + 2 * v) = M * 2 * (1 + 2 * (v + 2 * (M * u) * v + M * u)) := by grind
theorem alg3 (h M u v : Nat) : h * (1 + 4 * (M * u)) + M * (1 + 2 * v) = h + M + M * 2 * (2 * (h * u) + v) := by grind
theorem mod_lin (x a c M : Nat) : (x % M * a + c) % M = (x * a + c) % M := by
  rw [Nat.add_mod, Nat.mul_mod, Nat.mod_mod, ← Nat.mul_mod, ← Nat.add_mod]
/-- 2^k steps at once: h * a + c. -/
theorem lcg_pow (k : Nat) : ∃ a c u v : Nat, (∀ h, lcgN (2 ^ k) h % 2 ^ 64 = (h * a + c) % 2 ^ 64) ∧ a = 1 + 4 * (2 ^ k * u) ∧ c = 2 ^ k * (1 + 2 * v) := by
  induction k with
  | zero => exact ⟨6364136223846793005, 1442695040888963407, 1591034055961698251, 721347520444481703, fun h => by rw [Nat.pow_zero, lcgN_one]; unfold lcg; rw [Nat.mod_mod], by decide, by decide⟩
  | succ k ih =>
    obtain ⟨a, c, u, v, ih, ha, hc⟩ := ih
    refine ⟨a * a, c * a + c, u + 2 * (2 ^ k * (u * u)), v + 2 * (2 ^ k * u) * v + 2 ^ k * u, fun h => ?_, ?_, ?_⟩
    · rw [Nat.pow_succ, Nat.mul_two, lcgN_add, ih, ← mod_lin, ih, mod_lin, Nat.add_mul, Nat.mul_assoc, Nat.add_assoc]
    · subst ha
      rw [Nat.pow_succ]
      exact alg1 _ _
    · subst ha hc
      rw [Nat.pow_succ]
      exact alg2 _ _ _
theorem step_digits (k : Nat) (a c u v h : Nat) (ha : a = 1 + 4 * (2 ^ k * u)) (hc : c = 2 ^ k * (1 + 2 * v)) : (h * a + c) % 2 ^ (k + 1) = (h + 2 ^ k) % 2 ^ (k + 1) := by
  subst ha hc
  rw [alg3, Nat.pow_succ, Nat.add_mul_mod_self_left]
theorem mod_low {x y : Nat} (k : Nat) (hk : k ≤ 64) (h : x % 2 ^ 64 = y % 2 ^ 64) : x % 2 ^ k = y % 2 ^ k := by
  rw [← Nat.mod_mod_of_dvd x (Nat.pow_dvd_pow 2 hk), h, Nat.mod_mod_of_dvd y (Nat.pow_dvd_pow 2 hk)]
/-- 2^k steps turn the digit k and none below it. -/
theorem lcg_turn (k : Nat) (hk : k < 57) (h : Nat) : lcgN (2 ^ k) h % 2 ^ (k + 1) = (h + 2 ^ k) % 2 ^ (k + 1) := by
  obtain ⟨a, c, u, v, e, ha, hc⟩ := lcg_pow k
  rw [mod_low (k + 1) (by omega) (e h), step_digits k a c u v h ha hc]
/-- Every state of the same parity is reached, as far as the digits below k + 1 go. -/
theorem lcg_reach (k : Nat) (hk : k < 57) (h t : Nat) (hp : h % 2 = t % 2) : ∃ m, m < 2 ^ k ∧ lcgN (2 * m) h % 2 ^ (k + 1) = t % 2 ^ (k + 1) := by
  induction k with
  | zero => exact ⟨0, by decide, by rw [Nat.mul_zero, lcgN_zero]; exact hp⟩
  | succ k ih =>
    obtain ⟨m, hm, he⟩ := ih (by omega)
    have p1 : 0 < 2 ^ (k + 1) := Nat.two_pow_pos _
    have e2 : 2 ^ (k + 1 + 1) = 2 ^ (k + 1) * 2 := Nat.pow_succ ..
    have e1 : 2 ^ (k + 1) = 2 ^ k * 2 := Nat.pow_succ ..
    by_cases hq : lcgN (2 * m) h % 2 ^ (k + 1 + 1) = t % 2 ^ (k + 1 + 1)
    · exact ⟨m, by omega, hq⟩
    · refine ⟨m + 2 ^ k, by omega, ?_⟩
      rw [show 2 * (m + 2 ^ k) = 2 * m + 2 ^ (k + 1) by omega, lcgN_add, lcg_turn (k + 1) hk]
      generalize lcgN (2 * m) h = g at he hq
      rw [e2] at hq ⊢
      generalize 2 ^ (k + 1) = M at *
      have a1 := Nat.mod_mul (x := g) (a := M) (b := 2)
      have a2 := Nat.mod_mul (x := t) (a := M) (b := 2)
      have a3 := Nat.mod_mul (x := g + M) (a := M) (b := 2)
      rw [Nat.add_mod_right, Nat.add_div_right _ p1] at a3
      rw [a1, a2, he] at hq
      rw [a3, a2, he]
      have b1 : g / M % 2 ≠ t / M % 2 := fun e => hq (by rw [e])
      have b2 : (g / M + 1) % 2 = t / M % 2 := by omega
      rw [b2]
/-- The number that is told at a state, before the code's byte is put to it, is no multiple of 3. -/
def ends3 (h : Nat) : Bool := h / 2 ^ 33 % 2 ^ 24 % 3 != 0
theorem ends3_low {h t : Nat} (e : h % 2 ^ 57 = t % 2 ^ 57) : ends3 h = ends3 t := by
  have k : ∀ x : Nat, x / 2 ^ 33 % 2 ^ 24 = x % 2 ^ 57 / 2 ^ 33 := fun x => by omega
  unfold ends3
  rw [k, k, e]
theorem lcg_low {h t : Nat} (e : h % 2 ^ 57 = t % 2 ^ 57) : lcg h % 2 ^ 57 = lcg t % 2 ^ 57 := by
  unfold lcg
  omega
theorem lcgN_low (k : Nat) {h t : Nat} (e : h % 2 ^ 57 = t % 2 ^ 57) : lcgN k h % 2 ^ 57 = lcgN k t % 2 ^ 57 := itN_low lcg (2 ^ 57) (fun _ _ e => lcg_low e) k e
/-- A state of each parity at which, and two steps later, the number is no multiple of 3. -/
theorem good_two : ∀ p < 2, ∃ t < 2 ^ 40, t % 2 = p ∧ ends3 t = true ∧ ends3 (lcgN 2 t) = true := by
  intro p hp
  rcases (show p = 0 ∨ p = 1 by omega) with rfl | rfl
  · exact ⟨8589934592, by decide +kernel, by decide +kernel, by decide +kernel, by decide +kernel⟩
  · exact ⟨12271335131, by decide +kernel, by decide +kernel, by decide +kernel, by decide +kernel⟩
/-- From whatever state: behind 2m steps, m at least L and less than L + 2^57, the numbers of the next step and of the third are no multiples of 3. -/
theorem lcg_ends (h L : Nat) : ∃ m, L ≤ m ∧ m < L + 2 ^ 57 ∧ ends3 (lcgN (2 * m + 1) h) = true ∧ ends3 (lcgN (2 * m + 3) h) = true := by
  obtain ⟨t, _, hp, h1, h2⟩ := good_two (lcgN (2 * L + 1) h % 2) (by omega)
  obtain ⟨m, hm, he⟩ := lcg_reach 56 (by omega) (lcgN (2 * L + 1) h) t hp.symm
  refine ⟨L + m, by omega, by omega, ?_, ?_⟩
  · rw [show 2 * (L + m) + 1 = (2 * L + 1) + 2 * m by omega, lcgN_add, ends3_low he]; exact h1
  · rw [show 2 * (L + m) + 3 = (2 * L + 1) + (2 * m + 2) by omega, lcgN_add, lcgN_add (2 * m) 2, ends3_low (lcgN_low 2 he)]; exact h2
end Go.Proofs.Ytenbokdcdokhiab

/- LN:
  The source's next number, its hash told: one step of the congruence; behind the code's end the number is told by the hash alone. -/
namespace Go.Proofs.Ytenbokdcdokhiab
open Go.RowKit
set_option linter.unusedVariables false
set_option linter.unusedSimpArgs false

theorem u64_wrap (x : Int) : IntKind.u64.wrap x = x % 18446744073709551616 := by
  unfold IntKind.wrap
  simp [IntKind.bits, IntKind.signed]
theorem lin_emod (x a c M : Int) : (x % M * a + c) % M = (x * a + c) % M := by
  rw [Int.add_emod, Int.mul_emod, Int.emod_emod, ← Int.mul_emod, ← Int.add_emod]
theorem lcg_cast (H : Nat) : ((lcg H : Nat) : Int) = ((H : Int) * 6364136223846793005 + 1442695040888963407) % 18446744073709551616 := by
  have e : lcg H = (H * 6364136223846793005 + 1442695040888963407) % 18446744073709551616 := by unfold lcg; rw [show (2 : Nat) ^ 64 = 18446744073709551616 from by decide]
  rw [e]
  omega
theorem lcg_hash {h : Int} {H : Nat} (hH : h % 18446744073709551616 = (H : Int)) : IntKind.u64.wrap (IntKind.u64.wrap (h * 6364136223846793005) + 1442695040888963407) = ((lcg H : Nat) : Int) := by
  rw [u64_wrap, u64_wrap, Int.emod_add_emod, lcg_cast, ← hH, lin_emod]
theorem hash_num (L : Nat) (hL : L < 2 ^ 64) : bits .and .u64 ((L : Int) / 8589934592) 16777215 = ((L / 2 ^ 33 % 2 ^ 24 : Nat) : Int) := by
  have e : (L : Int) / 8589934592 = ((L / 2 ^ 33 : Nat) : Int) := by omega
  rw [e, show (16777215 : Int) = ((16777215 : Nat) : Int) from rfl, bits_and_u64 _ _ (by omega) (by decide), show (16777215 : Nat) = 2 ^ 24 - 1 from rfl, Nat.and_two_pow_sub_one_eq_mod]

/-- What the next draw leaves: the number, where the source stands, its hash. -/
def NextHP (b : Nat) (a : Option Addr) (len cap : Nat) (n : Int) (at' H : Nat) (w : World) (e : Ending) (w' : World) : Prop :=
  ∃ (x : Int) (at2 : Nat), e = .returned (.int .i64 x) ∧ (0 ≤ x ∧ x < n) ∧ at2 < 2 ^ 62 ∧ (at' + 1 ≤ at2 ∨ len ≤ at2) ∧ (len ≤ at' → x = ((lcg H / 2 ^ 33 % 2 ^ 24 : Nat) : Int) % n) ∧ Src b a len cap at2 ((lcg H : Nat) : Int) w' ∧ w.grownBy w' (some b)

set_option maxRecDepth 100000 in
set_option maxHeartbeats 4000000 in
theorem nextH_end (b : Nat) (a : Option Addr) (len cap at' : Nat) {h : Int} {H : Nat} (hH : h % 18446744073709551616 = (H : Int)) (hat : len ≤ at') (hat2 : at' < 2 ^ 62) (n : Int) (hn : 1 ≤ n) (hn2 : n < 2 ^ 62) (w : World) (S : Src b a len cap at' h w) :
    Calls Try.prog 191 #[.pointer (some ⟨b, 0, none⟩), .int .i64 n] w (NextHP b a len cap n at' H w) := by
  obtain ⟨c0, c1, c2, f1, f2⟩ := S
  have hd : decide (n < 1) = false := by simp; omega
  have EH := Lib.hid (lcg_hash hH)
  obtain ⟨h', eh⟩ : ∃ h', IntKind.u64.wrap (IntKind.u64.wrap (h * 6364136223846793005) + 1442695040888963407) = h' := ⟨_, rfl⟩
  have EH2 := Lib.hid (show h' = ((lcg H : Nat) : Int) by rw [← eh]; exact EH.out)
  obtain ⟨v, ev⟩ : ∃ v, bits .and .u64 (h' / 8589934592) 16777215 = v := ⟨_, rfl⟩
  have EV := Lib.hid (show v = ((lcg H / 2 ^ 33 % 2 ^ 24 : Nat) : Int) by rw [← ev, EH2.out]; exact hash_num _ (lcg_lt H))
  have hv := and_small (h' / 8589934592)
  rw [ev] at hv
  obtain ⟨v0, v1⟩ := hv
  have hw := wrap_24 v0 v1
  have hle : decide ((at' : Int) < (len : Int)) = false := by simp; omega
  have hne : (n == 0) = false := by simp; omega
  clear hH EH
  go_enter Try.func191, Try.ntmps191
  go_wp2_with fail
  go_region
  go_wp2
  go_ret
  exact ⟨v % n, at', rfl, ⟨Int.emod_nonneg _ (by omega), Int.emod_lt_of_pos _ (by omega)⟩, hat2, .inr hat, fun _ => by rw [EV.out], by rw [← EH2.out]; exact ⟨by simp [go_sem, c0], by simp [go_sem, c1], by simp [go_sem, c2], by simpa [go_sem] using f1, by simpa [go_sem] using f2⟩, gdrew (Lib.grownBy_setCell w b 2 _)⟩

set_option maxRecDepth 100000 in
set_option maxHeartbeats 4000000 in
theorem nextH_more (b g off len cap at' vb : Nat) {h : Int} {H : Nat} (hH : h % 18446744073709551616 = (H : Int)) (hat : at' < len) (hat2 : len < 2 ^ 62) (hgb : ¬ g = b) (hvb : vb < 256) (n : Int) (hn : 1 ≤ n) (hn2 : n < 2 ^ 62) (w : World) (S : Src b (some ⟨g, off, none⟩) len cap at' h w) (hc : w.cell? ⟨g, off + at', none⟩ = some (.int .u8 (vb : Int))) :
    Calls Try.prog 191 #[.pointer (some ⟨b, 0, none⟩), .int .i64 n] w (NextHP b (some ⟨g, off, none⟩) len cap n at' H w) := by
  obtain ⟨c0, c1, c2, f1, f2⟩ := S
  have hd : decide (n < 1) = false := by simp; omega
  have EH := Lib.hid (lcg_hash hH)
  obtain ⟨h', eh⟩ : ∃ h', IntKind.u64.wrap (IntKind.u64.wrap (h * 6364136223846793005) + 1442695040888963407) = h' := ⟨_, rfl⟩
  have EH2 := Lib.hid (show h' = ((lcg H : Nat) : Int) by rw [← eh]; exact EH.out)
  obtain ⟨v, ev⟩ : ∃ v, bits .and .u64 (h' / 8589934592) 16777215 = v := ⟨_, rfl⟩
  have hv := and_small (h' / 8589934592)
  rw [ev] at hv
  obtain ⟨v0, v1⟩ := hv
  have hw := wrap_24 v0 v1
  have hle : decide ((at' : Int) < (len : Int)) = true := by simp; omega
  have i0 : (0 : Int) ≤ (at' : Int) := by omega
  have i1 : (at' : Int) < (len : Int) := by omega
  have hne : (n == 0) = false := by simp; omega
  have hx : IntKind.i64.wrap (v + (vb : Int)) = v + (vb : Int) := wrap64_small (by omega) (by omega)
  clear hH EH
  go_enter Try.func191, Try.ntmps191
  go_wp2_with fail
  go_region
  go_wp2_with fail
  go_region
  go_wp2
  go_ret
  exact ⟨(v + (vb : Int)) % n, at' + 1, rfl, ⟨Int.emod_nonneg _ (by omega), Int.emod_lt_of_pos _ (by omega)⟩, by omega, .inl (Nat.le_refl _), fun h => by omega, by rw [← EH2.out]; exact ⟨by simp [go_sem, c0], by simp [go_sem, c1], by simp [go_sem, c2], by simpa [go_sem] using f1, by simpa [go_sem] using f2⟩, gdrew (gdrew (gset (Lib.grownBy_setCell w b 2 _) 1 _))⟩

/-- A source, and the bytes that it reads; where it stands and its hash told. -/
def SrcH (b : Nat) (a : Option Addr) (len cap at' H : Nat) (W : World) : Prop :=
  len < 2 ^ 62 ∧ Bytes W a len ∧ (0 < len → ∀ g off, a = some ⟨g, off, none⟩ → ¬ g = b) ∧ at' < 2 ^ 62 ∧ ∃ h : Int, h % 18446744073709551616 = (H : Int) ∧ Src b a len cap at' h W
theorem SrcH.of {b : Nat} {a : Option Addr} {len cap : Nat} {W : World} (S : SrcOk b a len cap W) : ∃ at' H, SrcH b a len cap at' H W := by
  obtain ⟨hl, hB, hne, at', h, hat, hS⟩ := S
  exact ⟨at', (h % 18446744073709551616).toNat, hl, hB, hne, hat, h, by have := Int.emod_nonneg h (show (18446744073709551616 : Int) ≠ 0 by decide); omega, hS⟩
theorem SrcH.ok {b : Nat} {a : Option Addr} {len cap at' H : Nat} {W : World} (S : SrcH b a len cap at' H W) : SrcOk b a len cap W := by
  obtain ⟨hl, hB, hne, hat, h, _, hS⟩ := S
  exact ⟨hl, hB, hne, at', h, hat, hS⟩
theorem SrcH.below {b : Nat} {a : Option Addr} {len cap at' H : Nat} {W W' : World} (S : SrcH b a len cap at' H W) (hb : Below W.heap.size W W') : SrcH b a len cap at' H W' := by
  obtain ⟨_, hB2, _⟩ := S.ok.below hb
  obtain ⟨hl, hB, hne, hat, h, hh, hS⟩ := S
  exact ⟨hl, hB2, hne, hat, h, hh, ⟨kc hb hS.c0, kc hb hS.c1, kc hb hS.c2, kf hb hS.c1 hS.f1, kf hb hS.c2 hS.f2⟩⟩
theorem nextH_ok {b : Nat} {a : Option Addr} {len cap at' H : Nat} (n : Int) (hn : 1 ≤ n) (hn2 : n < 2 ^ 62) (w : World) (S : SrcH b a len cap at' H w) :
    Calls Try.prog 191 #[.pointer (some ⟨b, 0, none⟩), .int .i64 n] w fun e w' => ∃ (x : Int) (at2 : Nat), e = .returned (.int .i64 x) ∧ (0 ≤ x ∧ x < n) ∧ (at' + 1 ≤ at2 ∨ len ≤ at2) ∧ (len ≤ at' → x = ((lcg H / 2 ^ 33 % 2 ^ 24 : Nat) : Int) % n) ∧ SrcH b a len cap at2 (lcg H) w' ∧ w.grownBy w' (some b) := by
  obtain ⟨hl, hB, hb, hat, h, hh, hS⟩ := S
  have key : Calls Try.prog 191 #[.pointer (some ⟨b, 0, none⟩), .int .i64 n] w (NextHP b a len cap n at' H w) := by
    by_cases hlt : at' < len
    · rcases hB with h0 | ⟨g, off, rfl, hc⟩
      · omega
      · obtain ⟨vb, hvb, hcell⟩ := hc at' hlt
        exact nextH_more b g off len cap at' vb hh hlt hl (hb (by omega) g off rfl) hvb n hn hn2 w hS hcell
    · exact nextH_end b a len cap at' hh (by omega) hat n hn hn2 w hS
  refine key.mono ?_
  rintro e w' ⟨x, at2, rfl, hx, hat2, hst, hx3, hS2, hg⟩
  exact ⟨x, at2, rfl, hx, hst, hx3, ⟨hl, hB.grown hg hb, hb, hat2, _, by have := lcg_lt H; omega, hS2⟩, hg⟩
end Go.Proofs.Ytenbokdcdokhiab

/- YP:
  The draw of a text: a function's text, damaged again and again. The loop ends: LC. -/
namespace Go.Proofs.Ytenbokdcdokhiab
open Go.RowKit
set_option linter.unusedVariables false
set_option linter.unusedSimpArgs false

/-- What a damage leaves. -/
def DamP (b : Nat) (a : Option Addr) (len cap at' H z : Nat) (w : World) (e : Ending) (w' : World) : Prop :=
  ∃ (t : ByteArray) (at2 j : Nat), e = .returned (.string t) ∧ t.size ≤ z + 1 ∧ (j = 1 ∨ j = 3) ∧ (at' + j ≤ at2 ∨ len ≤ at2) ∧ SrcH b a len cap at2 (lcgN j H) w' ∧ w.grownBy w' (some b)
set_option maxRecDepth 100000 in
set_option maxHeartbeats 64000000 in
theorem damage_ok {b : Nat} {a : Option Addr} {len cap at' H : Nat} (t : ByteArray) (ht : t.size ≤ 1152921504606846976) (w : World) (S : SrcH b a len cap at' H w) :
    Calls Try.prog 197 #[.pointer (some ⟨b, 0, none⟩), .string t] w (DamP b a len cap at' H t.size w) := by
  have hbw := S.ok.lt
  have hne : ¬ w.heap.size = b := by omega
  obtain ⟨W1, hW1⟩ : ∃ W1, w.alloc (.cells #[.string ⟨#[48]⟩, .string ⟨#[49]⟩, .string ⟨#[50]⟩, .string ⟨#[53]⟩, .string ⟨#[58]⟩, .string ⟨#[32]⟩, .string ⟨#[120]⟩, .string ⟨#[10]⟩] 9) = W1 := ⟨_, rfl⟩
  have hb1 : Below w.heap.size w W1 := by rw [← hW1]; exact bnew _ _
  have HC := Lib.hid (show ∀ j, j < 8 → ∃ c : ByteArray, c.size = 1 ∧ W1.cell? ⟨w.heap.size, j, none⟩ = some (.string c) by
    intro j hj
    rcases (show j = 0 ∨ j = 1 ∨ j = 2 ∨ j = 3 ∨ j = 4 ∨ j = 5 ∨ j = 6 ∨ j = 7 by omega) with rfl | rfl | rfl | rfl | rfl | rfl | rfl | rfl
    all_goals exact ⟨_, rfl, by rw [← hW1]; simp [go_sem]; rfl⟩)
  have S1 := Lib.hid (S.below hb1)
  have G1 := Lib.hid (gOf hb1 b)
  clear hb1 S
  go_enter Try.func197, Try.ntmps197
  go_wp2_with fail
  refine (nextH_ok 8 (by omega) (by omega) _ S1.out).mono ?_
  rintro e w2 ⟨x, at2, rfl, ⟨x0, x1⟩, st2, _, S2, hg2⟩
  obtain ⟨j, rfl⟩ := Int.eq_ofNat_of_zero_le x0
  obtain ⟨c, hc1, hcell⟩ := HC.out j (by omega)
  have hcell := kcg hg2 (p := ⟨w.heap.size, j, none⟩) hne hcell
  have G2 := Lib.hid (gGo G1.out hg2)
  have SS2 := Lib.hid S2
  have ST2 := Lib.hid st2
  have hj8 : j < 8 := by omega
  have HC1 := Lib.hid hc1
  clear S2 hg2 st2 G1 S1 HC hW1 x0 x1 hc1
  by_cases h0 : t.size = 0
  · have q0 : ((t.size : Int) == 0) = true := by simp [h0]
    have HZ := Lib.hid h0
    clear h0
    go_wp2_with fail
    go_ret
    exact ⟨c, at2, 1, rfl, by rw [HC1.out]; omega, .inl rfl, ST2.out, by rw [lcgN_one]; exact SS2.out, G2.out⟩
  · have q0 : ((t.size : Int) == 0) = false := by simp [h0]
    go_wp2_with fail
    refine (nextH_ok (t.size : Int) (by omega) (by omega) _ SS2.out).mono ?_
    rintro e w3 ⟨x, at3, rfl, ⟨x0, x1⟩, st3, _, S3, hg3⟩
    obtain ⟨k, rfl⟩ := Int.eq_ofNat_of_zero_le x0
    have G3 := Lib.hid (gGo G2.out hg3)
    have SS3 := Lib.hid S3
    have ST3 := Lib.hid st3
    have hk : k < t.size := by omega
    clear S3 hg3 st3 G2 SS2 x0 x1 hcell
    go_wp2_with fail
    refine (nextH_ok 3 (by omega) (by omega) _ SS3.out).mono ?_
    rintro e w4 ⟨q, at4, rfl, ⟨qq0, qq1⟩, st4, _, S4, hg4⟩
    have G4 := Lib.hid (gGo G3.out hg4)
    have SS4 := Lib.hid (show SrcH b a len cap at4 (lcgN 3 H) w4 by rw [lcgN_succ, lcgN_succ, lcgN_one]; exact S4)
    have ST4 := Lib.hid (show at' + 3 ≤ at4 ∨ len ≤ at4 by have h2 := ST2.out; have h3 := ST3.out; omega)
    clear S4 hg4 st4 G3 SS3 ST3 ST2
    have eN : IntKind.i64.wrap ((k : Int) + 1) = ((k + 1 : Nat) : Int) := by rw [wrap64_small (by omega) (by omega)]; omega
    have hk1 : k + 1 ≤ t.size := by omega
    have zc := HC1.out
    have z1 : (t.extract 0 k).size ≤ k := by rw [ByteArray.size_extract]; omega
    have z2 : (t.extract (k + 1) t.size).size ≤ t.size - (k + 1) := by rw [ByteArray.size_extract]; omega
    have z3 : (t.extract k t.size).size ≤ t.size - k := by rw [ByteArray.size_extract]; omega
    have n1 : ¬ (9223372036854775807 < (t.extract 0 k).size + c.size) := by omega
    have n2 : ¬ (9223372036854775807 < (t.extract 0 k).size + (t.extract (k + 1) t.size).size) := by omega
    have n3 : ¬ (9223372036854775807 < (t.extract 0 k).size + c.size + (t.extract (k + 1) t.size).size) := by omega
    have n4 : ¬ (9223372036854775807 < (t.extract 0 k).size + c.size + (t.extract k t.size).size) := by omega
    have n5 : ¬ (9223372036854775807 < (t.extract 0 k ++ c).size + (t.extract (k + 1) t.size).size) := by rw [ByteArray.size_append]; omega
    have n6 : ¬ (9223372036854775807 < (t.extract 0 k ++ c).size + (t.extract k t.size).size) := by rw [ByteArray.size_append]; omega
    have ZC := Lib.hid (show c.size ≤ 1 by omega)
    have Z := Lib.hid (And.intro z1 (And.intro z2 z3))
    clear zc z1 z2 z3
    by_cases hq : q = 0
    · subst hq
      go_wp2_with fail
      go_region
      go_wp2
      go_ret
      exact ⟨_, at4, 3, rfl, (by have h1 := Z.out; have h2 := ZC.out; simp only [ByteArray.size_append]; omega), .inr rfl, ST4.out, SS4.out.below (Below.refl _ _).drew, gdrew G4.out⟩
    · have hq0 : (q == 0) = false := by simp [hq]
      by_cases hq1 : q = 1
      · subst hq1
        go_wp2_with fail
        go_region
        go_wp2
        go_ret
        exact ⟨_, at4, 3, rfl, (by have h1 := Z.out; have h2 := ZC.out; simp only [ByteArray.size_append]; omega), .inr rfl, ST4.out, SS4.out.below (Below.refl _ _).drew, gdrew G4.out⟩
      · have hq1' : (q == 1) = false := by simp [hq1]
        go_wp2_with fail
        go_region
        go_wp2
        go_ret
        exact ⟨_, at4, 3, rfl, (by have h1 := Z.out; have h2 := ZC.out; simp only [ByteArray.size_append]; omega), .inr rfl, ST4.out, SS4.out.below (Below.refl _ _).drew, gdrew G4.out⟩

theorem ends_step {μ H len at' at2 at3 j : Nat} (hμ : μ ≠ 0) (hj : j = 1 ∨ j = 3) (Q1 : ends3 (lcgN (2 * μ + 1) H) = true) (Q2 : μ ≠ 0 → ends3 (lcgN (2 * μ + 3) H) = true) (hat : len ≤ at' + 2 * μ) (st : at' + 1 ≤ at2 ∨ len ≤ at2) (st3 : at2 + j ≤ at3 ∨ len ≤ at3) :
    ∃ μ', μ' < μ ∧ ends3 (lcgN (2 * μ' + 1) (lcgN j (lcg H))) = true ∧ (μ' ≠ 0 → ends3 (lcgN (2 * μ' + 3) (lcgN j (lcg H))) = true) ∧ len ≤ at3 + 2 * μ' := by
  have key : ∀ k, lcgN k (lcgN j (lcg H)) = lcgN (j + 1 + k) H := fun k => by rw [← lcgN_add, ← lcgN_next]; congr 1; omega
  rcases hj with rfl | rfl
  · refine ⟨μ - 1, by omega, ?_, fun h => ?_, by omega⟩
    · rw [key, show 1 + 1 + (2 * (μ - 1) + 1) = 2 * μ + 1 by omega]; exact Q1
    · rw [key, show 1 + 1 + (2 * (μ - 1) + 3) = 2 * μ + 3 by omega]; exact Q2 hμ
  · by_cases h1 : μ = 1
    · subst h1
      refine ⟨0, by omega, ?_, fun h => absurd rfl h, by omega⟩
      rw [key]; exact Q2 hμ
    · refine ⟨μ - 2, by omega, ?_, fun h => ?_, by omega⟩
      · rw [key, show 3 + 1 + (2 * (μ - 2) + 1) = 2 * μ + 1 by omega]; exact Q1
      · rw [key, show 3 + 1 + (2 * (μ - 2) + 3) = 2 * μ + 3 by omega]; exact Q2 hμ
/-- What a draw of a text hands out. -/
def StrB (w : World) (e : Ending) (w' : World) : Prop := ∃ t : ByteArray, e = .returned (.string t) ∧ t.size ≤ 288230376151711744 ∧ Below w.heap.size w w'
set_option maxRecDepth 100000 in
set_option maxHeartbeats 64000000 in
theorem drawParseFunc_ok {a : Option Addr} {len cap : Nat} (hl : len ≤ 1048576) (w : World) (C : Code w a len) :
    Calls Try.prog 76 #[.slice a len cap] w (StrB w) := by
  have FR := Lib.hid (from_ok (cap := cap) hl w C.B C.lt)
  have hle : w.heap.size ≤ w.heap.size := Nat.le_refl _
  clear C
  go_enter Try.func76, Try.ntmps76
  go_wp2_with fail
  refine FR.out.mono ?_
  rintro e w2 ⟨rfl, S2, hb2⟩
  have HB2 := Lib.hid hb2
  have S := Lib.hid S2
  clear S2 hb2 FR
  go_wp2_with fail
  refine (draw_ok _ S.out).mono ?_
  rintro e w3 ⟨n0, x0, R, ok, rfl, S3, hg3⟩
  have HB3 := Lib.hid (bGrown HB2.out hle hg3)
  have SS3 := Lib.hid S3
  have TX := Lib.hid (l01Text_any ok w3)
  have hT := txtS_size n0.toNat x0 R
  have r16 := ok.r16
  have hT2 : (txtS n0.toNat x0 R).size ≤ 18 := by omega
  clear S3 hg3 S HB2 ok hT r16
  generalize txtS n0.toNat x0 R = T at TX hT2
  go_wp2_with fail
  refine TX.out.mono ?_
  rintro e w4 ⟨rfl, hb4⟩
  have HB4 := Lib.hid (bthen HB3.out hb4)
  obtain ⟨at0, H0, S4⟩ := SrcH.of (SS3.out.below hb4)
  obtain ⟨m, hm1, hm2, e1, e2⟩ := lcg_ends H0 len
  have SH4 := Lib.hid S4
  have E := Lib.hid (And.intro e1 e2)
  have HM := Lib.hid (show len ≤ at0 + 2 * m by omega)
  have HT := Lib.hid (show T.size + m ≤ 288230376151711744 by omega)
  clear hb4 S4 e1 e2 TX HB3 SS3 hm1 hm2 hT2
  go_wp2_with fail
  go_loopg [4] m (fun μ tv wr => ∃ (t : ByteArray) (at' H : Nat), tv = .string t ∧ Hid (t.size + μ ≤ 288230376151711744 ∧ ends3 (lcgN (2 * μ + 1) H) = true ∧ (μ ≠ 0 → ends3 (lcgN (2 * μ + 3) H) = true) ∧ len ≤ at' + 2 * μ) ∧ Hid (SrcH w.heap.size a len cap at' H wr) ∧ Hid (Below w.heap.size w wr))
  case atStart => exact ⟨T, at0, H0, rfl, Lib.hid ⟨HT.out, E.out.1, fun _ => E.out.2, HM.out⟩, SH4, HB4⟩
  case round =>
    clear HT E HM SH4 HB4
    obtain ⟨t, at', H, rfl, Q, SH, HB⟩ := hrel
    go_wp2_with fail
    refine (nextH_ok 3 (by omega) (by omega) _ SH.out).mono ?_
    rintro e w5 ⟨x, at2, rfl, hx, st, hx3, S5, hg5⟩
    have HB5 := Lib.hid (bGrown HB.out hle hg5)
    have SH5 := Lib.hid S5
    have ST := Lib.hid st
    have HX := Lib.hid (And.intro hx hx3)
    clear S5 hg5 st hx hx3 SH HB
    by_cases h0 : x = 0
    · subst h0
      have DM := Lib.hid (damage_ok t (by have := Q.out.1; omega) w5 SH5.out)
      have hμ : gk ≠ 0 := by
        intro h
        subst h
        obtain ⟨_, q1, _, q2⟩ := Q.out
        have h3 := HX.out.2 (by omega)
        rw [show 2 * 0 + 1 = 1 from rfl, lcgN_one] at q1
        unfold ends3 at q1
        have h4 : lcg H / 2 ^ 33 % 2 ^ 24 % 3 = 0 := by omega
        rw [h4] at q1
        exact absurd q1 (by decide)
      have HMU := Lib.hid hμ
      clear hμ HX
      go_wp2_with fail
      refine DM.out.mono ?_
      rintro e w6 ⟨t2, at3, j, rfl, hz, hj, st3, S6, hg6⟩
      obtain ⟨q0, q1, q2, q3⟩ := Q.out
      obtain ⟨μ', h1, h2, h3, h4⟩ := ends_step HMU.out hj q1 q2 q3 ST.out st3
      have NX := Lib.hid (And.intro h1 (And.intro (show t2.size + μ' ≤ 288230376151711744 by omega) (And.intro h2 (And.intro h3 h4))))
      have SH6 := Lib.hid S6
      have HB6 := Lib.hid (bGrown HB5.out hle hg6)
      clear hz hj st3 S6 hg6 q0 q1 q2 q3 h1 h2 h3 h4 Q SH5 HB5 ST DM HMU
      go_wp2
      go_roundg μ'
      case measure => exact NX.out.1
      case rel => exact ⟨t2, at3, _, rfl, Lib.hid NX.out.2, SH6, HB6⟩
    · have hq : (x == 0) = false := by simp [h0]
      have QZ := Lib.hid (show t.size ≤ 288230376151711744 by have := Q.out.1; omega)
      clear HX Q SH5 ST
      go_wp2_with fail
      go_ret
      exact ⟨t, rfl, QZ.out, HB5.out⟩
end Go.Proofs.Ytenbokdcdokhiab

/- YQ:
  The draws of a name and of a function that mostly has one. -/
namespace Go.Proofs.Ytenbokdcdokhiab
open Go.RowKit
set_option linter.unusedVariables false
set_option linter.unusedSimpArgs false

theorem infoStr : (Try.prog.info? 9).map (fun i => (i.zero, i.size, i.bytes)) = some (some (.string ⟨#[]⟩), 1, 16) := by kernel_rfl
/-- The names and three more texts. -/
def oldNm : List Value := (List.range 14).map fun i => .string (nmAt i)
def newNm : List Value := [.string ⟨#[]⟩, .string ⟨#[65, 110, 100]⟩, .string ⟨#[109, 97, 121, 98, 101]⟩]
theorem nmAt_small : ∀ i < 14, (nmAt i).size ≤ 1000 := by decide +kernel
theorem nm_any (j : Nat) (hj : j < 17) : ∃ c : ByteArray, c.size ≤ 1000 ∧ (oldNm ++ newNm)[j]? = some (.string c) := by
  by_cases h : j < 14
  · refine ⟨nmAt j, nmAt_small j h, ?_⟩
    rw [List.getElem?_append_left (by simpa [oldNm] using h)]
    simp [oldNm, h]
  · have hl : oldNm.length = 14 := by simp [oldNm]
    rw [List.getElem?_append_right (by omega), hl]
    rcases (show j = 14 ∨ j = 15 ∨ j = 16 by omega) with rfl | rfl | rfl
    · exact ⟨_, by decide, rfl⟩
    · exact ⟨_, by decide, rfl⟩
    · exact ⟨_, by decide, rfl⟩
/-- What a draw of a name hands out. -/
def NamB (w : World) (e : Ending) (w' : World) : Prop := ∃ t : ByteArray, e = .returned (.string t) ∧ t.size ≤ 1000 ∧ Below w.heap.size w w'
theorem cells3_new (W : World) (a b c : Value) (t : TypeId) : ∀ (j : Nat) (u : Value), [a, b, c][j]? = some u → (W.alloc (.cells #[a, b, c] t)).cell? ((⟨W.heap.size, 0, none⟩ : Addr).add j) = some u := by
  intro j u h
  match j, h with
  | 0, h => simp at h; subst h; simp [go_sem, Addr.add]
  | 1, h => simp at h; subst h; simp [go_sem, Addr.add]
  | 2, h => simp at h; subst h; simp [go_sem, Addr.add]
set_option maxRecDepth 100000 in
set_option maxHeartbeats 64000000 in
theorem drawNamedFunc_ok {a : Option Addr} {len cap : Nat} (hl : len ≤ 1048576) (w : World) (C : Code w a len) :
    Calls Try.prog 70 #[.slice a len cap] w (NamB w) := by
  obtain ⟨i0, hi, hz0, hz1, hz2⟩ := info_parts infoStr
  have FR := Lib.hid (from_ok (cap := cap) hl w C.B C.lt)
  have hle : w.heap.size ≤ w.heap.size := Nat.le_refl _
  clear C
  go_enter Try.func70, Try.ntmps70
  go_wp2_with fail
  refine FR.out.mono ?_
  rintro e w2 ⟨rfl, S2, hb2⟩
  have HB2 := Lib.hid hb2
  have S := Lib.hid S2
  clear S2 hb2 FR
  go_wp2_with fail
  refine (l01Names_any _).mono ?_
  rintro e w3 ⟨rfl, hkn, hb3⟩
  have S3 := Lib.hid (S.out.below hb3)
  have HB3 := Lib.hid (bthen HB2.out hb3)
  have hsw : w.heap.size < w2.heap.size := S.out.lt
  have hw23 : w2.heap.size ≤ w3.heap.size := hb3.size
  have HO : Hid (∀ b', some (⟨w2.heap.size, 0, none⟩ : Addr) = some b' → ∀ (j : Nat) (u : Value), oldNm[j]? = some u → (w3.alloc (.cells #[.string ⟨#[]⟩, .string ⟨#[65, 110, 100]⟩, .string ⟨#[109, 97, 121, 98, 101]⟩] 9)).cell? (b'.add j) = some u) := Lib.hid (by
    intro b' e j u h
    cases e
    have hj : j < 14 := by
      have := (List.getElem?_eq_some_iff.1 h).1
      simpa [oldNm] using this
    have h1 : oldNm[j]? = some (.string (nmAt j)) := by simp [oldNm, hj]
    rw [h1] at h
    cases h
    have h2 := hkn.out j hj
    have e : (⟨w2.heap.size, 0, none⟩ : Addr).add j = ⟨w2.heap.size, j, none⟩ := by rw [add_at', Nat.zero_add]
    rw [e]
    exact kc (bnew w3 _) h2)
  clear hkn hb3 S HB2
  go_wp2_with (at_builtin; refine wpList_append_grows _ rfl _ _ 117 rfl 9 i0 (.string ⟨#[]⟩) 1 16 Try.underlying117 hi hz0 hz1 hz2 rfl (by decide) (some ⟨w2.heap.size, 0, none⟩) 14 14 oldNm rfl (fun h => by cases h) rfl HO.out ⟨w3.heap.size, 0, none⟩ 3 3 newNm rfl rfl (cells3_new _ _ _ _ _) (by intro u hu; simp [newNm] at hu; rcases hu with rfl | rfl | rfl <;> rfl) (by decide) (by decide) (by decide) ?_)
  intro v' w4 hown hgrow
  have hb4 : Below (w3.alloc (.cells #[.string ⟨#[]⟩, .string ⟨#[65, 110, 100]⟩, .string ⟨#[109, 97, 121, 98, 101]⟩] 9)).heap.size (w3.alloc (.cells #[.string ⟨#[]⟩, .string ⟨#[65, 110, 100]⟩, .string ⟨#[109, 97, 121, 98, 101]⟩] 9)) w4 := ⟨hgrow.os, hgrow.tape, hgrow.output, hgrow.size, fun k hk => hgrow.block k hk (by simp)⟩
  have S4 := Lib.hid ((S3.out.below (bnew _ _)).below hb4)
  have HB4 := Lib.hid (bthen (bthen HB3.out (bnew _ _)) hb4)
  obtain ⟨g, c, rfl, hgB, hgw⟩ := hown.form (by decide)
  have hgb : ¬ g = w.heap.size := by
    have h9 : w3.heap.size ≤ (w3.alloc (.cells #[.string ⟨#[]⟩, .string ⟨#[65, 110, 100]⟩, .string ⟨#[109, 97, 121, 98, 101]⟩] 9)).heap.size := (bnew w3 _).size
    omega
  have HOW := Lib.hid hown
  clear hown hgrow hb4 S3 HB3 HO hgB
  go_wp2_with fail
  refine (next_ok 17 (by omega) (by omega) _ S4.out).mono ?_
  rintro e w5 ⟨x, rfl, x0, x1, S5, hg5⟩
  obtain ⟨j, rfl⟩ := Int.eq_ofNat_of_zero_le x0
  have hj : j < 17 := by omega
  obtain ⟨t, ht, hcell⟩ := nm_any j hj
  have hcell := (World.ownsRow.cellAt HOW.out j (by omega)).trans hcell
  have hcell := kcg hg5 (p := ⟨g, j, none⟩) hgb hcell
  have HB5 := Lib.hid (bGrown HB4.out hle hg5)
  have HT := Lib.hid ht
  clear S5 hg5 S4 HB4 HOW ht x0 x1
  go_wp2_with fail
  go_ret
  exact ⟨t, rfl, HT.out, HB5.out⟩

set_option maxRecDepth 100000 in
set_option maxHeartbeats 64000000 in
theorem drawNameOf_ok {a : Option Addr} {len cap : Nat} (hl : len ≤ 1048576) (w : World) (C : Code w a len) :
    Calls Try.prog 74 #[.slice a len cap] w (OneB w) := by
  obtain ⟨W1, hW1⟩ : ∃ W1, w.alloc (.cells #[.int .i64 0, .int .i64 0] 25) = W1 := ⟨_, rfl⟩
  have hb1 : Below w.heap.size w W1 := by rw [← hW1]; exact bnew _ _
  have c0 : W1.cell? ⟨w.heap.size, 0, none⟩ = some (.int .i64 0) := by rw [← hW1]; simp [go_sem]
  have c1 : W1.cell? ⟨w.heap.size, 1, none⟩ = some (.int .i64 0) := by rw [← hW1]; simp [go_sem]
  have f0 : W1.frozen? ⟨w.heap.size, 0, none⟩ = false := by rw [← hW1]; simp [go_sem]
  have f1 : W1.frozen? ⟨w.heap.size, 1, none⟩ = false := by rw [← hW1]; simp [go_sem]
  have hws : w.heap.size < W1.heap.size := cell_lt c0
  have hne : ¬ w.heap.size = W1.heap.size := by omega
  have hle : w.heap.size ≤ W1.heap.size := by omega
  have FR := Lib.hid (from_ok (cap := cap) hl W1 (C.below hb1).B (C.below hb1).lt)
  clear C
  go_enter Try.func74, Try.ntmps74
  go_wp2_with fail
  refine FR.out.mono ?_
  rintro e w2 ⟨rfl, S2, hb2⟩
  have f0 := kf hb2 c0 f0
  have f1 := kf hb2 c1 f1
  have c0 := kc hb2 c0
  have c1 := kc hb2 c1
  have HB := Lib.hid (bthen hb1 hb2)
  have S := Lib.hid S2
  clear S2 hb2 hb1 hW1 FR
  go_wp2_with fail
  refine (next_ok 2 (by omega) (by omega) _ S.out).mono ?_
  rintro e w3 ⟨q, rfl, q0, q1, S3, hg3⟩
  have f0 := kfg hg3 hne c0 f0
  have f1 := kfg hg3 hne c1 f1
  have c0 := kcg hg3 hne c0
  have c1 := kcg hg3 hne c1
  replace HB := Lib.hid (bGrown HB.out hle hg3)
  replace S := Lib.hid S3
  clear S3 hg3
  by_cases hq : q = 0
  · subst hq
    go_wp2_with fail
    refine (l01Known_any _).mono ?_
    rintro e w5 ⟨rfl, hkn, hb5⟩
    have hgb : ¬ w3.heap.size = W1.heap.size := by have := S.out.lt; omega
    replace S := Lib.hid (S.out.below hb5)
    replace HB := Lib.hid (bthen HB.out hb5)
    have f0 := kf hb5 c0 f0
    have f1 := kf hb5 c1 f1
    have c0 := kc hb5 c0
    have c1 := kc hb5 c1
    clear hb5
    go_wp2_with fail
    refine (next_ok 14 (by omega) (by omega) _ S.out).mono ?_
    rintro e w6 ⟨i', rfl, z0, z1, S6, hg6⟩
    obtain ⟨j, rfl⟩ := Int.eq_ofNat_of_zero_le z0
    have hj : j < 14 := by omega
    have hcj := kcg (p := ⟨w3.heap.size, j, none⟩) hg6 hgb (hkn.out j hj)
    have f0 := kfg hg6 hne c0 f0
    have f1 := kfg hg6 hne c1 f1
    have c0 := kcg hg6 hne c0
    have c1 := kcg hg6 hne c1
    replace HB := Lib.hid (bGrown HB.out hle hg6)
    replace S := Lib.hid S6
    have RD := Lib.hid fun W => l01Read_any (txAt j) (txAt_size j) W
    rw [(txAt_read j hj).1] at RD
    have HFO := Lib.hid (known_fun j hj)
    clear S6 hg6 hkn z0 z1
    generalize txN (txAt j) = n' at RD HFO
    generalize rdB (txAt j) = b' at RD HFO
    obtain ⟨x', R', rfl, okx⟩ := fok HFO.out
    have OK := Lib.hid okx
    clear okx
    go_wp2_with fail
    refine (RD.out _ : Calls _ _ _ _ fun e w' => e = .returned (.tuple #[.agg #[.int .i64 n', .int .i64 (x' : Int)], .bool true]) ∧ Below w6.heap.size w6 w').mono ?_
    rintro e w7 ⟨rfl, hb7⟩
    have f0 := kf hb7 c0 f0
    have f1 := kf hb7 c1 f1
    have c0 := kc hb7 c0
    have c1 := kc hb7 c1
    obtain ⟨W8, hW8⟩ : ∃ W8, w7.alloc (.cells #[.int .i64 n', .int .i64 (x' : Int)] 25) = W8 := ⟨_, rfl⟩
    have hb8 : Below w7.heap.size w7 W8 := by rw [← hW8]; exact bnew _ _
    have r0' : W8.cell? ⟨w7.heap.size, 0, none⟩ = some (.int .i64 n') := by rw [← hW8]; simp [go_sem]
    have r1' : W8.cell? ⟨w7.heap.size, 1, none⟩ = some (.int .i64 (x' : Int)) := by rw [← hW8]; simp [go_sem]
    replace S := Lib.hid ((S.out.below hb7).below hb8)
    replace HB := Lib.hid (bthen (bthen HB.out hb7) hb8)
    have f0 := kf hb8 c0 f0
    have f1 := kf hb8 c1 f1
    have c0 := kc hb8 c0
    have c1 := kc hb8 c1
    clear hb7 hb8 RD hcj
    go_wp2_with fail
    clear hW8
    refine (bad_ok OK.out _ S.out).mono ?_
    rintro e w9 ⟨n, x, rfl, hn, hx, S9, hg9⟩
    have f0 := kfg hg9 hne c0 f0
    have f1 := kfg hg9 hne c1 f1
    have c0 := kcg hg9 hne c0
    have c1 := kcg hg9 hne c1
    replace HB := Lib.hid (bGrown HB.out hle hg9)
    clear S9 hg9 r0' r1' S
    go_wp2_with fail
    exact bodyPost_ret (v := .agg #[.int .i64 n, .int .i64 x]) (by simp [results, Try.results74, go_sem, c0, c1]) rfl ⟨n, x, rfl, ⟨by omega, by omega⟩, ⟨by omega, by omega⟩, (HB.out.setCell (p := ⟨w.heap.size, 0, none⟩) (Nat.le_refl _) _).setCell (p := ⟨w.heap.size, 1, none⟩) (Nat.le_refl _) _⟩
  · have hq0 : (q == 0) = false := by simp [hq]
    go_wp2_with fail
    refine (spoil_ok _ S.out).mono ?_
    rintro e w9 ⟨n, x, rfl, hn, hx, S9, hg9⟩
    have f0 := kfg hg9 hne c0 f0
    have f1 := kfg hg9 hne c1 f1
    have c0 := kcg hg9 hne c0
    have c1 := kcg hg9 hne c1
    replace HB := Lib.hid (bGrown HB.out hle hg9)
    clear S9 hg9 S
    go_wp2_with fail
    exact bodyPost_ret (v := .agg #[.int .i64 n, .int .i64 x]) (by simp [results, Try.results74, go_sem, c0, c1]) rfl ⟨n, x, rfl, ⟨by omega, by omega⟩, ⟨by omega, by omega⟩, (HB.out.setCell (p := ⟨w.heap.size, 0, none⟩) (Nat.le_refl _) _).setCell (p := ⟨w.heap.size, 1, none⟩) (Nat.le_refl _) _⟩
end Go.Proofs.Ytenbokdcdokhiab

/- FF0:
  What the walk of FnFunctions asks of its callees. -/
namespace Go.Proofs.Ytenbokdcdokhiab
open Go.RowKit
set_option linter.unusedVariables false
set_option linter.unusedSimpArgs false

set_option maxRecDepth 100000 in
set_option maxHeartbeats 2000000 in
theorem specIsFunc_at {n b : Int} {x : Bool} (h : isF n b = x) (w : World) :
    Calls Try.prog 58 #[.agg #[.int .i64 n, .int .i64 b]] w fun e w' => e = .returned (.bool x) ∧ Below w.heap.size w w' := by
  subst h
  go_enter Try.func58, Try.ntmps58
  go_wp2_with (go_at_call 153; refine (l01Is_any _ _ _).mono ?_; rintro e w' ⟨rfl, hb1⟩)
  go_ret
  exact ⟨rfl, ((Below.refl _ _).alloc (Nat.le_refl _) _).trans (hb1.mono (by simp))⟩

/-- What the walk asks of a function: its dual's dual, its negation's negation, weights, its text read. -/
structure AllOf1 (n b rn rb : Int) (nb A B : Int) (T : ByteArray) : Prop where
  back : (∀ w, Calls Try.prog 56 #[.agg #[.int .i64 rn, .int .i64 rb]] w fun e w' => e = .returned (.tuple #[.agg #[.int .i64 n, .int .i64 b], .int .i64 0]) ∧ Below w.heap.size w w')
  neg : (∀ w, Calls Try.prog 59 #[.agg #[.int .i64 n, .int .i64 b]] w fun e w' => e = .returned (.tuple #[.agg #[.int .i64 n, .int .i64 nb], .int .i64 0]) ∧ Below w.heap.size w w')
  neg2 : (∀ w, Calls Try.prog 59 #[.agg #[.int .i64 n, .int .i64 nb]] w fun e w' => e = .returned (.tuple #[.agg #[.int .i64 n, .int .i64 b], .int .i64 0]) ∧ Below w.heap.size w w')
  wa : (∀ w, Calls Try.prog 60 #[.agg #[.int .i64 n, .int .i64 b]] w fun e w' => e = .returned (.tuple #[.int .i64 A, .int .i64 0]) ∧ Below w.heap.size w w')
  wb : (∀ w, Calls Try.prog 60 #[.agg #[.int .i64 n, .int .i64 nb]] w fun e w' => e = .returned (.tuple #[.int .i64 B, .int .i64 0]) ∧ Below w.heap.size w w')
  tx : (∀ w, Calls Try.prog 61 #[.agg #[.int .i64 n, .int .i64 b]] w fun e w' => e = .returned (.tuple #[.string T, .int .i64 0]) ∧ Below w.heap.size w w')
  rd : (∀ w, Calls Try.prog 62 #[.string T] w fun e w' => e = .returned (.tuple #[.agg #[.int .i64 n, .int .i64 b], .int .i64 0]) ∧ Below w.heap.size w w')
  a0 : 0 ≤ A ∧ A ≤ 16
  b0 : 0 ≤ B ∧ B ≤ 16
  n0 : 0 ≤ n ∧ n ≤ 4
  sum : A + B = 2 ^ n.toNat
/-- The dual as both packages have it, and all else. -/
theorem dualF (n b : Int) : ∃ rn rb rc : Int,
    (∀ w, Calls Try.prog 57 #[.agg #[.int .i64 n, .int .i64 b]] w fun e w' => e = .returned (.tuple #[.agg #[.int .i64 rn, .int .i64 rb], .int .i64 rc]) ∧ Below w.heap.size w w') ∧
    (∀ w, Calls Try.prog 56 #[.agg #[.int .i64 n, .int .i64 b]] w fun e w' => e = .returned (.tuple #[.agg #[.int .i64 rn, .int .i64 rb], .int .i64 rc]) ∧ Below w.heap.size w w') ∧
    ((rc = 0 ∧ ∃ (nb A B : Int) (T : ByteArray), AllOf1 n b rn rb nb A B T) ∨ rc ≠ 0) := by
  cases h : isF n b
  · exact ⟨_, _, _, specDualOf_no h, implDualOf_no h, .inr (by decide)⟩
  · obtain ⟨x, R, rfl, ok⟩ := fok h
    have h4 := ok.h4
    obtain ⟨m, rfl⟩ := Int.eq_ofNat_of_zero_le ok.h0
    have he := ok.he
    rw [Int.toNat_natCast] at he
    refine ⟨_, _, _, specDualOf_yes ok, implDualOf_yes ok, .inl ⟨rfl, (negN x R : Int), (ones x R : Int), (ones (negN x R) R : Int), txtS m x R, ?_⟩⟩
    have okd : FOk (m : Int) (dualN x R) R := ok.put2 (dualN_lt x R)
    have okn : FOk (m : Int) (negN x R) R := ok.put2 (negN_lt x R)
    have d2 := implDualOf_yes okd
    have e2 : sumN (fun r => 1 - bitN (dualN x R) (R - 1 - r)) R = x := dualN_dual ok.hB
    rw [e2] at d2
    have n2 := implNegateFunc_yes okn
    have e3 : sumN (fun r => 1 - bitN (negN x R) r) R = x := negN_neg ok.hB
    rw [e3] at n2
    have tb := txt_back ok
    have tx := implFuncText_yes ok ok.is
    rw [Int.toNat_natCast] at tx
    have hw := neg_weight x R
    have l1 := ones_le x R
    have l2 := ones_le (negN x R) R
    have r16 := ok.r16
    exact ⟨d2, implNegateFunc_yes ok, n2, implWeightOf_yes ok, implWeightOf_yes okn, tx, fun w => by
      have P := implParseFunc_anyB (txtS m x R) (by rw [txtS_size]; omega) w
      rw [tb.1, tb.2.1, tb.2.2] at P
      exact P, ⟨by omega, by omega⟩, ⟨by omega, by omega⟩, ⟨ok.h0, h4⟩, by
      have e : ((2 : Int) ^ m) = ((2 ^ m : Nat) : Int) := by push_cast; rfl
      rw [Int.toNat_natCast, e, ← he]
      omega⟩
/-- The core as both packages have it, and the essential variables. -/
theorem coreF (n b : Int) : ∃ rn rb rc : Int,
    (∀ w, Calls Try.prog 65 #[.agg #[.int .i64 n, .int .i64 b]] w fun e w' => e = .returned (.tuple #[.agg #[.int .i64 rn, .int .i64 rb], .int .i64 rc]) ∧ Below w.heap.size w w') ∧
    (∀ w, Calls Try.prog 64 #[.agg #[.int .i64 n, .int .i64 b]] w fun e w' => e = .returned (.tuple #[.agg #[.int .i64 rn, .int .i64 rb], .int .i64 rc]) ∧ Below w.heap.size w w') ∧
    ((rc = 0 ∧ ∃ (xs ys : List Int) (m : Nat), (∀ w, Calls Try.prog 40 #[.agg #[.int .i64 rn, .int .i64 rb]] w (ListCodePost w.heap.size xs 0 w)) ∧ (∀ w, Calls Try.prog 40 #[.agg #[.int .i64 n, .int .i64 b]] w (ListCodePost w.heap.size ys 0 w)) ∧ xs.length = m ∧ ys.length = m ∧ rn = (m : Int)) ∨ rc ≠ 0) := by
  cases h : isF n b
  · exact ⟨_, _, _, specCoreOf_no h, implCoreOf_no h, .inr (by decide)⟩
  · obtain ⟨x, R, rfl, ok⟩ := fok h
    have h4 := ok.h4
    obtain ⟨m, rfl⟩ := Int.eq_ofNat_of_zero_le ok.h0
    have he := ok.he
    rw [Int.toNat_natCast] at he
    obtain ⟨m', x', e1, h1, h2, h3, hlt⟩ := core_ess m m x (Nat.le_refl _) (by omega) (fun j a b => by omega)
    have s1 := specCoreOf_yes ok
    have i1 := implCoreOf_yes ok
    rw [Int.toNat_natCast, e1] at s1 i1
    have okc : FOk ((m' : Nat) : Int) x' (2 ^ m') := by
      have := FOk.of (n := ((m' : Nat) : Int)) (x := x') (by omega) (by omega) (by rw [Int.toNat_natCast]; exact hlt (by rw [← he]; exact ok.hB))
      rw [Int.toNat_natCast] at this
      exact this
    have ec := implEssentialOf_yes okc
    have eg := implEssentialOf_yes ok
    rw [Int.toNat_natCast] at ec eg
    exact ⟨_, _, _, s1, i1, .inl ⟨rfl, _, _, m', ec, eg, by rw [essK_cnt, h2], by rw [essK_cnt, h3], rfl⟩⟩
/-- The widened function as both packages have it, and fixed. -/
theorem widenF (n b : Int) : ∃ rn rb rc : Int,
    (∀ w, Calls Try.prog 68 #[.agg #[.int .i64 n, .int .i64 b]] w fun e w' => e = .returned (.tuple #[.agg #[.int .i64 rn, .int .i64 rb], .int .i64 rc]) ∧ Below w.heap.size w w') ∧
    (∀ w, Calls Try.prog 67 #[.agg #[.int .i64 n, .int .i64 b]] w fun e w' => e = .returned (.tuple #[.agg #[.int .i64 rn, .int .i64 rb], .int .i64 rc]) ∧ Below w.heap.size w w') ∧
    ((rc = 0 ∧ (∀ w, Calls Try.prog 69 #[.agg #[.int .i64 rn, .int .i64 rb], .int .i64 n, .int .i64 0] w fun e w' => e = .returned (.tuple #[.agg #[.int .i64 n, .int .i64 b], .int .i64 0]) ∧ Below w.heap.size w w') ∧ (∀ w, Calls Try.prog 69 #[.agg #[.int .i64 rn, .int .i64 rb], .int .i64 n, .int .i64 1] w fun e w' => e = .returned (.tuple #[.agg #[.int .i64 n, .int .i64 b], .int .i64 0]) ∧ Below w.heap.size w w')) ∨ rc ≠ 0) := by
  cases h : isF n b
  · exact ⟨_, _, _, specWidenFunc_no h, implWidenFunc_no h, .inr (by decide)⟩
  · obtain ⟨x, R, rfl, ok⟩ := fok h
    by_cases h3 : n ≤ 3
    · obtain ⟨m, rfl⟩ := Int.eq_ofNat_of_zero_le ok.h0
      have he := ok.he
      rw [Int.toNat_natCast] at he
      have okw := widen_fok ok (by omega)
      have f0 := implFixVariable_yes okw m 0 (by omega) (by omega)
      have f1 := implFixVariable_yes okw m 1 (by omega) (by omega)
      rw [widen_fix (v := 0) (by omega) he ok.hB (by omega), show ((m + 1 : Nat) : Int) - 1 = (m : Int) by omega, show ((m + 1 : Nat) : Int) = (m : Int) + 1 by omega] at f0
      rw [widen_fix (v := 1) (by omega) he ok.hB (by omega), show ((m + 1 : Nat) : Int) - 1 = (m : Int) by omega, show ((m + 1 : Nat) : Int) = (m : Int) + 1 by omega] at f1
      exact ⟨_, _, _, specWidenFunc_yes ok h3, implWidenFunc_yes ok h3, .inl ⟨rfl, f0, f1⟩⟩
    · obtain rfl : n = 4 := by have := ok.h4; omega
      exact ⟨_, _, _, specWidenFunc_lim ok, implWidenFunc_lim ok, .inr (by decide)⟩
theorem nm_own : ∀ e ∈ nmL, nameOf e.2 = some e ∧ isF e.2.1 e.2.2 = true ∧ wfP e.2 := by
  intro e he
  simp only [nmL, List.mem_cons, List.not_mem_nil, or_false] at he
  rcases he with rfl | rfl | rfl | rfl | rfl | rfl | rfl | rfl | rfl | rfl | rfl | rfl | rfl | rfl
  all_goals exact ⟨by decide +kernel, by decide +kernel, by decide +kernel, by decide +kernel⟩
/-- The function of a name as both packages have it, and its name. -/
theorem namedF (s : ByteArray) (hs : s.size ≤ 1048576) : ∃ rn rb rc : Int,
    (∀ w, Calls Try.prog 72 #[.string s] w fun e w' => e = .returned (.tuple #[.agg #[.int .i64 rn, .int .i64 rb], .int .i64 rc]) ∧ Below w.heap.size w w') ∧
    (∀ w, Calls Try.prog 71 #[.string s] w fun e w' => e = .returned (.tuple #[.agg #[.int .i64 rn, .int .i64 rb], .int .i64 rc]) ∧ Below w.heap.size w w') ∧
    ((rc = 0 ∧ (∀ w, Calls Try.prog 73 #[.agg #[.int .i64 rn, .int .i64 rb]] w fun e w' => e = .returned (.tuple #[.string s, .int .i64 0]) ∧ Below w.heap.size w w')) ∨ rc ≠ 0) := by
  cases h : nmL.find? (fun e => e.1 == s.data.toList) with
  | none =>
    have hn := List.find?_eq_none.1 h
    refine ⟨0, 0, 4, fun w => specNamedFunc_none (fun j hj e => ?_) w, fun w => implNamedFunc_none hs h w, .inr (by decide)⟩
    have hj' : j < nmL.length := hj
    exact hn nmL[j] (List.getElem_mem hj') (by rw [← e, nmK_get hj']; simp)
  | some e =>
    obtain ⟨hp, k, hk, he, hbefore⟩ := List.find?_eq_some_iff_getElem.1 h
    have hk14 : k < 14 := hk
    have hr := txAt_read k hk14
    have e0 : nmL[k]? = some e := by rw [List.getElem?_eq_getElem hk, he]
    obtain ⟨o1, o2, o3⟩ := nm_own e (List.mem_of_find?_eq_some h)
    have hse : (⟨e.1.toArray⟩ : ByteArray) = s := by
      have : e.1 = s.data.toList := by simpa using hp
      rw [this]
    refine ⟨e.2.1, e.2.2, 0, fun w => ?_, fun w => implNamedFunc_some hs h w, .inl ⟨rfl, fun w => ?_⟩⟩
    · have M := specNamedFunc_some (s := s) hk14 (by rw [nmK_get hk, he]; simpa using hp) (fun j hj c => by
        have hj' : j < nmL.length := Nat.lt_trans hj hk
        have := hbefore j hj
        rw [← c, nmK_get hj'] at this
        simp at this) w
      rw [hr.2.1, hr.2.2, e0] at M
      exact M
    · have N := implNameOf_yes (n := e.2.1) (b := e.2.2) o2 o3 o1 w
      have e3 : nameB (some e) = s := hse
      rw [e3] at N
      exact N
theorem hold6 {W W' W0 : World} {a b c d p q : Addr} {u v y z r t : Value} (hb : Below W.heap.size W W') (h : ((W.cell? a = some u ∧ W.cell? b = some v) ∧ (W.cell? c = some y ∧ W.cell? d = some z) ∧ (W.cell? p = some r ∧ W.cell? q = some t)) ∧ Below W0.heap.size W0 W) :
    ((W'.cell? a = some u ∧ W'.cell? b = some v) ∧ (W'.cell? c = some y ∧ W'.cell? d = some z) ∧ (W'.cell? p = some r ∧ W'.cell? q = some t)) ∧ Below W0.heap.size W0 W' :=
  ⟨⟨⟨kc hb h.1.1.1, kc hb h.1.1.2⟩, ⟨kc hb h.1.2.1.1, kc hb h.1.2.1.2⟩, ⟨kc hb h.1.2.2.1, kc hb h.1.2.2.2⟩⟩, bthen h.2 hb⟩
end Go.Proofs.Ytenbokdcdokhiab
