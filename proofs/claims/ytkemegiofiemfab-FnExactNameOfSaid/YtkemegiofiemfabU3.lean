/-
  FuncText in both packages.
-/
import Derived.Test.YtkemegiofiemfabU2
import Derived.Test.YtkemegiofiemfabR4
import Derived.OwnWalkIn
import Derived.Deep.AppendLies
namespace Go.Proofs.Ytkemegiofiemfab
open Go.RowKit Go.Shelf
set_option linter.unusedVariables false
attribute [local go_sem] Oper.semAt_some

set_option maxRecDepth 100000 in
set_option maxHeartbeats 1000000 in
theorem specFuncText_yes {n : Int} {x R : Nat} (ok : FOk n x R) (h : isF n (x : Int) = true) (w : World) :
    Calls Try.prog 26 #[.agg #[.int .i64 n, .int .i64 (x : Int)]] w fun e w' => e = .returned (.tuple #[.string (txtS n.toNat x R), .int .i64 0]) ∧ Below w.heap.size w w' := by
  obtain ⟨W1, hW1⟩ : ∃ W1, w.alloc (.cells #[.int .i64 n, .int .i64 (x : Int)] 26) = W1 := ⟨_, rfl⟩
  have p0 : W1.cell? ⟨w.heap.size, 0, none⟩ = some (.int .i64 n) := by rw [← hW1]; simp [go_sem]
  have p1 : W1.cell? ⟨w.heap.size, 1, none⟩ = some (.int .i64 (x : Int)) := by rw [← hW1]; simp [go_sem]
  have hB : Below w.heap.size w W1 := by rw [← hW1]; exact bnew _ _
  have T := Lib.hid fun W => l01Text_any ok W
  go_enter Try.func26, Try.ntmps26
  go_wp2_with (first
    | (go_at_call 73; refine (l01Is_is h _).mono ?_; rintro e w2 ⟨rfl, hb⟩; have q0 := kc hb p0; have q1 := kc hb p1; have hB2 := bthen hB hb)
    | (go_at_call 93; refine (T.out _).mono ?_; rintro e w3 ⟨rfl, hb3⟩))
  go_ret2
  exact ⟨rfl, bthen hB2 hb3⟩

set_option maxRecDepth 100000 in
set_option maxHeartbeats 1000000 in
theorem specFuncText_no {n b : Int} (h : isF n b = false) (w : World) :
    Calls Try.prog 26 #[.agg #[.int .i64 n, .int .i64 b]] w fun e w' => e = .returned (.tuple #[.string ⟨#[]⟩, .int .i64 1]) ∧ Below w.heap.size w w' := by
  obtain ⟨W1, hW1⟩ : ∃ W1, w.alloc (.cells #[.int .i64 n, .int .i64 b] 26) = W1 := ⟨_, rfl⟩
  have p0 : W1.cell? ⟨w.heap.size, 0, none⟩ = some (.int .i64 n) := by rw [← hW1]; simp [go_sem]
  have p1 : W1.cell? ⟨w.heap.size, 1, none⟩ = some (.int .i64 b) := by rw [← hW1]; simp [go_sem]
  have hB : Below w.heap.size w W1 := by rw [← hW1]; exact bnew _ _
  go_enter Try.func26, Try.ntmps26
  go_wp2_with (first
    | (go_at_call 73; refine (l01Is_is h _).mono ?_; rintro e w2 ⟨rfl, hb⟩; have hB2 := bthen hB hb))
  go_ret2
  exact ⟨rfl, hB2⟩

theorem infoB : (Try.prog.info? 5).map (fun i => (i.zero, i.size, i.bytes)) = some (some (.int .u8 0), 1, 1) := by kernel_rfl

/-- .. of the rows handed out. -/
def txtF {R : Nat} (n x : Nat) (pre : List (Row R)) : List UInt8 := dgB n :: 58 :: pre.map fun r => dgB (bitN x r.1)
def bvals (l : List UInt8) : List Value := l.map fun b => .int .u8 (b.toNat : Int)
theorem bvals_snoc (l : List UInt8) (b : UInt8) : bvals (l ++ [b]) = bvals l ++ [.int .u8 (b.toNat : Int)] := by simp [bvals]
theorem txtF_snoc {R : Nat} (n x : Nat) (pre : List (Row R)) (r : Row R) : txtF n x (pre ++ [r]) = txtF n x pre ++ [dgB (bitN x r.1)] := by simp [txtF]
theorem txtF_len {R : Nat} (n x : Nat) (pre : List (Row R)) : (txtF n x pre).length = pre.length + 2 := by simp [txtF]
theorem txtF_upto {R : Nat} (hR : 0 < R) (n x k : Nat) (hk : k ≤ R) : txtF n x (upto hR k) = txtL n x k := by
  induction k with
  | zero => rfl
  | succ k ih => rw [upto_succ, txtF_snoc, ih (by omega), txtL_succ, rowAt_val hR (k := k) (by omega)]

theorem owns_below' {W W' : World} {base : Nat} {e : TypeId} {size : Nat} {v : Value} {n : Nat} {xs : List Value} (h : W.ownsRow base e size v n xs) (hb : Below W.heap.size W W') : W'.ownsRow base e size v n xs := owns_below h hb

/-- An append to a list of one's own, within a region that draws. -/
theorem stepIn_append_own {F : Fence} {n : Nat} {P : Program} (w : World) {ops : Array Oper} {o : Oper} {a : Act} {K : Act → World → Prop} {Q : Exit → Act → World → Prop} {E : Prop}
    (hg : o.guard = none) (s x : Operand) (t : TypeId) (hop : o.op = Op.call { callee := Callee.builtin Builtin.append, args := #[s, x], argTypes := #[t, t] })
    (base : Nat) (e : TypeId) (i : TypeInfo) (z : Value) (size bytes : Nat) (h1 : P.underlying t = some (.slice e)) (h2 : P.info? e = some i) (h3 : i.zero = some z) (h4 : i.size = size) (h5 : i.bytes = bytes) (h6 : z.cells.size = size) (h7 : 0 < size)
    (v : Value) (k : Nat) (xs : List Value) (hs : a.eval s = v) (hown : w.ownsRow base e size v k xs) (ad : Addr) (m c : Nat) (news : List Value) (hx : a.eval x = .slice (some ad) m c) (hn : news.length = m * size)
    (hc : ∀ j u, news[j]? = some u → w.cell? (ad.add j) = some u) (h1c : ∀ u ∈ news, u.oneCell' = true) (b1 : k + m ≤ maxLen) (b2 : (k + m) * bytes ≤ 140737488355328) (b3 : base ≤ w.heap.size)
    (hK : ∀ v' w', w'.ownsRow base e size v' (k + m) (xs ++ news) → w.grownBy w' v.ownBlock → K (a.put o.dst v') w') :
    if Region.wanted o (yielded ops a.tmps) = true then Oper.wpIn F n P o a w K Q else E := by
  rw [if_pos (by simp [Region.wanted, hg])]
  obtain ⟨v', w', hrun, r1, r2, _⟩ := run_append_own (P := P) w base t o.type e i z size bytes h1 h2 h3 h4 h5 h6 h7 v k xs hown ad m c news hn hc h1c b1 b2 b3
  unfold Oper.wpIn
  refine ⟨by simp [Oper.about, hop, resolve, Target.leads, Sem.run_pure], ?_⟩
  rw [Oper.semAt_plain F _ _ (by rw [hop]; intro c hc'; cases hc')]
  simp [execOp, hop, resolve, invoke, builtin, hs, hx, hrun, Result.andThen]
  exact hK _ _ r1 r2

theorem digitByte_any (d : Nat) (hd : d < 10) (w : World) :
    Calls Try.prog 95 #[.int .i64 (d : Int)] w fun e w' => e = .returned (.int .u8 ((dgB d).toNat : Int)) ∧ w = w' := by
  have hv := dgB_nat d (by omega)
  go_enter Try.func95, Try.ntmps95
  go_wp2
  go_ret
  exact ⟨by rw [hv]; push_cast; rfl, rfl⟩

set_option maxRecDepth 100000 in
set_option maxHeartbeats 4000000 in
theorem implFuncText_yes {n : Int} {x R : Nat} (ok : FOk n x R) (h : isF n (x : Int) = true) (w : World) :
    Calls Try.prog 27 #[.agg #[.int .i64 n, .int .i64 (x : Int)]] w fun e w' => e = .returned (.tuple #[.string (txtS n.toNat x R), .int .i64 0]) ∧ Below w.heap.size w w' := by
  have h0 := ok.h0
  have h4 := ok.h4
  have r0 := ok.r0
  have r16 := ok.r16
  have hR := ok.hR
  have hx62 := ok.hx
  obtain ⟨i0, hi, hz0, hz1, hz2⟩ := info_parts infoB
  obtain ⟨m, rfl⟩ := Int.eq_ofNat_of_zero_le h0
  simp only [Int.toNat_natCast]
  have DG := Lib.hid fun W => digitByte_any m (by omega) W
  obtain ⟨W1, hW1⟩ : ∃ W1, w.alloc (.cells #[.int .i64 (m : Int), .int .i64 (x : Int)] 26) = W1 := ⟨_, rfl⟩
  have p0 : W1.cell? ⟨w.heap.size, 0, none⟩ = some (.int .i64 (m : Int)) := by rw [← hW1]; simp [go_sem]
  have p1 : W1.cell? ⟨w.heap.size, 1, none⟩ = some (.int .i64 (x : Int)) := by rw [← hW1]; simp [go_sem]
  have hB : Below w.heap.size w W1 := by rw [← hW1]; exact bnew _ _
  have hz1' : w.heap.size < W1.heap.size := by rw [← hW1]; simp [go_sem]
  refine (callsIn_wide (n := 3)).1 ?_
  refine callsIn_of_wp_marks Try.func27 rfl trivial ?_ rfl
  simp only [Try.ntmps27, List.size_toArray, List.length_cons, List.length_nil, Nat.reduceAdd, Nat.reduceSub, Array.replicate_succ, Array.replicate_zero, List.push_toArray, List.append_toArray, List.nil_append, List.cons_append]
  gi_wp2_with (first
    | (refine ⟨trivial, ?_⟩; gi_at_call 34; refine (callsIn_wide.2 (IsFunc_is h _)).mono ?_; rintro e w2 ⟨rfl, hb⟩; have q0 := kc hb p0; have q1 := kc hb p1; have hB2 := bthen hB hb; have hz2' := hb.size; have k0 : ∀ o1 o2, ((w2.alloc o1).alloc o2).cell? ⟨w.heap.size, 0, none⟩ = some (.int .i64 (m : Int)) := fun o1 o2 => kc (balloc (bnew _ _) _) q0)
    | (refine ⟨trivial, ?_⟩; gi_at_call 95; refine (callsIn_wide.2 (DG.out _)).mono ?_; rintro e w3 ⟨rfl, rfl⟩)
    | (refine ⟨trivial, ?_⟩; gi_at_call 96; refine (callsIn_wide.2 (rowsOf_any _ _)).mono ?_; rintro e w' ⟨rfl, rfl⟩))
  obtain ⟨W0, hW0⟩ : ∃ W0, ((w2.alloc (.cells #[.int .u8 ((dgB m).toNat : Int), .int .u8 58] 5)).alloc (.cells #[.slice (some ⟨w2.heap.size, 0, none⟩) 2 2] 45)).alloc (.cells #[.int .i64 (m : Int)] 2) = W0 := ⟨_, rfl⟩
  have hbx : Boxed W0 (w2.heap.size + 1) 45 (.slice (some ⟨w2.heap.size, 0, none⟩) 2 2) := by
    rw [← hW0]
    refine Boxed.alloc ?_ _
    have := Boxed.new (w2.alloc (.cells #[.int .u8 ((dgB m).toNat : Int), .int .u8 58] 5)) 45 (.slice (some ⟨w2.heap.size, 0, none⟩) 2 2)
    simpa using this
  have hrow : W0.ownsRow w2.heap.size 5 1 (.slice (some ⟨w2.heap.size, 0, none⟩) 2 2) 2 (bvals (txtF (R := R) m x [])) := by
    rw [← hW0]
    exact ((World.ownsRow_lit w2 #[.int .u8 ((dgB m).toNat : Int), .int .u8 58] 2 (Nat.le_refl _) (by decide) rfl).alloc _).alloc _
  have cR : W0.cell? ⟨w2.heap.size + 1 + 1, 0, none⟩ = some (.int .i64 (m : Int)) := by rw [← hW0]; simp [go_sem]
  have hB3 : Below w2.heap.size w2 W0 := by rw [← hW0]; exact balloc (balloc (bnew _ _) _) _
  have s0 := kc hB3 q0
  have s1 := kc hB3 q1
  have hB0 : Below w.heap.size w W0 := bthen hB2 hB3
  have hsz : W0.heap.size = w2.heap.size + 3 := by rw [← hW0]; simp [go_sem]
  rw [hW0]
  clear hW0 k0 p0 p1 q0 q1 hB hB2 hB3 hW1
  refine wpIn_rangeFunc_ownF (α := Row R) rfl (by omega) (gf := 143) (lb := #[.pointer (some ⟨w2.heap.size + 1 + 1, 0, none⟩)]) rfl trivial (enters_of Try.func143 (by kernel_rfl) rfl)
    (rows_stops (3 - 1) (by omega) (w2.heap.size + 1 + 1) w.heap.size (m : Int) R h0 h4 r0 r16 hR W0 (by omega) cR) belowK_t (belowK_b (by omega)) (Below.refl _ _) (fun _ => rfl)
    (fun pre W => (∃ v, Boxed W (w2.heap.size + 1) 45 v ∧ W.ownsRow w2.heap.size 5 1 v (pre.length + 2) (bvals (txtF m x pre)) ∧ True) ∧ (FBox w.heap.size (m : Int) x W ∧ Below w.heap.size w W))
    (fun _ _ _ => False)
    (OwnFrom.and (Own.from (holdsRow_own w2.heap.size (w2.heap.size + 1) 45 5 1 (fun pre => pre.length + 2) (fun pre => bvals (txtF m x pre)) (fun _ _ => True)) _) (OwnFrom.and (Own.from (fun s A B row hs hg hr => ⟨cell_kept hs.c0 hg hr, cell_kept hs.c1 hg hr⟩) _) (ownFrom_below (Nat.le_refl _) (by omega))))
    (fun _ _ _ _ _ hs _ _ => hs)
    ⟨⟨_, hbx, hrow, trivial⟩, ⟨s0, s1⟩, hB0⟩
    (fun y => { tmps := #[.agg #[.int .i64 (m : Int), .int .i64 (x : Int)], .pointer (some ⟨w.heap.size, 0, none⟩), .string ⟨#[]⟩, .int .i64 0, .pointer (some ⟨w2.heap.size + 1, 0, none⟩), .int .i64 (y.1 : Int), .agg #[.int .i64 (m : Int), .int .i64 (x : Int)], .bool true, .bool false,
      .pointer (some ⟨w.heap.size, 0, none⟩), .int .i64 (m : Int), .int .u8 ((dgB m).toNat : Int), .slice (some ⟨w2.heap.size, 0, none⟩) 2 2, .pointer (some ⟨w.heap.size, 0, none⟩), .int .i64 (m : Int), .func (.func 143) #[] #[.pointer (some ⟨w2.heap.size + 1 + 1, 0, none⟩)], .int .i64 (y.1 : Int), undef, undef, undef, undef, undef, undef, undef, undef, undef], defers := [] }) ?assign ?body ?done ?stop
  case assign =>
    intro l y W K hK
    unfold encRow
    gi_wp2
    exact hK
  case body =>
    clear cR hbx hrow s0 s1 hB0 DG
    rintro l pre y W ⟨⟨v, hv, hrow, _⟩, hf, hB⟩ hlen
    have c0 := hf.c0
    have c1 := hf.c1
    have dv := hv.cell
    have HV := Lib.hid hv
    have HR := Lib.hid hrow
    have HF := Lib.hid hf
    clear hv hrow hf
    have hy := y.2
    have HS := Lib.hid (txtF_snoc m x pre y)
    have HLN := Lib.hid (txtF_len m x pre)
    have HL2 : Hid ((pre ++ [y]).length + 2 = pre.length + 2 + 1) := Lib.hid (by simp)
    have hle2 : w.heap.size ≤ w2.heap.size := by omega
    have hlt2 : w.heap.size < w2.heap.size := by omega
    generalize y.1 = r at hy HS ⊢
    have VR := Lib.hid fun W => valueInRow_any (m : Int) x r hx62 (by omega) W
    have DR := Lib.hid fun W => digitByte_any (bitN x r) (by have := bitN_le x r; omega) W
    have hmx : Try.prog.follows .mixedOrders = true := by kernel_rfl
    have hd : 1 ≤ 3 - 1 - 1 := by omega
    gi_wp2
    refine wpIn_region_any hmx ?_
    refine wpAnyIn_round (F := Fence.wide) l (by kernel_rfl) _ _ _ _ ?_
    change wpAnyIn _ _ _ _ _ _ _ _ _ (World.drew _)
    refine wpAnyIn_take (i := 2) (v := ?_) rfl rfl (by kernel_rfl) (by kernel_rfl) (by kernel_rfl) (fun _ _ _ h => h) ⟨Or.inl ⟨by rfl, by intro w; go_simp; try (with_reducible rfl)⟩, fun _ => rfl⟩ ?_
    refine wpAnyIn_ready (rs := [0, 1]) (by kernel_rfl) (by simp) ?_
    refine AllReadyIn.cons rfl (fun K hK => ?_) ?_
    · go_simp
      refine hK _ _ ?_
      clear hK K
      refine wpAnyIn_ready (rs := [1]) (by kernel_rfl) (by simp) ?_
      refine AllReadyIn.cons rfl (fun K hK => ?_) ?_
      · go_simp
        refine hK _ _ ?_
        clear hK K
        refine wpAnyIn_ready (rs := [3]) (by kernel_rfl) (by simp) ?_
        refine AllReadyIn.cons rfl (fun K hK => ?_) ?_
        · go_simp
          refine ⟨trivial, ?_⟩
          refine (callsIn_wide.2 (VR.out _)).mono ?_
          rintro e w4 ⟨rfl, hb4⟩
          have HB4 := Lib.hid hb4
          have hv5 : Boxed w4 (w2.heap.size + 1) 45 v := (hb4.block (w2.heap.size + 1) (by have := HV.out.lt; simpa using this)).trans HV.out
          have HV5 := Lib.hid hv5
          have dv := hv5.cell
          have dv5 : ∀ o, (w4.alloc o).cell? ⟨w2.heap.size + 1, 0, none⟩ = some v := fun o => (hv5.alloc o).cell
          clear hv5 hb4
          dsimp only
          refine hK _ _ ?_
          clear hK K
          refine wpAnyIn_ready (rs := [4]) (by kernel_rfl) (by simp) ?_
          refine AllReadyIn.cons rfl (fun K hK => ?_) ?_
          · go_simp
            refine ⟨trivial, ?_⟩
            refine (callsIn_wide.2 (DR.out _)).mono ?_
            rintro e w5 ⟨rfl, rfl⟩
            dsimp only
            refine hK _ _ ?_
            clear hK K
            refine wpAnyIn_ready (rs := [5]) (by kernel_rfl) (by simp) ?_
            refine AllReadyIn.cons rfl (fun K hK => ?_) ?_
            · go_simp
              refine hK _ _ ?_
              clear hK K
              refine wpAnyIn_ready (rs := [6]) (by kernel_rfl) (by simp) ?_
              refine AllReadyIn.cons rfl (fun K hK => ?_) ?_
              · have hrow5 : World.ownsRow _ _ _ _ _ _ _ := owns_below' (HR.out.drew) HB4.out
                have hs5 : w2.heap.size ≤ w4.heap.size := by have := HB4.out.size; have := HV.out.lt; simp at *; omega
                refine stepIn_append_own _ rfl _ _ 45 rfl w2.heap.size 5 i0 (.int .u8 0) 1 1 Try.underlying45 hi hz0 hz1 hz2 rfl (by decide) _ _ _ rfl (hrow5.alloc _) ⟨w4.heap.size, 0, none⟩ 1 1 [.int .u8 ((dgB (bitN x r)).toNat : Int)] rfl rfl (World.news_of_block (cs := #[.int .u8 ((dgB (bitN x r)).toNat : Int)]) (t := 5) (fr := (0, 0)) (heap_alloc_new w4 _)) (by simp [Value.oneCell']) (by unfold maxLen; omega) (by omega) (by simp; omega) ?_
                intro v' w1 hown' hgrow
                have HAP := Lib.hid (Boxed.appended HV5.out (by decide) hrow5 hs5 (by omega) hown' hgrow)
                obtain ⟨g5, cap5, rfl⟩ := ownsRow_succ hown'
                have e5 := HAP.out.1.cell
                have z5 := HAP.out.1.frozen
                clear hgrow hown' hrow5
                refine hK _ _ ?_
                clear hK K
                refine wpAnyIn_ready (rs := [7]) (by kernel_rfl) (by simp) ?_
                refine AllReadyIn.cons rfl (fun K hK => ?_) ?_
                · go_simp
                  refine hK _ _ ?_
                  clear hK K
                  refine wpAnyIn_done (by kernel_rfl) ?_ _
                  obtain ⟨a1, a2, a3, a4, a5⟩ := HAP.out
                  exact ⟨(kot HB4.out).trans a4, ((Below.refl _ W).drew.trans (HB4.out.mono hB.size)).trans (a5.mono hle2), ⟨_, a2, by rw [HS.out, bvals_snoc, HL2.out]; exact a3, trivial⟩, ⟨(a5.cell (p := ⟨w.heap.size, 0, none⟩) hlt2).trans (kcd HB4.out c0), (a5.cell (p := ⟨w.heap.size, 1, none⟩) hlt2).trans (kcd HB4.out c1)⟩, (hB.drew.trans (HB4.out.mono hB.size)).trans (a5.mono hle2)⟩
                exact AllReadyIn.nil
              exact AllReadyIn.nil
            exact AllReadyIn.nil
          exact AllReadyIn.nil
        exact AllReadyIn.nil
      exact AllReadyIn.nil
    refine AllReadyIn.cons rfl (fun K hK => ?_) ?_
    · go_simp
      refine hK _ _ ?_
      clear hK K
      refine wpAnyIn_ready (rs := [0, 3]) (by kernel_rfl) (by simp) ?_
      refine AllReadyIn.cons rfl (fun K hK => ?_) ?_
      · go_simp
        refine hK _ _ ?_
        clear hK K
        refine wpAnyIn_ready (rs := [3]) (by kernel_rfl) (by simp) ?_
        refine AllReadyIn.cons rfl (fun K hK => ?_) ?_
        · go_simp
          refine ⟨trivial, ?_⟩
          refine (callsIn_wide.2 (VR.out _)).mono ?_
          rintro e w4 ⟨rfl, hb4⟩
          have HB4 := Lib.hid hb4
          have hv5 : Boxed w4 (w2.heap.size + 1) 45 v := (hb4.block (w2.heap.size + 1) (by have := HV.out.lt; simpa using this)).trans HV.out
          have HV5 := Lib.hid hv5
          have dv := hv5.cell
          have dv5 : ∀ o, (w4.alloc o).cell? ⟨w2.heap.size + 1, 0, none⟩ = some v := fun o => (hv5.alloc o).cell
          clear hv5 hb4
          dsimp only
          refine hK _ _ ?_
          clear hK K
          refine wpAnyIn_ready (rs := [4]) (by kernel_rfl) (by simp) ?_
          refine AllReadyIn.cons rfl (fun K hK => ?_) ?_
          · go_simp
            refine ⟨trivial, ?_⟩
            refine (callsIn_wide.2 (DR.out _)).mono ?_
            rintro e w5 ⟨rfl, rfl⟩
            dsimp only
            refine hK _ _ ?_
            clear hK K
            refine wpAnyIn_ready (rs := [5]) (by kernel_rfl) (by simp) ?_
            refine AllReadyIn.cons rfl (fun K hK => ?_) ?_
            · go_simp
              refine hK _ _ ?_
              clear hK K
              refine wpAnyIn_ready (rs := [6]) (by kernel_rfl) (by simp) ?_
              refine AllReadyIn.cons rfl (fun K hK => ?_) ?_
              · have hrow5 : World.ownsRow _ _ _ _ _ _ _ := owns_below' (HR.out.drew) HB4.out
                have hs5 : w2.heap.size ≤ w4.heap.size := by have := HB4.out.size; have := HV.out.lt; simp at *; omega
                refine stepIn_append_own _ rfl _ _ 45 rfl w2.heap.size 5 i0 (.int .u8 0) 1 1 Try.underlying45 hi hz0 hz1 hz2 rfl (by decide) _ _ _ rfl (hrow5.alloc _) ⟨w4.heap.size, 0, none⟩ 1 1 [.int .u8 ((dgB (bitN x r)).toNat : Int)] rfl rfl (World.news_of_block (cs := #[.int .u8 ((dgB (bitN x r)).toNat : Int)]) (t := 5) (fr := (0, 0)) (heap_alloc_new w4 _)) (by simp [Value.oneCell']) (by unfold maxLen; omega) (by omega) (by simp; omega) ?_
                intro v' w1 hown' hgrow
                have HAP := Lib.hid (Boxed.appended HV5.out (by decide) hrow5 hs5 (by omega) hown' hgrow)
                obtain ⟨g5, cap5, rfl⟩ := ownsRow_succ hown'
                have e5 := HAP.out.1.cell
                have z5 := HAP.out.1.frozen
                clear hgrow hown' hrow5
                refine hK _ _ ?_
                clear hK K
                refine wpAnyIn_ready (rs := [7]) (by kernel_rfl) (by simp) ?_
                refine AllReadyIn.cons rfl (fun K hK => ?_) ?_
                · go_simp
                  refine hK _ _ ?_
                  clear hK K
                  refine wpAnyIn_done (by kernel_rfl) ?_ _
                  obtain ⟨a1, a2, a3, a4, a5⟩ := HAP.out
                  exact ⟨(kot HB4.out).trans a4, ((Below.refl _ W).drew.trans (HB4.out.mono hB.size)).trans (a5.mono hle2), ⟨_, a2, by rw [HS.out, bvals_snoc, HL2.out]; exact a3, trivial⟩, ⟨(a5.cell (p := ⟨w.heap.size, 0, none⟩) hlt2).trans (kcd HB4.out c0), (a5.cell (p := ⟨w.heap.size, 1, none⟩) hlt2).trans (kcd HB4.out c1)⟩, (hB.drew.trans (HB4.out.mono hB.size)).trans (a5.mono hle2)⟩
                exact AllReadyIn.nil
              exact AllReadyIn.nil
            exact AllReadyIn.nil
          exact AllReadyIn.nil
        exact AllReadyIn.nil
      refine AllReadyIn.cons rfl (fun K hK => ?_) ?_
      · go_simp
        refine ⟨trivial, ?_⟩
        refine (callsIn_wide.2 (VR.out _)).mono ?_
        rintro e w4 ⟨rfl, hb4⟩
        have HB4 := Lib.hid hb4
        have hv5 : Boxed w4 (w2.heap.size + 1) 45 v := (hb4.block (w2.heap.size + 1) (by have := HV.out.lt; simpa using this)).trans HV.out
        have HV5 := Lib.hid hv5
        have dv := hv5.cell
        have dv5 : ∀ o, (w4.alloc o).cell? ⟨w2.heap.size + 1, 0, none⟩ = some v := fun o => (hv5.alloc o).cell
        clear hv5 hb4
        dsimp only
        refine hK _ _ ?_
        clear hK K
        refine wpAnyIn_ready (rs := [0, 4]) (by kernel_rfl) (by simp) ?_
        refine AllReadyIn.cons rfl (fun K hK => ?_) ?_
        · go_simp
          refine hK _ _ ?_
          clear hK K
          refine wpAnyIn_ready (rs := [4]) (by kernel_rfl) (by simp) ?_
          refine AllReadyIn.cons rfl (fun K hK => ?_) ?_
          · go_simp
            refine ⟨trivial, ?_⟩
            refine (callsIn_wide.2 (DR.out _)).mono ?_
            rintro e w5 ⟨rfl, rfl⟩
            dsimp only
            refine hK _ _ ?_
            clear hK K
            refine wpAnyIn_ready (rs := [5]) (by kernel_rfl) (by simp) ?_
            refine AllReadyIn.cons rfl (fun K hK => ?_) ?_
            · go_simp
              refine hK _ _ ?_
              clear hK K
              refine wpAnyIn_ready (rs := [6]) (by kernel_rfl) (by simp) ?_
              refine AllReadyIn.cons rfl (fun K hK => ?_) ?_
              · have hrow5 : World.ownsRow _ _ _ _ _ _ _ := owns_below' (HR.out.drew) HB4.out
                have hs5 : w2.heap.size ≤ w4.heap.size := by have := HB4.out.size; have := HV.out.lt; simp at *; omega
                refine stepIn_append_own _ rfl _ _ 45 rfl w2.heap.size 5 i0 (.int .u8 0) 1 1 Try.underlying45 hi hz0 hz1 hz2 rfl (by decide) _ _ _ rfl (hrow5.alloc _) ⟨w4.heap.size, 0, none⟩ 1 1 [.int .u8 ((dgB (bitN x r)).toNat : Int)] rfl rfl (World.news_of_block (cs := #[.int .u8 ((dgB (bitN x r)).toNat : Int)]) (t := 5) (fr := (0, 0)) (heap_alloc_new w4 _)) (by simp [Value.oneCell']) (by unfold maxLen; omega) (by omega) (by simp; omega) ?_
                intro v' w1 hown' hgrow
                have HAP := Lib.hid (Boxed.appended HV5.out (by decide) hrow5 hs5 (by omega) hown' hgrow)
                obtain ⟨g5, cap5, rfl⟩ := ownsRow_succ hown'
                have e5 := HAP.out.1.cell
                have z5 := HAP.out.1.frozen
                clear hgrow hown' hrow5
                refine hK _ _ ?_
                clear hK K
                refine wpAnyIn_ready (rs := [7]) (by kernel_rfl) (by simp) ?_
                refine AllReadyIn.cons rfl (fun K hK => ?_) ?_
                · go_simp
                  refine hK _ _ ?_
                  clear hK K
                  refine wpAnyIn_done (by kernel_rfl) ?_ _
                  obtain ⟨a1, a2, a3, a4, a5⟩ := HAP.out
                  exact ⟨(kot HB4.out).trans a4, ((Below.refl _ W).drew.trans (HB4.out.mono hB.size)).trans (a5.mono hle2), ⟨_, a2, by rw [HS.out, bvals_snoc, HL2.out]; exact a3, trivial⟩, ⟨(a5.cell (p := ⟨w.heap.size, 0, none⟩) hlt2).trans (kcd HB4.out c0), (a5.cell (p := ⟨w.heap.size, 1, none⟩) hlt2).trans (kcd HB4.out c1)⟩, (hB.drew.trans (HB4.out.mono hB.size)).trans (a5.mono hle2)⟩
                exact AllReadyIn.nil
              exact AllReadyIn.nil
            exact AllReadyIn.nil
          exact AllReadyIn.nil
        refine AllReadyIn.cons rfl (fun K hK => ?_) ?_
        · go_simp
          refine ⟨trivial, ?_⟩
          refine (callsIn_wide.2 (DR.out _)).mono ?_
          rintro e w5 ⟨rfl, rfl⟩
          dsimp only
          refine hK _ _ ?_
          clear hK K
          refine wpAnyIn_ready (rs := [0, 5]) (by kernel_rfl) (by simp) ?_
          refine AllReadyIn.cons rfl (fun K hK => ?_) ?_
          · go_simp
            refine hK _ _ ?_
            clear hK K
            refine wpAnyIn_ready (rs := [5]) (by kernel_rfl) (by simp) ?_
            refine AllReadyIn.cons rfl (fun K hK => ?_) ?_
            · go_simp
              refine hK _ _ ?_
              clear hK K
              refine wpAnyIn_ready (rs := [6]) (by kernel_rfl) (by simp) ?_
              refine AllReadyIn.cons rfl (fun K hK => ?_) ?_
              · have hrow5 : World.ownsRow _ _ _ _ _ _ _ := owns_below' (HR.out.drew) HB4.out
                have hs5 : w2.heap.size ≤ w4.heap.size := by have := HB4.out.size; have := HV.out.lt; simp at *; omega
                refine stepIn_append_own _ rfl _ _ 45 rfl w2.heap.size 5 i0 (.int .u8 0) 1 1 Try.underlying45 hi hz0 hz1 hz2 rfl (by decide) _ _ _ rfl (hrow5.alloc _) ⟨w4.heap.size, 0, none⟩ 1 1 [.int .u8 ((dgB (bitN x r)).toNat : Int)] rfl rfl (World.news_of_block (cs := #[.int .u8 ((dgB (bitN x r)).toNat : Int)]) (t := 5) (fr := (0, 0)) (heap_alloc_new w4 _)) (by simp [Value.oneCell']) (by unfold maxLen; omega) (by omega) (by simp; omega) ?_
                intro v' w1 hown' hgrow
                have HAP := Lib.hid (Boxed.appended HV5.out (by decide) hrow5 hs5 (by omega) hown' hgrow)
                obtain ⟨g5, cap5, rfl⟩ := ownsRow_succ hown'
                have e5 := HAP.out.1.cell
                have z5 := HAP.out.1.frozen
                clear hgrow hown' hrow5
                refine hK _ _ ?_
                clear hK K
                refine wpAnyIn_ready (rs := [7]) (by kernel_rfl) (by simp) ?_
                refine AllReadyIn.cons rfl (fun K hK => ?_) ?_
                · go_simp
                  refine hK _ _ ?_
                  clear hK K
                  refine wpAnyIn_done (by kernel_rfl) ?_ _
                  obtain ⟨a1, a2, a3, a4, a5⟩ := HAP.out
                  exact ⟨(kot HB4.out).trans a4, ((Below.refl _ W).drew.trans (HB4.out.mono hB.size)).trans (a5.mono hle2), ⟨_, a2, by rw [HS.out, bvals_snoc, HL2.out]; exact a3, trivial⟩, ⟨(a5.cell (p := ⟨w.heap.size, 0, none⟩) hlt2).trans (kcd HB4.out c0), (a5.cell (p := ⟨w.heap.size, 1, none⟩) hlt2).trans (kcd HB4.out c1)⟩, (hB.drew.trans (HB4.out.mono hB.size)).trans (a5.mono hle2)⟩
                exact AllReadyIn.nil
              exact AllReadyIn.nil
            exact AllReadyIn.nil
          refine AllReadyIn.cons rfl (fun K hK => ?_) ?_
          · go_simp
            refine hK _ _ ?_
            clear hK K
            refine wpAnyIn_ready (rs := [0]) (by kernel_rfl) (by simp) ?_
            refine AllReadyIn.cons rfl (fun K hK => ?_) ?_
            · go_simp
              refine hK _ _ ?_
              clear hK K
              refine wpAnyIn_ready (rs := [6]) (by kernel_rfl) (by simp) ?_
              refine AllReadyIn.cons rfl (fun K hK => ?_) ?_
              · have hrow5 : World.ownsRow _ _ _ _ _ _ _ := owns_below' (HR.out.drew) HB4.out
                have hs5 : w2.heap.size ≤ w4.heap.size := by have := HB4.out.size; have := HV.out.lt; simp at *; omega
                refine stepIn_append_own _ rfl _ _ 45 rfl w2.heap.size 5 i0 (.int .u8 0) 1 1 Try.underlying45 hi hz0 hz1 hz2 rfl (by decide) _ _ _ rfl (hrow5.alloc _) ⟨w4.heap.size, 0, none⟩ 1 1 [.int .u8 ((dgB (bitN x r)).toNat : Int)] rfl rfl (World.news_of_block (cs := #[.int .u8 ((dgB (bitN x r)).toNat : Int)]) (t := 5) (fr := (0, 0)) (heap_alloc_new w4 _)) (by simp [Value.oneCell']) (by unfold maxLen; omega) (by omega) (by simp; omega) ?_
                intro v' w1 hown' hgrow
                have HAP := Lib.hid (Boxed.appended HV5.out (by decide) hrow5 hs5 (by omega) hown' hgrow)
                obtain ⟨g5, cap5, rfl⟩ := ownsRow_succ hown'
                have e5 := HAP.out.1.cell
                have z5 := HAP.out.1.frozen
                clear hgrow hown' hrow5
                refine hK _ _ ?_
                clear hK K
                refine wpAnyIn_ready (rs := [7]) (by kernel_rfl) (by simp) ?_
                refine AllReadyIn.cons rfl (fun K hK => ?_) ?_
                · go_simp
                  refine hK _ _ ?_
                  clear hK K
                  refine wpAnyIn_done (by kernel_rfl) ?_ _
                  obtain ⟨a1, a2, a3, a4, a5⟩ := HAP.out
                  exact ⟨(kot HB4.out).trans a4, ((Below.refl _ W).drew.trans (HB4.out.mono hB.size)).trans (a5.mono hle2), ⟨_, a2, by rw [HS.out, bvals_snoc, HL2.out]; exact a3, trivial⟩, ⟨(a5.cell (p := ⟨w.heap.size, 0, none⟩) hlt2).trans (kcd HB4.out c0), (a5.cell (p := ⟨w.heap.size, 1, none⟩) hlt2).trans (kcd HB4.out c1)⟩, (hB.drew.trans (HB4.out.mono hB.size)).trans (a5.mono hle2)⟩
                exact AllReadyIn.nil
              exact AllReadyIn.nil
            exact AllReadyIn.nil
          exact AllReadyIn.nil
        exact AllReadyIn.nil
      exact AllReadyIn.nil
    exact AllReadyIn.nil
  case done =>
    clear cR hbx hrow s0 s1 hB0 DG
    rintro D ys W hD rfl ⟨⟨v, hv, hrow, _⟩, _, hB⟩ hK
    have hk : (upto r0 R).length + 2 = R + 1 + 1 := by rw [← txtF_len m x, txtF_upto r0 m x R (Nat.le_refl _), txtL_len]
    rw [hk, txtF_upto r0 m x R (Nat.le_refl _)] at hrow
    obtain ⟨g, cap, rfl⟩ := ownsRow_succ hrow
    have dv := hv.cell
    have hcv := run_convert_bytes_back (P := Try.prog) W 45 9 5 ⟨g, 0, none⟩ cap (txtL m x R) Try.underlying45 Try.underlying5 Try.underlying9 (fun j hj => by
      rw [txtL_len] at hj
      have h2 := hrow.cellAt j (by simpa using hj)
      rw [show (⟨g, 0, none⟩ : Addr).add j = ⟨g, j, none⟩ from by simp only [Addr.add, Nat.zero_add]; split <;> simp_all, h2]
      unfold bvals
      rw [List.getElem?_map, List.getElem?_eq_getElem (by rw [txtL_len]; exact hj)]
      rfl)
    rw [txtL_len, show R + 2 = R + 1 + 1 from rfl] at hcv
    clear hk hrow hv
    gi_wp2
    refine ⟨by simp, .inl ⟨_, _, rfl, run_takeDeferred hK, ?_⟩⟩
    refine ⟨.tuple #[.string (txtS m x R), .int .i64 0], by simp [results, Try.results27, go_sem, txtS], rfl, hB.trans (belowK_b (w := w) (Nat.le_refl _) W D _ _ (by omega) hK rfl rfl)⟩
  case stop =>
    rintro D c pre W _ _ h _
    exact h.elim

set_option maxRecDepth 100000 in
set_option maxHeartbeats 1000000 in
theorem implFuncText_no {n b : Int} (h : isF n b = false) (w : World) :
    Calls Try.prog 27 #[.agg #[.int .i64 n, .int .i64 b]] w fun e w' => e = .returned (.tuple #[.string ⟨#[]⟩, .int .i64 1]) ∧ Below w.heap.size w w' := by
  obtain ⟨W1, hW1⟩ : ∃ W1, w.alloc (.cells #[.int .i64 n, .int .i64 b] 26) = W1 := ⟨_, rfl⟩
  have p0 : W1.cell? ⟨w.heap.size, 0, none⟩ = some (.int .i64 n) := by rw [← hW1]; simp [go_sem]
  have p1 : W1.cell? ⟨w.heap.size, 1, none⟩ = some (.int .i64 b) := by rw [← hW1]; simp [go_sem]
  have hB : Below w.heap.size w W1 := by rw [← hW1]; exact bnew _ _
  go_enter Try.func27, Try.ntmps27
  go_wp2_with (first
    | (go_at_call 34; refine (IsFunc_is h _).mono ?_; rintro e w2 ⟨rfl, hb⟩; have hB2 := bthen hB hb))
  go_ret2
  exact ⟨rfl, hB2⟩
end Go.Proofs.Ytkemegiofiemfab
