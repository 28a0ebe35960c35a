/-
  The texts FX1, FX2, FX3, FX4, FX5, FFixVar in one.
-/
import Derived.Test.YthkmapflbopdpaaMPSatisfiedBy1
import Derived.Lib.BufferMore
import Derived.Deep.RegionLaw
import Derived.Deep.RegionHeldLaw
import Derived.Deep.DeepCutAuto
import Derived.Deep.RegionHeld3
import Derived.Deep.Cut

/- FX1:
  Copies of instances: what is appended to a list of clauses; slices.Clone and l01Own at lists of numbers; l09Copy. -/
namespace Go.Proofs.Ythkmapflbopdpaa
open Go.RowKit
set_option linter.unusedVariables false
set_option linter.unusedSimpArgs false

theorem cell_three_new (W : World) (a b c : Value) (t : TypeId) : ∀ (j : Nat) (u : Value), [a, b, c][j]? = some u → (W.alloc (.cells #[a, b, c] t)).cell? ((⟨W.heap.size, 0, none⟩ : Addr).add j) = some u := by
  intro j u h
  match j, h with
  | 0, h => simp at h; subst h; simp [go_sem, Addr.add]
  | 1, h => simp at h; subst h; simp [go_sem, Addr.add]
  | 2, h => simp at h; subst h; simp [go_sem, Addr.add]
theorem one_cell_three (p t : Int) (a : Option Addr) (n c : Nat) : ∀ u ∈ [Value.int .i64 p, Value.int .i64 t, Value.slice a n c], u.oneCell' = true := by
  intro u hu
  simp at hu
  rcases hu with rfl | rfl | rfl <;> rfl
theorem grown_frozen {W W' : World} {row : Option Nat} (hg : W.grownBy W' row) {a : Addr} {u : Value} (hc : W.cell? a = some u) (hf : W.frozen? a = false) (hne : some a.block ≠ row) : W'.frozen? a = false :=
  (World.frozen?_of_block (hg.block a.block (cell_lt hc) hne)).trans hf

/-- A clause is appended, its variables in a block that was made behind all others. -/
theorem OC.snoc {W W2 W3 W4 : World} {lo hi : Nat} {s s' v : Value} {ss : List Value} {cs : List Cl} {c : Cl} (h : OC W lo hi s ss cs) (hb : Below W.heap.size W W2) (ho : Owns W2 W.heap.size v c.vs) (hb3 : Below W2.heap.size W2 W3) (hg : W3.grownBy W4 s.ownBlock)
    (hown : W4.ownsRow lo 74 3 s' (cs.length + 1) (ccells cs ss ++ [.int .i64 c.p, .int .i64 c.t, v])) (hlo : lo ≤ W.heap.size) : OC W4 lo W4.heap.size s' (ss ++ [v]) (cs ++ [c]) := by
  have h3 := (h.below hb).below hb3
  have ho3 := Owns.below ho hb3
  have keep : ∀ {l2 : Nat} {u : Value} {xs : List Int}, Owns W3 l2 u xs → Owns W4 l2 u xs := fun {l2 u xs} hu => by
    refine World.ownsRow.kept hu hg ?_
    cases he : u.ownBlock with
    | none => exact .inl rfl
    | some b => exact .inr fun e => row_ne hu h3.own he e.symm
  have rows : ∀ k, k < (cs ++ [c]).length → Owns W4 lo (sget (ss ++ [v]) k) (cget (cs ++ [c]) k).vs := fun k hk => by
    by_cases hk2 : k < cs.length
    · rw [sget_app_left (by rw [h.len]; exact hk2), cget_app_left hk2]
      exact keep (h3.row k hk2)
    · obtain rfl : k = cs.length := by simp at hk; omega
      rw [cget_app_last, ← h.len, sget_app_last]
      exact keep (Owns.mono ho3 hlo)
  refine ⟨by simp [h.len], by rw [ccells_snoc _ _ _ _ h.len, List.length_append]; exact hown, rows, fun b e => (World.ownsRow.lt hown b e).2, fun k b hk e => (World.ownsRow.lt (rows k hk) b e).2, fun j k b hj hk e1 e2 => ?_, Nat.le_refl _⟩
  have old : ∀ k, k < cs.length → ∀ b, (sget ss k).ownBlock = some b → b < W.heap.size := fun k hk b e => (World.ownsRow.lt (h.row k hk) b e).2
  have new : ∀ b, v.ownBlock = some b → W.heap.size ≤ b := fun b e => (World.ownsRow.lt ho b e).1
  by_cases hj2 : j < cs.length
  · rw [sget_app_left (by rw [h.len]; exact hj2)] at e1
    by_cases hk2 : k < cs.length
    · rw [sget_app_left (by rw [h.len]; exact hk2)] at e2
      exact h.sep j k b hj2 hk2 e1 e2
    · obtain rfl : k = cs.length := by simp at hk; omega
      rw [← h.len, sget_app_last] at e2
      have := old j hj2 b e1
      have := new b e2
      omega
  · obtain rfl : j = cs.length := by simp at hj; omega
    rw [← h.len, sget_app_last] at e1
    by_cases hk2 : k < cs.length
    · rw [sget_app_left (by rw [h.len]; exact hk2)] at e2
      have := old k hk2 b e2
      have := new b e1
      omega
    · simp at hk; omega

theorem ints_at {xs : List Int} {W : World} {g : Nat} (hc : ∀ j, j < xs.length → W.cell? ⟨g, j, none⟩ = some (.int .i64 (vget xs j))) : ∀ (j : Nat) (u : Value), (ints xs)[j]? = some u → W.cell? ((⟨g, 0, none⟩ : Addr).add j) = some u := by
  intro j u hj
  have hjl : j < xs.length := by
    have := (List.getElem?_eq_some_iff.1 hj).1
    simpa [ints] using this
  have hu : u = .int .i64 (vget xs j) := by
    simp [ints, vget, List.getElem?_eq_getElem hjl] at hj ⊢
    exact hj.symm
  rw [hu, show (⟨g, 0, none⟩ : Addr).add j = ⟨g, j, none⟩ by simp [Addr.add]; omega]
  exact hc j hjl

theorem l01Own_o {vs : List Int} (hl : vs.length ≤ 1000) {b : Nat} {g cap : Nat} (w : World) (h : Owns w b (.slice (some ⟨g, 0, none⟩) vs.length cap) vs) (h0 : 0 < vs.length) :
    Calls Try.prog 63 #[.slice (some ⟨g, 0, none⟩) vs.length cap] w fun e w' => ∃ s, e = .returned s ∧ Owns w' w.heap.size s vs ∧ Below w.heap.size w w' := by
  obtain ⟨a, c, e, h1 | ⟨g', e2, hg, hc⟩⟩ := h.cellsV
  · omega
  · simp only [Value.slice.injEq, true_and] at e
    obtain ⟨e1, _⟩ := e
    rw [← e1] at e2
    cases e2
    exact l01Own_nv vs hl ⟨g, 0, none⟩ cap w (ints_at hc.out)

theorem eql_nil_ints2 (w : World) (a : Addr) (n c : Nat) : (binOp .eql 35 (.slice (some a) n c) (.slice none 0 0)).run Try.prog w = .ok (.bool false) w := Go.Lib.run_eql_slice_some_nil w a n c Try.underlying35
attribute [local go_sem] eql_nil_ints2

set_option maxRecDepth 100000 in
set_option maxHeartbeats 2000000 in
theorem clone_o {vs : List Int} (hl : vs.length ≤ 1000) {b : Nat} {g cap : Nat} (w : World) (h : Owns w b (.slice (some ⟨g, 0, none⟩) vs.length cap) vs) (h0 : 0 < vs.length) :
    Calls Try.prog 114 #[.slice (some ⟨g, 0, none⟩) vs.length cap] w fun e w' => ∃ s, e = .returned s ∧ Owns w' w.heap.size s vs ∧ Below w.heap.size w w' := by
  obtain ⟨i0, hi, hz0, hz1, hz2⟩ := info_parts infoI
  obtain ⟨a, c, e, h1 | ⟨g', e2, hg, hc⟩⟩ := h.cellsV
  · omega
  · simp only [Value.slice.injEq, true_and] at e
    obtain ⟨e1, _⟩ := e
    rw [← e1] at e2
    cases e2
    have HC := Lib.hid (ints_at hc.out)
    have hn : (ints vs).length = vs.length * 1 := by simp [ints]
    have hone : ∀ u ∈ ints vs, u.oneCell' = true := by intro u hu; simp [ints] at hu; obtain ⟨z, _, rfl⟩ := hu; rfl
    clear hc h e1
    have HL : Hid (∀ s (W : World), W.ownsRow w.heap.size 2 1 s vs.length (ints vs) → Owns W w.heap.size s vs) := Lib.hid fun s W h => h
    generalize ints vs = us at HC hn hone HL
    generalize vs.length = m at hl h0 hn HL ⊢
    go_enter Try.func114, Try.ntmps114
    go_wp2_with (at_builtin; refine wpList_append_own _ rfl _ _ 35 rfl w.heap.size 2 i0 (.int .i64 0) 1 8 Try.underlying35 hi hz0 hz1 hz2 rfl (by decide) _ 0 [] rfl (World.ownsRow_lit w #[] 0 (Nat.le_refl _) (by decide) rfl) ⟨g, 0, none⟩ m cap us rfl hn (fun j u hj => kc (bnew _ _) (HC.out j u hj)) hone (by unfold maxLen; omega) (by omega) (by simp) ?_)
    intro v' w1 hown hgrow _
    have hB : Below w.heap.size w w1 := (bnew w (.cells #[] 2)).grown hgrow (by simp) (fun j e => by cases e; exact Nat.le_refl _)
    have HO := Lib.hid (HL.out _ _ hown)
    clear hown hgrow
    go_wp2
    go_ret
    exact ⟨_, rfl, HO.out, hB⟩

/-- An append to a list of one's own, within a region that draws. -/
theorem step_append_cl {P : Program} (w : World) {ops : Array Oper} {o : Oper} {a : Act} {K : Act → World → Prop} {Q : Exit → Act → World → Prop} {E : Prop}
    (hg : o.guard = none) (s x : Operand) (t : TypeId) (hop : o.op = Op.call { callee := Callee.builtin Builtin.append, args := #[s, x], argTypes := #[t, t] })
    (base : Nat) (e : TypeId) (i : TypeInfo) (z : Value) (size bytes : Nat) (h1 : P.underlying t = some (.slice e)) (h2 : P.info? e = some i) (h3 : i.zero = some z) (h4 : i.size = size) (h5 : i.bytes = bytes) (h6 : z.cells.size = size) (h7 : 0 < size)
    (v : Value) (k : Nat) (xs : List Value) (hs : a.eval s = v) (hown : w.ownsRow base e size v k xs) (ad : Addr) (m c : Nat) (news : List Value) (hx : a.eval x = .slice (some ad) m c) (hn : news.length = m * size)
    (hc : ∀ j u, news[j]? = some u → w.cell? (ad.add j) = some u) (h1c : ∀ u ∈ news, u.oneCell' = true) (b1 : k + m ≤ maxLen) (b2 : (k + m) * bytes ≤ 140737488355328) (b3 : base ≤ w.heap.size)
    (hK : ∀ v' w', w'.ownsRow base e size v' (k + m) (xs ++ news) → w.grownBy w' v.ownBlock → K (a.put o.dst v') w') :
    if Region.wanted o (yielded ops a.tmps) = true then Oper.wp P o a w K Q else E := by
  rw [if_pos (by simp [Region.wanted, hg])]
  obtain ⟨v', w', hrun, r1, r2, _⟩ := run_append_own (P := P) w base t o.type e i z size bytes h1 h2 h3 h4 h5 h6 h7 v k xs hown ad m c news hn hc h1c b1 b2 b3
  unfold Oper.wp
  simp [execOp, hop, resolve, invoke, builtin, hs, hx, hrun, Result.andThen]
  exact hK _ _ r1 r2

set_option maxRecDepth 100000 in
set_option maxHeartbeats 8000000 in
theorem l09Copy_any {m : Int} {cs : List Cl} (hI : isI m cs = true) {s : Value} (w : World) (h : AtC w s cs) :
    Calls Try.prog 70 #[.agg #[.int .i64 m, s]] w fun e w' => ∃ a cap ss, e = .returned (.slice a cs.length cap) ∧ OC w' w.heap.size w'.heap.size (.slice a cs.length cap) ss cs ∧ Below w.heap.size w w' := by
  obtain ⟨i0, hi, hz0, hz1, hz2⟩ := info_parts infoC
  obtain ⟨m0, m8, h12, hcl⟩ := isI_parts hI
  obtain ⟨sa, cap, hs, _⟩ := id h
  subst hs
  obtain ⟨W1, hW1⟩ : ∃ W1, w.alloc (.cells #[.int .i64 m, .slice sa cs.length cap] 29) = W1 := ⟨_, rfl⟩
  have p1 : W1.cell? ⟨w.heap.size, 1, none⟩ = some (.slice sa cs.length cap) := by rw [← hW1]; simp [go_sem]
  have hB : Below w.heap.size w W1 := by rw [← hW1]; exact bnew _ _
  have HAT := Lib.hid h
  have HCL := Lib.hid hcl
  have hwl : w.heap.size ≤ W1.heap.size := hB.size
  clear h hcl hI
  generalize hn : cs.length = n at h12 p1 HAT HCL hW1 ⊢
  have HN := Lib.hid hn
  clear hn
  go_enter Try.func70, Try.ntmps70
  go_wp2
  clear hW1
  go_loopw [3, 4] (fun v' i' wr => ∃ (i : Nat) (ss : List Value) (xa : Option Addr) (xc hi : Nat), i ≤ n ∧ i' = .int .i64 i ∧ v' = .slice xa i xc ∧ OC wr W1.heap.size hi v' ss (cs.take i) ∧ Below W1.heap.size W1 wr) (fun _ i' _ => n - (intOf i').toNat)
  case atStart => exact ⟨0, [], _, _, _, by omega, rfl, rfl, ⟨rfl, World.ownsRow_lit W1 #[] 0 (Nat.le_refl _) (by decide) rfl, fun k hk => absurd hk (by simp), fun b e => by simp only [Value.ownBlock, Option.some.injEq] at e; subst e; simp, fun k b hk => absurd hk (by simp), fun j k b hj => absurd hj (by simp), Nat.le_refl _⟩, bnew _ _⟩
  case round =>
    obtain ⟨i, ss, xa, xc, hi2, hin, rfl, rfl, hOC, hN⟩ := hrel
    have q1 := kc hN p1
    by_cases hlt : i < n
    · have hbig := bthen hB hN
      obtain ⟨g, v, b, rfl, c0, c1, c2, ho⟩ := (HAT.out).row HN.out hlt
      obtain ⟨y, R', hy, ok⟩ := cok (HCL.out i hlt)
      have e0 := kc hbig c0
      have e1 := kc hbig c1
      have e2 := kc hbig c2
      have i00 : (0 : Int) ≤ (i : Int) := by omega
      have i11 : (i : Int) < (n : Int) := by omega
      have hti : (cs.take i).length = i := by rw [List.length_take]; have := HN.out; omega
      have hts : cs.take (i + 1) = cs.take i ++ [cget cs i] := by
        have := HN.out
        rw [List.take_succ_eq_append_getElem (by omega), cget, List.getElem?_eq_getElem (by omega)]; rfl
      have HTS := Lib.hid hts
      have hv1 : 0 < (cget cs i).vs.length := by have h1 := ok.len; have h2 := ok.rel.h1; omega
      have hv4 : (cget cs i).vs.length ≤ 4 := ok.four.1
      have hO := ho.below hbig
      obtain ⟨k2, hk2⟩ : ∃ k, (cget cs i).vs.length = k + 1 := ⟨(cget cs i).vs.length - 1, by omega⟩
      obtain ⟨va, vc, hvv⟩ := ho.slice
      obtain ⟨vg, hvg⟩ : ∃ vg, va = some ⟨vg, 0, none⟩ := by
        obtain ⟨_, ⟨e, hz⟩ | ⟨g', cap', cur, e, _⟩⟩ := ho
        · omega
        · rw [e] at hvv; simp only [Value.slice.injEq] at hvv; exact ⟨g', hvv.1.symm⟩
      subst hvg
      subst hvv
      have OWN := Lib.hid (fun (V : World) (hV : Below wr.heap.size wr V) => l01Own_o (show (cget cs i).vs.length ≤ 1000 by omega) V (hO.below hV) hv1)
      have HOC := Lib.hid hOC
      have how : World.ownsRow _ _ _ _ _ _ _ := hOC.own
      rw [hti] at how
      have HOW := Lib.hid how
      have HTI := Lib.hid hti
      have hloW := hN.size
      have HNB := Lib.hid hN
      have hND := hN.drew
      clear c0 c1 c2 ho hO hy ok hts hti how hOC hk2
      have HCG : Hid (cget cs i = ⟨(cget cs i).p, (cget cs i).t, (cget cs i).vs⟩) := Lib.hid rfl
      generalize (cget cs i).vs = vs at *
      generalize (cget cs i).p = pp at *
      generalize (cget cs i).t = tt at *
      generalize hL : vs.length = L at *
      have HLV := Lib.hid hL
      clear hL
      go_wp2
      go_region_law (first
        | (refine step_append_cl _ rfl _ _ 27 rfl W1.heap.size 74 i0 (.agg #[.int .i64 0, .int .i64 0, .slice none 0 0]) 3 40 Try.underlying27 hi hz0 hz1 hz2 rfl (by decide) _ _ _ rfl (OW6.alloc _) ⟨w6.heap.size, 0, none⟩ 1 1 [.int .i64 pp, .int .i64 tt, .slice a6 L c6] rfl rfl (cell_three_new _ _ _ _ _) (one_cell_three _ _ _ _ _) (by unfold maxLen; omega) (by omega) (by simp; omega) ?_; intro v' w9 hown' hgrow; obtain ⟨g9, cap9, rfl⟩ := ownsRow_succ hown')
        | (go_simp; go_at_call 63; refine (OWN.out _ (by first | exact (Below.refl _ _).drew | exact Below.refl _ _)).mono ?_; rintro e w6 ⟨s6, rfl, O6, hb6⟩; obtain ⟨a6, c6, hs6⟩ := O6.slice; rw [HLV.out] at hs6; subst hs6; have q6 := kcd hb6 q1; have f0 := kcd hb6 e0; have f1 := kcd hb6 e1; have N6 := bthen hND hb6; have hs6 := N6.size; have OW6 : World.ownsRow _ _ _ _ _ _ _ := owns_below (show wr.drew.ownsRow _ _ _ _ _ _ from HOW.out) hb6))
      all_goals
        have HFIN : Hid (OC w9 W1.heap.size w9.heap.size (.slice (some ⟨g9, 0, none⟩) (i + 1) cap9) (ss ++ [.slice a6 L c6]) (cs.take (i + 1)) ∧ Below W1.heap.size W1 w9) := Lib.hid ⟨by
          rw [HTS.out, HCG.out]
          refine OC.snoc (W := wr) (W2 := w6) (W3 := w6.alloc _) HOC.out ((Below.refl _ _).drew.trans (hb6.mono (Nat.le_refl _))) ?_ (bnew _ _) hgrow (by rw [HTI.out]; exact hown') hloW
          exact O6, (balloc N6 _).grown hgrow (by simp; omega) (fun j e => (OW6.lt j e).1)⟩
        clear hown' hgrow OW6 N6 O6 hb6 q6 f0 f1
        go_wp2
        go_roundw
        case rel => exact ⟨i + 1, _, _, _, _, by omega, by go_num, rfl, HFIN.out.1, HFIN.out.2⟩
        case measure => simp [intOf]; omega
    · obtain rfl : i = n := by omega
      have ht : cs.take i = cs := List.take_of_length_le (by have := HN.out; omega)
      rw [ht] at hOC
      have HOC := Lib.hid (hOC.mono hwl).full
      have HNN := Lib.hid (bthen hB hN)
      clear hOC
      go_wp2
      go_ret
      exact ⟨_, _, ss, rfl, HOC.out, HNN.out⟩
end Go.Proofs.Ythkmapflbopdpaa

/- FX2:
  Copies of instances in the program. -/
namespace Go.Proofs.Ythkmapflbopdpaa
open Go.RowKit
set_option linter.unusedVariables false
set_option linter.unusedSimpArgs false

/-- A box of an instance that may be written. -/
structure BX2 (W : World) (b : Nat) (m : Int) (v : Value) : Prop where
  c0 : W.cell? ⟨b, 0, none⟩ = some (.int .i64 m)
  c1 : W.cell? ⟨b, 1, none⟩ = some v
  f0 : W.frozen? ⟨b, 0, none⟩ = false
  f1 : W.frozen? ⟨b, 1, none⟩ = false
theorem BX2.below {W W' : World} {b : Nat} {m : Int} {v : Value} (h : BX2 W b m v) (hb : Below W.heap.size W W') : BX2 W' b m v := ⟨kc hb h.c0, kc hb h.c1, kf hb h.c0 h.f0, kf hb h.c1 h.f1⟩
theorem BX2.lt {W : World} {b : Nat} {m : Int} {v : Value} (h : BX2 W b m v) : b < W.heap.size := cell_lt h.c0
theorem BX2.grown {W W' : World} {b : Nat} {m : Int} {v : Value} {row : Option Nat} (h : BX2 W b m v) (hg : W.grownBy W' row) (hne : some b ≠ row) : BX2 W' b m v :=
  ⟨hg.cell h.c0 hne, hg.cell h.c1 hne, grown_frozen hg h.c0 h.f0 hne, grown_frozen hg h.c1 h.f1 hne⟩
theorem BX2.set {W : World} {b : Nat} {m : Int} {v : Value} (h : BX2 W b m v) (v' : Value) : BX2 (W.setCell ⟨b, 1, none⟩ v') b m v' := by
  refine ⟨?_, ?_, ?_, ?_⟩
  · simp [go_sem, h.c0]
  · simp [go_sem, h.c1]
  · simp [go_sem, h.f0]
  · simp [go_sem, h.f1]
theorem BX2.other {W : World} {b : Nat} {m : Int} {v : Value} (h : BX2 W b m v) {b' : Nat} (hb : b ≠ b') (j : Nat) (u : Value) : BX2 (W.setCell ⟨b', j, none⟩ u) b m v :=
  ⟨(World.cell?_of_block (Below.heap_setCell _ _ _ _ hb)).trans h.c0, (World.cell?_of_block (Below.heap_setCell _ _ _ _ hb)).trans h.c1, (World.frozen?_of_block (Below.heap_setCell _ _ _ _ hb)).trans h.f0, (World.frozen?_of_block (Below.heap_setCell _ _ _ _ hb)).trans h.f1⟩
theorem OC.set {W : World} {lo hi : Nat} {s : Value} {ss : List Value} {cs : List Cl} (h : OC W lo hi s ss cs) {b : Nat} (hb : b < lo) (j : Nat) (u : Value) : OC (W.setCell ⟨b, j, none⟩ u) lo hi s ss cs :=
  h.same (by simp [World.setCell]) fun k h1 _ _ => Below.heap_setCell _ _ _ _ (by show k ≠ b; omega)

set_option maxRecDepth 100000 in
set_option maxHeartbeats 8000000 in
theorem copied_any {m : Int} {cs : List Cl} (hI : isI m cs = true) {s : Value} (w : World) (h : AtC w s cs) :
    Calls Try.prog 72 #[.agg #[.int .i64 m, s]] w fun e w' => ∃ a cap ss, e = .returned (.agg #[.int .i64 m, .slice a cs.length cap]) ∧ OC w' w.heap.size w'.heap.size (.slice a cs.length cap) ss cs ∧ Below w.heap.size w w' := by
  obtain ⟨i0, hi, hz0, hz1, hz2⟩ := info_parts infoC
  obtain ⟨m0, m8, h12, hcl⟩ := isI_parts hI
  obtain ⟨sa, cap, hs, hs2⟩ := id h
  subst hs
  obtain ⟨W1, hW1⟩ : ∃ W1, ((w.alloc (.cells #[.int .i64 m, .slice sa cs.length cap] 29)).alloc (.cells #[.int .i64 0, .slice none 0 0] 29)).alloc (.cells #[.int .i64 m, .slice none 0 0] 29) = W1 := ⟨_, rfl⟩
  have p0 : W1.cell? ⟨w.heap.size, 0, none⟩ = some (.int .i64 m) := by rw [← hW1]; simp [go_sem]
  have p1 : W1.cell? ⟨w.heap.size, 1, none⟩ = some (.slice sa cs.length cap) := by rw [← hW1]; simp [go_sem]
  have x2 : BX2 W1 (w.heap.size + 1) 0 (.slice none 0 0) := by rw [← hW1]; exact ⟨by simp [go_sem], by simp [go_sem], by simp [go_sem], by simp [go_sem]⟩
  have x3 : BX2 W1 (w.heap.size + 1 + 1) m (.slice none 0 0) := by rw [← hW1]; exact ⟨by simp [go_sem], by simp [go_sem], by simp [go_sem], by simp [go_sem]⟩
  have hB : Below w.heap.size w W1 := by rw [← hW1]; exact balloc (balloc (bnew _ _) _) _
  have hsz : W1.heap.size = w.heap.size + 3 := by rw [← hW1]; simp [go_sem]
  have HX2 := Lib.hid x2
  have HX3 := Lib.hid x3
  have HAT := Lib.hid h
  have HCL := Lib.hid hcl
  have HSZ := Lib.hid hsz
  have ff0 := x3.f0
  have ff1 := x3.f1
  have fc0 := x3.c0
  have fc1 := x3.c1
  clear h hcl hI x2 x3 hsz hs2
  generalize hn : cs.length = n at h12 p1 HAT HCL hW1 ⊢
  have HN := Lib.hid hn
  clear hn
  go_enter Try.func72, Try.ntmps72
  go_wp2
  clear hW1 p0 p1 ff0 ff1 fc0 fc1
  obtain ⟨B, hBe⟩ : ∃ B, B = W1.heap.size := ⟨_, rfl⟩
  have HSB : Hid (B = w.heap.size + 3) := Lib.hid (hBe.trans HSZ.out)
  have HE : OC W1 B W1.heap.size (.slice none 0 0) [] [] := hBe ▸ OC.empty W1 W1.heap.size
  clear hBe HSZ
  go_loopw [12] (fun i' wr => ∃ (i : Nat) (ss : List Value) (xa : Option Addr) (xc hi : Nat), i ≤ n ∧ i' = .int .i64 i ∧ Hid (BX2 wr (w.heap.size + 1 + 1) m (.slice xa i xc)) ∧ Hid (BX2 wr (w.heap.size + 1) 0 (.slice none 0 0)) ∧ Hid (OC wr B hi (.slice xa i xc) ss (cs.take i)) ∧ Below w.heap.size w wr) (fun i' _ => n - (intOf i').toNat)
  case atStart => exact ⟨0, [], none, 0, _, by omega, rfl, Lib.hid ((HX3.out).set _), Lib.hid ((HX2.out).other (by omega) _ _), Lib.hid (HE.set (by have := HSB.out; omega) _ _), hB.setCell (p := ⟨w.heap.size + 1 + 1, 1, none⟩) (by show _ ≤ w.heap.size + 1 + 1; omega) _⟩
  case round =>
    clear HX2 HX3 HE hB
    obtain ⟨i, ss, xa, xc, hi2, hin, rfl, HX3, HX2, HOC, hN⟩ := hrel
    by_cases hlt : i < n
    · obtain ⟨g, v, b, rfl, c0, c1, c2, ho⟩ := (HAT.out).row HN.out hlt
      obtain ⟨y, R', hy, ok⟩ := cok (HCL.out i hlt)
      have e0 := kc hN c0
      have e1 := kc hN c1
      have e2 := kc hN c2
      have hti : (cs.take i).length = i := by rw [List.length_take]; have := HN.out; omega
      have hts : cs.take (i + 1) = cs.take i ++ [cget cs i] := by
        have := HN.out
        rw [List.take_succ_eq_append_getElem (by omega), cget, List.getElem?_eq_getElem (by omega)]; rfl
      have HTS := Lib.hid hts
      have hv1 : 0 < (cget cs i).vs.length := by have h1 := ok.len; have h2 := ok.rel.h1; omega
      have hv4 : (cget cs i).vs.length ≤ 4 := ok.four.1
      have hO := ho.below hN
      obtain ⟨va, vc, hvv⟩ := ho.slice
      obtain ⟨vg, hvg⟩ : ∃ vg, va = some ⟨vg, 0, none⟩ := by
        obtain ⟨_, ⟨e, hz⟩ | ⟨g', cap', cur, e, _⟩⟩ := ho
        · omega
        · rw [e] at hvv; simp only [Value.slice.injEq] at hvv; exact ⟨g', hvv.1.symm⟩
      subst hvg
      subst hvv
      have HCG : Hid (cget cs i = ⟨(cget cs i).p, (cget cs i).t, (cget cs i).vs⟩) := Lib.hid rfl
      obtain ⟨W2, hW2⟩ : ∃ W2, wr.alloc (.cells #[.int .i64 (cget cs i).p, .int .i64 (cget cs i).t, .slice (some ⟨vg, 0, none⟩) (cget cs i).vs.length vc] 74) = W2 := ⟨_, rfl⟩
      have hB2 : Below wr.heap.size wr W2 := by rw [← hW2]; exact bnew _ _
      have r0 : W2.cell? ⟨wr.heap.size, 0, none⟩ = some (.int .i64 (cget cs i).p) := by rw [← hW2]; simp [go_sem]
      have r1 : W2.cell? ⟨wr.heap.size, 1, none⟩ = some (.int .i64 (cget cs i).t) := by rw [← hW2]; simp [go_sem]
      have r2 : W2.cell? ⟨wr.heap.size, 2, none⟩ = some (.slice (some ⟨vg, 0, none⟩) (cget cs i).vs.length vc) := by rw [← hW2]; simp [go_sem]
      have CLN := Lib.hid (fun (V : World) (hV : Below W2.heap.size W2 V) => clone_o (show (cget cs i).vs.length ≤ 1000 by omega) V ((hO.below hB2).below hV) hv1)
      have HOC2 := Lib.hid ((HOC.out).below hB2)
      have HY3 := Lib.hid ((HX3.out).below hB2)
      have HY2 := Lib.hid ((HX2.out).below hB2)
      have z0 := (HY3.out).c0
      have z1 := (HY3.out).c1
      have how : World.ownsRow _ _ _ _ _ _ _ := (HOC2.out).own
      rw [hti] at how
      have HOW := Lib.hid how
      have HTI := Lib.hid hti
      have hN2 := bthen hN hB2
      have hND := hN2.drew
      have hs2 := hN2.size
      have hbw : w.heap.size + 1 + 1 < W2.heap.size := (HY3.out).lt
      have hloW : Hid (B ≤ W2.heap.size) := Lib.hid (by have := HSB.out; omega)
      clear c0 c1 c2 ho hO hy ok hts hti how
      generalize (cget cs i).vs = vs at *
      generalize (cget cs i).p = pp at *
      generalize (cget cs i).t = tt at *
      generalize hL : vs.length = L at *
      have HLV := Lib.hid hL
      clear hL
      go_wp2
      clear hW2 e0 e1 e2
      go_region_law (first
        | (refine step_append_cl _ rfl _ _ 27 rfl B 74 i0 (.agg #[.int .i64 0, .int .i64 0, .slice none 0 0]) 3 40 Try.underlying27 hi hz0 hz1 hz2 rfl (by decide) _ _ _ rfl (OW6.alloc _) ⟨w6.heap.size, 0, none⟩ 1 1 [.int .i64 pp, .int .i64 tt, .slice a6 L c6] rfl rfl (cell_three_new _ _ _ _ _) (one_cell_three _ _ _ _ _) (by unfold maxLen; omega) (by omega) (by simp; omega) ?_; intro v' w9 hown' hgrow; obtain ⟨g9, cap9, rfl⟩ := ownsRow_succ hown'; have Y9 := Lib.hid (((Y6.out).below (bnew _ _)).grown hgrow (fun e => by have := (OW6.lt _ e.symm).1; omega)); have x9 := (Y9.out).c0; have x9' := (Y9.out).c1; have x9f := (Y9.out).f1)
        | (go_simp; go_at_call 114; refine (CLN.out _ (by first | exact (Below.refl _ _).drew | exact Below.refl _ _)).mono ?_; rintro e w6 ⟨s6, rfl, O6, hb6⟩; obtain ⟨a6, c6, hs6⟩ := O6.slice; rw [HLV.out] at hs6; subst hs6; have q6 := kcd hb6 z0; have q6' := kcd hb6 z1; have f0 := kcd hb6 r0; have f1 := kcd hb6 r1; have N6 := bthen hND hb6; have hs6 := N6.size; have OW6 : World.ownsRow _ _ _ _ _ _ _ := owns_below (show W2.drew.ownsRow _ _ _ _ _ _ from HOW.out) hb6; have hbx : Below W2.heap.size W2 w6 := (Below.refl _ _).drew.trans (hb6.mono (Nat.le_refl _)); have Y6 := Lib.hid ((HY3.out).below hbx); have hB6 : B ≤ w6.heap.size := Nat.le_trans hloW.out hbx.size; have hB6' : w.heap.size + 1 + 1 < B := (by have := HSB.out; omega); have hlt6 : w.heap.size + 1 + 1 < w6.heap.size := (Y6.out).lt; have hne6 : ¬ w.heap.size + 1 + 1 = w6.heap.size := (by omega)))
      all_goals
        have HFIN : Hid (OC w9 B w9.heap.size (.slice (some ⟨g9, 0, none⟩) (i + 1) cap9) (ss ++ [.slice a6 L c6]) (cs.take (i + 1)) ∧ Below w.heap.size w w9) := Lib.hid ⟨by
          rw [HTS.out, HCG.out]
          refine OC.snoc (W := W2) (W2 := w6) (W3 := w6.alloc _) HOC2.out hbx ?_ (bnew _ _) hgrow (by rw [HTI.out]; exact hown') hloW.out
          exact O6, (balloc N6 _).grown hgrow (by simp; omega) (fun j e => by have := (OW6.lt j e).1; omega)⟩
        have HY9 : Hid (BX2 w9 (w.heap.size + 1) 0 (.slice none 0 0)) := Lib.hid ((((HY2.out).below hbx).below (bnew _ _)).grown hgrow (fun e => by have := (OW6.lt _ e.symm).1; omega))
        clear hown' hgrow OW6 N6 O6 hb6 q6 q6' f0 f1
        go_wp2
        go_roundw
        case rel => exact ⟨i + 1, _, _, _, _, by omega, by go_num, Lib.hid ((Y9.out).set _), Lib.hid ((HY9.out).other (by omega) _ _), Lib.hid ((HFIN.out.1).set (by have := HSB.out; omega) _ _), (HFIN.out.2).setCell (p := ⟨w.heap.size + 1 + 1, 1, none⟩) (by show _ ≤ w.heap.size + 1 + 1; omega) _⟩
        case measure => simp [intOf]; omega
    · obtain rfl : i = n := by omega
      have ht : cs.take i = cs := List.take_of_length_le (by have := HN.out; omega)
      rw [ht] at HOC
      have z0 := (HX3.out).c0
      have z1 := (HX3.out).c1
      have y0 := (HX2.out).c0
      have y1 := (HX2.out).c1
      have y2 := (HX2.out).f0
      have y3 := (HX2.out).f1
      go_wp2
      refine bodyPost_ret (v := .agg #[.int .i64 m, .slice xa i xc]) (by simp [results, Try.results72, go_sem, y0, y1]) rfl ⟨_, _, ss, rfl, ?_, ?_⟩
      · have hlo := HSB.out
        exact (((HOC.out).set (show w.heap.size + 1 < B by omega) 0 _).set (show w.heap.size + 1 < B by omega) 1 _).full.mono (by omega)
      · exact (hN.setCell (p := ⟨w.heap.size + 1, 0, none⟩) (by show _ ≤ w.heap.size + 1; omega) _).setCell (p := ⟨w.heap.size + 1, 1, none⟩) (by show _ ≤ w.heap.size + 1; omega) _
end Go.Proofs.Ythkmapflbopdpaa

/- FX3:
  FixVar: the model. -/
namespace Go.Proofs.Ythkmapflbopdpaa
open Go.RowKit
set_option linter.unusedVariables false
set_option linter.unusedSimpArgs false

/-- A clause is appended, its variables in a block that was made ahead of the table. -/
theorem OC.snocB {W3 W4 : World} {lo lo' hi : Nat} {s s' v : Value} {ss : List Value} {cs : List Cl} {c : Cl} (h3 : OC W3 lo hi s ss cs) (hl : lo' ≤ lo) (ho3 : Owns W3 lo' v c.vs) (hf : ∀ b, v.ownBlock = some b → b < lo) (hg : W3.grownBy W4 s.ownBlock)
    (hown : W4.ownsRow lo' 74 3 s' (cs.length + 1) (ccells cs ss ++ [.int .i64 c.p, .int .i64 c.t, v])) : OC W4 lo' W4.heap.size s' (ss ++ [v]) (cs ++ [c]) := by
  have keep : ∀ {l2 : Nat} {u : Value} {xs : List Int}, Owns W3 l2 u xs → Owns W4 l2 u xs := fun {l2 u xs} hu => by
    refine World.ownsRow.kept hu hg ?_
    cases he : u.ownBlock with
    | none => exact .inl rfl
    | some b => exact .inr fun e => row_ne hu h3.own he e.symm
  have rows : ∀ k, k < (cs ++ [c]).length → Owns W4 lo' (sget (ss ++ [v]) k) (cget (cs ++ [c]) k).vs := fun k hk => by
    by_cases hk2 : k < cs.length
    · rw [sget_app_left (by rw [h3.len]; exact hk2), cget_app_left hk2]
      exact keep (Owns.mono (h3.row k hk2) hl)
    · obtain rfl : k = cs.length := by simp at hk; omega
      rw [cget_app_last, ← h3.len, sget_app_last]
      exact keep ho3
  refine ⟨by simp [h3.len], by rw [ccells_snoc _ _ _ _ h3.len, List.length_append]; exact hown, rows, fun b e => (World.ownsRow.lt hown b e).2, fun k b hk e => (World.ownsRow.lt (rows k hk) b e).2, fun j k b hj hk e1 e2 => ?_, Nat.le_refl _⟩
  have old : ∀ k, k < cs.length → ∀ b, (sget ss k).ownBlock = some b → lo ≤ b := fun k hk b e => (World.ownsRow.lt (h3.row k hk) b e).1
  by_cases hj2 : j < cs.length
  · rw [sget_app_left (by rw [h3.len]; exact hj2)] at e1
    by_cases hk2 : k < cs.length
    · rw [sget_app_left (by rw [h3.len]; exact hk2)] at e2
      exact h3.sep j k b hj2 hk2 e1 e2
    · obtain rfl : k = cs.length := by simp at hk; omega
      rw [← h3.len, sget_app_last] at e2
      have := old j hj2 b e1
      have := hf b e2
      omega
  · obtain rfl : j = cs.length := by simp at hj; omega
    rw [← h3.len, sget_app_last] at e1
    by_cases hk2 : k < cs.length
    · rw [sget_app_left (by rw [h3.len]; exact hk2)] at e2
      have := old k hk2 b e2
      have := hf b e1
      omega
    · simp at hk; omega

theorem InstPost.zero {w w' : World} {c : Int} (hb : Below w.heap.size w w') : InstPost 0 [] c w (.returned (.tuple #[.agg #[.int .i64 0, .slice none 0 0], .int .i64 c])) w' :=
  ⟨none, 0, [], rfl, (OC.empty w' w.heap.size).full, hb⟩

theorem boxes2 (m : Int) (s : Value) (w : World) : ∃ W1, (w.alloc (.cells #[.int .i64 m, s] 29)).alloc (.cells #[.int .i64 0, .slice none 0 0] 29) = W1 ∧
    (W1.cell? ⟨w.heap.size, 0, none⟩ = some (.int .i64 m) ∧ W1.cell? ⟨w.heap.size, 1, none⟩ = some s) ∧ BX2 W1 (w.heap.size + 1) 0 (.slice none 0 0) ∧ Below w.heap.size w W1 :=
  ⟨_, rfl, ⟨by simp [go_sem], by simp [go_sem]⟩, ⟨by simp [go_sem], by simp [go_sem], by simp [go_sem], by simp [go_sem]⟩, balloc (bnew _ _) _⟩

set_option maxRecDepth 100000 in
set_option maxHeartbeats 4000000 in
theorem specFixVar_no {m : Int} {cs : List Cl} (hl : cs.length ≤ 1048576) (hr : ∀ k, k < cs.length → (cget cs k).vs.length ≤ 1048576) (hI : isI m cs = false) (v val : Int) {s : Value} (w : World) (h : AtC w s cs) :
    Calls Try.prog 32 #[.agg #[.int .i64 m, s], .int .i64 v, .int .i64 val] w (InstPost 0 [] 1 w) := by
  obtain ⟨sa, cap, hs, _⟩ := id h
  obtain ⟨W1, hW1, ⟨p0, p1⟩, x2, hB⟩ := boxes2 m s w
  have II := Lib.hid (l09Is_any hl hr hI W1 (h.below hB))
  subst hs
  have HX2 := Lib.hid x2
  clear h hr hI x2
  go_enter Try.func32, Try.ntmps32
  go_wp2_with (go_at_call 51; refine (II.out).mono ?_; rintro e w5 ⟨rfl, hb5⟩; have Y := (HX2.out).below hb5; have y0 := Y.c0; have y1 := Y.c1; have y2 := Y.f0; have y3 := Y.f1; have hB5 := bthen hB hb5; clear Y)
  refine bodyPost_ret (v := .tuple #[.agg #[.int .i64 0, .slice none 0 0], .int .i64 1]) ?_ rfl ?_
  · simp [results, Try.results32, go_sem, y0, y1]
  apply InstPost.zero
  exact (hB5.setCell (p := ⟨w.heap.size + 1, 0, none⟩) (by show _ ≤ w.heap.size + 1; omega) _).setCell (p := ⟨w.heap.size + 1, 1, none⟩) (by show _ ≤ w.heap.size + 1; omega) _

set_option maxRecDepth 100000 in
set_option maxHeartbeats 4000000 in
theorem specFixVar_out {m : Int} {cs : List Cl} (hI : isI m cs = true) {v val : Int} {x y : Bool} (hv : inB v 0 (m - 1) = x) (hval : inB val 0 1 = y) (hxy : (x && y) = false) {s : Value} (w : World) (h : AtC w s cs) :
    Calls Try.prog 32 #[.agg #[.int .i64 m, s], .int .i64 v, .int .i64 val] w (InstPost 0 [] 2 w) := by
  obtain ⟨sa, cap, hs, _⟩ := id h
  obtain ⟨m0, m8, h12, _⟩ := isI_parts hI
  obtain ⟨W1, hW1, ⟨p0, p1⟩, x2, hB⟩ := boxes2 m s w
  have II := Lib.hid (l09Is_any (by omega) (fun k hk => by have := isI_rows hI k hk; omega) hI W1 (h.below hB))
  have hwm : IntKind.i64.wrap (m - 1) = m - 1 := wrap64_near (by omega) (by omega)
  subst hs
  have HX2 := Lib.hid x2
  clear h hI x2
  cases x
  case' true => cases y
  case' true.true => simp at hxy
  all_goals
    clear hxy
    go_enter Try.func32, Try.ntmps32
    go_wp2_with (first
      | (go_at_call 51; refine (II.out).mono ?_; rintro e w5 ⟨rfl, hb5⟩; have q0 := kc hb5 p0; have Y := (HX2.out).below hb5; have y0 := Y.c0; have y1 := Y.c1; have y2 := Y.f0; have y3 := Y.f1; have hB5 := bthen hB hb5; clear Y)
      | (go_at_call 62; with_reducible refine (l01In_is hv _).mono ?_; rintro e w' ⟨rfl, rfl⟩)
      | (go_at_call 62; with_reducible refine (l01In_is hval _).mono ?_; rintro e w' ⟨rfl, rfl⟩))
    refine bodyPost_ret (v := .tuple #[.agg #[.int .i64 0, .slice none 0 0], .int .i64 2]) ?_ rfl ?_
    · simp [results, Try.results32, go_sem, y0, y1]
    apply InstPost.zero
    exact (hB5.setCell (p := ⟨w.heap.size + 1, 0, none⟩) (by show _ ≤ w.heap.size + 1; omega) _).setCell (p := ⟨w.heap.size + 1, 1, none⟩) (by show _ ≤ w.heap.size + 1; omega) _

set_option maxRecDepth 100000 in
set_option maxHeartbeats 4000000 in
theorem specFixVar_full {m : Int} {cs : List Cl} (hI : isI m cs = true) {v val : Int} (hv : inB v 0 (m - 1) = true) (hval : inB val 0 1 = true) (h12 : cs.length = 12) {s : Value} (w : World) (h : AtC w s cs) :
    Calls Try.prog 32 #[.agg #[.int .i64 m, s], .int .i64 v, .int .i64 val] w (InstPost 0 [] 3 w) := by
  obtain ⟨sa, cap, hs, _⟩ := id h
  obtain ⟨m0, m8, _, _⟩ := isI_parts hI
  obtain ⟨W1, hW1, ⟨p0, p1⟩, x2, hB⟩ := boxes2 m s w
  have II := Lib.hid (l09Is_any (by omega) (fun k hk => by have := isI_rows hI k hk; omega) hI W1 (h.below hB))
  have hwm : IntKind.i64.wrap (m - 1) = m - 1 := wrap64_near (by omega) (by omega)
  subst hs
  have HX2 := Lib.hid x2
  clear h hI x2
  rw [h12] at p1 hW1 II ⊢
  clear h12
  go_enter Try.func32, Try.ntmps32
  go_wp2_with (first
    | (go_at_call 51; refine (II.out).mono ?_; rintro e w5 ⟨rfl, hb5⟩; have q0 := kc hb5 p0; have q1 := kc hb5 p1; have Y := (HX2.out).below hb5; have y0 := Y.c0; have y1 := Y.c1; have y2 := Y.f0; have y3 := Y.f1; have hB5 := bthen hB hb5; clear Y)
    | (go_at_call 62; with_reducible refine (l01In_is hv _).mono ?_; rintro e w' ⟨rfl, rfl⟩)
    | (go_at_call 62; with_reducible refine (l01In_is hval _).mono ?_; rintro e w' ⟨rfl, rfl⟩))
  refine bodyPost_ret (v := .tuple #[.agg #[.int .i64 0, .slice none 0 0], .int .i64 3]) ?_ rfl ?_
  · simp [results, Try.results32, go_sem, y0, y1]
  apply InstPost.zero
  exact (hB5.setCell (p := ⟨w.heap.size + 1, 0, none⟩) (by show _ ≤ w.heap.size + 1; omega) _).setCell (p := ⟨w.heap.size + 1, 1, none⟩) (by show _ ≤ w.heap.size + 1; omega) _
end Go.Proofs.Ythkmapflbopdpaa

/- FX4:
  FixVar of the model, the road without errors. -/
namespace Go.Proofs.Ythkmapflbopdpaa
open Go.RowKit
set_option linter.unusedVariables false
set_option linter.unusedSimpArgs false

set_option maxRecDepth 100000 in
set_option maxHeartbeats 8000000 in
theorem specFixVar_yes {m : Int} {cs : List Cl} (hI : isI m cs = true) {v val : Int} (hv : inB v 0 (m - 1) = true) (hval : inB val 0 1 = true) (hlen : cs.length < 12) {s : Value} (w : World) (h : AtC w s cs) :
    Calls Try.prog 32 #[.agg #[.int .i64 m, s], .int .i64 v, .int .i64 val] w (InstPost m (cs ++ [⟨1, 1 + val, [v]⟩]) 0 w) := by
  obtain ⟨i0, hi, hz0, hz1, hz2⟩ := info_parts infoC
  obtain ⟨sa, cap, hs, _⟩ := id h
  obtain ⟨m0, m8, h12, _⟩ := isI_parts hI
  obtain ⟨W1, hW1, ⟨p0, p1⟩, x2, hB⟩ := boxes2 m s w
  have II := Lib.hid (l09Is_any (by omega) (fun k hk => by have := isI_rows hI k hk; omega) hI W1 (h.below hB))
  have hwm : IntKind.i64.wrap (m - 1) = m - 1 := wrap64_near (by omega) (by omega)
  have hvb := inB_iff.1 hval
  have hw1 : IntKind.i64.wrap (1 + val) = 1 + val := wrap64_near (by omega) (by omega)
  subst hs
  have HX2 := Lib.hid x2
  have CP := Lib.hid (fun (V : World) (hV : Below W1.heap.size W1 V) => l09Copy_any hI V ((h.below hB).below hV))
  clear h hI x2 hvb
  have hne : ((cs.length : Int) == 12) = false := by simp; omega
  have hd : decide ((cs.length : Int) = 12) = false := by simp; omega
  have HLAST : Hid ((cs ++ [(⟨1, 1 + val, [v]⟩ : Cl)]).length = cs.length + 1) := Lib.hid (by simp)
  generalize hn : cs.length = n at hlen h12 hne hd p1 hW1 II CP HLAST
  have HN := Lib.hid hn
  clear hn
  go_enter Try.func32, Try.ntmps32
  go_wp2_with fail
  clear hW1
  refine (II.out).mono ?_
  rintro e w5 ⟨rfl, hb5⟩
  have q0 := kc hb5 p0
  have q1 := kc hb5 p1
  have Y5 := Lib.hid ((HX2.out).below hb5)
  have hB5 := bthen hB hb5
  clear HX2
  obtain ⟨W6, hW6⟩ : ∃ W6, (w5.alloc (.cells #[.int .i64 v] 2)).alloc (.cells #[.int .i64 1, .int .i64 (1 + val), .slice (some ⟨w5.heap.size, 0, none⟩) 1 1] 74) = W6 := ⟨_, rfl⟩
  have hb6 : Below w5.heap.size w5 W6 := by rw [← hW6]; exact balloc (bnew _ _) _
  have r0 : W6.cell? ⟨w5.heap.size + 1, 0, none⟩ = some (.int .i64 1) := by rw [← hW6]; simp [go_sem]
  have r1 : W6.cell? ⟨w5.heap.size + 1, 1, none⟩ = some (.int .i64 (1 + val)) := by rw [← hW6]; simp [go_sem]
  have r2 : W6.cell? ⟨w5.heap.size + 1, 2, none⟩ = some (.slice (some ⟨w5.heap.size, 0, none⟩) 1 1) := by rw [← hW6]; simp [go_sem]
  have HR : Hid (Owns W6 w5.heap.size (.slice (some ⟨w5.heap.size, 0, none⟩) 1 1) [v]) := Lib.hid (by
    rw [← hW6]
    exact World.ownsRow.alloc (World.ownsRow_lit w5 #[.int .i64 v] 1 (Nat.le_refl _) (by decide) rfl) _)
  have hsz6 : W6.heap.size = w5.heap.size + 2 := by rw [← hW6]; simp [go_sem]
  have HSZ6 := Lib.hid hsz6
  clear hsz6
  have z0 := kc hb6 q0
  have z1 := kc hb6 q1
  have Y6 := Lib.hid ((Y5.out).below hb6)
  have hB6 := bthen hB5 hb6
  have hBd := hB6.drew
  have hb16 : Below W1.heap.size W1 W6 := bthen hb5 hb6
  have CP6 := Lib.hid (fun (V : World) (hV : Below W6.heap.size W6 V) => CP.out V (bthen hb16 hV))
  clear CP
  go_wp2_with (first
    | (go_at_call 62; with_reducible refine (l01In_is hval _).mono ?_; rintro e w' ⟨rfl, rfl⟩)
    | (go_at_call 62; with_reducible refine (l01In_is hv _).mono ?_; rintro e w' ⟨rfl, rfl⟩))
  have hs5 : w.heap.size + 1 < w5.heap.size := (Y5.out).lt
  have KS : Hid (∀ V V' : World, Below V.heap.size V V' → (((V.cell? ⟨w.heap.size, 0, none⟩ = some (.int .i64 m) ∧ V.cell? ⟨w.heap.size, 1, none⟩ = some (.slice sa n cap)) ∧ ((V.cell? ⟨w5.heap.size + 1, 0, none⟩ = some (.int .i64 1) ∧ V.cell? ⟨w5.heap.size + 1, 1, none⟩ = some (.int .i64 (1 + val))) ∧ V.cell? ⟨w5.heap.size + 1, 2, none⟩ = some (.slice (some ⟨w5.heap.size, 0, none⟩) 1 1)))) → (((V'.cell? ⟨w.heap.size, 0, none⟩ = some (.int .i64 m) ∧ V'.cell? ⟨w.heap.size, 1, none⟩ = some (.slice sa n cap)) ∧ ((V'.cell? ⟨w5.heap.size + 1, 0, none⟩ = some (.int .i64 1) ∧ V'.cell? ⟨w5.heap.size + 1, 1, none⟩ = some (.int .i64 (1 + val))) ∧ V'.cell? ⟨w5.heap.size + 1, 2, none⟩ = some (.slice (some ⟨w5.heap.size, 0, none⟩) 1 1))))) := Lib.hid fun V V' hb h => ⟨⟨kc hb h.1.1, kc hb h.1.2⟩, ⟨kc hb h.2.1.1, kc hb h.2.1.2⟩, kc hb h.2.2⟩
  have KG : Hid (∀ (V V' : World) (row : Option Nat), V.grownBy V' row → (∀ k, row = some k → w5.heap.size + 1 < k) → (((V.cell? ⟨w.heap.size, 0, none⟩ = some (.int .i64 m) ∧ V.cell? ⟨w.heap.size, 1, none⟩ = some (.slice sa n cap)) ∧ ((V.cell? ⟨w5.heap.size + 1, 0, none⟩ = some (.int .i64 1) ∧ V.cell? ⟨w5.heap.size + 1, 1, none⟩ = some (.int .i64 (1 + val))) ∧ V.cell? ⟨w5.heap.size + 1, 2, none⟩ = some (.slice (some ⟨w5.heap.size, 0, none⟩) 1 1)))) → (((V'.cell? ⟨w.heap.size, 0, none⟩ = some (.int .i64 m) ∧ V'.cell? ⟨w.heap.size, 1, none⟩ = some (.slice sa n cap)) ∧ ((V'.cell? ⟨w5.heap.size + 1, 0, none⟩ = some (.int .i64 1) ∧ V'.cell? ⟨w5.heap.size + 1, 1, none⟩ = some (.int .i64 (1 + val))) ∧ V'.cell? ⟨w5.heap.size + 1, 2, none⟩ = some (.slice (some ⟨w5.heap.size, 0, none⟩) 1 1))))) := Lib.hid fun V V' row hg hr h => ⟨⟨hg.cell h.1.1 (fun e => by have := hr _ e.symm; simp only [] at this; omega), hg.cell h.1.2 (fun e => by have := hr _ e.symm; simp only [] at this; omega)⟩, ⟨hg.cell h.2.1.1 (fun e => by have := hr _ e.symm; simp only [] at this; omega), hg.cell h.2.1.2 (fun e => by have := hr _ e.symm; simp only [] at this; omega)⟩, hg.cell h.2.2 (fun e => by have := hr _ e.symm; simp only [] at this; omega)⟩
  have KT : Hid (∀ (V : World) (j : Nat) (u : Value), (((V.cell? ⟨w.heap.size, 0, none⟩ = some (.int .i64 m) ∧ V.cell? ⟨w.heap.size, 1, none⟩ = some (.slice sa n cap)) ∧ ((V.cell? ⟨w5.heap.size + 1, 0, none⟩ = some (.int .i64 1) ∧ V.cell? ⟨w5.heap.size + 1, 1, none⟩ = some (.int .i64 (1 + val))) ∧ V.cell? ⟨w5.heap.size + 1, 2, none⟩ = some (.slice (some ⟨w5.heap.size, 0, none⟩) 1 1)))) → ((((V.setCell ⟨w.heap.size + 1, j, none⟩ u).cell? ⟨w.heap.size, 0, none⟩ = some (.int .i64 m) ∧ (V.setCell ⟨w.heap.size + 1, j, none⟩ u).cell? ⟨w.heap.size, 1, none⟩ = some (.slice sa n cap)) ∧ (((V.setCell ⟨w.heap.size + 1, j, none⟩ u).cell? ⟨w5.heap.size + 1, 0, none⟩ = some (.int .i64 1) ∧ (V.setCell ⟨w.heap.size + 1, j, none⟩ u).cell? ⟨w5.heap.size + 1, 1, none⟩ = some (.int .i64 (1 + val))) ∧ (V.setCell ⟨w.heap.size + 1, j, none⟩ u).cell? ⟨w5.heap.size + 1, 2, none⟩ = some (.slice (some ⟨w5.heap.size, 0, none⟩) 1 1))))) := Lib.hid fun V j u h => ⟨⟨(World.cell?_of_block (Below.heap_setCell _ _ _ _ (by show w.heap.size ≠ w.heap.size + 1; omega))).trans h.1.1, (World.cell?_of_block (Below.heap_setCell _ _ _ _ (by show w.heap.size ≠ w.heap.size + 1; omega))).trans h.1.2⟩, ⟨(World.cell?_of_block (Below.heap_setCell _ _ _ _ (by show w5.heap.size + 1 ≠ w.heap.size + 1; omega))).trans h.2.1.1, (World.cell?_of_block (Below.heap_setCell _ _ _ _ (by show w5.heap.size + 1 ≠ w.heap.size + 1; omega))).trans h.2.1.2⟩, (World.cell?_of_block (Below.heap_setCell _ _ _ _ (by show w5.heap.size + 1 ≠ w.heap.size + 1; omega))).trans h.2.2⟩
  have TS : Hid (((W6.drew.cell? ⟨w.heap.size, 0, none⟩ = some (.int .i64 m) ∧ W6.drew.cell? ⟨w.heap.size, 1, none⟩ = some (.slice sa n cap)) ∧ ((W6.drew.cell? ⟨w5.heap.size + 1, 0, none⟩ = some (.int .i64 1) ∧ W6.drew.cell? ⟨w5.heap.size + 1, 1, none⟩ = some (.int .i64 (1 + val))) ∧ W6.drew.cell? ⟨w5.heap.size + 1, 2, none⟩ = some (.slice (some ⟨w5.heap.size, 0, none⟩) 1 1)))) := Lib.hid ⟨⟨z0, z1⟩, ⟨r0, r1⟩, r2⟩
  have TSA : Hid (∀ o, (((W6.alloc o).drew.cell? ⟨w.heap.size, 0, none⟩ = some (.int .i64 m) ∧ (W6.alloc o).drew.cell? ⟨w.heap.size, 1, none⟩ = some (.slice sa n cap)) ∧ (((W6.alloc o).drew.cell? ⟨w5.heap.size + 1, 0, none⟩ = some (.int .i64 1) ∧ (W6.alloc o).drew.cell? ⟨w5.heap.size + 1, 1, none⟩ = some (.int .i64 (1 + val))) ∧ (W6.alloc o).drew.cell? ⟨w5.heap.size + 1, 2, none⟩ = some (.slice (some ⟨w5.heap.size, 0, none⟩) 1 1)))) := Lib.hid fun o => KS.out W6 _ (bnew W6 o).drew ⟨⟨z0, z1⟩, ⟨r0, r1⟩, r2⟩
  have hD6 : Below W6.heap.size W6 W6.drew := (Below.refl _ _).drew
  have HL56 : Hid (w5.heap.size + 1 < W6.heap.size) := Lib.hid (by have := HSZ6.out; omega)
  have h56 : w5.heap.size ≤ W6.heap.size := by have := HSZ6.out; omega
  clear HSZ6
  go_region_held_law (fun V => ((V.cell? ⟨w.heap.size, 0, none⟩ = some (.int .i64 m) ∧ V.cell? ⟨w.heap.size, 1, none⟩ = some (.slice sa n cap)) ∧ ((V.cell? ⟨w5.heap.size + 1, 0, none⟩ = some (.int .i64 1) ∧ V.cell? ⟨w5.heap.size + 1, 1, none⟩ = some (.int .i64 (1 + val))) ∧ V.cell? ⟨w5.heap.size + 1, 2, none⟩ = some (.slice (some ⟨w5.heap.size, 0, none⟩) 1 1))))
    (first
      | with_reducible exact TS.out
      | with_reducible exact TSA.out _
      | (with_reducible refine KS.out _ _ hbC ?_; with_reducible assumption)
      | (with_reducible refine KS.out _ _ (bnew _ _) ?_; with_reducible assumption)
      | (with_reducible refine KG.out _ _ _ hgrow hrow ?_; with_reducible assumption)
      | (with_reducible refine KT.out _ _ _ (KT.out _ _ _ ?_); with_reducible assumption)
      | (with_reducible refine KT.out _ _ _ ?_; with_reducible assumption)
      | with_reducible assumption)
    (first
      | (refine step_append_cl _ rfl _ _ 27 rfl w5.heap.size 74 i0 (.agg #[.int .i64 0, .int .i64 0, .slice none 0 0]) 3 40 Try.underlying27 hi hz0 hz1 hz2 rfl (by decide) _ _ _ rfl (OW7.alloc _) ⟨w7.heap.size, 0, none⟩ 1 1 [.int .i64 1, .int .i64 (1 + val), .slice (some ⟨w5.heap.size, 0, none⟩) 1 1] rfl rfl (cell_three_new _ _ _ _ _) (one_cell_three _ _ _ _ _) (by unfold maxLen; omega) (by omega) (by simp; omega) ?_; intro v' w9 hown' hgrow; obtain ⟨g9, cap9, rfl⟩ := ownsRow_succ hown'; have hrow := (fun (k : Nat) (e : _ = some k) => Nat.lt_of_lt_of_le HL56.out (World.ownsRow.lt OW7b k e).1); have T9 := KG.out _ _ _ hgrow hrow (KS.out _ _ (bnew _ _) T7); have Y9 := Lib.hid (((Y7.out).below (bnew _ _)).grown hgrow (fun e => by have := hrow _ e.symm; omega)); have y0 := (Y9.out).c0; have y1 := (Y9.out).c1; have y2 := (Y9.out).f0; have y3 := (Y9.out).f1)
      | (refine step_append_cl _ rfl _ _ 27 rfl w5.heap.size 74 i0 (.agg #[.int .i64 0, .int .i64 0, .slice none 0 0]) 3 40 Try.underlying27 hi hz0 hz1 hz2 rfl (by decide) _ _ _ rfl OW7 ⟨W6.heap.size, 0, none⟩ 1 1 [.int .i64 1, .int .i64 (1 + val), .slice (some ⟨w5.heap.size, 0, none⟩) 1 1] rfl rfl (fun j u hj => kc hbC (cell_three_new W6 _ _ _ _ j u hj)) (one_cell_three _ _ _ _ _) (by unfold maxLen; omega) (by omega) (by omega) ?_; intro v' w9 hown' hgrow; obtain ⟨g9, cap9, rfl⟩ := ownsRow_succ hown'; have hrow := (fun (k : Nat) (e : _ = some k) => Nat.lt_of_lt_of_le HL56.out (World.ownsRow.lt OW7b k e).1); have T9 := KG.out _ _ _ hgrow hrow T7; have Y9 := Lib.hid ((Y7.out).grown hgrow (fun e => by have := hrow _ e.symm; omega)); have y0 := (Y9.out).c0; have y1 := (Y9.out).c1; have y2 := (Y9.out).f0; have y3 := (Y9.out).f1)
      | (go_at_call 70; refine (CP6.out _ (by first | exact hD6 | exact (bnew W6 _).drew)).mono ?_; rintro e w7 ⟨a7, c7, ss7, rfl, O7, hbC⟩; have hb67 : Below W6.heap.size W6 w7 := (by first | exact hD6.trans (hbC.mono (Nat.le_refl _)) | exact ((bnew W6 _).drew).trans (hbC.mono (by simp))); have OW7b : World.ownsRow _ _ _ _ _ _ _ := (O7.mono (show W6.heap.size ≤ _ by first | exact Nat.le_refl _ | simp)).own; have OW7 : World.ownsRow _ _ _ _ _ _ _ := (O7.mono (Nat.le_trans h56 (show W6.heap.size ≤ _ by first | exact Nat.le_refl _ | simp))).own; rw [HN.out] at OW7 OW7b; have Y7 := Lib.hid ((Y6.out).below hb67); have hs7 := hb67.size; have T7 := KS.out _ _ hbC (by with_reducible assumption)))
  all_goals
    have HROW := Lib.hid ((HR.out).below hb67)
    have HFIN : Hid (OC w9 w5.heap.size w9.heap.size (.slice (some ⟨g9, 0, none⟩) (n + 1) cap9) (ss7 ++ [.slice (some ⟨w5.heap.size, 0, none⟩) 1 1]) (cs ++ [⟨1, 1 + val, [v]⟩]) ∧ Below w.heap.size w w9) := Lib.hid (by
      have hlo : w5.heap.size ≤ W6.heap.size := h56
      have h1 : w5.heap.size < W6.heap.size := by have := HL56.out; omega
      first
        | exact ⟨OC.snocB (W3 := w7.alloc _) (O7.below (bnew _ _)) (show w5.heap.size ≤ W6.heap.size from hlo) ((HROW.out).below (bnew _ _)) (fun b e => by simp only [Value.ownBlock, Option.some.injEq] at e; subst e; exact h1) hgrow (by rw [HN.out]; exact hown'),
            (balloc (bthen hB6 hb67) _).grown hgrow (by simp; omega) (fun j e => by have := hrow j e; omega)⟩
        | exact ⟨OC.snocB (W3 := w7) O7 (by simp; omega) (HROW.out) (fun b e => by simp only [Value.ownBlock, Option.some.injEq] at e; subst e; simp; omega) hgrow (by rw [HN.out]; exact hown'),
            (bthen hB6 hb67).grown hgrow (by omega) (fun j e => by have := hrow j e; omega)⟩)
    clear hown' hgrow OW7 OW7b O7 hbC T7 T9
    go_wp2
    refine bodyPost_ret (v := .tuple #[.agg #[.int .i64 m, .slice (some ⟨g9, 0, none⟩) (n + 1) cap9], .int .i64 0]) ?_ rfl ?_
    · simp [results, Try.results32, go_sem, y0, y1]
    · refine ⟨some ⟨g9, 0, none⟩, cap9, ss7 ++ [.slice (some ⟨w5.heap.size, 0, none⟩) 1 1], by rw [HLAST.out], ?_, ?_⟩
      · rw [HLAST.out]
        exact (((HFIN.out.1).set (show w.heap.size + 1 < w5.heap.size from hs5) 0 _).set (show w.heap.size + 1 < w5.heap.size from hs5) 1 _).full.mono (by omega)
      · exact ((HFIN.out.2).setCell (p := ⟨w.heap.size + 1, 0, none⟩) (by show _ ≤ w.heap.size + 1; omega) _).setCell (p := ⟨w.heap.size + 1, 1, none⟩) (by show _ ≤ w.heap.size + 1; omega) _
end Go.Proofs.Ythkmapflbopdpaa

/- FX5:
  FixVar of the program; both. -/
namespace Go.Proofs.Ythkmapflbopdpaa
open Go.RowKit
set_option linter.unusedVariables false
set_option linter.unusedSimpArgs false

set_option maxRecDepth 100000 in
set_option maxHeartbeats 4000000 in
theorem implFixVar_no {m : Int} {cs : List Cl} (hl : cs.length ≤ 1048576) (hr : ∀ k, k < cs.length → (cget cs k).vs.length ≤ 1048576) (hI : isI m cs = false) (v val : Int) {s : Value} (w : World) (h : AtC w s cs) :
    Calls Try.prog 33 #[.agg #[.int .i64 m, s], .int .i64 v, .int .i64 val] w (InstPost 0 [] 1 w) := by
  obtain ⟨sa, cap, hs, _⟩ := id h
  obtain ⟨W1, hW1, ⟨p0, p1⟩, x2, hB⟩ := boxes2 m s w
  have II := Lib.hid (IsInstance_any hl hr hI W1 (h.below hB))
  subst hs
  have HX2 := Lib.hid x2
  clear h hr hI x2
  go_enter Try.func33, Try.ntmps33
  go_wp2_with (go_at_call 15; refine (II.out).mono ?_; rintro e w5 ⟨rfl, hb5⟩; have Y := (HX2.out).below hb5; have y0 := Y.c0; have y1 := Y.c1; have y2 := Y.f0; have y3 := Y.f1; have hB5 := bthen hB hb5; clear Y)
  refine bodyPost_ret (v := .tuple #[.agg #[.int .i64 0, .slice none 0 0], .int .i64 1]) ?_ rfl ?_
  · simp [results, Try.results33, go_sem, y0, y1]
  apply InstPost.zero
  exact (hB5.setCell (p := ⟨w.heap.size + 1, 0, none⟩) (by show _ ≤ w.heap.size + 1; omega) _).setCell (p := ⟨w.heap.size + 1, 1, none⟩) (by show _ ≤ w.heap.size + 1; omega) _

set_option maxRecDepth 100000 in
set_option maxHeartbeats 4000000 in
theorem implFixVar_out {m : Int} {cs : List Cl} (hI : isI m cs = true) {v val : Int} {x y : Bool} (hv : inB v 0 (m - 1) = x) (hval : inB val 0 1 = y) (hxy : (x && y) = false) {s : Value} (w : World) (h : AtC w s cs) :
    Calls Try.prog 33 #[.agg #[.int .i64 m, s], .int .i64 v, .int .i64 val] w (InstPost 0 [] 2 w) := by
  obtain ⟨sa, cap, hs, _⟩ := id h
  obtain ⟨m0, m8, h12, _⟩ := isI_parts hI
  obtain ⟨W1, hW1, ⟨p0, p1⟩, x2, hB⟩ := boxes2 m s w
  have II := Lib.hid (IsInstance_any (by omega) (fun k hk => by have := isI_rows hI k hk; omega) hI W1 (h.below hB))
  have hwm : IntKind.i64.wrap (m - 1) = m - 1 := wrap64_near (by omega) (by omega)
  subst hs
  have HX2 := Lib.hid x2
  clear h hI x2
  cases x
  case' true => cases y
  case' true.true => simp at hxy
  all_goals
    clear hxy
    go_enter Try.func33, Try.ntmps33
    go_wp2_with (first
      | (go_at_call 15; refine (II.out).mono ?_; rintro e w5 ⟨rfl, hb5⟩; have q0 := kc hb5 p0; have Y := (HX2.out).below hb5; have y0 := Y.c0; have y1 := Y.c1; have y2 := Y.f0; have y3 := Y.f1; have hB5 := bthen hB hb5; clear Y)
      | (go_at_call 75; with_reducible refine (isVariable_is hv _).mono ?_; rintro e w' ⟨rfl, rfl⟩)
      | (go_at_call 76; with_reducible refine (isDigit_is hval _).mono ?_; rintro e w' ⟨rfl, rfl⟩))
    refine bodyPost_ret (v := .tuple #[.agg #[.int .i64 0, .slice none 0 0], .int .i64 2]) ?_ rfl ?_
    · simp [results, Try.results33, go_sem, y0, y1]
    apply InstPost.zero
    exact (hB5.setCell (p := ⟨w.heap.size + 1, 0, none⟩) (by show _ ≤ w.heap.size + 1; omega) _).setCell (p := ⟨w.heap.size + 1, 1, none⟩) (by show _ ≤ w.heap.size + 1; omega) _

set_option maxRecDepth 100000 in
set_option maxHeartbeats 4000000 in
theorem implFixVar_full {m : Int} {cs : List Cl} (hI : isI m cs = true) {v val : Int} (hv : inB v 0 (m - 1) = true) (hval : inB val 0 1 = true) (h12 : cs.length = 12) {s : Value} (w : World) (h : AtC w s cs) :
    Calls Try.prog 33 #[.agg #[.int .i64 m, s], .int .i64 v, .int .i64 val] w (InstPost 0 [] 3 w) := by
  obtain ⟨sa, cap, hs, _⟩ := id h
  obtain ⟨m0, m8, _, _⟩ := isI_parts hI
  obtain ⟨W1, hW1, ⟨p0, p1⟩, x2, hB⟩ := boxes2 m s w
  have II := Lib.hid (IsInstance_any (by omega) (fun k hk => by have := isI_rows hI k hk; omega) hI W1 (h.below hB))
  have hwm : IntKind.i64.wrap (m - 1) = m - 1 := wrap64_near (by omega) (by omega)
  subst hs
  have HX2 := Lib.hid x2
  clear h hI x2
  rw [h12] at p1 hW1 II ⊢
  clear h12
  go_enter Try.func33, Try.ntmps33
  go_wp2_with (first
    | (go_at_call 15; refine (II.out).mono ?_; rintro e w5 ⟨rfl, hb5⟩; have q0 := kc hb5 p0; have q1 := kc hb5 p1; have Y := (HX2.out).below hb5; have y0 := Y.c0; have y1 := Y.c1; have y2 := Y.f0; have y3 := Y.f1; have hB5 := bthen hB hb5; clear Y)
    | (go_at_call 75; with_reducible refine (isVariable_is hv _).mono ?_; rintro e w' ⟨rfl, rfl⟩)
    | (go_at_call 76; with_reducible refine (isDigit_is hval _).mono ?_; rintro e w' ⟨rfl, rfl⟩))
  refine bodyPost_ret (v := .tuple #[.agg #[.int .i64 0, .slice none 0 0], .int .i64 3]) ?_ rfl ?_
  · simp [results, Try.results33, go_sem, y0, y1]
  apply InstPost.zero
  exact (hB5.setCell (p := ⟨w.heap.size + 1, 0, none⟩) (by show _ ≤ w.heap.size + 1; omega) _).setCell (p := ⟨w.heap.size + 1, 1, none⟩) (by show _ ≤ w.heap.size + 1; omega) _

theorem cell_three_new' (W : World) {N : Nat} (hN : N = W.heap.size) (a b c : Value) (t : TypeId) : ∀ (j : Nat) (u : Value), [a, b, c][j]? = some u → (W.alloc (.cells #[a, b, c] t)).cell? ((⟨N, 0, none⟩ : Addr).add j) = some u := by
  subst hN
  exact cell_three_new W a b c t

/-- A store into a box of an instance. -/
theorem OC.setBox {W : World} {lo hi : Nat} {s : Value} {ss : List Value} {cs : List Cl} (h : OC W lo hi s ss cs) {b : Nat} {cur : Array Value} (hb : W.heap[b]? = some (.cells cur 29 (0, 0))) (j : Nat) (u : Value) : OC (W.setCell ⟨b, j, none⟩ u) lo hi s ss cs := by
  refine ⟨h.len, ownsRow_same h.own fun k e => ?_, fun k hk => ownsRow_same (h.row k hk) fun c e => ?_, h.blk, h.rblk, h.sep, by simpa [World.setCell] using h.top⟩
  · refine Below.heap_setCell _ _ _ _ fun e2 => ?_
    obtain ⟨_, c1, e1⟩ := row_obj h.own e
    simp only [] at e2
    rw [e2, hb] at e1
    simp at e1
  · refine Below.heap_setCell _ _ _ _ fun e2 => ?_
    obtain ⟨_, c1, e1⟩ := row_obj (h.row k hk) e
    simp only [] at e2
    rw [e2, hb] at e1
    simp at e1

set_option maxRecDepth 100000 in
set_option maxHeartbeats 8000000 in
theorem implFixVar_yes {m : Int} {cs : List Cl} (hI : isI m cs = true) {v val : Int} (hv : inB v 0 (m - 1) = true) (hval : inB val 0 1 = true) (hlen : cs.length < 12) {s : Value} (w : World) (h : AtC w s cs) :
    Calls Try.prog 33 #[.agg #[.int .i64 m, s], .int .i64 v, .int .i64 val] w (InstPost m (cs ++ [⟨1, 1 + val, [v]⟩]) 0 w) := by
  obtain ⟨i0, hi, hz0, hz1, hz2⟩ := info_parts infoC
  obtain ⟨sa, cap, hs, _⟩ := id h
  obtain ⟨m0, m8, h12, _⟩ := isI_parts hI
  obtain ⟨W1, hW1, ⟨p0, p1⟩, x2, hB⟩ := boxes2 m s w
  have II := Lib.hid (IsInstance_any (by omega) (fun k hk => by have := isI_rows hI k hk; omega) hI W1 (h.below hB))
  have hvb : val = 0 ∨ val = 1 := by have := inB_iff.1 hval; omega
  subst hs
  have HX2 := Lib.hid x2
  have CP := Lib.hid (fun (V : World) (hV : Below W1.heap.size W1 V) => copied_any hI V ((h.below hB).below hV))
  clear h hI x2
  have hne : ((cs.length : Int) == 12) = false := by simp; omega
  have hd : decide ((cs.length : Int) = 12) = false := by simp; omega
  have HLAST : Hid ((cs ++ [(⟨1, 1 + val, [v]⟩ : Cl)]).length = cs.length + 1) := Lib.hid (by simp)
  generalize hn : cs.length = n at hlen h12 hne hd p1 hW1 II CP HLAST
  have HN := Lib.hid hn
  clear hn
  generalize htv : 1 + val = tv at HLAST ⊢
  rcases hvb with rfl | rfl
  all_goals
    subst htv
    go_enter Try.func33, Try.ntmps33
    go_wp2_with fail
    clear hW1
    refine (II.out).mono ?_
    rintro e w5 ⟨rfl, hb5⟩
    have q0 := kc hb5 p0
    have q1 := kc hb5 p1
    have Y5 := Lib.hid ((HX2.out).below hb5)
    have hB5 := bthen hB hb5
    clear HX2
    go_wp2_with (first
      | (go_at_call 75; with_reducible refine (isVariable_is hv _).mono ?_; rintro e w' ⟨rfl, rfl⟩)
      | (go_at_call 76; with_reducible refine (isDigit_is hval _).mono ?_; rintro e w' ⟨rfl, rfl⟩))
    refine (CP.out _ hb5).mono ?_
    rintro e w6 ⟨a6, c6, ss6, rfl, O6, hb6⟩
    obtain ⟨W7, hW7⟩ : ∃ W7, w6.alloc (.cells #[.int .i64 m, .slice a6 n c6] 29) = W7 := ⟨_, rfl⟩
    have hb7 : Below w6.heap.size w6 W7 := by rw [← hW7]; exact bnew _ _
    have X8 : BX2 W7 w6.heap.size m (.slice a6 n c6) := by rw [← hW7]; exact ⟨by simp [go_sem], by simp [go_sem], by simp [go_sem], by simp [go_sem]⟩
    have HX8 := Lib.hid X8
    have HOB : Hid (W7.heap[w6.heap.size]? = some (.cells #[.int .i64 m, .slice a6 n c6] 29 (0, 0))) := Lib.hid (by rw [← hW7]; exact heap_alloc_new _ _)
    have O7 := Lib.hid (O6.below hb7)
    have Y7 := Lib.hid (((Y5.out).below hb6).below hb7)
    have hB7 := bthen hB5 (bthen hb6 hb7)
    have x0 := X8.c0
    have x1 := X8.c1
    have x2 := X8.f0
    have x3 := X8.f1
    have hlt8 := X8.lt
    have how : World.ownsRow _ _ _ _ _ _ _ := (O7.out).own
    rw [HN.out] at how
    have HOW := Lib.hid how
    have hs56 := hb6.size
    have hs5 : w.heap.size + 1 < w5.heap.size := (Y5.out).lt
    have HNE : Hid (some w6.heap.size ≠ (Value.slice a6 n c6).ownBlock) := Lib.hid fun e => by have h1 := O6.blk _ e.symm; omega
    clear how O6 X8 q0 q1 hv hval p0 p1
    go_wp2_with fail
    clear hW7
    have OV : Hid (Owns (W7.alloc (.cells #[.int .i64 v] 2)) W7.heap.size (.slice (some ⟨W7.heap.size, 0, none⟩) 1 1) [v]) := Lib.hid (World.ownsRow_lit W7 #[.int .i64 v] 1 (Nat.le_refl _) (by decide) rfl)
    have hs67 := hb7.size
    have hww1 : IntKind.i64.wrap 1 = 1 := by decide
    have hww2 : IntKind.i64.wrap 2 = 2 := by decide
    have HC3 : Hid (∀ t : Int, ∀ (j : Nat) (u : Value), [Value.int .i64 1, Value.int .i64 t, Value.slice (some ⟨W7.heap.size, 0, none⟩) 1 1][j]? = some u → (((W7.alloc (.cells #[.int .i64 v] 2)).alloc (.cells #[.int .i64 1, .int .i64 t, .slice (some ⟨W7.heap.size, 0, none⟩) 1 1] 74)).drew).cell? ((⟨W7.heap.size + 1, 0, none⟩ : Addr).add j) = some u) := Lib.hid fun t => cell_three_new' (W7.alloc (.cells #[.int .i64 v] 2)) (by simp) _ _ _ _
    have HX82 : Hid (∀ o1 o2, BX2 (((W7.alloc o1).alloc o2).drew) w6.heap.size m (.slice a6 n c6)) := Lib.hid fun o1 o2 => ((HX8.out).below (bnew _ o1)).below (bnew _ o2).drew
    have HOW2 : Hid (∀ o1 o2, (((W7.alloc o1).alloc o2).drew).ownsRow w5.heap.size 74 3 (.slice a6 n c6) n (ccells cs ss6)) := Lib.hid fun o1 o2 => ((HOW.out).alloc o1).alloc o2
    go_region_law (first
      | (refine step_append_cl _ rfl _ _ 27 rfl w5.heap.size 74 i0 (.agg #[.int .i64 0, .int .i64 0, .slice none 0 0]) 3 40 Try.underlying27 hi hz0 hz1 hz2 rfl (by decide) _ _ _ rfl (HOW2.out _ _) ⟨W7.heap.size + 1, 0, none⟩ 1 1 [.int .i64 1, .int .i64 _, .slice (some ⟨W7.heap.size, 0, none⟩) 1 1] rfl rfl (HC3.out _) (one_cell_three _ _ _ _ _) (by unfold maxLen; omega) (by omega) (by simp; omega) ?_; intro v' w9 hown' hgrow; obtain ⟨g9, cap9, rfl⟩ := ownsRow_succ hown'; have hrow := (fun (k : Nat) (e : _ = some k) => (World.ownsRow.lt HOW.out k e).1); have X9 := Lib.hid ((HX82.out _ _).grown hgrow HNE.out); have z0 := (X9.out).c0; have z1 := (X9.out).c1; have z2 := (X9.out).f0; have z3 := (X9.out).f1))
    all_goals
      have HFIN : Hid (OC w9 w5.heap.size w9.heap.size (.slice (some ⟨g9, 0, none⟩) (n + 1) cap9) (ss6 ++ [.slice (some ⟨W7.heap.size, 0, none⟩) 1 1]) (cs ++ [⟨1, _, [v]⟩]) ∧ Below w.heap.size w w9) := Lib.hid ⟨OC.snoc (W := W7) (W2 := W7.alloc (.cells #[.int .i64 v] 2)) (W3 := _) O7.out (bnew _ _) OV.out (bnew _ _).drew hgrow (by rw [HN.out]; exact hown') (by omega),
        ((balloc (balloc hB7 _) _).drew).grown hgrow (by simp; omega) (fun j e => by have := hrow j e; omega)⟩
      have HY9 : Hid (BX2 w9 (w.heap.size + 1) 0 (.slice none 0 0)) := Lib.hid ((((Y7.out).below (bnew _ _)).below (bnew _ _).drew).grown hgrow (fun e => by have := hrow _ e.symm; omega))
      have HO9 : Hid (w9.heap[w6.heap.size]? = some (.cells #[.int .i64 m, .slice a6 n c6] 29 (0, 0))) := Lib.hid ((hgrow.block _ (by simp; omega) HNE.out).trans ((((bnew (W7.alloc (.cells #[.int .i64 v] 2)) _).drew).block _ (by simp; omega)).trans (((bnew W7 _).block _ hlt8).trans HOB.out)))
      have y0 := (HY9.out).c0
      have y1 := (HY9.out).c1
      have y2 := (HY9.out).f0
      have y3 := (HY9.out).f1
      have hxy : ¬ w6.heap.size = w.heap.size + 1 := by omega
      have hyx : ¬ w.heap.size + 1 = w6.heap.size := by omega
      clear hown' hgrow
      go_wp2
      refine bodyPost_ret (v := .tuple #[.agg #[.int .i64 m, .slice (some ⟨g9, 0, none⟩) (n + 1) cap9], .int .i64 0]) ?_ rfl ?_
      · simp [results, Try.results33, go_sem, y0, y1, hxy, hyx]
      · refine ⟨some ⟨g9, 0, none⟩, cap9, ss6 ++ [.slice (some ⟨W7.heap.size, 0, none⟩) 1 1], by rw [HLAST.out], ?_, ?_⟩
        · rw [HLAST.out]
          refine OC.mono (lo := w5.heap.size) ?_ (by omega)
          exact ((((HFIN.out.1).setBox HO9.out 1 _).set (show w.heap.size + 1 < w5.heap.size from hs5) 0 _).set (show w.heap.size + 1 < w5.heap.size from hs5) 1 _).full
        · exact (((HFIN.out.2).setCell (p := ⟨w6.heap.size, 1, none⟩) (by show _ ≤ w6.heap.size; omega) _).setCell (p := ⟨w.heap.size + 1, 0, none⟩) (by show _ ≤ w.heap.size + 1; omega) _).setCell (p := ⟨w.heap.size + 1, 1, none⟩) (by show _ ≤ w.heap.size + 1; omega) _

theorem szN_le4 {cs : List Cl} {n : Nat} (h : ∀ k, k < n → (cget cs k).vs.length ≤ 4) : szN cs n ≤ 4 * n := by
  induction n with
  | zero => exact Nat.le_refl _
  | succ n ih =>
    have h1 := ih fun k hk => h k (by omega)
    have h2 := h n (by omega)
    show szN cs n + _ ≤ _
    omega
theorem bothFixVar {cs : List Cl} (hl : cs.length ≤ 1048576) (hr : ∀ k, k < cs.length → (cget cs k).vs.length ≤ 1048576) (m v val : Int) : ∃ (rm : Int) (ds : List Cl) (rc : Int), ds.length + szN ds ds.length ≤ 1000000 ∧
    (∀ s w, AtC w s cs → Calls Try.prog 32 #[.agg #[.int .i64 m, s], .int .i64 v, .int .i64 val] w (InstPost rm ds rc w)) ∧
    (∀ s w, AtC w s cs → Calls Try.prog 33 #[.agg #[.int .i64 m, s], .int .i64 v, .int .i64 val] w (InstPost rm ds rc w)) := by
  cases hI : isI m cs
  · exact ⟨0, [], 1, by simp [szN], fun s w h => specFixVar_no hl hr hI v val w h, fun s w h => implFixVar_no hl hr hI v val w h⟩
  · obtain ⟨_, _, h12, _⟩ := isI_parts hI
    cases hv : inB v 0 (m - 1)
    · exact ⟨0, [], 2, by simp [szN], fun s w h => specFixVar_out hI hv rfl rfl w h, fun s w h => implFixVar_out hI hv rfl rfl w h⟩
    · cases hval : inB val 0 1
      · exact ⟨0, [], 2, by simp [szN], fun s w h => specFixVar_out hI hv hval rfl w h, fun s w h => implFixVar_out hI hv hval rfl w h⟩
      · by_cases hf : cs.length = 12
        · exact ⟨0, [], 3, by simp [szN], fun s w h => specFixVar_full hI hv hval hf w h, fun s w h => implFixVar_full hI hv hval hf w h⟩
        · refine ⟨m, cs ++ [⟨1, 1 + val, [v]⟩], 0, ?_, fun s w h => specFixVar_yes hI hv hval (by omega) w h, fun s w h => implFixVar_yes hI hv hval (by omega) w h⟩
          have h4 : ∀ k, k < (cs ++ [(⟨1, 1 + val, [v]⟩ : Cl)]).length → (cget (cs ++ [(⟨1, 1 + val, [v]⟩ : Cl)]) k).vs.length ≤ 4 := fun k hk => by
            by_cases hk2 : k < cs.length
            · rw [cget_app_left hk2]
              exact isI_rows hI k hk2
            · obtain rfl : k = cs.length := by simp at hk; omega
              rw [cget_app_last]
              simp
          have h5 := szN_le4 h4
          have h6 : (cs ++ [(⟨1, 1 + val, [v]⟩ : Cl)]).length = cs.length + 1 := by simp
          omega
end Go.Proofs.Ythkmapflbopdpaa

/- FFixVar:
  The walk of the law on FixVar: both packages answer alike, and what came in is as it was. -/
namespace Go.Proofs.Ythkmapflbopdpaa
open Go.RowKit
set_option linter.unusedVariables false
set_option linter.unusedSimpArgs false

set_option maxRecDepth 100000 in
set_option maxHeartbeats 8000000 in
theorem fnExactFixVar_walk (m : Int) (a : Option Addr) (len cap : Nat) (cs : List Cl) (a0 : Int) (a1 : Int) (w : World) (hr0 : IsRowC w a len cs) (wa0 : (Lit.int .i64 a0).wf = true) (wa1 : (Lit.int .i64 a1).wf = true) :
    Calls Try.prog 8 #[.agg #[.int .i64 m, .slice a len cap], .int .i64 a0, .int .i64 a1] w fun e w' => e = .returned (.bool true) ∧ Below w.heap.size w w' := by
  have hcl := hr0.1
  by_cases ht : len + szN cs len ≤ 1048576
  · have hcs := inst_sizes hcl ht
    obtain ⟨rm, ds, rc, hdz, c1, c2⟩ := bothFixVar hcs.1 hcs.2 m a0 a1
    have C1 := Lib.hid c1
    have C2 := Lib.hid c2
    have HR := Lib.hid hr0
    have HT := Lib.hid ht
    have HSZ : Hid (cs.length + szN cs cs.length ≤ 1048576) := Lib.hid (by rw [hcl]; exact ht)
    have hds : ds.length ≤ 100000000 ∧ ∀ k, k < ds.length → (cget ds k).vs.length ≤ 100000000 := by have h := inst_sizes (cs := ds) (len := ds.length) rfl (by omega); exact ⟨by omega, fun k hk => by have := h.2 k hk; omega⟩
    have hcs2 : cs.length ≤ 100000000 ∧ ∀ k, k < cs.length → (cget cs k).vs.length ≤ 100000000 := ⟨by omega, fun k hk => by have := hcs.2 k hk; omega⟩
    have hd0 : decide ((1048576 : Int) - (len : Int) - ((szN cs len : Nat) : Int) < 0) = false := by simp only [decide_eq_false_iff_not]; omega
    have hdk : decide (kAt 1 cs cs.length < 0) = false := kAt_neg (by omega)
    have hdk2 : decide (kAt 1 ds ds.length < 0) = false := kAt_neg (by omega)
    replace hcs := hcs2
    clear c1 c2 hr0 ht hcs2 hcl
    obtain ⟨W1, hW1⟩ : ∃ W1, w.alloc (.cells #[.int .i64 m, .slice a len cap] 24) = W1 := ⟨_, rfl⟩
    have qa : W1.cell? ⟨w.heap.size, 0, none⟩ = some (.int .i64 m) := by rw [← hW1]; simp [go_sem]
    have qb : W1.cell? ⟨w.heap.size, 1, none⟩ = some (.slice a len cap) := by rw [← hW1]; simp [go_sem]
    have hN : Below w.heap.size w W1 := by rw [← hW1]; exact bnew _ _
    go_enter Try.func8, Try.ntmps8
    go_wp2_with fail
    clear hW1
    go_wp2_with fail
    refine (szInstance_ok HR.out HT.out _ hN).mono ?_
    rintro e w2 ⟨rfl, hb⟩
    replace hN := bthen hN hb
    have q1 := kc hb qa; have q2 := kc hb qb
    clear hb qa qb
    go_wp2_with fail
    have ba3 := Lib.hid (cell_lt q1)
    have hs_O1 := Lib.hid hN.size
    go_wp2_with fail
    refine (toInst_any HR.out HT.out _ hN).mono ?_
    rintro e w3 ⟨xa1, xc1, ss1, rfl, o, hb⟩
    have O1 := Lib.hid o
    clear o
    replace hN := bthen hN hb
    have q4 := kc hb q1; have q5 := kc hb q2
    clear hb q1 q2
    go_wp2_with fail
    have ba6 := Lib.hid (cell_lt q4)
    have ap7 := Lib.hid O1.out.top
    have hs_R1 := Lib.hid hN.size
    go_wp2_with fail
    refine (C1.out _ _ O1.out.at).mono ?_
    rintro e w4 ⟨ya1, yc1, ts1, rfl, o, hb⟩
    have R1 := Lib.hid o
    clear o
    replace hN := bthen hN hb
    have q8 := kc hb q4; have q9 := kc hb q5
    replace O1 := Lib.hid (O1.out.below hb)
    clear hb q4 q5
    obtain ⟨W10, hW11, q12, q13, hb⟩ := ansBoxI rm (.slice ya1 ds.length yc1) w4
    have ab14 := Lib.hid O1.out.top
    have ab15 := Lib.hid R1.out.top
    replace hN := bthen hN hb
    have q16 := kc hb q8; have q17 := kc hb q9
    replace O1 := Lib.hid (O1.out.below hb)
    replace R1 := Lib.hid (R1.out.below hb)
    clear hb q8 q9
    clear O1
    go_wp2_with fail
    clear hW11
    go_wp2_with fail
    have ba18 := Lib.hid (cell_lt q16)
    have ba19 := Lib.hid (cell_lt q12)
    have ap20 := Lib.hid R1.out.top
    have hs_O2 := Lib.hid hN.size
    go_wp2_with fail
    refine (toInst_any HR.out HT.out _ hN).mono ?_
    rintro e w5 ⟨xa2, xc2, ss2, rfl, o, hb⟩
    have O2 := Lib.hid o
    clear o
    replace hN := bthen hN hb
    have q21 := kc hb q16; have q22 := kc hb q17
    have q23 := kc hb q12; have q24 := kc hb q13
    replace R1 := Lib.hid (R1.out.below hb)
    clear hb q16 q17 q12 q13
    obtain ⟨W25, hW26, q27, q28, hb⟩ := ansBoxI m (.slice xa2 cs.length xc2) w5
    have ab29 := Lib.hid R1.out.top
    have ab30 := Lib.hid O2.out.top
    replace hN := bthen hN hb
    have q31 := kc hb q21; have q32 := kc hb q22
    have q33 := kc hb q23; have q34 := kc hb q24
    replace R1 := Lib.hid (R1.out.below hb)
    replace O2 := Lib.hid (O2.out.below hb)
    clear hb q21 q22 q23 q24
    go_wp2_with fail
    clear hW26
    go_wp2_with fail
    have ba35 := Lib.hid (cell_lt q31)
    have ba36 := Lib.hid (cell_lt q33)
    have ba37 := Lib.hid (cell_lt q27)
    have ap38 := Lib.hid R1.out.top
    have ap39 := Lib.hid O2.out.top
    have hs_R2 := Lib.hid hN.size
    go_wp2_with fail
    refine (C2.out _ _ O2.out.at).mono ?_
    rintro e w6 ⟨ya2, yc2, ts2, rfl, o, hb⟩
    have R2 := Lib.hid o
    clear o
    replace hN := bthen hN hb
    have q40 := kc hb q31; have q41 := kc hb q32
    have q42 := kc hb q33; have q43 := kc hb q34
    have q44 := kc hb q27; have q45 := kc hb q28
    replace R1 := Lib.hid (R1.out.below hb)
    replace O2 := Lib.hid (O2.out.below hb)
    clear hb q31 q32 q33 q34 q27 q28
    obtain ⟨W46, hW47, q48, q49, hb⟩ := ansBoxI rm (.slice ya2 ds.length yc2) w6
    have ab50 := Lib.hid R1.out.top
    have ab51 := Lib.hid O2.out.top
    have ab52 := Lib.hid R2.out.top
    replace hN := bthen hN hb
    have q53 := kc hb q40; have q54 := kc hb q41
    have q55 := kc hb q42; have q56 := kc hb q43
    have q57 := kc hb q44; have q58 := kc hb q45
    replace R1 := Lib.hid (R1.out.below hb)
    replace O2 := Lib.hid (O2.out.below hb)
    replace R2 := Lib.hid (R2.out.below hb)
    clear hb q40 q41 q42 q43 q44 q45
    go_wp2_with fail
    clear hW47
    go_wp2_with fail
    refine (eqInstance_same hds.1 hds.2 _ R2.out.at R1.out.at).mono ?_
    rintro e w7 ⟨rfl, hb⟩
    replace hN := bthen hN hb
    have q59 := kc hb q53; have q60 := kc hb q54
    have q61 := kc hb q55; have q62 := kc hb q56
    have q63 := kc hb q57; have q64 := kc hb q58
    have q65 := kc hb q48; have q66 := kc hb q49
    replace R1 := Lib.hid (R1.out.below hb)
    replace O2 := Lib.hid (O2.out.below hb)
    replace R2 := Lib.hid (R2.out.below hb)
    clear hb q53 q54 q55 q56 q57 q58 q48 q49
    -- the program's argument is as it was
    go_wp2_with fail
    have MK : Hid (∀ V : World, Below w7.heap.size w7 V → (((V.cell? ⟨w.heap.size, 0, none⟩ = some (.int .i64 m) ∧ V.cell? ⟨w.heap.size, 1, none⟩ = some (.slice a len cap)) ∧ (V.cell? ⟨w5.heap.size, 0, none⟩ = some (.int .i64 m) ∧ V.cell? ⟨w5.heap.size, 1, none⟩ = some (.slice xa2 cs.length xc2))) ∧ Below w7.heap.size w7 V)) := Lib.hid fun V h => ⟨⟨⟨kc h q59, kc h q60⟩, kc h q63, kc h q64⟩, h⟩
    have ST : Hid (∀ V V' : World, Below V.heap.size V V' → (((V.cell? ⟨w.heap.size, 0, none⟩ = some (.int .i64 m) ∧ V.cell? ⟨w.heap.size, 1, none⟩ = some (.slice a len cap)) ∧ (V.cell? ⟨w5.heap.size, 0, none⟩ = some (.int .i64 m) ∧ V.cell? ⟨w5.heap.size, 1, none⟩ = some (.slice xa2 cs.length xc2))) ∧ Below w7.heap.size w7 V) → (((V'.cell? ⟨w.heap.size, 0, none⟩ = some (.int .i64 m) ∧ V'.cell? ⟨w.heap.size, 1, none⟩ = some (.slice a len cap)) ∧ (V'.cell? ⟨w5.heap.size, 0, none⟩ = some (.int .i64 m) ∧ V'.cell? ⟨w5.heap.size, 1, none⟩ = some (.slice xa2 cs.length xc2))) ∧ Below w7.heap.size w7 V')) := Lib.hid fun V V' hb h => MK.out V' (bthen h.2 hb)
    have HNC := Lib.hid hN
    have TI : Hid (∀ V : World, (((V.cell? ⟨w.heap.size, 0, none⟩ = some (.int .i64 m) ∧ V.cell? ⟨w.heap.size, 1, none⟩ = some (.slice a len cap)) ∧ (V.cell? ⟨w5.heap.size, 0, none⟩ = some (.int .i64 m) ∧ V.cell? ⟨w5.heap.size, 1, none⟩ = some (.slice xa2 cs.length xc2))) ∧ Below w7.heap.size w7 V) → _) := Lib.hid fun V h => toInst_any (m := m) (cap := cap) HR.out HT.out V (bthen HNC.out h.2)
    have EQ : Hid (∀ (V V0 : World) (s : Value), (((V.cell? ⟨w.heap.size, 0, none⟩ = some (.int .i64 m) ∧ V.cell? ⟨w.heap.size, 1, none⟩ = some (.slice a len cap)) ∧ (V.cell? ⟨w5.heap.size, 0, none⟩ = some (.int .i64 m) ∧ V.cell? ⟨w5.heap.size, 1, none⟩ = some (.slice xa2 cs.length xc2))) ∧ Below w7.heap.size w7 V) → AtC V0 s cs → Below V0.heap.size V0 V → _) := Lib.hid fun V V0 s h h1 h2 => eqInstance_same (m := m) hcs.1 hcs.2 V (O2.out.at.below h.2) (h1.below h2)
    go_region_held3 (fun V => ((V.cell? ⟨w.heap.size, 0, none⟩ = some (.int .i64 m) ∧ V.cell? ⟨w.heap.size, 1, none⟩ = some (.slice a len cap)) ∧ (V.cell? ⟨w5.heap.size, 0, none⟩ = some (.int .i64 m) ∧ V.cell? ⟨w5.heap.size, 1, none⟩ = some (.slice xa2 cs.length xc2))) ∧ Below w7.heap.size w7 V)
      (first
        | with_reducible exact MK.out _ (Below.refl _ _).drew
        | (with_reducible refine ST.out _ _ hbE ?_; with_reducible assumption)
        | (with_reducible refine ST.out _ _ hbT ?_; with_reducible assumption)
        | with_reducible assumption)
      (first
        | (go_at_call 16; with_reducible refine (EQ.out _ _ _ (by with_reducible assumption) (o7.at) (by first | exact Below.refl _ _ | exact (Below.refl _ _).drew)).mono ?_; rintro e w8 ⟨rfl, hbE⟩; have T8 := ST.out _ _ hbE (by with_reducible assumption))
        | (go_at_call 14; with_reducible refine (TI.out _ (by with_reducible assumption)).mono ?_; rintro e w7 ⟨xa7, xc7, ss7, rfl, o7, hbT⟩; have T7 := ST.out _ _ hbT (by with_reducible assumption)))
    have hb := T8.2
    clear T8 T7 hbE hbT o7 MK ST TI EQ HNC
    replace hN := bthen hN hb
    have q67 := kc hb q59; have q68 := kc hb q60
    have q69 := kc hb q61; have q70 := kc hb q62
    have q71 := kc hb q63; have q72 := kc hb q64
    have q73 := kc hb q65; have q74 := kc hb q66
    replace R1 := Lib.hid (R1.out.below hb)
    replace O2 := Lib.hid (O2.out.below hb)
    replace R2 := Lib.hid (R2.out.below hb)
    clear hb q59 q60 q61 q62 q63 q64 q65 q66
    go_wp2_with fail
    refine (markInstance_any HSZ.out _ O2.out).mono ?_
    rintro e w8 ⟨rfl, o, hw⟩
    replace hN := Below.within hN hw hs_O2.out hN.size
    have q75 := hw.cell q67 (.inl ba18.out); have q76 := hw.cell q68 (.inl ba18.out)
    have q77 := hw.cell q69 (.inl ba19.out); have q78 := hw.cell q70 (.inl ba19.out)
    have q79 := hw.cell q71 (.inr ab30.out); have q80 := hw.cell q72 (.inr ab30.out)
    have q81 := hw.cell q73 (.inr ab51.out); have q82 := hw.cell q74 (.inr ab51.out)
    replace R1 := Lib.hid (R1.out.apart hw (.inl ap20.out))
    replace R2 := Lib.hid (R2.out.apart hw (.inr ap39.out))
    replace O2 := Lib.hid o
    clear o hw q67 q68 q69 q70 q71 q72 q73 q74
    go_wp2_with fail
    refine (eqInstance_same hds.1 hds.2 _ R2.out.at R1.out.at).mono ?_
    rintro e w9 ⟨rfl, hb⟩
    replace hN := bthen hN hb
    have q83 := kc hb q75; have q84 := kc hb q76
    have q85 := kc hb q77; have q86 := kc hb q78
    have q87 := kc hb q79; have q88 := kc hb q80
    have q89 := kc hb q81; have q90 := kc hb q82
    replace R1 := Lib.hid (R1.out.below hb)
    replace O2 := Lib.hid (O2.out.below hb)
    replace R2 := Lib.hid (R2.out.below hb)
    clear hb q75 q76 q77 q78 q79 q80 q81 q82
    clear O2
    clear q87 q88
    go_wp2_with fail
    refine (markInstance_any (by omega) _ R2.out).mono ?_
    rintro e w10 ⟨rfl, o, hw⟩
    replace hN := Below.within hN hw hs_R2.out hN.size
    have q91 := hw.cell q83 (.inl ba35.out); have q92 := hw.cell q84 (.inl ba35.out)
    have q93 := hw.cell q85 (.inl ba36.out); have q94 := hw.cell q86 (.inl ba36.out)
    have q95 := hw.cell q89 (.inr ab52.out); have q96 := hw.cell q90 (.inr ab52.out)
    replace R1 := Lib.hid (R1.out.apart hw (.inl ap38.out))
    replace R2 := Lib.hid o
    clear o hw q83 q84 q85 q86 q89 q90
    go_wp2_with fail
    refine (heldInstance_any hdz _ R2.out.at).mono ?_
    rintro e w11 ⟨rfl, hb⟩
    replace hN := bthen hN hb
    have q97 := kc hb q91; have q98 := kc hb q92
    have q99 := kc hb q93; have q100 := kc hb q94
    have q101 := kc hb q95; have q102 := kc hb q96
    replace R1 := Lib.hid (R1.out.below hb)
    replace R2 := Lib.hid (R2.out.below hb)
    clear hb q91 q92 q93 q94 q95 q96
    go_wp2_with fail
    have ba103 := Lib.hid (cell_lt q97)
    have ba104 := Lib.hid (cell_lt q99)
    have ba105 := Lib.hid (cell_lt q101)
    have ap106 := Lib.hid R1.out.top
    have ap107 := Lib.hid R2.out.top
    have hs_O3 := Lib.hid hN.size
    go_wp2_with fail
    refine (toInst_any HR.out HT.out _ hN).mono ?_
    rintro e w12 ⟨xa3, xc3, ss3, rfl, o, hb⟩
    have O3 := Lib.hid o
    clear o
    replace hN := bthen hN hb
    have q108 := kc hb q97; have q109 := kc hb q98
    have q110 := kc hb q99; have q111 := kc hb q100
    have q112 := kc hb q101; have q113 := kc hb q102
    replace R1 := Lib.hid (R1.out.below hb)
    replace R2 := Lib.hid (R2.out.below hb)
    clear hb q97 q98 q99 q100 q101 q102
    go_wp2_with fail
    have ba114 := Lib.hid (cell_lt q108)
    have ba115 := Lib.hid (cell_lt q110)
    have ba116 := Lib.hid (cell_lt q112)
    have ap117 := Lib.hid R1.out.top
    have ap118 := Lib.hid R2.out.top
    have ap119 := Lib.hid O3.out.top
    have hs_R3 := Lib.hid hN.size
    go_wp2_with fail
    refine (C2.out _ _ O3.out.at).mono ?_
    rintro e w13 ⟨ya3, yc3, ts3, rfl, o, hb⟩
    have R3 := Lib.hid o
    clear o
    replace hN := bthen hN hb
    have q120 := kc hb q108; have q121 := kc hb q109
    have q122 := kc hb q110; have q123 := kc hb q111
    have q124 := kc hb q112; have q125 := kc hb q113
    replace R1 := Lib.hid (R1.out.below hb)
    replace R2 := Lib.hid (R2.out.below hb)
    replace O3 := Lib.hid (O3.out.below hb)
    clear hb q108 q109 q110 q111 q112 q113
    obtain ⟨W126, hW127, q128, q129, hb⟩ := ansBoxI rm (.slice ya3 ds.length yc3) w13
    have ab130 := Lib.hid R1.out.top
    have ab131 := Lib.hid R2.out.top
    have ab132 := Lib.hid O3.out.top
    have ab133 := Lib.hid R3.out.top
    replace hN := bthen hN hb
    have q134 := kc hb q120; have q135 := kc hb q121
    have q136 := kc hb q122; have q137 := kc hb q123
    have q138 := kc hb q124; have q139 := kc hb q125
    replace R1 := Lib.hid (R1.out.below hb)
    replace R2 := Lib.hid (R2.out.below hb)
    replace O3 := Lib.hid (O3.out.below hb)
    replace R3 := Lib.hid (R3.out.below hb)
    clear hb q120 q121 q122 q123 q124 q125
    clear O3
    go_wp2_with fail
    clear hW127
    go_wp2_with fail
    refine (eqInstance_same hds.1 hds.2 _ R3.out.at R1.out.at).mono ?_
    rintro e w14 ⟨rfl, hb⟩
    replace hN := bthen hN hb
    have q140 := kc hb q134; have q141 := kc hb q135
    have q142 := kc hb q136; have q143 := kc hb q137
    have q144 := kc hb q138; have q145 := kc hb q139
    have q146 := kc hb q128; have q147 := kc hb q129
    replace R1 := Lib.hid (R1.out.below hb)
    replace R2 := Lib.hid (R2.out.below hb)
    replace R3 := Lib.hid (R3.out.below hb)
    clear hb q134 q135 q136 q137 q138 q139 q128 q129
    clear R3
    clear q146 q147
    go_wp2_with fail
    refine (heldInstance_any hdz _ R2.out.at).mono ?_
    rintro e w15 ⟨rfl, hb⟩
    replace hN := bthen hN hb
    have q148 := kc hb q140; have q149 := kc hb q141
    have q150 := kc hb q142; have q151 := kc hb q143
    have q152 := kc hb q144; have q153 := kc hb q145
    replace R1 := Lib.hid (R1.out.below hb)
    replace R2 := Lib.hid (R2.out.below hb)
    clear hb q140 q141 q142 q143 q144 q145
    go_wp2
    go_ret
    exact ⟨rfl, hN⟩
  · obtain ⟨W1, hW1⟩ : ∃ W1, w.alloc (.cells #[.int .i64 m, .slice a len cap] 24) = W1 := ⟨_, rfl⟩
    have qa : W1.cell? ⟨w.heap.size, 0, none⟩ = some (.int .i64 m) := by rw [← hW1]; simp [go_sem]
    have qb : W1.cell? ⟨w.heap.size, 1, none⟩ = some (.slice a len cap) := by rw [← hW1]; simp [go_sem]
    have hN : Below w.heap.size w W1 := by rw [← hW1]; exact bnew _ _
    have HC := Lib.hid (szInstance_over (m := m) (cap := cap) hr0 ht W1 hN)
    clear hr0 ht
    go_enter Try.func8, Try.ntmps8
    go_wp2_with (go_at_call 12; (try rw [hW1]); refine (HC.out).mono ?_; rintro e w' ⟨rfl, hb⟩)
    go_ret
    exact ⟨rfl, bthen hN hb⟩
end Go.Proofs.Ythkmapflbopdpaa
