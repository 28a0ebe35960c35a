/-
  The texts NU1, NP5, NK1, NK2, NV3, MR1, K7, K8, K9, M3, N1 in one.
-/
import Derived.Test.YtlohldddioikaaaMPRelationsKept3
import Derived.Deep.SlicePairs

/- NU1:
  The numbers of the tuples of a relation, in the program. -/
namespace Go.Proofs.Ytlohldddioikaaa
open Go.RowKit Go.Shelf
attribute [local go_sem] Oper.semAt_some
set_option linter.unusedVariables false
set_option linter.unusedSimpArgs false

/-- .. those handed out so far. -/
def tupF {R : Nat} (x : Nat) (pre : List (Row R)) : List Int := nI ((pre.map (·.1)).filter fun t => bitN x t == 1)
theorem tupF_yes {R : Nat} (x : Nat) (pre : List (Row R)) (y : Row R) (h : bitN x y.1 = 1) : tupF x (pre ++ [y]) = tupF x pre ++ [(y.1 : Int)] := by simp [tupF, nI, h]
theorem tupF_no {R : Nat} (x : Nat) (pre : List (Row R)) (y : Row R) (h : bitN x y.1 ≠ 1) : tupF x (pre ++ [y]) = tupF x pre := by simp [tupF, nI, h]
theorem tupF_len {R : Nat} (x : Nat) (pre : List (Row R)) : (tupF x pre).length ≤ pre.length := by
  rw [tupF, nI_length]
  exact Nat.le_trans (List.length_filter_le _ _) (by simp)
theorem tupF_upto {R : Nat} (hR : 0 < R) (x : Nat) : tupF x (upto hR R) = nI (tupsL x R) := by
  unfold tupF tupsL upto
  congr 2
  rw [List.map_map]
  refine (List.map_congr_left (g := id) fun k hk => ?_).trans (List.map_id _)
  exact rowAt_val hR (by simpa using hk)

set_option maxRecDepth 100000 in
set_option maxHeartbeats 4000000 in
theorem numbersOf_any {n : Int} {x R : Nat} (ok : FOk n x R) (w : World) :
    Calls Try.prog 95 #[.agg #[.int .i64 n, .int .i64 (x : Int)]] w (ListPost w.heap.size (nI (tupsL x R)) w) := by
  obtain ⟨i0, hi, hz0, hz1, hz2⟩ := info_parts infoI
  have r0 := ok.r0
  have r16 := ok.r16
  refine (callsIn_wide (n := 3)).1 ?_
  refine callsIn_of_wp_marks Try.func95 rfl trivial ?_ rfl
  simp only [Try.ntmps95, List.size_toArray, List.length_cons, List.length_nil, Nat.reduceAdd, Nat.reduceSub, Array.replicate_succ, Array.replicate_zero, List.push_toArray, List.append_toArray, List.nil_append, List.cons_append]
  gi_wp2_with (refine ⟨trivial, ?_⟩; gi_at_call 77; refine (callsIn_wide.2 (rowsOf_any _ _)).mono ?_; rintro e w' ⟨rfl, rfl⟩)
  obtain ⟨W0, hW0⟩ : ∃ W0, ((w.alloc (.cells #[.int .i64 n, .int .i64 (x : Int)] 25)).alloc (.cells #[.slice none 0 0] 61)).alloc (.cells #[.int .i64 n] 2) = W0 := ⟨_, rfl⟩
  have s0 : W0.cell? ⟨w.heap.size, 0, none⟩ = some (.int .i64 n) := by rw [← hW0]; simp [go_sem]
  have s1 : W0.cell? ⟨w.heap.size, 1, none⟩ = some (.int .i64 (x : Int)) := by rw [← hW0]; simp [go_sem]
  have hbx : Boxed W0 (w.heap.size + 1) 61 (.slice none 0 0) := by
    rw [← hW0, show w.heap.size + 1 = (w.alloc (.cells #[.int .i64 n, .int .i64 (x : Int)] 25)).heap.size by simp]; exact (Boxed.new _ _ _).alloc _
  have cM : W0.cell? ⟨w.heap.size + 1 + 1, 0, none⟩ = some (.int .i64 n) := by rw [← hW0]; simp [go_sem]
  have hsz : W0.heap.size = w.heap.size + 3 := by rw [← hW0]; simp [go_sem]
  have hB0 : Below w.heap.size w W0 := by rw [← hW0]; exact balloc (balloc (bnew _ _) _) _
  rw [hW0]
  clear hW0
  refine wpIn_rangeFunc_ownF (α := Row R) rfl (by omega) (gf := 99) (lb := #[.pointer (some ⟨w.heap.size + 1 + 1, 0, none⟩)]) rfl trivial (enters_of Try.func99 (by kernel_rfl) rfl)
    (rows_stops (3 - 1) (by omega) (w.heap.size + 1 + 1) (w.heap.size + 1) n R ok.h0 ok.h4 r0 r16 ok.hR W0 (by omega) cM) belowK_t (belowK_b (by omega)) (Below.refl _ _) (fun _ => rfl)
    (fun pre W => ((∃ v, Boxed W (w.heap.size + 1) 61 v ∧ W.ownsRow (w.heap.size + 1) 2 1 v (tupF x pre).length (ints (tupF x pre)) ∧ True) ∧ FBox w.heap.size n x W) ∧ Below w.heap.size w W)
    (fun _ _ _ => False)
    (OwnFrom.and (OwnFrom.and (Own.from (holdsRow_own (w.heap.size + 1) (w.heap.size + 1) 61 2 1 (fun pre => (tupF x pre).length) (fun pre => ints (tupF x pre)) (fun _ _ => True)) _) (Own.from (fun s A B row hs hg hr => ⟨cell_kept hs.c0 hg hr, cell_kept hs.c1 hg hr⟩) _)) (ownFrom_below (by omega) (by omega)))
    (fun _ _ _ _ _ hs _ _ => hs)
    ⟨⟨⟨_, hbx, World.ownsRow_nil _ _ _ _, trivial⟩, ⟨s0, s1⟩⟩, hB0⟩
    (fun y => { tmps := #[.agg #[.int .i64 n, .int .i64 (x : Int)], .pointer (some ⟨w.heap.size, 0, none⟩), .slice none 0 0, .pointer (some ⟨w.heap.size + 1, 0, none⟩), .int .i64 (y.1 : Int), .pointer (some ⟨w.heap.size, 0, none⟩), .int .i64 n,
      .func (.func 99) #[] #[.pointer (some ⟨w.heap.size + 1 + 1, 0, none⟩)], .int .i64 (y.1 : Int), undef, undef, undef, undef, undef, undef, undef, undef, undef, undef], defers := [] }) ?assign ?body ?done ?stop
  case assign =>
    intro l y W K hK
    unfold encRow
    gi_wp2
    exact hK
  case body =>
    clear cM s0 s1 hbx hB0
    rintro l pre y W ⟨⟨⟨v, hv, hrow, _⟩, hf⟩, hB⟩ hlen
    have c0 := hf.c0
    have c1 := hf.c1
    have hr := y.2
    have hle := tupF_len x pre
    have hbw : w.heap.size + 1 ≤ W.heap.size := Nat.le_of_lt hv.lt
    have DG := Lib.hid (fun W => digitOf_any x y.1 ok.hx (by omega) W)
    by_cases hp : bitN x y.1 = 1
    · have HC := Lib.hid (tupF_yes x pre y hp)
      have ht : ((bitN x y.1 : Int) == 1) = true := by simp [hp]
      clear hp
      generalize bitN x y.1 = bt at DG ht
      generalize y.1 = r at hr DG ⊢ HC
      generalize hlk : (tupF x pre).length = k at hle hrow
      have HLK := Lib.hid hlk
      clear hlk
      have HV := Lib.hid hv
      have dv := hv.cell
      have hv5 := hv.frozen
      gi_wp2_with (first
        | (refine ⟨trivial, ?_⟩; gi_at_call 87; refine (callsIn_wide.2 (DG.out _)).mono ?_; rintro e w' ⟨rfl, rfl⟩)
        | (gi_at_builtin; refine wpListIn_append_own _ rfl _ _ 61 rfl (w.heap.size + 1) 2 i0 (.int .i64 0) 1 8 Try.underlying61 hi hz0 hz1 hz2 rfl (by decide) _ _ _ rfl (hrow.alloc _) ⟨W.heap.size, 0, none⟩ 1 1 [.int .i64 (r : Int)] rfl rfl (cell_one_new _ _ _) (one_cell_int _) (by unfold maxLen; omega) (by omega) (by simp; omega) ?_; intro v' w1 hown' hgrow _; have HAP := Lib.hid (Boxed.appended HV.out (by decide) hrow hbw (Nat.le_refl _) hown' hgrow); obtain ⟨g5, cap5, rfl⟩ := ownsRow_succ hown'; have e5 := HAP.out.1.cell; have z5 := HAP.out.1.frozen; clear hgrow))
      obtain ⟨a1, a2, a3, a4, a5⟩ := HAP.out
      refine ⟨a4, a5, ⟨⟨_, a2, ?_, trivial⟩, ⟨(a5.cell (p := ⟨w.heap.size, 0, none⟩) (Nat.lt_succ_self _)).trans c0, (a5.cell (p := ⟨w.heap.size, 1, none⟩) (Nat.lt_succ_self _)).trans c1⟩⟩, hB.trans (a5.mono (Nat.le_succ _))⟩
      rw [HC.out, ints_snoc, List.length_append, HLK.out]
      exact a3
    · have HC := Lib.hid (tupF_no x pre y hp)
      have ht : ((bitN x y.1 : Int) == 1) = false := by simp; omega
      clear hp
      generalize bitN x y.1 = bt at DG ht
      generalize y.1 = r at hr DG ⊢ HC
      gi_wp2_with (refine ⟨trivial, ?_⟩; gi_at_call 87; refine (callsIn_wide.2 (DG.out _)).mono ?_; rintro e w' ⟨rfl, rfl⟩)
      refine ⟨KeepsOthers.refl _, Below.refl _ _, ⟨⟨v, hv, ?_, trivial⟩, ⟨c0, c1⟩⟩, hB⟩
      rw [HC.out]
      exact hrow
  case done =>
    rintro D ys W hD rfl ⟨⟨⟨v, hv, hrow, _⟩, _⟩, hB⟩ hK
    rw [tupF_upto r0] at hrow
    have dv := hv.cell
    have HR := Lib.hid hrow
    clear hrow hv
    gi_wp2
    refine ⟨by simp, .inl ⟨_, _, rfl, run_takeDeferred hK, ?_⟩⟩
    refine ⟨v, by simp [results, Try.results95, go_sem], v, rfl, ?_, hB.trans (belowK_b (w := w) (Nat.le_refl _) W D _ _ (by omega) hK rfl rfl)⟩
    exact Owns.mono (ownsRow_putObj HR.out _ hK rfl) (Nat.le_succ _)
  case stop =>
    rintro D c pre W _ _ h _
    exact h.elim
end Go.Proofs.Ytlohldddioikaaa

/- NP5:
  stepsOf and tuplesMade by contract: what a function makes of tuples, as a function that is ranged over. -/
namespace Go.Proofs.Ytlohldddioikaaa
open Go.RowKit Go.Shelf
attribute [local go_sem] Oper.semAt_some
set_option linter.unusedVariables false
set_option linter.unusedSimpArgs false

theorem hv15 (x : Nat) : ∀ q, bitN x q * 15 < 2 ^ 4 := fun q => by have := bitN_le x q; show bitN x q * 15 < 16; omega

set_option maxHeartbeats 1000000 in
theorem stepsOf_any (n x a : Int) (sa : Option Addr) (len cap : Nat) (w : World) :
    Calls Try.prog 103 #[.agg #[.int .i64 n, .int .i64 x], .int .i64 a, .slice sa len cap] w fun e w' => e = .returned (.func (.func 104) #[] #[.pointer (some ⟨w.heap.size, 0, none⟩), .pointer (some ⟨w.heap.size + 1 + 1, 0, none⟩), .pointer (some ⟨w.heap.size + 1, 0, none⟩)]) ∧
      w' = ((w.alloc (.cells #[.int .i64 n, .int .i64 x] 34)).alloc (.cells #[.int .i64 a] 2)).alloc (.cells #[.slice sa len cap] 61) := by
  go_enter Try.func103, Try.ntmps103
  go_wp2
  go_ret
  exact ⟨rfl, rfl⟩

theorem steps_seq {x R m : Nat} (ok : FOk (m : Int) x R) (m4 : m ≤ 4) (Bf Bg Bn K : Nat) (S : Nat → Prop) (sg : Value) (gs : List Nat) (g16 : ∀ a, a ∈ gs → a < 16) (gl : gs.length ≤ 16) (kS : ∀ k, K ≤ k → S k) (gS : ∀ k, sg.ownBlock = some k → S k)
    (w : World) (p0 : w.cell? ⟨Bf, 0, none⟩ = some (.int .i64 (m : Int))) (p1 : w.cell? ⟨Bf, 1, none⟩ = some (.int .i64 (x : Int))) (cg : w.cell? ⟨Bg, 0, none⟩ = some sg) (cn : w.cell? ⟨Bn, 0, none⟩ = some (.int .i64 2)) (hg : Owns w 0 sg (nI gs)) (n : Nat) :
    SeqX Fence.wide n Try.prog 104 #[.pointer (some ⟨Bf, 0, none⟩), .pointer (some ⟨Bg, 0, none⟩), .pointer (some ⟨Bn, 0, none⟩)] encS (fun xs => ∃ sp, xs = outs sp (hv15 x) gs [] m) (fun q => ∃ sp, q <+: outs sp (hv15 x) gs [] m) (gs.length ^ m) K S w := by
  intro l J Jx W hW hK hJ hJx hY hj
  refine (callsIn_wide.2 (steps1_any ok m4 l Bf Bg Bn K S sg gs g16 gl (Nat.le_refl _) J Jx hJ kS gS (fun pre x W h1 h2 => YieldAt.anyD 1 (hY pre x W h1 h2)) W (kc hW p0) (kc hW p1) (kc hW cg) (kc hW cn) (hg.below hW) hK hj)).mono ?_
  rintro e W' ⟨hv, ⟨sp, h⟩ | ⟨sp, q, hqp, h⟩⟩
  · exact ⟨hv, .inl ⟨_, ⟨sp, rfl⟩, h⟩⟩
  · exact ⟨hv, .inr ⟨q, ⟨sp, hqp⟩, h⟩⟩

set_option maxHeartbeats 1000000 in
theorem tuplesMade_any (n x k y : Int) (w : World) :
    Calls Try.prog 90 #[.agg #[.int .i64 n, .int .i64 x], .agg #[.int .i64 k, .int .i64 y]] w fun e w' => e = .returned (.func (.func 101) #[] #[.pointer (some ⟨w.heap.size + 1, 0, none⟩), .pointer (some ⟨w.heap.size, 0, none⟩)]) ∧
      w' = (w.alloc (.cells #[.int .i64 n, .int .i64 x] 34)).alloc (.cells #[.int .i64 k, .int .i64 y] 25) := by
  go_enter Try.func90, Try.ntmps90
  go_wp2
  go_ret
  exact ⟨rfl, rfl⟩

/-- What is handed on: the places of the relation alone. -/
def cutO {R : Nat} (hR : 0 < R) (P : Nat) (o : Out) : Row R := rowAt hR (o.2.1 &&& (2 ^ P - 1))
theorem cutO_val {R P : Nat} (hR : 0 < R) (hRP : R = 2 ^ P) (o : Out) : (cutO hR P o).1 = o.2.1 &&& (2 ^ P - 1) :=
  rowAt_val hR (by rw [hRP]; exact Nat.lt_of_le_of_lt Nat.and_le_right (by have := Nat.two_pow_pos P; omega))
theorem cut_outs {R P : Nat} (hR : 0 < R) (hRP : R = 2 ^ P) (h4 : P ≤ 4) (sp : Value) (x : Nat) (gs : List Nat) (m : Nat) : ((outs sp (hv15 x) gs [] m).map (cutO hR P)).map (·.1) = madeL x P gs [] m := by
  unfold outs madeL
  rw [List.map_map, List.map_map]
  refine List.map_congr_left fun t ht => ?_
  simp only [Function.comp, cutO_val hR hRP]
  exact tupV_lev x t P h4
theorem cut_pref {R P : Nat} (hR : 0 < R) (hRP : R = 2 ^ P) (h4 : P ≤ 4) (sp : Value) (x : Nat) (gs : List Nat) (m : Nat) (q : List Out) (hq : q <+: outs sp (hv15 x) gs [] m) : (q.map (cutO hR P)).map (·.1) <+: madeL x P gs [] m := by
  rw [← cut_outs hR hRP h4 sp x gs m]
  exact (hq.map _).map _
theorem and_mask (a P : Nat) (ha : a < 16) (hP : P ≤ 4) : bits .and .i64 (a : Int) ((2 ^ P - 1 : Nat) : Int) = ((a &&& (2 ^ P - 1) : Nat) : Int) := by
  have h : 2 ^ P ≤ 2 ^ 4 := Nat.pow_le_pow_right (by decide) hP
  have h1 : ∀ a : Nat, a < 16 → ∀ b : Nat, b < 16 → bits .and .i64 (a : Int) (b : Int) = ((a &&& b : Nat) : Int) := by decide +kernel
  exact h1 a ha _ (by omega)

set_option maxRecDepth 100000 in
set_option maxHeartbeats 8000000 in
theorem tuples1_in {x R m : Nat} (ok : FOk (m : Int) x R) (m4 : m ≤ 4) {P y Q : Nat} (okr : ROk (P : Int) y Q) (l Bf Br K : Nat) (J Jx : List (Row Q) → World → Prop) (hJ : Firm K J) (hJx : Firm K Jx)
    (W : World) (p0 : W.cell? ⟨Bf, 0, none⟩ = some (.int .i64 (m : Int))) (p1 : W.cell? ⟨Bf, 1, none⟩ = some (.int .i64 (x : Int))) (r0 : W.cell? ⟨Br, 0, none⟩ = some (.int .i64 (P : Int))) (r1 : W.cell? ⟨Br, 1, none⟩ = some (.int .i64 (y : Int))) (hK : K ≤ W.heap.size)
    (hY : ∀ pre z W1, J pre W1 → pre.length < (tupsL y Q).length ^ m → YieldAt Fence.wide 1 Try.prog l (encRow z) W1 fun e W' => Above (fun k => K ≤ k) W1 W' ∧ ((e = .returned (.bool true) ∧ J (pre ++ [z]) W') ∨ (e = .returned (.bool false) ∧ Jx (pre ++ [z]) W')))
    (hj : J [] W) :
    CallsIn Fence.wide 3 Try.prog 101 #[.func (.yield l) #[] #[], .pointer (some ⟨Br, 0, none⟩), .pointer (some ⟨Bf, 0, none⟩)] W fun e W' => (∃ v, e = .returned v) ∧ ((∃ ys, ys.map (·.1) = madeL x P (tupsL y Q) [] m ∧ J ys W') ∨ (∃ pre, pre.map (·.1) <+: madeL x P (tupsL y Q) [] m ∧ Jx pre W')) := by
  refine callsIn_of_wp_marks Try.func101 rfl trivial ?_ rfl
  simp only [Try.ntmps101, List.size_toArray, List.length_cons, List.length_nil, Nat.reduceAdd, Nat.reduceSub, Array.replicate_succ, Array.replicate_zero, List.push_toArray, List.append_toArray, List.nil_append, List.cons_append]
  have lf : Bf < W.heap.size := cell_lt p0
  have lr : Br < W.heap.size := cell_lt r0
  have lf1 : Bf < W.heap.size + 1 := by omega
  have lr1 : Br < W.heap.size + 1 := by omega
  have hQ : Q = 2 ^ P := by have := okr.he; simpa using this
  have hQ0 := okr.r0
  have hQ16 := okr.r16
  obtain ⟨M, hM⟩ : ∃ M, M = 2 ^ P - 1 := ⟨_, rfl⟩
  have hl1 : ∀ w, Calls Try.prog 102 #[.int .i64 (P : Int)] w fun e w' => e = .returned (.int .i64 (M : Int)) ∧ w = w' := by
    have h := lastRow_is okr.h0 okr.h4 okr.r0 okr.r16 okr.hR
    have e : (Q : Int) - 1 = (M : Int) := by omega
    rw [e] at h
    exact h
  have HM := Lib.hid hM
  have HQ := Lib.hid hQ
  clear hM hQ
  obtain ⟨gl, hgl⟩ : ∃ gl, gl = (tupsL y Q).length := ⟨_, rfl⟩
  have hlen : (nI (tupsL y Q)).length = gl := by rw [nI_length, hgl]
  have HGL := Lib.hid hgl
  clear hgl
  obtain ⟨V, hV⟩ : ∃ V, (W.alloc (.cells #[.func (.yield l) #[] #[]] 106)).alloc (.cells #[.int .i64 (M : Int)] 2) = V := ⟨_, rfl⟩
  have hb : Below W.heap.size W V := by rw [← hV]; exact balloc (bnew _ _) _
  have hbY : V.heap[W.heap.size]? = some (.cells #[.func (.yield l) #[] #[]] 106 (0, 0)) := by
    rw [← hV]; exact (Below.heap_alloc _ _ _ (by simp)).trans (heap_alloc_new _ _)
  have hbM : V.heap[W.heap.size + 1]? = some (.cells #[.int .i64 (M : Int)] 2 (0, 0)) := by
    rw [← hV, show W.heap.size + 1 = (W.alloc (.cells #[.func (.yield l) #[] #[]] 106)).heap.size by simp]; exact heap_alloc_new _ _
  have hjV : J [] V := by rw [← hV]; exact hJ.alloc _ (hJ.alloc _ hj)
  have sV : W.heap.size + 2 = V.heap.size := by rw [← hV]; simp
  gi_wp2_with (first
    | (refine ⟨trivial, ?_⟩; gi_at_call 102; refine (callsIn_wide.2 (hl1 _)).mono ?_; rintro e w' ⟨rfl, rfl⟩))
  have c0 := kc hb p0
  have c1 := kc hb p1
  have d0 := kc hb r0
  have d1 := kc hb r1
  have SV := Lib.hid sV
  clear hV p0 p1 r0 r1 hj sV
  refine wpIn_mono (Q := fun e a w' => e = .normal ∧ ∃ X sa cap, a = { tmps := #[.func (.yield l) #[] #[], .pointer (some ⟨Br, 0, none⟩), .pointer (some ⟨Bf, 0, none⟩), .pointer (some ⟨W.heap.size, 0, none⟩), .pointer (some ⟨W.heap.size + 1, 0, none⟩), undef, undef, .pointer (some ⟨Br, 0, none⟩), .int .i64 P, .int .i64 M, .agg #[.int .i64 m, .int .i64 x], .agg #[.int .i64 P, .int .i64 y], .slice sa gl cap, .func (.func 104) #[] #[.pointer (some ⟨X, 0, none⟩), .pointer (some ⟨X + 1 + 1, 0, none⟩), .pointer (some ⟨X + 1, 0, none⟩)], undef, undef, undef, undef, undef, undef, undef, undef], defers := [] } ∧ Below V.heap.size V w' ∧ Owns w' V.heap.size (.slice sa gl cap) (nI (tupsL y Q)) ∧ (X + 3 = w'.heap.size ∧ V.heap.size ≤ X) ∧ w'.cell? ⟨X, 0, none⟩ = some (.int .i64 m) ∧ w'.cell? ⟨X, 1, none⟩ = some (.int .i64 x) ∧ w'.cell? ⟨X + 1 + 1, 0, none⟩ = some (.slice sa gl cap) ∧ w'.cell? ⟨X + 1, 0, none⟩ = some (.int .i64 2)) ?reg ?rest
  case reg =>
    have FIN := Lib.hid (fun (w3 : World) (sa : Option Addr) (cap : Nat) (hb3 : Below V.drew.heap.size V.drew w3) (o3 : Owns w3 V.drew.heap.size (.slice sa gl cap) (nI (tupsL y Q))) =>
      show (Exit.normal = .normal ∧ ∃ X sa' cap', ({ tmps := #[.func (.yield l) #[] #[], .pointer (some ⟨Br, 0, none⟩), .pointer (some ⟨Bf, 0, none⟩), .pointer (some ⟨W.heap.size, 0, none⟩), .pointer (some ⟨W.heap.size + 1, 0, none⟩), undef, undef, .pointer (some ⟨Br, 0, none⟩), .int .i64 P, .int .i64 M, .agg #[.int .i64 m, .int .i64 x], .agg #[.int .i64 P, .int .i64 y], .slice sa gl cap, .func (.func 104) #[] #[.pointer (some ⟨w3.heap.size, 0, none⟩), .pointer (some ⟨w3.heap.size + 1 + 1, 0, none⟩), .pointer (some ⟨w3.heap.size + 1, 0, none⟩)], undef, undef, undef, undef, undef, undef, undef, undef], defers := [] } : Act) = { tmps := #[.func (.yield l) #[] #[], .pointer (some ⟨Br, 0, none⟩), .pointer (some ⟨Bf, 0, none⟩), .pointer (some ⟨W.heap.size, 0, none⟩), .pointer (some ⟨W.heap.size + 1, 0, none⟩), undef, undef, .pointer (some ⟨Br, 0, none⟩), .int .i64 P, .int .i64 M, .agg #[.int .i64 m, .int .i64 x], .agg #[.int .i64 P, .int .i64 y], .slice sa' gl cap', .func (.func 104) #[] #[.pointer (some ⟨X, 0, none⟩), .pointer (some ⟨X + 1 + 1, 0, none⟩), .pointer (some ⟨X + 1, 0, none⟩)], undef, undef, undef, undef, undef, undef, undef, undef], defers := [] } ∧ Below V.heap.size V (((w3.alloc (.cells #[.int .i64 m, .int .i64 x] 34)).alloc (.cells #[.int .i64 2] 2)).alloc (.cells #[.slice sa gl cap] 61)) ∧ Owns (((w3.alloc (.cells #[.int .i64 m, .int .i64 x] 34)).alloc (.cells #[.int .i64 2] 2)).alloc (.cells #[.slice sa gl cap] 61)) V.heap.size (.slice sa' gl cap') (nI (tupsL y Q)) ∧ (X + 3 = (((w3.alloc (.cells #[.int .i64 m, .int .i64 x] 34)).alloc (.cells #[.int .i64 2] 2)).alloc (.cells #[.slice sa gl cap] 61)).heap.size ∧ V.heap.size ≤ X) ∧ (((w3.alloc (.cells #[.int .i64 m, .int .i64 x] 34)).alloc (.cells #[.int .i64 2] 2)).alloc (.cells #[.slice sa gl cap] 61)).cell? ⟨X, 0, none⟩ = some (.int .i64 m) ∧ (((w3.alloc (.cells #[.int .i64 m, .int .i64 x] 34)).alloc (.cells #[.int .i64 2] 2)).alloc (.cells #[.slice sa gl cap] 61)).cell? ⟨X, 1, none⟩ = some (.int .i64 x) ∧ (((w3.alloc (.cells #[.int .i64 m, .int .i64 x] 34)).alloc (.cells #[.int .i64 2] 2)).alloc (.cells #[.slice sa gl cap] 61)).cell? ⟨X + 1 + 1, 0, none⟩ = some (.slice sa' gl cap') ∧ (((w3.alloc (.cells #[.int .i64 m, .int .i64 x] 34)).alloc (.cells #[.int .i64 2] 2)).alloc (.cells #[.slice sa gl cap] 61)).cell? ⟨X + 1, 0, none⟩ = some (.int .i64 2)) from
        ⟨rfl, w3.heap.size, sa, cap, rfl, balloc (balloc (balloc ((Below.refl _ V).drew.trans hb3) _) _) _, ((Owns.below o3 (bnew _ _)).below (bnew _ _)).below (bnew _ _), ⟨by simp, hb3.size⟩, by simp [go_sem], by simp [go_sem], by simp [go_sem], by simp [go_sem]⟩)
    have hmx : Try.prog.follows .mixedOrders = true := by kernel_rfl
    refine wpIn_region_any hmx ?_
    change wpAnyIn _ _ _ _ _ _ _ _ _ (World.drew _)
    refine wpAnyIn_ready (rs := [0, 1]) (by kernel_rfl) (by simp) ?_
    refine AllReadyIn.cons rfl (fun K hK => ?_) ?_
    · go_simp
      refine hK _ _ ?_
      clear hK K
      refine wpAnyIn_ready (rs := [1]) (by kernel_rfl) (by simp) ?_
      refine AllReadyIn.cons rfl (fun K hK => ?_) ?_
      · go_simp
        refine hK _ _ ?_
        clear hK K
        refine wpAnyIn_ready (rs := [2]) (by kernel_rfl) (by simp) ?_
        refine AllReadyIn.cons rfl (fun K hK => ?_) ?_
        · go_simp
          refine ⟨trivial, ?_⟩
          refine (callsIn_wide.2 (numbersOf_any okr.toFOk _)).mono ?_
          rintro e w3 ⟨s3, rfl, o3, hb3⟩
          have hb4 := kcd hb3 c0
          have hb5 := kcd hb3 c1
          obtain ⟨sa, cap, rfl⟩ := owns_len o3 hlen
          have O3 := Lib.hid o3
          clear o3
          dsimp only
          refine hK _ _ ?_
          clear hK K
          refine wpAnyIn_ready (rs := [3]) (by kernel_rfl) (by simp) ?_
          refine AllReadyIn.cons rfl (fun K hK => ?_) ?_
          · go_simp
            refine ⟨trivial, ?_⟩
            refine (callsIn_wide.2 (stepsOf_any _ _ _ _ _ _ _)).mono ?_
            rintro e w4 ⟨rfl, rfl⟩
            dsimp only
            refine hK _ _ ?_
            clear hK K
            refine wpAnyIn_done (by kernel_rfl) ?_ _
            exact FIN.out _ _ _ hb3 O3.out
          exact AllReadyIn.nil
        exact AllReadyIn.nil
      exact AllReadyIn.nil
    refine AllReadyIn.cons rfl (fun K hK => ?_) ?_
    · go_simp
      refine hK _ _ ?_
      clear hK K
      refine wpAnyIn_ready (rs := [0, 2]) (by kernel_rfl) (by simp) ?_
      refine AllReadyIn.cons rfl (fun K hK => ?_) ?_
      · go_simp
        refine hK _ _ ?_
        clear hK K
        refine wpAnyIn_ready (rs := [2]) (by kernel_rfl) (by simp) ?_
        refine AllReadyIn.cons rfl (fun K hK => ?_) ?_
        · go_simp
          refine ⟨trivial, ?_⟩
          refine (callsIn_wide.2 (numbersOf_any okr.toFOk _)).mono ?_
          rintro e w3 ⟨s3, rfl, o3, hb3⟩
          have hb4 := kcd hb3 c0
          have hb5 := kcd hb3 c1
          obtain ⟨sa, cap, rfl⟩ := owns_len o3 hlen
          have O3 := Lib.hid o3
          clear o3
          dsimp only
          refine hK _ _ ?_
          clear hK K
          refine wpAnyIn_ready (rs := [3]) (by kernel_rfl) (by simp) ?_
          refine AllReadyIn.cons rfl (fun K hK => ?_) ?_
          · go_simp
            refine ⟨trivial, ?_⟩
            refine (callsIn_wide.2 (stepsOf_any _ _ _ _ _ _ _)).mono ?_
            rintro e w4 ⟨rfl, rfl⟩
            dsimp only
            refine hK _ _ ?_
            clear hK K
            refine wpAnyIn_done (by kernel_rfl) ?_ _
            exact FIN.out _ _ _ hb3 O3.out
          exact AllReadyIn.nil
        exact AllReadyIn.nil
      refine AllReadyIn.cons rfl (fun K hK => ?_) ?_
      · go_simp
        refine ⟨trivial, ?_⟩
        refine (callsIn_wide.2 (numbersOf_any okr.toFOk _)).mono ?_
        rintro e w3 ⟨s3, rfl, o3, hb3⟩
        have hb4 := kcd hb3 c0
        have hb5 := kcd hb3 c1
        obtain ⟨sa, cap, rfl⟩ := owns_len o3 hlen
        have O3 := Lib.hid o3
        clear o3
        dsimp only
        refine hK _ _ ?_
        clear hK K
        refine wpAnyIn_ready (rs := [0]) (by kernel_rfl) (by simp) ?_
        refine AllReadyIn.cons rfl (fun K hK => ?_) ?_
        · go_simp
          refine hK _ _ ?_
          clear hK K
          refine wpAnyIn_ready (rs := [3]) (by kernel_rfl) (by simp) ?_
          refine AllReadyIn.cons rfl (fun K hK => ?_) ?_
          · go_simp
            refine ⟨trivial, ?_⟩
            refine (callsIn_wide.2 (stepsOf_any _ _ _ _ _ _ _)).mono ?_
            rintro e w4 ⟨rfl, rfl⟩
            dsimp only
            refine hK _ _ ?_
            clear hK K
            refine wpAnyIn_done (by kernel_rfl) ?_ _
            exact FIN.out _ _ _ hb3 O3.out
          exact AllReadyIn.nil
        exact AllReadyIn.nil
      exact AllReadyIn.nil
    exact AllReadyIn.nil
  case rest =>
    rintro e a w5 ⟨rfl, X, sa, cap, rfl, hb5, o5, ⟨x5, x6⟩, e0, e1, e2, e3⟩
    have hj5 := hJ.below hjV hb5
    have sV := SV.out
    have s5 := hb5.size
    have hbl : ∀ k, (Value.slice sa gl cap).ownBlock = some k → V.heap.size ≤ k ∧ k < w5.heap.size := fun k e => World.ownsRow.lt o5 k e
    have hmem : ∀ a, a ∈ tupsL y Q → a < 16 := fun a ha => by have := (tupsL_mem.1 ha).1; omega
    have htl := tupsL_len y Q
    gi_wp2_with fail
    refine wpIn_rangeFunc_X (α := Out) rfl (by omega) (T := fun k => K ≤ k ∧ k ≠ w5.heap.size + 1) (gf := 104) (lb := #[.pointer (some ⟨X, 0, none⟩), .pointer (some ⟨X + 1 + 1, 0, none⟩), .pointer (some ⟨X + 1, 0, none⟩)]) rfl trivial (enters_of Try.func104 (by kernel_rfl) rfl) (fun h => h.2 rfl)
      (steps_seq ok m4 X (X + 1 + 1) (X + 1) (w5.heap.size + 2) _ (.slice sa gl cap) (tupsL y Q) hmem (by omega) (fun k hk => ⟨by omega, by omega⟩) (fun k e => ⟨by have := hbl k e; omega, by have := hbl k e; omega⟩) w5 e0 e1 e2 e3 (Owns.mono o5 (Nat.zero_le _)) (3 - 1))
      (Below.refl _ _) (fun _ => rfl)
      (fun pre W' => J (pre.map (cutO hQ0 P)) W' ∧ (W'.heap[W.heap.size]? = some (.cells #[.func (.yield l) #[] #[]] 106 (0, 0)) ∧ W'.heap[W.heap.size + 1]? = some (.cells #[.int .i64 (M : Int)] 2 (0, 0))))
      (fun c pre W' => c = .ret ∧ Jx (pre.map (cutO hQ0 P)) W')
      (Firm.and (fun pre => hJ.mono (by omega) (pre.map (cutO hQ0 P))) (Firm.and (firm_block (by omega) _) (firm_block (by omega) _)))
      (fun c pre A B row hs hg hr => ⟨hs.1, hJx.mono (by omega) _ A B row hs.2 hg hr⟩)
      ⟨hj5, (hb5.block _ (by omega)).trans hbY, (hb5.block _ (by omega)).trans hbM⟩
      (fun z => { tmps := #[.func (.yield l) #[] #[], .pointer (some ⟨Br, 0, none⟩), .pointer (some ⟨Bf, 0, none⟩), .pointer (some ⟨W.heap.size, 0, none⟩), .pointer (some ⟨W.heap.size + 1, 0, none⟩), undef, .int .i64 (z.2.1 : Int), .pointer (some ⟨Br, 0, none⟩), .int .i64 P, .int .i64 M, .agg #[.int .i64 m, .int .i64 x], .agg #[.int .i64 P, .int .i64 y], .slice sa gl cap, .func (.func 104) #[] #[.pointer (some ⟨X, 0, none⟩), .pointer (some ⟨X + 1 + 1, 0, none⟩), .pointer (some ⟨X + 1, 0, none⟩)], z.1, .int .i64 (z.2.1 : Int), undef, undef, undef, undef, undef, undef], defers := [] }) ?assign ?body ?done ?stop
    case assign =>
      intro l' z W' K' hK'
      unfold encS
      gi_wp2
      exact hK'
    case body =>
      rintro l' pre z W' ⟨hjp, hy1, hm1⟩ hlenp
      have hYP := hY (pre.map (cutO hQ0 P)) (cutO hQ0 P z) W' hjp (by rw [List.length_map]; exact hlenp)
      obtain ⟨fn, tmps, assign, body, hy, hR⟩ := YieldAt.anyD (3 - 1 - 1 - 1) hYP
      have cy : W'.cell? ⟨W.heap.size, 0, none⟩ = some (.func (.yield l) #[] #[]) := by simp [World.cell?, hy1]
      have cm : W'.cell? ⟨W.heap.size + 1, 0, none⟩ = some (.int .i64 (M : Int)) := by simp [World.cell?, hm1]
      have hz := z.2.2
      have hval := cutO_val hQ0 HQ.out z
      have hand : bits .and .i64 (z.2.1 : Int) (M : Int) = ((cutO hQ0 P z).1 : Int) := by
        rw [hval, HM.out]; exact and_mask _ _ hz (by have := okr.h4; omega)
      unfold encRow at hy
      have HY1 := Lib.hid hy1
      have HM1 := Lib.hid hm1
      have lY : W.heap.size < W'.heap.size := cell_lt cy
      clear hval hy1 hm1 hYP
      generalize (cutO hQ0 P z).1 = cz at hand hy
      gi_wp2
      refine hR.mono ?_
      rintro e W3 ⟨ha, ⟨rfl, hj3⟩ | ⟨rfl, hj3⟩⟩
      · gi_wp2
        refine ⟨⟨⟨ha.size, fun k o hk h0 _ => (ha.same k (by omega) (Array.getElem?_eq_some_iff.1 h0).1).trans h0⟩, ha.mono (fun k h => h.1)⟩, ?_, ?_, ?_⟩
        · rw [List.map_append]; exact hj3
        · exact (ha.same _ hK (by omega)).trans HY1.out
        · exact (ha.same _ (by omega) (Array.getElem?_eq_some_iff.1 HM1.out).1).trans HM1.out
      · gi_wp2
        exact ⟨⟨⟨ha.size, fun k o hk h0 _ => (ha.same k (by omega) (Array.getElem?_eq_some_iff.1 h0).1).trans h0⟩, ha.mono (fun k h => h.1)⟩, rfl, by rw [List.map_append]; exact hj3⟩
    case done =>
      rintro D xs W' hD ⟨sp, rfl⟩ ⟨hjx, _⟩ hKd
      gi_wp2
      refine ⟨by simp, .inl ⟨_, _, rfl, run_takeDeferred hKd, ?_⟩⟩
      exact ⟨_, results_none rfl _ _ _, ⟨_, rfl⟩, .inl ⟨_, cut_outs hQ0 HQ.out (by have := okr.h4; omega) sp x _ m, hJ.put D _ hjx (by omega)⟩⟩
    case stop =>
      rintro D c pre W' hD ⟨sp, hsp⟩ ⟨rfl, hq⟩ hKd
      gi_wp2
      refine ⟨by simp, .inl ⟨_, _, rfl, run_takeDeferred hKd, ?_⟩⟩
      exact ⟨_, results_none rfl _ _ _, ⟨_, rfl⟩, .inr ⟨_, cut_pref hQ0 HQ.out (by have := okr.h4; omega) sp x _ m _ hsp, hJx.put D _ hq (by omega)⟩⟩

theorem tuples_seq {x R m : Nat} (ok : FOk (m : Int) x R) (m4 : m ≤ 4) {P y Q : Nat} (okr : ROk (P : Int) y Q) (Bf Br K n : Nat)
    (w : World) (p0 : w.cell? ⟨Bf, 0, none⟩ = some (.int .i64 (m : Int))) (p1 : w.cell? ⟨Bf, 1, none⟩ = some (.int .i64 (x : Int))) (r0 : w.cell? ⟨Br, 0, none⟩ = some (.int .i64 (P : Int))) (r1 : w.cell? ⟨Br, 1, none⟩ = some (.int .i64 (y : Int))) :
    SeqX Fence.wide n Try.prog 101 #[.pointer (some ⟨Br, 0, none⟩), .pointer (some ⟨Bf, 0, none⟩)] (encRow (R := Q)) (fun ys => ys.map (·.1) = madeL x P (tupsL y Q) [] m) (fun ys => ys.map (·.1) <+: madeL x P (tupsL y Q) [] m) ((tupsL y Q).length ^ m) K (fun k => K ≤ k) w := by
  intro l J Jx W hW hK hJ hJx hY hj
  exact callsIn_wide.2 (callsIn_wide.1 (tuples1_in ok m4 okr l Bf Br K J Jx hJ hJx W (kc hW p0) (kc hW p1) (kc hW r0) (kc hW r1) hK (fun pre z W1 h1 h2 => YieldAt.anyD 1 (hY pre z W1 h1 h2)) hj))
end Go.Proofs.Ytlohldddioikaaa

/- NK1:
  keeps and withMade of the program. -/
namespace Go.Proofs.Ytlohldddioikaaa
open Go.RowKit Go.Shelf
attribute [local go_sem] Oper.semAt_some
set_option linter.unusedVariables false
set_option linter.unusedSimpArgs false

theorem firm_all {β : Type} (K : Nat) (p : β → Prop) : Firm K (fun s (_ : World) => p s) := fun _ _ _ _ hs _ _ => hs
theorem above_keeps {K : Nat} {W W' : World} (h : Below W.heap.size W W') (S : Nat → Prop) : KeepsFrom K W W' ∧ Above S W W' :=
  ⟨⟨h.size, fun k o _ hk _ => (h.block k (Array.getElem?_eq_some_iff.1 hk).1).trans hk⟩, Above.below h⟩

set_option maxRecDepth 100000 in
set_option maxHeartbeats 8000000 in
theorem keeps_any {x R m : Nat} (ok : FOk (m : Int) x R) (m4 : m ≤ 4) {P y Q : Nat} (okr : ROk (P : Int) y Q) (w : World) :
    Calls Try.prog 62 #[.agg #[.int .i64 m, .int .i64 x], .agg #[.int .i64 P, .int .i64 y]] w fun e w' => e = .returned (.bool (keepsN x y m P)) ∧ Below w.heap.size w w' := by
  have hQ : Q = 2 ^ P := by have := okr.he; simpa using this
  have hq16 := okr.r16
  have HKN : Hid (keepsN x y m P = (madeL x P (tupsL y Q) [] m).all fun t => bitN y t == 1) := Lib.hid (by rw [keepsN, hQ])
  clear hQ
  obtain ⟨W0, hW0⟩ : ∃ W0, ((((w.alloc (.cells #[.int .i64 m, .int .i64 x] 34)).alloc (.cells #[.int .i64 P, .int .i64 y] 25)).alloc (.cells #[.bool false] 4)).alloc (.cells #[.int .i64 m, .int .i64 x] 34)).alloc (.cells #[.int .i64 P, .int .i64 y] 25) = W0 := ⟨_, rfl⟩
  refine (callsIn_wide (n := 3)).1 ?_
  refine callsIn_of_wp_marks Try.func62 rfl trivial ?_ rfl
  simp only [Try.ntmps62, List.size_toArray, List.length_cons, List.length_nil, Nat.reduceAdd, Nat.reduceSub, Array.replicate_succ, Array.replicate_zero, List.push_toArray, List.append_toArray, List.nil_append, List.cons_append]
  gi_wp2_with (refine ⟨trivial, ?_⟩; gi_at_call 90; refine (callsIn_wide.2 (tuplesMade_any _ _ _ _ _)).mono ?_; rintro e w' ⟨rfl, rfl⟩)
  have sz : W0.heap.size = w.heap.size + 5 := by rw [← hW0]; simp
  have hB0 : Below w.heap.size w W0 := by rw [← hW0]; exact balloc (balloc (balloc (balloc (bnew _ _) _) _) _) _
  have f0 : W0.cell? ⟨w.heap.size + 1 + 1 + 1, 0, none⟩ = some (.int .i64 (m : Int)) := by rw [← hW0]; simp [go_sem]
  have f1 : W0.cell? ⟨w.heap.size + 1 + 1 + 1, 1, none⟩ = some (.int .i64 (x : Int)) := by rw [← hW0]; simp [go_sem]
  have r0 : W0.cell? ⟨w.heap.size + 1 + 1 + 1 + 1, 0, none⟩ = some (.int .i64 (P : Int)) := by rw [← hW0]; simp [go_sem]
  have r1 : W0.cell? ⟨w.heap.size + 1 + 1 + 1 + 1, 1, none⟩ = some (.int .i64 (y : Int)) := by rw [← hW0]; simp [go_sem]
  have b1 : W0.cell? ⟨w.heap.size + 1, 1, none⟩ = some (.int .i64 (y : Int)) := by rw [← hW0]; simp [go_sem]
  have g0 : W0.cell? ⟨w.heap.size + 1 + 1, 0, none⟩ = some (.bool false) := by rw [← hW0]; simp [go_sem]
  have g1 : W0.frozen? ⟨w.heap.size + 1 + 1, 0, none⟩ = false := by rw [← hW0]; simp [go_sem]
  have hbr0 : W0.heap[w.heap.size + 1]? = some (.cells #[.int .i64 P, .int .i64 y] 25 (0, 0)) := by
    rw [← hW0]
    have e := heap_alloc_new (w.alloc (.cells #[.int .i64 m, .int .i64 x] 34)) (.cells #[.int .i64 P, .int .i64 y] 25)
    rw [World.size_alloc] at e
    exact (Below.heap_alloc _ _ _ (by simp <;> omega)).trans ((Below.heap_alloc _ _ _ (by simp <;> omega)).trans ((Below.heap_alloc _ _ _ (by simp)).trans e))
  have hbg0 : W0.heap[w.heap.size + 1 + 1]? = some (.cells #[.bool false] 4 (0, 0)) := by
    rw [← hW0]
    have e := heap_alloc_new ((w.alloc (.cells #[.int .i64 m, .int .i64 x] 34)).alloc (.cells #[.int .i64 P, .int .i64 y] 25)) (.cells #[.bool false] 4)
    rw [World.size_alloc, World.size_alloc] at e
    exact (Below.heap_alloc _ _ _ (by simp <;> omega)).trans ((Below.heap_alloc _ _ _ (by simp)).trans e)
  try rw [hW0]
  have hbr : W0.heap[w.heap.size + 1]? = some (.cells #[.int .i64 P, .int .i64 y] 25 (0, 0)) := hbr0
  have hbg : Boxed W0 (w.heap.size + 1 + 1) 4 (.bool false) := hbg0
  clear hW0 hbr0 hbg0
  refine wpIn_rangeFunc_X (α := Row Q) rfl (by omega) (T := fun k => W0.heap.size + 2 ≤ k) (gf := 101) (lb := #[.pointer (some ⟨w.heap.size + 1 + 1 + 1 + 1, 0, none⟩), .pointer (some ⟨w.heap.size + 1 + 1 + 1, 0, none⟩)]) rfl trivial (enters_of Try.func101 (by kernel_rfl) rfl) (by omega)
    (tuples_seq ok m4 okr (w.heap.size + 1 + 1 + 1) (w.heap.size + 1 + 1 + 1 + 1) (W0.heap.size + 2) (3 - 1) W0 f0 f1 r0 r1)
    (Below.refl _ _) (fun _ => rfl)
    (fun pre W => (∀ t, t ∈ pre.map (·.1) → bitN y t = 1) ∧ (W.heap[w.heap.size + 1]? = some (.cells #[.int .i64 P, .int .i64 y] 25 (0, 0)) ∧ (W.heap[w.heap.size + 1 + 1]? = some (.cells #[.bool false] 4 (0, 0)) ∧ Below w.heap.size w W)))
    (fun c pre W => (c = .ret ∧ ∃ t, t ∈ pre.map (·.1) ∧ bitN y t ≠ 1) ∧ (W.heap[w.heap.size + 1 + 1]? = some (.cells #[.bool false] 4 (0, 0)) ∧ Below w.heap.size w W))
    (Firm.and (firm_all _ _) (Firm.and (firm_block (by omega) _) (Firm.and (firm_block (by omega) _) (firm_below (by omega) (Nat.le_refl _)))))
    (fun c => Firm.and (firm_all _ _) (Firm.and (firm_block (by omega) _) (firm_below (by omega) (Nat.le_refl _))))
    ⟨fun t ht => (by simp at ht), hbr, hbg, hB0⟩
    (fun z => { tmps := #[.agg #[.int .i64 m, .int .i64 x], .agg #[.int .i64 P, .int .i64 y], .pointer (some ⟨w.heap.size, 0, none⟩), .pointer (some ⟨w.heap.size + 1, 0, none⟩), .pointer (some ⟨w.heap.size + 1 + 1, 0, none⟩), .int .i64 (z.1 : Int), .agg #[.int .i64 m, .int .i64 x], .agg #[.int .i64 P, .int .i64 y], .func (.func 101) #[] #[.pointer (some ⟨w.heap.size + 1 + 1 + 1 + 1, 0, none⟩), .pointer (some ⟨w.heap.size + 1 + 1 + 1, 0, none⟩)], .int .i64 (z.1 : Int), undef, undef, undef, undef, undef], defers := [] }) ?assign ?body ?done ?stop
  case assign =>
    intro l z W K hK
    unfold encRow
    gi_wp2
    exact hK
  case body =>
    clear hbr hbg hB0 f0 f1 r0 r1 b1 g0 g1
    rintro l pre z W ⟨hall, hr, hg, hB⟩ hlen
    have b1 : W.cell? ⟨w.heap.size + 1, 1, none⟩ = some (.int .i64 (y : Int)) := by simp [World.cell?, hr]
    have g0 : W.cell? ⟨w.heap.size + 1 + 1, 0, none⟩ = some (.bool false) := Boxed.cell hg
    have g1 : W.frozen? ⟨w.heap.size + 1 + 1, 0, none⟩ = false := Boxed.frozen hg
    have hz := z.2
    have DG := Lib.hid (fun W => digitOf_any y z.1 okr.hx (by omega) W)
    have HG := Lib.hid hg
    have HR := Lib.hid hr
    have hbl := bitN_le y z.1
    by_cases hp : bitN y z.1 = 1
    · have ht : ((bitN y z.1 : Int) == 0) = false := by simp [hp]
      have HALL : Hid (∀ t, t ∈ (pre ++ [z]).map (·.1) → bitN y t = 1) := Lib.hid fun t h => by
        rw [List.map_append, List.mem_append] at h
        rcases h with h | h
        · exact hall t h
        · simp at h; rw [h]; exact hp
      clear hall hp hg hr
      generalize bitN y z.1 = bt at DG ht hbl
      generalize z.1 = r at hz DG ⊢
      gi_wp2_with (refine ⟨trivial, ?_⟩; gi_at_call 87; refine (callsIn_wide.2 (DG.out _)).mono ?_; rintro e w' ⟨rfl, rfl⟩)
      exact ⟨⟨KeepsFrom.refl _ _, Above.refl _ _⟩, HALL.out, HR.out, HG.out, hB⟩
    · have ht : ((bitN y z.1 : Int) == 0) = true := by simp; omega
      have HEX : Hid (∃ t, t ∈ (pre ++ [z]).map (·.1) ∧ bitN y t ≠ 1) := Lib.hid ⟨z.1, by simp, hp⟩
      clear hall hp hg hr
      generalize bitN y z.1 = bt at DG ht hbl
      generalize z.1 = r at hz DG ⊢
      gi_wp2_with (refine ⟨trivial, ?_⟩; gi_at_call 87; refine (callsIn_wide.2 (DG.out _)).mono ?_; rintro e w' ⟨rfl, rfl⟩)
      exact ⟨⟨(KeepsOthers.setCell _ _ _).from _, Above.grown (grownSet _ _ _ _) (fun r e => by cases e; omega)⟩, ⟨rfl, HEX.out⟩, Boxed.set (.bool false) HG.out, hB.setCell (p := ⟨w.heap.size + 1 + 1, 0, none⟩) (by show w.heap.size ≤ w.heap.size + 1 + 1; omega) _⟩
  case done =>
    clear hbr hbg hB0 f0 f1 r0 r1 b1 g0 g1
    rintro D ys W hD hys ⟨hall, _, hg, hB⟩ hKd
    have g0 : W.cell? ⟨w.heap.size + 1 + 1, 0, none⟩ = some (.bool false) := Boxed.cell hg
    have g1 : W.frozen? ⟨w.heap.size + 1 + 1, 0, none⟩ = false := Boxed.frozen hg
    have hk : keepsN x y m P = true := by
      rw [HKN.out, ← hys, List.all_eq_true]
      intro t ht; rw [hall t ht]; rfl
    have HKK := Lib.hid hk
    clear hk
    have h1 := Boxed.cell (Boxed.set (.bool true) hg)
    have hKd' := (KeepsOthers.setCell W ⟨w.heap.size + 1 + 1, 0, none⟩ (.bool true)).same D _ hKd rfl
    have h2 := cell_kept h1 (grownBy_putObj' _ D (.deferred none)) (fun r e => by cases e; exact ⟨_, hKd', rfl⟩)
    have HG := Lib.hid hg
    clear hg h1
    gi_wp2
    refine ⟨by simp, .inl ⟨_, _, rfl, run_takeDeferred hKd', ?_⟩⟩
    refine ⟨.bool true, by simp [results, Try.results62, go_sem, h2], by rw [HKK.out], ?_⟩
    exact (hB.setCell (p := ⟨w.heap.size + 1 + 1, 0, none⟩) (by show w.heap.size ≤ w.heap.size + 1 + 1; omega) _).trans (belowK_b (w := w) (Nat.le_refl _) _ D _ _ (by omega) hKd' rfl rfl)
  case stop =>
    clear hbr hbg hB0 f0 f1 r0 r1 b1 g0 g1
    rintro D c pre W hD hpre ⟨⟨rfl, t, ht, hb⟩, hg, hB⟩ hKd
    have hk : keepsN x y m P = false := by
      rw [HKN.out]
      cases hc : (madeL x P (tupsL y Q) [] m).all fun t => bitN y t == 1
      · rfl
      · have := List.all_eq_true.1 hc t (hpre.subset ht)
        exact absurd (by simpa using this) hb
    have HKK := Lib.hid hk
    clear hk
    have h1 := Boxed.cell hg
    have h2 := cell_kept h1 (grownBy_putObj' _ D (.deferred none)) (fun r e => by cases e; exact ⟨_, hKd, rfl⟩)
    gi_wp2
    refine ⟨by simp, .inl ⟨_, _, rfl, run_takeDeferred hKd, ?_⟩⟩
    refine ⟨.bool false, by simp [results, Try.results62, go_sem, h2], by rw [HKK.out], ?_⟩
    exact hB.trans (belowK_b (w := w) (Nat.le_refl _) _ D _ _ (by omega) hKd rfl rfl)
end Go.Proofs.Ytlohldddioikaaa

/- NK2:
  withMade of the program. -/
namespace Go.Proofs.Ytlohldddioikaaa
open Go.RowKit Go.Shelf
attribute [local go_sem] Oper.semAt_some
set_option linter.unusedVariables false
set_option linter.unusedSimpArgs false

theorem withMade_nums {y Q : Nat} (hy : y < 2 ^ Q) (hq16 : Q ≤ 16) (pre : List (Row Q)) (z : Row Q) : ∃ p2 b c : Nat, p2 < 65536 ∧ b < 65536 ∧ IntKind.i64.wrap ((2 : Int) ^ z.1) = (p2 : Int) ∧ bits .or .i64 (b : Int) (p2 : Int) = (c : Int) ∧ b = orL y (pre.map (·.1)) ∧ Hid (orL y ((pre ++ [z]).map (·.1)) = c) := by
  have hz := z.2
  have hp16 : 2 ^ z.1 < 65536 := Nat.lt_of_lt_of_le (Nat.pow_lt_pow_right (by decide) (Nat.lt_of_lt_of_le hz hq16)) (by decide : 2 ^ 16 ≤ 65536)
  have hb16 : orL y (pre.map (·.1)) < 65536 := by
    refine Nat.lt_of_lt_of_le (orL_lt hy (fun t ht => ?_)) (Nat.pow_le_pow_right (by decide) hq16 : 2 ^ Q ≤ 2 ^ 16)
    obtain ⟨q, _, rfl⟩ := List.mem_map.1 ht
    exact q.2
  have e : (2 : Int) ^ z.1 = ((2 ^ z.1 : Nat) : Int) := by push_cast; rfl
  have HC : orL y ((pre ++ [z]).map (·.1)) = orL y (pre.map (·.1)) ||| 2 ^ z.1 := by rw [List.map_append]; simp [orL]
  refine ⟨2 ^ z.1, orL y (pre.map (·.1)), orL y (pre.map (·.1)) ||| 2 ^ z.1, hp16, hb16, ?_, ?_, rfl, Lib.hid HC⟩
  · rw [e]
    generalize 2 ^ z.1 = p at hp16 ⊢
    clear hb16 hy HC e
    exact wrap64_small (by omega) (by omega)
  · exact bits_or_nat _ _ (Nat.lt_trans hb16 (by decide)) (Nat.lt_trans hp16 (by decide))

set_option maxRecDepth 100000 in
set_option maxHeartbeats 8000000 in
theorem withMade_any {x R m : Nat} (ok : FOk (m : Int) x R) (m4 : m ≤ 4) {P y Q : Nat} (okr : ROk (P : Int) y Q) (w : World) :
    Calls Try.prog 70 #[.agg #[.int .i64 m, .int .i64 x], .agg #[.int .i64 P, .int .i64 y]] w fun e w' => e = .returned (.agg #[.int .i64 P, .int .i64 (orL y (madeL x P (tupsL y Q) [] m) : Int)]) ∧ Below w.heap.size w w' := by
  have hq16 := okr.r16
  have hy := Lib.hid okr.hB
  obtain ⟨W0, hW0⟩ : ∃ W0, (((((w.alloc (.cells #[.int .i64 m, .int .i64 x] 34)).alloc (.cells #[.int .i64 P, .int .i64 y] 25)).alloc (.cells #[.int .i64 0, .int .i64 0] 25)).alloc (.cells #[.int .i64 P, .int .i64 y] 25)).alloc (.cells #[.int .i64 m, .int .i64 x] 34)).alloc (.cells #[.int .i64 P, .int .i64 y] 25) = W0 := ⟨_, rfl⟩
  refine (callsIn_wide (n := 3)).1 ?_
  refine callsIn_of_wp_marks Try.func70 rfl trivial ?_ rfl
  simp only [Try.ntmps70, List.size_toArray, List.length_cons, List.length_nil, Nat.reduceAdd, Nat.reduceSub, Array.replicate_succ, Array.replicate_zero, List.push_toArray, List.append_toArray, List.nil_append, List.cons_append]
  gi_wp2_with (refine ⟨trivial, ?_⟩; gi_at_call 90; refine (callsIn_wide.2 (tuplesMade_any _ _ _ _ _)).mono ?_; rintro e w' ⟨rfl, rfl⟩)
  have sz : W0.heap.size = w.heap.size + 6 := by rw [← hW0]; simp
  have hB0 : Below w.heap.size w W0 := by rw [← hW0]; exact balloc (balloc (balloc (balloc (balloc (bnew _ _) _) _) _) _) _
  have f0 : W0.cell? ⟨w.heap.size + 1 + 1 + 1 + 1, 0, none⟩ = some (.int .i64 (m : Int)) := by rw [← hW0]; simp [go_sem]
  have f1 : W0.cell? ⟨w.heap.size + 1 + 1 + 1 + 1, 1, none⟩ = some (.int .i64 (x : Int)) := by rw [← hW0]; simp [go_sem]
  have r0 : W0.cell? ⟨w.heap.size + 1 + 1 + 1 + 1 + 1, 0, none⟩ = some (.int .i64 (P : Int)) := by rw [← hW0]; simp [go_sem]
  have r1 : W0.cell? ⟨w.heap.size + 1 + 1 + 1 + 1 + 1, 1, none⟩ = some (.int .i64 (y : Int)) := by rw [← hW0]; simp [go_sem]
  have hbg : W0.heap[w.heap.size + 1 + 1 + 1]? = some (.cells #[.int .i64 P, .int .i64 y] 25 (0, 0)) := by
    rw [← hW0]
    have e := heap_alloc_new (((w.alloc (.cells #[.int .i64 m, .int .i64 x] 34)).alloc (.cells #[.int .i64 P, .int .i64 y] 25)).alloc (.cells #[.int .i64 0, .int .i64 0] 25)) (.cells #[.int .i64 P, .int .i64 y] 25)
    rw [World.size_alloc, World.size_alloc, World.size_alloc] at e
    exact (Below.heap_alloc _ _ _ (by simp <;> omega)).trans ((Below.heap_alloc _ _ _ (by simp)).trans e)
  have hbo : W0.heap[w.heap.size + 1 + 1]? = some (.cells #[.int .i64 0, .int .i64 0] 25 (0, 0)) := by
    rw [← hW0]
    have e := heap_alloc_new ((w.alloc (.cells #[.int .i64 m, .int .i64 x] 34)).alloc (.cells #[.int .i64 P, .int .i64 y] 25)) (.cells #[.int .i64 0, .int .i64 0] 25)
    rw [World.size_alloc, World.size_alloc] at e
    exact (Below.heap_alloc _ _ _ (by simp <;> omega)).trans ((Below.heap_alloc _ _ _ (by simp <;> omega)).trans ((Below.heap_alloc _ _ _ (by simp)).trans e))
  try rw [hW0]
  clear hW0
  refine wpIn_rangeFunc_X (α := Row Q) rfl (by omega) (T := fun k => W0.heap.size + 2 ≤ k) (gf := 101) (lb := #[.pointer (some ⟨w.heap.size + 1 + 1 + 1 + 1 + 1, 0, none⟩), .pointer (some ⟨w.heap.size + 1 + 1 + 1 + 1, 0, none⟩)]) rfl trivial (enters_of Try.func101 (by kernel_rfl) rfl) (by omega)
    (tuples_seq ok m4 okr (w.heap.size + 1 + 1 + 1 + 1) (w.heap.size + 1 + 1 + 1 + 1 + 1) (W0.heap.size + 2) (3 - 1) W0 f0 f1 r0 r1)
    (Below.refl _ _) (fun _ => rfl)
    (fun pre W => W.heap[w.heap.size + 1 + 1 + 1]? = some (.cells #[.int .i64 P, .int .i64 (orL y (pre.map (·.1)) : Int)] 25 (0, 0)) ∧ (W.heap[w.heap.size + 1 + 1]? = some (.cells #[.int .i64 0, .int .i64 0] 25 (0, 0)) ∧ Below w.heap.size w W))
    (fun _ _ _ => False)
    (Firm.and (fun pre => firm_block (β := Unit) (by omega) (.cells #[.int .i64 P, .int .i64 (orL y (pre.map (·.1)) : Int)] 25 (0, 0)) ()) (Firm.and (firm_block (by omega) _) (firm_below (by omega) (Nat.le_refl _))))
    (fun c _ _ _ _ h _ _ => h)
    ⟨hbg, hbo, hB0⟩
    (fun z => { tmps := #[.agg #[.int .i64 m, .int .i64 x], .agg #[.int .i64 P, .int .i64 y], .pointer (some ⟨w.heap.size, 0, none⟩), .pointer (some ⟨w.heap.size + 1, 0, none⟩), .pointer (some ⟨w.heap.size + 1 + 1, 0, none⟩), .pointer (some ⟨w.heap.size + 1 + 1 + 1, 0, none⟩), .int .i64 (z.1 : Int), .agg #[.int .i64 P, .int .i64 y], .agg #[.int .i64 m, .int .i64 x], .agg #[.int .i64 P, .int .i64 y], .func (.func 101) #[] #[.pointer (some ⟨w.heap.size + 1 + 1 + 1 + 1 + 1, 0, none⟩), .pointer (some ⟨w.heap.size + 1 + 1 + 1 + 1, 0, none⟩)], .int .i64 (z.1 : Int), undef, undef, undef, undef, undef, undef, undef], defers := [] }) ?assign ?body ?done ?stop
  case assign =>
    intro l z W K hK
    unfold encRow
    gi_wp2
    exact hK
  case body =>
    clear hbg hbo hB0 f0 f1 r0 r1
    rintro l pre z W ⟨hg, ho, hB⟩ hlen
    have hz := z.2
    obtain ⟨p2, b, c, hp16, hb16, hs, hor, hb, HC⟩ := withMade_nums hy.out hq16 pre z
    rw [← hb] at hg
    have g1 : W.cell? ⟨w.heap.size + 1 + 1 + 1, 1, none⟩ = some (.int .i64 (b : Int)) := by simp [World.cell?, hg]
    have z1 : W.frozen? ⟨w.heap.size + 1 + 1 + 1, 1, none⟩ = false := by simp [World.frozen?, hg]
    have hset : (((W.setCell ⟨w.heap.size + 1 + 1 + 1, 1, none⟩ (.int .i64 (c : Int))).drew).heap[w.heap.size + 1 + 1 + 1]?) = some (.cells #[.int .i64 P, .int .i64 (c : Int)] 25 (0, 0)) := by
      obtain ⟨hlt, hk⟩ := Array.getElem?_eq_some_iff.1 hg
      show (W.heap.modify (w.heap.size + 1 + 1 + 1) _)[w.heap.size + 1 + 1 + 1]? = _
      rw [Array.getElem?_eq_getElem (by rw [Array.size_modify]; exact hlt), Array.getElem_modify_self, hk]
      rfl
    have END := Lib.hid (show (KeepsFrom W0.heap.size W ((W.setCell ⟨w.heap.size + 1 + 1 + 1, 1, none⟩ (.int .i64 (c : Int))).drew) ∧ Above (fun k => W0.heap.size + 2 ≤ k) W ((W.setCell ⟨w.heap.size + 1 + 1 + 1, 1, none⟩ (.int .i64 (c : Int))).drew)) ∧
      (((W.setCell ⟨w.heap.size + 1 + 1 + 1, 1, none⟩ (.int .i64 (c : Int))).drew).heap[w.heap.size + 1 + 1 + 1]? = some (.cells #[.int .i64 P, .int .i64 (orL y ((pre ++ [z]).map (·.1)) : Int)] 25 (0, 0)) ∧ (((W.setCell ⟨w.heap.size + 1 + 1 + 1, 1, none⟩ (.int .i64 (c : Int))).drew).heap[w.heap.size + 1 + 1]? = some (.cells #[.int .i64 0, .int .i64 0] 25 (0, 0)) ∧ Below w.heap.size w ((W.setCell ⟨w.heap.size + 1 + 1 + 1, 1, none⟩ (.int .i64 (c : Int))).drew))) from
      ⟨⟨KeepsFrom.trans ((KeepsOthers.setCell W _ _).from _) (show KeepsFrom _ _ (World.drew _) from ⟨Nat.le_refl _, fun _ _ _ h _ => h⟩), Above.trans (Above.grown (grownSet _ _ _ _) (fun r e => by cases e; omega)) (Above.below (Below.refl _ _).drew)⟩,
        by rw [HC.out]; exact hset, (Below.heap_setCell _ _ _ _ (by simp)).trans ho, (hB.setCell (p := ⟨w.heap.size + 1 + 1 + 1, 1, none⟩) (by show w.heap.size ≤ w.heap.size + 1 + 1 + 1; omega) _).drew⟩)
    have hmx : Try.prog.follows .mixedOrders = true := by kernel_rfl
    have g1' : W.drew.cell? ⟨w.heap.size + 1 + 1 + 1, 1, none⟩ = some (.int .i64 (b : Int)) := g1
    have z1' : W.drew.frozen? ⟨w.heap.size + 1 + 1 + 1, 1, none⟩ = false := z1
    clear hg ho hb hset
    generalize z.1 = t at hz hs ⊢
    gi_wp2
    refine wpIn_region_any hmx ?_
    refine wpAnyIn_round (F := Fence.wide) l (by kernel_rfl) _ _ _ _ ?_
    change wpAnyIn _ _ _ _ _ _ _ _ _ (World.drew _)
    refine wpAnyIn_take (i := 0) (v := ?_) rfl rfl (by kernel_rfl) (by kernel_rfl) (by kernel_rfl) (fun _ _ _ h => h) ⟨Or.inl ⟨by rfl, by intro w; go_simp; try (with_reducible rfl)⟩, fun _ => rfl⟩ ?_
    refine wpAnyIn_take (i := 2) (v := ?_) rfl rfl (by kernel_rfl) (by kernel_rfl) (by kernel_rfl) (fun _ _ _ h => h) ⟨Or.inl ⟨by rfl, by intro w; go_simp; try (with_reducible rfl)⟩, fun _ => rfl⟩ ?_
    refine wpAnyIn_ready (rs := [1, 3]) (by kernel_rfl) (by simp) ?_
    refine AllReadyIn.cons rfl (fun K hK => ?_) ?_
    · go_simp
      refine hK _ _ ?_
      clear hK K
      refine wpAnyIn_ready (rs := [3]) (by kernel_rfl) (by simp) ?_
      refine AllReadyIn.cons rfl (fun K hK => ?_) ?_
      · go_simp
        refine hK _ _ ?_
        clear hK K
        refine wpAnyIn_ready (rs := [4]) (by kernel_rfl) (by simp) ?_
        refine AllReadyIn.cons rfl (fun K hK => ?_) ?_
        · go_simp
          refine hK _ _ ?_
          clear hK K
          refine wpAnyIn_ready (rs := [5]) (by kernel_rfl) (by simp) ?_
          refine AllReadyIn.cons rfl (fun K hK => ?_) ?_
          · go_simp
            refine hK _ _ ?_
            clear hK K
            refine wpAnyIn_ready (rs := [6]) (by kernel_rfl) (by simp) ?_
            refine AllReadyIn.cons rfl (fun K hK => ?_) ?_
            · go_simp
              refine hK _ _ ?_
              clear hK K
              refine wpAnyIn_done (by kernel_rfl) ?_ _
              gi_wp2
              exact END.out
            exact AllReadyIn.nil
          exact AllReadyIn.nil
        exact AllReadyIn.nil
      exact AllReadyIn.nil
    refine AllReadyIn.cons rfl (fun K hK => ?_) ?_
    · go_simp
      refine hK _ _ ?_
      clear hK K
      refine wpAnyIn_ready (rs := [1]) (by kernel_rfl) (by simp) ?_
      refine AllReadyIn.cons rfl (fun K hK => ?_) ?_
      · go_simp
        refine hK _ _ ?_
        clear hK K
        refine wpAnyIn_ready (rs := [4]) (by kernel_rfl) (by simp) ?_
        refine AllReadyIn.cons rfl (fun K hK => ?_) ?_
        · go_simp
          refine hK _ _ ?_
          clear hK K
          refine wpAnyIn_ready (rs := [5]) (by kernel_rfl) (by simp) ?_
          refine AllReadyIn.cons rfl (fun K hK => ?_) ?_
          · go_simp
            refine hK _ _ ?_
            clear hK K
            refine wpAnyIn_ready (rs := [6]) (by kernel_rfl) (by simp) ?_
            refine AllReadyIn.cons rfl (fun K hK => ?_) ?_
            · go_simp
              refine hK _ _ ?_
              clear hK K
              refine wpAnyIn_done (by kernel_rfl) ?_ _
              gi_wp2
              exact END.out
            exact AllReadyIn.nil
          exact AllReadyIn.nil
        exact AllReadyIn.nil
      exact AllReadyIn.nil
    exact AllReadyIn.nil
  case done =>
    clear hbg hbo hB0 f0 f1 r0 r1
    rintro D ys W hD hys ⟨hg, ho, hB⟩ hKd
    rw [hys] at hg
    obtain ⟨c, hc⟩ : ∃ c, c = orL y (madeL x P (tupsL y Q) [] m) := ⟨_, rfl⟩
    rw [← hc] at hg
    have HC := Lib.hid hc
    clear hc
    have g0 : W.cell? ⟨w.heap.size + 1 + 1 + 1, 0, none⟩ = some (.int .i64 (P : Int)) := by simp [World.cell?, hg]
    have g1 : W.cell? ⟨w.heap.size + 1 + 1 + 1, 1, none⟩ = some (.int .i64 (c : Int)) := by simp [World.cell?, hg]
    have o0 : W.cell? ⟨w.heap.size + 1 + 1, 0, none⟩ = some (.int .i64 0) := by simp [World.cell?, ho]
    have o1 : W.cell? ⟨w.heap.size + 1 + 1, 1, none⟩ = some (.int .i64 0) := by simp [World.cell?, ho]
    have q0 : W.frozen? ⟨w.heap.size + 1 + 1, 0, none⟩ = false := by simp [World.frozen?, ho]
    have q1 : W.frozen? ⟨w.heap.size + 1 + 1, 1, none⟩ = false := by simp [World.frozen?, ho]
    obtain ⟨W2, hW2⟩ : ∃ W2, (W.setCell ⟨w.heap.size + 1 + 1, 0, none⟩ (.int .i64 (P : Int))).setCell ⟨w.heap.size + 1 + 1, 1, none⟩ (.int .i64 (c : Int)) = W2 := ⟨_, rfl⟩
    have hKd' : W2.heap[D]? = some (.deferred (some [])) := by
      rw [← hW2]
      exact ((KeepsOthers.setCell W _ _).trans (KeepsOthers.setCell _ _ _)).same D _ hKd rfl
    have h0 : W2.cell? ⟨w.heap.size + 1 + 1, 0, none⟩ = some (.int .i64 (P : Int)) := by rw [← hW2]; simp [go_sem, o0, o1]
    have h1 : W2.cell? ⟨w.heap.size + 1 + 1, 1, none⟩ = some (.int .i64 (c : Int)) := by rw [← hW2]; simp [go_sem, o0, o1]
    have k0 := cell_kept h0 (grownBy_putObj' _ D (.deferred none)) (fun r e => by cases e; exact ⟨_, hKd', rfl⟩)
    have k1 := cell_kept h1 (grownBy_putObj' _ D (.deferred none)) (fun r e => by cases e; exact ⟨_, hKd', rfl⟩)
    have hB2 : Below w.heap.size w W2 := by
      rw [← hW2]
      exact (hB.setCell (p := ⟨w.heap.size + 1 + 1, 0, none⟩) (by show w.heap.size ≤ w.heap.size + 1 + 1; omega) _).setCell (p := ⟨w.heap.size + 1 + 1, 1, none⟩) (by show w.heap.size ≤ w.heap.size + 1 + 1; omega) _
    clear hg ho h0 h1
    gi_wp2
    first | rw [hW2] | skip
    refine ⟨by simp, .inl ⟨_, _, rfl, run_takeDeferred hKd', ?_⟩⟩
    refine ⟨.agg #[.int .i64 P, .int .i64 (c : Int)], by simp [results, Try.results70, go_sem, k0, k1], by rw [HC.out], ?_⟩
    exact hB2.trans (belowK_b (w := w) (Nat.le_refl _) _ D _ _ (by omega) hKd' rfl rfl)
  case stop =>
    rintro D c pre W _ _ h _
    exact h.elim
end Go.Proofs.Ytlohldddioikaaa

/- NV3:
  KeepsRelation in both packages. -/
namespace Go.Proofs.Ytlohldddioikaaa
open Go.RowKit
set_option linter.unusedVariables false
set_option linter.unusedSimpArgs false

theorem keeps_andNot {x y m P Q : Nat} (hQ : Q = 2 ^ P) (hQ16 : Q ≤ 16) : (bits .andNot .i64 (orL 0 (madeL x P (tupsL y Q) [] m) : Int) (y : Int) == 0) = keepsN x y m P := by
  have hl : orL 0 (madeL x P (tupsL y Q) [] m) < 2 ^ Q := orL_lt (Nat.two_pow_pos Q) (fun t ht => by rw [hQ]; exact madeL_lt ht)
  have h := andNot_no Q _ y hQ16 hl
  have e : (bits .andNot .i64 (orL 0 (madeL x P (tupsL y Q) [] m) : Int) (y : Int) == 0) = allLt Q fun r => !(bitN (orL 0 (madeL x P (tupsL y Q) [] m)) r == 1 && bitN y r == 0) := by
    have h2 : (bits .andNot .i64 (orL 0 (madeL x P (tupsL y Q) [] m) : Int) (y : Int) == 0) = !(bits .andNot .i64 (orL 0 (madeL x P (tupsL y Q) [] m) : Int) (y : Int) != 0) := by simp [bne]
    rw [h2, h, Bool.not_not]
  rw [e, Bool.eq_iff_iff, allLt_iff]
  unfold keepsN
  rw [← hQ, List.all_eq_true]
  have hb : ∀ r, bitN (orL 0 (madeL x P (tupsL y Q) [] m)) r = 1 ↔ r ∈ madeL x P (tupsL y Q) [] m := fun r => by
    rw [bitN_testBit, orL_bit, Nat.zero_testBit, Bool.false_or]
    by_cases hm : r ∈ madeL x P (tupsL y Q) [] m
    · have hc : (madeL x P (tupsL y Q) [] m).contains r = true := by simpa using hm
      rw [hc]; simp [hm]
    · have hc : (madeL x P (tupsL y Q) [] m).contains r = false := by simpa using hm
      rw [hc]; simp [hm]
  constructor
  · intro hall t ht
    have h1 := hall t (by rw [hQ]; exact madeL_lt ht)
    rw [(hb t).2 ht] at h1
    have := bitN_le y t
    rw [beq_iff_eq]
    rcases (show bitN y t = 0 ∨ bitN y t = 1 by omega) with e0 | e1
    · rw [e0] at h1; simp at h1
    · exact e1
  · intro hall r hr
    by_cases h1 : bitN (orL 0 (madeL x P (tupsL y Q) [] m)) r = 1
    · have h2 := hall r ((hb r).1 h1)
      rw [beq_iff_eq] at h2
      rw [h2]; simp
    · simp [h1]

set_option maxRecDepth 100000 in
set_option maxHeartbeats 8000000 in
theorem l06Keeps_any {x R k : Nat} (ok : FOk (k : Int) x R) (k4 : k ≤ 4) {P y Q : Nat} (okr : ROk (P : Int) y Q) (w : World) :
    Calls Try.prog 60 #[.agg #[.int .i64 k, .int .i64 x], .agg #[.int .i64 P, .int .i64 y]] w fun e w' => e = .returned (.bool (keepsN x y k P)) ∧ Below w.heap.size w w' := by
  have hQ : Q = 2 ^ P := by have := okr.he; simpa using this
  have hQ16 := okr.r16
  have htl := tupsL_len y Q
  have hke := keeps_andNot (x := x) (y := y) (m := k) hQ hQ16
  have LST := Lib.hid (fun W => l06List_any okr.toFOk W)
  have MADE : Hid (∀ (W : World) (s : Value) (g : Nat), Owns W 0 s (nI (tupsL y Q)) → Calls Try.prog 69 #[.agg #[.int .i64 k, .int .i64 (x : Int)], .agg #[.int .i64 P, .int .i64 (y : Int)], s, .slice (some ⟨g, 0, none⟩) 0 0] W fun e w' => e = .returned (.int .i64 (orL 0 (madeL x P (tupsL y Q) [] k) : Int)) ∧ Below W.heap.size W w') := Lib.hid fun W s g ho =>
    l06Made_any ok k4 okr (tupsL y Q) (by omega) (fun a ha => by have := (tupsL_mem.1 ha).1; omega) k [] g 0 s W (by simp) (fun a ha => by simp at ha) ho (Lib.hid fun j hj => by simp at hj)
  generalize orL 0 (madeL x P (tupsL y Q) [] k) = om at hke MADE
  obtain ⟨W1, hW1⟩ : ∃ W1, (w.alloc (.cells #[.int .i64 (k : Int), .int .i64 (x : Int)] 34)).alloc (.cells #[.int .i64 (P : Int), .int .i64 (y : Int)] 25) = W1 := ⟨_, rfl⟩
  have p0 : W1.cell? ⟨w.heap.size, 0, none⟩ = some (.int .i64 (k : Int)) := by rw [← hW1]; simp [go_sem]
  have p1 : W1.cell? ⟨w.heap.size, 1, none⟩ = some (.int .i64 (x : Int)) := by rw [← hW1]; simp [go_sem]
  have r0 : W1.cell? ⟨w.heap.size + 1, 0, none⟩ = some (.int .i64 (P : Int)) := by rw [← hW1]; simp [go_sem]
  have r1 : W1.cell? ⟨w.heap.size + 1, 1, none⟩ = some (.int .i64 (y : Int)) := by rw [← hW1]; simp [go_sem]
  have hB : Below w.heap.size w W1 := by rw [← hW1]; exact balloc (bnew _ _) _
  have MK : Hid (∀ W : World, Below W1.heap.size W1 W → (((W.cell? ⟨w.heap.size, 0, none⟩ = some (.int .i64 (k : Int)) ∧ W.cell? ⟨w.heap.size, 1, none⟩ = some (.int .i64 (x : Int))) ∧ (W.cell? ⟨w.heap.size + 1, 0, none⟩ = some (.int .i64 (P : Int)) ∧ W.cell? ⟨w.heap.size + 1, 1, none⟩ = some (.int .i64 (y : Int)))) ∧ Below W1.heap.size W1 W)) := Lib.hid fun W h => ⟨⟨⟨kc h p0, kc h p1⟩, ⟨kc h r0, kc h r1⟩⟩, h⟩
  have STH : Hid (∀ W W' : World, Below W.heap.size W W' → (((W.cell? ⟨w.heap.size, 0, none⟩ = some (.int .i64 (k : Int)) ∧ W.cell? ⟨w.heap.size, 1, none⟩ = some (.int .i64 (x : Int))) ∧ (W.cell? ⟨w.heap.size + 1, 0, none⟩ = some (.int .i64 (P : Int)) ∧ W.cell? ⟨w.heap.size + 1, 1, none⟩ = some (.int .i64 (y : Int)))) ∧ Below W1.heap.size W1 W) → (((W'.cell? ⟨w.heap.size, 0, none⟩ = some (.int .i64 (k : Int)) ∧ W'.cell? ⟨w.heap.size, 1, none⟩ = some (.int .i64 (x : Int))) ∧ (W'.cell? ⟨w.heap.size + 1, 0, none⟩ = some (.int .i64 (P : Int)) ∧ W'.cell? ⟨w.heap.size + 1, 1, none⟩ = some (.int .i64 (y : Int)))) ∧ Below W1.heap.size W1 W')) := Lib.hid fun W W' h hs => MK.out W' (bthen hs.2 h)
  clear hQ htl
  go_enter Try.func60, Try.ntmps60
  go_wp2
  clear hW1
  go_region_held3 (fun W => ((W.cell? ⟨w.heap.size, 0, none⟩ = some (.int .i64 (k : Int)) ∧ W.cell? ⟨w.heap.size, 1, none⟩ = some (.int .i64 (x : Int))) ∧ (W.cell? ⟨w.heap.size + 1, 0, none⟩ = some (.int .i64 (P : Int)) ∧ W.cell? ⟨w.heap.size + 1, 1, none⟩ = some (.int .i64 (y : Int)))) ∧ Below W1.heap.size W1 W)
    (first | with_reducible exact MK.out _ (Below.refl _ _).drew | with_reducible exact MK.out _ (bnew _ _).drew | (with_reducible refine STH.out _ _ hb5 ?_; with_reducible assumption) | (with_reducible refine STH.out _ _ (bnew _ _) ?_; with_reducible assumption) | with_reducible assumption)
    (first
      | (go_at_call 57; refine (LST.out _).mono ?_; rintro e w5 ⟨s5, rfl, O5, hb5⟩; have T5 := STH.out _ _ hb5 (by with_reducible assumption); have O6 := Owns.mono O5 (Nat.zero_le _))
      | (go_at_call 69; refine (MADE.out _ _ _ (by first | exact O6 | exact O6.below (bnew _ _))).mono ?_; rintro e w8 ⟨rfl, hb5⟩; have T8 := STH.out _ _ hb5 (by with_reducible assumption)))
  all_goals
    have hb9 := bthen hB T8.2
    clear T8 O5 O6
    go_wp2
    go_ret
    exact ⟨rfl, hb9⟩

set_option maxRecDepth 100000 in
set_option maxHeartbeats 4000000 in
theorem implKeeps_a {n0 b0 n1 b1 : Int} (h0 : isF n0 b0 = false) (w : World) :
    Calls Try.prog 22 #[.agg #[.int .i64 n0, .int .i64 b0], .agg #[.int .i64 n1, .int .i64 b1]] w fun e w' => e = .returned (.tuple #[.bool false, .int .i64 1]) ∧ Below w.heap.size w w' := by
  obtain ⟨W1, hW1⟩ : ∃ W1, (w.alloc (.cells #[.int .i64 n0, .int .i64 b0] 34)).alloc (.cells #[.int .i64 n1, .int .i64 b1] 25) = W1 := ⟨_, rfl⟩
  have p0 : W1.cell? ⟨w.heap.size, 0, none⟩ = some (.int .i64 n0) := by rw [← hW1]; simp [go_sem]
  have p1 : W1.cell? ⟨w.heap.size, 1, none⟩ = some (.int .i64 b0) := by rw [← hW1]; simp [go_sem]
  have r0 : W1.cell? ⟨w.heap.size + 1, 0, none⟩ = some (.int .i64 n1) := by rw [← hW1]; simp [go_sem]
  have r1 : W1.cell? ⟨w.heap.size + 1, 1, none⟩ = some (.int .i64 b1) := by rw [← hW1]; simp [go_sem]
  have hB : Below w.heap.size w W1 := by rw [← hW1]; exact balloc (bnew _ _) _
  go_enter Try.func22, Try.ntmps22
  go_wp2_with fail
  clear hW1
  refine (IsFunc_is h0 _).mono ?_
  rintro e w2 ⟨rfl, hb2⟩
  have qp0 := kc hb2 p0
  have qp1 := kc hb2 p1
  have qr0 := kc hb2 r0
  have qr1 := kc hb2 r1
  clear p0 p1 r0 r1
  have hB2 := bthen hB hb2
  go_wp2
  go_ret2
  exact ⟨rfl, hB2⟩

set_option maxRecDepth 100000 in
set_option maxHeartbeats 4000000 in
theorem implKeeps_b {n0 b0 n1 b1 : Int} (h0 : isF n0 b0 = true) (h1 : isR n1 b1 = false) (w : World) :
    Calls Try.prog 22 #[.agg #[.int .i64 n0, .int .i64 b0], .agg #[.int .i64 n1, .int .i64 b1]] w fun e w' => e = .returned (.tuple #[.bool false, .int .i64 1]) ∧ Below w.heap.size w w' := by
  obtain ⟨W1, hW1⟩ : ∃ W1, (w.alloc (.cells #[.int .i64 n0, .int .i64 b0] 34)).alloc (.cells #[.int .i64 n1, .int .i64 b1] 25) = W1 := ⟨_, rfl⟩
  have p0 : W1.cell? ⟨w.heap.size, 0, none⟩ = some (.int .i64 n0) := by rw [← hW1]; simp [go_sem]
  have p1 : W1.cell? ⟨w.heap.size, 1, none⟩ = some (.int .i64 b0) := by rw [← hW1]; simp [go_sem]
  have r0 : W1.cell? ⟨w.heap.size + 1, 0, none⟩ = some (.int .i64 n1) := by rw [← hW1]; simp [go_sem]
  have r1 : W1.cell? ⟨w.heap.size + 1, 1, none⟩ = some (.int .i64 b1) := by rw [← hW1]; simp [go_sem]
  have hB : Below w.heap.size w W1 := by rw [← hW1]; exact balloc (bnew _ _) _
  go_enter Try.func22, Try.ntmps22
  go_wp2_with fail
  clear hW1
  refine (IsFunc_is h0 _).mono ?_
  rintro e w2 ⟨rfl, hb2⟩
  have qp0 := kc hb2 p0
  have qp1 := kc hb2 p1
  have qr0 := kc hb2 r0
  have qr1 := kc hb2 r1
  clear p0 p1 r0 r1
  have hB2 := bthen hB hb2
  go_wp2_with fail
  refine (IsRelation_is h1 _).mono ?_
  rintro e w3 ⟨rfl, hb3⟩
  have sp0 := kc hb3 qp0
  have sp1 := kc hb3 qp1
  have sr0 := kc hb3 qr0
  have sr1 := kc hb3 qr1
  clear qp0 qp1 qr0 qr1
  have hB3 := bthen hB2 hb3
  go_wp2
  go_ret2
  exact ⟨rfl, hB3⟩

set_option maxRecDepth 100000 in
set_option maxHeartbeats 4000000 in
theorem implKeeps_c {x R0 k : Nat} (ok : FOk (k : Int) x R0) (k4 : k ≤ 4) {P y Q : Nat} (okr : ROk (P : Int) y Q) (w : World) :
    Calls Try.prog 22 #[.agg #[.int .i64 (k : Int), .int .i64 (x : Int)], .agg #[.int .i64 (P : Int), .int .i64 (y : Int)]] w fun e w' => e = .returned (.tuple #[.bool (keepsN x y k P), .int .i64 0]) ∧ Below w.heap.size w w' := by
  have h0 := ok.is
  have h1 := okr.is
  obtain ⟨W1, hW1⟩ : ∃ W1, (w.alloc (.cells #[.int .i64 (k : Int), .int .i64 (x : Int)] 34)).alloc (.cells #[.int .i64 (P : Int), .int .i64 (y : Int)] 25) = W1 := ⟨_, rfl⟩
  have p0 : W1.cell? ⟨w.heap.size, 0, none⟩ = some (.int .i64 (k : Int)) := by rw [← hW1]; simp [go_sem]
  have p1 : W1.cell? ⟨w.heap.size, 1, none⟩ = some (.int .i64 (x : Int)) := by rw [← hW1]; simp [go_sem]
  have r0 : W1.cell? ⟨w.heap.size + 1, 0, none⟩ = some (.int .i64 (P : Int)) := by rw [← hW1]; simp [go_sem]
  have r1 : W1.cell? ⟨w.heap.size + 1, 1, none⟩ = some (.int .i64 (y : Int)) := by rw [← hW1]; simp [go_sem]
  have hB : Below w.heap.size w W1 := by rw [← hW1]; exact balloc (bnew _ _) _
  go_enter Try.func22, Try.ntmps22
  go_wp2_with fail
  clear hW1
  refine (IsFunc_is h0 _).mono ?_
  rintro e w2 ⟨rfl, hb2⟩
  have qp0 := kc hb2 p0
  have qp1 := kc hb2 p1
  have qr0 := kc hb2 r0
  have qr1 := kc hb2 r1
  clear p0 p1 r0 r1
  have hB2 := bthen hB hb2
  go_wp2_with fail
  refine (IsRelation_is h1 _).mono ?_
  rintro e w3 ⟨rfl, hb3⟩
  have sp0 := kc hb3 qp0
  have sp1 := kc hb3 qp1
  have sr0 := kc hb3 qr0
  have sr1 := kc hb3 qr1
  clear qp0 qp1 qr0 qr1
  have hB3 := bthen hB2 hb3
  go_wp2_with fail
  refine (keeps_any ok k4 okr _).mono ?_
  rintro e w4 ⟨rfl, hb4⟩
  go_wp2
  go_ret2
  exact ⟨rfl, bthen hB3 hb4⟩

set_option maxRecDepth 100000 in
set_option maxHeartbeats 4000000 in
theorem specKeeps_a {n0 b0 n1 b1 : Int} (h0 : isF n0 b0 = false) (w : World) :
    Calls Try.prog 20 #[.agg #[.int .i64 n0, .int .i64 b0], .agg #[.int .i64 n1, .int .i64 b1]] w fun e w' => e = .returned (.tuple #[.bool false, .int .i64 1]) ∧ Below w.heap.size w w' := by
  obtain ⟨W1, hW1⟩ : ∃ W1, (w.alloc (.cells #[.int .i64 n0, .int .i64 b0] 34)).alloc (.cells #[.int .i64 n1, .int .i64 b1] 25) = W1 := ⟨_, rfl⟩
  have p0 : W1.cell? ⟨w.heap.size, 0, none⟩ = some (.int .i64 n0) := by rw [← hW1]; simp [go_sem]
  have p1 : W1.cell? ⟨w.heap.size, 1, none⟩ = some (.int .i64 b0) := by rw [← hW1]; simp [go_sem]
  have r0 : W1.cell? ⟨w.heap.size + 1, 0, none⟩ = some (.int .i64 n1) := by rw [← hW1]; simp [go_sem]
  have r1 : W1.cell? ⟨w.heap.size + 1, 1, none⟩ = some (.int .i64 b1) := by rw [← hW1]; simp [go_sem]
  have hB : Below w.heap.size w W1 := by rw [← hW1]; exact balloc (bnew _ _) _
  go_enter Try.func20, Try.ntmps20
  go_wp2_with fail
  clear hW1
  refine (l01Is_is h0 _).mono ?_
  rintro e w2 ⟨rfl, hb2⟩
  have qp0 := kc hb2 p0
  have qp1 := kc hb2 p1
  have qr0 := kc hb2 r0
  have qr1 := kc hb2 r1
  clear p0 p1 r0 r1
  have hB2 := bthen hB hb2
  go_wp2
  go_ret2
  exact ⟨rfl, hB2⟩

set_option maxRecDepth 100000 in
set_option maxHeartbeats 4000000 in
theorem specKeeps_b {n0 b0 n1 b1 : Int} (h0 : isF n0 b0 = true) (h1 : isR n1 b1 = false) (w : World) :
    Calls Try.prog 20 #[.agg #[.int .i64 n0, .int .i64 b0], .agg #[.int .i64 n1, .int .i64 b1]] w fun e w' => e = .returned (.tuple #[.bool false, .int .i64 1]) ∧ Below w.heap.size w w' := by
  obtain ⟨W1, hW1⟩ : ∃ W1, (w.alloc (.cells #[.int .i64 n0, .int .i64 b0] 34)).alloc (.cells #[.int .i64 n1, .int .i64 b1] 25) = W1 := ⟨_, rfl⟩
  have p0 : W1.cell? ⟨w.heap.size, 0, none⟩ = some (.int .i64 n0) := by rw [← hW1]; simp [go_sem]
  have p1 : W1.cell? ⟨w.heap.size, 1, none⟩ = some (.int .i64 b0) := by rw [← hW1]; simp [go_sem]
  have r0 : W1.cell? ⟨w.heap.size + 1, 0, none⟩ = some (.int .i64 n1) := by rw [← hW1]; simp [go_sem]
  have r1 : W1.cell? ⟨w.heap.size + 1, 1, none⟩ = some (.int .i64 b1) := by rw [← hW1]; simp [go_sem]
  have hB : Below w.heap.size w W1 := by rw [← hW1]; exact balloc (bnew _ _) _
  go_enter Try.func20, Try.ntmps20
  go_wp2_with fail
  clear hW1
  refine (l01Is_is h0 _).mono ?_
  rintro e w2 ⟨rfl, hb2⟩
  have qp0 := kc hb2 p0
  have qp1 := kc hb2 p1
  have qr0 := kc hb2 r0
  have qr1 := kc hb2 r1
  clear p0 p1 r0 r1
  have hB2 := bthen hB hb2
  go_wp2_with fail
  refine (l06Is_is h1 _).mono ?_
  rintro e w3 ⟨rfl, hb3⟩
  have sp0 := kc hb3 qp0
  have sp1 := kc hb3 qp1
  have sr0 := kc hb3 qr0
  have sr1 := kc hb3 qr1
  clear qp0 qp1 qr0 qr1
  have hB3 := bthen hB2 hb3
  go_wp2
  go_ret2
  exact ⟨rfl, hB3⟩

set_option maxRecDepth 100000 in
set_option maxHeartbeats 4000000 in
theorem specKeeps_c {x R0 k : Nat} (ok : FOk (k : Int) x R0) (k4 : k ≤ 4) {P y Q : Nat} (okr : ROk (P : Int) y Q) (w : World) :
    Calls Try.prog 20 #[.agg #[.int .i64 (k : Int), .int .i64 (x : Int)], .agg #[.int .i64 (P : Int), .int .i64 (y : Int)]] w fun e w' => e = .returned (.tuple #[.bool (keepsN x y k P), .int .i64 0]) ∧ Below w.heap.size w w' := by
  have h0 := ok.is
  have h1 := okr.is
  obtain ⟨W1, hW1⟩ : ∃ W1, (w.alloc (.cells #[.int .i64 (k : Int), .int .i64 (x : Int)] 34)).alloc (.cells #[.int .i64 (P : Int), .int .i64 (y : Int)] 25) = W1 := ⟨_, rfl⟩
  have p0 : W1.cell? ⟨w.heap.size, 0, none⟩ = some (.int .i64 (k : Int)) := by rw [← hW1]; simp [go_sem]
  have p1 : W1.cell? ⟨w.heap.size, 1, none⟩ = some (.int .i64 (x : Int)) := by rw [← hW1]; simp [go_sem]
  have r0 : W1.cell? ⟨w.heap.size + 1, 0, none⟩ = some (.int .i64 (P : Int)) := by rw [← hW1]; simp [go_sem]
  have r1 : W1.cell? ⟨w.heap.size + 1, 1, none⟩ = some (.int .i64 (y : Int)) := by rw [← hW1]; simp [go_sem]
  have hB : Below w.heap.size w W1 := by rw [← hW1]; exact balloc (bnew _ _) _
  go_enter Try.func20, Try.ntmps20
  go_wp2_with fail
  clear hW1
  refine (l01Is_is h0 _).mono ?_
  rintro e w2 ⟨rfl, hb2⟩
  have qp0 := kc hb2 p0
  have qp1 := kc hb2 p1
  have qr0 := kc hb2 r0
  have qr1 := kc hb2 r1
  clear p0 p1 r0 r1
  have hB2 := bthen hB hb2
  go_wp2_with fail
  refine (l06Is_is h1 _).mono ?_
  rintro e w3 ⟨rfl, hb3⟩
  have sp0 := kc hb3 qp0
  have sp1 := kc hb3 qp1
  have sr0 := kc hb3 qr0
  have sr1 := kc hb3 qr1
  clear qp0 qp1 qr0 qr1
  have hB3 := bthen hB2 hb3
  go_wp2_with fail
  refine (l06Keeps_any ok k4 okr _).mono ?_
  rintro e w4 ⟨rfl, hb4⟩
  go_wp2
  go_ret2
  exact ⟨rfl, bthen hB3 hb4⟩

theorem fok_nat {n b : Int} (h : isF n b = true) : ∃ k x R : Nat, n = (k : Int) ∧ b = (x : Int) ∧ k ≤ 4 ∧ FOk (k : Int) x R := by
  obtain ⟨x, R, rfl, ok⟩ := fok h
  obtain ⟨k, rfl⟩ := Int.eq_ofNat_of_zero_le ok.h0
  exact ⟨k, x, R, rfl, rfl, by have := ok.h4; omega, ok⟩
theorem rok_nat {n b : Int} (h : isR n b = true) : ∃ k x R : Nat, n = (k : Int) ∧ b = (x : Int) ∧ k ≤ 4 ∧ ROk (k : Int) x R := by
  obtain ⟨x, R, rfl, ok⟩ := rok h
  obtain ⟨k, rfl⟩ := Int.eq_ofNat_of_zero_le ok.h0
  exact ⟨k, x, R, rfl, rfl, by have := ok.h4; omega, ok⟩

theorem bothKeepsRelation (n0 b0 n1 b1 : Int) : ∃ (rx : Bool) (rc : Int),
    (∀ w, Calls Try.prog 20 #[.agg #[.int .i64 n0, .int .i64 b0], .agg #[.int .i64 n1, .int .i64 b1]] w fun e w' => e = .returned (.tuple #[.bool rx, .int .i64 rc]) ∧ Below w.heap.size w w') ∧
    (∀ w, Calls Try.prog 22 #[.agg #[.int .i64 n0, .int .i64 b0], .agg #[.int .i64 n1, .int .i64 b1]] w fun e w' => e = .returned (.tuple #[.bool rx, .int .i64 rc]) ∧ Below w.heap.size w w') := by
  cases h0 : isF n0 b0
  · exact ⟨_, _, specKeeps_a h0, implKeeps_a h0⟩
  · cases h1 : isR n1 b1
    · exact ⟨_, _, specKeeps_b h0 h1, implKeeps_b h0 h1⟩
    · obtain ⟨k, x, R0, rfl, rfl, k4, ok⟩ := fok_nat h0
      obtain ⟨P, y, Q, rfl, rfl, _, okr⟩ := rok_nat h1
      exact ⟨_, _, specKeeps_c ok k4 okr, implKeeps_c ok k4 okr⟩
end Go.Proofs.Ytlohldddioikaaa

/- MR1:
  Lists of relations in memory, and the laws' small functions on them. -/
namespace Go.Proofs.Ytlohldddioikaaa
open Go.RowKit
set_option linter.unusedVariables false
set_option linter.unusedSimpArgs false

theorem infoR : (Try.prog.info? 25).map (fun i => (i.zero, i.size, i.bytes)) = some (some (.agg #[.int .i64 0, .int .i64 0]), 2, 16) := by kernel_rfl

/-- s is a list of the call's own (from block base on) that holds the functions xs. -/
def OwnsR (W : World) (base : Nat) (s : Value) (xs : List (Int × Int)) : Prop := W.ownsRow base 25 2 s xs.length (fcells xs)

theorem OwnsR.below {W W' : World} {base : Nat} {s : Value} {xs : List (Int × Int)} (h : OwnsR W base s xs) (hb : Below W.heap.size W W') : OwnsR W' base s xs := by
  obtain ⟨h1, h2 | ⟨g, cap, cur, e1, e2, e3, r⟩⟩ := h
  · exact ⟨h1, .inl h2⟩
  · exact ⟨h1, .inr ⟨g, cap, cur, e1, e2, (hb.block g (Array.getElem?_eq_some_iff.1 e3).1).trans e3, r⟩⟩

theorem OwnsR.nil (W : World) (base : Nat) : OwnsR W base (.slice none 0 0) [] := World.ownsRow_nil _ _ _ _

theorem OwnsR.mono {W : World} {b1 b2 : Nat} {s : Value} {xs : List (Int × Int)} (h : OwnsR W b1 s xs) (hb : b2 ≤ b1) : OwnsR W b2 s xs := by
  obtain ⟨h1, h2 | ⟨g, cap, cur, e1, e2, e3, r⟩⟩ := h
  · exact ⟨h1, .inl h2⟩
  · exact ⟨h1, .inr ⟨g, cap, cur, e1, Nat.le_trans hb e2, e3, r⟩⟩

theorem OwnsR.lt {W : World} {b : Nat} {s : Value} {xs : List (Int × Int)} (h : OwnsR W b s xs) : ∀ k, s.ownBlock = some k → k < W.heap.size := fun k hk => (World.ownsRow.lt h k hk).2

theorem OwnsR.ge {W : World} {b : Nat} {s : Value} {xs : List (Int × Int)} (h : OwnsR W b s xs) : ∀ k, s.ownBlock = some k → b ≤ k := fun k hk => (World.ownsRow.lt h k hk).1

theorem OwnsR.keep {W W' : World} {b : Nat} {s : Value} {xs : List (Int × Int)} {row : Option Nat} (h : OwnsR W b s xs) (hg : W.grownBy W' row) (hne : ∀ k, s.ownBlock = some k → some k ≠ row) : OwnsR W' b s xs := by
  refine World.ownsRow.kept h hg ?_
  cases hs : s.ownBlock with
  | none => exact .inl rfl
  | some k => exact .inr (hne k hs)

theorem OwnsR.shape {W : World} {base : Nat} {s : Value} {xs : List (Int × Int)} (h : OwnsR W base s xs) :
    (xs = [] ∧ ∃ a cap, s = .slice a 0 cap) ∨ (0 < xs.length ∧ ∃ g cap, s = .slice (some ⟨g, 0, none⟩) xs.length cap ∧ base ≤ g ∧ g < W.heap.size ∧ Hid (∀ j, j < xs.length → W.cell? ⟨g, j * 2, none⟩ = some (.int .i64 (fget xs j).1) ∧ W.cell? ⟨g, j * 2 + 1, none⟩ = some (.int .i64 (fget xs j).2)) ∧ Hid (∀ j, W.frozen? ⟨g, j, none⟩ = false)) := by
  cases xs with
  | nil =>
    refine .inl ⟨rfl, ?_⟩
    obtain ⟨_, ⟨rfl, _⟩ | ⟨g, cap, cur, rfl, _⟩⟩ := h
    · exact ⟨_, _, rfl⟩
    · exact ⟨_, _, rfl⟩
  | cons x xs =>
    refine .inr ⟨by simp, ?_⟩
    obtain ⟨g, cap, rfl⟩ := ownsRow_succ (k := xs.length) h
    have hl := World.ownsRow.lt h g rfl
    refine ⟨g, cap, rfl, hl.1, hl.2, fun j hj => ?_, fun j => World.ownsRow.frozenAt h j⟩
    obtain ⟨h0, h1⟩ := fcells_get (x :: xs) j hj
    have hj' : j < xs.length + 1 := by simpa using hj
    rw [World.ownsRow.cellAt h (j * 2) (by omega), World.ownsRow.cellAt h (j * 2 + 1) (by omega)]
    exact ⟨h0, h1⟩

set_option maxRecDepth 100000 in
set_option maxHeartbeats 1000000 in
theorem szRelationS_any (a : Option Addr) (len cap : Nat) (hl : len ≤ 9223372036854775807) (left : Int) (h0 : 0 ≤ left) (h1 : left ≤ 1048576) (w : World) :
    Calls Try.prog 23 #[.slice a len cap, .int .i64 left] w fun e w' => e = .returned (.int .i64 (if (len : Int) ≤ left then left - len else -1)) ∧ w = w' := by
  by_cases h : (len : Int) ≤ left
  · rw [if_pos h]
    go_enter Try.func23, Try.ntmps23
    go_wp2
    go_ret
    exact ⟨rfl, rfl⟩
  · rw [if_neg h]
    go_enter Try.func23, Try.ntmps23
    go_wp2
    go_ret
    exact ⟨rfl, rfl⟩

theorem szRelationS_ok (a : Option Addr) (len cap : Nat) (h : len ≤ 1048576) (w : World) :
    Calls Try.prog 23 #[.slice a len cap, .int .i64 1048576] w fun e w' => e = .returned (.int .i64 (1048576 - (len : Int))) ∧ w = w' := by
  have := szRelationS_any a len cap (by omega) 1048576 (by omega) (by omega) w
  rwa [if_pos (by omega)] at this

theorem szRelationS_over (a : Option Addr) (len cap : Nat) (h : 1048576 < len) (hl : len ≤ 9223372036854775807) (w : World) :
    Calls Try.prog 23 #[.slice a len cap, .int .i64 1048576] w fun e w' => e = .returned (.int .i64 (-1)) ∧ w = w' := by
  have := szRelationS_any a len cap hl 1048576 (by omega) (by omega) w
  rwa [if_neg (by omega)] at this

set_option maxRecDepth 100000 in
set_option maxHeartbeats 1000000 in
theorem heldRelationS_any {base : Nat} {s : Value} {n : Nat} (hl : n ≤ 1048576) (k : Int) (hk0 : 0 ≤ k) (hk1 : k ≤ 100000000) (w : World) (h : OwnsR w base s (fmarks k n)) :
    Calls Try.prog 36 #[s, .int .i64 k] w fun e w' => e = .returned (.int .i64 (k + 2 * n)) ∧ w = w' := by
  rcases h.shape with ⟨he, a, cap, rfl⟩ | ⟨hn, g, cap, rfl, hbg, hg, hc, hf⟩
  · have h0 : n = 0 := by have := congrArg List.length he; rw [fmarks_length] at this; exact this
    subst h0
    clear he
    go_enter Try.func36, Try.ntmps36
    go_wp2
    refine wp_loop_rounds 1 ?_
    rw [rounds_succ]
    go_wp2
    go_ret
    exact ⟨by simp, rfl⟩
  · rw [fmarks_length] at hn hc ⊢
    clear h hf
    go_enter Try.func36, Try.ntmps36
    go_wp2
    go_loop [1, 5] (fun q i' => ∃ i : Nat, i ≤ n ∧ i' = .int .i64 i ∧ q = .int .i64 (k + 2 * i)) (fun _ i' => n - (intOf i').toNat)
    case atStart => exact ⟨0, Nat.zero_le _, rfl, by simp⟩
    case round =>
      obtain ⟨i, hi, rfl, rfl⟩ := hrel
      by_cases hlt : i < n
      · obtain ⟨hu, hu2⟩ := hc.out i hlt
        rw [fmarks_get k n i hlt] at hu hu2
        dsimp only at hu hu2
        go_wp2
        go_round
        case rel => exact ⟨i + 1, by omega, by go_num, by go_num⟩
        case measure => simp [intOf]; omega
      · obtain rfl : i = n := by omega
        go_wp2
        go_ret
        exact ⟨rfl, rfl⟩

set_option maxRecDepth 100000 in
set_option maxHeartbeats 2000000 in
theorem markRelationS_any {base : Nat} {s : Value} {xs : List (Int × Int)} (hl : xs.length ≤ 1048576) (k : Int) (hk0 : 0 ≤ k) (hk1 : k ≤ 100000000) (w : World) (h : OwnsR w base s xs) :
    Calls Try.prog 29 #[s, .int .i64 k] w fun e w' => e = .returned (.int .i64 (k + 2 * xs.length)) ∧ OwnsR w' base s (fmarks k xs.length) ∧ w.grownBy w' s.ownBlock := by
  rcases h.shape with ⟨rfl, a, cap, rfl⟩ | ⟨hn, g, cap, rfl, hbg, hg, hc, hf⟩
  · go_enter Try.func29, Try.ntmps29
    go_wp2
    refine wp_loop_rounds 1 ?_
    rw [rounds_succ]
    go_wp2
    go_ret
    exact ⟨by simp, h, World.grownBy.refl _ _⟩
  · have hn' : (fcells xs).length = xs.length * 2 := fcells_length xs
    unfold OwnsR at h
    unfold OwnsR
    rw [fmarks_length]
    generalize xs.length = n at hl hn hn' hc h ⊢
    generalize fcells xs = vs at hn' h
    clear hc hf
    go_enter Try.func29, Try.ntmps29
    go_wp2
    go_loopw [1, 5] (fun q i' wr => ∃ i : Nat, i ≤ n ∧ i' = .int .i64 i ∧ q = .int .i64 (k + 2 * i) ∧ wr.ownsRow base 25 2 (.slice (some ⟨g, 0, none⟩) n cap) n (fcells (fmarks k i) ++ vs.drop (i * 2)) ∧ w.grownBy wr (some g)) (fun _ i' _ => n - (intOf i').toNat)
    case atStart => exact ⟨0, Nat.zero_le _, rfl, by simp, by simpa [fmarks, fcells] using h, World.grownBy.refl _ _⟩
    case round =>
      clear h
      obtain ⟨i, hi, rfl, rfl, ho, hgr⟩ := hrel
      by_cases hlt : i < n
      · have hlen : (fcells (fmarks k i) ++ vs.drop (i * 2)).length = n * 2 := by rw [List.length_append, fcells_length, fmarks_length, List.length_drop]; omega
        obtain ⟨u, hu⟩ : ∃ u, wr.cell? ⟨g, i * 2, none⟩ = some u := by
          rw [ho.cellAt (i * 2) (by omega)]
          exact ⟨_, List.getElem?_eq_getElem (by omega)⟩
        obtain ⟨u2, hu2⟩ : ∃ u, wr.cell? ⟨g, i * 2 + 1, none⟩ = some u := by
          rw [ho.cellAt (i * 2 + 1) (by omega)]
          exact ⟨_, List.getElem?_eq_getElem (by omega)⟩
        have hfz := ho.frozenAt (i * 2)
        have hfz2 := ho.frozenAt (i * 2 + 1)
        obtain ⟨o1, g1⟩ := ho.stored (i * 2) (.int .i64 (k + 2 * i))
        obtain ⟨o2, g2⟩ := o1.stored (i * 2 + 1) (.int .i64 (k + 2 * i + 1))
        rw [fset (fmarks k i) vs i (k + 2 * i, k + 2 * i + 1) (fmarks_length k i) (by omega), ← fmarks_succ] at o2
        have HST := Lib.hid o2
        have hgr' := Lib.hid (gtrans (gtrans hgr g1) g2)
        clear o1 o2 g1 g2 ho hgr hn' hlen
        go_wp2
        go_roundw
        case rel => exact ⟨i + 1, by omega, by go_num, by go_num, HST.out, hgr'.out⟩
        case measure => simp [intOf]; omega
      · obtain rfl : i = n := by omega
        have ho' := Lib.hid ho
        have hgr' := Lib.hid hgr
        have hd := Lib.hid (List.drop_of_length_le (l := vs) (i := i * 2) (by omega))
        clear ho hgr hn'
        go_wp2
        go_ret
        exact ⟨rfl, by have := ho'.out; rw [hd.out, List.append_nil] at this; exact this, hgr'.out⟩

set_option maxRecDepth 100000 in
set_option maxHeartbeats 2000000 in
theorem eqRelationS_same {b1 b2 : Nat} {s1 s2 : Value} {xs : List (Int × Int)} (hl : xs.length ≤ 100000000) (w : World) (h1 : OwnsR w b1 s1 xs) (h2 : OwnsR w b2 s2 xs) :
    Calls Try.prog 28 #[s1, s2] w fun e w' => e = .returned (.bool true) ∧ Below w.heap.size w w' := by
  rcases h1.shape with ⟨rfl, a, cap, rfl⟩ | ⟨hn, g, cap, rfl, _, hg, hc, _⟩
  · rcases h2.shape with ⟨_, a', cap', rfl⟩ | ⟨hn, _⟩
    · go_enter Try.func28, Try.ntmps28
      go_wp2
      refine wp_loop_rounds 1 ?_
      rw [rounds_succ]
      go_wp2
      go_ret
      exact ⟨rfl, Below.refl _ _⟩
    · simp at hn
  · rcases h2.shape with ⟨h0, _⟩ | ⟨_, g', cap', rfl, _, hg', hc', _⟩
    · rw [h0] at hn; simp at hn
    · clear h1 h2
      generalize xs.length = n at hl hn hc hc' ⊢
      go_enter Try.func28, Try.ntmps28
      go_wp2
      go_loopw [5] (fun i wr => ∃ k : Nat, k ≤ n ∧ i = .int .i64 k ∧ Below w.heap.size w wr) (fun i _ => n - (intOf i).toNat)
      case atStart => exact ⟨0, Nat.zero_le _, rfl, Below.refl _ _⟩
      case round =>
        obtain ⟨k, hk, rfl, hB⟩ := hrel
        by_cases hlt : k < n
        · obtain ⟨c0, c1⟩ := hc.out k hlt
          obtain ⟨c2, c3⟩ := hc'.out k hlt
          have d0 := (hB.cell (p := ⟨g, k * 2, none⟩) hg).trans c0
          have d1 := (hB.cell (p := ⟨g, k * 2 + 1, none⟩) hg).trans c1
          have d2 := (hB.cell (p := ⟨g', k * 2, none⟩) hg').trans c2
          have d3 := (hB.cell (p := ⟨g', k * 2 + 1, none⟩) hg').trans c3
          clear c0 c1 c2 c3
          have i0 : (0 : Int) ≤ (k : Int) := by omega
          have i1 : ((k : Int) < (n : Int)) := by omega
          go_wp2
          go_region_held3 (fun w' => ((w'.cell? ⟨g, k * 2, none⟩ = some (.int .i64 (fget xs k).1) ∧ w'.cell? ⟨g, k * 2 + 1, none⟩ = some (.int .i64 (fget xs k).2)) ∧ (w'.cell? ⟨g', k * 2, none⟩ = some (.int .i64 (fget xs k).1) ∧ w'.cell? ⟨g', k * 2 + 1, none⟩ = some (.int .i64 (fget xs k).2))) ∧ Below w.heap.size w w') (first | exact ⟨⟨⟨d0, d1⟩, d2, d3⟩, hB.drew⟩ | exact hold4 hb1 (by assumption))
            (first
              | (go_at_call 39; refine (eqRelation_same _ _ _).mono ?_; rintro e w' ⟨rfl, hb1⟩))
          go_wp2
          go_roundw
          case rel => exact ⟨k + 1, by omega, by go_num, (‹(_ ∧ _) ∧ Below _ _ _›).2⟩
          case measure => simp [intOf]; omega
        · obtain rfl : k = n := by omega
          go_wp2
          go_ret
          exact ⟨rfl, hB⟩

/-- A post with 'there is a list of functions'. -/
def RListPost (base : Nat) (xs : List (Int × Int)) (w : World) (e : Ending) (w' : World) : Prop := ∃ s, e = .returned s ∧ OwnsR w' base s xs ∧ Below w.heap.size w w'

def RListCodePost (base : Nat) (xs : List (Int × Int)) (c : Int) (w : World) (e : Ending) (w' : World) : Prop := ∃ s, e = .returned (.tuple #[s, .int .i64 c]) ∧ OwnsR w' base s xs ∧ Below w.heap.size w w'

set_option maxRecDepth 100000 in
set_option maxHeartbeats 2000000 in
theorem toRelationS_any {a : Option Addr} {len cap : Nat} {zs : List (Int × Int)} {w0 : World} (h : IsRowF w0 a len zs) (hl : len ≤ 1048576) (w : World) (hw : Below w0.heap.size w0 w) :
    Calls Try.prog 25 #[.slice a len cap] w (RListPost w.heap.size zs w) := by
  obtain ⟨i0, hi, hz0, hz1, hz2⟩ := info_parts infoR
  obtain ⟨hzl, _, h0 | ⟨b, off, rfl, hb, hc⟩⟩ := h
  · subst h0
    obtain rfl : zs = [] := List.length_eq_zero_iff.1 hzl
    go_enter Try.func25, Try.ntmps25
    go_wp2_with (at_make; refine wpList_make_full _ rfl _ _ 42 rfl w.heap.size 25 i0 (.agg #[.int .i64 0, .int .i64 0]) 2 Try.underlying42 hi hz0 hz1 .i64 .i64 _ _ 0 rfl rfl rfl rfl (by rw [hz2]; decide) (by decide) (Nat.le_refl _) ?_; intro w1 hown1 hgrow1)
    have hB : Below w.heap.size w w1 := (Below.refl _ _).grown hgrow1 (Nat.le_refl _) (fun j e => by cases e)
    generalize (madeCells (Value.agg #[.int .i64 0, .int .i64 0]).cells (0 * 2)).toList = vs at hown1
    obtain rfl : vs = [] := List.length_eq_zero_iff.1 (by simpa using hown1.1)
    have ho := Lib.hid hown1
    clear hown1 hgrow1
    refine wp_loop_rounds 1 ?_
    rw [rounds_succ]
    go_wp2
    go_ret
    refine ⟨.slice (some ⟨w.heap.size, 0, none⟩) 0 0, rfl, ?_, hB⟩
    exact ho.out
  · go_enter Try.func25, Try.ntmps25
    go_wp2_with (at_make; refine wpList_make_full _ rfl _ _ 42 rfl w.heap.size 25 i0 (.agg #[.int .i64 0, .int .i64 0]) 2 Try.underlying42 hi hz0 hz1 .i64 .i64 _ _ len rfl rfl rfl rfl (by rw [hz2]; omega) (by unfold maxLen; omega) (Nat.le_refl _) ?_; intro w1 hown1 hgrow1)
    have hB : Below w.heap.size w w1 := (Below.refl _ _).grown hgrow1 (Nat.le_refl _) (fun j e => by cases e)
    have hvl := hown1.1
    generalize (madeCells (Value.agg #[.int .i64 0, .int .i64 0]).cells (len * 2)).toList = vs at hown1 hvl
    clear hgrow1
    go_loopw [4] (fun i' wr => ∃ i : Nat, i ≤ len ∧ i' = .int .i64 i ∧ wr.ownsRow w.heap.size 25 2 (.slice (some ⟨w.heap.size, 0, none⟩) len len) len (fcells (zs.take i) ++ vs.drop (i * 2)) ∧ Below w.heap.size w wr) (fun i' _ => len - (intOf i').toNat)
    case atStart => exact ⟨0, Nat.zero_le _, rfl, by simpa [fcells] using hown1, hB⟩
    case round =>
      clear hown1 hB
      obtain ⟨i, hi', rfl, ho, hN⟩ := hrel
      by_cases hlt : i < len
      · have hs := hw.size
        obtain ⟨c0, c1⟩ := hc.out i hlt
        have s0 := ((hN.cell (p := ⟨b, off + i * 2, none⟩) (by show b < w.heap.size; omega)).trans (hw.cell (p := ⟨b, off + i * 2, none⟩) hb)).trans c0
        have s1 := ((hN.cell (p := ⟨b, off + i * 2 + 1, none⟩) (by show b < w.heap.size; omega)).trans (hw.cell (p := ⟨b, off + i * 2 + 1, none⟩) hb)).trans c1
        clear c0 c1
        have hHO := Lib.hid ho
        clear ho
        go_wp2_with fail
        refine (toRelation_any (fget zs i).1 (fget zs i).2 _).mono ?_
        rintro e w2 ⟨rfl, hb2⟩
        have hN2 := bthen hN hb2
        have ho : w2.ownsRow w.heap.size 25 2 (.slice (some ⟨w.heap.size, 0, none⟩) len len) len (fcells (zs.take i) ++ vs.drop (i * 2)) := by
          obtain ⟨h1, h2 | ⟨g, cap, cur, e1, e2, e3, r⟩⟩ := hHO.out
          · exact ⟨h1, .inl h2⟩
          · exact ⟨h1, .inr ⟨g, cap, cur, e1, e2, (hb2.block g (Array.getElem?_eq_some_iff.1 e3).1).trans e3, r⟩⟩
        have hlen : (fcells (zs.take i) ++ vs.drop (i * 2)).length = len * 2 := by rw [List.length_append, fcells_length, List.length_take, List.length_drop]; omega
        obtain ⟨u, hu⟩ : ∃ u, w2.cell? ⟨w.heap.size, i * 2, none⟩ = some u := by
          rw [ho.cellAt (i * 2) (by omega)]
          exact ⟨_, List.getElem?_eq_getElem (by omega)⟩
        obtain ⟨u2, hu2⟩ : ∃ u, w2.cell? ⟨w.heap.size, i * 2 + 1, none⟩ = some u := by
          rw [ho.cellAt (i * 2 + 1) (by omega)]
          exact ⟨_, List.getElem?_eq_getElem (by omega)⟩
        have hfz := ho.frozenAt (i * 2)
        have hfz2 := ho.frozenAt (i * 2 + 1)
        obtain ⟨o1, g1⟩ := ho.stored (i * 2) (.int .i64 (fget zs i).1)
        obtain ⟨o2, g2⟩ := o1.stored (i * 2 + 1) (.int .i64 (fget zs i).2)
        rw [fset (zs.take i) vs i (fget zs i) (by rw [List.length_take]; omega) (by omega), ← ftake_snoc zs i (by omega)] at o2
        have HST := Lib.hid o2
        clear o1 o2 g1 g2 ho hvl hlen hHO s0 s1
        go_wp2
        go_roundw
        case rel => exact ⟨i + 1, by omega, by go_num, HST.out, (hN2.setCell (p := ⟨w.heap.size, i * 2, none⟩) (Nat.le_refl _) _).setCell (p := ⟨w.heap.size, i * 2 + 1, none⟩) (Nat.le_refl _) _⟩
        case measure => simp [intOf]; omega
      · obtain rfl : i = len := by omega
        have ho' := Lib.hid ho
        have hd := Lib.hid (List.drop_of_length_le (l := vs) (i := i * 2) (by omega))
        have ht := Lib.hid (List.take_of_length_le (l := zs) (i := i) (by omega))
        have hll := Lib.hid hzl
        clear ho hvl hzl
        go_wp2
        go_ret
        refine ⟨_, rfl, ?_, hN⟩
        unfold OwnsR
        rw [hll.out]
        have := ho'.out
        rw [hd.out, List.append_nil, ht.out] at this
        exact this

theorem OwnsR.snoc {W : World} {base : Nat} {s : Value} {xs : List (Int × Int)} {n x : Int} (h : W.ownsRow base 25 2 s (xs.length + 1) (fcells xs ++ [.int .i64 n, .int .i64 x])) : OwnsR W base s (xs ++ [(n, x)]) := by
  unfold OwnsR
  rw [fcells_snoc, List.length_append]
  exact h

theorem below_markedR {B : Nat} {W0 W W' : World} {b : Nat} {s : Value} {xs : List (Int × Int)} (hN : Below B W0 W) (h : OwnsR W b s xs) (hg : W.grownBy W' s.ownBlock) (hB : B ≤ b) (hs : B ≤ W.heap.size) : Below B W0 W' :=
  hN.grown hg hs (fun j e => Nat.le_trans hB (h.ge j e))
end Go.Proofs.Ytlohldddioikaaa

/- K7:
  The classes in the model: l02In. -/
namespace Go.Proofs.Ytlohldddioikaaa
open Go.RowKit

theorem l01At_zero {n : Int} {x R : Nat} (ok : FOk n x R) (w : World) :
    Calls Try.prog 76 #[.agg #[.int .i64 n, .int .i64 (x : Int)], .int .i64 0] w fun e w' => e = .returned (.int .i64 (bitN x 0 : Int)) ∧ Below w.heap.size w w' := l01At_any n x 0 ok.hx (by omega) w
/-- The digit at a place that is told as an integer. -/
def bitI (x : Nat) (i : Int) : Nat := bitN x i.toNat
theorem bitI_nat (x i : Nat) : bitI x (i : Int) = bitN x i := rfl
theorem bitI_zero (x : Nat) : bitI x 0 = bitN x 0 := rfl
theorem bitI_mirror {x R k : Nat} (h : k < R) : bitI x ((R : Int) - 1 - (k : Int)) = bitN x (R - 1 - k) := by
  unfold bitI
  rw [show ((R : Int) - 1 - (k : Int)).toNat = R - 1 - k by omega]
theorem l01At_int {n : Int} {x R : Nat} (ok : FOk n x R) (i : Int) (h0 : 0 ≤ i) (h1 : i < 62) (w : World) :
    Calls Try.prog 76 #[.agg #[.int .i64 n, .int .i64 (x : Int)], .int .i64 i] w fun e w' => e = .returned (.int .i64 (bitI x i : Int)) ∧ Below w.heap.size w w' := by
  obtain ⟨j, rfl⟩ := Int.eq_ofNat_of_zero_le h0
  exact l01At_any n x j ok.hx (by omega) w
theorem l01At_last {n : Int} {x R : Nat} (ok : FOk n x R) (w : World) :
    Calls Try.prog 76 #[.agg #[.int .i64 n, .int .i64 (x : Int)], .int .i64 ((R : Int) - 1)] w fun e w' => e = .returned (.int .i64 (bitN x (R - 1) : Int)) ∧ Below w.heap.size w w' := by
  have r0 := ok.r0
  have r16 := ok.r16
  rw [show (R : Int) - 1 = ((R - 1 : Nat) : Int) by omega]
  exact l01At_any n x (R - 1) ok.hx (by omega) w

/-- Rows below k differ from those opposite. -/
def dualTo (x R k : Nat) : Bool := allLt k fun i => bitN x i != bitN x (R - 1 - i)
theorem dualTo_succ (x R k : Nat) : dualTo x R (k + 1) = (dualTo x R k && bitN x k != bitN x (R - 1 - k)) := allLt_succ _ _
theorem dualTo_false {x R k m : Nat} (hk : k < m) (h : bitN x k = bitN x (R - 1 - k)) : dualTo x R m = false := by
  cases hc : dualTo x R m
  · rfl
  · have := allLt_iff.1 hc k hk
    rw [h] at this
    simp at this

end Go.Proofs.Ytlohldddioikaaa

/- K8:
  The classes in the model: the monotone ones. -/
namespace Go.Proofs.Ytlohldddioikaaa
open Go.RowKit

theorem pow_bits : ∀ v : Nat, v < 4 → (wrap64 (2 ^ v) = ((2 ^ v : Nat) : Int)) ∧ ∀ i : Nat, i < 16 → ((bits .and .i64 (i : Int) ((2 ^ v : Nat) : Int) == 0) = (bitN i v == 0)) ∧ bits .or .i64 (i : Int) ((2 ^ v : Nat) : Int) = ((i ||| 2 ^ v : Nat) : Int) ∧ bits .xor .i64 (i : Int) ((2 ^ v : Nat) : Int) = ((i ^^^ 2 ^ v : Nat) : Int) ∧ i ||| 2 ^ v < 16 ∧ i ^^^ 2 ^ v < 16 := by decide +kernel

/-- No fall at row i by the variables below k. -/
def upTo (x i k : Nat) : Bool := allLt k fun v => up1 x i v
theorem upTo_succ (x i k : Nat) : upTo x i (k + 1) = (upTo x i k && up1 x i k) := allLt_succ _ _
/-- .. at the rows below j. -/
def upRows (n x j : Nat) : Bool := allLt j fun i => upTo x i n
theorem upRows_succ (n x j : Nat) : upRows n x (j + 1) = (upRows n x j && upTo x j n) := allLt_succ _ _
theorem upRows_false {n x i k m : Nat} (hi : i < m) (hk : k < n) (h : up1 x i k = false) : upRows n x m = false := by
  cases hc : upRows n x m
  · rfl
  · have := allLt_iff.1 (allLt_iff.1 hc i hi) k hk
    rw [h] at this
    cases this

end Go.Proofs.Ytlohldddioikaaa

/- K9:
  The classes in the model: the affine ones; all of them by number. -/
namespace Go.Proofs.Ytlohldddioikaaa
open Go.RowKit

/-- The rows below j change by the variable v as the row 0 does. -/
def altTo (x v j : Nat) : Bool := allLt j fun i => alt1 x v i
theorem altTo_succ (x v j : Nat) : altTo x v (j + 1) = (altTo x v j && alt1 x v j) := allLt_succ _ _
def altVars (R x k : Nat) : Bool := allLt k fun v => altTo x v R
theorem altVars_succ (R x k : Nat) : altVars R x (k + 1) = (altVars R x k && altTo x k R) := allLt_succ _ _
theorem altVars_false {R x v i m : Nat} (hv : v < m) (hi : i < R) (h : alt1 x v i = false) : altVars R x m = false := by
  cases hc : altVars R x m
  · rfl
  · have := allLt_iff.1 (allLt_iff.1 hc v hv) i hi
    rw [h] at this
    cases this

theorem neq_nat (a b : Nat) : ((a : Int) != (b : Int)) = (a != b) := by
  rw [Bool.eq_iff_iff]
  simp
  omega
theorem bool_neq (a b : Bool) : (a != b) = !(a == b) := by cases a <;> cases b <;> rfl

end Go.Proofs.Ytlohldddioikaaa

/- M3:
  The classes of a part of a list in the model: l02Classes; l02Sheffer. -/
namespace Go.Proofs.Ytlohldddioikaaa
open Go.RowKit

/-- What a valid function is, at numbers told as integers. -/
theorem fokP {p : Int × Int} (h : isF p.1 p.2 = true) : ∃ x R : Nat, p.2 = (x : Int) ∧ R = 2 ^ p.1.toNat ∧ FOk p.1 x R := by
  obtain ⟨x, R, e, ok⟩ := fok h
  exact ⟨x, R, e, ok.he, ok⟩
/-- Whether a function that is told as two integers is in the class k. -/
def clsP (p : Int × Int) (k : Nat) : Bool := clsN p.1.toNat p.2.toNat (2 ^ p.1.toNat) k
/-- All functions of a list are functions. -/
def AreF (xs : List (Int × Int)) : Prop := ∀ j, j < xs.length → isF (fget xs j).1 (fget xs j).2 = true

/-- Whether the functions of a part, of those below j, are in the class k. -/
def partTo (xs : List (Int × Int)) (part k j : Nat) : Bool := allLt j fun i => bitN part i == 0 || clsP (fget xs i) k
theorem partTo_succ (xs : List (Int × Int)) (part k j : Nat) : partTo xs part k (j + 1) = (partTo xs part k j && (bitN part j == 0 || clsP (fget xs j) k)) := allLt_succ _ _
def partV (xs : List (Int × Int)) (part k : Nat) : Nat := (partTo xs part k xs.length).toNat
theorem partV_le (xs : List (Int × Int)) (part k : Nat) : partV xs part k ≤ 1 := by unfold partV; cases partTo xs part k xs.length <;> decide
/-- The classes of a part, as a number. -/
def partN (xs : List (Int × Int)) (part : Nat) : Nat := sumN (partV xs part) 5

theorem part_digit (x i : Nat) (hx : x < 2 ^ 62) : ((bits .and .i64 ((x : Int) / 2 ^ i) 1) == 0) = (bitN x i == 0) := by
  rw [digit_eq x i hx, Bool.eq_iff_iff]
  simp

end Go.Proofs.Ytlohldddioikaaa

/- N1:
  Lists of functions: are they functions (both packages). -/
namespace Go.Proofs.Ytlohldddioikaaa
open Go.RowKit

/-- The functions below j of a list are functions. -/
def allTo (xs : List (Int × Int)) (j : Nat) : Bool := allLt j fun i => isF (fget xs i).1 (fget xs i).2
theorem allTo_succ (xs : List (Int × Int)) (j : Nat) : allTo xs (j + 1) = (allTo xs j && isF (fget xs j).1 (fget xs j).2) := allLt_succ _ _
theorem allTo_false {xs : List (Int × Int)} {k m : Nat} (hk : k < m) (h : isF (fget xs k).1 (fget xs k).2 = false) : allTo xs m = false := by
  cases hc : allTo xs m
  · rfl
  · have := allLt_iff.1 hc k hk
    rw [h] at this
    cases this
theorem allTo_get {xs : List (Int × Int)} {m : Nat} (h : allTo xs m = true) (k : Nat) (hk : k < m) : isF (fget xs k).1 (fget xs k).2 = true := allLt_iff.1 h k hk

/-- A list's shape, whatever its length. -/
theorem OwnsF.cells {W : World} {base : Nat} {s : Value} {xs : List (Int × Int)} (h : OwnsF W base s xs) :
    ∃ a cap, s = .slice a xs.length cap ∧ (xs.length = 0 ∨ ∃ g, a = some ⟨g, 0, none⟩ ∧ g < W.heap.size ∧ Hid (∀ j, j < xs.length → W.cell? ⟨g, j * 2, none⟩ = some (.int .i64 (fget xs j).1) ∧ W.cell? ⟨g, j * 2 + 1, none⟩ = some (.int .i64 (fget xs j).2))) := by
  rcases h.shape with ⟨rfl, a, cap, rfl⟩ | ⟨hn, g, cap, rfl, hbg, hg, hc, hf⟩
  · exact ⟨a, cap, rfl, .inl rfl⟩
  · exact ⟨_, cap, rfl, .inr ⟨g, rfl, hg, hc⟩⟩

set_option maxRecDepth 100000 in
set_option maxHeartbeats 2000000 in
theorem areFuncs_any {base : Nat} {s : Value} {xs : List (Int × Int)} (hl : xs.length ≤ 1048576) (w : World) (h : OwnsF w base s xs) {b : Bool} (hb : allTo xs xs.length = b) :
    Calls Try.prog 92 #[s] w fun e w' => e = .returned (.bool b) ∧ Below w.heap.size w w' := by
  obtain ⟨a, cap, rfl, hrow⟩ := h.cells
  have HROW := Lib.hid hrow
  have HBB := Lib.hid hb
  clear h hrow hb
  generalize hL : xs.length = L at hl HROW HBB ⊢
  clear hL
  go_enter Try.func92, Try.ntmps92
  go_wp2
  go_loopw [7] (fun i' wr => ∃ i : Nat, i ≤ L ∧ i' = .int .i64 i ∧ Hid (allTo xs i = true) ∧ Below w.heap.size w wr) (fun i' _ => L - (intOf i').toNat)
  case atStart => exact ⟨0, Nat.zero_le _, rfl, Lib.hid rfl, Below.refl _ _⟩
  case round =>
    obtain ⟨i, hi, rfl, hm, hB⟩ := hrel
    by_cases hlt : i < L
    · obtain ⟨g, rfl, hg, hc⟩ : ∃ g, a = some ⟨g, 0, none⟩ ∧ g < w.heap.size ∧ Hid (∀ j, j < L → w.cell? ⟨g, j * 2, none⟩ = some (.int .i64 (fget xs j).1) ∧ w.cell? ⟨g, j * 2 + 1, none⟩ = some (.int .i64 (fget xs j).2)) := by
        rcases HROW.out with h0 | h1
        · omega
        · exact h1
      obtain ⟨c0, c1⟩ := hc.out i hlt
      have d0 := (hB.cell (p := ⟨g, i * 2, none⟩) hg).trans c0
      have d1 := (hB.cell (p := ⟨g, i * 2 + 1, none⟩) hg).trans c1
      clear c0 c1
      cases hf : isF (fget xs i).1 (fget xs i).2
      · obtain rfl : b = false := HBB.out.symm.trans (allTo_false hlt hf)
        go_wp2_with (go_at_call 61; refine (IsFunc_is hf _).mono ?_; rintro e w2 ⟨rfl, hb2⟩)
        go_ret
        exact ⟨rfl, bthen hB (bthen (bnew _ _) hb2)⟩
      · have HM := Lib.hid (show allTo xs (i + 1) = true by rw [allTo_succ, hm.out, hf]; rfl)
        go_wp2_with (go_at_call 61; refine (IsFunc_is hf _).mono ?_; rintro e w2 ⟨rfl, hb2⟩)
        go_roundw
        case rel => exact ⟨i + 1, by omega, by go_num, HM, bthen hB (bthen (bnew _ _) hb2)⟩
        case measure => simp [intOf]; omega
    · obtain rfl : i = L := by omega
      obtain rfl : b = true := HBB.out.symm.trans hm.out
      go_wp2
      go_ret
      exact ⟨rfl, hB⟩

/-- The code of a list. -/
def codeA (b : Bool) : Int := if b then 0 else 1

end Go.Proofs.Ytlohldddioikaaa
