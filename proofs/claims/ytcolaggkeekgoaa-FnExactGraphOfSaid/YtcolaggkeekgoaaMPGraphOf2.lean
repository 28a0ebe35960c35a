/-
  The texts RB, GR3, GR4, FGraphOf in one.
-/
import Derived.Test.YtcolaggkeekgoaaMPGraphOf1
import Derived.OrdersHeld
import Derived.Deep.RegionHeld3

/- RB:
  A region that draws its order inside a round, none of whose operations is a defer, walked by the plain calculus (so that loads may be taken first: the laws of OrdersHeld). -/
namespace Go.Proofs.Ytcolaggkeekgoaa
open Go Go.RowKit

theorem upon_wide {P : Program} {o : Oper} {a : Act} {K : Act → World → Prop} {Q : Exit → Act → World → Prop} {n : Nat} (hn : 1 ≤ n) : ∀ r, o.upon P a K Q r → o.uponIn Fence.wide n P a K Q r := by
  intro r h
  cases r with
  | ok x w' =>
    cases x with
    | value v => exact h
    | skip => exact h
    | defer d => exact h
    | enter f args =>
      refine ⟨fun _ => hn, CallsIn.mono (callsIn_wide.2 h) fun e w'' he => ?_⟩
      cases e <;> exact he
    | row row args => exact ⟨fun _ => hn, fun c cs _ => let ⟨v, w', r, s⟩ := h c cs; ⟨v, w', r, stepsIn_wide.2 s⟩⟩
    | _ => exact h.elim
  | halt x w' => cases x <;> first | exact h | exact h.elim

theorem wpOp_wide {P : Program} {ops : Array Oper} {Q : Exit → Act → World → Prop} {i : Nat} {K : Act → World → Prop} {a : Act} {w : World} {n : Nat} (hn : 1 ≤ n) (hL : ¬ LetsOut Q) (h : wpOp P ops Q i K a w) : wpOpIn Fence.wide n P ops Q i K a w := by
  unfold wpOp at h
  unfold wpOpIn
  cases ho : ops[i]? with
  | none => simp only [ho] at h ⊢; exact h
  | some o =>
    simp only [ho] at h ⊢
    split
    · rename_i hw
      rw [if_pos hw] at h
      rcases h with h | ⟨_, h⟩
      · exact ⟨fun _ _ => trivial, upon_wide hn _ h⟩
      · exact absurd h hL
    · rename_i hw
      rw [if_neg hw] at h
      exact ⟨fun _ _ => trivial, h⟩

theorem wpAny_wide {P : Program} {md : Region.Mode} {ops : Array Oper} {Q : Exit → Act → World → Prop} {n : Nat} (hn : 1 ≤ n) (hL : ¬ LetsOut Q) : ∀ (fuel : Nat) (listed : Array Bool) (a : Act) (w : World),
    wpAny P md ops Q fuel listed a w → wpAnyIn Fence.wide n P md ops Q fuel listed a w
  | 0, _, _, _, h => h
  | fuel + 1, _, _, _, h => ⟨h.1, fun i hi => wpOp_wide hn hL (wpOp_mono (fun a w => wpAny_wide hn hL fuel _ a w) (h.2 i hi))⟩

/-- **The bridge.** -/
theorem region_round {P : Program} {id l n : Nat} {ops : Array Oper} {Q : Exit → Act → World → Prop} {a : Act} {w : World} (S : World → Prop) (hm : P.follows .mixedOrders = true) (hnd : noDefer ops = true) (hn : 1 ≤ n) (hL : ¬ LetsOut Q)
    (h : wpAnyH P .any ops Q S ops.size (Array.replicate ops.size false) a w.drew) : (Code.region id ops true).wpIn (Fence.wide.inRound l) n P Q a w :=
  wpIn_region_any hm (wpAnyIn_round (F := Fence.wide) l hnd _ _ _ _ (wpAny_wide hn hL _ _ _ _ (wpAny_of_held _ _ _ _ h)))
end Go.Proofs.Ytcolaggkeekgoaa

/- GR3:
  GraphOf of the program, and in both packages. -/
namespace Go.Proofs.Ytcolaggkeekgoaa
open Go.RowKit Go.Shelf
attribute [local go_sem] Oper.semAt_some
set_option linter.unusedVariables false
set_option linter.unusedSimpArgs false

set_option maxRecDepth 100000 in
set_option maxHeartbeats 2000000 in
theorem implGraphOf_no {n b : Int} (h : isF n b = false) (w : World) :
    Calls Try.prog 44 #[.agg #[.int .i64 n, .int .i64 b]] w fun e w' => e = .returned (.tuple #[.agg #[.int .i64 0, .int .i64 0], .int .i64 1]) ∧ Below w.heap.size w w' := by
  obtain ⟨W1, hW1⟩ : ∃ W1, (w.alloc (.cells #[.int .i64 n, .int .i64 b] 24)).alloc (.cells #[.int .i64 0, .int .i64 0] 49) = W1 := ⟨_, rfl⟩
  have p0 : W1.cell? ⟨w.heap.size, 0, none⟩ = some (.int .i64 n) := by rw [← hW1]; simp [go_sem]
  have p1 : W1.cell? ⟨w.heap.size, 1, none⟩ = some (.int .i64 b) := by rw [← hW1]; simp [go_sem]
  have c0 : W1.cell? ⟨w.heap.size + 1, 0, none⟩ = some (.int .i64 0) := by rw [← hW1]; simp [go_sem]
  have c1 : W1.cell? ⟨w.heap.size + 1, 1, none⟩ = some (.int .i64 0) := by rw [← hW1]; simp [go_sem]
  have f0 : W1.frozen? ⟨w.heap.size + 1, 0, none⟩ = false := by rw [← hW1]; simp [go_sem]
  have f1 : W1.frozen? ⟨w.heap.size + 1, 1, none⟩ = false := by rw [← hW1]; simp [go_sem]
  have hB : Below w.heap.size w W1 := by rw [← hW1]; exact balloc (bnew _ _) _
  go_enter Try.func44, Try.ntmps44
  go_wp2_with fail
  clear hW1
  refine (IsFunc_is h _).mono ?_
  rintro e w2 ⟨rfl, hb2⟩
  have qc0 := kc hb2 c0
  have qc1 := kc hb2 c1
  have qf0 := kf hb2 c0 f0
  have qf1 := kf hb2 c1 f1
  clear p0 p1 c0 c1 f0 f1
  have hB2 := bthen hB hb2
  go_wp2
  exact bodyPost_ret (v := .tuple #[.agg #[.int .i64 0, .int .i64 0], .int .i64 1]) (by simp [results, Try.results44, go_sem, qc0, qc1]) rfl ⟨rfl, (hB2.setCell (p := ⟨w.heap.size + 1, 0, none⟩) (by simp) _).setCell (p := ⟨w.heap.size + 1, 1, none⟩) (by simp) _⟩
set_option maxRecDepth 100000 in
set_option maxHeartbeats 2000000 in
theorem implGraphOf_lim {b : Int} (h : isF 4 b = true) (w : World) :
    Calls Try.prog 44 #[.agg #[.int .i64 4, .int .i64 b]] w fun e w' => e = .returned (.tuple #[.agg #[.int .i64 0, .int .i64 0], .int .i64 3]) ∧ Below w.heap.size w w' := by
  obtain ⟨W1, hW1⟩ : ∃ W1, (w.alloc (.cells #[.int .i64 4, .int .i64 b] 24)).alloc (.cells #[.int .i64 0, .int .i64 0] 49) = W1 := ⟨_, rfl⟩
  have p0 : W1.cell? ⟨w.heap.size, 0, none⟩ = some (.int .i64 4) := by rw [← hW1]; simp [go_sem]
  have p1 : W1.cell? ⟨w.heap.size, 1, none⟩ = some (.int .i64 b) := by rw [← hW1]; simp [go_sem]
  have c0 : W1.cell? ⟨w.heap.size + 1, 0, none⟩ = some (.int .i64 0) := by rw [← hW1]; simp [go_sem]
  have c1 : W1.cell? ⟨w.heap.size + 1, 1, none⟩ = some (.int .i64 0) := by rw [← hW1]; simp [go_sem]
  have f0 : W1.frozen? ⟨w.heap.size + 1, 0, none⟩ = false := by rw [← hW1]; simp [go_sem]
  have f1 : W1.frozen? ⟨w.heap.size + 1, 1, none⟩ = false := by rw [← hW1]; simp [go_sem]
  have hB : Below w.heap.size w W1 := by rw [← hW1]; exact balloc (bnew _ _) _
  go_enter Try.func44, Try.ntmps44
  go_wp2_with fail
  clear hW1
  refine (IsFunc_is h _).mono ?_
  rintro e w2 ⟨rfl, hb2⟩
  have qp0 := kc hb2 p0
  have qp1 := kc hb2 p1
  have qc0 := kc hb2 c0
  have qc1 := kc hb2 c1
  have qf0 := kf hb2 c0 f0
  have qf1 := kf hb2 c1 f1
  clear p0 p1 c0 c1 f0 f1
  have hB2 := bthen hB hb2
  go_wp2
  exact bodyPost_ret (v := .tuple #[.agg #[.int .i64 0, .int .i64 0], .int .i64 3]) (by simp [results, Try.results44, go_sem, qc0, qc1]) rfl ⟨rfl, (hB2.setCell (p := ⟨w.heap.size + 1, 0, none⟩) (by simp) _).setCell (p := ⟨w.heap.size + 1, 1, none⟩) (by simp) _⟩

/-- The graph of the rows handed out so far. -/
def grF {R : Nat} (x n : Nat) (pre : List (Row R)) : Nat := pre.foldl (fun g y => g ||| 2 ^ (y.1 ||| bitN x y.1 * 2 ^ n)) 0
theorem grF_snoc {R : Nat} (x n : Nat) (pre : List (Row R)) (y : Row R) : grF x n (pre ++ [y]) = grF x n pre ||| 2 ^ (y.1 ||| bitN x y.1 * 2 ^ n) := by simp [grF]
theorem grF_upto {R : Nat} (hR : 0 < R) (x n k : Nat) (hk : k ≤ R) : grF x n (upto hR k) = grN x n k := by
  induction k with
  | zero => rfl
  | succ k ih => rw [upto_succ, grF_snoc, ih (by omega), rowAt_val hR (by omega)]; rfl
theorem grF_lt' {R : Nat} (x : Nat) {n : Nat} (hn : n < 4) (hR : R = 2 ^ n) (l : List (Row R)) : grF x n l.reverse < 2 ^ 16 := by
  induction l with
  | nil => simp [grF]
  | cons y l ih =>
    rw [List.reverse_cons, grF_snoc]
    exact Nat.or_lt_two_pow ih (Nat.pow_lt_pow_right (by decide) (gr_num hn (by have := y.2; omega) (bitN_le x y.1)))
theorem grF_lt {R : Nat} (x : Nat) {n : Nat} (hn : n < 4) (hR : R = 2 ^ n) (pre : List (Row R)) : grF x n pre < 2 ^ 16 := by
  have := grF_lt' x hn hR pre.reverse
  rwa [List.reverse_reverse] at this

/-- The boxes of the program's GraphOf: the function, the answer, the graph. -/
structure GrM (BF BG : Nat) (n : Int) (x : Nat) (P : Int) (G : Nat) (W : World) : Prop where
  c0 : W.cell? ⟨BF, 0, none⟩ = some (.int .i64 n)
  c1 : W.cell? ⟨BF, 1, none⟩ = some (.int .i64 (x : Int))
  r0 : W.cell? ⟨BF + 1, 0, none⟩ = some (.int .i64 0)
  r1 : W.cell? ⟨BF + 1, 1, none⟩ = some (.int .i64 0)
  rf0 : W.frozen? ⟨BF + 1, 0, none⟩ = false
  rf1 : W.frozen? ⟨BF + 1, 1, none⟩ = false
  g0 : W.cell? ⟨BG, 0, none⟩ = some (.int .i64 P)
  g1 : W.cell? ⟨BG, 1, none⟩ = some (.int .i64 (G : Int))
  gf0 : W.frozen? ⟨BG, 0, none⟩ = false
  gf1 : W.frozen? ⟨BG, 1, none⟩ = false
theorem GrM.kept {BF BG : Nat} {n : Int} {x : Nat} {P : Int} {G : Nat} {W W' : World} {row : Option Nat} (h : GrM BF BG n x P G W) (hg : W.grownBy W' row) (hr : ∀ r, row = some r → ∃ o : Obj, W.heap[r]? = some o ∧ o.isCells = false) : GrM BF BG n x P G W' :=
  ⟨cell_kept h.c0 hg hr, cell_kept h.c1 hg hr, cell_kept h.r0 hg hr, cell_kept h.r1 hg hr, (frozen_kept h.r0 hg hr).trans h.rf0, (frozen_kept h.r1 hg hr).trans h.rf1, cell_kept h.g0 hg hr, cell_kept h.g1 hg hr, (frozen_kept h.g0 hg hr).trans h.gf0, (frozen_kept h.g1 hg hr).trans h.gf1⟩
theorem GrM.below {BF BG : Nat} {n : Int} {x : Nat} {P : Int} {G : Nat} {W W' : World} (h : GrM BF BG n x P G W) (hb : Below W.heap.size W W') : GrM BF BG n x P G W' :=
  ⟨kc hb h.c0, kc hb h.c1, kc hb h.r0, kc hb h.r1, kf hb h.r0 h.rf0, kf hb h.r1 h.rf1, kc hb h.g0, kc hb h.g1, kf hb h.g0 h.gf0, kf hb h.g1 h.gf1⟩
theorem GrM.set {BF BG : Nat} {n : Int} {x : Nat} {P : Int} {G G2 : Nat} {W : World} (h : GrM BF BG n x P G W) (h1 : BF + 1 < BG) : GrM BF BG n x P G2 ((W.setCell ⟨BG, 0, none⟩ (.int .i64 P)).setCell ⟨BG, 1, none⟩ (.int .i64 (G2 : Int))) := by
  obtain ⟨c0, c1, r0, r1, rf0, rf1, g0, g1, gf0, gf1⟩ := h
  have e0 : ¬ BG = BF := by omega
  have e1 : ¬ BG = BF + 1 := by omega
  exact ⟨by simp [go_sem, c0, e0], by simp [go_sem, c1, e0], by simp [go_sem, r0, e1], by simp [go_sem, r1, e1], by simp [go_sem, rf0], by simp [go_sem, rf1], by simp [go_sem, g0], by simp [go_sem, g1], by simp [go_sem, gf0], by simp [go_sem, gf1]⟩

set_option maxRecDepth 100000 in
set_option maxHeartbeats 8000000 in
theorem implGraphOf_yes {n P x R : Nat} (hP : (n : Int) + 1 = (P : Int)) (hn : n < 4) (ok : FOk (n : Int) x R) (w : World) :
    Calls Try.prog 44 #[.agg #[.int .i64 (n : Int), .int .i64 (x : Int)]] w fun e w' => e = .returned (.tuple #[.agg #[.int .i64 (P : Int), .int .i64 (grN x n R : Int)], .int .i64 0]) ∧ Below w.heap.size w w' := by
  have r0 := ok.r0
  have r16 := ok.r16
  have hR2 : R = 2 ^ n := by have := ok.he; simpa using this
  have HGL := Lib.hid (fun (pre : List (Row R)) => grF_lt x hn hR2 pre)
  have HSU := Lib.hid (fun (r : Nat) (hr : r < R) => gr_sum hn (hR2 ▸ hr) (bitN_le x r))
  have hx := ok.hx
  clear hR2
  obtain ⟨W1, hW1⟩ : ∃ W1, (w.alloc (.cells #[.int .i64 (n : Int), .int .i64 (x : Int)] 24)).alloc (.cells #[.int .i64 0, .int .i64 0] 49) = W1 := ⟨_, rfl⟩
  have p0 : W1.cell? ⟨w.heap.size, 0, none⟩ = some (.int .i64 (n : Int)) := by rw [← hW1]; simp [go_sem]
  have p1 : W1.cell? ⟨w.heap.size, 1, none⟩ = some (.int .i64 (x : Int)) := by rw [← hW1]; simp [go_sem]
  have c0 : W1.cell? ⟨w.heap.size + 1, 0, none⟩ = some (.int .i64 0) := by rw [← hW1]; simp [go_sem]
  have c1 : W1.cell? ⟨w.heap.size + 1, 1, none⟩ = some (.int .i64 0) := by rw [← hW1]; simp [go_sem]
  have f0 : W1.frozen? ⟨w.heap.size + 1, 0, none⟩ = false := by rw [← hW1]; simp [go_sem]
  have f1 : W1.frozen? ⟨w.heap.size + 1, 1, none⟩ = false := by rw [← hW1]; simp [go_sem]
  have hB : Below w.heap.size w W1 := by rw [← hW1]; exact balloc (bnew _ _) _
  have hge : decide ((4 : Int) < (P : Int)) = false := by simp; omega
  have hw1 : IntKind.i64.wrap ((n : Int) + 1) = (P : Int) := by rw [wrap64_small (by omega) (by omega)]; exact hP
  clear hP
  refine (callsIn_wide (n := 3)).1 ?_
  refine callsIn_of_wp_marks Try.func44 rfl trivial ?_ rfl
  simp only [Try.ntmps44, List.size_toArray, List.length_cons, List.length_nil, Nat.reduceAdd, Nat.reduceSub, Array.replicate_succ, Array.replicate_zero, List.push_toArray, List.append_toArray, List.nil_append, List.cons_append]
  gi_wp2_with fail
  clear hW1
  refine ⟨trivial, ?_⟩
  refine (callsIn_wide.2 (IsFunc_is ok.is _)).mono ?_
  rintro e w2 ⟨rfl, hb2⟩
  have q0 := kc hb2 p0
  have q1 := kc hb2 p1
  have qc0 := kc hb2 c0
  have qc1 := kc hb2 c1
  have qf0 := kf hb2 c0 f0
  have qf1 := kf hb2 c1 f1
  have hB2 := bthen hB hb2
  have l2 : w.heap.size + 1 < w2.heap.size := cell_lt qc0
  have l1 : w.heap.size < w2.heap.size := by omega
  clear p0 p1 c0 c1 f0 f1
  gi_wp2_with (refine ⟨trivial, ?_⟩; gi_at_call 84; refine (callsIn_wide.2 (rowsOf_any _ _)).mono ?_; rintro e w' ⟨rfl, rfl⟩)
  obtain ⟨W0, hW0⟩ : ∃ W0, (w2.alloc (.cells #[.int .i64 (P : Int), .int .i64 0] 49)).alloc (.cells #[.int .i64 (n : Int)] 2) = W0 := ⟨_, rfl⟩
  have hb20 : Below w2.heap.size w2 W0 := by rw [← hW0]; exact balloc (bnew _ _) _
  have hM0 : GrM w.heap.size w2.heap.size (n : Int) x (P : Int) 0 W0 :=
    ⟨kc hb20 q0, kc hb20 q1, kc hb20 qc0, kc hb20 qc1, kf hb20 qc0 qf0, kf hb20 qc1 qf1, by rw [← hW0]; simp [go_sem], by rw [← hW0]; simp [go_sem], by rw [← hW0]; simp [go_sem], by rw [← hW0]; simp [go_sem]⟩
  have cM : W0.cell? ⟨w2.heap.size + 1, 0, none⟩ = some (.int .i64 (n : Int)) := by rw [← hW0]; simp [go_sem]
  have hsz : W0.heap.size = w2.heap.size + 2 := by rw [← hW0]; simp [go_sem]
  have hB0 : Below w.heap.size w W0 := bthen hB2 hb20
  rw [hW0]
  clear hW0 q0 q1 qc0 qc1 qf0 qf1 hb20
  refine wpIn_rangeFunc_ownF (α := Row R) rfl (by omega) (gf := 100) (lb := #[.pointer (some ⟨w2.heap.size + 1, 0, none⟩)]) rfl trivial (enters_of Try.func100 (by kernel_rfl) rfl)
    (rows_stops (3 - 1) (by omega) (w2.heap.size + 1) w.heap.size (n : Int) R ok.h0 ok.h4 r0 r16 ok.hR W0 (by omega) cM) belowK_t (belowK_b (by omega)) (Below.refl _ _) (fun _ => rfl)
    (fun pre W => GrM w.heap.size w2.heap.size (n : Int) x (P : Int) (grF x n pre) W ∧ Below w.heap.size w W)
    (fun _ _ _ => False)
    (OwnFrom.and (Own.from (fun s A B row hs hg hr => hs.kept hg hr) _) (ownFrom_below (by omega) (by omega)))
    (fun _ _ _ _ _ hs _ _ => hs)
    ⟨hM0, hB0⟩
    (fun y => { tmps := #[.agg #[.int .i64 (n : Int), .int .i64 (x : Int)], .pointer (some ⟨w.heap.size, 0, none⟩), .pointer (some ⟨w.heap.size + 1, 0, none⟩), .int .i64 0, .pointer (some ⟨w2.heap.size, 0, none⟩), .int .i64 (y.1 : Int), undef, .agg #[.int .i64 (n : Int), .int .i64 (x : Int)], .bool true, .bool false, undef, .pointer (some ⟨w.heap.size, 0, none⟩), .int .i64 (n : Int), .int .i64 (P : Int), .bool false, undef,
      .pointer (some ⟨w.heap.size, 0, none⟩), .int .i64 (n : Int), .int .i64 (P : Int), .agg #[.int .i64 (P : Int), .int .i64 0], .pointer (some ⟨w.heap.size, 0, none⟩), .int .i64 (n : Int), .func (.func 100) #[] #[.pointer (some ⟨w2.heap.size + 1, 0, none⟩)], .int .i64 (y.1 : Int), undef, undef, undef, undef, undef, undef, undef, undef, undef, undef, undef, undef], defers := [] }) ?assign ?body ?done ?stop
  case assign =>
    intro l y W K hK
    unfold encRow
    gi_wp2
    exact hK
  case body =>
    clear hM0 cM hB0 hge hw1
    rintro l pre y W ⟨hM, hBW⟩ hlen
    have hr := y.2
    have hG := HGL.out pre
    have HSN := Lib.hid (grF_snoc x n pre y)
    have hsu := HSU.out y.1 hr
    have HM := Lib.hid hM
    have c0 := hM.c0
    have c1 := hM.c1
    have g0 := hM.g0
    have g1 := hM.g1
    have gf0 := hM.gf0
    have gf1 := hM.gf1
    clear hM
    generalize y.1 = r at hr HSN hsu ⊢
    have TW := Lib.hid (fun W => tupleWith_any (x := r) (by omega) W)
    have VR0 := fun W => valueInRow_any (n : Int) x r hx (by omega) W
    have hb1 := bitN_le x r
    generalize bitN x r = b at hsu HSN VR0 hb1
    have VR := Lib.hid VR0
    have WT0 := fun W => withTuple_any (n := (P : Int)) (y := grF x n pre) (Nat.lt_trans hG (by decide)) (fun j => if j = n then b else bitN r j) (fun j _ => by split <;> first | exact hb1 | exact bitN_le _ _) W
    rw [hsu] at WT0
    unfold arr at WT0
    dsimp only at WT0
    have WT := Lib.hid WT0
    generalize hGG : grF x n pre ||| 2 ^ (r ||| b * 2 ^ n) = G2 at WT HSN
    clear hGG VR0 WT0 hsu
    have END := Lib.hid (fun w' (hb : Below W.heap.size W w') => (show KeepsOthers W ((w'.setCell ⟨w2.heap.size, 0, none⟩ (.int .i64 (P : Int))).setCell ⟨w2.heap.size, 1, none⟩ (.int .i64 (G2 : Int))) ∧ Below w.heap.size W ((w'.setCell ⟨w2.heap.size, 0, none⟩ (.int .i64 (P : Int))).setCell ⟨w2.heap.size, 1, none⟩ (.int .i64 (G2 : Int))) ∧
        (GrM w.heap.size w2.heap.size (n : Int) x (P : Int) (grF x n (pre ++ [y])) ((w'.setCell ⟨w2.heap.size, 0, none⟩ (.int .i64 (P : Int))).setCell ⟨w2.heap.size, 1, none⟩ (.int .i64 (G2 : Int))) ∧ Below w.heap.size w ((w'.setCell ⟨w2.heap.size, 0, none⟩ (.int .i64 (P : Int))).setCell ⟨w2.heap.size, 1, none⟩ (.int .i64 (G2 : Int)))) from
      ⟨((kotb hb).trans (KeepsOthers.setCell _ _ _)).trans (KeepsOthers.setCell _ _ _), ((hb.mono hBW.size).setCell (p := ⟨w2.heap.size, 0, none⟩) (by show w.heap.size ≤ w2.heap.size; omega) _).setCell (p := ⟨w2.heap.size, 1, none⟩) (by show w.heap.size ≤ w2.heap.size; omega) _,
        by rw [HSN.out]; exact (HM.out.below hb).set l2, ((bthen hBW hb).setCell (p := ⟨w2.heap.size, 0, none⟩) (by show w.heap.size ≤ w2.heap.size; omega) _).setCell (p := ⟨w2.heap.size, 1, none⟩) (by show w.heap.size ≤ w2.heap.size; omega) _⟩))
    have hmx : Try.prog.follows .mixedOrders = true := by kernel_rfl
    have hlw : w2.heap.size < W.heap.size := cell_lt g0
    gi_wp2_with (refine ⟨trivial, ?_⟩; gi_at_call 85; refine (callsIn_wide.2 (TW.out _)).mono ?_; rintro e wt ⟨rfl, hbt⟩; unfold arr)
    obtain ⟨W8, hW8⟩ : ∃ W8, wt.alloc (.cells #[.int .i64 (bitN r 0 : Int), .int .i64 (bitN r 1 : Int), .int .i64 (bitN r 2 : Int), .int .i64 (bitN r 3 : Int)] 82) = W8 := ⟨_, rfl⟩
    have hBX : W.heap.size ≤ wt.heap.size := hbt.size
    have hA8 : ArrM W wt.heap.size (bitN r) W8 := by
      rw [← hW8]
      refine ⟨fun j hj => ?_, fun j hj => ?_, bthen hbt (bnew _ _)⟩
      · rcases (show j = 0 ∨ j = 1 ∨ j = 2 ∨ j = 3 by omega) with rfl | rfl | rfl | rfl <;> simp [go_sem]
      · simp [go_sem]
    have b0 : W8.cell? ⟨w.heap.size, 0, none⟩ = some (.int .i64 (n : Int)) := kc hA8.old c0
    have b1 : W8.cell? ⟨w.heap.size, 1, none⟩ = some (.int .i64 (x : Int)) := kc hA8.old c1
    have hn4 : (n : Int) < 4 := by omega
    have hneF : ¬ wt.heap.size = w.heap.size := by omega
    rw [hW8]
    clear hW8 c0 c1
    have c0 := (cell_drew_own W8 _).trans b0
    have c1 := (cell_drew_own W8 _).trans b1
    have hA8d : ArrM W wt.heap.size (bitN r) W8.drew := hA8.below (Below.refl _ _).drew
    refine region_round (l := l) (fun W9 => (W9.cell? ⟨w.heap.size, 0, none⟩ = some (.int .i64 (n : Int)) ∧ W9.cell? ⟨w.heap.size, 1, none⟩ = some (.int .i64 (x : Int))) ∧ Below W.heap.size W W9) hmx (by kernel_rfl) (by omega) (by rintro ⟨_, _, h⟩; exact h) ?_
    have hHeld : (W8.drew.cell? ⟨w.heap.size, 0, none⟩ = some (.int .i64 (n : Int)) ∧ W8.drew.cell? ⟨w.heap.size, 1, none⟩ = some (.int .i64 (x : Int))) ∧ Below W.heap.size W W8.drew := ⟨⟨c0, c1⟩, hA8d.old⟩
    refine wpAnyH_take (i := 0) (v := ?_) rfl (by kernel_rfl) (by kernel_rfl) (by kernel_rfl) (fun _ _ _ h => h) (Or.inl ⟨by rfl, by intro w hSw; (try dsimp only at hSw); go_simp; try (with_reducible rfl)⟩) (by assumption) ?_
    try simp only [Act.put, List.setIfInBounds_toArray, List.set_cons_zero, List.set_cons_succ, List.getElem_toArray, List.getElem_cons_zero, List.getElem_cons_succ]
    refine wpAnyH_take (i := 1) (v := ?_) rfl (by kernel_rfl) (by kernel_rfl) (by kernel_rfl) (fun _ _ _ h => h) (Or.inl ⟨by rfl, by intro w hSw; (try dsimp only at hSw); go_simp; try (with_reducible rfl)⟩) (by assumption) ?_
    try simp only [Act.put, List.setIfInBounds_toArray, List.set_cons_zero, List.set_cons_succ, List.getElem_toArray, List.getElem_cons_zero, List.getElem_cons_succ]
    refine wpAnyH_take (i := 2) (v := ?_) rfl (by kernel_rfl) (by kernel_rfl) (by kernel_rfl) (fun _ _ _ h => h) (Or.inl ⟨by rfl, by intro w hSw; (try dsimp only at hSw); go_simp; try (with_reducible rfl)⟩) (by assumption) ?_
    try simp only [Act.put, List.setIfInBounds_toArray, List.set_cons_zero, List.set_cons_succ, List.getElem_toArray, List.getElem_cons_zero, List.getElem_cons_succ]
    refine wpAnyH_take (i := 3) (v := ?_) rfl (by kernel_rfl) (by kernel_rfl) (by kernel_rfl) (fun _ _ _ h => h) (Or.inl ⟨by rfl, by intro w hSw; (try dsimp only at hSw); go_simp; try (with_reducible rfl)⟩) (by assumption) ?_
    try simp only [Act.put, List.setIfInBounds_toArray, List.set_cons_zero, List.set_cons_succ, List.getElem_toArray, List.getElem_cons_zero, List.getElem_cons_succ]
    refine wpAnyH_ready (rs := [4]) (by kernel_rfl) (by simp) ?_
    refine AllReadyH.cons rfl (fun K hK => ?_) ?_
    · go_simp
      refine (VR.out _).mono ?_
      rintro e w5 ⟨rfl, hb5⟩
      have HA5 := Lib.hid (hA8d.below hb5)
      have cn5 := HA5.out.c n hn
      have fn5 := HA5.out.f n hn
      refine hK.out _ _ (⟨⟨kc hb5 hHeld.1.1, kc hb5 hHeld.1.2⟩, bthen hHeld.2 hb5⟩) (fun hHeld => ?_)
      clear hK K
      try simp only [Act.put, List.setIfInBounds_toArray, List.set_cons_zero, List.set_cons_succ, List.getElem_toArray, List.getElem_cons_zero, List.getElem_cons_succ]
      refine wpAnyH_take (i := 5) (v := ?_) rfl (by kernel_rfl) (by kernel_rfl) (by kernel_rfl) (fun _ _ _ h => h) (Or.inl ⟨by rfl, by intro w hSw; (try dsimp only at hSw); go_simp; try (with_reducible rfl)⟩) (by assumption) ?_
      try simp only [Act.put, List.setIfInBounds_toArray, List.set_cons_zero, List.set_cons_succ, List.getElem_toArray, List.getElem_cons_zero, List.getElem_cons_succ]
      refine wpAnyH_ready (rs := [6]) (by kernel_rfl) (by simp) ?_
      refine AllReadyH.cons rfl (fun K hK => ?_) ?_
      · go_simp
        refine hK.out _ _ (⟨⟨by simp [go_sem, hHeld.1.1, hneF], by simp [go_sem, hHeld.1.2, hneF]⟩, hHeld.2.setCell (p := ⟨wt.heap.size, n, none⟩) hBX _⟩) (fun hHeld => ?_)
        clear hK K
        try simp only [Act.put, List.setIfInBounds_toArray, List.set_cons_zero, List.set_cons_succ, List.getElem_toArray, List.getElem_cons_zero, List.getElem_cons_succ]
        refine wpAnyH_done (by kernel_rfl) ?_ _
        have hA6 := HA5.out.set (e := fun j => if j = n then b else bitN r j) hBX n hn (fun j hj => by by_cases hjn : j = n <;> simp [hjn])
        have e6 : (if n = n then b else bitN r n) = b := if_pos rfl
        
        rw [e6] at hA6
        have HA6 := Lib.hid hA6
        clear hA6 e6
        have a0 := HA6.out.c 0 (by decide)
        have a1 := HA6.out.c 1 (by decide)
        have a2 := HA6.out.c 2 (by decide)
        have a3 := HA6.out.c 3 (by decide)
        have hBW6 := Lib.hid HA6.out.old
        have m0 := kc hBW6.out g0
        have m1 := kc hBW6.out g1
        have mf0 := kf hBW6.out g0 gf0
        have mf1 := kf hBW6.out g1 gf1
        clear hHeld
        try dsimp only at a0 a1 a2 a3
        generalize (if (0 : Nat) = n then b else bitN r 0) = z0 at a0 WT
        generalize (if (1 : Nat) = n then b else bitN r 1) = z1 at a1 WT
        generalize (if (2 : Nat) = n then b else bitN r 2) = z2 at a2 WT
        generalize (if (3 : Nat) = n then b else bitN r 3) = z3 at a3 WT
        generalize hW6 : w5.setCell ⟨wt.heap.size, n, none⟩ (.int .i64 (b : Int)) = W6 at a0 a1 a2 a3 hBW6 m0 m1 mf0 mf1 ⊢
        clear hW6
        gi_wp2_with (refine ⟨trivial, ?_⟩; gi_at_call 86; refine (callsIn_wide.2 (WT.out _)).mono ?_; rintro e w7 ⟨rfl, hb7⟩; have u0 := kc hb7 m0; have u1 := kc hb7 m1; have uf0 := kf hb7 m0 mf0; have uf1 := kf hb7 m1 mf1)
        exact END.out _ (bthen hBW6.out hb7)
      exact AllReadyH.nil
    exact AllReadyH.nil
  case done =>
    clear hM0 cM hB0
    rintro D ys W hD rfl ⟨hM, hB⟩ hK
    rw [grF_upto r0 x n R (Nat.le_refl _)] at hM
    have g0 := hM.g0
    have g1 := hM.g1
    have rr0 := hM.r0
    have rr1 := hM.r1
    have rf0 := hM.rf0
    have rf1 := hM.rf1
    clear hM
    have k0 : ((W.setCell ⟨w.heap.size + 1, 0, none⟩ (.int .i64 (P : Int))).setCell ⟨w.heap.size + 1, 1, none⟩ (.int .i64 (grN x n R : Int))).cell? ⟨w.heap.size + 1, 0, none⟩ = some (.int .i64 (P : Int)) := by simp [go_sem, rr0]
    have k1 : ((W.setCell ⟨w.heap.size + 1, 0, none⟩ (.int .i64 (P : Int))).setCell ⟨w.heap.size + 1, 1, none⟩ (.int .i64 (grN x n R : Int))).cell? ⟨w.heap.size + 1, 1, none⟩ = some (.int .i64 (grN x n R : Int)) := by simp [go_sem, rr1]
    have hBE := (hB.setCell (p := ⟨w.heap.size + 1, 0, none⟩) (by show w.heap.size ≤ w.heap.size + 1; omega) (.int .i64 (P : Int))).setCell (p := ⟨w.heap.size + 1, 1, none⟩) (by show w.heap.size ≤ w.heap.size + 1; omega) (.int .i64 (grN x n R : Int))
    have hK' := ((KeepsOthers.setCell W ⟨w.heap.size + 1, 0, none⟩ (.int .i64 (P : Int))).trans (KeepsOthers.setCell _ ⟨w.heap.size + 1, 1, none⟩ (.int .i64 (grN x n R : Int)))).same D _ hK rfl
    have h0 := cell_kept k0 (grownBy_putObj' _ D (.deferred none)) (fun r e => by cases e; exact ⟨_, hK', rfl⟩)
    have h1 := cell_kept k1 (grownBy_putObj' _ D (.deferred none)) (fun r e => by cases e; exact ⟨_, hK', rfl⟩)
    clear k0 k1
    gi_wp2
    refine ⟨by simp, .inl ⟨_, _, rfl, run_takeDeferred hK', ?_⟩⟩
    exact ⟨.tuple #[.agg #[.int .i64 (P : Int), .int .i64 (grN x n R : Int)], .int .i64 0], by simp [results, Try.results44, go_sem, h0, h1], rfl, hBE.trans (belowK_b (w := w) (Nat.le_refl _) _ D _ _ (by omega) hK' rfl rfl)⟩
  case stop =>
    rintro D c pre W _ _ h _
    exact h.elim
end Go.Proofs.Ytcolaggkeekgoaa

/- GR4:
  GraphOf in both packages. -/
namespace Go.Proofs.Ytcolaggkeekgoaa
open Go.RowKit

theorem bothGraphOf (n b : Int) : ∃ rn rb rc : Int,
    (∀ w, Calls Try.prog 43 #[.agg #[.int .i64 n, .int .i64 b]] w fun e w' => e = .returned (.tuple #[.agg #[.int .i64 rn, .int .i64 rb], .int .i64 rc]) ∧ Below w.heap.size w w') ∧
    (∀ w, Calls Try.prog 44 #[.agg #[.int .i64 n, .int .i64 b]] w fun e w' => e = .returned (.tuple #[.agg #[.int .i64 rn, .int .i64 rb], .int .i64 rc]) ∧ Below w.heap.size w w') := by
  cases h : isF n b
  · exact ⟨_, _, _, specGraphOf_no h, implGraphOf_no h⟩
  · obtain ⟨x, R, rfl, ok⟩ := fok h
    have h0 := ok.h0
    have h4 := ok.h4
    by_cases h3 : n = 4
    · subst h3
      exact ⟨_, _, _, specGraphOf_lim h, implGraphOf_lim h⟩
    · obtain ⟨m, rfl⟩ := Int.eq_ofNat_of_zero_le h0
      exact ⟨_, _, _, specGraphOf_yes (P := m + 1) (by omega) (by omega) ok, implGraphOf_yes (P := m + 1) (by omega) (by omega) ok⟩
end Go.Proofs.Ytcolaggkeekgoaa

/- FGraphOf:
  The walk of the law on GraphOf: both packages answer alike. -/
namespace Go.Proofs.Ytcolaggkeekgoaa
open Go.RowKit
set_option linter.unusedVariables false

set_option maxRecDepth 100000 in
set_option maxHeartbeats 4000000 in
theorem fnExactGraphOf_walk (n0 b0 : Int) (w : World) (_ : (Lit.int .i64 n0).wf = true) (_ : (Lit.int .i64 b0).wf = true) :
    Calls Try.prog 14 #[.agg #[.int .i64 n0, .int .i64 b0]] w fun e w' => e = .returned (.bool true) ∧ Below w.heap.size w w' := by
  obtain ⟨rn, rb, rc, c1, c2⟩ := bothGraphOf n0 b0
  have C1 := Lib.hid c1
  have C2 := Lib.hid c2
  clear c1 c2
  obtain ⟨W1, hW1⟩ : ∃ W1, (w.alloc (.cells #[.int .i64 n0, .int .i64 b0] 23)) = W1 := ⟨_, rfl⟩
  have p00 : W1.cell? ⟨w.heap.size, 0, none⟩ = some (.int .i64 n0) := by rw [← hW1]; simp [go_sem]
  have p01 : W1.cell? ⟨w.heap.size, 1, none⟩ = some (.int .i64 b0) := by rw [← hW1]; simp [go_sem]
  have hN : Below w.heap.size w W1 := by rw [← hW1]; exact balloc (Below.refl _ _) _
  go_enter Try.func14, Try.ntmps14
  go_wp2_with fail
  clear hW1
  go_wp2_with fail
  refine (toFunc_any n0 b0 _).mono ?_
  rintro e w2 ⟨rfl, hb⟩
  replace hN := bthen hN hb
  have q1_0 := kc hb p00; have q1_1 := kc hb p01
  clear hb p00 p01
  go_wp2_with fail
  refine (C1.out _).mono ?_
  rintro e w3 ⟨rfl, hb⟩
  replace hN := bthen hN hb
  have q2_0 := kc hb q1_0; have q2_1 := kc hb q1_1
  clear hb q1_0 q1_1
  obtain ⟨W103, hW, r3_0, r3_1, hb⟩ := ansBoxR rn rb w3
  replace hN := bthen hN hb
  have q3_0 := kc hb q2_0; have q3_1 := kc hb q2_1
  clear hb q2_0 q2_1
  go_wp2_with fail
  clear hW
  go_wp2_with fail
  refine (toFunc_any n0 b0 _).mono ?_
  rintro e w5 ⟨rfl, hb⟩
  replace hN := bthen hN hb
  have q4_0 := kc hb q3_0; have q4_1 := kc hb q3_1
  have q5_0 := kc hb r3_0; have q5_1 := kc hb r3_1
  clear hb q3_0 q3_1 r3_0 r3_1
  go_wp2_with fail
  refine (C2.out _).mono ?_
  rintro e w6 ⟨rfl, hb⟩
  replace hN := bthen hN hb
  have q6_0 := kc hb q4_0; have q6_1 := kc hb q4_1
  have q7_0 := kc hb q5_0; have q7_1 := kc hb q5_1
  clear hb q4_0 q4_1 q5_0 q5_1
  obtain ⟨W106, hW, r6_0, r6_1, hb⟩ := ansBoxR rn rb w6
  replace hN := bthen hN hb
  have q8_0 := kc hb q6_0; have q8_1 := kc hb q6_1
  have q9_0 := kc hb q7_0; have q9_1 := kc hb q7_1
  clear hb q6_0 q6_1 q7_0 q7_1
  go_wp2_with fail
  clear hW
  go_wp2_with fail
  refine (eqRelation_same _ _ _).mono ?_
  rintro e w8 ⟨rfl, hb⟩
  replace hN := bthen hN hb
  have q10_0 := kc hb q8_0; have q10_1 := kc hb q8_1
  have q11_0 := kc hb q9_0; have q11_1 := kc hb q9_1
  have q12_0 := kc hb r6_0; have q12_1 := kc hb r6_1
  clear hb q8_0 q8_1 q9_0 q9_1 r6_0 r6_1
  go_wp2
  go_ret
  exact ⟨rfl, hN⟩
end Go.Proofs.Ytcolaggkeekgoaa
