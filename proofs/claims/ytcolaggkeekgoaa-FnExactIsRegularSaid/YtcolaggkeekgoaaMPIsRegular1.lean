/-
  The texts MO9, RB, MO10, MO11, FIsRegular in one.
-/
import Derived.Test.YtcolaggkeekgoaaMPGreatestFalseRows4
import Derived.Deep.QuietTactic
import Derived.Deep.RegionHeld3
import Derived.OrdersHeld

/- MO9:
  Strength in the model: l07Strong, IsAsStrong. -/
namespace Go.Proofs.Ytcolaggkeekgoaa
open Go.RowKit
set_option linter.unusedVariables false
set_option linter.unusedSimpArgs false

def strongTo (x i j k : Nat) : Bool := allLt k (strong1 x i j)
theorem strongTo_succ (x i j k : Nat) : strongTo x i j (k + 1) = (strongTo x i j k && strong1 x i j k) := allLt_succ _ _
theorem strong_false {x i j k R : Nat} (hk : k < R) (h : strong1 x i j k = false) : strongB x i j R = false := by
  cases hc : strongB x i j R
  · rfl
  · have := allLt_iff.1 hc k hk
    rw [h] at this
    cases this
theorem step_two {W w' W0 : World} {a b : Addr} {u v : Value} (hb : Below W.heap.size W w') (h : (W.cell? a = some u ∧ W.cell? b = some v) ∧ Below W0.heap.size W0 W) :
    (w'.cell? a = some u ∧ w'.cell? b = some v) ∧ Below W0.heap.size W0 w' := ⟨⟨kc hb h.1.1, kc hb h.1.2⟩, bthen h.2 hb⟩

set_option maxRecDepth 100000 in
set_option maxHeartbeats 4000000 in
theorem l07Strong_any {n : Int} {x R : Nat} (ok : FOk n x R) (i j : Nat) (hi4 : i < 4) (hj4 : j < 4) (w : World) :
    Calls Try.prog 72 #[.agg #[.int .i64 n, .int .i64 (x : Int)], .int .i64 (i : Int), .int .i64 (j : Int)] w fun e w' => e = .returned (.bool (strongB x i j R)) ∧ Below w.heap.size w w' := by
  have r0 := ok.r0
  have r16 := ok.r16
  have h4 := ok.h4
  have h0 := ok.h0
  show Calls _ _ _ _ fun e w' => e = .returned (.bool (strongTo x i j R)) ∧ Below w.heap.size w w'
  have RWS := Lib.hid (fun W => l01Rows_is ok.h0 ok.h4 ok.hR W)
  have AT := Lib.hid (fun (q : Nat) (hq : q < 16) W => l01At_any n x q ok.hx (by omega) W)
  obtain ⟨hwi, hII⟩ := pow_bits i hi4
  obtain ⟨hwj, hJJ⟩ := pow_bits j hj4
  have HII := Lib.hid hII
  have HJJ := Lib.hid hJJ
  clear hII hJJ
  have eki : IntKind.u64.wrap (i : Int) = (i : Int) := by simp [IntKind.wrap, IntKind.bits, IntKind.signed]; omega
  have ekj : IntKind.u64.wrap (j : Int) = (j : Int) := by simp [IntKind.wrap, IntKind.bits, IntKind.signed]; omega
  have HS1 : Hid (∀ k, strong1 x i j k = !((bitN k i == 0 && bitN k j == 0) && decide (bitN x (k ||| 2 ^ i) < bitN x (k ||| 2 ^ j)))) := Lib.hid fun k => rfl
  generalize hp : (2 : Nat) ^ i = P1 at hwi HII HS1
  generalize hq : (2 : Nat) ^ j = P2 at hwj HJJ HS1
  clear hp hq
  obtain ⟨W1, hW1⟩ : ∃ W1, w.alloc (.cells #[.int .i64 n, .int .i64 (x : Int)] 24) = W1 := ⟨_, rfl⟩
  have p0 : W1.cell? ⟨w.heap.size, 0, none⟩ = some (.int .i64 n) := by rw [← hW1]; simp [go_sem]
  have p1 : W1.cell? ⟨w.heap.size, 1, none⟩ = some (.int .i64 (x : Int)) := by rw [← hW1]; simp [go_sem]
  have hB : Below w.heap.size w W1 := by rw [← hW1]; exact bnew _ _
  clear ok
  go_enter Try.func72, Try.ntmps72
  go_wp2_with fail
  clear hW1
  rw [hwi, hwj]
  go_loopw [9] (fun r' wr => ∃ k : Nat, k ≤ R ∧ r' = .int .i64 k ∧ Hid (strongTo x i j k = true) ∧ ((wr.cell? ⟨w.heap.size, 0, none⟩ = some (.int .i64 n) ∧ wr.cell? ⟨w.heap.size, 1, none⟩ = some (.int .i64 (x : Int))) ∧ Below w.heap.size w wr))
    (fun r' _ => R - (intOf r').toNat)
  case atStart => exact ⟨0, by omega, rfl, Lib.hid rfl, ⟨p0, p1⟩, hB⟩
  case round =>
    clear p0 p1 hB
    obtain ⟨k, hk, rfl, hm, ⟨p0, p1⟩, hB⟩ := hrel
    by_cases hlt : k < R
    · obtain ⟨ai, oi, _, oi16, _⟩ := HII.out k (by omega)
      obtain ⟨aj, oj, _, oj16, _⟩ := HJJ.out k (by omega)
      have HSK := Lib.hid (HS1.out k)
      cases hb1 : bitN k i == 0
      · rw [hb1] at ai
        have HU := Lib.hid (show strongTo x i j (k + 1) = true by rw [strongTo_succ, hm.out, HSK.out, hb1]; rfl)
        clear hb1
        go_wp2_with (go_at_call 48; refine (RWS.out _).mono ?_; rintro e w' ⟨rfl, rfl⟩)
        go_quiet (fail)
        go_wp2
        go_roundw
        case rel => exact ⟨k + 1, by omega, by go_num, HU, ⟨by simpa [go_sem] using p0, by simpa [go_sem] using p1⟩, below_drewN hB _⟩
        case measure => simp [intOf]; omega
      · rw [hb1] at ai
        cases hb2 : bitN k j == 0
        · rw [hb2] at aj
          have HU := Lib.hid (show strongTo x i j (k + 1) = true by rw [strongTo_succ, hm.out, HSK.out, hb1, hb2]; rfl)
          clear hb1 hb2
          go_wp2_with (go_at_call 48; refine (RWS.out _).mono ?_; rintro e w' ⟨rfl, rfl⟩)
          go_quiet (fail)
          go_wp2
          go_roundw
          case rel => exact ⟨k + 1, by omega, by go_num, HU, ⟨by simpa [go_sem] using p0, by simpa [go_sem] using p1⟩, below_drewN hB _⟩
          case measure => simp [intOf]; omega
        · rw [hb2] at aj
          cases hb3 : decide (bitN x (k ||| P1) < bitN x (k ||| P2))
          · have hd0 : decide ((bitN x (k ||| P1) : Int) < (bitN x (k ||| P2) : Int)) = false := by simp at hb3 ⊢; omega
            have HU := Lib.hid (show strongTo x i j (k + 1) = true by rw [strongTo_succ, hm.out, HSK.out, hb1, hb2, hb3]; rfl)
            clear hb1 hb2 hb3
            have AT1 := AT.out _ oi16
            have AT2 := AT.out _ oj16
            generalize (bitN x (k ||| P1) : Int) = V1 at hd0 AT1
            generalize (bitN x (k ||| P2) : Int) = V2 at hd0 AT2
            have hd := hd0
            have A1 := Lib.hid AT1
            have A2 := Lib.hid AT2
            clear AT1 AT2 hd0
            go_wp2_with (go_at_call 48; refine (RWS.out _).mono ?_; rintro e w' ⟨rfl, rfl⟩)
            go_region_held3 (fun w' => (w'.cell? ⟨w.heap.size, 0, none⟩ = some (.int .i64 n) ∧ w'.cell? ⟨w.heap.size, 1, none⟩ = some (.int .i64 (x : Int))) ∧ Below w.heap.size w w') (first | exact ⟨⟨p0, p1⟩, hB.drew⟩ | exact step_two hb1 (by assumption))
              (first
                | (go_at_call 49; (first | (with_reducible refine (A1.out _).mono ?_) | (with_reducible refine (A2.out _).mono ?_)); rintro e w' ⟨rfl, hb1⟩))
            all_goals
              go_wp2
              go_roundw
              case rel => exact ⟨k + 1, by omega, by go_num, HU, (‹(_ ∧ _) ∧ Below _ _ _›).1, (‹(_ ∧ _) ∧ Below _ _ _›).2⟩
              case measure => simp [intOf]; omega
          · have hd0 : decide ((bitN x (k ||| P1) : Int) < (bitN x (k ||| P2) : Int)) = true := by simp at hb3 ⊢; omega
            have HU := Lib.hid (show strongTo x i j R = false from strong_false hlt (by rw [HSK.out, hb1, hb2, hb3]; rfl))
            clear hb1 hb2 hb3
            have AT1 := AT.out _ oi16
            have AT2 := AT.out _ oj16
            generalize (bitN x (k ||| P1) : Int) = V1 at hd0 AT1
            generalize (bitN x (k ||| P2) : Int) = V2 at hd0 AT2
            have hd := hd0
            have A1 := Lib.hid AT1
            have A2 := Lib.hid AT2
            clear AT1 AT2 hd0
            go_wp2_with (go_at_call 48; refine (RWS.out _).mono ?_; rintro e w' ⟨rfl, rfl⟩)
            go_region_held3 (fun w' => (w'.cell? ⟨w.heap.size, 0, none⟩ = some (.int .i64 n) ∧ w'.cell? ⟨w.heap.size, 1, none⟩ = some (.int .i64 (x : Int))) ∧ Below w.heap.size w w') (first | exact ⟨⟨p0, p1⟩, hB.drew⟩ | exact step_two hb1 (by assumption))
              (first
                | (go_at_call 49; (first | (with_reducible refine (A1.out _).mono ?_) | (with_reducible refine (A2.out _).mono ?_)); rintro e w' ⟨rfl, hb1⟩))
            all_goals
              go_wp2
              go_ret
              exact ⟨by rw [HU.out]; rfl, (‹(_ ∧ _) ∧ Below _ _ _›).2⟩
    · obtain rfl : k = R := by omega
      go_wp2_with (go_at_call 48; refine (RWS.out _).mono ?_; rintro e w' ⟨rfl, rfl⟩)
      go_ret
      exact ⟨by rw [hm.out]; rfl, hB⟩
end Go.Proofs.Ytcolaggkeekgoaa

/- RB:
  A region that draws its order inside a round, none of whose operations is a defer, walked by the plain calculus (so that loads may be taken first: the laws of OrdersHeld). -/
namespace Go.Proofs.Ytcolaggkeekgoaa
open Go Go.RowKit

theorem upon_wide {P : Program} {o : Oper} {a : Act} {K : Act → World → Prop} {Q : Exit → Act → World → Prop} {n : Nat} (hn : 1 ≤ n) : ∀ r, o.upon P a K Q r → o.uponIn Fence.wide n P a K Q r := by
  intro r h
  cases r with
  | ok x w' =>
    cases x with
    | value v => exact h
    | skip => exact h
    | defer d => exact h
    | enter f args =>
      refine ⟨fun _ => hn, CallsIn.mono (callsIn_wide.2 h) fun e w'' he => ?_⟩
      cases e <;> exact he
    | row row args => exact ⟨fun _ => hn, fun c cs _ => let ⟨v, w', r, s⟩ := h c cs; ⟨v, w', r, stepsIn_wide.2 s⟩⟩
    | _ => exact h.elim
  | halt x w' => cases x <;> first | exact h | exact h.elim

theorem wpOp_wide {P : Program} {ops : Array Oper} {Q : Exit → Act → World → Prop} {i : Nat} {K : Act → World → Prop} {a : Act} {w : World} {n : Nat} (hn : 1 ≤ n) (hL : ¬ LetsOut Q) (h : wpOp P ops Q i K a w) : wpOpIn Fence.wide n P ops Q i K a w := by
  unfold wpOp at h
  unfold wpOpIn
  cases ho : ops[i]? with
  | none => simp only [ho] at h ⊢; exact h
  | some o =>
    simp only [ho] at h ⊢
    split
    · rename_i hw
      rw [if_pos hw] at h
      rcases h with h | ⟨_, h⟩
      · exact ⟨fun _ _ => trivial, upon_wide hn _ h⟩
      · exact absurd h hL
    · rename_i hw
      rw [if_neg hw] at h
      exact ⟨fun _ _ => trivial, h⟩

theorem wpAny_wide {P : Program} {md : Region.Mode} {ops : Array Oper} {Q : Exit → Act → World → Prop} {n : Nat} (hn : 1 ≤ n) (hL : ¬ LetsOut Q) : ∀ (fuel : Nat) (listed : Array Bool) (a : Act) (w : World),
    wpAny P md ops Q fuel listed a w → wpAnyIn Fence.wide n P md ops Q fuel listed a w
  | 0, _, _, _, h => h
  | fuel + 1, _, _, _, h => ⟨h.1, fun i hi => wpOp_wide hn hL (wpOp_mono (fun a w => wpAny_wide hn hL fuel _ a w) (h.2 i hi))⟩

/-- **The bridge.** -/
theorem region_round {P : Program} {id l n : Nat} {ops : Array Oper} {Q : Exit → Act → World → Prop} {a : Act} {w : World} (S : World → Prop) (hm : P.follows .mixedOrders = true) (hnd : noDefer ops = true) (hn : 1 ≤ n) (hL : ¬ LetsOut Q)
    (h : wpAnyH P .any ops Q S ops.size (Array.replicate ops.size false) a w.drew) : (Code.region id ops true).wpIn (Fence.wide.inRound l) n P Q a w :=
  wpIn_region_any hm (wpAnyIn_round (F := Fence.wide) l hnd _ _ _ _ (wpAny_wide hn hL _ _ _ _ (wpAny_of_held _ _ _ _ h)))
end Go.Proofs.Ytcolaggkeekgoaa

/- MO10:
  Strength in the program: isAsStrong. -/
namespace Go.Proofs.Ytcolaggkeekgoaa
open Go.RowKit Go.Shelf
attribute [local go_sem] Oper.semAt_some
set_option linter.unusedVariables false
set_option linter.unusedSimpArgs false

theorem as_keep {n : Int} {x i j B : Nat} {W W9 W' : World} (hb : Below W9.heap.size W9 W') (h : ((W9.cell? ⟨B, 0, none⟩ = some (.int .i64 n) ∧ W9.cell? ⟨B, 1, none⟩ = some (.int .i64 (x : Int))) ∧ (W9.cell? ⟨B + 1, 0, none⟩ = some (.int .i64 (i : Int)) ∧ W9.cell? ⟨B + 1 + 1, 0, none⟩ = some (.int .i64 (j : Int)))) ∧ Below W.heap.size W W9) :
    ((W'.cell? ⟨B, 0, none⟩ = some (.int .i64 n) ∧ W'.cell? ⟨B, 1, none⟩ = some (.int .i64 (x : Int))) ∧ (W'.cell? ⟨B + 1, 0, none⟩ = some (.int .i64 (i : Int)) ∧ W'.cell? ⟨B + 1 + 1, 0, none⟩ = some (.int .i64 (j : Int)))) ∧ Below W.heap.size W W' :=
  ⟨⟨⟨kc hb h.1.1.1, kc hb h.1.1.2⟩, kc hb h.1.2.1, kc hb h.1.2.2⟩, bthen h.2 hb⟩

/-- The boxes of isAsStrong: the function, both variables, the answer. -/
structure AsC (B : Nat) (n : Int) (x i j : Nat) (W : World) : Prop where
  c0 : W.cell? ⟨B, 0, none⟩ = some (.int .i64 n)
  c1 : W.cell? ⟨B, 1, none⟩ = some (.int .i64 (x : Int))
  ci : W.cell? ⟨B + 1, 0, none⟩ = some (.int .i64 (i : Int))
  cj : W.cell? ⟨B + 1 + 1, 0, none⟩ = some (.int .i64 (j : Int))
  cr : W.cell? ⟨B + 1 + 1 + 1, 0, none⟩ = some (.bool false)
  fr : W.frozen? ⟨B + 1 + 1 + 1, 0, none⟩ = false
theorem AsC.kept {B : Nat} {n : Int} {x i j : Nat} {W W' : World} {row : Option Nat} (h : AsC B n x i j W) (hg : W.grownBy W' row) (hr : ∀ r, row = some r → ∃ o : Obj, W.heap[r]? = some o ∧ o.isCells = false) : AsC B n x i j W' :=
  ⟨cell_kept h.c0 hg hr, cell_kept h.c1 hg hr, cell_kept h.ci hg hr, cell_kept h.cj hg hr, cell_kept h.cr hg hr, (frozen_kept h.cr hg hr).trans h.fr⟩
theorem AsC.below {B : Nat} {n : Int} {x i j : Nat} {W W' : World} (h : AsC B n x i j W) (hb : Below W.heap.size W W') : AsC B n x i j W' :=
  ⟨kc hb h.c0, kc hb h.c1, kc hb h.ci, kc hb h.cj, kc hb h.cr, kf hb h.cr h.fr⟩

/-- Two ways that come to the same goal: it is shown once. -/
theorem both_ways {X G : Prop} (h : X → G) (c : X) : G := h c

theorem strong_all {x i j R : Nat} (h : ∀ r, r < R → strong1 x i j r = true) : strongB x i j R = true := allLt_iff.2 h

set_option maxRecDepth 100000 in
set_option maxHeartbeats 8000000 in
theorem isAsStrong_any {n : Int} {x R : Nat} (ok : FOk n x R) (i j : Nat) (hi4 : i < 4) (hj4 : j < 4) (w : World) :
    Calls Try.prog 74 #[.agg #[.int .i64 n, .int .i64 (x : Int)], .int .i64 (i : Int), .int .i64 (j : Int)] w fun e w' => e = .returned (.bool (strongB x i j R)) ∧ Below w.heap.size w w' := by
  have r0 := ok.r0
  have r16 := ok.r16
  have DG := Lib.hid (fun (q k : Nat) (hq : q < 16) (hk : k < 4) W => digitOf_any q k (by omega) (by omega) W)
  have VR := Lib.hid (fun (q : Nat) (hq : q < 16) W => valueInRow_any n x q ok.hx (by omega) W)
  obtain ⟨hwi, hII⟩ := pow_bits i hi4
  obtain ⟨hwj, hJJ⟩ := pow_bits j hj4
  have HII := Lib.hid hII
  have HJJ := Lib.hid hJJ
  clear hII hJJ
  have HS1 : Hid (∀ k, strong1 x i j k = !((bitN k i == 0 && bitN k j == 0) && decide (bitN x (k ||| 2 ^ i) < bitN x (k ||| 2 ^ j)))) := Lib.hid fun k => rfl
  have hwi2 := shl_one i (by omega)
  have hwj2 := shl_one j (by omega)
  generalize hp : (2 : Nat) ^ i = P1 at hwi hwi2 HII HS1
  generalize hq : (2 : Nat) ^ j = P2 at hwj hwj2 HJJ HS1
  clear hp hq
  refine (callsIn_wide (n := 3)).1 ?_
  refine callsIn_of_wp_marks Try.func74 rfl trivial ?_ rfl
  simp only [Try.ntmps74, List.size_toArray, List.length_cons, List.length_nil, Nat.reduceAdd, Nat.reduceSub, Array.replicate_succ, Array.replicate_zero, List.push_toArray, List.append_toArray, List.nil_append, List.cons_append]
  gi_wp2_with (refine ⟨trivial, ?_⟩; gi_at_call 84; refine (callsIn_wide.2 (rowsOf_any _ _)).mono ?_; rintro e w' ⟨rfl, rfl⟩)
  obtain ⟨W0, hW0⟩ : ∃ W0, ((((w.alloc (.cells #[.int .i64 n, .int .i64 (x : Int)] 24)).alloc (.cells #[.int .i64 (i : Int)] 2)).alloc (.cells #[.int .i64 (j : Int)] 2)).alloc (.cells #[.bool false] 4)).alloc (.cells #[.int .i64 n] 2) = W0 := ⟨_, rfl⟩
  have hC : AsC w.heap.size n x i j W0 := by
    rw [← hW0]
    exact ⟨by simp [go_sem], by simp [go_sem], by simp [go_sem], by simp [go_sem], by simp [go_sem], by simp [go_sem]⟩
  have cM : W0.cell? ⟨w.heap.size + 1 + 1 + 1 + 1, 0, none⟩ = some (.int .i64 n) := by rw [← hW0]; simp [go_sem]
  have hsz : W0.heap.size = w.heap.size + 5 := by rw [← hW0]; simp [go_sem]
  have hB0 : Below w.heap.size w W0 := by rw [← hW0]; exact balloc (balloc (balloc (balloc (bnew _ _) _) _) _) _
  rw [hW0]
  clear hW0
  refine wpIn_rangeFunc_ownF (α := Row R) rfl (by omega) (gf := 100) (lb := #[.pointer (some ⟨w.heap.size + 1 + 1 + 1 + 1, 0, none⟩)]) rfl trivial (enters_of Try.func100 (by kernel_rfl) rfl)
    (rows_stops (3 - 1) (by omega) (w.heap.size + 1 + 1 + 1 + 1) w.heap.size n R ok.h0 ok.h4 r0 r16 ok.hR W0 (by omega) cM) belowK_t (belowK_b (by omega)) (Below.refl _ _) (fun _ => rfl)
    (fun pre W => ((∀ y : Row R, y ∈ pre → strong1 x i j y.1 = true) ∧ AsC w.heap.size n x i j W) ∧ Below w.heap.size w W)
    (fun c _ W => ((c = .ret ∧ strongB x i j R = false) ∧ W.cell? ⟨w.heap.size + 1 + 1 + 1, 0, none⟩ = some (.bool false)) ∧ Below w.heap.size w W)
    (OwnFrom.and (Own.from (fun s A B row hs hg hr => ⟨hs.1, hs.2.kept hg hr⟩) _) (ownFrom_below (Nat.le_refl _) (by omega)))
    (fun c => OwnFrom.and (Own.from (fun s A B row hs hg hr => ⟨hs.1, cell_kept hs.2 hg hr⟩) _) (ownFrom_below (Nat.le_refl _) (by omega)))
    ⟨⟨fun y hy => absurd hy List.not_mem_nil, hC⟩, hB0⟩
    (fun y => { tmps := #[.agg #[.int .i64 n, .int .i64 (x : Int)], .int .i64 (i : Int), .int .i64 (j : Int), .pointer (some ⟨w.heap.size, 0, none⟩), .pointer (some ⟨w.heap.size + 1, 0, none⟩), .pointer (some ⟨w.heap.size + 1 + 1, 0, none⟩), .pointer (some ⟨w.heap.size + 1 + 1 + 1, 0, none⟩), .int .i64 (y.1 : Int), undef, .pointer (some ⟨w.heap.size, 0, none⟩), .int .i64 n,
      .func (.func 100) #[] #[.pointer (some ⟨w.heap.size + 1 + 1 + 1 + 1, 0, none⟩)], .int .i64 (y.1 : Int), undef, undef, undef, undef, undef, undef, undef, undef, undef, undef, undef, undef, undef, undef, undef, undef, undef, undef, undef, undef, undef, undef, undef, undef], defers := [] }) ?assign ?body ?done ?stop
  case assign =>
    intro l y W K hK
    unfold encRow
    gi_wp2
    exact hK
  case body =>
    clear hC cM hB0
    rintro l pre y W ⟨⟨hall, hA⟩, hB⟩ hlen
    have hr := y.2
    have hall2 : strong1 x i j y.1 = true → ∀ y' : Row R, y' ∈ pre ++ [y] → strong1 x i j y'.1 = true := fun h y' hy' => by
      rw [List.mem_append] at hy'
      rcases hy' with h1 | h1
      · exact hall y' h1
      · rw [List.mem_singleton] at h1; rw [h1]; exact h
    have HSK := Lib.hid (HS1.out y.1)
    have HFA := Lib.hid (fun (h : strong1 x i j y.1 = false) => strong_false hr h)
    have HALL := Lib.hid hall2
    clear hall hall2
    have c0 := hA.c0
    have c1 := hA.c1
    have ci := hA.ci
    have cj := hA.cj
    have HA := Lib.hid hA
    clear hA
    generalize y.1 = r at hr HSK HFA HALL ⊢
    obtain ⟨_, oi, _, oi16, _⟩ := HII.out r (by omega)
    obtain ⟨_, oj, _, oj16, _⟩ := HJJ.out r (by omega)
    have bi1 := bitN_le r i
    have bj1 := bitN_le r j
    have DI0 := DG.out r i (by omega) hi4
    have DJ0 := DG.out r j (by omega) hj4
    have A10 := VR.out (r ||| P1) oi16
    have A20 := VR.out (r ||| P2) oj16
    obtain ⟨bi, hbi⟩ : ∃ b, bitN r i = b := ⟨_, rfl⟩
    obtain ⟨bj, hbj⟩ : ∃ b, bitN r j = b := ⟨_, rfl⟩
    rw [hbi] at DI0 bi1 HSK
    rw [hbj] at DJ0 bj1 HSK
    clear hbi hbj
    have hmx : Try.prog.follows .mixedOrders = true := by kernel_rfl
    have END := Lib.hid (fun (h : ∀ y' : Row R, y' ∈ pre ++ [y] → strong1 x i j y'.1 = true) w' (hb : Below W.heap.size W w') => (show KeepsOthers W w' ∧ Below w.heap.size W w' ∧ (((∀ y' : Row R, y' ∈ pre ++ [y] → strong1 x i j y'.1 = true) ∧ AsC w.heap.size n x i j w') ∧ Below w.heap.size w w') from
      ⟨kotb hb, hb.mono hB.size, ⟨h, HA.out.below hb⟩, bthen hB hb⟩))
    have HG0 : ((bits .or .i64 (bi : Int) (bj : Int)) == 0) = (bi == 0 && bj == 0) := by
      rcases (show bi = 0 ∨ bi = 1 by omega) with rfl | rfl <;> rcases (show bj = 0 ∨ bj = 1 by omega) with rfl | rfl <;> decide
    cases hg : (bi == 0 && bj == 0)
    · rw [hg] at HG0 HSK
      have HG := HG0
      have HU := Lib.hid (HALL.out (by rw [HSK.out]; rfl))
      have END := Lib.hid (END.out HU.out)
      have DI := Lib.hid DI0
      have DJ := Lib.hid DJ0
      clear A10 A20 DI0 DJ0 HSK HALL HFA hg HG0 bi1 bj1
      gi_wp2
      refine region_round (l := l) (fun W9 => (((W9.cell? ⟨w.heap.size, 0, none⟩ = some (.int .i64 n) ∧ W9.cell? ⟨w.heap.size, 1, none⟩ = some (.int .i64 (x : Int))) ∧ (W9.cell? ⟨w.heap.size + 1, 0, none⟩ = some (.int .i64 (i : Int)) ∧ W9.cell? ⟨w.heap.size + 1 + 1, 0, none⟩ = some (.int .i64 (j : Int)))) ∧ Below W.heap.size W W9)) hmx (by kernel_rfl) (by omega) (by rintro ⟨_, _, h⟩; exact h) ?_
      have hHeld : (((W.drew.cell? ⟨w.heap.size, 0, none⟩ = some (.int .i64 n) ∧ W.drew.cell? ⟨w.heap.size, 1, none⟩ = some (.int .i64 (x : Int))) ∧ (W.drew.cell? ⟨w.heap.size + 1, 0, none⟩ = some (.int .i64 (i : Int)) ∧ W.drew.cell? ⟨w.heap.size + 1 + 1, 0, none⟩ = some (.int .i64 (j : Int)))) ∧ Below W.heap.size W W.drew) := ⟨⟨⟨c0, c1⟩, ⟨ci, cj⟩⟩, (Below.refl _ _).drew⟩
      refine wpAnyH_take (i := 0) (v := ?_) rfl (by kernel_rfl) (by kernel_rfl) (by kernel_rfl) (fun _ _ _ h => h) (Or.inl ⟨by rfl, by intro w hSw; (try dsimp only at hSw); go_simp; try (with_reducible rfl)⟩) (by assumption) ?_
      try simp only [Act.put, List.setIfInBounds_toArray, List.set_cons_zero, List.set_cons_succ, List.getElem_toArray, List.getElem_cons_zero, List.getElem_cons_succ]
      refine wpAnyH_take (i := 1) (v := ?_) rfl (by kernel_rfl) (by kernel_rfl) (by kernel_rfl) (fun _ _ _ h => h) (Or.inl ⟨by rfl, by intro w hSw; (try dsimp only at hSw); go_simp; try (with_reducible rfl)⟩) (by assumption) ?_
      try simp only [Act.put, List.setIfInBounds_toArray, List.set_cons_zero, List.set_cons_succ, List.getElem_toArray, List.getElem_cons_zero, List.getElem_cons_succ]
      refine wpAnyH_take (i := 3) (v := ?_) rfl (by kernel_rfl) (by kernel_rfl) (by kernel_rfl) (fun _ _ _ h => h) (Or.inl ⟨by rfl, by intro w hSw; (try dsimp only at hSw); go_simp; try (with_reducible rfl)⟩) (by assumption) ?_
      try simp only [Act.put, List.setIfInBounds_toArray, List.set_cons_zero, List.set_cons_succ, List.getElem_toArray, List.getElem_cons_zero, List.getElem_cons_succ]
      refine wpAnyH_take (i := 4) (v := ?_) rfl (by kernel_rfl) (by kernel_rfl) (by kernel_rfl) (fun _ _ _ h => h) (Or.inl ⟨by rfl, by intro w hSw; (try dsimp only at hSw); go_simp; try (with_reducible rfl)⟩) (by assumption) ?_
      try simp only [Act.put, List.setIfInBounds_toArray, List.set_cons_zero, List.set_cons_succ, List.getElem_toArray, List.getElem_cons_zero, List.getElem_cons_succ]
      refine wpAnyH_ready (rs := [2]) (by kernel_rfl) (by simp) ?_
      refine AllReadyH.cons rfl (fun K hK => ?_) ?_
      · go_simp
        refine (DI.out _).mono ?_
        rintro e w4 ⟨rfl, rfl⟩
        refine hK.out _ _ (by assumption) (fun hHeld => ?_)
        clear hK K
        try simp only [Act.put, List.setIfInBounds_toArray, List.set_cons_zero, List.set_cons_succ, List.getElem_toArray, List.getElem_cons_zero, List.getElem_cons_succ]
        refine wpAnyH_ready (rs := [5]) (by kernel_rfl) (by simp) ?_
        refine AllReadyH.cons rfl (fun K hK => ?_) ?_
        · go_simp
          refine (DJ.out _).mono ?_
          rintro e w4 ⟨rfl, rfl⟩
          refine hK.out _ _ (by assumption) (fun hHeld => ?_)
          clear hK K
          try simp only [Act.put, List.setIfInBounds_toArray, List.set_cons_zero, List.set_cons_succ, List.getElem_toArray, List.getElem_cons_zero, List.getElem_cons_succ]
          refine wpAnyH_take (i := 6) (v := ?_) rfl (by kernel_rfl) (by kernel_rfl) (by kernel_rfl) (fun _ _ _ h => h) (Or.inl ⟨by rfl, by intro w hSw; (try dsimp only at hSw); go_simp; try (with_reducible rfl)⟩) (by assumption) ?_
          try simp only [Act.put, List.setIfInBounds_toArray, List.set_cons_zero, List.set_cons_succ, List.getElem_toArray, List.getElem_cons_zero, List.getElem_cons_succ]
          refine wpAnyH_take (i := 7) (v := ?_) rfl (by kernel_rfl) (by kernel_rfl) (by kernel_rfl) (fun _ _ _ h => h) (Or.inl ⟨by rfl, by intro w hSw; (try dsimp only at hSw); go_simp; try (with_reducible rfl)⟩) (by assumption) ?_
          try simp only [Act.put, List.setIfInBounds_toArray, List.set_cons_zero, List.set_cons_succ, List.getElem_toArray, List.getElem_cons_zero, List.getElem_cons_succ]
          refine wpAnyH_take (i := 8) (v := ?_) rfl (by kernel_rfl) (by kernel_rfl) (by kernel_rfl) (fun _ _ _ h => h) (Or.inl ⟨by rfl, by intro w hSw; (try dsimp only at hSw); go_simp; try (with_reducible rfl)⟩) (by assumption) ?_
          try simp only [Act.put, List.setIfInBounds_toArray, List.set_cons_zero, List.set_cons_succ, List.getElem_toArray, List.getElem_cons_zero, List.getElem_cons_succ]
          refine wpAnyH_done (by kernel_rfl) ?_ _
          gi_wp2
          refine region_round (l := l) (fun W9 => (((W9.cell? ⟨w.heap.size, 0, none⟩ = some (.int .i64 n) ∧ W9.cell? ⟨w.heap.size, 1, none⟩ = some (.int .i64 (x : Int))) ∧ (W9.cell? ⟨w.heap.size + 1, 0, none⟩ = some (.int .i64 (i : Int)) ∧ W9.cell? ⟨w.heap.size + 1 + 1, 0, none⟩ = some (.int .i64 (j : Int)))) ∧ Below W.heap.size W W9)) hmx (by kernel_rfl) (by omega) (by rintro ⟨_, _, h⟩; exact h) ?_
          clear hHeld
          have hHeld2 : (((W.drew.drew.cell? ⟨w.heap.size, 0, none⟩ = some (.int .i64 n) ∧ W.drew.drew.cell? ⟨w.heap.size, 1, none⟩ = some (.int .i64 (x : Int))) ∧ (W.drew.drew.cell? ⟨w.heap.size + 1, 0, none⟩ = some (.int .i64 (i : Int)) ∧ W.drew.drew.cell? ⟨w.heap.size + 1 + 1, 0, none⟩ = some (.int .i64 (j : Int)))) ∧ Below W.heap.size W W.drew.drew) := ⟨⟨⟨c0, c1⟩, ⟨ci, cj⟩⟩, ((Below.refl _ _).drew).drew⟩
          refine wpAnyH_take (i := 0) (v := ?_) rfl (by kernel_rfl) (by kernel_rfl) (by kernel_rfl) (fun _ _ _ h => h) (Or.inl ⟨by rfl, by intro w hSw; (try dsimp only at hSw); go_simp; try (with_reducible rfl)⟩) (by assumption) ?_
          try simp only [Act.put, List.setIfInBounds_toArray, List.set_cons_zero, List.set_cons_succ, List.getElem_toArray, List.getElem_cons_zero, List.getElem_cons_succ]
          refine wpAnyH_take (i := 1) (v := ?_) rfl (by kernel_rfl) (by kernel_rfl) (by kernel_rfl) (fun _ _ _ h => h) (Or.inl ⟨by rfl, by intro w hSw; (try dsimp only at hSw); go_simp; try (with_reducible rfl)⟩) (by assumption) ?_
          try simp only [Act.put, List.setIfInBounds_toArray, List.set_cons_zero, List.set_cons_succ, List.getElem_toArray, List.getElem_cons_zero, List.getElem_cons_succ]
          refine wpAnyH_take (i := 2) (v := undef) rfl (by kernel_rfl) (by kernel_rfl) (by kernel_rfl) (fun _ _ _ h => h) (Or.inr ⟨by rfl, rfl⟩) (by assumption) ?_
          try simp only [Act.put, List.setIfInBounds_toArray, List.set_cons_zero, List.set_cons_succ, List.getElem_toArray, List.getElem_cons_zero, List.getElem_cons_succ]
          refine wpAnyH_take (i := 3) (v := undef) rfl (by kernel_rfl) (by kernel_rfl) (by kernel_rfl) (fun _ _ _ h => h) (Or.inr ⟨by rfl, rfl⟩) (by assumption) ?_
          try simp only [Act.put, List.setIfInBounds_toArray, List.set_cons_zero, List.set_cons_succ, List.getElem_toArray, List.getElem_cons_zero, List.getElem_cons_succ]
          refine wpAnyH_take (i := 4) (v := undef) rfl (by kernel_rfl) (by kernel_rfl) (by kernel_rfl) (fun _ _ _ h => h) (Or.inr ⟨by rfl, rfl⟩) (by assumption) ?_
          try simp only [Act.put, List.setIfInBounds_toArray, List.set_cons_zero, List.set_cons_succ, List.getElem_toArray, List.getElem_cons_zero, List.getElem_cons_succ]
          refine wpAnyH_take (i := 5) (v := undef) rfl (by kernel_rfl) (by kernel_rfl) (by kernel_rfl) (fun _ _ _ h => h) (Or.inr ⟨by rfl, rfl⟩) (by assumption) ?_
          try simp only [Act.put, List.setIfInBounds_toArray, List.set_cons_zero, List.set_cons_succ, List.getElem_toArray, List.getElem_cons_zero, List.getElem_cons_succ]
          refine wpAnyH_take (i := 6) (v := undef) rfl (by kernel_rfl) (by kernel_rfl) (by kernel_rfl) (fun _ _ _ h => h) (Or.inr ⟨by rfl, rfl⟩) (by assumption) ?_
          try simp only [Act.put, List.setIfInBounds_toArray, List.set_cons_zero, List.set_cons_succ, List.getElem_toArray, List.getElem_cons_zero, List.getElem_cons_succ]
          refine wpAnyH_take (i := 7) (v := undef) rfl (by kernel_rfl) (by kernel_rfl) (by kernel_rfl) (fun _ _ _ h => h) (Or.inr ⟨by rfl, rfl⟩) (by assumption) ?_
          try simp only [Act.put, List.setIfInBounds_toArray, List.set_cons_zero, List.set_cons_succ, List.getElem_toArray, List.getElem_cons_zero, List.getElem_cons_succ]
          refine wpAnyH_take (i := 8) (v := undef) rfl (by kernel_rfl) (by kernel_rfl) (by kernel_rfl) (fun _ _ _ h => h) (Or.inr ⟨by rfl, rfl⟩) (by assumption) ?_
          try simp only [Act.put, List.setIfInBounds_toArray, List.set_cons_zero, List.set_cons_succ, List.getElem_toArray, List.getElem_cons_zero, List.getElem_cons_succ]
          refine wpAnyH_take (i := 9) (v := undef) rfl (by kernel_rfl) (by kernel_rfl) (by kernel_rfl) (fun _ _ _ h => h) (Or.inr ⟨by rfl, rfl⟩) (by assumption) ?_
          try simp only [Act.put, List.setIfInBounds_toArray, List.set_cons_zero, List.set_cons_succ, List.getElem_toArray, List.getElem_cons_zero, List.getElem_cons_succ]
          refine wpAnyH_take (i := 10) (v := undef) rfl (by kernel_rfl) (by kernel_rfl) (by kernel_rfl) (fun _ _ _ h => h) (Or.inr ⟨by rfl, rfl⟩) (by assumption) ?_
          try simp only [Act.put, List.setIfInBounds_toArray, List.set_cons_zero, List.set_cons_succ, List.getElem_toArray, List.getElem_cons_zero, List.getElem_cons_succ]
          refine wpAnyH_take (i := 11) (v := undef) rfl (by kernel_rfl) (by kernel_rfl) (by kernel_rfl) (fun _ _ _ h => h) (Or.inr ⟨by rfl, rfl⟩) (by assumption) ?_
          try simp only [Act.put, List.setIfInBounds_toArray, List.set_cons_zero, List.set_cons_succ, List.getElem_toArray, List.getElem_cons_zero, List.getElem_cons_succ]
          refine wpAnyH_take (i := 12) (v := undef) rfl (by kernel_rfl) (by kernel_rfl) (by kernel_rfl) (fun _ _ _ h => h) (Or.inr ⟨by rfl, rfl⟩) (by assumption) ?_
          try simp only [Act.put, List.setIfInBounds_toArray, List.set_cons_zero, List.set_cons_succ, List.getElem_toArray, List.getElem_cons_zero, List.getElem_cons_succ]
          refine wpAnyH_take (i := 13) (v := undef) rfl (by kernel_rfl) (by kernel_rfl) (by kernel_rfl) (fun _ _ _ h => h) (Or.inr ⟨by rfl, rfl⟩) (by assumption) ?_
          try simp only [Act.put, List.setIfInBounds_toArray, List.set_cons_zero, List.set_cons_succ, List.getElem_toArray, List.getElem_cons_zero, List.getElem_cons_succ]
          refine wpAnyH_take (i := 14) (v := undef) rfl (by kernel_rfl) (by kernel_rfl) (by kernel_rfl) (fun _ _ _ h => h) (Or.inr ⟨by rfl, rfl⟩) (by assumption) ?_
          try simp only [Act.put, List.setIfInBounds_toArray, List.set_cons_zero, List.set_cons_succ, List.getElem_toArray, List.getElem_cons_zero, List.getElem_cons_succ]
          refine wpAnyH_take (i := 15) (v := ?_) rfl (by kernel_rfl) (by kernel_rfl) (by kernel_rfl) (fun _ _ _ h => h) (Or.inl ⟨by rfl, by intro w hSw; (try dsimp only at hSw); go_simp; try (with_reducible rfl)⟩) (by assumption) ?_
          try simp only [Act.put, List.setIfInBounds_toArray, List.set_cons_zero, List.set_cons_succ, List.getElem_toArray, List.getElem_cons_zero, List.getElem_cons_succ]
          refine wpAnyH_done (by kernel_rfl) ?_ _
          gi_wp2
          exact END.out _ (‹(_ ∧ _) ∧ Below _ _ _›).2
        exact AllReadyH.nil
      exact AllReadyH.nil
    · rw [hg] at HG0 HSK
      have HG := HG0
      cases hb3 : decide (bitN x (r ||| P1) < bitN x (r ||| P2))
      · have hd0 : decide ((bitN x (r ||| P1) : Int) < (bitN x (r ||| P2) : Int)) = false := by simp at hb3 ⊢; omega
        have HU := Lib.hid (HALL.out (by rw [HSK.out, hb3]; rfl))
        have END := Lib.hid (END.out HU.out)
        generalize (bitN x (r ||| P1) : Int) = V1 at hd0 A10
        generalize (bitN x (r ||| P2) : Int) = V2 at hd0 A20
        have A1 := Lib.hid A10
        have A2 := Lib.hid A20
        have DI := Lib.hid DI0
        have DJ := Lib.hid DJ0
        clear A10 A20 DI0 DJ0 hb3 HSK HALL HFA hg HG0 bi1 bj1
        gi_wp2
        refine region_round (l := l) (fun W9 => (((W9.cell? ⟨w.heap.size, 0, none⟩ = some (.int .i64 n) ∧ W9.cell? ⟨w.heap.size, 1, none⟩ = some (.int .i64 (x : Int))) ∧ (W9.cell? ⟨w.heap.size + 1, 0, none⟩ = some (.int .i64 (i : Int)) ∧ W9.cell? ⟨w.heap.size + 1 + 1, 0, none⟩ = some (.int .i64 (j : Int)))) ∧ Below W.heap.size W W9)) hmx (by kernel_rfl) (by omega) (by rintro ⟨_, _, h⟩; exact h) ?_
        have hHeld : (((W.drew.cell? ⟨w.heap.size, 0, none⟩ = some (.int .i64 n) ∧ W.drew.cell? ⟨w.heap.size, 1, none⟩ = some (.int .i64 (x : Int))) ∧ (W.drew.cell? ⟨w.heap.size + 1, 0, none⟩ = some (.int .i64 (i : Int)) ∧ W.drew.cell? ⟨w.heap.size + 1 + 1, 0, none⟩ = some (.int .i64 (j : Int)))) ∧ Below W.heap.size W W.drew) := ⟨⟨⟨c0, c1⟩, ⟨ci, cj⟩⟩, (Below.refl _ _).drew⟩
        refine wpAnyH_take (i := 0) (v := ?_) rfl (by kernel_rfl) (by kernel_rfl) (by kernel_rfl) (fun _ _ _ h => h) (Or.inl ⟨by rfl, by intro w hSw; (try dsimp only at hSw); go_simp; try (with_reducible rfl)⟩) (by assumption) ?_
        try simp only [Act.put, List.setIfInBounds_toArray, List.set_cons_zero, List.set_cons_succ, List.getElem_toArray, List.getElem_cons_zero, List.getElem_cons_succ]
        refine wpAnyH_take (i := 1) (v := ?_) rfl (by kernel_rfl) (by kernel_rfl) (by kernel_rfl) (fun _ _ _ h => h) (Or.inl ⟨by rfl, by intro w hSw; (try dsimp only at hSw); go_simp; try (with_reducible rfl)⟩) (by assumption) ?_
        try simp only [Act.put, List.setIfInBounds_toArray, List.set_cons_zero, List.set_cons_succ, List.getElem_toArray, List.getElem_cons_zero, List.getElem_cons_succ]
        refine wpAnyH_take (i := 3) (v := ?_) rfl (by kernel_rfl) (by kernel_rfl) (by kernel_rfl) (fun _ _ _ h => h) (Or.inl ⟨by rfl, by intro w hSw; (try dsimp only at hSw); go_simp; try (with_reducible rfl)⟩) (by assumption) ?_
        try simp only [Act.put, List.setIfInBounds_toArray, List.set_cons_zero, List.set_cons_succ, List.getElem_toArray, List.getElem_cons_zero, List.getElem_cons_succ]
        refine wpAnyH_take (i := 4) (v := ?_) rfl (by kernel_rfl) (by kernel_rfl) (by kernel_rfl) (fun _ _ _ h => h) (Or.inl ⟨by rfl, by intro w hSw; (try dsimp only at hSw); go_simp; try (with_reducible rfl)⟩) (by assumption) ?_
        try simp only [Act.put, List.setIfInBounds_toArray, List.set_cons_zero, List.set_cons_succ, List.getElem_toArray, List.getElem_cons_zero, List.getElem_cons_succ]
        refine wpAnyH_ready (rs := [2]) (by kernel_rfl) (by simp) ?_
        refine AllReadyH.cons rfl (fun K hK => ?_) ?_
        · go_simp
          refine (DI.out _).mono ?_
          rintro e w4 ⟨rfl, rfl⟩
          refine hK.out _ _ (by assumption) (fun hHeld => ?_)
          clear hK K
          try simp only [Act.put, List.setIfInBounds_toArray, List.set_cons_zero, List.set_cons_succ, List.getElem_toArray, List.getElem_cons_zero, List.getElem_cons_succ]
          refine wpAnyH_ready (rs := [5]) (by kernel_rfl) (by simp) ?_
          refine AllReadyH.cons rfl (fun K hK => ?_) ?_
          · go_simp
            refine (DJ.out _).mono ?_
            rintro e w4 ⟨rfl, rfl⟩
            refine hK.out _ _ (by assumption) (fun hHeld => ?_)
            clear hK K
            try simp only [Act.put, List.setIfInBounds_toArray, List.set_cons_zero, List.set_cons_succ, List.getElem_toArray, List.getElem_cons_zero, List.getElem_cons_succ]
            refine wpAnyH_take (i := 6) (v := ?_) rfl (by kernel_rfl) (by kernel_rfl) (by kernel_rfl) (fun _ _ _ h => h) (Or.inl ⟨by rfl, by intro w hSw; (try dsimp only at hSw); go_simp; try (with_reducible rfl)⟩) (by assumption) ?_
            try simp only [Act.put, List.setIfInBounds_toArray, List.set_cons_zero, List.set_cons_succ, List.getElem_toArray, List.getElem_cons_zero, List.getElem_cons_succ]
            refine wpAnyH_take (i := 7) (v := ?_) rfl (by kernel_rfl) (by kernel_rfl) (by kernel_rfl) (fun _ _ _ h => h) (Or.inl ⟨by rfl, by intro w hSw; (try dsimp only at hSw); go_simp; try (with_reducible rfl)⟩) (by assumption) ?_
            try simp only [Act.put, List.setIfInBounds_toArray, List.set_cons_zero, List.set_cons_succ, List.getElem_toArray, List.getElem_cons_zero, List.getElem_cons_succ]
            refine wpAnyH_take (i := 8) (v := ?_) rfl (by kernel_rfl) (by kernel_rfl) (by kernel_rfl) (fun _ _ _ h => h) (Or.inl ⟨by rfl, by intro w hSw; (try dsimp only at hSw); go_simp; try (with_reducible rfl)⟩) (by assumption) ?_
            try simp only [Act.put, List.setIfInBounds_toArray, List.set_cons_zero, List.set_cons_succ, List.getElem_toArray, List.getElem_cons_zero, List.getElem_cons_succ]
            refine wpAnyH_done (by kernel_rfl) ?_ _
            gi_wp2
            refine region_round (l := l) (fun W9 => (((W9.cell? ⟨w.heap.size, 0, none⟩ = some (.int .i64 n) ∧ W9.cell? ⟨w.heap.size, 1, none⟩ = some (.int .i64 (x : Int))) ∧ (W9.cell? ⟨w.heap.size + 1, 0, none⟩ = some (.int .i64 (i : Int)) ∧ W9.cell? ⟨w.heap.size + 1 + 1, 0, none⟩ = some (.int .i64 (j : Int)))) ∧ Below W.heap.size W W9)) hmx (by kernel_rfl) (by omega) (by rintro ⟨_, _, h⟩; exact h) ?_
            clear hHeld
            have hHeld2 : (((W.drew.drew.cell? ⟨w.heap.size, 0, none⟩ = some (.int .i64 n) ∧ W.drew.drew.cell? ⟨w.heap.size, 1, none⟩ = some (.int .i64 (x : Int))) ∧ (W.drew.drew.cell? ⟨w.heap.size + 1, 0, none⟩ = some (.int .i64 (i : Int)) ∧ W.drew.drew.cell? ⟨w.heap.size + 1 + 1, 0, none⟩ = some (.int .i64 (j : Int)))) ∧ Below W.heap.size W W.drew.drew) := ⟨⟨⟨c0, c1⟩, ⟨ci, cj⟩⟩, ((Below.refl _ _).drew).drew⟩
            refine wpAnyH_take (i := 0) (v := ?_) rfl (by kernel_rfl) (by kernel_rfl) (by kernel_rfl) (fun _ _ _ h => h) (Or.inl ⟨by rfl, by intro w hSw; (try dsimp only at hSw); go_simp; try (with_reducible rfl)⟩) (by assumption) ?_
            try simp only [Act.put, List.setIfInBounds_toArray, List.set_cons_zero, List.set_cons_succ, List.getElem_toArray, List.getElem_cons_zero, List.getElem_cons_succ]
            refine wpAnyH_take (i := 1) (v := ?_) rfl (by kernel_rfl) (by kernel_rfl) (by kernel_rfl) (fun _ _ _ h => h) (Or.inl ⟨by rfl, by intro w hSw; (try dsimp only at hSw); go_simp; try (with_reducible rfl)⟩) (by assumption) ?_
            try simp only [Act.put, List.setIfInBounds_toArray, List.set_cons_zero, List.set_cons_succ, List.getElem_toArray, List.getElem_cons_zero, List.getElem_cons_succ]
            refine wpAnyH_take (i := 2) (v := ?_) rfl (by kernel_rfl) (by kernel_rfl) (by kernel_rfl) (fun _ _ _ h => h) (Or.inl ⟨by rfl, by intro w hSw; (try dsimp only at hSw); go_simp; try (with_reducible rfl)⟩) (by assumption) ?_
            try simp only [Act.put, List.setIfInBounds_toArray, List.set_cons_zero, List.set_cons_succ, List.getElem_toArray, List.getElem_cons_zero, List.getElem_cons_succ]
            refine wpAnyH_take (i := 3) (v := ?_) rfl (by kernel_rfl) (by kernel_rfl) (by kernel_rfl) (fun _ _ _ h => h) (Or.inl ⟨by rfl, by intro w hSw; (try dsimp only at hSw); go_simp; try (with_reducible rfl)⟩) (by assumption) ?_
            try simp only [Act.put, List.setIfInBounds_toArray, List.set_cons_zero, List.set_cons_succ, List.getElem_toArray, List.getElem_cons_zero, List.getElem_cons_succ]
            refine wpAnyH_take (i := 4) (v := ?_) rfl (by kernel_rfl) (by kernel_rfl) (by kernel_rfl) (fun _ _ _ h => h) (Or.inl ⟨by rfl, by intro w hSw; (try dsimp only at hSw); go_simp; try (with_reducible rfl)⟩) (by assumption) ?_
            try simp only [Act.put, List.setIfInBounds_toArray, List.set_cons_zero, List.set_cons_succ, List.getElem_toArray, List.getElem_cons_zero, List.getElem_cons_succ]
            refine wpAnyH_take (i := 5) (v := ?_) rfl (by kernel_rfl) (by kernel_rfl) (by kernel_rfl) (fun _ _ _ h => h) (Or.inl ⟨by rfl, by intro w hSw; (try dsimp only at hSw); go_simp; try (with_reducible rfl)⟩) (by assumption) ?_
            try simp only [Act.put, List.setIfInBounds_toArray, List.set_cons_zero, List.set_cons_succ, List.getElem_toArray, List.getElem_cons_zero, List.getElem_cons_succ]
            refine wpAnyH_take (i := 6) (v := ?_) rfl (by kernel_rfl) (by kernel_rfl) (by kernel_rfl) (fun _ _ _ h => h) (Or.inl ⟨by rfl, by intro w hSw; (try dsimp only at hSw); go_simp; try (with_reducible rfl)⟩) (by assumption) ?_
            try simp only [Act.put, List.setIfInBounds_toArray, List.set_cons_zero, List.set_cons_succ, List.getElem_toArray, List.getElem_cons_zero, List.getElem_cons_succ]
            refine wpAnyH_take (i := 8) (v := ?_) rfl (by kernel_rfl) (by kernel_rfl) (by kernel_rfl) (fun _ _ _ h => h) (Or.inl ⟨by rfl, by intro w hSw; (try dsimp only at hSw); go_simp; try (with_reducible rfl)⟩) (by assumption) ?_
            try simp only [Act.put, List.setIfInBounds_toArray, List.set_cons_zero, List.set_cons_succ, List.getElem_toArray, List.getElem_cons_zero, List.getElem_cons_succ]
            refine wpAnyH_take (i := 9) (v := ?_) rfl (by kernel_rfl) (by kernel_rfl) (by kernel_rfl) (fun _ _ _ h => h) (Or.inl ⟨by rfl, by intro w hSw; (try dsimp only at hSw); go_simp; try (with_reducible rfl)⟩) (by assumption) ?_
            try simp only [Act.put, List.setIfInBounds_toArray, List.set_cons_zero, List.set_cons_succ, List.getElem_toArray, List.getElem_cons_zero, List.getElem_cons_succ]
            refine wpAnyH_take (i := 10) (v := ?_) rfl (by kernel_rfl) (by kernel_rfl) (by kernel_rfl) (fun _ _ _ h => h) (Or.inl ⟨by rfl, by intro w hSw; (try dsimp only at hSw); go_simp; try (with_reducible rfl)⟩) (by assumption) ?_
            try simp only [Act.put, List.setIfInBounds_toArray, List.set_cons_zero, List.set_cons_succ, List.getElem_toArray, List.getElem_cons_zero, List.getElem_cons_succ]
            refine wpAnyH_take (i := 11) (v := ?_) rfl (by kernel_rfl) (by kernel_rfl) (by kernel_rfl) (fun _ _ _ h => h) (Or.inl ⟨by rfl, by intro w hSw; (try dsimp only at hSw); go_simp; try (with_reducible rfl)⟩) (by assumption) ?_
            try simp only [Act.put, List.setIfInBounds_toArray, List.set_cons_zero, List.set_cons_succ, List.getElem_toArray, List.getElem_cons_zero, List.getElem_cons_succ]
            refine wpAnyH_take (i := 12) (v := ?_) rfl (by kernel_rfl) (by kernel_rfl) (by kernel_rfl) (fun _ _ _ h => h) (Or.inl ⟨by rfl, by intro w hSw; (try dsimp only at hSw); go_simp; try (with_reducible rfl)⟩) (by assumption) ?_
            try simp only [Act.put, List.setIfInBounds_toArray, List.set_cons_zero, List.set_cons_succ, List.getElem_toArray, List.getElem_cons_zero, List.getElem_cons_succ]
            refine wpAnyH_ready (rs := [7]) (by kernel_rfl) (by simp) ?_
            refine AllReadyH.cons rfl (fun K hK => ?_) ?_
            · go_simp
              refine (A1.out _).mono ?_
              rintro e w5 ⟨rfl, hb1⟩
              refine hK.out _ _ (as_keep hb1 (by assumption)) (fun hHeld => ?_)
              clear hK K
              try simp only [Act.put, List.setIfInBounds_toArray, List.set_cons_zero, List.set_cons_succ, List.getElem_toArray, List.getElem_cons_zero, List.getElem_cons_succ]
              refine wpAnyH_ready (rs := [13]) (by kernel_rfl) (by simp) ?_
              refine AllReadyH.cons rfl (fun K hK => ?_) ?_
              · go_simp
                refine (A2.out _).mono ?_
                rintro e w6 ⟨rfl, hb1⟩
                refine hK.out _ _ (as_keep hb1 (by assumption)) (fun hHeld => ?_)
                clear hK K
                try simp only [Act.put, List.setIfInBounds_toArray, List.set_cons_zero, List.set_cons_succ, List.getElem_toArray, List.getElem_cons_zero, List.getElem_cons_succ]
                refine wpAnyH_take (i := 14) (v := ?_) rfl (by kernel_rfl) (by kernel_rfl) (by kernel_rfl) (fun _ _ _ h => h) (Or.inl ⟨by rfl, by intro w hSw; (try dsimp only at hSw); go_simp; try (with_reducible rfl)⟩) (by assumption) ?_
                try simp only [Act.put, List.setIfInBounds_toArray, List.set_cons_zero, List.set_cons_succ, List.getElem_toArray, List.getElem_cons_zero, List.getElem_cons_succ]
                refine wpAnyH_take (i := 15) (v := ?_) rfl (by kernel_rfl) (by kernel_rfl) (by kernel_rfl) (fun _ _ _ h => h) (Or.inl ⟨by rfl, by intro w hSw; (try dsimp only at hSw); go_simp; try (with_reducible rfl)⟩) (by assumption) ?_
                try simp only [Act.put, List.setIfInBounds_toArray, List.set_cons_zero, List.set_cons_succ, List.getElem_toArray, List.getElem_cons_zero, List.getElem_cons_succ]
                refine wpAnyH_done (by kernel_rfl) ?_ _
                gi_wp2
                exact END.out _ (‹(_ ∧ _) ∧ Below _ _ _›).2
              exact AllReadyH.nil
            exact AllReadyH.nil
          exact AllReadyH.nil
        exact AllReadyH.nil
      · have hd0 : decide ((bitN x (r ||| P1) : Int) < (bitN x (r ||| P2) : Int)) = true := by simp at hb3 ⊢; omega
        have HU := Lib.hid (HFA.out (by rw [HSK.out, hb3]; rfl))
        have cr := HA.out.cr
        have fr := HA.out.fr
        generalize (bitN x (r ||| P1) : Int) = V1 at hd0 A10
        generalize (bitN x (r ||| P2) : Int) = V2 at hd0 A20
        have A1 := Lib.hid A10
        have A2 := Lib.hid A20
        have DI := Lib.hid DI0
        have DJ := Lib.hid DJ0
        clear A10 A20 DI0 DJ0 hb3 HSK HALL HFA END hg HG0 bi1 bj1
        gi_wp2
        refine region_round (l := l) (fun W9 => (((W9.cell? ⟨w.heap.size, 0, none⟩ = some (.int .i64 n) ∧ W9.cell? ⟨w.heap.size, 1, none⟩ = some (.int .i64 (x : Int))) ∧ (W9.cell? ⟨w.heap.size + 1, 0, none⟩ = some (.int .i64 (i : Int)) ∧ W9.cell? ⟨w.heap.size + 1 + 1, 0, none⟩ = some (.int .i64 (j : Int)))) ∧ Below W.heap.size W W9)) hmx (by kernel_rfl) (by omega) (by rintro ⟨_, _, h⟩; exact h) ?_
        have hHeld : (((W.drew.cell? ⟨w.heap.size, 0, none⟩ = some (.int .i64 n) ∧ W.drew.cell? ⟨w.heap.size, 1, none⟩ = some (.int .i64 (x : Int))) ∧ (W.drew.cell? ⟨w.heap.size + 1, 0, none⟩ = some (.int .i64 (i : Int)) ∧ W.drew.cell? ⟨w.heap.size + 1 + 1, 0, none⟩ = some (.int .i64 (j : Int)))) ∧ Below W.heap.size W W.drew) := ⟨⟨⟨c0, c1⟩, ⟨ci, cj⟩⟩, (Below.refl _ _).drew⟩
        refine wpAnyH_take (i := 0) (v := ?_) rfl (by kernel_rfl) (by kernel_rfl) (by kernel_rfl) (fun _ _ _ h => h) (Or.inl ⟨by rfl, by intro w hSw; (try dsimp only at hSw); go_simp; try (with_reducible rfl)⟩) (by assumption) ?_
        try simp only [Act.put, List.setIfInBounds_toArray, List.set_cons_zero, List.set_cons_succ, List.getElem_toArray, List.getElem_cons_zero, List.getElem_cons_succ]
        refine wpAnyH_take (i := 1) (v := ?_) rfl (by kernel_rfl) (by kernel_rfl) (by kernel_rfl) (fun _ _ _ h => h) (Or.inl ⟨by rfl, by intro w hSw; (try dsimp only at hSw); go_simp; try (with_reducible rfl)⟩) (by assumption) ?_
        try simp only [Act.put, List.setIfInBounds_toArray, List.set_cons_zero, List.set_cons_succ, List.getElem_toArray, List.getElem_cons_zero, List.getElem_cons_succ]
        refine wpAnyH_take (i := 3) (v := ?_) rfl (by kernel_rfl) (by kernel_rfl) (by kernel_rfl) (fun _ _ _ h => h) (Or.inl ⟨by rfl, by intro w hSw; (try dsimp only at hSw); go_simp; try (with_reducible rfl)⟩) (by assumption) ?_
        try simp only [Act.put, List.setIfInBounds_toArray, List.set_cons_zero, List.set_cons_succ, List.getElem_toArray, List.getElem_cons_zero, List.getElem_cons_succ]
        refine wpAnyH_take (i := 4) (v := ?_) rfl (by kernel_rfl) (by kernel_rfl) (by kernel_rfl) (fun _ _ _ h => h) (Or.inl ⟨by rfl, by intro w hSw; (try dsimp only at hSw); go_simp; try (with_reducible rfl)⟩) (by assumption) ?_
        try simp only [Act.put, List.setIfInBounds_toArray, List.set_cons_zero, List.set_cons_succ, List.getElem_toArray, List.getElem_cons_zero, List.getElem_cons_succ]
        refine wpAnyH_ready (rs := [2]) (by kernel_rfl) (by simp) ?_
        refine AllReadyH.cons rfl (fun K hK => ?_) ?_
        · go_simp
          refine (DI.out _).mono ?_
          rintro e w4 ⟨rfl, rfl⟩
          refine hK.out _ _ (by assumption) (fun hHeld => ?_)
          clear hK K
          try simp only [Act.put, List.setIfInBounds_toArray, List.set_cons_zero, List.set_cons_succ, List.getElem_toArray, List.getElem_cons_zero, List.getElem_cons_succ]
          refine wpAnyH_ready (rs := [5]) (by kernel_rfl) (by simp) ?_
          refine AllReadyH.cons rfl (fun K hK => ?_) ?_
          · go_simp
            refine (DJ.out _).mono ?_
            rintro e w4 ⟨rfl, rfl⟩
            refine hK.out _ _ (by assumption) (fun hHeld => ?_)
            clear hK K
            try simp only [Act.put, List.setIfInBounds_toArray, List.set_cons_zero, List.set_cons_succ, List.getElem_toArray, List.getElem_cons_zero, List.getElem_cons_succ]
            refine wpAnyH_take (i := 6) (v := ?_) rfl (by kernel_rfl) (by kernel_rfl) (by kernel_rfl) (fun _ _ _ h => h) (Or.inl ⟨by rfl, by intro w hSw; (try dsimp only at hSw); go_simp; try (with_reducible rfl)⟩) (by assumption) ?_
            try simp only [Act.put, List.setIfInBounds_toArray, List.set_cons_zero, List.set_cons_succ, List.getElem_toArray, List.getElem_cons_zero, List.getElem_cons_succ]
            refine wpAnyH_take (i := 7) (v := ?_) rfl (by kernel_rfl) (by kernel_rfl) (by kernel_rfl) (fun _ _ _ h => h) (Or.inl ⟨by rfl, by intro w hSw; (try dsimp only at hSw); go_simp; try (with_reducible rfl)⟩) (by assumption) ?_
            try simp only [Act.put, List.setIfInBounds_toArray, List.set_cons_zero, List.set_cons_succ, List.getElem_toArray, List.getElem_cons_zero, List.getElem_cons_succ]
            refine wpAnyH_take (i := 8) (v := ?_) rfl (by kernel_rfl) (by kernel_rfl) (by kernel_rfl) (fun _ _ _ h => h) (Or.inl ⟨by rfl, by intro w hSw; (try dsimp only at hSw); go_simp; try (with_reducible rfl)⟩) (by assumption) ?_
            try simp only [Act.put, List.setIfInBounds_toArray, List.set_cons_zero, List.set_cons_succ, List.getElem_toArray, List.getElem_cons_zero, List.getElem_cons_succ]
            refine wpAnyH_done (by kernel_rfl) ?_ _
            gi_wp2
            refine region_round (l := l) (fun W9 => (((W9.cell? ⟨w.heap.size, 0, none⟩ = some (.int .i64 n) ∧ W9.cell? ⟨w.heap.size, 1, none⟩ = some (.int .i64 (x : Int))) ∧ (W9.cell? ⟨w.heap.size + 1, 0, none⟩ = some (.int .i64 (i : Int)) ∧ W9.cell? ⟨w.heap.size + 1 + 1, 0, none⟩ = some (.int .i64 (j : Int)))) ∧ Below W.heap.size W W9)) hmx (by kernel_rfl) (by omega) (by rintro ⟨_, _, h⟩; exact h) ?_
            clear hHeld
            have hHeld2 : (((W.drew.drew.cell? ⟨w.heap.size, 0, none⟩ = some (.int .i64 n) ∧ W.drew.drew.cell? ⟨w.heap.size, 1, none⟩ = some (.int .i64 (x : Int))) ∧ (W.drew.drew.cell? ⟨w.heap.size + 1, 0, none⟩ = some (.int .i64 (i : Int)) ∧ W.drew.drew.cell? ⟨w.heap.size + 1 + 1, 0, none⟩ = some (.int .i64 (j : Int)))) ∧ Below W.heap.size W W.drew.drew) := ⟨⟨⟨c0, c1⟩, ⟨ci, cj⟩⟩, ((Below.refl _ _).drew).drew⟩
            refine wpAnyH_take (i := 0) (v := ?_) rfl (by kernel_rfl) (by kernel_rfl) (by kernel_rfl) (fun _ _ _ h => h) (Or.inl ⟨by rfl, by intro w hSw; (try dsimp only at hSw); go_simp; try (with_reducible rfl)⟩) (by assumption) ?_
            try simp only [Act.put, List.setIfInBounds_toArray, List.set_cons_zero, List.set_cons_succ, List.getElem_toArray, List.getElem_cons_zero, List.getElem_cons_succ]
            refine wpAnyH_take (i := 1) (v := ?_) rfl (by kernel_rfl) (by kernel_rfl) (by kernel_rfl) (fun _ _ _ h => h) (Or.inl ⟨by rfl, by intro w hSw; (try dsimp only at hSw); go_simp; try (with_reducible rfl)⟩) (by assumption) ?_
            try simp only [Act.put, List.setIfInBounds_toArray, List.set_cons_zero, List.set_cons_succ, List.getElem_toArray, List.getElem_cons_zero, List.getElem_cons_succ]
            refine wpAnyH_take (i := 2) (v := ?_) rfl (by kernel_rfl) (by kernel_rfl) (by kernel_rfl) (fun _ _ _ h => h) (Or.inl ⟨by rfl, by intro w hSw; (try dsimp only at hSw); go_simp; try (with_reducible rfl)⟩) (by assumption) ?_
            try simp only [Act.put, List.setIfInBounds_toArray, List.set_cons_zero, List.set_cons_succ, List.getElem_toArray, List.getElem_cons_zero, List.getElem_cons_succ]
            refine wpAnyH_take (i := 3) (v := ?_) rfl (by kernel_rfl) (by kernel_rfl) (by kernel_rfl) (fun _ _ _ h => h) (Or.inl ⟨by rfl, by intro w hSw; (try dsimp only at hSw); go_simp; try (with_reducible rfl)⟩) (by assumption) ?_
            try simp only [Act.put, List.setIfInBounds_toArray, List.set_cons_zero, List.set_cons_succ, List.getElem_toArray, List.getElem_cons_zero, List.getElem_cons_succ]
            refine wpAnyH_take (i := 4) (v := ?_) rfl (by kernel_rfl) (by kernel_rfl) (by kernel_rfl) (fun _ _ _ h => h) (Or.inl ⟨by rfl, by intro w hSw; (try dsimp only at hSw); go_simp; try (with_reducible rfl)⟩) (by assumption) ?_
            try simp only [Act.put, List.setIfInBounds_toArray, List.set_cons_zero, List.set_cons_succ, List.getElem_toArray, List.getElem_cons_zero, List.getElem_cons_succ]
            refine wpAnyH_take (i := 5) (v := ?_) rfl (by kernel_rfl) (by kernel_rfl) (by kernel_rfl) (fun _ _ _ h => h) (Or.inl ⟨by rfl, by intro w hSw; (try dsimp only at hSw); go_simp; try (with_reducible rfl)⟩) (by assumption) ?_
            try simp only [Act.put, List.setIfInBounds_toArray, List.set_cons_zero, List.set_cons_succ, List.getElem_toArray, List.getElem_cons_zero, List.getElem_cons_succ]
            refine wpAnyH_take (i := 6) (v := ?_) rfl (by kernel_rfl) (by kernel_rfl) (by kernel_rfl) (fun _ _ _ h => h) (Or.inl ⟨by rfl, by intro w hSw; (try dsimp only at hSw); go_simp; try (with_reducible rfl)⟩) (by assumption) ?_
            try simp only [Act.put, List.setIfInBounds_toArray, List.set_cons_zero, List.set_cons_succ, List.getElem_toArray, List.getElem_cons_zero, List.getElem_cons_succ]
            refine wpAnyH_take (i := 8) (v := ?_) rfl (by kernel_rfl) (by kernel_rfl) (by kernel_rfl) (fun _ _ _ h => h) (Or.inl ⟨by rfl, by intro w hSw; (try dsimp only at hSw); go_simp; try (with_reducible rfl)⟩) (by assumption) ?_
            try simp only [Act.put, List.setIfInBounds_toArray, List.set_cons_zero, List.set_cons_succ, List.getElem_toArray, List.getElem_cons_zero, List.getElem_cons_succ]
            refine wpAnyH_take (i := 9) (v := ?_) rfl (by kernel_rfl) (by kernel_rfl) (by kernel_rfl) (fun _ _ _ h => h) (Or.inl ⟨by rfl, by intro w hSw; (try dsimp only at hSw); go_simp; try (with_reducible rfl)⟩) (by assumption) ?_
            try simp only [Act.put, List.setIfInBounds_toArray, List.set_cons_zero, List.set_cons_succ, List.getElem_toArray, List.getElem_cons_zero, List.getElem_cons_succ]
            refine wpAnyH_take (i := 10) (v := ?_) rfl (by kernel_rfl) (by kernel_rfl) (by kernel_rfl) (fun _ _ _ h => h) (Or.inl ⟨by rfl, by intro w hSw; (try dsimp only at hSw); go_simp; try (with_reducible rfl)⟩) (by assumption) ?_
            try simp only [Act.put, List.setIfInBounds_toArray, List.set_cons_zero, List.set_cons_succ, List.getElem_toArray, List.getElem_cons_zero, List.getElem_cons_succ]
            refine wpAnyH_take (i := 11) (v := ?_) rfl (by kernel_rfl) (by kernel_rfl) (by kernel_rfl) (fun _ _ _ h => h) (Or.inl ⟨by rfl, by intro w hSw; (try dsimp only at hSw); go_simp; try (with_reducible rfl)⟩) (by assumption) ?_
            try simp only [Act.put, List.setIfInBounds_toArray, List.set_cons_zero, List.set_cons_succ, List.getElem_toArray, List.getElem_cons_zero, List.getElem_cons_succ]
            refine wpAnyH_take (i := 12) (v := ?_) rfl (by kernel_rfl) (by kernel_rfl) (by kernel_rfl) (fun _ _ _ h => h) (Or.inl ⟨by rfl, by intro w hSw; (try dsimp only at hSw); go_simp; try (with_reducible rfl)⟩) (by assumption) ?_
            try simp only [Act.put, List.setIfInBounds_toArray, List.set_cons_zero, List.set_cons_succ, List.getElem_toArray, List.getElem_cons_zero, List.getElem_cons_succ]
            refine wpAnyH_ready (rs := [7]) (by kernel_rfl) (by simp) ?_
            refine AllReadyH.cons rfl (fun K hK => ?_) ?_
            · go_simp
              refine (A1.out _).mono ?_
              rintro e w5 ⟨rfl, hb1⟩
              refine hK.out _ _ (as_keep hb1 (by assumption)) (fun hHeld => ?_)
              clear hK K
              try simp only [Act.put, List.setIfInBounds_toArray, List.set_cons_zero, List.set_cons_succ, List.getElem_toArray, List.getElem_cons_zero, List.getElem_cons_succ]
              refine wpAnyH_ready (rs := [13]) (by kernel_rfl) (by simp) ?_
              refine AllReadyH.cons rfl (fun K hK => ?_) ?_
              · go_simp
                refine (A2.out _).mono ?_
                rintro e w6 ⟨rfl, hb1⟩
                refine hK.out _ _ (as_keep hb1 (by assumption)) (fun hHeld => ?_)
                clear hK K
                try simp only [Act.put, List.setIfInBounds_toArray, List.set_cons_zero, List.set_cons_succ, List.getElem_toArray, List.getElem_cons_zero, List.getElem_cons_succ]
                refine wpAnyH_take (i := 14) (v := ?_) rfl (by kernel_rfl) (by kernel_rfl) (by kernel_rfl) (fun _ _ _ h => h) (Or.inl ⟨by rfl, by intro w hSw; (try dsimp only at hSw); go_simp; try (with_reducible rfl)⟩) (by assumption) ?_
                try simp only [Act.put, List.setIfInBounds_toArray, List.set_cons_zero, List.set_cons_succ, List.getElem_toArray, List.getElem_cons_zero, List.getElem_cons_succ]
                refine wpAnyH_take (i := 15) (v := ?_) rfl (by kernel_rfl) (by kernel_rfl) (by kernel_rfl) (fun _ _ _ h => h) (Or.inl ⟨by rfl, by intro w hSw; (try dsimp only at hSw); go_simp; try (with_reducible rfl)⟩) (by assumption) ?_
                try simp only [Act.put, List.setIfInBounds_toArray, List.set_cons_zero, List.set_cons_succ, List.getElem_toArray, List.getElem_cons_zero, List.getElem_cons_succ]
                refine wpAnyH_done (by kernel_rfl) ?_ _
                have HBW := Lib.hid (‹(_ ∧ _) ∧ Below _ _ _›).2
                have cr6 := kc HBW.out cr
                have fr6 := kf HBW.out cr fr
                gi_wp2
                exact ⟨(kotb HBW.out).trans (KeepsOthers.setCell _ _ _), ⟨⟨rfl, HU.out⟩, by simp [go_sem, cr6]⟩, (bthen hB HBW.out).setCell (p := ⟨w.heap.size + 1 + 1 + 1, 0, none⟩) (by show w.heap.size ≤ w.heap.size + 1 + 1 + 1; omega) _⟩
              exact AllReadyH.nil
            exact AllReadyH.nil
          exact AllReadyH.nil
        exact AllReadyH.nil
  case done =>
    clear hC cM hB0
    rintro D ys W hD rfl ⟨⟨hall, hA⟩, hB⟩ hK
    have HT := Lib.hid (strong_all (x := x) (i := i) (j := j) (R := R) fun r hr => by
      have := hall (rowAt r0 r) (List.mem_map.2 ⟨r, List.mem_range.2 hr, rfl⟩)
      rwa [rowAt_val r0 hr] at this)
    have cr := hA.cr
    have fr := hA.fr
    clear hall hA
    have h1 : (W.setCell ⟨w.heap.size + 1 + 1 + 1, 0, none⟩ (.bool true)).cell? ⟨w.heap.size + 1 + 1 + 1, 0, none⟩ = some (.bool true) := by simp [go_sem, cr]
    have hK' := (KeepsOthers.setCell W ⟨w.heap.size + 1 + 1 + 1, 0, none⟩ (.bool true)).same D _ hK rfl
    have h2 := cell_kept h1 (grownBy_putObj' _ D (.deferred none)) (fun r e => by cases e; exact ⟨_, hK', rfl⟩)
    clear h1
    gi_wp2
    refine ⟨by simp, .inl ⟨_, _, rfl, run_takeDeferred hK', ?_⟩⟩
    refine ⟨.bool true, by simp [results, Try.results74, go_sem, h2], by rw [HT.out], ?_⟩
    exact (hB.setCell (p := ⟨w.heap.size + 1 + 1 + 1, 0, none⟩) (by show w.heap.size ≤ w.heap.size + 1 + 1 + 1; omega) _).trans (belowK_b (w := w) (Nat.le_refl _) _ D _ _ (by omega) hK' rfl rfl)
  case stop =>
    clear hC cM hB0
    rintro D c pre W hD _ ⟨⟨⟨rfl, hst⟩, cr⟩, hB⟩ hK
    have HT := Lib.hid hst
    clear hst
    have h2 := cell_kept cr (grownBy_putObj' _ D (.deferred none)) (fun r e => by cases e; exact ⟨_, hK, rfl⟩)
    gi_wp2
    refine ⟨by simp, .inl ⟨_, _, rfl, run_takeDeferred hK, ?_⟩⟩
    refine ⟨.bool false, by simp [results, Try.results74, go_sem, h2], by rw [HT.out], ?_⟩
    exact hB.trans (belowK_b (w := w) (Nat.le_refl _) _ D _ _ (by omega) hK rfl rfl)
end Go.Proofs.Ytcolaggkeekgoaa

/- MO11:
  IsAsStrong and IsRegular in both packages. -/
namespace Go.Proofs.Ytcolaggkeekgoaa
open Go.RowKit
set_option linter.unusedVariables false
set_option linter.unusedSimpArgs false

set_option maxRecDepth 100000 in
set_option maxHeartbeats 4000000 in
theorem implIsAsStrong_no {n b : Int} (h : isF n b = false) (i j : Int) (w : World) :
    Calls Try.prog 36 #[.agg #[.int .i64 n, .int .i64 b], .int .i64 i, .int .i64 j] w fun e w' => e = .returned (.tuple #[.bool false, .int .i64 1]) ∧ Below w.heap.size w w' := by
  go_enter Try.func36, Try.ntmps36
  go_wp2_with (go_at_call 51; refine (IsFunc_is h _).mono ?_; rintro e w2 ⟨rfl, hb2⟩)
  go_ret2
  exact ⟨rfl, bthen (bnew _ _) hb2⟩
set_option maxRecDepth 100000 in
set_option maxHeartbeats 4000000 in
theorem implIsAsStrong_range {n : Int} {x R : Nat} (ok : FOk n x R) (i j : Int) (hij : inB i 0 (n - 1) = false ∨ (inB i 0 (n - 1) = true ∧ inB j 0 (n - 1) = false)) (w : World) :
    Calls Try.prog 36 #[.agg #[.int .i64 n, .int .i64 (x : Int)], .int .i64 i, .int .i64 j] w fun e w' => e = .returned (.tuple #[.bool false, .int .i64 2]) ∧ Below w.heap.size w w' := by
  have h := ok.is
  have h0 := ok.h0
  have h4 := ok.h4
  obtain ⟨W1, hW1⟩ : ∃ W1, w.alloc (.cells #[.int .i64 n, .int .i64 (x : Int)] 24) = W1 := ⟨_, rfl⟩
  have p0 : W1.cell? ⟨w.heap.size, 0, none⟩ = some (.int .i64 n) := by rw [← hW1]; simp [go_sem]
  have p1 : W1.cell? ⟨w.heap.size, 1, none⟩ = some (.int .i64 (x : Int)) := by rw [← hW1]; simp [go_sem]
  have hB : Below w.heap.size w W1 := by rw [← hW1]; exact bnew _ _
  rcases hij with h1 | ⟨h1, h2⟩
  · go_enter Try.func36, Try.ntmps36
    go_wp2_with (first
      | (go_at_call 51; refine (IsFunc_is h _).mono ?_; rintro e w2 ⟨rfl, hb2⟩; have q0 := kc hb2 p0; have q1 := kc hb2 p1; have hB2 := bthen hB hb2; clear p0 p1)
      | (go_at_call 73; with_reducible refine (isVariable_is h1 _).mono ?_; rintro e w' ⟨rfl, rfl⟩))
    go_ret2
    exact ⟨rfl, hB2⟩
  · go_enter Try.func36, Try.ntmps36
    go_wp2_with fail
    refine (IsFunc_is h _).mono ?_
    rintro e w2 ⟨rfl, hb2⟩
    have q0 := kc hb2 p0
    have q1 := kc hb2 p1
    have hB2 := bthen hB hb2
    clear p0 p1 hW1
    go_wp2_with fail
    refine (isVariable_is h1 _).mono ?_
    rintro e w' ⟨rfl, rfl⟩
    go_wp2_with fail
    refine (isVariable_is h2 _).mono ?_
    rintro e w' ⟨rfl, rfl⟩
    go_wp2
    go_ret2
    exact ⟨rfl, hB2⟩
set_option maxRecDepth 100000 in
set_option maxHeartbeats 4000000 in
theorem implIsAsStrong_yes {n : Int} {x R : Nat} (ok : FOk n x R) (i j : Nat) (h1 : inB (i : Int) 0 (n - 1) = true) (h2 : inB (j : Int) 0 (n - 1) = true) (hi4 : i < 4) (hj4 : j < 4) (w : World) :
    Calls Try.prog 36 #[.agg #[.int .i64 n, .int .i64 (x : Int)], .int .i64 (i : Int), .int .i64 (j : Int)] w fun e w' => e = .returned (.tuple #[.bool (strongB x i j R), .int .i64 0]) ∧ Below w.heap.size w w' := by
  have h := ok.is
  have h0 := ok.h0
  have h4 := ok.h4
  obtain ⟨W1, hW1⟩ : ∃ W1, w.alloc (.cells #[.int .i64 n, .int .i64 (x : Int)] 24) = W1 := ⟨_, rfl⟩
  have p0 : W1.cell? ⟨w.heap.size, 0, none⟩ = some (.int .i64 n) := by rw [← hW1]; simp [go_sem]
  have p1 : W1.cell? ⟨w.heap.size, 1, none⟩ = some (.int .i64 (x : Int)) := by rw [← hW1]; simp [go_sem]
  have hB : Below w.heap.size w W1 := by rw [← hW1]; exact bnew _ _
  go_enter Try.func36, Try.ntmps36
  go_wp2_with fail
  refine (IsFunc_is h _).mono ?_
  rintro e w2 ⟨rfl, hb2⟩
  have q0 := kc hb2 p0
  have q1 := kc hb2 p1
  have hB2 := bthen hB hb2
  clear p0 p1 hW1
  go_wp2_with fail
  refine (isVariable_is h1 _).mono ?_
  rintro e w' ⟨rfl, rfl⟩
  go_wp2_with fail
  refine (isVariable_is h2 _).mono ?_
  rintro e w' ⟨rfl, rfl⟩
  go_wp2_with (go_at_call 74; refine (isAsStrong_any ok i j hi4 hj4 _).mono ?_; rintro e w3 ⟨rfl, hb3⟩)
  go_ret2
  exact ⟨rfl, bthen hB2 hb3⟩
set_option maxRecDepth 100000 in
set_option maxHeartbeats 4000000 in
theorem specIsAsStrong_no {n b : Int} (h : isF n b = false) (i j : Int) (w : World) :
    Calls Try.prog 35 #[.agg #[.int .i64 n, .int .i64 b], .int .i64 i, .int .i64 j] w fun e w' => e = .returned (.tuple #[.bool false, .int .i64 1]) ∧ Below w.heap.size w w' := by
  go_enter Try.func35, Try.ntmps35
  go_wp2_with (go_at_call 46; refine (l01Is_is h _).mono ?_; rintro e w2 ⟨rfl, hb2⟩)
  go_ret2
  exact ⟨rfl, bthen (bnew _ _) hb2⟩
set_option maxRecDepth 100000 in
set_option maxHeartbeats 4000000 in
theorem specIsAsStrong_range {n : Int} {x R : Nat} (ok : FOk n x R) (i j : Int) (hij : inB i 0 (n - 1) = false ∨ (inB i 0 (n - 1) = true ∧ inB j 0 (n - 1) = false)) (w : World) :
    Calls Try.prog 35 #[.agg #[.int .i64 n, .int .i64 (x : Int)], .int .i64 i, .int .i64 j] w fun e w' => e = .returned (.tuple #[.bool false, .int .i64 2]) ∧ Below w.heap.size w w' := by
  have h := ok.is
  have h0 := ok.h0
  have h4 := ok.h4
  obtain ⟨W1, hW1⟩ : ∃ W1, w.alloc (.cells #[.int .i64 n, .int .i64 (x : Int)] 24) = W1 := ⟨_, rfl⟩
  have p0 : W1.cell? ⟨w.heap.size, 0, none⟩ = some (.int .i64 n) := by rw [← hW1]; simp [go_sem]
  have p1 : W1.cell? ⟨w.heap.size, 1, none⟩ = some (.int .i64 (x : Int)) := by rw [← hW1]; simp [go_sem]
  have hB : Below w.heap.size w W1 := by rw [← hW1]; exact bnew _ _
  rcases hij with h1 | ⟨h1, h2⟩
  · go_enter Try.func35, Try.ntmps35
    go_wp2_with (first
      | (go_at_call 46; refine (l01Is_is h _).mono ?_; rintro e w2 ⟨rfl, hb2⟩; have q0 := kc hb2 p0; have q1 := kc hb2 p1; have hB2 := bthen hB hb2; clear p0 p1)
      | (go_at_call 47; with_reducible refine (l01In_is h1 _).mono ?_; rintro e w' ⟨rfl, rfl⟩))
    go_ret2
    exact ⟨rfl, hB2⟩
  · go_enter Try.func35, Try.ntmps35
    go_wp2_with fail
    refine (l01Is_is h _).mono ?_
    rintro e w2 ⟨rfl, hb2⟩
    have q0 := kc hb2 p0
    have q1 := kc hb2 p1
    have hB2 := bthen hB hb2
    clear p0 p1 hW1
    go_wp2_with fail
    refine (l01In_is h1 _).mono ?_
    rintro e w' ⟨rfl, rfl⟩
    go_wp2_with fail
    refine (l01In_is h2 _).mono ?_
    rintro e w' ⟨rfl, rfl⟩
    go_wp2
    go_ret2
    exact ⟨rfl, hB2⟩
set_option maxRecDepth 100000 in
set_option maxHeartbeats 4000000 in
theorem specIsAsStrong_yes {n : Int} {x R : Nat} (ok : FOk n x R) (i j : Nat) (h1 : inB (i : Int) 0 (n - 1) = true) (h2 : inB (j : Int) 0 (n - 1) = true) (hi4 : i < 4) (hj4 : j < 4) (w : World) :
    Calls Try.prog 35 #[.agg #[.int .i64 n, .int .i64 (x : Int)], .int .i64 (i : Int), .int .i64 (j : Int)] w fun e w' => e = .returned (.tuple #[.bool (strongB x i j R), .int .i64 0]) ∧ Below w.heap.size w w' := by
  have h := ok.is
  have h0 := ok.h0
  have h4 := ok.h4
  obtain ⟨W1, hW1⟩ : ∃ W1, w.alloc (.cells #[.int .i64 n, .int .i64 (x : Int)] 24) = W1 := ⟨_, rfl⟩
  have p0 : W1.cell? ⟨w.heap.size, 0, none⟩ = some (.int .i64 n) := by rw [← hW1]; simp [go_sem]
  have p1 : W1.cell? ⟨w.heap.size, 1, none⟩ = some (.int .i64 (x : Int)) := by rw [← hW1]; simp [go_sem]
  have hB : Below w.heap.size w W1 := by rw [← hW1]; exact bnew _ _
  go_enter Try.func35, Try.ntmps35
  go_wp2_with fail
  refine (l01Is_is h _).mono ?_
  rintro e w2 ⟨rfl, hb2⟩
  have q0 := kc hb2 p0
  have q1 := kc hb2 p1
  have hB2 := bthen hB hb2
  clear p0 p1 hW1
  go_wp2_with fail
  refine (l01In_is h1 _).mono ?_
  rintro e w' ⟨rfl, rfl⟩
  go_wp2_with fail
  refine (l01In_is h2 _).mono ?_
  rintro e w' ⟨rfl, rfl⟩
  go_wp2_with (go_at_call 72; refine (l07Strong_any ok i j hi4 hj4 _).mono ?_; rintro e w3 ⟨rfl, hb3⟩)
  go_ret2
  exact ⟨rfl, bthen hB2 hb3⟩
theorem bothIsAsStrong (n b i j : Int) (_ : (Lit.int .i64 n).wf = true) (_ : (Lit.int .i64 b).wf = true) (_ : (Lit.int .i64 i).wf = true) (_ : (Lit.int .i64 j).wf = true) : ∃ (rx : Bool) (rc : Int),
    (∀ w, Calls Try.prog 35 #[.agg #[.int .i64 n, .int .i64 b], .int .i64 i, .int .i64 j] w fun e w' => e = .returned (.tuple #[.bool rx, .int .i64 rc]) ∧ Below w.heap.size w w') ∧
    (∀ w, Calls Try.prog 36 #[.agg #[.int .i64 n, .int .i64 b], .int .i64 i, .int .i64 j] w fun e w' => e = .returned (.tuple #[.bool rx, .int .i64 rc]) ∧ Below w.heap.size w w') := by
  cases h : isF n b
  · exact ⟨_, _, specIsAsStrong_no h i j, implIsAsStrong_no h i j⟩
  · obtain ⟨x, R, rfl, ok⟩ := fok h
    have h4 := ok.h4
    cases h1 : inB i 0 (n - 1)
    · exact ⟨_, _, specIsAsStrong_range ok i j (.inl h1), implIsAsStrong_range ok i j (.inl h1)⟩
    · cases h2 : inB j 0 (n - 1)
      · exact ⟨_, _, specIsAsStrong_range ok i j (.inr ⟨h1, h2⟩), implIsAsStrong_range ok i j (.inr ⟨h1, h2⟩)⟩
      · have hi2 : 0 ≤ i ∧ i ≤ n - 1 := by simpa [inB] using h1
        have hj2 : 0 ≤ j ∧ j ≤ n - 1 := by simpa [inB] using h2
        obtain ⟨i', rfl⟩ := Int.eq_ofNat_of_zero_le hi2.1
        obtain ⟨j', rfl⟩ := Int.eq_ofNat_of_zero_le hj2.1
        exact ⟨_, _, specIsAsStrong_yes ok i' j' h1 h2 (by omega) (by omega), implIsAsStrong_yes ok i' j' h1 h2 (by omega) (by omega)⟩

/-- Of i and j one is at least as strong as the other one. -/
def regP (x R i j : Nat) : Bool := strongB x i j R || strongB x j i R
def regTo (x R i k : Nat) : Bool := allLt k fun j => regP x R i j
theorem regTo_succ (x R i k : Nat) : regTo x R i (k + 1) = (regTo x R i k && regP x R i k) := allLt_succ _ _
def regRows (x R m : Nat) : Bool := allLt m fun i => regTo x R i i
theorem regRows_succ (x R m : Nat) : regRows x R (m + 1) = (regRows x R m && regTo x R m m) := allLt_succ _ _
theorem regRows_false {x R i j m : Nat} (hi : i < m) (hj : j < i) (h : regP x R i j = false) : regRows x R m = false := by
  cases hc : regRows x R m
  · rfl
  · have := allLt_iff.1 (allLt_iff.1 hc i hi) j hj
    rw [h] at this
    cases this

set_option maxRecDepth 100000 in
set_option maxHeartbeats 4000000 in
theorem areVariablesInOrder_any {n : Int} {x R : Nat} (ok : FOk n x R) (w : World) :
    Calls Try.prog 75 #[.agg #[.int .i64 n, .int .i64 (x : Int)]] w fun e w' => e = .returned (.bool (regRows x R n.toNat)) ∧ Below w.heap.size w w' := by
  have h0 := ok.h0
  have h4 := ok.h4
  have ST := Lib.hid (fun i j (hi : i < 4) (hj : j < 4) b (hb : strongB x i j R = b) W => (hb ▸ isAsStrong_any ok i j hi hj W : Calls Try.prog 74 #[.agg #[.int .i64 n, .int .i64 (x : Int)], .int .i64 (i : Int), .int .i64 (j : Int)] W fun e w' => e = .returned (.bool b) ∧ Below W.heap.size W w'))
  obtain ⟨W1, hW1⟩ : ∃ W1, w.alloc (.cells #[.int .i64 n, .int .i64 (x : Int)] 24) = W1 := ⟨_, rfl⟩
  have p0 : W1.cell? ⟨w.heap.size, 0, none⟩ = some (.int .i64 n) := by rw [← hW1]; simp [go_sem]
  have p1 : W1.cell? ⟨w.heap.size, 1, none⟩ = some (.int .i64 (x : Int)) := by rw [← hW1]; simp [go_sem]
  have hB : Below w.heap.size w W1 := by rw [← hW1]; exact bnew _ _
  go_enter Try.func75, Try.ntmps75
  go_wp2_with fail
  clear hW1 ok
  go_loopw [7] (fun i' wr => ∃ i : Nat, (i : Int) ≤ n ∧ i' = .int .i64 i ∧ Hid (regRows x R i = true) ∧ ((wr.cell? ⟨w.heap.size, 0, none⟩ = some (.int .i64 n) ∧ wr.cell? ⟨w.heap.size, 1, none⟩ = some (.int .i64 (x : Int))) ∧ Below w.heap.size w wr))
    (fun i' _ => (n - intOf i').toNat)
  case atStart => exact ⟨0, by omega, rfl, Lib.hid rfl, ⟨p0, p1⟩, hB⟩
  case round =>
    clear p0 p1 hB
    obtain ⟨i, hi, rfl, hm, ⟨p0, p1⟩, hB⟩ := hrel
    by_cases hlt : (i : Int) < n
    · go_wp2
      go_loopw [11] (fun j' wr => ∃ j : Nat, j ≤ i ∧ j' = .int .i64 j ∧ Hid (regTo x R i j = true) ∧ ((wr.cell? ⟨w.heap.size, 0, none⟩ = some (.int .i64 n) ∧ wr.cell? ⟨w.heap.size, 1, none⟩ = some (.int .i64 (x : Int))) ∧ Below w.heap.size w wr))
        (fun j' _ => i - (intOf j').toNat)
      case atStart => exact ⟨0, Nat.zero_le _, rfl, Lib.hid rfl, ⟨p0, p1⟩, hB⟩
      case round =>
        clear p0 p1 hB
        obtain ⟨j, hj, rfl, hu, ⟨p0, p1⟩, hB⟩ := hrel
        by_cases hltj : j < i
        · have HP : Hid (regP x R i j = (strongB x i j R || strongB x j i R)) := Lib.hid rfl
          cases hs1 : strongB x i j R
          · have S1 := Lib.hid (ST.out i j (by omega) (by omega) _ hs1)
            cases hs2 : strongB x j i R
            · have S2 := Lib.hid (ST.out j i (by omega) (by omega) _ hs2)
              have HU := Lib.hid (regRows_false (m := n.toNat) (i := i) (j := j) (x := x) (R := R) (by omega) hltj (by rw [HP.out, hs1, hs2]; rfl))
              clear hs1 hs2 HP
              go_wp2_with fail
              refine (S1.out _).mono ?_
              rintro e w2 ⟨rfl, hb⟩
              have q0 := kc hb p0
              have q1 := kc hb p1
              have hB2 := bthen hB hb
              clear p0 p1 hB
              go_wp2_with fail
              refine (S2.out _).mono ?_
              rintro e w3 ⟨rfl, hb⟩
              have hB3 := bthen hB2 hb
              go_wp2
              go_ret
              exact ⟨by rw [HU.out]; rfl, hB3⟩
            · have S2 := Lib.hid (ST.out j i (by omega) (by omega) _ hs2)
              have HU := Lib.hid (show regTo x R i (j + 1) = true by rw [regTo_succ, hu.out, HP.out, hs1, hs2]; rfl)
              clear hs1 hs2 HP
              go_wp2_with fail
              refine (S1.out _).mono ?_
              rintro e w2 ⟨rfl, hb⟩
              have q0 := kc hb p0
              have q1 := kc hb p1
              have hB2 := bthen hB hb
              clear p0 p1 hB
              go_wp2_with fail
              refine (S2.out _).mono ?_
              rintro e w3 ⟨rfl, hb⟩
              have r0 := kc hb q0
              have r1 := kc hb q1
              have hB3 := bthen hB2 hb
              clear q0 q1 hB2
              go_wp2
              go_roundw
              case rel => exact ⟨j + 1, by omega, by go_num, HU, ⟨r0, r1⟩, hB3⟩
              case measure => simp [intOf]; omega
          · have S1 := Lib.hid (ST.out i j (by omega) (by omega) _ hs1)
            have HU := Lib.hid (show regTo x R i (j + 1) = true by rw [regTo_succ, hu.out, HP.out, hs1]; rfl)
            clear hs1 HP
            go_wp2_with fail
            refine (S1.out _).mono ?_
            rintro e w2 ⟨rfl, hb⟩
            have q0 := kc hb p0
            have q1 := kc hb p1
            have hB2 := bthen hB hb
            clear p0 p1 hB
            go_wp2
            go_roundw
            case rel => exact ⟨j + 1, by omega, by go_num, HU, ⟨q0, q1⟩, hB2⟩
            case measure => simp [intOf]; omega
        · obtain rfl : j = i := by omega
          have HU := Lib.hid (show regRows x R (j + 1) = true by rw [regRows_succ, hm.out, hu.out]; rfl)
          go_wp2
          go_roundw
          case rel => exact ⟨j + 1, by omega, by go_num, HU, ⟨p0, p1⟩, hB⟩
          case measure => simp [intOf]; omega
    · obtain hkn : n.toNat = i := by omega
      have HK := Lib.hid hkn
      clear hkn
      go_wp2
      go_ret
      exact ⟨by rw [HK.out, hm.out]; rfl, hB⟩

set_option maxRecDepth 100000 in
set_option maxHeartbeats 4000000 in
theorem implIsRegular_no {n b : Int} (h : isF n b = false) (w : World) :
    Calls Try.prog 38 #[.agg #[.int .i64 n, .int .i64 b]] w fun e w' => e = .returned (.tuple #[.bool false, .int .i64 1]) ∧ Below w.heap.size w w' := by
  go_enter Try.func38, Try.ntmps38
  go_wp2_with (go_at_call 51; refine (IsFunc_is h _).mono ?_; rintro e w2 ⟨rfl, hb2⟩)
  go_ret2
  exact ⟨rfl, bthen (bnew _ _) hb2⟩
set_option maxRecDepth 100000 in
set_option maxHeartbeats 4000000 in
theorem specIsRegular_no {n b : Int} (h : isF n b = false) (w : World) :
    Calls Try.prog 37 #[.agg #[.int .i64 n, .int .i64 b]] w fun e w' => e = .returned (.tuple #[.bool false, .int .i64 1]) ∧ Below w.heap.size w w' := by
  go_enter Try.func37, Try.ntmps37
  go_wp2_with (go_at_call 46; refine (l01Is_is h _).mono ?_; rintro e w2 ⟨rfl, hb2⟩)
  go_ret2
  exact ⟨rfl, bthen (bnew _ _) hb2⟩
set_option maxRecDepth 100000 in
set_option maxHeartbeats 4000000 in
theorem implIsRegular_yes {n : Int} {x R : Nat} (ok : FOk n x R) (w : World) :
    Calls Try.prog 38 #[.agg #[.int .i64 n, .int .i64 (x : Int)]] w fun e w' => e = .returned (.tuple #[.bool (cls3 n.toNat x R && regRows x R n.toNat), .int .i64 0]) ∧ Below w.heap.size w w' := by
  have h := ok.is
  have M := isMonotone_any ok
  have V := Lib.hid (areVariablesInOrder_any ok)
  obtain ⟨W1, hW1⟩ : ∃ W1, w.alloc (.cells #[.int .i64 n, .int .i64 (x : Int)] 24) = W1 := ⟨_, rfl⟩
  have p0 : W1.cell? ⟨w.heap.size, 0, none⟩ = some (.int .i64 n) := by rw [← hW1]; simp [go_sem]
  have p1 : W1.cell? ⟨w.heap.size, 1, none⟩ = some (.int .i64 (x : Int)) := by rw [← hW1]; simp [go_sem]
  have hB : Below w.heap.size w W1 := by rw [← hW1]; exact bnew _ _
  cases hm : cls3 n.toNat x R
  · rw [hm] at M
    have HM := Lib.hid M
    clear M hm
    go_enter Try.func38, Try.ntmps38
    go_wp2_with (first
      | (go_at_call 51; refine (IsFunc_is h _).mono ?_; rintro e w2 ⟨rfl, hb2⟩; have q0 := kc hb2 p0; have q1 := kc hb2 p1; have hB2 := bthen hB hb2; clear p0 p1)
      | (go_at_call 71; refine (HM.out _).mono ?_; rintro e w3 ⟨rfl, hb3⟩; have hB3 := bthen hB2 hb3))
    go_ret2
    exact ⟨rfl, hB3⟩
  · rw [hm] at M
    have HM := Lib.hid M
    clear M hm
    go_enter Try.func38, Try.ntmps38
    go_wp2_with (first
      | (go_at_call 51; refine (IsFunc_is h _).mono ?_; rintro e w2 ⟨rfl, hb2⟩; have q0 := kc hb2 p0; have q1 := kc hb2 p1; have hB2 := bthen hB hb2; clear p0 p1)
      | (go_at_call 71; refine (HM.out _).mono ?_; rintro e w3 ⟨rfl, hb3⟩; have r0 := kc hb3 q0; have r1 := kc hb3 q1; have hB3 := bthen hB2 hb3; clear q0 q1)
      | (go_at_call 75; refine (V.out _).mono ?_; rintro e w4 ⟨rfl, hb4⟩; have hB4 := bthen hB3 hb4))
    go_ret2
    exact ⟨by simp, hB4⟩

set_option maxRecDepth 100000 in
set_option maxHeartbeats 4000000 in
theorem specIsRegular_yes {n : Int} {x R : Nat} (ok : FOk n x R) (w : World) :
    Calls Try.prog 37 #[.agg #[.int .i64 n, .int .i64 (x : Int)]] w fun e w' => e = .returned (.tuple #[.bool (cls3 n.toNat x R && regRows x R n.toNat), .int .i64 0]) ∧ Below w.heap.size w w' := by
  have h := ok.is
  have h0 := ok.h0
  have h4 := ok.h4
  have ST := Lib.hid (fun i j (hi : i < 4) (hj : j < 4) b (hb : strongB x i j R = b) W => (hb ▸ l07Strong_any ok i j hi hj W : Calls Try.prog 72 #[.agg #[.int .i64 n, .int .i64 (x : Int)], .int .i64 (i : Int), .int .i64 (j : Int)] W fun e w' => e = .returned (.bool b) ∧ Below W.heap.size W w'))
  have M := Lib.hid (l07Monotone_any ok)
  generalize cls3 n.toNat x R = m0 at M ⊢
  obtain ⟨W1, hW1⟩ : ∃ W1, w.alloc (.cells #[.int .i64 n, .int .i64 (x : Int)] 24) = W1 := ⟨_, rfl⟩
  have p0 : W1.cell? ⟨w.heap.size, 0, none⟩ = some (.int .i64 n) := by rw [← hW1]; simp [go_sem]
  have p1 : W1.cell? ⟨w.heap.size, 1, none⟩ = some (.int .i64 (x : Int)) := by rw [← hW1]; simp [go_sem]
  have hB : Below w.heap.size w W1 := by rw [← hW1]; exact bnew _ _
  go_enter Try.func37, Try.ntmps37
  go_wp2_with (first
    | (go_at_call 46; refine (l01Is_is h _).mono ?_; rintro e w2 ⟨rfl, hb2⟩; have q0 := kc hb2 p0; have q1 := kc hb2 p1; have hB2 := bthen hB hb2; clear p0 p1)
    | (go_at_call 56; refine (M.out _).mono ?_; rintro e w3 ⟨rfl, hb3⟩; have r0 := kc hb3 q0; have r1 := kc hb3 q1; have hB3 := bthen hB2 hb3; clear q0 q1))
  clear hW1 ok
  go_loopw [4, 5] (fun g' i' wr => ∃ i : Nat, (i : Int) ≤ n ∧ i' = .int .i64 i ∧ (∃ g : Bool, g' = .bool g ∧ Hid (g = (m0 && regRows x R i))) ∧ ((wr.cell? ⟨w.heap.size, 0, none⟩ = some (.int .i64 n) ∧ wr.cell? ⟨w.heap.size, 1, none⟩ = some (.int .i64 (x : Int))) ∧ Below w.heap.size w wr))
    (fun _ i' _ => (n - intOf i').toNat)
  case atStart => exact ⟨0, by omega, rfl, ⟨m0, rfl, Lib.hid (by simp [regRows, allLt])⟩, ⟨r0, r1⟩, hB3⟩
  case round =>
    clear r0 r1 hB3
    obtain ⟨i, hi, rfl, ⟨g, rfl, hg⟩, ⟨p0, p1⟩, hB⟩ := hrel
    by_cases hlt : (i : Int) < n
    · go_wp2
      go_loopw [4, 6] (fun g' j' wr => ∃ j : Nat, j ≤ i ∧ j' = .int .i64 j ∧ (∃ g : Bool, g' = .bool g ∧ Hid (g = ((m0 && regRows x R i) && regTo x R i j))) ∧ ((wr.cell? ⟨w.heap.size, 0, none⟩ = some (.int .i64 n) ∧ wr.cell? ⟨w.heap.size, 1, none⟩ = some (.int .i64 (x : Int))) ∧ Below w.heap.size w wr))
        (fun _ j' _ => i - (intOf j').toNat)
      case atStart => exact ⟨0, Nat.zero_le _, rfl, ⟨g, rfl, Lib.hid (by rw [hg.out]; simp [regTo, allLt])⟩, ⟨p0, p1⟩, hB⟩
      case round =>
        clear p0 p1 hB hg
        obtain ⟨j, hj, rfl, ⟨g2, rfl, hu⟩, ⟨p0, p1⟩, hB⟩ := hrel
        by_cases hltj : j < i
        · have HP : Hid (regP x R i j = (strongB x i j R || strongB x j i R)) := Lib.hid rfl
          cases g2
          · have HU := Lib.hid (show false = ((m0 && regRows x R i) && regTo x R i (j + 1)) by rw [regTo_succ, ← Bool.and_assoc, ← hu.out]; rfl)
            clear HP hu
            go_wp2
            go_roundw
            case rel => exact ⟨j + 1, by omega, by go_num, ⟨_, rfl, HU⟩, ⟨p0, p1⟩, hB⟩
            case measure => simp [intOf]; omega
          · cases hs1 : strongB x i j R
            · have S1 := Lib.hid (ST.out i j (by omega) (by omega) _ hs1)
              cases hs2 : strongB x j i R
              all_goals
                have S2 := Lib.hid (ST.out j i (by omega) (by omega) _ hs2)
                have HU := Lib.hid (show strongB x j i R = ((m0 && regRows x R i) && regTo x R i (j + 1)) by rw [regTo_succ, ← Bool.and_assoc, ← hu.out, HP.out, hs1]; simp)
                rw [hs2] at HU
                clear hs1 hs2 HP hu
                go_wp2_with fail
                refine (S1.out _).mono ?_
                rintro e w2 ⟨rfl, hb⟩
                have q0 := kc hb p0
                have q1 := kc hb p1
                have hB2 := bthen hB hb
                clear p0 p1 hB
                go_wp2_with fail
                refine (S2.out _).mono ?_
                rintro e w3 ⟨rfl, hb⟩
                have r0 := kc hb q0
                have r1 := kc hb q1
                have hB3 := bthen hB2 hb
                clear q0 q1 hB2
                go_wp2
                go_roundw
                case rel => exact ⟨j + 1, by omega, by go_num, ⟨_, rfl, HU⟩, ⟨r0, r1⟩, hB3⟩
                case measure => simp [intOf]; omega
            · have S1 := Lib.hid (ST.out i j (by omega) (by omega) _ hs1)
              have HU := Lib.hid (show true = ((m0 && regRows x R i) && regTo x R i (j + 1)) by rw [regTo_succ, ← Bool.and_assoc, ← hu.out, HP.out, hs1]; rfl)
              clear hs1 HP hu
              go_wp2_with fail
              refine (S1.out _).mono ?_
              rintro e w2 ⟨rfl, hb⟩
              have q0 := kc hb p0
              have q1 := kc hb p1
              have hB2 := bthen hB hb
              clear p0 p1 hB
              go_wp2
              go_roundw
              case rel => exact ⟨j + 1, by omega, by go_num, ⟨_, rfl, HU⟩, ⟨q0, q1⟩, hB2⟩
              case measure => simp [intOf]; omega
        · obtain rfl : j = i := by omega
          have HU := Lib.hid (show g2 = (m0 && regRows x R (j + 1)) by rw [regRows_succ, ← Bool.and_assoc, ← hu.out])
          clear hu
          go_wp2
          go_roundw
          case rel => exact ⟨j + 1, by omega, by go_num, ⟨_, rfl, HU⟩, ⟨p0, p1⟩, hB⟩
          case measure => simp [intOf]; omega
    · obtain hkn : n.toNat = i := by omega
      have HK := Lib.hid hkn
      clear hkn
      go_wp2
      go_ret2
      exact ⟨by rw [HK.out, ← hg.out]; rfl, hB⟩

theorem bothIsRegular (n b : Int) (_ : (Lit.int .i64 n).wf = true) (_ : (Lit.int .i64 b).wf = true) : ∃ (rx : Bool) (rc : Int),
    (∀ w, Calls Try.prog 37 #[.agg #[.int .i64 n, .int .i64 b]] w fun e w' => e = .returned (.tuple #[.bool rx, .int .i64 rc]) ∧ Below w.heap.size w w') ∧
    (∀ w, Calls Try.prog 38 #[.agg #[.int .i64 n, .int .i64 b]] w fun e w' => e = .returned (.tuple #[.bool rx, .int .i64 rc]) ∧ Below w.heap.size w w') := by
  cases h : isF n b
  · exact ⟨_, _, specIsRegular_no h, implIsRegular_no h⟩
  · obtain ⟨x, R, rfl, ok⟩ := fok h
    exact ⟨_, _, specIsRegular_yes ok, implIsRegular_yes ok⟩
end Go.Proofs.Ytcolaggkeekgoaa

/- FIsRegular:
  The walk of the law on IsRegular: both packages answer alike. -/
namespace Go.Proofs.Ytcolaggkeekgoaa
open Go.RowKit

set_option maxRecDepth 100000 in
set_option maxHeartbeats 2000000 in
theorem fnExactIsRegular_walk (n0 : Int) (b0 : Int) (w : World) (wn0 : (Lit.int .i64 n0).wf = true) (wb0 : (Lit.int .i64 b0).wf = true) :
    Calls Try.prog 11 #[.agg #[.int .i64 n0, .int .i64 b0]] w fun e w' => e = .returned (.bool true) ∧ Below w.heap.size w w' := by
  obtain ⟨rx, rc, c1, c2⟩ := bothIsRegular n0 b0 wn0 wb0
  have C1 := Lib.hid c1
  have C2 := Lib.hid c2
  clear c1 c2 wn0 wb0
  have hB := Below.refl w.heap.size w
  go_enter Try.func11, Try.ntmps11
  have hB := balloc hB (.cells #[.int .i64 n0, .int .i64 b0] 23)
  go_wp2_with fail
  refine (toFunc_any n0 b0 _).mono ?_
  rintro e w1 ⟨rfl, hb1⟩
  have hB := bthen hB hb1
  obtain ⟨hc1, hf1⟩ := bcell hb1
  have l1_0 : w.heap.size < w1.heap.size := by have := hb1.size; (try simp at this); omega
  go_wp2_with fail
  refine (C1.out _).mono ?_
  rintro e w2 ⟨rfl, hb2⟩
  have hB := bthen hB hb2
  obtain ⟨hc2, hf2⟩ := bcell hb2
  have l2_0 : w.heap.size < w2.heap.size := by have := hb2.size; (try simp at this); omega
  go_wp2_with fail
  refine (toFunc_any n0 b0 _).mono ?_
  rintro e w3 ⟨rfl, hb3⟩
  have hB := bthen hB hb3
  obtain ⟨hc3, hf3⟩ := bcell hb3
  have l3_0 : w.heap.size < w3.heap.size := by have := hb3.size; (try simp at this); omega
  go_wp2_with fail
  refine (C2.out _).mono ?_
  rintro e w4 ⟨rfl, hb4⟩
  have hB := bthen hB hb4
  obtain ⟨hc4, hf4⟩ := bcell hb4
  have l4_0 : w.heap.size < w4.heap.size := by have := hb4.size; (try simp at this); omega
  go_wp2
  go_ret
  exact ⟨rfl, hB⟩
end Go.Proofs.Ytcolaggkeekgoaa
