/-
  The texts NU1, NQ5, BL9, BL10, Q8, Q9, Q10, Q11, BL6 in one.
-/
import Derived.Test.YtdgpjpcdifpllaaMPBasesOf5
import Derived.Lib.AppendZeros
import Derived.Deep.RegionWith

/- NU1:
  The numbers of the tuples of a relation, in the program. -/
namespace Go.Proofs.Ytdgpjpcdifpllaa
open Go.RowKit Go.Shelf
attribute [local go_sem] Oper.semAt_some
set_option linter.unusedVariables false
set_option linter.unusedSimpArgs false

/-- .. those handed out so far. -/
def tupF {R : Nat} (x : Nat) (pre : List (Row R)) : List Int := nI ((pre.map (·.1)).filter fun t => bitN x t == 1)
theorem tupF_yes {R : Nat} (x : Nat) (pre : List (Row R)) (y : Row R) (h : bitN x y.1 = 1) : tupF x (pre ++ [y]) = tupF x pre ++ [(y.1 : Int)] := by simp [tupF, nI, h]
theorem tupF_no {R : Nat} (x : Nat) (pre : List (Row R)) (y : Row R) (h : bitN x y.1 ≠ 1) : tupF x (pre ++ [y]) = tupF x pre := by simp [tupF, nI, h]
theorem tupF_len {R : Nat} (x : Nat) (pre : List (Row R)) : (tupF x pre).length ≤ pre.length := by
  rw [tupF, nI_length]
  exact Nat.le_trans (List.length_filter_le _ _) (by simp)
theorem tupF_upto {R : Nat} (hR : 0 < R) (x : Nat) : tupF x (upto hR R) = nI (tupsL x R) := by
  unfold tupF tupsL upto
  congr 2
  rw [List.map_map]
  refine (List.map_congr_left (g := id) fun k hk => ?_).trans (List.map_id _)
  exact rowAt_val hR (by simpa using hk)

set_option maxRecDepth 100000 in
set_option maxHeartbeats 4000000 in
theorem numbersOf_any {n : Int} {x R : Nat} (ok : FOk n x R) (w : World) :
    Calls Try.prog 151 #[.agg #[.int .i64 n, .int .i64 (x : Int)]] w (ListPost w.heap.size (nI (tupsL x R)) w) := by
  obtain ⟨i0, hi, hz0, hz1, hz2⟩ := info_parts infoI
  have r0 := ok.r0
  have r16 := ok.r16
  refine (callsIn_wide (n := 3)).1 ?_
  refine callsIn_of_wp_marks Try.func151 rfl trivial ?_ rfl
  simp only [Try.ntmps151, List.size_toArray, List.length_cons, List.length_nil, Nat.reduceAdd, Nat.reduceSub, Array.replicate_succ, Array.replicate_zero, List.push_toArray, List.append_toArray, List.nil_append, List.cons_append]
  gi_wp2_with (refine ⟨trivial, ?_⟩; gi_at_call 103; refine (callsIn_wide.2 (rowsOf_any _ _)).mono ?_; rintro e w' ⟨rfl, rfl⟩)
  obtain ⟨W0, hW0⟩ : ∃ W0, ((w.alloc (.cells #[.int .i64 n, .int .i64 (x : Int)] 26)).alloc (.cells #[.slice none 0 0] 55)).alloc (.cells #[.int .i64 n] 2) = W0 := ⟨_, rfl⟩
  have s0 : W0.cell? ⟨w.heap.size, 0, none⟩ = some (.int .i64 n) := by rw [← hW0]; simp [go_sem]
  have s1 : W0.cell? ⟨w.heap.size, 1, none⟩ = some (.int .i64 (x : Int)) := by rw [← hW0]; simp [go_sem]
  have hbx : Boxed W0 (w.heap.size + 1) 55 (.slice none 0 0) := by
    rw [← hW0, show w.heap.size + 1 = (w.alloc (.cells #[.int .i64 n, .int .i64 (x : Int)] 26)).heap.size by simp]; exact (Boxed.new _ _ _).alloc _
  have cM : W0.cell? ⟨w.heap.size + 1 + 1, 0, none⟩ = some (.int .i64 n) := by rw [← hW0]; simp [go_sem]
  have hsz : W0.heap.size = w.heap.size + 3 := by rw [← hW0]; simp [go_sem]
  have hB0 : Below w.heap.size w W0 := by rw [← hW0]; exact balloc (balloc (bnew _ _) _) _
  rw [hW0]
  clear hW0
  refine wpIn_rangeFunc_ownF (α := Row R) rfl (by omega) (gf := 158) (lb := #[.pointer (some ⟨w.heap.size + 1 + 1, 0, none⟩)]) rfl trivial (enters_of Try.func158 (by kernel_rfl) rfl)
    (rows_stops (3 - 1) (by omega) (w.heap.size + 1 + 1) (w.heap.size + 1) n R ok.h0 ok.h4 r0 r16 ok.hR W0 (by omega) cM) belowK_t (belowK_b (by omega)) (Below.refl _ _) (fun _ => rfl)
    (fun pre W => ((∃ v, Boxed W (w.heap.size + 1) 55 v ∧ W.ownsRow (w.heap.size + 1) 2 1 v (tupF x pre).length (ints (tupF x pre)) ∧ True) ∧ FBox w.heap.size n x W) ∧ Below w.heap.size w W)
    (fun _ _ _ => False)
    (OwnFrom.and (OwnFrom.and (Own.from (holdsRow_own (w.heap.size + 1) (w.heap.size + 1) 55 2 1 (fun pre => (tupF x pre).length) (fun pre => ints (tupF x pre)) (fun _ _ => True)) _) (Own.from (fun s A B row hs hg hr => ⟨cell_kept hs.c0 hg hr, cell_kept hs.c1 hg hr⟩) _)) (ownFrom_below (by omega) (by omega)))
    (fun _ _ _ _ _ hs _ _ => hs)
    ⟨⟨⟨_, hbx, World.ownsRow_nil _ _ _ _, trivial⟩, ⟨s0, s1⟩⟩, hB0⟩
    (fun y => { tmps := #[.agg #[.int .i64 n, .int .i64 (x : Int)], .pointer (some ⟨w.heap.size, 0, none⟩), .slice none 0 0, .pointer (some ⟨w.heap.size + 1, 0, none⟩), .int .i64 (y.1 : Int), .pointer (some ⟨w.heap.size, 0, none⟩), .int .i64 n,
      .func (.func 158) #[] #[.pointer (some ⟨w.heap.size + 1 + 1, 0, none⟩)], .int .i64 (y.1 : Int), undef, undef, undef, undef, undef, undef, undef, undef, undef, undef], defers := [] }) ?assign ?body ?done ?stop
  case assign =>
    intro l y W K hK
    unfold encRow
    gi_wp2
    exact hK
  case body =>
    clear cM s0 s1 hbx hB0
    rintro l pre y W ⟨⟨⟨v, hv, hrow, _⟩, hf⟩, hB⟩ hlen
    have c0 := hf.c0
    have c1 := hf.c1
    have hr := y.2
    have hle := tupF_len x pre
    have hbw : w.heap.size + 1 ≤ W.heap.size := Nat.le_of_lt hv.lt
    have DG := Lib.hid (fun W => digitOf_any x y.1 ok.hx (by omega) W)
    by_cases hp : bitN x y.1 = 1
    · have HC := Lib.hid (tupF_yes x pre y hp)
      have ht : ((bitN x y.1 : Int) == 1) = true := by simp [hp]
      clear hp
      generalize bitN x y.1 = bt at DG ht
      generalize y.1 = r at hr DG ⊢ HC
      generalize hlk : (tupF x pre).length = k at hle hrow
      have HLK := Lib.hid hlk
      clear hlk
      have HV := Lib.hid hv
      have dv := hv.cell
      have hv5 := hv.frozen
      gi_wp2_with (first
        | (refine ⟨trivial, ?_⟩; gi_at_call 159; refine (callsIn_wide.2 (DG.out _)).mono ?_; rintro e w' ⟨rfl, rfl⟩)
        | (gi_at_builtin; refine wpListIn_append_own _ rfl _ _ 55 rfl (w.heap.size + 1) 2 i0 (.int .i64 0) 1 8 Try.underlying55 hi hz0 hz1 hz2 rfl (by decide) _ _ _ rfl (hrow.alloc _) ⟨W.heap.size, 0, none⟩ 1 1 [.int .i64 (r : Int)] rfl rfl (cell_one_new _ _ _) (one_cell_int _) (by unfold maxLen; omega) (by omega) (by simp; omega) ?_; intro v' w1 hown' hgrow _; have HAP := Lib.hid (Boxed.appended HV.out (by decide) hrow hbw (Nat.le_refl _) hown' hgrow); obtain ⟨g5, cap5, rfl⟩ := ownsRow_succ hown'; have e5 := HAP.out.1.cell; have z5 := HAP.out.1.frozen; clear hgrow))
      obtain ⟨a1, a2, a3, a4, a5⟩ := HAP.out
      refine ⟨a4, a5, ⟨⟨_, a2, ?_, trivial⟩, ⟨(a5.cell (p := ⟨w.heap.size, 0, none⟩) (Nat.lt_succ_self _)).trans c0, (a5.cell (p := ⟨w.heap.size, 1, none⟩) (Nat.lt_succ_self _)).trans c1⟩⟩, hB.trans (a5.mono (Nat.le_succ _))⟩
      rw [HC.out, ints_snoc, List.length_append, HLK.out]
      exact a3
    · have HC := Lib.hid (tupF_no x pre y hp)
      have ht : ((bitN x y.1 : Int) == 1) = false := by simp; omega
      clear hp
      generalize bitN x y.1 = bt at DG ht
      generalize y.1 = r at hr DG ⊢ HC
      gi_wp2_with (refine ⟨trivial, ?_⟩; gi_at_call 159; refine (callsIn_wide.2 (DG.out _)).mono ?_; rintro e w' ⟨rfl, rfl⟩)
      refine ⟨KeepsOthers.refl _, Below.refl _ _, ⟨⟨v, hv, ?_, trivial⟩, ⟨c0, c1⟩⟩, hB⟩
      rw [HC.out]
      exact hrow
  case done =>
    rintro D ys W hD rfl ⟨⟨⟨v, hv, hrow, _⟩, _⟩, hB⟩ hK
    rw [tupF_upto r0] at hrow
    have dv := hv.cell
    have HR := Lib.hid hrow
    clear hrow hv
    gi_wp2
    refine ⟨by simp, .inl ⟨_, _, rfl, run_takeDeferred hK, ?_⟩⟩
    refine ⟨v, by simp [results, Try.results151, go_sem], v, rfl, ?_, hB.trans (belowK_b (w := w) (Nat.le_refl _) W D _ _ (by omega) hK rfl rfl)⟩
    exact Owns.mono (ownsRow_putObj HR.out _ hK rfl) (Nat.le_succ _)
  case stop =>
    rintro D c pre W _ _ h _
    exact h.elim
end Go.Proofs.Ytdgpjpcdifpllaa

/- NQ5:
  stepsOf by contract, telling the list; slices.Collect of the rows. -/
namespace Go.Proofs.Ytdgpjpcdifpllaa
open Go.RowKit Go.Shelf
attribute [local go_sem] Oper.semAt_some
set_option linter.unusedVariables false
set_option linter.unusedSimpArgs false

theorem hv15V (x : Nat) : ∀ q, bitN x q * 15 < 2 ^ 4 := fun q => by have := bitN_le x q; show bitN x q * 15 < 16; omega

set_option maxHeartbeats 1000000 in
theorem stepsOf_anyV (n x a : Int) (sa : Option Addr) (len cap : Nat) (w : World) :
    Calls Try.prog 192 #[.agg #[.int .i64 n, .int .i64 x], .int .i64 a, .slice sa len cap] w fun e w' => e = .returned (.func (.func 243) #[] #[.pointer (some ⟨w.heap.size, 0, none⟩), .pointer (some ⟨w.heap.size + 1 + 1, 0, none⟩), .pointer (some ⟨w.heap.size + 1, 0, none⟩)]) ∧
      w' = ((w.alloc (.cells #[.int .i64 n, .int .i64 x] 23)).alloc (.cells #[.int .i64 a] 2)).alloc (.cells #[.slice sa len cap] 55) := by
  go_enter Try.func192, Try.ntmps192
  go_wp2
  go_ret
  exact ⟨rfl, rfl⟩

theorem steps_seqV {x R m : Nat} (ok : FOk (m : Int) x R) (m4 : m ≤ 4) (Bf Bg Bn K : Nat) (S : Nat → Prop) (sg : Value) (gs : List Nat) (g16 : ∀ a, a ∈ gs → a < 16) (gl : gs.length ≤ 16) (kS : ∀ k, K ≤ k → S k) (gS : ∀ k, sg.ownBlock = some k → S k)
    (w : World) (p0 : w.cell? ⟨Bf, 0, none⟩ = some (.int .i64 (m : Int))) (p1 : w.cell? ⟨Bf, 1, none⟩ = some (.int .i64 (x : Int))) (cg : w.cell? ⟨Bg, 0, none⟩ = some sg) (cn : w.cell? ⟨Bn, 0, none⟩ = some (.int .i64 2)) (hg : Owns w 0 sg (nI gs)) (n : Nat) :
    SeqXV Fence.wide n Try.prog 243 #[.pointer (some ⟨Bf, 0, none⟩), .pointer (some ⟨Bg, 0, none⟩), .pointer (some ⟨Bn, 0, none⟩)] encSV (fun xs => ∃ sp, xs = outsV sp (hv15V x) gs [] m) (fun q => ∃ sp, q <+: outsV sp (hv15V x) gs [] m) (gs.length ^ m) K S (Vis m) w := by
  intro l J Jx W hW hK hJ hJx hY hj
  refine (callsIn_wide.2 (steps1_anyV ok m4 l Bf Bg Bn K S sg gs g16 gl (Nat.le_refl _) J Jx hJ kS gS (fun pre x W h1 h2 h3 => YieldAt.anyDV 1 (hY pre x W h1 h2 h3)) W (kc hW p0) (kc hW p1) (kc hW cg) (kc hW cn) (hg.below hW) hK hj)).mono ?_
  rintro e W' ⟨hv, ⟨sp, h⟩ | ⟨sp, q, hqp, h⟩⟩
  · exact ⟨hv, .inl ⟨_, ⟨sp, rfl⟩, h⟩⟩
  · exact ⟨hv, .inr ⟨q, ⟨sp, hqp⟩, h⟩⟩
theorem vis_kept (m K : Nat) (x : OutV) (W W' : World) (row : Option Nat) (h : Vis m K x W) (hg : W.grownBy W' row) (hr : ∀ r, row = some r → r < K) : Vis m K x W' := by
  refine ⟨World.ownsRow.kept h.1 hg ?_, h.2⟩
  cases e : x.1.ownBlock with
  | none => exact .inl rfl
  | some k => exact .inr (fun e' => by have := hr k e'.symm; have := (World.ownsRow.lt h.1 k e).1; omega)

/-- .. those handed out so far. -/
def rowsF {R : Nat} (pre : List (Row R)) : List Int := nI (pre.map (·.1))
theorem rowsF_snoc {R : Nat} (pre : List (Row R)) (y : Row R) : rowsF (pre ++ [y]) = rowsF pre ++ [(y.1 : Int)] := by simp [rowsF, nI]
theorem rowsF_len {R : Nat} (pre : List (Row R)) : (rowsF pre).length = pre.length := by simp [rowsF, nI_length]
theorem rowsF_upto {R : Nat} (hR : 0 < R) : rowsF (upto hR R) = nI (List.range R) := by
  unfold rowsF upto
  congr 1
  rw [List.map_map]
  refine (List.map_congr_left (g := id) fun k hk => ?_).trans (List.map_id _)
  exact rowAt_val hR (by simpa using hk)

set_option maxRecDepth 100000 in
set_option maxHeartbeats 4000000 in
theorem appendSeq_rows {n : Int} {R : Nat} (h0 : 0 ≤ n) (h4 : n ≤ 4) (r0 : 0 < R) (r16 : R ≤ 16) (hR : Hid (rowsN n = (R : Int))) (Bm : Nat) (w : World) (cM : w.cell? ⟨Bm, 0, none⟩ = some (.int .i64 n)) :
    Calls Try.prog 247 #[.slice none 0 0, .func (.func 158) #[] #[.pointer (some ⟨Bm, 0, none⟩)]] w (ListPost w.heap.size (nI (List.range R)) w) := by
  obtain ⟨i0, hi, hz0, hz1, hz2⟩ := info_parts infoI
  have lM := cell_lt cM
  refine (callsIn_wide (n := 3)).1 ?_
  refine callsIn_of_wp_marks Try.func247 rfl trivial ?_ rfl
  simp only [Try.ntmps247, List.size_toArray, List.length_cons, List.length_nil, Nat.reduceAdd, Nat.reduceSub, Array.replicate_succ, Array.replicate_zero, List.push_toArray, List.append_toArray, List.nil_append, List.cons_append]
  gi_wp2
  obtain ⟨W0, hW0⟩ : ∃ W0, w.alloc (.cells #[.slice none 0 0] 55) = W0 := ⟨_, rfl⟩
  have hbx : Boxed W0 w.heap.size 55 (.slice none 0 0) := by rw [← hW0]; exact Boxed.new _ _ _
  have cM0 : W0.cell? ⟨Bm, 0, none⟩ = some (.int .i64 n) := by rw [← hW0]; exact kc (bnew _ _) cM
  have hsz : W0.heap.size = w.heap.size + 1 := by rw [← hW0]; simp [go_sem]
  have hB0 : Below w.heap.size w W0 := by rw [← hW0]; exact bnew _ _
  rw [hW0]
  clear hW0
  refine wpIn_rangeFunc_ownF (α := Row R) rfl (by omega) (gf := 158) (lb := #[.pointer (some ⟨Bm, 0, none⟩)]) rfl trivial (enters_of Try.func158 (by kernel_rfl) rfl)
    (rows_stops (3 - 1) (by omega) Bm w.heap.size n R h0 h4 r0 r16 hR W0 (by omega) cM0) belowK_t (belowK_b (by omega)) (Below.refl _ _) (fun _ => rfl)
    (fun pre W => (∃ v, Boxed W w.heap.size 55 v ∧ W.ownsRow w.heap.size 2 1 v (rowsF pre).length (ints (rowsF pre)) ∧ True) ∧ Below w.heap.size w W)
    (fun _ _ _ => False)
    (OwnFrom.and (Own.from (holdsRow_own w.heap.size w.heap.size 55 2 1 (fun pre => (rowsF pre).length) (fun pre => ints (rowsF pre)) (fun _ _ => True)) _) (ownFrom_below (by omega) (by omega)))
    (fun _ _ _ _ _ hs _ _ => hs)
    ⟨⟨_, hbx, World.ownsRow_nil _ _ _ _, trivial⟩, hB0⟩
    (fun y => { tmps := #[.slice none 0 0, .func (.func 158) #[] #[.pointer (some ⟨Bm, 0, none⟩)], .pointer (some ⟨w.heap.size, 0, none⟩), undef, .slice none 0 0, .int .i64 (y.1 : Int),
      .func (.func 158) #[] #[.pointer (some ⟨Bm, 0, none⟩)], .int .i64 (y.1 : Int), undef, undef, undef, undef, undef], defers := [] }) ?assign ?body ?done ?stop
  case assign =>
    intro l y W K hK
    unfold encRow
    gi_wp2
    exact hK
  case body =>
    clear cM cM0 hbx hB0
    rintro l pre y W ⟨⟨v, hv, hrow, _⟩, hB⟩ hlen
    have hr := y.2
    have hle := Nat.le_of_eq (rowsF_len pre)
    have hbw : w.heap.size ≤ W.heap.size := Nat.le_of_lt hv.lt
    have HC := Lib.hid (rowsF_snoc pre y)
    generalize y.1 = r at hr ⊢ HC
    generalize hlk : (rowsF pre).length = k at hle hrow
    have HLK := Lib.hid hlk
    clear hlk
    have HV := Lib.hid hv
    have dv := hv.cell
    have hv5 := hv.frozen
    gi_wp2_with (gi_at_builtin; refine wpListIn_append_own _ rfl _ _ 55 rfl w.heap.size 2 i0 (.int .i64 0) 1 8 Try.underlying55 hi hz0 hz1 hz2 rfl (by decide) _ _ _ rfl (hrow.alloc _) ⟨W.heap.size, 0, none⟩ 1 1 [.int .i64 (r : Int)] rfl rfl (cell_one_new _ _ _) (one_cell_int _) (by unfold maxLen; omega) (by omega) (by simp; omega) ?_; intro v' w1 hown' hgrow _; have HAP := Lib.hid (Boxed.appended HV.out (by decide) hrow hbw (Nat.le_refl _) hown' hgrow); obtain ⟨g5, cap5, rfl⟩ := ownsRow_succ hown'; have e5 := HAP.out.1.cell; have z5 := HAP.out.1.frozen; clear hgrow)
    obtain ⟨a1, a2, a3, a4, a5⟩ := HAP.out
    refine ⟨a4, a5, ⟨_, a2, ?_, trivial⟩, hB.trans a5⟩
    rw [HC.out, ints_snoc, List.length_append, HLK.out]
    exact a3
  case done =>
    rintro D ys W hD rfl ⟨⟨v, hv, hrow, _⟩, hB⟩ hK
    rw [rowsF_upto r0] at hrow
    have dv := hv.cell
    have HR := Lib.hid hrow
    clear hrow hv
    gi_wp2
    refine ⟨by simp, .inl ⟨_, _, rfl, run_takeDeferred hK, ?_⟩⟩
    refine ⟨v, by simp [results, Try.results247, go_sem], v, rfl, ?_, hB.trans (belowK_b (w := w) (Nat.le_refl _) W D _ _ (by omega) hK rfl rfl)⟩
    exact Owns.mono (ownsRow_putObj HR.out _ hK rfl) (Nat.le_refl _)
  case stop =>
    rintro D c pre W _ _ h _
    exact h.elim
set_option maxHeartbeats 1000000 in
theorem collect_rows {n : Int} {R : Nat} (h0 : 0 ≤ n) (h4 : n ≤ 4) (r0 : 0 < R) (r16 : R ≤ 16) (hR : Hid (rowsN n = (R : Int))) (Bm : Nat) (w : World) (cM : w.cell? ⟨Bm, 0, none⟩ = some (.int .i64 n)) :
    Calls Try.prog 193 #[.func (.func 158) #[] #[.pointer (some ⟨Bm, 0, none⟩)]] w (ListPost w.heap.size (nI (List.range R)) w) := by
  have AS := Lib.hid (appendSeq_rows h0 h4 r0 r16 hR Bm w cM)
  go_enter Try.func193, Try.ntmps193
  go_wp2_with (go_at_call 247; refine AS.out.mono ?_; rintro e w2 ⟨s, rfl, o2, hb2⟩)
  go_ret
  exact ⟨s, rfl, o2, hb2⟩
end Go.Proofs.Ytdgpjpcdifpllaa

/- BL9:
  partsFrom of the program: the parts with k places, as a function that is ranged over, by induction on k. -/
namespace Go.Proofs.Ytdgpjpcdifpllaa
open Go.RowKit Go.Shelf
attribute [local go_sem] Oper.semAt_some
set_option linter.unusedVariables false
set_option linter.unusedSimpArgs false

/-- A part as it is handed out: its list, and what it holds. -/
abbrev PartV := Value × List Int
def encP (x : PartV) : Array Value := #[x.1]
def VisP (L : List (List Int)) (K : Nat) (x : PartV) (W : World) : Prop := Owns W K x.1 x.2 ∧ x.2 ∈ L
theorem visP_own (B : Nat) (L : List (List Int)) (K : Nat) (x : PartV) : OwnFrom B (fun (_ : Unit) W => VisP L K x W) := fun _ W W' row h hg hr => by
  refine ⟨World.ownsRow.kept h.1 hg ?_, h.2⟩
  cases hv : x.1.ownBlock with
  | none => exact .inl rfl
  | some b =>
    refine .inr fun e => ?_
    obtain ⟨o, ho, hc⟩ := (hr b e.symm).2
    obtain ⟨_, cur, e2⟩ := row_objP h.1 hv
    rw [e2] at ho
    cases ho
    cases hc

theorem partsFrom_any (i N k : Int) (w : World) :
    Calls Try.prog 179 #[.int .i64 i, .int .i64 N, .int .i64 k] w fun e w' => e = .returned (.func (.func 233) #[] #[.pointer (some ⟨w.heap.size + 1 + 1, 0, none⟩), .pointer (some ⟨w.heap.size, 0, none⟩), .pointer (some ⟨w.heap.size + 1, 0, none⟩)]) ∧
      w' = ((w.alloc (.cells #[.int .i64 i] 2)).alloc (.cells #[.int .i64 N] 2)).alloc (.cells #[.int .i64 k] 2) := by
  go_enter Try.func179, Try.ntmps179
  go_wp2
  go_ret
  exact ⟨rfl, rfl⟩

set_option maxRecDepth 100000 in
set_option maxHeartbeats 8000000 in
theorem parts0_in {τ : TypeId} {T : Nat → Prop} (l Bs Bf Bl NN : Nat) (J Jx : List PartV → World → Prop) (W : World) (hJ : OwnFrom W.heap.size J) (hN : 0 < NN)
    (bs : Boxed W Bs 2 (.int .i64 0))
    (hY : ∀ pre x W0 W1, J pre W0 → J pre W1 → W0.heap.size ≤ W1.heap.size → pre.length < NN → VisP [[]] W0.heap.size x W1 → YieldAt Fence.wide 1 Try.prog l (encP x) W1 fun e W' => Spare τ T W1 W' ∧ ((e = .returned (.bool true) ∧ J (pre ++ [x]) W') ∨ (e = .returned (.bool false) ∧ Jx (pre ++ [x]) W')))
    (hj : J [] W) :
    CallsIn Fence.wide 3 Try.prog 233 #[.func (.yield l) #[] #[], .pointer (some ⟨Bs, 0, none⟩), .pointer (some ⟨Bf, 0, none⟩), .pointer (some ⟨Bl, 0, none⟩)] W fun e W' => (∃ v, e = .returned v) ∧ ((∃ ys, ys.map (·.2) = [[]] ∧ J ys W') ∨ (∃ pre, True ∧ Jx pre W')) := by
  obtain ⟨V, hV⟩ : ∃ V, W.alloc (.cells #[.func (.yield l) #[] #[]] 152) = V := ⟨_, rfl⟩
  have hb : Below W.heap.size W V := by rw [← hV]; exact bnew _ _
  have cy : V.cell? ⟨W.heap.size, 0, none⟩ = some (.func (.yield l) #[] #[]) := by rw [← hV]; simp [go_sem]
  have hjV : J [] V := ownFrom_later hJ hj hb
  obtain ⟨fn, tmps, assign, body, hy, hR⟩ := YieldAt.anyDV 2 (hY [] (.slice none 0 0, []) V V hjV hjV (Nat.le_refl _) hN ⟨Owns.nil _ _, by simp⟩)
  unfold encP at hy
  refine callsIn_of_wp_marks Try.func233 rfl trivial ?_ rfl
  simp only [Try.ntmps233, List.size_toArray, List.length_cons, List.length_nil, Nat.reduceAdd, Nat.reduceSub, Array.replicate_succ, Array.replicate_zero, List.push_toArray, List.append_toArray, List.nil_append, List.cons_append]
  have cs' := kc hb bs.cell
  gi_wp2_with fail
  refine hR.mono ?_
  rintro e W3 ⟨_, ⟨rfl, h⟩ | ⟨rfl, h⟩⟩
  · gi_wp2
    exact ⟨_, results_none rfl _ _ _, ⟨_, rfl⟩, .inl ⟨_, by simp, h⟩⟩
  · gi_wp2
    exact ⟨_, results_none rfl _ _ _, ⟨_, rfl⟩, .inr ⟨_, trivial, h⟩⟩
/-- What a value of a box comes to. -/
def boxN (a : Act) (w : World) : Nat := match a.tmps.getD 5 undef with
  | .pointer (some p) => match w.cell? p with
    | some v => (intOf v).toNat
    | none => 0
  | _ => 0
/-- What is held at the head of the loop of partsFrom$1. -/
theorem partsN_cons {N k i j : Nat} (hij : i ≤ j) (hj : j < N) {r : List Int} (h : r ∈ partsN N k (j + 1)) : (j : Int) :: r ∈ partsN N (k + 1) i := by
  unfold partsN
  exact List.mem_flatMap.2 ⟨j, by rw [List.mem_range'_1]; omega, List.mem_map.2 ⟨r, h, rfl⟩⟩
theorem cell_oneP (W : World) (a : Int) (o : Obj) : ∀ (j : Nat) (u : Value), (ints [a])[j]? = some u → ((W.alloc (.cells #[.int .i64 a] 2)).alloc o).cell? ((⟨W.heap.size, 0, none⟩ : Addr).add j) = some u := by
  intro j u h
  match j, h with
  | 0, h => simp [ints] at h; subst h; simp [go_sem, Addr.add]
structure PG (l Bs Bl BY BX k N j : Nat) (Ds : List Nat) (wr : World) : Prop where
  x : Boxed wr BX 2 (.int .i64 j)
  y : Boxed wr BY 152 (.func (.yield l) #[] #[])
  s : Boxed wr Bs 2 (.int .i64 ((k : Int) + 1))
  n : Boxed wr Bl 2 (.int .i64 N)
  marks : ∀ D ∈ Ds, wr.heap[D]? = some (.deferred (some []))
structure PF (l Bs Bl BY BX k N i j : Nat) (J : List PartV → World → Prop) (ys : List PartV) (Ds : List Nat) (w0 wr : World) : Prop where
  el : ys.map (·.2) = partsTo N k i j
  jw : J ys wr
  g : PG l Bs Bl BY BX k N j Ds wr
  lo : w0.heap.size < BX
  pw : Ds.Pairwise (· ≠ ·)
  dlo : ∀ D ∈ Ds, w0.heap.size ≤ D
  size : w0.heap.size + 2 ≤ wr.heap.size
theorem boxed_cells {W W' : World} {B : Nat} {t : TypeId} {v : Value} {row : Option Nat} (h : Boxed W B t v) (hg : W.grownBy W' row) (hr : ∀ r, row = some r → ∃ o : Obj, W.heap[r]? = some o ∧ o.isCells = false) : Boxed W' B t v :=
  (grownBy_keeps_cells hg hr h rfl).trans h
theorem PG.below {l Bs Bl BY BX k N j : Nat} {Ds : List Nat} {W W' : World} (h : PG l Bs Bl BY BX k N j Ds W) (hb : Below W.heap.size W W') : PG l Bs Bl BY BX k N j Ds W' :=
  ⟨(hb.block _ h.x.lt).trans h.x, (hb.block _ h.y.lt).trans h.y, (hb.block _ h.s.lt).trans h.s, (hb.block _ h.n.lt).trans h.n, fun D hD => (hb.block D (Array.getElem?_eq_some_iff.1 (h.marks D hD)).1).trans (h.marks D hD)⟩
theorem PG.own {β : Type} {l Bs Bl BY BX k N j K : Nat} {Ds : List Nat} (hD : ∀ D ∈ Ds, D < K) : OwnFrom K (fun (_ : β) W => PG l Bs Bl BY BX k N j Ds W) := fun _ W W' row h hg hr =>
  ⟨boxed_cells h.x hg fun r e => (hr r e).2, boxed_cells h.y hg fun r e => (hr r e).2, boxed_cells h.s hg fun r e => (hr r e).2, boxed_cells h.n hg fun r e => (hr r e).2,
    fun D h1 => (hg.block D (Array.getElem?_eq_some_iff.1 (h.marks D h1)).1 (fun e => by have := (hr D e.symm).1; have := hD D h1; omega)).trans (h.marks D h1)⟩
theorem PG.spare {τ : TypeId} {T : Nat → Prop} {l Bs Bl BY BX k N j : Nat} {Ds : List Nat} {W W' : World} (h : PG l Bs Bl BY BX k N j Ds W) (hs : Spare τ T W W') (h1 : τ ≠ 2) (h2 : τ ≠ 152) (tx : T BX) (ty : T BY) (ts : T Bs) (tn : T Bl) (td : ∀ D ∈ Ds, T D) : PG l Bs Bl BY BX k N j Ds W' :=
  ⟨hs.same _ _ tx h.x (fun cs z e => by cases e; exact h1 rfl), hs.same _ _ ty h.y (fun cs z e => by cases e; exact h2 rfl), hs.same _ _ ts h.s (fun cs z e => by cases e; exact h1 rfl), hs.same _ _ tn h.n (fun cs z e => by cases e; exact h1 rfl),
    fun D hD => hs.same _ _ (td D hD) (h.marks D hD) (fun cs z e => by cases e)⟩
theorem partsTo_lt {N k i j : Nat} (hij : i ≤ j) (hj : j < N) : (partsTo N k i j).length + (partsN N k (j + 1)).length ≤ (partsN N (k + 1) i).length := by
  have h1 : (partsTo N k i (j + 1)).length = (partsTo N k i j).length + (partsN N k (j + 1)).length := by rw [partsTo_succ hij]; simp
  have h2 : ∀ d, j + 1 + d ≤ N → (partsTo N k i (j + 1)).length ≤ (partsTo N k i (j + 1 + d)).length := by
    intro d
    induction d with
    | zero => intro _; exact Nat.le_refl _
    | succ d ih =>
      intro h
      have := ih (by omega)
      show _ ≤ (partsTo N k i (j + 1 + d + 1)).length
      rw [partsTo_succ (j := j + 1 + d) (by omega), List.length_append]
      omega
  have h3 := h2 (N - (j + 1)) (by omega)
  rw [show j + 1 + (N - (j + 1)) = N by omega, partsTo_last (.inl rfl)] at h3
  omega

set_option maxRecDepth 100000 in
set_option maxHeartbeats 8000000 in
theorem parts1_in {τ : TypeId} {T : Nat → Prop} {N k : Nat} (hτ1 : τ ≠ 2) (hτ2 : τ ≠ 152) (hN8 : N ≤ 8) (hk8 : k + 1 ≤ 8)
    (ih : ∀ (i Bs Bf Bl : Nat) (T : Nat → Prop) (w : World), i ≤ N → T Bs → T Bl → Boxed w Bs 2 (.int .i64 k) → Boxed w Bf 2 (.int .i64 i) → Boxed w Bl 2 (.int .i64 N) →
      SeqO Fence.wide 2 Try.prog 233 #[.pointer (some ⟨Bs, 0, none⟩), .pointer (some ⟨Bf, 0, none⟩), .pointer (some ⟨Bl, 0, none⟩)] encP (fun ys => ys.map (·.2) = partsN N k i) (fun _ => True) (partsN N k i).length τ T (VisP (partsN N k i)) w)
    (l i Bs Bf Bl : Nat) (hi : i ≤ N) (J Jx : List PartV → World → Prop) (W : World) (hTs : T Bs) (hTl : T Bl) (hTK : ∀ k, W.heap.size ≤ k → T k) (hJ : OwnFrom W.heap.size J) (hJx : OwnFrom W.heap.size Jx)
    (bs : Boxed W Bs 2 (.int .i64 ((k : Int) + 1))) (bf : Boxed W Bf 2 (.int .i64 i)) (bl : Boxed W Bl 2 (.int .i64 N))
    (hY : ∀ pre x W0 W1, J pre W0 → J pre W1 → W0.heap.size ≤ W1.heap.size → pre.length < (partsN N (k + 1) i).length → VisP (partsN N (k + 1) i) W0.heap.size x W1 → YieldAt Fence.wide 1 Try.prog l (encP x) W1 fun e W' => Spare τ T W1 W' ∧ ((e = .returned (.bool true) ∧ J (pre ++ [x]) W') ∨ (e = .returned (.bool false) ∧ Jx (pre ++ [x]) W')))
    (hj : J [] W) :
    CallsIn Fence.wide 3 Try.prog 233 #[.func (.yield l) #[] #[], .pointer (some ⟨Bs, 0, none⟩), .pointer (some ⟨Bf, 0, none⟩), .pointer (some ⟨Bl, 0, none⟩)] W fun e W' => (∃ v, e = .returned v) ∧ ((∃ ys, ys.map (·.2) = partsN N (k + 1) i ∧ J ys W') ∨ (∃ pre, True ∧ Jx pre W')) := by
  have hmx : Try.prog.follows .mixedOrders = true := by kernel_rfl
  have hne : ((k : Int) + 1 == 0) = false := by
    have : ¬ ((k : Int) + 1 = 0) := by omega
    simpa using this
  have hne2 : ¬ ((k : Int) + 1 = 0) := by omega
  obtain ⟨V, hV⟩ : ∃ V, (W.alloc (.cells #[.func (.yield l) #[] #[]] 152)).alloc (.cells #[.int .i64 i] 2) = V := ⟨_, rfl⟩
  have lS := bs.lt
  have lN := bl.lt
  have hb : Below W.heap.size W V := by rw [← hV]; exact balloc (bnew _ _) _
  have P0 : Hid (PF l Bs Bl W.heap.size (W.heap.size + 1) k N i i J [] [] W V) := Lib.hid (by
    refine ⟨by rw [partsTo_first]; rfl, ownFrom_later hJ hj hb, ⟨?_, ?_, (hb.block _ lS).trans bs, (hb.block _ lN).trans bl, fun D h => by simp at h⟩, by omega, List.Pairwise.nil, fun D h => by simp at h, by rw [← hV]; simp⟩
    · rw [← hV]
      have := Boxed.new (W.alloc (.cells #[.func (.yield l) #[] #[]] 152)) 2 (.int .i64 i)
      simpa using this
    · rw [← hV]
      exact (Below.heap_alloc _ _ _ (by simp)).trans (heap_alloc_new W _))
  refine callsIn_of_wp_marks Try.func233 rfl trivial ?_ rfl
  simp only [Try.ntmps233, List.size_toArray, List.length_cons, List.length_nil, Nat.reduceAdd, Nat.reduceSub, Array.replicate_succ, Array.replicate_zero, List.push_toArray, List.append_toArray, List.nil_append, List.cons_append]
  have cs1 := kc (bnew W (.cells #[.func (.yield l) #[] #[]] 152)) bs.cell
  have cf1 := kc (bnew W (.cells #[.func (.yield l) #[] #[]] 152)) bf.cell
  gi_wp2_with fail
  try rw [hV]
  clear hV cs1 cf1 bs bf bl hb hj
  refine wpIn_loop (fun a' wr => ∃ (j BX : Nat) (Ds : List Nat) (ys : List PartV) (u6 u12 u13 u14 u15 u16 u17 u18 u19 u20 u21 u22 u23 u24 u25 u26 u27 u28 u29 u30 u31 u32 : Value), a' = { tmps := #[.func (.yield l) #[] #[], .pointer (some ⟨Bs, 0, none⟩), .pointer (some ⟨Bf, 0, none⟩), .pointer (some ⟨Bl, 0, none⟩), .pointer (some ⟨W.heap.size, 0, none⟩), .pointer (some ⟨BX, 0, none⟩), u6, .int .i64 ((k : Int) + 1), .bool false, undef, undef, .int .i64 i, u12, u13, u14, u15, u16, u17, u18, u19, u20, u21, u22, u23, u24, u25, u26, u27, u28, u29, u30, u31, u32], defers := Ds.map mkD } ∧ (i ≤ j ∧ j ≤ N) ∧ Hid (PF l Bs Bl W.heap.size BX k N i j J ys Ds W wr)) (fun a' w' => N - boxN a' w') ⟨i, W.heap.size + 1, [], [], _, _, _, _, _, _, _, _, _, _, _, _, _, _, _, _, _, _, _, _, _, _, rfl, ⟨Nat.le_refl _, hi⟩, P0⟩ ?_
  rintro _ wr ⟨j, BX, Ds, ys, u6, u12, u13, u14, u15, u16, u17, u18, u19, u20, u21, u22, u23, u24, u25, u26, u27, u28, u29, u30, u31, u32, rfl, ⟨hij, hjN⟩, HP⟩
  clear P0
  by_cases hjl : j < N
  · obtain ⟨hys, hjw, hg, hlo, hpw, hdl, hsz⟩ := HP.out
    have x0 := hg.x.cell
    have n0 := hg.n.cell
    have s0 := hg.s.cell
    have hl1 : ys.length = (partsTo N k i j).length := by rw [← hys, List.length_map]
    have hl2 := partsTo_lt (k := k) hij hjl
    have HYS := Lib.hid hys
    have HJW := Lib.hid hjw
    have HG := Lib.hid hg
    have HPW := Lib.hid hpw
    have HDL := Lib.hid hdl
    have d1 : decide ((j : Int) < (N : Int)) = true := by simp; omega
    have w1 : IntKind.i64.wrap ((j : Int) + 1) = (j : Int) + 1 := wrap64_small (by omega) (by omega)
    have w2 : IntKind.i64.wrap ((k : Int) + 1 - 1) = (k : Int) := by rw [show (k : Int) + 1 - 1 = (k : Int) by omega]; exact wrap64_small (by omega) (by omega)
    clear hys hjw hg hpw hdl
    gi_wp2_with (refine ⟨trivial, ?_⟩; gi_at_call 179; refine (callsIn_wide.2 (partsFrom_any _ _ _ _)).mono ?_; rintro e w' ⟨rfl, rfl⟩)
    obtain ⟨W1, hW1⟩ : ∃ W1, ((wr.alloc (.cells #[.int .i64 ((j : Int) + 1)] 2)).alloc (.cells #[.int .i64 (N : Int)] 2)).alloc (.cells #[.int .i64 (k : Int)] 2) = W1 := ⟨_, rfl⟩
    have s1 : W1.heap.size = wr.heap.size + 3 := by rw [← hW1]; simp
    have hB1 : Below wr.heap.size wr W1 := by rw [← hW1]; exact balloc (balloc (bnew _ _) _) _
    have b1 : Boxed W1 wr.heap.size 2 (.int .i64 ((j + 1 : Nat) : Int)) := by rw [← hW1]; exact ((Boxed.new _ _ _).alloc _).alloc _
    have b2 : Boxed W1 (wr.heap.size + 1) 2 (.int .i64 (N : Int)) := by
      rw [← hW1]
      have := (Boxed.new (wr.alloc (.cells #[.int .i64 ((j : Int) + 1)] 2)) 2 (.int .i64 (N : Int))).alloc (.cells #[.int .i64 (k : Int)] 2)
      simpa using this
    have b3 : Boxed W1 (wr.heap.size + 1 + 1) 2 (.int .i64 (k : Int)) := by
      rw [← hW1]
      have := Boxed.new ((wr.alloc (.cells #[.int .i64 ((j : Int) + 1)] 2)).alloc (.cells #[.int .i64 (N : Int)] 2)) 2 (.int .i64 (k : Int))
      simpa using this
    try rw [hW1]
    clear hW1
    have hDW : ∀ D ∈ Ds, D < wr.heap.size := fun D hD => (Array.getElem?_eq_some_iff.1 (HG.out.marks D hD)).1
    have lBX := HG.out.x.lt
    have lS2 := HG.out.s.lt
    refine wpIn_rangeFunc_O (α := PartV) (Vis := VisP (partsN N k (j + 1))) (τ := τ) rfl (by omega) (T := fun q => q = wr.heap.size + 1 + 1 ∨ q = wr.heap.size ∨ q = wr.heap.size + 1 ∨ W1.heap.size + 2 ≤ q) (gf := 233) (lb := #[.pointer (some ⟨wr.heap.size + 1 + 1, 0, none⟩), .pointer (some ⟨wr.heap.size, 0, none⟩), .pointer (some ⟨wr.heap.size + 1, 0, none⟩)]) rfl trivial (enters_of Try.func233 (by kernel_rfl) rfl) (by omega) (fun q hq => .inr (.inr (.inr hq)))
      (ih (j + 1) (wr.heap.size + 1 + 1) wr.heap.size (wr.heap.size + 1) _ W1 (by omega) (.inl rfl) (.inr (.inr (.inl rfl))) b3 b1 b2)
      (fun K x => visP_own _ _ K x) (Below.refl _ _) (fun _ => rfl)
      (fun pre W' => (∃ ys', ys'.map (·.2) = partsTo N k i j ++ pre.map (fun r => (j : Int) :: r.2) ∧ J ys' W') ∧ PG l Bs Bl W.heap.size BX k N j Ds W')
      (fun c pre W' => c = .ret ∧ ((∃ p, Jx p W') ∧ ∀ D ∈ Ds, W'.heap[D]? = some (.deferred (some []))))
      (OwnFrom.and (by rintro s A B row ⟨ys', e, h⟩ hg hr; exact ⟨ys', e, ownFrom_up hJ (by omega) ys' A B row h hg hr⟩) (PG.own fun D hD => by have := hDW D hD; omega))
      (fun c s A B row ⟨e, ⟨p, h⟩, hd⟩ hg hr => ⟨e, ⟨p, ownFrom_up hJx (by omega) p A B row h hg hr⟩, fun D hD => (hg.block D (Array.getElem?_eq_some_iff.1 (hd D hD)).1 (fun e => by have h1 := (hr D e.symm).1; have h2 := hDW D hD; omega)).trans (hd D hD)⟩)
      ⟨⟨ys, by simpa using HYS.out, ownFrom_later (K := W.heap.size) hJ HJW.out hB1⟩, HG.out.below hB1⟩
      (fun z => { tmps := #[.func (.yield l) #[] #[], .pointer (some ⟨Bs, 0, none⟩), .pointer (some ⟨Bf, 0, none⟩), .pointer (some ⟨Bl, 0, none⟩), .pointer (some ⟨W.heap.size, 0, none⟩), .pointer (some ⟨BX, 0, none⟩), z.1, .int .i64 ((k : Int) + 1), .bool false, undef, undef, .int .i64 i, .int .i64 j, .int .i64 N, .bool true, u15, u16, .int .i64 j, .int .i64 ((j : Int) + 1), .int .i64 N, .int .i64 ((k : Int) + 1), .int .i64 k, .func (.func 233) #[] #[.pointer (some ⟨wr.heap.size + 1 + 1, 0, none⟩), .pointer (some ⟨wr.heap.size, 0, none⟩), .pointer (some ⟨wr.heap.size + 1, 0, none⟩)], z.1, u24, u25, u26, u27, u28, u29, u30, u31, u32], defers := [] }) ?assign ?body ?done ?stop
    case assign =>
      intro l' z W' K hK
      unfold encP
      gi_wp2
      exact hK
    case body =>
      clear b1 b2 b3 x0 n0 s0
      rintro l' pre z Wz W' _ ⟨⟨ys', hys', hj'⟩, hg'⟩ hsz0 hsz' hlen ⟨hown, hzl⟩
      obtain ⟨z1, z2⟩ := z
      dsimp only at hown hzl
      have hzm := hzl
      replace hzl := partsN_row N k (j + 1) _ hzl
      obtain ⟨sa, sc, rfl⟩ := owns_len hown hzl
      have hyl : ys'.length = (partsTo N k i j).length + pre.length := by
        have := congrArg List.length hys'
        simpa using this
      have YC := Lib.hid (fun Wx (h : Below W'.heap.size W' Wx) => (show Wx.cell? ⟨W.heap.size, 0, none⟩ = some (.func (.yield l) #[] #[]) from kc h hg'.y.cell))
      have XC := Lib.hid (fun Wx (h : Below W'.heap.size W' Wx) => (show Wx.cell? ⟨BX, 0, none⟩ = some (.int .i64 (j : Int)) from kc h hg'.x.cell))
      have FIN := Lib.hid (fun W3 v (h : Below W'.heap.size W' W3) (ho : Owns W3 W'.heap.size v ([(j : Int)] ++ z2)) =>
        (show YieldAt Fence.wide 0 Try.prog l #[v] W3 fun e W4 => ∃ b : Bool, e = .returned (.bool b) ∧ Spare τ T W3 W4 ∧ (b = true → J (ys' ++ [(v, (j : Int) :: z2)]) W4) ∧ (b = false → Jx (ys' ++ [(v, (j : Int) :: z2)]) W4) by
          obtain ⟨fn, tmps, assign, body, hy, hR⟩ := YieldAt.anyDV 0 <| hY ys' (v, (j : Int) :: z2) W' W3 hj' (ownFrom_later (K := W.heap.size) hJ hj' h) h.size (by rw [hyl]; omega) ⟨ho, partsN_cons hij hjl hzm⟩
          refine ⟨fn, tmps, assign, body, hy, hR.mono ?_⟩
          rintro e W4 ⟨hs, ⟨rfl, h⟩ | ⟨rfl, h⟩⟩
          · exact ⟨true, rfl, hs, fun _ => h, fun e => (by cases e)⟩
          · exact ⟨false, rfl, hs, fun e => (by cases e), fun _ => h⟩))
      have hTT : ∀ q, (q = wr.heap.size + 1 + 1 ∨ q = wr.heap.size ∨ q = wr.heap.size + 1 ∨ W1.heap.size + 2 ≤ q) → T q := fun q hq => hTK q (by rcases hq with h | h | h | h <;> omega)
      have KF := fun W4 (h : Spare τ T W' W4) => (show KeepsFrom W1.heap.size W' W4 from ⟨h.size, fun q o hq ho hc => h.same q o (hTK q (by omega)) ho (fun cs z e => by subst e; cases hc)⟩)
      have FT := Lib.hid (fun W4 (v : Value) (h : Spare τ T W' W4) (hj4 : J (ys' ++ [(v, (j : Int) :: z2)]) W4) =>
        (show (KeepsFrom W1.heap.size W' W4 ∧ Spare τ (fun q => q = wr.heap.size + 1 + 1 ∨ q = wr.heap.size ∨ q = wr.heap.size + 1 ∨ W1.heap.size + 2 ≤ q) W' W4) ∧ ((∃ ys', ys'.map (·.2) = partsTo N k i j ++ (pre ++ [(Value.slice sa k sc, z2)]).map (fun r => (j : Int) :: r.2) ∧ J ys' W4) ∧ PG l Bs Bl W.heap.size BX k N j Ds W4) from
          ⟨⟨KF W4 h, h.mono hTT⟩, ⟨ys' ++ [(v, (j : Int) :: z2)], by rw [List.map_append, hys', List.map_append, List.append_assoc]; rfl, hj4⟩, hg'.spare h hτ1 hτ2 (hTK _ (by omega)) (hTK _ (Nat.le_refl _)) hTs hTl (fun D hD => hTK D (HDL.out D hD))⟩))
      have FF := Lib.hid (fun W4 (h : Spare τ T W' W4) (p : List PartV) (hj4 : Jx p W4) =>
        (show (KeepsFrom W1.heap.size W' W4 ∧ Spare τ (fun q => q = wr.heap.size + 1 + 1 ∨ q = wr.heap.size ∨ q = wr.heap.size + 1 ∨ W1.heap.size + 2 ≤ q) W' W4) ∧ (Code.ret = .ret ∧ ((∃ p, Jx p W4) ∧ ∀ D ∈ Ds, W4.heap[D]? = some (.deferred (some [])))) from
          ⟨⟨KF W4 h, h.mono hTT⟩, rfl, ⟨p, hj4⟩, fun D hD => h.same D _ (hTK D (HDL.out D hD)) (hg'.marks D hD) (fun cs z e => by cases e)⟩))
      clear hys' hj' hg' hyl KF hTT s1
      gi_wp2
      refine wpIn_region_any hmx (wpAnyIn_round (F := Fence.wide) l' (by kernel_rfl) _ _ _ _ ?_)
      change wpAnyIn _ _ _ _ _ _ _ _ _ (World.drew _)
      have hbA : Below W'.heap.size W' W'.drew := (Below.refl _ _).drew
      refine wpAnyIn_take (i := 3) (v := ?_) rfl rfl (by kernel_rfl) (by kernel_rfl) (by kernel_rfl) (fun _ _ _ h => h) ⟨Or.inl ⟨by rfl, by intro w; go_simp; try (with_reducible rfl)⟩, fun _ => rfl⟩ ?_
      refine wpAnyIn_ready (rs := [0, 1]) (by kernel_rfl) (by simp) ?_
      refine AllReadyIn.cons rfl (fun K hK => ?_) ?_
      · have cY := YC.out _ hbA
        go_simp
        refine hK _ _ ?_
        clear hK K cY
        refine wpAnyIn_ready (rs := [1]) (by kernel_rfl) (by simp) ?_
        refine AllReadyIn.cons rfl (fun K hK => ?_) ?_
        · have cX := XC.out _ hbA
          go_simp
          refine hK _ _ ?_
          clear hK K cX
          refine wpAnyIn_ready (rs := [2]) (by kernel_rfl) (by simp) ?_
          refine AllReadyIn.cons rfl (fun K hK => ?_) ?_
          · have hbB : Below W'.heap.size W' (W'.alloc (.cells #[.int .i64 (j : Int)] 2)).drew := (bnew _ _).drew
            go_simp
            refine hK _ _ ?_
            clear hK K
            refine wpAnyIn_ready (rs := [4]) (by kernel_rfl) (by simp) ?_
            refine AllReadyIn.cons rfl (fun K hK => ?_) ?_
            · have hbC : Below W'.heap.size W' ((W'.alloc (.cells #[.int .i64 (j : Int)] 2)).alloc (.cells #[.slice (some ⟨W'.heap.size, 0, none⟩) 1 1, .slice sa k sc] 55)).drew := (balloc (bnew _ _) _).drew
              go_simp
              refine hK _ _ ?_
              clear hK K
              refine wpAnyIn_ready (rs := [5]) (by kernel_rfl) (by simp) ?_
              refine AllReadyIn.cons rfl (fun K hK => ?_) ?_
              · have hq1 : (((W'.alloc (.cells #[.int .i64 (j : Int)] 2)).alloc (.cells #[.slice (some ⟨W'.heap.size, 0, none⟩) 1 1, .slice sa k sc] 55)).drew).cell? ⟨W'.heap.size + 1, 0, none⟩ = some (.slice (some ⟨W'.heap.size, 0, none⟩) [(j : Int)].length 1) := by simp [go_sem]
                have hq2 : (((W'.alloc (.cells #[.int .i64 (j : Int)] 2)).alloc (.cells #[.slice (some ⟨W'.heap.size, 0, none⟩) 1 1, .slice sa k sc] 55)).drew).cell? ⟨W'.heap.size + 1, 1, none⟩ = some (.slice sa k sc) := by simp [go_sem]
                have hH1 : Hid (∀ (jj : Nat) (u : Value), (ints [(j : Int)])[jj]? = some u → (((W'.alloc (.cells #[.int .i64 (j : Int)] 2)).alloc (.cells #[.slice (some ⟨W'.heap.size, 0, none⟩) 1 1, .slice sa k sc] 55)).drew).cell? ((⟨W'.heap.size, 0, none⟩ : Addr).add jj) = some u) := Lib.hid fun jj u h => cell_oneP W' _ _ jj u h
                have hH2 := Lib.hid (hown.below hbC)
                have CC := Lib.hid (concatP (W'.heap.size + 1) ⟨W'.heap.size, 0, none⟩ 1 [(j : Int)] z2 (.slice sa k sc) Wz.heap.size (by simp; omega) _ hq1 hq2 hH1 hH2)
                clear hq1 hq2 hH1 hH2
                go_simp
                refine ⟨trivial, ?_⟩
                refine (callsIn_wide.2 CC.out).mono ?_
                rintro e w3 ⟨v3, rfl, ho3, hb3⟩
                have hbD := bthen hbC hb3
                dsimp only
                refine hK _ _ ?_
                clear hK K
                obtain ⟨fn, tmps, assign, body, hy, hR⟩ := FIN.out _ v3 hbD (ho3.mono hbC.size)
                refine wpAnyIn_ready (rs := [6]) (by kernel_rfl) (by simp) ?_
                refine AllReadyIn.cons rfl (fun K hK => ?_) AllReadyIn.nil
                go_simp
                refine hR.mono ?_
                rintro e W4 ⟨b4, rfl, hsp, hjt, hjf⟩
                dsimp only
                refine hK _ _ ?_
                clear hK K hR hy
                refine wpAnyIn_take (i := 7) (v := ?_) rfl rfl (by kernel_rfl) (by kernel_rfl) (by kernel_rfl) (fun _ _ _ h => h) ⟨Or.inl ⟨by rfl, by intro w; go_simp; try (with_reducible rfl)⟩, fun _ => rfl⟩ ?_
                refine wpAnyIn_done (by kernel_rfl) ?_ _
                have hspw : Spare τ T W' W4 := (Spare.below hbD).trans hsp
                cases b4
                · gi_wp2
                  have q := FF.out W4 hspw _ (by first | exact hjf rfl | exact hjf trivial)
                  exact ⟨q.1, rfl, q.2.2⟩
                · gi_wp2
                  exact FT.out W4 v3 hspw (by first | exact hjt rfl | exact hjt trivial)
              exact AllReadyIn.nil
            exact AllReadyIn.nil
          exact AllReadyIn.nil
        exact AllReadyIn.nil
      refine AllReadyIn.cons rfl (fun K hK => ?_) ?_
      · have cX := XC.out _ hbA
        go_simp
        refine hK _ _ ?_
        clear hK K cX
        refine wpAnyIn_ready (rs := [0, 2]) (by kernel_rfl) (by simp) ?_
        refine AllReadyIn.cons rfl (fun K hK => ?_) ?_
        · have cY := YC.out _ hbA
          go_simp
          refine hK _ _ ?_
          clear hK K cY
          refine wpAnyIn_ready (rs := [2]) (by kernel_rfl) (by simp) ?_
          refine AllReadyIn.cons rfl (fun K hK => ?_) ?_
          · have hbB : Below W'.heap.size W' (W'.alloc (.cells #[.int .i64 (j : Int)] 2)).drew := (bnew _ _).drew
            go_simp
            refine hK _ _ ?_
            clear hK K
            refine wpAnyIn_ready (rs := [4]) (by kernel_rfl) (by simp) ?_
            refine AllReadyIn.cons rfl (fun K hK => ?_) ?_
            · have hbC : Below W'.heap.size W' ((W'.alloc (.cells #[.int .i64 (j : Int)] 2)).alloc (.cells #[.slice (some ⟨W'.heap.size, 0, none⟩) 1 1, .slice sa k sc] 55)).drew := (balloc (bnew _ _) _).drew
              go_simp
              refine hK _ _ ?_
              clear hK K
              refine wpAnyIn_ready (rs := [5]) (by kernel_rfl) (by simp) ?_
              refine AllReadyIn.cons rfl (fun K hK => ?_) ?_
              · have hq1 : (((W'.alloc (.cells #[.int .i64 (j : Int)] 2)).alloc (.cells #[.slice (some ⟨W'.heap.size, 0, none⟩) 1 1, .slice sa k sc] 55)).drew).cell? ⟨W'.heap.size + 1, 0, none⟩ = some (.slice (some ⟨W'.heap.size, 0, none⟩) [(j : Int)].length 1) := by simp [go_sem]
                have hq2 : (((W'.alloc (.cells #[.int .i64 (j : Int)] 2)).alloc (.cells #[.slice (some ⟨W'.heap.size, 0, none⟩) 1 1, .slice sa k sc] 55)).drew).cell? ⟨W'.heap.size + 1, 1, none⟩ = some (.slice sa k sc) := by simp [go_sem]
                have hH1 : Hid (∀ (jj : Nat) (u : Value), (ints [(j : Int)])[jj]? = some u → (((W'.alloc (.cells #[.int .i64 (j : Int)] 2)).alloc (.cells #[.slice (some ⟨W'.heap.size, 0, none⟩) 1 1, .slice sa k sc] 55)).drew).cell? ((⟨W'.heap.size, 0, none⟩ : Addr).add jj) = some u) := Lib.hid fun jj u h => cell_oneP W' _ _ jj u h
                have hH2 := Lib.hid (hown.below hbC)
                have CC := Lib.hid (concatP (W'.heap.size + 1) ⟨W'.heap.size, 0, none⟩ 1 [(j : Int)] z2 (.slice sa k sc) Wz.heap.size (by simp; omega) _ hq1 hq2 hH1 hH2)
                clear hq1 hq2 hH1 hH2
                go_simp
                refine ⟨trivial, ?_⟩
                refine (callsIn_wide.2 CC.out).mono ?_
                rintro e w3 ⟨v3, rfl, ho3, hb3⟩
                have hbD := bthen hbC hb3
                dsimp only
                refine hK _ _ ?_
                clear hK K
                obtain ⟨fn, tmps, assign, body, hy, hR⟩ := FIN.out _ v3 hbD (ho3.mono hbC.size)
                refine wpAnyIn_ready (rs := [6]) (by kernel_rfl) (by simp) ?_
                refine AllReadyIn.cons rfl (fun K hK => ?_) AllReadyIn.nil
                go_simp
                refine hR.mono ?_
                rintro e W4 ⟨b4, rfl, hsp, hjt, hjf⟩
                dsimp only
                refine hK _ _ ?_
                clear hK K hR hy
                refine wpAnyIn_take (i := 7) (v := ?_) rfl rfl (by kernel_rfl) (by kernel_rfl) (by kernel_rfl) (fun _ _ _ h => h) ⟨Or.inl ⟨by rfl, by intro w; go_simp; try (with_reducible rfl)⟩, fun _ => rfl⟩ ?_
                refine wpAnyIn_done (by kernel_rfl) ?_ _
                have hspw : Spare τ T W' W4 := (Spare.below hbD).trans hsp
                cases b4
                · gi_wp2
                  have q := FF.out W4 hspw _ (by first | exact hjf rfl | exact hjf trivial)
                  exact ⟨q.1, rfl, q.2.2⟩
                · gi_wp2
                  exact FT.out W4 v3 hspw (by first | exact hjt rfl | exact hjt trivial)
              exact AllReadyIn.nil
            exact AllReadyIn.nil
          exact AllReadyIn.nil
        refine AllReadyIn.cons rfl (fun K hK => ?_) ?_
        · have hbB : Below W'.heap.size W' (W'.alloc (.cells #[.int .i64 (j : Int)] 2)).drew := (bnew _ _).drew
          go_simp
          refine hK _ _ ?_
          clear hK K
          refine wpAnyIn_ready (rs := [0, 4]) (by kernel_rfl) (by simp) ?_
          refine AllReadyIn.cons rfl (fun K hK => ?_) ?_
          · have cY := YC.out _ hbB
            go_simp
            refine hK _ _ ?_
            clear hK K cY
            refine wpAnyIn_ready (rs := [4]) (by kernel_rfl) (by simp) ?_
            refine AllReadyIn.cons rfl (fun K hK => ?_) ?_
            · have hbC : Below W'.heap.size W' ((W'.alloc (.cells #[.int .i64 (j : Int)] 2)).alloc (.cells #[.slice (some ⟨W'.heap.size, 0, none⟩) 1 1, .slice sa k sc] 55)).drew := (balloc (bnew _ _) _).drew
              go_simp
              refine hK _ _ ?_
              clear hK K
              refine wpAnyIn_ready (rs := [5]) (by kernel_rfl) (by simp) ?_
              refine AllReadyIn.cons rfl (fun K hK => ?_) ?_
              · have hq1 : (((W'.alloc (.cells #[.int .i64 (j : Int)] 2)).alloc (.cells #[.slice (some ⟨W'.heap.size, 0, none⟩) 1 1, .slice sa k sc] 55)).drew).cell? ⟨W'.heap.size + 1, 0, none⟩ = some (.slice (some ⟨W'.heap.size, 0, none⟩) [(j : Int)].length 1) := by simp [go_sem]
                have hq2 : (((W'.alloc (.cells #[.int .i64 (j : Int)] 2)).alloc (.cells #[.slice (some ⟨W'.heap.size, 0, none⟩) 1 1, .slice sa k sc] 55)).drew).cell? ⟨W'.heap.size + 1, 1, none⟩ = some (.slice sa k sc) := by simp [go_sem]
                have hH1 : Hid (∀ (jj : Nat) (u : Value), (ints [(j : Int)])[jj]? = some u → (((W'.alloc (.cells #[.int .i64 (j : Int)] 2)).alloc (.cells #[.slice (some ⟨W'.heap.size, 0, none⟩) 1 1, .slice sa k sc] 55)).drew).cell? ((⟨W'.heap.size, 0, none⟩ : Addr).add jj) = some u) := Lib.hid fun jj u h => cell_oneP W' _ _ jj u h
                have hH2 := Lib.hid (hown.below hbC)
                have CC := Lib.hid (concatP (W'.heap.size + 1) ⟨W'.heap.size, 0, none⟩ 1 [(j : Int)] z2 (.slice sa k sc) Wz.heap.size (by simp; omega) _ hq1 hq2 hH1 hH2)
                clear hq1 hq2 hH1 hH2
                go_simp
                refine ⟨trivial, ?_⟩
                refine (callsIn_wide.2 CC.out).mono ?_
                rintro e w3 ⟨v3, rfl, ho3, hb3⟩
                have hbD := bthen hbC hb3
                dsimp only
                refine hK _ _ ?_
                clear hK K
                obtain ⟨fn, tmps, assign, body, hy, hR⟩ := FIN.out _ v3 hbD (ho3.mono hbC.size)
                refine wpAnyIn_ready (rs := [6]) (by kernel_rfl) (by simp) ?_
                refine AllReadyIn.cons rfl (fun K hK => ?_) AllReadyIn.nil
                go_simp
                refine hR.mono ?_
                rintro e W4 ⟨b4, rfl, hsp, hjt, hjf⟩
                dsimp only
                refine hK _ _ ?_
                clear hK K hR hy
                refine wpAnyIn_take (i := 7) (v := ?_) rfl rfl (by kernel_rfl) (by kernel_rfl) (by kernel_rfl) (fun _ _ _ h => h) ⟨Or.inl ⟨by rfl, by intro w; go_simp; try (with_reducible rfl)⟩, fun _ => rfl⟩ ?_
                refine wpAnyIn_done (by kernel_rfl) ?_ _
                have hspw : Spare τ T W' W4 := (Spare.below hbD).trans hsp
                cases b4
                · gi_wp2
                  have q := FF.out W4 hspw _ (by first | exact hjf rfl | exact hjf trivial)
                  exact ⟨q.1, rfl, q.2.2⟩
                · gi_wp2
                  exact FT.out W4 v3 hspw (by first | exact hjt rfl | exact hjt trivial)
              exact AllReadyIn.nil
            exact AllReadyIn.nil
          refine AllReadyIn.cons rfl (fun K hK => ?_) ?_
          · have hbC : Below W'.heap.size W' ((W'.alloc (.cells #[.int .i64 (j : Int)] 2)).alloc (.cells #[.slice (some ⟨W'.heap.size, 0, none⟩) 1 1, .slice sa k sc] 55)).drew := (balloc (bnew _ _) _).drew
            go_simp
            refine hK _ _ ?_
            clear hK K
            refine wpAnyIn_ready (rs := [0, 5]) (by kernel_rfl) (by simp) ?_
            refine AllReadyIn.cons rfl (fun K hK => ?_) ?_
            · have cY := YC.out _ hbC
              go_simp
              refine hK _ _ ?_
              clear hK K cY
              refine wpAnyIn_ready (rs := [5]) (by kernel_rfl) (by simp) ?_
              refine AllReadyIn.cons rfl (fun K hK => ?_) ?_
              · have hq1 : (((W'.alloc (.cells #[.int .i64 (j : Int)] 2)).alloc (.cells #[.slice (some ⟨W'.heap.size, 0, none⟩) 1 1, .slice sa k sc] 55)).drew).cell? ⟨W'.heap.size + 1, 0, none⟩ = some (.slice (some ⟨W'.heap.size, 0, none⟩) [(j : Int)].length 1) := by simp [go_sem]
                have hq2 : (((W'.alloc (.cells #[.int .i64 (j : Int)] 2)).alloc (.cells #[.slice (some ⟨W'.heap.size, 0, none⟩) 1 1, .slice sa k sc] 55)).drew).cell? ⟨W'.heap.size + 1, 1, none⟩ = some (.slice sa k sc) := by simp [go_sem]
                have hH1 : Hid (∀ (jj : Nat) (u : Value), (ints [(j : Int)])[jj]? = some u → (((W'.alloc (.cells #[.int .i64 (j : Int)] 2)).alloc (.cells #[.slice (some ⟨W'.heap.size, 0, none⟩) 1 1, .slice sa k sc] 55)).drew).cell? ((⟨W'.heap.size, 0, none⟩ : Addr).add jj) = some u) := Lib.hid fun jj u h => cell_oneP W' _ _ jj u h
                have hH2 := Lib.hid (hown.below hbC)
                have CC := Lib.hid (concatP (W'.heap.size + 1) ⟨W'.heap.size, 0, none⟩ 1 [(j : Int)] z2 (.slice sa k sc) Wz.heap.size (by simp; omega) _ hq1 hq2 hH1 hH2)
                clear hq1 hq2 hH1 hH2
                go_simp
                refine ⟨trivial, ?_⟩
                refine (callsIn_wide.2 CC.out).mono ?_
                rintro e w3 ⟨v3, rfl, ho3, hb3⟩
                have hbD := bthen hbC hb3
                dsimp only
                refine hK _ _ ?_
                clear hK K
                obtain ⟨fn, tmps, assign, body, hy, hR⟩ := FIN.out _ v3 hbD (ho3.mono hbC.size)
                refine wpAnyIn_ready (rs := [6]) (by kernel_rfl) (by simp) ?_
                refine AllReadyIn.cons rfl (fun K hK => ?_) AllReadyIn.nil
                go_simp
                refine hR.mono ?_
                rintro e W4 ⟨b4, rfl, hsp, hjt, hjf⟩
                dsimp only
                refine hK _ _ ?_
                clear hK K hR hy
                refine wpAnyIn_take (i := 7) (v := ?_) rfl rfl (by kernel_rfl) (by kernel_rfl) (by kernel_rfl) (fun _ _ _ h => h) ⟨Or.inl ⟨by rfl, by intro w; go_simp; try (with_reducible rfl)⟩, fun _ => rfl⟩ ?_
                refine wpAnyIn_done (by kernel_rfl) ?_ _
                have hspw : Spare τ T W' W4 := (Spare.below hbD).trans hsp
                cases b4
                · gi_wp2
                  have q := FF.out W4 hspw _ (by first | exact hjf rfl | exact hjf trivial)
                  exact ⟨q.1, rfl, q.2.2⟩
                · gi_wp2
                  exact FT.out W4 v3 hspw (by first | exact hjt rfl | exact hjt trivial)
              exact AllReadyIn.nil
            refine AllReadyIn.cons rfl (fun K hK => ?_) ?_
            · have hq1 : (((W'.alloc (.cells #[.int .i64 (j : Int)] 2)).alloc (.cells #[.slice (some ⟨W'.heap.size, 0, none⟩) 1 1, .slice sa k sc] 55)).drew).cell? ⟨W'.heap.size + 1, 0, none⟩ = some (.slice (some ⟨W'.heap.size, 0, none⟩) [(j : Int)].length 1) := by simp [go_sem]
              have hq2 : (((W'.alloc (.cells #[.int .i64 (j : Int)] 2)).alloc (.cells #[.slice (some ⟨W'.heap.size, 0, none⟩) 1 1, .slice sa k sc] 55)).drew).cell? ⟨W'.heap.size + 1, 1, none⟩ = some (.slice sa k sc) := by simp [go_sem]
              have hH1 : Hid (∀ (jj : Nat) (u : Value), (ints [(j : Int)])[jj]? = some u → (((W'.alloc (.cells #[.int .i64 (j : Int)] 2)).alloc (.cells #[.slice (some ⟨W'.heap.size, 0, none⟩) 1 1, .slice sa k sc] 55)).drew).cell? ((⟨W'.heap.size, 0, none⟩ : Addr).add jj) = some u) := Lib.hid fun jj u h => cell_oneP W' _ _ jj u h
              have hH2 := Lib.hid (hown.below hbC)
              have CC := Lib.hid (concatP (W'.heap.size + 1) ⟨W'.heap.size, 0, none⟩ 1 [(j : Int)] z2 (.slice sa k sc) Wz.heap.size (by simp; omega) _ hq1 hq2 hH1 hH2)
              clear hq1 hq2 hH1 hH2
              go_simp
              refine ⟨trivial, ?_⟩
              refine (callsIn_wide.2 CC.out).mono ?_
              rintro e w3 ⟨v3, rfl, ho3, hb3⟩
              have hbD := bthen hbC hb3
              dsimp only
              refine hK _ _ ?_
              clear hK K
              refine wpAnyIn_ready (rs := [0]) (by kernel_rfl) (by simp) ?_
              refine AllReadyIn.cons rfl (fun K hK => ?_) ?_
              · have cY := YC.out _ hbD
                go_simp
                refine hK _ _ ?_
                clear hK K cY
                obtain ⟨fn, tmps, assign, body, hy, hR⟩ := FIN.out _ v3 hbD (ho3.mono hbC.size)
                refine wpAnyIn_ready (rs := [6]) (by kernel_rfl) (by simp) ?_
                refine AllReadyIn.cons rfl (fun K hK => ?_) AllReadyIn.nil
                go_simp
                refine hR.mono ?_
                rintro e W4 ⟨b4, rfl, hsp, hjt, hjf⟩
                dsimp only
                refine hK _ _ ?_
                clear hK K hR hy
                refine wpAnyIn_take (i := 7) (v := ?_) rfl rfl (by kernel_rfl) (by kernel_rfl) (by kernel_rfl) (fun _ _ _ h => h) ⟨Or.inl ⟨by rfl, by intro w; go_simp; try (with_reducible rfl)⟩, fun _ => rfl⟩ ?_
                refine wpAnyIn_done (by kernel_rfl) ?_ _
                have hspw : Spare τ T W' W4 := (Spare.below hbD).trans hsp
                cases b4
                · gi_wp2
                  have q := FF.out W4 hspw _ (by first | exact hjf rfl | exact hjf trivial)
                  exact ⟨q.1, rfl, q.2.2⟩
                · gi_wp2
                  exact FT.out W4 v3 hspw (by first | exact hjt rfl | exact hjt trivial)
              exact AllReadyIn.nil
            exact AllReadyIn.nil
          exact AllReadyIn.nil
        exact AllReadyIn.nil
      exact AllReadyIn.nil
    case done =>
      clear b1 b2 b3 x0 n0 s0
      rintro D ys2 W' hD hD2 hys2 ⟨⟨ys', hys', hj'⟩, hg'⟩ hKd
      have x1 := hg'.x.cell
      have hE : ys'.map (·.2) = partsTo N k i (j + 1) := by
        rw [hys', partsTo_succ hij, ← hys2, List.map_map]
        rfl
      have HE := Lib.hid hE
      have HJ2 := Lib.hid hj'
      have HG2 := Lib.hid hg'
      have HKD := Lib.hid hKd
      clear hys' hj' hg' hKd hE hys2
      gi_wp2
      have hbz : Below W'.heap.size W' (W'.alloc (.cells #[.int .i64 ((j : Int) + 1)] 2)) := bnew _ _
      have hbx : Boxed (W'.alloc (.cells #[.int .i64 ((j : Int) + 1)] 2)) W'.heap.size 2 (.int .i64 ((j + 1 : Nat) : Int)) := Boxed.new W' 2 (.int .i64 ((j : Int) + 1))
      have hg2 := HG2.out.below hbz
      have hne : ∀ E, E ∈ Ds → D ≠ E := fun E hE e => by have := hDW E hE; omega
      have hW1 : W.heap.size + 2 ≤ W'.heap.size := by omega
      refine ⟨⟨j + 1, W'.heap.size, D :: Ds, ys', _, _, _, _, _, _, _, _, _, _, _, _, _, _, _, _, _, _, _, _, _, _, rfl, ⟨by omega, by omega⟩, Lib.hid ⟨HE.out, ownFrom_later (K := W.heap.size) hJ HJ2.out hbz, ⟨hbx, hg2.y, hg2.s, hg2.n, fun E hE => ?_⟩, by omega, List.pairwise_cons.2 ⟨hne, HPW.out⟩, fun E hE => ?_, ?_⟩⟩, ?_⟩
      · rcases List.mem_cons.1 hE with rfl | hE
        · exact (hbz.block _ hD2).trans HKD.out
        · exact hg2.marks E hE
      · rcases List.mem_cons.1 hE with rfl | hE
        · omega
        · exact HDL.out E hE
      · have := hbz.size
        omega
      · have c1 := hbx.cell
        have c2 := HG.out.x.cell
        simp only [boxN, Array.getD, List.size_toArray, List.length_cons, List.length_nil]
        simp [c1, c2, intOf]
        omega
    case stop =>
      clear b1 b2 b3 x0 n0 s0
      rintro D c p W' hD hD2 _ ⟨rfl, ⟨p2, hjx⟩, hdm⟩ hKd
      gi_wp2
      have hne : ∀ E, E ∈ Ds → D ≠ E := fun E hE e => by have := hDW E hE; omega
      refine leaves_marksJ (lo := W.heap.size) (fun W' => Jx p2 W') (fun _ A B row h hg hr => hJx p2 A B row h hg hr) (D :: Ds) _ (List.pairwise_cons.2 ⟨hne, HPW.out⟩) (fun E hE => ?_) hjx (fun W2 h => ⟨_, results_none rfl _ _ _, ⟨_, rfl⟩, .inr ⟨_, trivial, h⟩⟩)
      rcases List.mem_cons.1 hE with rfl | hE
      · exact ⟨by omega, hKd⟩
      · exact ⟨HDL.out E hE, hdm E hE⟩
  · obtain rfl : j = N := by omega
    obtain ⟨hys, hjw, hg, hlo, hpw, hdl, hsz⟩ := HP.out
    have x0 := hg.x.cell
    have n0 := hg.n.cell
    have d1 : decide ((j : Int) < (j : Int)) = false := by simp
    have HYS := Lib.hid hys
    have HJW := Lib.hid hjw
    have HG := Lib.hid hg
    clear hys hjw hg
    gi_wp2
    refine leaves_marksJ (lo := W.heap.size) (fun W' => J ys W') (fun _ A B row h hg hr => hJ ys A B row h hg hr) Ds _ hpw (fun E hE => ⟨hdl E hE, HG.out.marks E hE⟩) HJW.out (fun W2 h => ⟨_, results_none rfl _ _ _, ⟨_, rfl⟩, .inl ⟨_, by rw [HYS.out]; exact partsTo_last (.inl rfl), h⟩⟩)

theorem partsFrom_seq {τ : TypeId} {N : Nat} (hτ1 : τ ≠ 2) (hτ2 : τ ≠ 152) (hN8 : N ≤ 8) : ∀ (k : Nat), k ≤ 8 → ∀ (n i Bs Bf Bl : Nat) (T : Nat → Prop) (w : World), i ≤ N → T Bs → T Bl → Boxed w Bs 2 (.int .i64 k) → Boxed w Bf 2 (.int .i64 i) → Boxed w Bl 2 (.int .i64 N) →
      SeqO Fence.wide n Try.prog 233 #[.pointer (some ⟨Bs, 0, none⟩), .pointer (some ⟨Bf, 0, none⟩), .pointer (some ⟨Bl, 0, none⟩)] encP (fun ys => ys.map (·.2) = partsN N k i) (fun _ => True) (partsN N k i).length τ T (VisP (partsN N k i)) w
  | 0, _, n, i, Bs, Bf, Bl, T, w, hi, h1, h2, b1, b2, b3 => fun l J Jx W hW hTK hJ hJx hY hj =>
    callsIn_wide.2 (callsIn_wide.1 (parts0_in (τ := τ) (T := T) l Bs Bf Bl 1 J Jx W hJ (by decide) ((hW.block _ b1.lt).trans b1) (fun pre x W0 W1 h1 h2 h3 h4 h5 => YieldAt.anyDV 1 (hY pre x W0 W1 h1 h2 h3 h4 h5)) hj))
  | k + 1, hk, n, i, Bs, Bf, Bl, T, w, hi, h1, h2, b1, b2, b3 => fun l J Jx W hW hTK hJ hJx hY hj =>
    callsIn_wide.2 (callsIn_wide.1 (parts1_in (τ := τ) (T := T) (N := N) (k := k) hτ1 hτ2 hN8 hk (fun i Bs Bf Bl T w a1 a2 a3 a4 a5 a6 => partsFrom_seq hτ1 hτ2 hN8 k (by omega) 2 i Bs Bf Bl T w a1 a2 a3 a4 a5 a6) l i Bs Bf Bl hi J Jx W h1 h2 hTK hJ hJx ((hW.block _ b1.lt).trans b1) ((hW.block _ b2.lt).trans b2) ((hW.block _ b3.lt).trans b3) (fun pre x W0 W1 h1 h2 h3 h4 h5 => YieldAt.anyDV 1 (hY pre x W0 W1 h1 h2 h3 h4 h5)) hj))
end Go.Proofs.Ytdgpjpcdifpllaa

/- BL10:
  partsOf of the program: all parts, those with fewer places first. -/
namespace Go.Proofs.Ytdgpjpcdifpllaa
open Go.RowKit Go.Shelf
attribute [local go_sem] Oper.semAt_some
set_option linter.unusedVariables false
set_option linter.unusedSimpArgs false

/-- The parts with fewer than s places. -/
def partsAll (N s : Nat) : List (List Int) := (List.range s).flatMap fun t => partsN N t 0
theorem partsAll_succ (N s : Nat) : partsAll N (s + 1) = partsAll N s ++ partsN N s 0 := by simp [partsAll, List.range_succ]
theorem partsAll_lt {N s m : Nat} (h : s < m) : (partsAll N s).length + (partsN N s 0).length ≤ (partsAll N m).length := by
  induction m with
  | zero => omega
  | succ m ih =>
    rw [partsAll_succ, List.length_append]
    by_cases hs : s < m
    · have := ih hs; omega
    · obtain rfl : s = m := by omega
      exact Nat.le_refl _
theorem partsAll_mem {N s m : Nat} (h : s < m) {r : List Int} (hr : r ∈ partsN N s 0) : r ∈ partsAll N m := List.mem_flatMap.2 ⟨s, by simpa using h, hr⟩

theorem partsOf_any (N : Int) (w : World) :
    Calls Try.prog 132 #[.int .i64 N] w fun e w' => e = .returned (.func (.func 178) #[] #[.pointer (some ⟨w.heap.size, 0, none⟩)]) ∧ w' = w.alloc (.cells #[.int .i64 N] 2) := by
  go_enter Try.func132, Try.ntmps132
  go_wp2
  go_ret
  exact ⟨rfl, rfl⟩

structure QG (l Bn BY N : Nat) (Ds : List Nat) (wr : World) : Prop where
  y : Boxed wr BY 152 (.func (.yield l) #[] #[])
  n : Boxed wr Bn 2 (.int .i64 N)
  marks : ∀ D ∈ Ds, wr.heap[D]? = some (.deferred (some []))
structure QF (l Bn BY N s : Nat) (J : List PartV → World → Prop) (ys : List PartV) (Ds : List Nat) (w0 wr : World) : Prop where
  el : ys.map (·.2) = partsAll N s
  jw : J ys wr
  g : QG l Bn BY N Ds wr
  pw : Ds.Pairwise (· ≠ ·)
  dlo : ∀ D ∈ Ds, w0.heap.size ≤ D
  size : w0.heap.size + 1 ≤ wr.heap.size
theorem QG.below {l Bn BY N : Nat} {Ds : List Nat} {W W' : World} (h : QG l Bn BY N Ds W) (hb : Below W.heap.size W W') : QG l Bn BY N Ds W' :=
  ⟨(hb.block _ h.y.lt).trans h.y, (hb.block _ h.n.lt).trans h.n, fun D hD => (hb.block D (Array.getElem?_eq_some_iff.1 (h.marks D hD)).1).trans (h.marks D hD)⟩
theorem QG.own {β : Type} {l Bn BY N K : Nat} {Ds : List Nat} (hD : ∀ D ∈ Ds, D < K) : OwnFrom K (fun (_ : β) W => QG l Bn BY N Ds W) := fun _ W W' row h hg hr =>
  ⟨boxed_cells h.y hg fun r e => (hr r e).2, boxed_cells h.n hg fun r e => (hr r e).2,
    fun D h1 => (hg.block D (Array.getElem?_eq_some_iff.1 (h.marks D h1)).1 (fun e => by have := (hr D e.symm).1; have := hD D h1; omega)).trans (h.marks D h1)⟩
theorem QG.spare {τ : TypeId} {T : Nat → Prop} {l Bn BY N : Nat} {Ds : List Nat} {W W' : World} (h : QG l Bn BY N Ds W) (hs : Spare τ T W W') (h1 : τ ≠ 2) (h2 : τ ≠ 152) (ty : T BY) (tn : T Bn) (td : ∀ D ∈ Ds, T D) : QG l Bn BY N Ds W' :=
  ⟨hs.same _ _ ty h.y (fun cs z e => by cases e; exact h2 rfl), hs.same _ _ tn h.n (fun cs z e => by cases e; exact h1 rfl), fun D hD => hs.same _ _ (td D hD) (h.marks D hD) (fun cs z e => by cases e)⟩

set_option maxRecDepth 100000 in
set_option maxHeartbeats 8000000 in
theorem parts2_in {τ : TypeId} {T : Nat → Prop} {N : Nat} (hτ1 : τ ≠ 2) (hτ2 : τ ≠ 152) (hN8 : N ≤ 8)
    (l Bn : Nat) (J Jx : List PartV → World → Prop) (W : World) (hTn : T Bn) (hTK : ∀ k, W.heap.size ≤ k → T k) (hJ : OwnFrom W.heap.size J) (hJx : OwnFrom W.heap.size Jx)
    (bn : Boxed W Bn 2 (.int .i64 N))
    (hY : ∀ pre x W0 W1, J pre W0 → J pre W1 → W0.heap.size ≤ W1.heap.size → pre.length < (partsAll N (N + 1)).length → VisP (partsAll N (N + 1)) W0.heap.size x W1 → YieldAt Fence.wide 1 Try.prog l (encP x) W1 fun e W' => Spare τ T W1 W' ∧ ((e = .returned (.bool true) ∧ J (pre ++ [x]) W') ∨ (e = .returned (.bool false) ∧ Jx (pre ++ [x]) W')))
    (hj : J [] W) :
    CallsIn Fence.wide 3 Try.prog 178 #[.func (.yield l) #[] #[], .pointer (some ⟨Bn, 0, none⟩)] W fun e W' => (∃ v, e = .returned v) ∧ ((∃ ys, ys.map (·.2) = partsAll N (N + 1) ∧ J ys W') ∨ (∃ pre, True ∧ Jx pre W')) := by
  obtain ⟨V, hV⟩ : ∃ V, W.alloc (.cells #[.func (.yield l) #[] #[]] 152) = V := ⟨_, rfl⟩
  have lN := bn.lt
  have hb : Below W.heap.size W V := by rw [← hV]; exact bnew _ _
  have wN : IntKind.i64.wrap ((N : Int) + 1) = (N : Int) + 1 := wrap64_small (by omega) (by omega)
  have P0 : Hid (QF l Bn W.heap.size N 0 J [] [] W V) := Lib.hid (by
    refine ⟨by simp [partsAll], ownFrom_later hJ hj hb, ⟨?_, (hb.block _ lN).trans bn, fun D h => by simp at h⟩, List.Pairwise.nil, fun D h => by simp at h, by rw [← hV]; simp⟩
    rw [← hV]
    exact Boxed.new _ _ _)
  refine callsIn_of_wp_marks Try.func178 rfl trivial ?_ rfl
  simp only [Try.ntmps178, List.size_toArray, List.length_cons, List.length_nil, Nat.reduceAdd, Nat.reduceSub, Array.replicate_succ, Array.replicate_zero, List.push_toArray, List.append_toArray, List.nil_append, List.cons_append]
  have cn1 := kc hb bn.cell
  gi_wp2_with fail
  try rw [hV]
  clear hV cn1 bn hb hj
  refine wpIn_loop (fun a' wr => ∃ (s : Nat) (Ds : List Nat) (ys : List PartV) (u3 u4 u8 u9 u10 u11 u12 u13 u14 u15 u16 u17 u18 : Value), a' = { tmps := #[.func (.yield l) #[] #[], .pointer (some ⟨Bn, 0, none⟩), .pointer (some ⟨W.heap.size, 0, none⟩), u3, u4, .int .i64 N, .int .i64 ((N : Int) + 1), .int .i64 s, u8, u9, u10, u11, u12, u13, u14, u15, u16, u17, u18], defers := Ds.map mkD } ∧ s ≤ N + 1 ∧ Hid (QF l Bn W.heap.size N s J ys Ds W wr)) (fun a' w' => N + 1 - (intOf (a'.tmps.getD 7 undef)).toNat) ⟨0, [], [], _, _, _, _, _, _, _, _, _, _, _, _, _, rfl, by omega, P0⟩ ?_
  rintro _ wr ⟨s, Ds, ys, u3, u4, u8, u9, u10, u11, u12, u13, u14, u15, u16, u17, u18, rfl, hs, HP⟩
  clear P0
  by_cases hsN : s < N + 1
  · obtain ⟨hys, hjw, hg, hpw, hdl, hsz⟩ := HP.out
    have n0 := hg.n.cell
    have hl1 : ys.length = (partsAll N s).length := by rw [← hys, List.length_map]
    have hl2 := partsAll_lt (N := N) hsN
    have HYS := Lib.hid hys
    have HJW := Lib.hid hjw
    have HG := Lib.hid hg
    have HPW := Lib.hid hpw
    have HDL := Lib.hid hdl
    have d1 : decide ((s : Int) < (N : Int) + 1) = true := by simp; omega
    clear hys hjw hg hpw hdl
    gi_wp2_with (refine ⟨trivial, ?_⟩; gi_at_call 179; refine (callsIn_wide.2 (partsFrom_any _ _ _ _)).mono ?_; rintro e w' ⟨rfl, rfl⟩)
    obtain ⟨W1, hW1⟩ : ∃ W1, ((wr.alloc (.cells #[.int .i64 0] 2)).alloc (.cells #[.int .i64 (N : Int)] 2)).alloc (.cells #[.int .i64 (s : Int)] 2) = W1 := ⟨_, rfl⟩
    have s1 : W1.heap.size = wr.heap.size + 3 := by rw [← hW1]; simp
    have hB1 : Below wr.heap.size wr W1 := by rw [← hW1]; exact balloc (balloc (bnew _ _) _) _
    have b1 : Boxed W1 wr.heap.size 2 (.int .i64 ((0 : Nat) : Int)) := by rw [← hW1]; exact ((Boxed.new _ _ _).alloc _).alloc _
    have b2 : Boxed W1 (wr.heap.size + 1) 2 (.int .i64 (N : Int)) := by
      rw [← hW1]
      have := (Boxed.new (wr.alloc (.cells #[.int .i64 0] 2)) 2 (.int .i64 (N : Int))).alloc (.cells #[.int .i64 (s : Int)] 2)
      simpa using this
    have b3 : Boxed W1 (wr.heap.size + 1 + 1) 2 (.int .i64 (s : Int)) := by
      rw [← hW1]
      have := Boxed.new ((wr.alloc (.cells #[.int .i64 0] 2)).alloc (.cells #[.int .i64 (N : Int)] 2)) 2 (.int .i64 (s : Int))
      simpa using this
    try rw [hW1]
    clear hW1
    have hDW : ∀ D ∈ Ds, D < wr.heap.size := fun D hD => (Array.getElem?_eq_some_iff.1 (HG.out.marks D hD)).1
    refine wpIn_rangeFunc_O (α := PartV) (Vis := VisP (partsN N s 0)) (τ := τ) rfl (by omega) (T := fun q => q = wr.heap.size + 1 + 1 ∨ q = wr.heap.size ∨ q = wr.heap.size + 1 ∨ W1.heap.size + 2 ≤ q) (gf := 233) (lb := #[.pointer (some ⟨wr.heap.size + 1 + 1, 0, none⟩), .pointer (some ⟨wr.heap.size, 0, none⟩), .pointer (some ⟨wr.heap.size + 1, 0, none⟩)]) rfl trivial (enters_of Try.func233 (by kernel_rfl) rfl) (by omega) (fun q hq => .inr (.inr (.inr hq)))
      (partsFrom_seq hτ1 hτ2 hN8 s (by omega) (3 - 1) 0 (wr.heap.size + 1 + 1) wr.heap.size (wr.heap.size + 1) _ W1 (Nat.zero_le _) (.inl rfl) (.inr (.inr (.inl rfl))) b3 b1 b2)
      (fun K x => visP_own _ _ K x) (Below.refl _ _) (fun _ => rfl)
      (fun pre W' => J (ys ++ pre) W' ∧ QG l Bn W.heap.size N Ds W')
      (fun c pre W' => c = .ret ∧ ((∃ p, Jx p W') ∧ ∀ D ∈ Ds, W'.heap[D]? = some (.deferred (some []))))
      (OwnFrom.and (by intro s A B row h hg hr; exact ownFrom_up hJ (by omega) _ A B row h hg hr) (QG.own fun D hD => by have := hDW D hD; omega))
      (fun c s A B row ⟨e, ⟨p, h⟩, hd⟩ hg hr => ⟨e, ⟨p, ownFrom_up hJx (by omega) p A B row h hg hr⟩, fun D hD => (hg.block D (Array.getElem?_eq_some_iff.1 (hd D hD)).1 (fun e => by have h1 := (hr D e.symm).1; have h2 := hDW D hD; omega)).trans (hd D hD)⟩)
      ⟨by rw [List.append_nil]; exact ownFrom_later (K := W.heap.size) hJ HJW.out hB1, HG.out.below hB1⟩
      (fun z => { tmps := #[.func (.yield l) #[] #[], .pointer (some ⟨Bn, 0, none⟩), .pointer (some ⟨W.heap.size, 0, none⟩), .int .i64 s, z.1, .int .i64 N, .int .i64 ((N : Int) + 1), .int .i64 s, .bool true, .int .i64 s, .int .i64 N, .int .i64 s, .func (.func 233) #[] #[.pointer (some ⟨wr.heap.size + 1 + 1, 0, none⟩), .pointer (some ⟨wr.heap.size, 0, none⟩), .pointer (some ⟨wr.heap.size + 1, 0, none⟩)], z.1, u14, u15, u16, u17, u18], defers := [] }) ?assign ?body ?done ?stop
    case assign =>
      intro l' z W' K hK
      unfold encP
      gi_wp2
      exact hK
    case body =>
      clear b1 b2 b3 n0
      rintro l' pre z Wz W' ⟨hjz, _⟩ ⟨hj', hg'⟩ hsz0 hsz' hlen ⟨hown, hzl⟩
      obtain ⟨fn, tmps, assign, body, hy, hR⟩ := YieldAt.anyDV 0 <| hY (ys ++ pre) z Wz W' hjz hj' hsz' (by rw [List.length_append]; omega) ⟨hown, partsAll_mem hsN hzl⟩
      have y1 := hg'.y.cell
      unfold encP at hy
      have hTT : ∀ q, (q = wr.heap.size + 1 + 1 ∨ q = wr.heap.size ∨ q = wr.heap.size + 1 ∨ W1.heap.size + 2 ≤ q) → T q := fun q hq => hTK q (by rcases hq with h | h | h | h <;> omega)
      have KF := Lib.hid (fun W4 (h : Spare τ T W' W4) => (show KeepsFrom W1.heap.size W' W4 from ⟨h.size, fun q o hq ho hc => h.same q o (hTK q (by omega)) ho (fun cs z e => by subst e; cases hc)⟩))
      have KS := Lib.hid (fun W4 (h : Spare τ T W' W4) => h.mono hTT)
      have KG := Lib.hid (fun W4 (h : Spare τ T W' W4) => hg'.spare h hτ1 hτ2 (hTK _ (Nat.le_refl _)) hTn (fun D hD => hTK D (HDL.out D hD)))
      clear hj' hjz hg' hTT s1
      gi_wp2
      refine hR.mono ?_
      rintro e W4 ⟨hsp, ⟨rfl, h4⟩ | ⟨rfl, h4⟩⟩
      · gi_wp2
        refine ⟨⟨KF.out W4 hsp, KS.out W4 hsp⟩, ?_, KG.out W4 hsp⟩
        rw [← List.append_assoc]
        exact h4
      · gi_wp2
        exact ⟨⟨KF.out W4 hsp, KS.out W4 hsp⟩, rfl, ⟨_, h4⟩, (KG.out W4 hsp).marks⟩
    case done =>
      clear b1 b2 b3 n0
      rintro D ys2 W' hD hD2 hys2 ⟨hj', hg'⟩ hKd
      have hE : (ys ++ ys2).map (·.2) = partsAll N (s + 1) := by rw [List.map_append, HYS.out, hys2, partsAll_succ]
      have HE := Lib.hid hE
      have HJ2 := Lib.hid hj'
      have HG2 := Lib.hid hg'
      have HKD := Lib.hid hKd
      clear hj' hg' hKd hE hys2
      gi_wp2
      have hne : ∀ E, E ∈ Ds → D ≠ E := fun E hE e => by have := hDW E hE; omega
      refine ⟨⟨s + 1, D :: Ds, ys ++ ys2, _, _, _, _, _, _, _, _, _, _, _, _, _, rfl, by omega, Lib.hid ⟨HE.out, HJ2.out, ⟨HG2.out.y, HG2.out.n, fun E hE => ?_⟩, List.pairwise_cons.2 ⟨hne, HPW.out⟩, fun E hE => ?_, by omega⟩⟩, ?_⟩
      · rcases List.mem_cons.1 hE with rfl | hE
        · exact HKD.out
        · exact HG2.out.marks E hE
      · rcases List.mem_cons.1 hE with rfl | hE
        · omega
        · exact HDL.out E hE
      · simp [intOf]
        omega
    case stop =>
      clear b1 b2 b3 n0
      rintro D c p W' hD hD2 _ ⟨rfl, ⟨p2, hjx⟩, hdm⟩ hKd
      gi_wp2
      have hne : ∀ E, E ∈ Ds → D ≠ E := fun E hE e => by have := hDW E hE; omega
      refine leaves_marksJ (lo := W.heap.size) (fun W' => Jx p2 W') (fun _ A B row h hg hr => hJx p2 A B row h hg hr) (D :: Ds) _ (List.pairwise_cons.2 ⟨hne, HPW.out⟩) (fun E hE => ?_) hjx (fun W2 h => ⟨_, results_none rfl _ _ _, ⟨_, rfl⟩, .inr ⟨_, trivial, h⟩⟩)
      rcases List.mem_cons.1 hE with rfl | hE
      · exact ⟨by omega, hKd⟩
      · exact ⟨HDL.out E hE, hdm E hE⟩
  · obtain rfl : s = N + 1 := by omega
    obtain ⟨hys, hjw, hg, hpw, hdl, hsz⟩ := HP.out
    have HYS := Lib.hid hys
    have HJW := Lib.hid hjw
    have HG := Lib.hid hg
    clear hys hjw hg
    gi_wp2
    refine leaves_marksJ (lo := W.heap.size) (fun W' => J ys W') (fun _ A B row h hg hr => hJ ys A B row h hg hr) Ds _ hpw (fun E hE => ⟨hdl E hE, HG.out.marks E hE⟩) HJW.out (fun W2 h => ⟨_, results_none rfl _ _ _, ⟨_, rfl⟩, .inl ⟨_, HYS.out, h⟩⟩)

theorem partsOf_seq {τ : TypeId} {N : Nat} (hτ1 : τ ≠ 2) (hτ2 : τ ≠ 152) (hN8 : N ≤ 8) (n Bn : Nat) (T : Nat → Prop) (w : World) (h1 : T Bn) (b1 : Boxed w Bn 2 (.int .i64 N)) :
    SeqO Fence.wide n Try.prog 178 #[.pointer (some ⟨Bn, 0, none⟩)] encP (fun ys => ys.map (·.2) = partsAll N (N + 1)) (fun _ => True) (partsAll N (N + 1)).length τ T (VisP (partsAll N (N + 1))) w := fun l J Jx W hW hTK hJ hJx hY hj =>
  callsIn_wide.2 (callsIn_wide.1 (parts2_in (τ := τ) (T := T) (N := N) hτ1 hτ2 hN8 l Bn J Jx W h1 hTK hJ hJx ((hW.block _ b1.lt).trans b1) (fun pre x W0 W1 h1 h2 h3 h4 h5 => YieldAt.anyDV 1 (hY pre x W0 W1 h1 h2 h3 h4 h5)) hj))
end Go.Proofs.Ytdgpjpcdifpllaa

/- Q8:
  slices.Grow of a nil list of functions. -/
namespace Go.Proofs.Ytdgpjpcdifpllaa
open Go.RowKit
set_option linter.unusedVariables false
set_option linter.unusedSimpArgs false

set_option maxRecDepth 100000 in
set_option maxHeartbeats 2000000 in
theorem growF_zero (w : World) :
    Calls Try.prog 263 #[.slice none 0 0, .int .i64 0] w fun e w' => e = .returned (.slice none 0 0) ∧ w = w' := by
  go_enter Try.func263, Try.ntmps263
  go_wp2
  go_ret
  exact ⟨rfl, rfl⟩

set_option maxRecDepth 100000 in
set_option maxHeartbeats 2000000 in
theorem growF_some (n : Nat) (h0 : 0 < n) (h8 : n ≤ 8) (w : World) :
    Calls Try.prog 263 #[.slice none 0 0, .int .i64 (n : Int)] w fun e w' => ∃ cap, e = .returned (.slice (some ⟨w.heap.size, 0, none⟩) 0 cap) ∧ w'.ownsRow w.heap.size 23 2 (.slice (some ⟨w.heap.size, 0, none⟩) 0 cap) 0 [] ∧ Below w.heap.size w w' := by
  obtain ⟨i0, hi, hz0, hz1, hz2⟩ := info_parts infoF
  have hrz : ∀ ty, _ := fun ty => Lib.run_append_nil_zeros w 24 3 ty 23 i0 (.agg #[.int .i64 0, .int .i64 0]) .i64 .i64 Try.underlying24 Try.underlying3 hi hz0 n h0 (by omega) (by omega) (by rw [hz2]; omega)
  have hge := grownCap_ge w n 0 23
  have hle := grownCap_le_maxLen w n 0 23 (by unfold maxLen; omega)
  generalize grownCap w n 0 23 = G at hrz hge hle
  have hn0 : (0 : Int) < (n : Int) := by omega
  have hG63 : G ≤ 9223372036854775807 := by unfold maxLen at hle; omega
  have HL := Lib.hid hle
  clear hle
  go_enter Try.func263, Try.ntmps263
  go_wp2_with (at_builtin; refine Lib.wpList_append_run _ rfl _ _ _ _ rfl _ _ rfl rfl _ _ (hrz _) ?_)
  go_ret
  refine ⟨_, rfl, ⟨rfl, .inr ⟨w.heap.size, G, _, rfl, Nat.le_refl _, heap_alloc_new _ _, Nat.zero_le _, HL.out, ?_, by simp⟩⟩, ?_⟩
  · rw [Array.size_append, size_zeroCells, size_zeroCells]
    show n * 2 + (G - n) * 2 = G * 2
    omega
  · exact (Below.refl _ _).drew.alloc (Nat.le_refl _) _
end Go.Proofs.Ytdgpjpcdifpllaa

/- Q9:
  slices.Concat of two lists of functions. -/
namespace Go.Proofs.Ytdgpjpcdifpllaa
open Go.RowKit
set_option linter.unusedVariables false
set_option linter.unusedSimpArgs false

theorem growF_any (n : Nat) (h8 : n ≤ 8) (w : World) :
    Calls Try.prog 263 #[.slice none 0 0, .int .i64 (n : Int)] w fun e w' => ∃ v, e = .returned v ∧ w'.ownsRow w.heap.size 23 2 v 0 [] ∧ Below w.heap.size w w' := by
  by_cases h0 : n = 0
  · subst h0
    refine (growF_zero w).mono ?_
    rintro e w' ⟨rfl, rfl⟩
    exact ⟨_, rfl, World.ownsRow_nil _ _ _ _, Below.refl _ _⟩
  · refine (growF_some n (by omega) h8 w).mono ?_
    rintro e w' ⟨cap, rfl, h1, h2⟩
    exact ⟨_, rfl, h1, h2⟩

theorem fcells_one (ys : List (Int × Int)) : ∀ u ∈ fcells ys, u.oneCell' = true := by
  induction ys with
  | nil => intro u hu; cases hu
  | cons p l ih =>
    intro u hu
    rcases List.mem_cons.1 hu with rfl | hu
    · rfl
    · rcases List.mem_cons.1 hu with rfl | hu
      · rfl
      · exact ih u hu

set_option maxRecDepth 100000 in
set_option maxHeartbeats 4000000 in
theorem concatF_any (q : Nat) (ad1 ad2 : Addr) (c1 c2 : Nat) (ys1 ys2 : List (Int × Int)) (h8 : ys1.length + ys2.length ≤ 8) (w : World)
    (hq1 : w.cell? ⟨q, 0, none⟩ = some (.slice (some ad1) ys1.length c1)) (hq2 : w.cell? ⟨q, 1, none⟩ = some (.slice (some ad2) ys2.length c2))
    (H1 : Hid (∀ (j : Nat) (u : Value), (fcells ys1)[j]? = some u → w.cell? (ad1.add j) = some u)) (H2 : Hid (∀ (j : Nat) (u : Value), (fcells ys2)[j]? = some u → w.cell? (ad2.add j) = some u)) :
    Calls Try.prog 235 #[.slice (some ⟨q, 0, none⟩) 2 2] w fun e w' => ∃ v, e = .returned v ∧ OwnsF w' w.heap.size v (ys1 ++ ys2) ∧ Below w.heap.size w w' := by
  obtain ⟨i0, hi, hz0, hz1, hz2⟩ := info_parts infoF
  have L1 := Lib.hid (fcells_length ys1)
  have L2 := Lib.hid (fcells_length ys2)
  have O1 := Lib.hid (fcells_one ys1)
  have O2 := Lib.hid (fcells_one ys2)
  obtain ⟨m1, hm1⟩ : ∃ m, ys1.length = m := ⟨_, rfl⟩
  obtain ⟨m2, hm2⟩ : ∃ m, ys2.length = m := ⟨_, rfl⟩
  rw [hm1] at L1 hq1 h8
  rw [hm2] at L2 hq2 h8
  have HM1 := Lib.hid hm1
  have HM2 := Lib.hid hm2
  clear hm1 hm2
  have GR := Lib.hid fun W => (by have := growF_any (m1 + m2) h8 W; rwa [Int.natCast_add] at this : Calls Try.prog 263 #[.slice none 0 0, .int .i64 ((m1 : Int) + (m2 : Int))] W fun e w' => ∃ v, e = .returned v ∧ w'.ownsRow W.heap.size 23 2 v 0 [] ∧ Below W.heap.size W w')
  have hd1 : decide ((m1 : Int) < 0) = false := by simp
  have hd2 : decide ((m1 : Int) + (m2 : Int) < 0) = false := by simp; omega
  go_enter Try.func235, Try.ntmps235
  go_wp2_with fail
  refine wp_loop_rounds 3 ?_
  rw [rounds_succ]
  go_wp2_with fail
  rw [rounds_succ]
  go_wp2_with fail
  rw [rounds_succ]
  go_wp2_with fail
  refine (GR.out _).mono ?_
  rintro e w2 ⟨v, rfl, hown, hb⟩
  have q1 := kc hb hq1
  have q2 := kc hb hq2
  have hsz2 := hb.size
  have hc1 : ∀ (j : Nat) (u : Value), (fcells ys1)[j]? = some u → w2.cell? (ad1.add j) = some u := fun j u h => kc hb (H1.out j u h)
  have hc2 : ∀ (j : Nat) (u : Value), (fcells ys2)[j]? = some u → w2.cell? (ad2.add j) = some u := fun j u h => kc hb (H2.out j u h)
  have ad1v := Lib.hid hc1
  have ad2v := Lib.hid hc2
  clear hc1 hc2
  go_wp2_with fail
  refine wp_loop_rounds 3 ?_
  rw [rounds_succ]
  go_wp2_with (at_builtin; refine wpList_append_own _ rfl _ _ 24 rfl w.heap.size 23 i0 (.agg #[.int .i64 0, .int .i64 0]) 2 16 Try.underlying24 hi hz0 hz1 hz2 rfl (by decide) _ _ _ rfl hown ad1 m1 c1 (fcells ys1) rfl L1.out ad1v.out O1.out (by unfold maxLen; omega) (by omega) hsz2 ?_)
  intro v1 w3 hown1 hgrow1 _
  have hB3 : Below w.heap.size w w3 := hb.grown hgrow1 hsz2 (fun j e => (hown.lt j e).1)
  have r1 := kc hB3 hq1
  have r2 := kc hB3 hq2
  have hsz3 := hB3.size
  have hc3 := Lib.hid (fun (j : Nat) (u : Value) (h : (fcells ys2)[j]? = some u) => kc hB3 (H2.out j u h))
  clear hown hgrow1 q1 q2 hb ad1v ad2v
  go_wp2_with fail
  rw [rounds_succ]
  go_wp2_with (at_builtin; refine wpList_append_own _ rfl _ _ 24 rfl w.heap.size 23 i0 (.agg #[.int .i64 0, .int .i64 0]) 2 16 Try.underlying24 hi hz0 hz1 hz2 rfl (by decide) _ _ _ rfl hown1 ad2 m2 c2 (fcells ys2) rfl L2.out hc3.out O2.out (by unfold maxLen; omega) (by omega) hsz3 ?_)
  intro v2 w4 hown2 hgrow2 _
  have hB4 : Below w.heap.size w w4 := hB3.grown hgrow2 hsz3 (fun j e => (hown1.lt j e).1)
  have HO := Lib.hid hown2
  clear hown1 hgrow2 r1 r2 hown2
  go_wp2_with fail
  rw [rounds_succ]
  go_wp2
  go_ret
  refine ⟨_, rfl, ?_, hB4⟩
  unfold OwnsF
  rw [fcells_append, List.length_append, HM1.out, HM2.out]
  exact HO.out
end Go.Proofs.Ytdgpjpcdifpllaa

/- Q10:
  A list without one place. -/
namespace Go.Proofs.Ytdgpjpcdifpllaa
open Go.RowKit
set_option linter.unusedVariables false
set_option linter.unusedSimpArgs false

theorem fcells_take (xs : List (Int × Int)) (i j : Nat) (u : Value) (h : (fcells (xs.take i))[j]? = some u) : (fcells xs)[j]? = some u := by
  have e : fcells xs = fcells (xs.take i) ++ fcells (xs.drop i) := by rw [← fcells_append, List.take_append_drop]
  rw [e, List.getElem?_append_left (List.getElem?_eq_some_iff.1 h).1]
  exact h
theorem fcells_drop (xs : List (Int × Int)) (i j : Nat) (hi : i ≤ xs.length) (u : Value) (h : (fcells (xs.drop i))[j]? = some u) : (fcells xs)[i * 2 + j]? = some u := by
  have e : fcells xs = fcells (xs.take i) ++ fcells (xs.drop i) := by rw [← fcells_append, List.take_append_drop]
  have hl : (fcells (xs.take i)).length = i * 2 := by rw [fcells_length, List.length_take, Nat.min_eq_left hi]
  rw [e, List.getElem?_append_right (by omega), hl, Nat.add_sub_cancel_left]
  exact h

set_option maxRecDepth 100000 in
set_option maxHeartbeats 4000000 in
theorem withoutPlace_mid (g L cap i : Nat) (ys1 ys2 : List (Int × Int)) (h8 : L ≤ 8) (hi : i < L) (hle : L ≤ cap) (hmax : cap ≤ 9223372036854775807) (hne : ¬ cap = i + 1) (ht : Hid (ys1.length = i)) (hdr : Hid (ys2.length = L - (i + 1))) (w : World)
    (H1 : Hid (∀ (j : Nat) (u : Value), (fcells ys1)[j]? = some u → w.cell? ((⟨g, 0, none⟩ : Addr).add j) = some u)) (H2 : Hid (∀ (j : Nat) (u : Value), (fcells ys2)[j]? = some u → w.cell? ((⟨g, (i + 1) * 2, none⟩ : Addr).add j) = some u)) :
    Calls Try.prog 181 #[.slice (some ⟨g, 0, none⟩) L cap, .int .i64 (i : Int)] w fun e w' => ∃ v b, e = .returned v ∧ OwnsF w' b v (ys1 ++ ys2) ∧ Below w.heap.size w w' := by
  have a1 : (i : Int) ≤ (cap : Int) := by omega
  have a2 : (i : Int) + 1 ≤ (L : Int) := by omega
  have a3 : (0 : Int) ≤ (i : Int) + 1 := by omega
  have a4 : ¬ (cap = i + 1) := hne
  have a6 : IntKind.i64.wrap ((i : Int) + 1) = (i : Int) + 1 := wrap64_small (by omega) (by omega)
  clear hne
  obtain ⟨W1, hW1⟩ : ∃ W1, w.alloc (.cells #[.slice (some ⟨g, 0, none⟩) i cap, .slice (some ⟨g, (i + 1) * 2, none⟩) (L - (i + 1)) (cap - (i + 1))] 24) = W1 := ⟨_, rfl⟩
  have p0 : W1.drew.cell? ⟨w.heap.size, 0, none⟩ = some (.slice (some ⟨g, 0, none⟩) ys1.length cap) := by rw [← hW1, ht.out]; simp [go_sem]
  have p1 : W1.drew.cell? ⟨w.heap.size, 1, none⟩ = some (.slice (some ⟨g, (i + 1) * 2, none⟩) ys2.length (cap - (i + 1))) := by rw [← hW1, hdr.out]; simp [go_sem]
  have hB : Below w.heap.size w W1.drew := by rw [← hW1]; exact (bnew _ _).drew
  have C := Lib.hid (concatF_any w.heap.size ⟨g, 0, none⟩ ⟨g, (i + 1) * 2, none⟩ cap (cap - (i + 1)) ys1 ys2 (by rw [ht.out, hdr.out]; omega) W1.drew p0 p1
    (Lib.hid fun j u hu => kc hB (H1.out j u hu)) (Lib.hid fun j u hu => kc hB (H2.out j u hu)))
  clear p0 p1
  go_enter Try.func181, Try.ntmps181
  go_wp2_with fail
  go_region_with (go_at_call 235; refine C.out.mono ?_; rintro e w3 ⟨v, rfl, hown, hb3⟩)
  all_goals
    have hb4 := bthen hB hb3
    go_wp2
    go_ret
    exact ⟨_, _, rfl, hown, hb4⟩

set_option maxRecDepth 100000 in
set_option maxHeartbeats 4000000 in
theorem withoutPlace_end (g i : Nat) (ys1 ys2 : List (Int × Int)) (h8 : i < 8) (ht : Hid (ys1.length = i)) (hdr : Hid (ys2.length = 0)) (w : World)
    (H1 : Hid (∀ (j : Nat) (u : Value), (fcells ys1)[j]? = some u → w.cell? ((⟨g, 0, none⟩ : Addr).add j) = some u)) (H2 : Hid (∀ (j : Nat) (u : Value), (fcells ys2)[j]? = some u → w.cell? ((⟨g, 0, none⟩ : Addr).add j) = some u)) :
    Calls Try.prog 181 #[.slice (some ⟨g, 0, none⟩) (i + 1) (i + 1), .int .i64 (i : Int)] w fun e w' => ∃ v b, e = .returned v ∧ OwnsF w' b v (ys1 ++ ys2) ∧ Below w.heap.size w w' := by
  have a3 : (0 : Int) ≤ (i : Int) + 1 := by omega
  have a6 : IntKind.i64.wrap ((i : Int) + 1) = (i : Int) + 1 := wrap64_small (by omega) (by omega)
  obtain ⟨W1, hW1⟩ : ∃ W1, w.alloc (.cells #[.slice (some ⟨g, 0, none⟩) i (i + 1), .slice (some ⟨g, 0, none⟩) 0 0] 24) = W1 := ⟨_, rfl⟩
  have p0 : W1.drew.cell? ⟨w.heap.size, 0, none⟩ = some (.slice (some ⟨g, 0, none⟩) ys1.length (i + 1)) := by rw [← hW1, ht.out]; simp [go_sem]
  have p1 : W1.drew.cell? ⟨w.heap.size, 1, none⟩ = some (.slice (some ⟨g, 0, none⟩) ys2.length 0) := by rw [← hW1, hdr.out]; simp [go_sem]
  have hB : Below w.heap.size w W1.drew := by rw [← hW1]; exact (bnew _ _).drew
  have C := Lib.hid (concatF_any w.heap.size ⟨g, 0, none⟩ ⟨g, 0, none⟩ (i + 1) 0 ys1 ys2 (by rw [ht.out, hdr.out]; omega) W1.drew p0 p1
    (Lib.hid fun j u hu => kc hB (H1.out j u hu)) (Lib.hid fun j u hu => kc hB (H2.out j u hu)))
  clear p0 p1
  go_enter Try.func181, Try.ntmps181
  go_wp2_with fail
  go_region_with (go_at_call 235; refine C.out.mono ?_; rintro e w3 ⟨v, rfl, hown, hb3⟩)
  all_goals
    have hb4 := bthen hB hb3
    go_wp2
    go_ret
    exact ⟨_, _, rfl, hown, hb4⟩

theorem add_at (g a j : Nat) : (⟨g, a, none⟩ : Addr).add j = ⟨g, a + j, none⟩ := by
  simp only [Addr.add]
  split <;> simp_all

theorem withoutPlace_any {base : Nat} {s : Value} {xs : List (Int × Int)} (h8 : xs.length ≤ 8) (i : Nat) (hi : i < xs.length) (w : World) (h : OwnsF w base s xs) :
    Calls Try.prog 181 #[s, .int .i64 (i : Int)] w fun e w' => ∃ v b, e = .returned v ∧ OwnsF w' b v (xs.eraseIdx i) ∧ Below w.heap.size w w' := by
  obtain ⟨g, cap, rfl, hle, hmax⟩ : ∃ g cap, s = .slice (some ⟨g, 0, none⟩) xs.length cap ∧ xs.length ≤ cap ∧ cap ≤ maxLen := by
    rcases h.2 with ⟨_, h0⟩ | ⟨g, cap, cur, rfl, _, _, h1, h2, _⟩
    · omega
    · exact ⟨g, cap, rfl, h1, h2⟩
  unfold maxLen at hmax
  have hcell : ∀ (j : Nat) (u : Value), (fcells xs)[j]? = some u → w.cell? ⟨g, j, none⟩ = some u := fun j u hu => by
    have h1 : j < xs.length * 2 := by rw [← fcells_length]; exact (List.getElem?_eq_some_iff.1 hu).1
    rw [World.ownsRow.cellAt h j h1]
    exact hu
  have ht : (xs.take i).length = i := by rw [List.length_take]; omega
  have hdr : (xs.drop (i + 1)).length = xs.length - (i + 1) := by rw [List.length_drop]
  have H1 : ∀ (j : Nat) (u : Value), (fcells (xs.take i))[j]? = some u → w.cell? ((⟨g, 0, none⟩ : Addr).add j) = some u := fun j u hu => by
    rw [add_at, Nat.zero_add]
    exact hcell j u (fcells_take xs i j u hu)
  rw [List.eraseIdx_eq_take_drop_succ]
  by_cases hce : cap = i + 1
  · have hL : xs.length = i + 1 := by omega
    have hd0 : xs.drop (i + 1) = [] := List.drop_eq_nil_of_le (by omega)
    rw [hL, hce]
    refine withoutPlace_end g i (xs.take i) (xs.drop (i + 1)) (by omega) (Lib.hid ht) (Lib.hid (by rw [hd0]; rfl)) w (Lib.hid H1) (Lib.hid fun j u hu => ?_)
    rw [hd0] at hu
    simp [fcells] at hu
  · refine withoutPlace_mid g xs.length cap i (xs.take i) (xs.drop (i + 1)) h8 hi hle (by omega) hce (Lib.hid ht) (Lib.hid hdr) w (Lib.hid H1) (Lib.hid fun j u hu => ?_)
    rw [add_at]
    exact hcell _ u (fcells_drop xs (i + 1) j (by omega) u hu)
end Go.Proofs.Ytdgpjpcdifpllaa

/- Q11:
  IsBase: both packages. -/
namespace Go.Proofs.Ytdgpjpcdifpllaa
open Go.RowKit
open Go.Maps (Keyed)
set_option linter.unusedVariables false
set_option linter.unusedSimpArgs false

/-- No place below j can be left out. -/
def fewTo (xs : List (Int × Int)) (j : Nat) : Bool := allLt j fun i => !((comTo (xs.eraseIdx i) (xs.length - 1) : Int) == 0)
theorem fewTo_succ (xs : List (Int × Int)) (j : Nat) : fewTo xs (j + 1) = (fewTo xs j && !((comTo (xs.eraseIdx j) (xs.length - 1) : Int) == 0)) := allLt_succ _ _
theorem fewTo_false {xs : List (Int × Int)} {k m : Nat} (hk : k < m) (h : ((comTo (xs.eraseIdx k) (xs.length - 1) : Int) == 0) = true) : fewTo xs m = false := by
  induction m with
  | zero => omega
  | succ m ih =>
    rw [fewTo_succ]
    by_cases e : k = m
    · subst e; simp [h]
    · rw [ih (by omega)]; rfl

theorem common_erase {xs : List (Int × Int)} (h8 : xs.length ≤ 8) (hx : AreF xs) (i : Nat) (hi : i < xs.length) {b : Nat} {D : DU} {base : Nat} {s : Value} (w : World) (h : OwnsF w base s (xs.eraseIdx i)) (hown : w.ownsMap Try.prog 23 (plainElem Try.prog 2) b xs.length D) (hD : MapOk D xs xs.length) :
    Calls Try.prog 234 #[.map (some b), s] w fun e w' => e = .returned (.int .i64 (comTo (xs.eraseIdx i) (xs.length - 1) : Int)) ∧ Below w.heap.size w w' := by
  have hl : (xs.eraseIdx i).length = xs.length - 1 := List.length_eraseIdx_of_lt hi
  have := commonClasses_any (xs := xs.eraseIdx i) (by omega) b _ _ D xs w h hown hD (fun j hj => by
    rw [fget_erase]
    split
    · exact ⟨hx j (by omega), hD.2.1 j (by omega)⟩
    · exact ⟨hx (j + 1) (by omega), hD.2.1 (j + 1) (by omega)⟩)
  rw [hl] at this
  exact this

set_option maxRecDepth 100000 in
set_option maxHeartbeats 4000000 in
theorem isBase_any {base : Nat} {s : Value} {xs : List (Int × Int)} (h8 : xs.length ≤ 8) (hx : AreF xs) {b : Nat} {D : DU} (w : World) (h : OwnsF w base s xs) (hown : w.ownsMap Try.prog 23 (plainElem Try.prog 2) b xs.length D) (hD : MapOk D xs xs.length) {B : Bool} (hB : isBaseB xs = B) :
    Calls Try.prog 133 #[.map (some b), s] w fun e w' => e = .returned (.bool B) ∧ Below w.heap.size w w' := by
  have hl : xs.length ≤ 1048576 := by omega
  have HX := Lib.hid hx
  have HS := Lib.hid h
  have HM := Lib.hid hown
  have HD := Lib.hid hD
  have HB := Lib.hid (show ((comTo xs xs.length : Int) == 0 && fewTo xs xs.length) = B from hB)
  obtain ⟨a, cap, rfl, _⟩ := h.cells
  have IC := Lib.hid (isComplete_any b w (common_of hl hx w h hown hD) h)
  clear h hx hB hown hD
  cases hc : ((comTo xs xs.length : Int) == 0)
  · rw [hc] at HB IC
    obtain rfl : B = false := HB.out.symm
    go_enter Try.func133, Try.ntmps133
    go_wp2_with (go_at_call 180; refine (IC.out).mono ?_; rintro e w2 ⟨rfl, hb2⟩)
    go_ret
    exact ⟨rfl, hb2⟩
  · rw [hc] at HB IC
    rw [Bool.true_and] at HB
    go_enter Try.func133, Try.ntmps133
    go_wp2_with (go_at_call 180; refine (IC.out).mono ?_; rintro e w2 ⟨rfl, hb2⟩)
    replace HS := Lib.hid (HS.out.below hb2)
    replace HM := Lib.hid (owns_map_below HM.out hb2)
    clear IC
    go_loopw [12] (fun i' wr => ∃ i : Nat, i ≤ xs.length ∧ i' = .int .i64 i ∧ fewTo xs i = true ∧ Below w2.heap.size w2 wr) (fun i' _ => xs.length - (intOf i').toNat)
    case atStart => exact ⟨0, Nat.zero_le _, rfl, rfl, Below.refl _ _⟩
    case round =>
      obtain ⟨i, hi, rfl, hnd, hN⟩ := hrel
      by_cases hlt : i < xs.length
      · have WP := Lib.hid (withoutPlace_any h8 i hlt wr (HS.out.below hN))
        have HND := Lib.hid hnd
        clear hnd
        cases hz : ((comTo (xs.eraseIdx i) (xs.length - 1) : Int) == 0)
        · have hnd2 := Lib.hid (show fewTo xs (i + 1) = true by rw [fewTo_succ, HND.out, hz]; rfl)
          have HZ := Lib.hid hz
          clear hz
          go_wp2_with (first
            | (go_at_call 181; refine (WP.out).mono ?_; rintro e w3 ⟨v, b3, rfl, hs3, hb3⟩; have IC := isComplete_any b w3 (common_erase h8 HX.out i hlt w3 hs3 (owns_map_below (owns_map_below HM.out hN) hb3) HD.out) hs3; rw [HZ.out] at IC; replace IC := Lib.hid IC; clear hs3)
            | (go_at_call 180; refine (IC.out).mono ?_; rintro e w4 ⟨rfl, hb4⟩))
          go_roundw
          case rel => exact ⟨i + 1, by omega, by go_num, hnd2.out, bthen (bthen hN hb3) hb4⟩
          case measure => simp [intOf]; omega
        · have hf := Lib.hid (fewTo_false hlt hz)
          have HZ := Lib.hid hz
          clear hz
          go_wp2_with (first
            | (go_at_call 181; refine (WP.out).mono ?_; rintro e w3 ⟨v, b3, rfl, hs3, hb3⟩; have IC := isComplete_any b w3 (common_erase h8 HX.out i hlt w3 hs3 (owns_map_below (owns_map_below HM.out hN) hb3) HD.out) hs3; rw [HZ.out] at IC; replace IC := Lib.hid IC; clear hs3)
            | (go_at_call 180; refine (IC.out).mono ?_; rintro e w4 ⟨rfl, hb4⟩))
          go_ret
          exact ⟨by rw [← HB.out, hf.out]; rfl, bthen hb2 (bthen (bthen hN hb3) hb4)⟩
      · obtain rfl : i = xs.length := by omega
        go_wp2
        go_ret
        exact ⟨by rw [← HB.out, hnd]; rfl, bthen hb2 hN⟩

end Go.Proofs.Ytdgpjpcdifpllaa

/- BL6:
  BasesOf: a part as a list of its functions and as a number: bases are the same. -/
namespace Go.Proofs.Ytdgpjpcdifpllaa
open Go.RowKit
set_option linter.unusedVariables false
set_option linter.unusedSimpArgs false

/-- The functions of a list at places. -/
def atPl (xs : List (Int × Int)) (r : List Int) : List (Int × Int) := r.map fun x => fget xs x.toNat
theorem foldl_bit (t : Nat) : ∀ (r : List Int) (m : Nat), (r.foldl (fun m x => m ||| 2 ^ x.toNat) m).testBit t = (m.testBit t || r.any fun x => x.toNat == t)
  | [], m => by simp
  | x :: r, m => by
    rw [List.foldl_cons, foldl_bit t r, Nat.testBit_or, Nat.testBit_two_pow, List.any_cons, Bool.or_assoc]
    congr 1
theorem maskN_bit (r : List Int) (t : Nat) : (maskN r).testBit t = r.any fun x => x.toNat == t := by
  unfold maskN; rw [foldl_bit]; simp
theorem atPl_fget (xs : List (Int × Int)) (r : List Int) (i : Nat) (h : i < r.length) : fget (atPl xs r) i = fget xs r[i].toNat := by
  unfold atPl
  rw [fget, List.getElem?_map, List.getElem?_eq_getElem h]; rfl
theorem part_at {xs : List (Int × Int)} {r : List Int} (hr : ∀ x ∈ r, ∃ y : Nat, x = (y : Int) ∧ y < xs.length) : partN xs (maskN r) = comTo (atPl xs r) r.length := by
  rw [partN, sum_is _ 5 _ (fun r _ => partV_le _ _ r) (comTo_lt _ _)]
  intro k hk
  rw [comTo_digit _ k hk, partV]
  congr 1
  rw [Bool.eq_iff_iff, partTo, allCls, allLt_iff, allLt_iff]
  constructor
  · intro h i hi
    obtain ⟨y, e, hy⟩ := hr _ (List.getElem_mem hi)
    have h1 := h y hy
    rw [atPl_fget _ _ _ hi, e]
    have hb : bitN (maskN r) y = 1 := by
      rw [bitN_of_test, maskN_bit]
      rw [show (r.any fun x => x.toNat == y) = true from List.any_eq_true.2 ⟨r[i], List.getElem_mem hi, by rw [e]; simp⟩]
      rfl
    rw [hb] at h1
    simpa using h1
  · intro h j hj
    cases hb : (maskN r).testBit j
    · rw [bitN_of_test, hb]; rfl
    · rw [maskN_bit] at hb
      obtain ⟨x, hx, e⟩ := List.any_eq_true.1 hb
      obtain ⟨i, hi, rfl⟩ := List.getElem_of_mem hx
      have h2 := h i hi
      rw [atPl_fget _ _ _ hi, show r[i].toNat = j by simpa using e] at h2
      simp [h2]
theorem sub_out : ∀ m : Nat, m < 256 → ∀ y : Nat, y < 8 → bitN m y = 0 → (m ||| 2 ^ y) - 2 ^ y = m := by decide +kernel
theorem any_erase (p : Int → Bool) : ∀ (r : List Int) (i : Nat) (h : i < r.length), r.any p = ((r.eraseIdx i).any p || p r[i])
  | [], i, h => by simp at h
  | x :: r, 0, h => by simp [Bool.or_comm]
  | x :: r, i + 1, h => by
    simp only [List.any_cons, List.eraseIdx_cons_succ, List.getElem_cons_succ]
    rw [any_erase p r i (by simpa using h), Bool.or_assoc]
theorem maskN_erase {r : List Int} {i y : Nat} (h : i < r.length) (e : r[i] = (y : Int)) (h8 : ∀ x ∈ r, x.toNat < 8) (hnd : (r.eraseIdx i).any (fun x => x.toNat == y) = false) : maskN r - 2 ^ y = maskN (r.eraseIdx i) := by
  have h1 : maskN r = maskN (r.eraseIdx i) ||| 2 ^ y := by
    apply Nat.eq_of_testBit_eq
    intro t
    rw [maskN_bit, Nat.testBit_or, maskN_bit, Nat.testBit_two_pow, any_erase _ r i h, e]
    congr 1
  rw [h1]
  refine sub_out _ (maskN_lt fun x hx => h8 x (List.mem_of_mem_eraseIdx hx)) y ?_ ?_
  · have := h8 _ (List.getElem_mem h); rw [e] at this; simpa using this
  · rw [bitN_of_test, maskN_bit, hnd]; rfl
theorem map_erase {α β : Type} (f : α → β) : ∀ (r : List α) (i : Nat), (r.eraseIdx i).map f = (r.map f).eraseIdx i
  | [], i => by simp
  | x :: r, 0 => by simp
  | x :: r, i + 1 => by simp [map_erase f r i]
theorem atPl_erase (xs : List (Int × Int)) (r : List Int) (i : Nat) : atPl xs (r.eraseIdx i) = (atPl xs r).eraseIdx i := map_erase _ r i
theorem atPl_len (xs : List (Int × Int)) (r : List Int) : (atPl xs r).length = r.length := by simp [atPl]
theorem partsN_ge (n : Nat) : ∀ k i, ∀ r ∈ partsN n k i, ∀ x ∈ r, (i : Int) ≤ x
  | 0, i => by simp [partsN]
  | k + 1, i => by
    intro r hr x hx
    unfold partsN at hr
    obtain ⟨j, hj, hr⟩ := List.mem_flatMap.1 hr
    obtain ⟨q, hq, rfl⟩ := List.mem_map.1 hr
    obtain ⟨t, ht, e⟩ := List.mem_range'.1 hj
    rcases List.mem_cons.1 hx with rfl | hx
    · omega
    · have := partsN_ge n k (j + 1) q hq x hx
      omega
theorem partsN_pw (n : Nat) : ∀ k i, ∀ r ∈ partsN n k i, r.Pairwise (· < ·)
  | 0, i => by simp [partsN]
  | k + 1, i => by
    intro r hr
    unfold partsN at hr
    obtain ⟨j, hj, hr⟩ := List.mem_flatMap.1 hr
    obtain ⟨q, hq, rfl⟩ := List.mem_map.1 hr
    refine List.pairwise_cons.2 ⟨fun x hx => ?_, partsN_pw n k (j + 1) q hq⟩
    have := partsN_ge n k (j + 1) q hq x hx
    omega
/-- The places of a part are told apart. -/
theorem parts_apart {n k i0 : Nat} {r : List Int} (h : r ∈ partsN n k i0) {i y : Nat} (hi : i < r.length) (e : r[i] = (y : Int)) : (r.eraseIdx i).any (fun x => x.toNat == y) = false := by
  rw [Bool.eq_false_iff]
  intro ha
  obtain ⟨x, hx, hxy⟩ := List.any_eq_true.1 ha
  obtain ⟨j, hj, hne, rfl⟩ := List.mem_eraseIdx_iff_getElem.1 hx
  obtain ⟨z, ez, _⟩ := partsN_mem n k i0 r h _ (List.getElem_mem hj)
  have hzy : z = y := by rw [ez] at hxy; simpa using hxy
  have hpw := List.pairwise_iff_getElem.1 (partsN_pw n k i0 r h)
  rcases Nat.lt_or_gt_of_ne hne with hlt | hlt
  · have := hpw j i hj hi hlt; rw [ez, e] at this; omega
  · have := hpw i j hi hj hlt; rw [ez, e] at this; omega
/-- A part is a base as a number exactly when its functions are one. -/
theorem baseM_at {xs : List (Int × Int)} (h8 : xs.length ≤ 8) {k i0 : Nat} {r : List Int} (h : r ∈ partsN xs.length k i0) : baseM xs (maskN r) = isBaseB (atPl xs r) := by
  have hr := partsN_mem xs.length k i0 r h
  have hr8 : ∀ x ∈ r, x.toNat < 8 := fun x hx => by obtain ⟨y, e, hy⟩ := hr x hx; rw [e]; simp; omega
  have step : ∀ i (hi : i < r.length) (y : Nat), r[i] = (y : Int) → partN xs (maskN r - 2 ^ y) = comTo ((atPl xs r).eraseIdx i) (r.length - 1) := by
    intro i hi y e
    rw [maskN_erase hi e hr8 (parts_apart h hi e), part_at (fun x hx => hr x (List.mem_of_mem_eraseIdx hx)), atPl_erase, List.length_eraseIdx, if_pos hi]
  unfold baseM isBaseB needM
  rw [part_at hr, atPl_len]
  congr 1
  rw [Bool.eq_iff_iff, allLt_iff, allLt_iff]
  constructor
  · intro hh i hi
    obtain ⟨y, e, hy⟩ := hr _ (List.getElem_mem hi)
    have h1 := hh y hy
    have hb : bitN (maskN r) y = 1 := by
      rw [bitN_of_test, maskN_bit]
      rw [show (r.any fun x => x.toNat == y) = true from List.any_eq_true.2 ⟨r[i], List.getElem_mem hi, by rw [e]; simp⟩]
      rfl
    rw [hb, step i hi y e] at h1
    simpa using h1
  · intro hh j hj
    cases hb : (maskN r).testBit j
    · rw [bitN_of_test, hb]; rfl
    · have hb2 := hb
      rw [maskN_bit] at hb
      obtain ⟨x, hx, e⟩ := List.any_eq_true.1 hb
      obtain ⟨i, hi, rfl⟩ := List.getElem_of_mem hx
      obtain ⟨y, e2, _⟩ := hr _ (List.getElem_mem hi)
      have hyj : y = j := by rw [e2] at e; simpa using e
      subst hyj
      rw [step i hi y e2, hh i hi]
      simp
end Go.Proofs.Ytdgpjpcdifpllaa
