/-
  The texts NX2, NU1, NQ5, NQ6, CM2, CM3, CM4, CM5, FAreCommuting in one.
-/
import Derived.Test.YtbdhlokbpbiijabMPAreCommuting1
import Derived.Deep.RegionHeld3

/- NX2:
  A range over a function whose iterator keeps cells of its own, as NX1: and what can be seen of an element when it is handed out (Vis, of blocks from K on). -/
namespace Go.Proofs.Ytbdhlokbpbiijab
open Go Go.RowKit

set_option linter.unusedVariables false

/-- **The contract**: at whatever loop l whose rounds keep the blocks of T, and whose word speaks of blocks below K alone, K at most the heap's size at the call. -/
def SeqXV {α : Type} (F : Fence) (n : Nat) (P : Program) (g : Nat) (lb : Array Value) (encs : α → Array Value) (S Sp : List α → Prop) (N K : Nat) (T : Nat → Prop) (Vis : Nat → α → World → Prop) (w : World) : Prop :=
  ∀ (l : Nat) (J Jx : List α → World → Prop) (W : World), Below w.heap.size w W → K ≤ W.heap.size → Firm K J → Firm K Jx →
    (∀ pre x W1, J pre W1 → pre.length < N → Vis K x W1 → YieldAt F (n - 1) P l (encs x) W1 fun e W' =>
      Above T W1 W' ∧ ((e = .returned (.bool true) ∧ J (pre ++ [x]) W') ∨ (e = .returned (.bool false) ∧ Jx (pre ++ [x]) W'))) →
    J [] W →
    CallsIn F n P g (#[.func (.yield l) #[] #[]] ++ lb) W fun e W' => (∃ v, e = .returned v) ∧ ((∃ xs, S xs ∧ J xs W') ∨ (∃ pre, Sp pre ∧ Jx pre W'))

variable {F : Fence} {n : Nat} {P : Program}

/-- **The law of who ranges over it.** -/
theorem wpIn_rangeFunc_XV {α : Type} {g : Operand} {ps : Array Tmp} {assign body : Code} {Q : Exit → Act → World → Prop} {a : Act} {w : World}
    (hro : F.round = none) (h1 : 1 ≤ n) {gf : Nat} {lb : Array Value} (hg : a.eval g = .func (.func gf) #[] lb) (hFg : F.fn gf) (eg : ∀ args w, (callFunc gf args).run P w = .ok (.enter gf args) w)
    {encs : α → Array Value} {S Sp : List α → Prop} {N : Nat} {T : Nat → Prop} {Vis : Nat → α → World → Prop} {w0 : World} (hT : ¬ T (w.heap.size + 1)) (hseq : SeqXV F (n - 1) P gf lb encs S Sp N (w.heap.size + 2) T Vis w0)
    (hVs : ∀ x W W' row, Vis (w.heap.size + 2) x W → W.grownBy W' row → (∀ r, row = some r → r < w.heap.size + 2) → Vis (w.heap.size + 2) x W')
    (hb0 : Below w0.heap.size w0 w) (hps : ∀ x, (encs x).size = ps.size)
    (I : List α → World → Prop) (Ix : Code → List α → World → Prop) (hI : Firm w.heap.size I) (hIx : ∀ c, Firm w.heap.size (Ix c)) (h0 : I [] w) (a₁ : α → Act)
    (hassign : ∀ (l : Nat) (x : α) (W : World) (K : Act → World → Prop), K (a₁ x) W →
      assign.wpIn (F.inRound l) (n - 1 - 1) P (Exit.then K (fun _ _ _ => False)) { tmps := (ps.zip (encs x)).foldl (fun t (p, v) => t.setIfInBounds p v) a.tmps, defers := [] } W)
    (hbody : ∀ (l : Nat) (pre : List α) (x : α) (W : World), I pre W → pre.length < N → Vis (w.heap.size + 2) x W → body.wpIn (F.inRound l) (n - 1 - 1) P (postX w.heap.size T I Ix (pre ++ [x]) W) (a₁ x) W)
    (hdone : ∀ (D : Nat) (xs : List α) (W : World), w.heap.size ≤ D → S xs → I xs W → W.heap[D]? = some (.deferred (some [])) → Q .normal { a with defers := { target := .collected D, args := #[] } :: a.defers } W)
    (hstop : ∀ (D : Nat) (c : Code) (pre : List α) (W : World), w.heap.size ≤ D → Sp pre → Ix c pre W → W.heap[D]? = some (.deferred (some [])) → c.wpIn F n P Q { a with defers := { target := .collected D, args := #[] } :: a.defers } W) :
    (Code.rangeFunc g ps assign body).wpIn F n P Q a w := by
  refine wpIn_rangeFunc fun fn hfn => ?_
  rw [hro]
  -- the loop's record, as a function of its state and its pending jump; the world with both blocks of book-keeping
  let D := w.heap.size
  let L := w.heap.size + 1
  let rec' : LoopState → Option Code → Obj := fun st pe => .loop { state := st, pending := pe, fn, tmps := a.tmps, params := ps, assign, body, defers := D }
  obtain ⟨V, hV⟩ : ∃ V, (w.alloc (.deferred (some []))).alloc (rec' .ready none) = V := ⟨_, rfl⟩
  have sV : V.heap.size = w.heap.size + 2 := by rw [← hV]; simp
  have hL : V.heap[L]? = some (rec' .ready none) := by
    rw [← hV]; have := World.alloc_heap_new (w.alloc (.deferred (some []))) (rec' .ready none); rwa [World.size_alloc] at this
  have hD : V.heap[D]? = some (.deferred (some [])) := by
    rw [← hV]; exact (Below.heap_alloc _ _ _ (by simp [D])).trans (World.alloc_heap_new w _)
  have hIV : I [] V := by rw [← hV]; exact hI.alloc _ (hI.alloc _ h0)
  have hBV : Below w0.heap.size w0 V := by
    rw [← hV]; exact (hb0.alloc hb0.size _).alloc (by simp; have := hb0.size; omega) _
  refine ⟨L, [{ target := .collected D, args := #[] }], V, { target := .fn (.func gf) lb, args := #[.func (.yield L) #[] #[]] }, V, gf, #[.func (.yield L) #[] #[]] ++ lb, V, ?_, ?_, ?_, ?_, fun _ => h1, ?_⟩
  · rw [← hV]; exact run_enterLoop_outer _ _ _ _ _
  · simp only [resolve, hg]; simp [go_sem]
  · intro f' hf'; simp [Target.leads] at hf'; subst hf'; exact hFg
  · simp [invoke, go_sem, eg]
  have fL : ∀ o, Firm (w.heap.size + 2) (fun (_ : List α) W => W.heap[L]? = some o) := fun o => firm_block (by simp [L]) o
  have fD : Firm (w.heap.size + 2) (fun (_ : List α) W => W.heap[D]? = some (.deferred (some []))) := firm_block (by simp [D]) _
  have fI : Firm (w.heap.size + 2) I := hI.mono (by omega)
  refine (hseq L (fun pre W => I pre W ∧ (W.heap[L]? = some (rec' .ready none) ∧ W.heap[D]? = some (.deferred (some []))))
    (fun pre W => ∃ c, Ix c pre W ∧ (W.heap[L]? = some (rec' .done (some c)) ∧ W.heap[D]? = some (.deferred (some []))))
    V hBV (by omega) (fI.and ((fL _).and fD))
    (fun s A B row hs hg' hr => by
      obtain ⟨c, hc, hk⟩ := hs
      exact ⟨c, (hIx c).mono (Nat.le_add_right _ 2) s A B row hc hg' hr, ((fL _).and fD) s A B row hk hg' hr⟩)
    ?_ ⟨hIV, hL, hD⟩).mono ?_
  · -- one round
    rintro pre x W ⟨hi, hl, hd⟩ hlen hvis
    have hlt : L < W.heap.size := (Array.getElem?_eq_some_iff.1 hl).1
    refine ⟨fn, _, assign, body, run_yield (P := P) (args := encs x) hl (hps x), roundIn_of_wpIn hfn (hassign _ x W _ ⟨_, run_beginRound hl rfl, ?_⟩)⟩
    obtain ⟨Wb, hWb⟩ : ∃ Wb, W.putObj L (rec' .busy none) = Wb := ⟨_, rfl⟩
    have hlb : Wb.heap[L]? = some (rec' .busy none) := by rw [← hWb]; exact World.putObj_heap_same hlt
    have hdb : Wb.heap[D]? = some (.deferred (some [])) := by rw [← hWb]; exact (World.putObj_heap_other (by simp [D, L])).trans hd
    have hib : I pre Wb := by rw [← hWb]; exact hI.put _ _ hi (by simp [L])
    have hab : Above T W Wb := by rw [← hWb]; exact Above.put _ _ _ hT
    change body.wpIn _ _ _ _ _ (W.putObj L (rec' .busy none))
    rw [hWb]
    have hvb : Vis (w.heap.size + 2) x Wb := by rw [← hWb]; exact hVs x W _ (some L) hvis (grownBy_putObj' W L _) (fun r e => by cases e; simp [L])
    refine wpIn_mono (hbody L pre x Wb hib hlen hvb) ?_
    -- the round's end: the record and the block behind it lie as they lay
    have fin : ∀ (jump : Option Code) (W3 : World), KeepsFrom w.heap.size Wb W3 → Above T Wb W3 →
        ∃ W4, (Instr.endRound L jump).run P W3 = .ok (.bool jump.isNone) W4 ∧ W4.heap[L]? = some (rec' (if jump.isNone then .ready else .done) jump) ∧ W4.heap[D]? = some (.deferred (some [])) ∧ Above T W W4 ∧
          (∀ (J : List α → World → Prop), Firm w.heap.size J → ∀ ys, J ys W3 → J ys W4) := fun jump W3 hk ha => by
      have hl3 := hk.same L _ (by simp [L]) hlb rfl
      have hd3 := hk.same D _ (Nat.le_refl _) hdb rfl
      refine ⟨_, run_endRound (P := P) jump hl3, World.putObj_heap_same (Array.getElem?_eq_some_iff.1 hl3).1, (World.putObj_heap_other (by simp [D, L])).trans hd3, (hab.trans ha).trans (Above.put _ _ _ hT), fun J hJ ys h => hJ.put _ _ h (by simp [L])⟩
    rintro e a3 W3 hp
    cases e with
    | normal =>
      obtain ⟨⟨hk, ha⟩, hi3⟩ := hp
      obtain ⟨W4, hr, hl4, hd4, ha4, hj⟩ := fin none W3 hk ha
      exact ⟨_, _, hr, ha4, .inl ⟨rfl, hj I hI _ hi3, hl4, hd4⟩⟩
    | ret =>
      obtain ⟨⟨hk, ha⟩, hi3⟩ := hp
      obtain ⟨W4, hr, hl4, hd4, ha4, hj⟩ := fin (some .ret) W3 hk ha
      exact ⟨_, _, hr, ha4, .inr ⟨rfl, .ret, hj _ (hIx _) _ hi3, hl4, hd4⟩⟩
    | exit id =>
      obtain ⟨⟨hk, ha⟩, hi3⟩ := hp
      obtain ⟨W4, hr, hl4, hd4, ha4, hj⟩ := fin (some (.exit id)) W3 hk ha
      exact ⟨_, _, hr, ha4, .inr ⟨rfl, .exit id, hj _ (hIx _) _ hi3, hl4, hd4⟩⟩
    | goto t =>
      obtain ⟨⟨hk, ha⟩, hi3⟩ := hp
      obtain ⟨W4, hr, hl4, hd4, ha4, hj⟩ := fin (some (.goto t)) W3 hk ha
      exact ⟨_, _, hr, ha4, .inr ⟨rfl, .goto t, hj _ (hIx _) _ hi3, hl4, hd4⟩⟩
    | panic ch => exact hp.elim
    | outgrown => exact hp.elim
  · -- behind the iterator
    rintro e W2 ⟨⟨v, rfl⟩, (⟨xs, hS, hi, hl, hd⟩ | ⟨pre, hSp, c, hi, hl, hd⟩)⟩
    · exact ⟨none, _, run_endLoop (P := P) hl (by simp), hdone D xs _ (Nat.le_refl _) hS (hI.put _ _ hi (by simp [L])) ((World.putObj_heap_other (by simp [D, L])).trans hd)⟩
    · exact ⟨some c, _, run_endLoop (P := P) hl (by simp), hstop D c pre _ (Nat.le_refl _) hSp ((hIx c).put _ _ hi (by simp [L])) ((World.putObj_heap_other (by simp [D, L])).trans hd)⟩
end Go.Proofs.Ytbdhlokbpbiijab

/- NU1:
  The numbers of the tuples of a relation, in the program. -/
namespace Go.Proofs.Ytbdhlokbpbiijab
open Go.RowKit Go.Shelf
attribute [local go_sem] Oper.semAt_some
set_option linter.unusedVariables false
set_option linter.unusedSimpArgs false

/-- .. those handed out so far. -/
def tupF {R : Nat} (x : Nat) (pre : List (Row R)) : List Int := nI ((pre.map (·.1)).filter fun t => bitN x t == 1)
theorem tupF_yes {R : Nat} (x : Nat) (pre : List (Row R)) (y : Row R) (h : bitN x y.1 = 1) : tupF x (pre ++ [y]) = tupF x pre ++ [(y.1 : Int)] := by simp [tupF, nI, h]
theorem tupF_no {R : Nat} (x : Nat) (pre : List (Row R)) (y : Row R) (h : bitN x y.1 ≠ 1) : tupF x (pre ++ [y]) = tupF x pre := by simp [tupF, nI, h]
theorem tupF_len {R : Nat} (x : Nat) (pre : List (Row R)) : (tupF x pre).length ≤ pre.length := by
  rw [tupF, nI_length]
  exact Nat.le_trans (List.length_filter_le _ _) (by simp)
theorem tupF_upto {R : Nat} (hR : 0 < R) (x : Nat) : tupF x (upto hR R) = nI (tupsL x R) := by
  unfold tupF tupsL upto
  congr 2
  rw [List.map_map]
  refine (List.map_congr_left (g := id) fun k hk => ?_).trans (List.map_id _)
  exact rowAt_val hR (by simpa using hk)

set_option maxRecDepth 100000 in
set_option maxHeartbeats 4000000 in
theorem numbersOf_any {n : Int} {x R : Nat} (ok : FOk n x R) (w : World) :
    Calls Try.prog 152 #[.agg #[.int .i64 n, .int .i64 (x : Int)]] w (ListPost w.heap.size (nI (tupsL x R)) w) := by
  obtain ⟨i0, hi, hz0, hz1, hz2⟩ := info_parts infoI
  have r0 := ok.r0
  have r16 := ok.r16
  refine (callsIn_wide (n := 3)).1 ?_
  refine callsIn_of_wp_marks Try.func152 rfl trivial ?_ rfl
  simp only [Try.ntmps152, List.size_toArray, List.length_cons, List.length_nil, Nat.reduceAdd, Nat.reduceSub, Array.replicate_succ, Array.replicate_zero, List.push_toArray, List.append_toArray, List.nil_append, List.cons_append]
  gi_wp2_with (refine ⟨trivial, ?_⟩; gi_at_call 125; refine (callsIn_wide.2 (rowsOf_any _ _)).mono ?_; rintro e w' ⟨rfl, rfl⟩)
  obtain ⟨W0, hW0⟩ : ∃ W0, ((w.alloc (.cells #[.int .i64 n, .int .i64 (x : Int)] 67)).alloc (.cells #[.slice none 0 0] 25)).alloc (.cells #[.int .i64 n] 2) = W0 := ⟨_, rfl⟩
  have s0 : W0.cell? ⟨w.heap.size, 0, none⟩ = some (.int .i64 n) := by rw [← hW0]; simp [go_sem]
  have s1 : W0.cell? ⟨w.heap.size, 1, none⟩ = some (.int .i64 (x : Int)) := by rw [← hW0]; simp [go_sem]
  have hbx : Boxed W0 (w.heap.size + 1) 25 (.slice none 0 0) := by
    rw [← hW0, show w.heap.size + 1 = (w.alloc (.cells #[.int .i64 n, .int .i64 (x : Int)] 67)).heap.size by simp]; exact (Boxed.new _ _ _).alloc _
  have cM : W0.cell? ⟨w.heap.size + 1 + 1, 0, none⟩ = some (.int .i64 n) := by rw [← hW0]; simp [go_sem]
  have hsz : W0.heap.size = w.heap.size + 3 := by rw [← hW0]; simp [go_sem]
  have hB0 : Below w.heap.size w W0 := by rw [← hW0]; exact balloc (balloc (bnew _ _) _) _
  rw [hW0]
  clear hW0
  refine wpIn_rangeFunc_ownF (α := Row R) rfl (by omega) (gf := 144) (lb := #[.pointer (some ⟨w.heap.size + 1 + 1, 0, none⟩)]) rfl trivial (enters_of Try.func144 (by kernel_rfl) rfl)
    (rows_stops (3 - 1) (by omega) (w.heap.size + 1 + 1) (w.heap.size + 1) n R ok.h0 ok.h4 r0 r16 ok.hR W0 (by omega) cM) belowK_t (belowK_b (by omega)) (Below.refl _ _) (fun _ => rfl)
    (fun pre W => ((∃ v, Boxed W (w.heap.size + 1) 25 v ∧ W.ownsRow (w.heap.size + 1) 2 1 v (tupF x pre).length (ints (tupF x pre)) ∧ True) ∧ FBox w.heap.size n x W) ∧ Below w.heap.size w W)
    (fun _ _ _ => False)
    (OwnFrom.and (OwnFrom.and (Own.from (holdsRow_own (w.heap.size + 1) (w.heap.size + 1) 25 2 1 (fun pre => (tupF x pre).length) (fun pre => ints (tupF x pre)) (fun _ _ => True)) _) (Own.from (fun s A B row hs hg hr => ⟨cell_kept hs.c0 hg hr, cell_kept hs.c1 hg hr⟩) _)) (ownFrom_below (by omega) (by omega)))
    (fun _ _ _ _ _ hs _ _ => hs)
    ⟨⟨⟨_, hbx, World.ownsRow_nil _ _ _ _, trivial⟩, ⟨s0, s1⟩⟩, hB0⟩
    (fun y => { tmps := #[.agg #[.int .i64 n, .int .i64 (x : Int)], .pointer (some ⟨w.heap.size, 0, none⟩), .slice none 0 0, .pointer (some ⟨w.heap.size + 1, 0, none⟩), .int .i64 (y.1 : Int), .pointer (some ⟨w.heap.size, 0, none⟩), .int .i64 n,
      .func (.func 144) #[] #[.pointer (some ⟨w.heap.size + 1 + 1, 0, none⟩)], .int .i64 (y.1 : Int), undef, undef, undef, undef, undef, undef, undef, undef, undef, undef], defers := [] }) ?assign ?body ?done ?stop
  case assign =>
    intro l y W K hK
    unfold encRow
    gi_wp2
    exact hK
  case body =>
    clear cM s0 s1 hbx hB0
    rintro l pre y W ⟨⟨⟨v, hv, hrow, _⟩, hf⟩, hB⟩ hlen
    have c0 := hf.c0
    have c1 := hf.c1
    have hr := y.2
    have hle := tupF_len x pre
    have hbw : w.heap.size + 1 ≤ W.heap.size := Nat.le_of_lt hv.lt
    have DG := Lib.hid (fun W => digitOf_any x y.1 ok.hx (by omega) W)
    by_cases hp : bitN x y.1 = 1
    · have HC := Lib.hid (tupF_yes x pre y hp)
      have ht : ((bitN x y.1 : Int) == 1) = true := by simp [hp]
      clear hp
      generalize bitN x y.1 = bt at DG ht
      generalize y.1 = r at hr DG ⊢ HC
      generalize hlk : (tupF x pre).length = k at hle hrow
      have HLK := Lib.hid hlk
      clear hlk
      have HV := Lib.hid hv
      have dv := hv.cell
      have hv5 := hv.frozen
      gi_wp2_with (first
        | (refine ⟨trivial, ?_⟩; gi_at_call 139; refine (callsIn_wide.2 (DG.out _)).mono ?_; rintro e w' ⟨rfl, rfl⟩)
        | (gi_at_builtin; refine wpListIn_append_own _ rfl _ _ 25 rfl (w.heap.size + 1) 2 i0 (.int .i64 0) 1 8 Try.underlying25 hi hz0 hz1 hz2 rfl (by decide) _ _ _ rfl (hrow.alloc _) ⟨W.heap.size, 0, none⟩ 1 1 [.int .i64 (r : Int)] rfl rfl (cell_one_new _ _ _) (one_cell_int _) (by unfold maxLen; omega) (by omega) (by simp; omega) ?_; intro v' w1 hown' hgrow _; have HAP := Lib.hid (Boxed.appended HV.out (by decide) hrow hbw (Nat.le_refl _) hown' hgrow); obtain ⟨g5, cap5, rfl⟩ := ownsRow_succ hown'; have e5 := HAP.out.1.cell; have z5 := HAP.out.1.frozen; clear hgrow))
      obtain ⟨a1, a2, a3, a4, a5⟩ := HAP.out
      refine ⟨a4, a5, ⟨⟨_, a2, ?_, trivial⟩, ⟨(a5.cell (p := ⟨w.heap.size, 0, none⟩) (Nat.lt_succ_self _)).trans c0, (a5.cell (p := ⟨w.heap.size, 1, none⟩) (Nat.lt_succ_self _)).trans c1⟩⟩, hB.trans (a5.mono (Nat.le_succ _))⟩
      rw [HC.out, ints_snoc, List.length_append, HLK.out]
      exact a3
    · have HC := Lib.hid (tupF_no x pre y hp)
      have ht : ((bitN x y.1 : Int) == 1) = false := by simp; omega
      clear hp
      generalize bitN x y.1 = bt at DG ht
      generalize y.1 = r at hr DG ⊢ HC
      gi_wp2_with (refine ⟨trivial, ?_⟩; gi_at_call 139; refine (callsIn_wide.2 (DG.out _)).mono ?_; rintro e w' ⟨rfl, rfl⟩)
      refine ⟨KeepsOthers.refl _, Below.refl _ _, ⟨⟨v, hv, ?_, trivial⟩, ⟨c0, c1⟩⟩, hB⟩
      rw [HC.out]
      exact hrow
  case done =>
    rintro D ys W hD rfl ⟨⟨⟨v, hv, hrow, _⟩, _⟩, hB⟩ hK
    rw [tupF_upto r0] at hrow
    have dv := hv.cell
    have HR := Lib.hid hrow
    clear hrow hv
    gi_wp2
    refine ⟨by simp, .inl ⟨_, _, rfl, run_takeDeferred hK, ?_⟩⟩
    refine ⟨v, by simp [results, Try.results152, go_sem], v, rfl, ?_, hB.trans (belowK_b (w := w) (Nat.le_refl _) W D _ _ (by omega) hK rfl rfl)⟩
    exact Owns.mono (ownsRow_putObj HR.out _ hK rfl) (Nat.le_succ _)
  case stop =>
    rintro D c pre W _ _ h _
    exact h.elim
end Go.Proofs.Ytbdhlokbpbiijab

/- NQ5:
  stepsOf by contract, telling the list; slices.Collect of the rows. -/
namespace Go.Proofs.Ytbdhlokbpbiijab
open Go.RowKit Go.Shelf
attribute [local go_sem] Oper.semAt_some
set_option linter.unusedVariables false
set_option linter.unusedSimpArgs false

theorem hv15V (x : Nat) : ∀ q, bitN x q * 15 < 2 ^ 4 := fun q => by have := bitN_le x q; show bitN x q * 15 < 16; omega

set_option maxHeartbeats 1000000 in
theorem stepsOf_anyV (n x a : Int) (sa : Option Addr) (len cap : Nat) (w : World) :
    Calls Try.prog 128 #[.agg #[.int .i64 n, .int .i64 x], .int .i64 a, .slice sa len cap] w fun e w' => e = .returned (.func (.func 146) #[] #[.pointer (some ⟨w.heap.size, 0, none⟩), .pointer (some ⟨w.heap.size + 1 + 1, 0, none⟩), .pointer (some ⟨w.heap.size + 1, 0, none⟩)]) ∧
      w' = ((w.alloc (.cells #[.int .i64 n, .int .i64 x] 43)).alloc (.cells #[.int .i64 a] 2)).alloc (.cells #[.slice sa len cap] 25) := by
  go_enter Try.func128, Try.ntmps128
  go_wp2
  go_ret
  exact ⟨rfl, rfl⟩

theorem steps_seqV {x R m : Nat} (ok : FOk (m : Int) x R) (m4 : m ≤ 4) (Bf Bg Bn K : Nat) (S : Nat → Prop) (sg : Value) (gs : List Nat) (g16 : ∀ a, a ∈ gs → a < 16) (gl : gs.length ≤ 16) (kS : ∀ k, K ≤ k → S k) (gS : ∀ k, sg.ownBlock = some k → S k)
    (w : World) (p0 : w.cell? ⟨Bf, 0, none⟩ = some (.int .i64 (m : Int))) (p1 : w.cell? ⟨Bf, 1, none⟩ = some (.int .i64 (x : Int))) (cg : w.cell? ⟨Bg, 0, none⟩ = some sg) (cn : w.cell? ⟨Bn, 0, none⟩ = some (.int .i64 2)) (hg : Owns w 0 sg (nI gs)) (n : Nat) :
    SeqXV Fence.wide n Try.prog 146 #[.pointer (some ⟨Bf, 0, none⟩), .pointer (some ⟨Bg, 0, none⟩), .pointer (some ⟨Bn, 0, none⟩)] encSV (fun xs => ∃ sp, xs = outsV sp (hv15V x) gs [] m) (fun q => ∃ sp, q <+: outsV sp (hv15V x) gs [] m) (gs.length ^ m) K S (Vis m) w := by
  intro l J Jx W hW hK hJ hJx hY hj
  refine (callsIn_wide.2 (steps1_anyV ok m4 l Bf Bg Bn K S sg gs g16 gl (Nat.le_refl _) J Jx hJ kS gS (fun pre x W h1 h2 h3 => YieldAt.anyDV 1 (hY pre x W h1 h2 h3)) W (kc hW p0) (kc hW p1) (kc hW cg) (kc hW cn) (hg.below hW) hK hj)).mono ?_
  rintro e W' ⟨hv, ⟨sp, h⟩ | ⟨sp, q, hqp, h⟩⟩
  · exact ⟨hv, .inl ⟨_, ⟨sp, rfl⟩, h⟩⟩
  · exact ⟨hv, .inr ⟨q, ⟨sp, hqp⟩, h⟩⟩
theorem vis_kept (m K : Nat) (x : OutV) (W W' : World) (row : Option Nat) (h : Vis m K x W) (hg : W.grownBy W' row) (hr : ∀ r, row = some r → r < K) : Vis m K x W' := by
  refine ⟨World.ownsRow.kept h.1 hg ?_, h.2⟩
  cases e : x.1.ownBlock with
  | none => exact .inl rfl
  | some k => exact .inr (fun e' => by have := hr k e'.symm; have := (World.ownsRow.lt h.1 k e).1; omega)

/-- .. those handed out so far. -/
def rowsF {R : Nat} (pre : List (Row R)) : List Int := nI (pre.map (·.1))
theorem rowsF_snoc {R : Nat} (pre : List (Row R)) (y : Row R) : rowsF (pre ++ [y]) = rowsF pre ++ [(y.1 : Int)] := by simp [rowsF, nI]
theorem rowsF_len {R : Nat} (pre : List (Row R)) : (rowsF pre).length = pre.length := by simp [rowsF, nI_length]
theorem rowsF_upto {R : Nat} (hR : 0 < R) : rowsF (upto hR R) = nI (List.range R) := by
  unfold rowsF upto
  congr 1
  rw [List.map_map]
  refine (List.map_congr_left (g := id) fun k hk => ?_).trans (List.map_id _)
  exact rowAt_val hR (by simpa using hk)

set_option maxRecDepth 100000 in
set_option maxHeartbeats 4000000 in
theorem appendSeq_rows {n : Int} {R : Nat} (h0 : 0 ≤ n) (h4 : n ≤ 4) (r0 : 0 < R) (r16 : R ≤ 16) (hR : Hid (rowsN n = (R : Int))) (Bm : Nat) (w : World) (cM : w.cell? ⟨Bm, 0, none⟩ = some (.int .i64 n)) :
    Calls Try.prog 150 #[.slice none 0 0, .func (.func 144) #[] #[.pointer (some ⟨Bm, 0, none⟩)]] w (ListPost w.heap.size (nI (List.range R)) w) := by
  obtain ⟨i0, hi, hz0, hz1, hz2⟩ := info_parts infoI
  have lM := cell_lt cM
  refine (callsIn_wide (n := 3)).1 ?_
  refine callsIn_of_wp_marks Try.func150 rfl trivial ?_ rfl
  simp only [Try.ntmps150, List.size_toArray, List.length_cons, List.length_nil, Nat.reduceAdd, Nat.reduceSub, Array.replicate_succ, Array.replicate_zero, List.push_toArray, List.append_toArray, List.nil_append, List.cons_append]
  gi_wp2
  obtain ⟨W0, hW0⟩ : ∃ W0, w.alloc (.cells #[.slice none 0 0] 25) = W0 := ⟨_, rfl⟩
  have hbx : Boxed W0 w.heap.size 25 (.slice none 0 0) := by rw [← hW0]; exact Boxed.new _ _ _
  have cM0 : W0.cell? ⟨Bm, 0, none⟩ = some (.int .i64 n) := by rw [← hW0]; exact kc (bnew _ _) cM
  have hsz : W0.heap.size = w.heap.size + 1 := by rw [← hW0]; simp [go_sem]
  have hB0 : Below w.heap.size w W0 := by rw [← hW0]; exact bnew _ _
  rw [hW0]
  clear hW0
  refine wpIn_rangeFunc_ownF (α := Row R) rfl (by omega) (gf := 144) (lb := #[.pointer (some ⟨Bm, 0, none⟩)]) rfl trivial (enters_of Try.func144 (by kernel_rfl) rfl)
    (rows_stops (3 - 1) (by omega) Bm w.heap.size n R h0 h4 r0 r16 hR W0 (by omega) cM0) belowK_t (belowK_b (by omega)) (Below.refl _ _) (fun _ => rfl)
    (fun pre W => (∃ v, Boxed W w.heap.size 25 v ∧ W.ownsRow w.heap.size 2 1 v (rowsF pre).length (ints (rowsF pre)) ∧ True) ∧ Below w.heap.size w W)
    (fun _ _ _ => False)
    (OwnFrom.and (Own.from (holdsRow_own w.heap.size w.heap.size 25 2 1 (fun pre => (rowsF pre).length) (fun pre => ints (rowsF pre)) (fun _ _ => True)) _) (ownFrom_below (by omega) (by omega)))
    (fun _ _ _ _ _ hs _ _ => hs)
    ⟨⟨_, hbx, World.ownsRow_nil _ _ _ _, trivial⟩, hB0⟩
    (fun y => { tmps := #[.slice none 0 0, .func (.func 144) #[] #[.pointer (some ⟨Bm, 0, none⟩)], .pointer (some ⟨w.heap.size, 0, none⟩), undef, .slice none 0 0, .int .i64 (y.1 : Int),
      .func (.func 144) #[] #[.pointer (some ⟨Bm, 0, none⟩)], .int .i64 (y.1 : Int), undef, undef, undef, undef, undef], defers := [] }) ?assign ?body ?done ?stop
  case assign =>
    intro l y W K hK
    unfold encRow
    gi_wp2
    exact hK
  case body =>
    clear cM cM0 hbx hB0
    rintro l pre y W ⟨⟨v, hv, hrow, _⟩, hB⟩ hlen
    have hr := y.2
    have hle := Nat.le_of_eq (rowsF_len pre)
    have hbw : w.heap.size ≤ W.heap.size := Nat.le_of_lt hv.lt
    have HC := Lib.hid (rowsF_snoc pre y)
    generalize y.1 = r at hr ⊢ HC
    generalize hlk : (rowsF pre).length = k at hle hrow
    have HLK := Lib.hid hlk
    clear hlk
    have HV := Lib.hid hv
    have dv := hv.cell
    have hv5 := hv.frozen
    gi_wp2_with (gi_at_builtin; refine wpListIn_append_own _ rfl _ _ 25 rfl w.heap.size 2 i0 (.int .i64 0) 1 8 Try.underlying25 hi hz0 hz1 hz2 rfl (by decide) _ _ _ rfl (hrow.alloc _) ⟨W.heap.size, 0, none⟩ 1 1 [.int .i64 (r : Int)] rfl rfl (cell_one_new _ _ _) (one_cell_int _) (by unfold maxLen; omega) (by omega) (by simp; omega) ?_; intro v' w1 hown' hgrow _; have HAP := Lib.hid (Boxed.appended HV.out (by decide) hrow hbw (Nat.le_refl _) hown' hgrow); obtain ⟨g5, cap5, rfl⟩ := ownsRow_succ hown'; have e5 := HAP.out.1.cell; have z5 := HAP.out.1.frozen; clear hgrow)
    obtain ⟨a1, a2, a3, a4, a5⟩ := HAP.out
    refine ⟨a4, a5, ⟨_, a2, ?_, trivial⟩, hB.trans a5⟩
    rw [HC.out, ints_snoc, List.length_append, HLK.out]
    exact a3
  case done =>
    rintro D ys W hD rfl ⟨⟨v, hv, hrow, _⟩, hB⟩ hK
    rw [rowsF_upto r0] at hrow
    have dv := hv.cell
    have HR := Lib.hid hrow
    clear hrow hv
    gi_wp2
    refine ⟨by simp, .inl ⟨_, _, rfl, run_takeDeferred hK, ?_⟩⟩
    refine ⟨v, by simp [results, Try.results150, go_sem], v, rfl, ?_, hB.trans (belowK_b (w := w) (Nat.le_refl _) W D _ _ (by omega) hK rfl rfl)⟩
    exact Owns.mono (ownsRow_putObj HR.out _ hK rfl) (Nat.le_refl _)
  case stop =>
    rintro D c pre W _ _ h _
    exact h.elim
set_option maxHeartbeats 1000000 in
theorem collect_rows {n : Int} {R : Nat} (h0 : 0 ≤ n) (h4 : n ≤ 4) (r0 : 0 < R) (r16 : R ≤ 16) (hR : Hid (rowsN n = (R : Int))) (Bm : Nat) (w : World) (cM : w.cell? ⟨Bm, 0, none⟩ = some (.int .i64 n)) :
    Calls Try.prog 129 #[.func (.func 144) #[] #[.pointer (some ⟨Bm, 0, none⟩)]] w (ListPost w.heap.size (nI (List.range R)) w) := by
  have AS := Lib.hid (appendSeq_rows h0 h4 r0 r16 hR Bm w cM)
  go_enter Try.func129, Try.ntmps129
  go_wp2_with (go_at_call 150; refine AS.out.mono ?_; rintro e w2 ⟨s, rfl, o2, hb2⟩)
  go_ret
  exact ⟨s, rfl, o2, hb2⟩
end Go.Proofs.Ytbdhlokbpbiijab

/- NQ6:
  rowLists by contract: all lists of rows, each with the row of the values at the columns. -/
namespace Go.Proofs.Ytbdhlokbpbiijab
open Go.RowKit Go.Shelf
attribute [local go_sem] Oper.semAt_some
set_option linter.unusedVariables false
set_option linter.unusedSimpArgs false

theorem region_wide {P : Program} {id n : Nat} {ops : Array Oper} {Q : Exit → Act → World → Prop} {a : Act} {w : World} (S : World → Prop) (hm : P.follows .mixedOrders = true) (hn : 1 ≤ n) (hL : ¬ LetsOut Q)
    (h : wpAnyH P .any ops Q S ops.size (Array.replicate ops.size false) a w.drew) : (Code.region id ops true).wpIn Fence.wide n P Q a w :=
  wpIn_region_any hm (wpAny_wide hn hL _ _ _ _ (wpAny_of_held _ _ _ _ h))
theorem firm_cell {β : Type} {K b o : Nat} {u : Value} (hb : b < K) : Firm K (fun (_ : β) W => W.cell? ⟨b, o, none⟩ = some u) := fun _ W W' row hs hg hr => by
  have hl := cell_lt hs
  have h := hg.block b hl (fun e => by have := hr b e.symm; omega)
  simp only [World.cell?, h] at hs ⊢
  exact hs

/-- What is handed on: the places below P alone. -/
def cutV (P : Nat) (z : OutV) : OutV := (z.1, z.2.1, ⟨z.2.2.1 &&& (2 ^ P - 1), Nat.lt_of_le_of_lt Nat.and_le_left z.2.2.2⟩)
def keyV (z : OutV) : List Nat × Nat := (z.2.1, z.2.2.1)
/-- All lists of rows, with the rows of the values at the columns. -/
def linesL (x P Q m : Nat) : List (List Nat × Nat) := (allP (List.range Q) m).map fun p => (p, tupV x p P)
theorem linesL_len (x P Q m : Nat) : (linesL x P Q m).length = Q ^ m := by unfold linesL; rw [List.length_map, allP_length, List.length_range]
theorem cutV_outs {P : Nat} (h4 : P ≤ 4) (sp : Value) (x Q m : Nat) : ((outsV sp (hv15V x) (List.range Q) [] m).map (cutV P)).map keyV = linesL x P Q m := by
  unfold outsV linesL
  rw [List.map_map, List.map_map]
  refine List.map_congr_left fun t ht => ?_
  show (t, levF (fun q => bitN x q * 15) t 0 &&& (2 ^ P - 1)) = (t, tupV x t P)
  rw [tupV_lev x t P h4]
theorem cutV_pref {P : Nat} (h4 : P ≤ 4) (sp : Value) (x Q m : Nat) (q : List OutV) (hq : q <+: outsV sp (hv15V x) (List.range Q) [] m) : (q.map (cutV P)).map keyV <+: linesL x P Q m := by
  rw [← cutV_outs h4 sp x Q m]
  exact (hq.map _).map _
theorem and_maskV (a P : Nat) (ha : a < 16) (hP : P ≤ 4) : bits .and .i64 (a : Int) ((2 ^ P - 1 : Nat) : Int) = ((a &&& (2 ^ P - 1) : Nat) : Int) := by
  have h : 2 ^ P ≤ 2 ^ 4 := Nat.pow_le_pow_right (by decide) hP
  have h1 : ∀ a : Nat, a < 16 → ∀ b : Nat, b < 16 → bits .and .i64 (a : Int) (b : Int) = ((a &&& b : Nat) : Int) := by decide +kernel
  exact h1 a ha _ (by omega)

set_option maxHeartbeats 1000000 in
theorem rowLists_any (n x k : Int) (w : World) :
    Calls Try.prog 106 #[.agg #[.int .i64 n, .int .i64 x], .int .i64 k] w fun e w' => e = .returned (.func (.func 127) #[] #[.pointer (some ⟨w.heap.size, 0, none⟩), .pointer (some ⟨w.heap.size + 1, 0, none⟩)]) ∧
      w' = (w.alloc (.cells #[.int .i64 n, .int .i64 x] 43)).alloc (.cells #[.int .i64 k] 2) := by
  go_enter Try.func106, Try.ntmps106
  go_wp2
  go_ret
  exact ⟨rfl, rfl⟩

set_option maxRecDepth 100000 in
set_option maxHeartbeats 8000000 in
theorem rowLists1_in {x R m : Nat} (ok : FOk (m : Int) x R) (m4 : m ≤ 4) {P Q : Nat} (hP0 : 0 ≤ (P : Int)) (hP4 : (P : Int) ≤ 4) (Q0 : 0 < Q) (Q16 : Q ≤ 16) (hQr : Hid (rowsN (P : Int) = (Q : Int))) (hQ : Q = 2 ^ P) (l Bf Bn K : Nat) (J Jx : List OutV → World → Prop) (hJ : Firm K J) (hJx : Firm K Jx)
    (W : World) (p0 : W.cell? ⟨Bf, 0, none⟩ = some (.int .i64 (m : Int))) (p1 : W.cell? ⟨Bf, 1, none⟩ = some (.int .i64 (x : Int))) (r0 : W.cell? ⟨Bn, 0, none⟩ = some (.int .i64 (P : Int))) (hK : K ≤ W.heap.size)
    (hY : ∀ pre z W1, J pre W1 → pre.length < Q ^ m → Vis m K z W1 → YieldAt Fence.wide 1 Try.prog l (encSV z) W1 fun e W' => Above (fun k => K ≤ k ∨ k = Bn) W1 W' ∧ ((e = .returned (.bool true) ∧ J (pre ++ [z]) W') ∨ (e = .returned (.bool false) ∧ Jx (pre ++ [z]) W')))
    (hj : J [] W) :
    CallsIn Fence.wide 3 Try.prog 127 #[.func (.yield l) #[] #[], .pointer (some ⟨Bf, 0, none⟩), .pointer (some ⟨Bn, 0, none⟩)] W fun e W' => (∃ v, e = .returned v) ∧ ((∃ ys, ys.map keyV = linesL x P Q m ∧ J ys W') ∨ (∃ pre, pre.map keyV <+: linesL x P Q m ∧ Jx pre W')) := by
  refine callsIn_of_wp_marks Try.func127 rfl trivial ?_ rfl
  simp only [Try.ntmps127, List.size_toArray, List.length_cons, List.length_nil, Nat.reduceAdd, Nat.reduceSub, Array.replicate_succ, Array.replicate_zero, List.push_toArray, List.append_toArray, List.nil_append, List.cons_append]
  have lf : Bf < W.heap.size := cell_lt p0
  have ln : Bn < W.heap.size := cell_lt r0
  have hP44 : P ≤ 4 := by omega
  obtain ⟨M, hM⟩ : ∃ M, M = 2 ^ P - 1 := ⟨_, rfl⟩
  have hl1 : ∀ w, Calls Try.prog 121 #[.int .i64 (P : Int)] w fun e w' => e = .returned (.int .i64 (M : Int)) ∧ w = w' := by
    have h := lastRow_is hP0 hP4 Q0 Q16 hQr
    have e : (Q : Int) - 1 = (M : Int) := by omega
    rw [e] at h
    exact h
  have HL1 := Lib.hid hl1
  have HM := Lib.hid hM
  clear hM hl1 hQ
  obtain ⟨V, hV⟩ : ∃ V, W.alloc (.cells #[.func (.yield l) #[] #[]] 138) = V := ⟨_, rfl⟩
  have hb : Below W.heap.size W V := by rw [← hV]; exact bnew _ _
  have hbY : V.heap[W.heap.size]? = some (.cells #[.func (.yield l) #[] #[]] 138 (0, 0)) := by rw [← hV]; exact heap_alloc_new _ _
  have hjV : J [] V := by rw [← hV]; exact hJ.alloc _ hj
  have sV : W.heap.size + 1 = V.heap.size := by rw [← hV]; simp
  have hmx : Try.prog.follows .mixedOrders = true := by kernel_rfl
  gi_wp2
  have c0 := kc hb p0
  have c1 := kc hb p1
  have d0 := kc hb r0
  have SV := Lib.hid sV
  try rw [hV]
  clear hV p0 p1 r0 hj sV
  refine wpIn_mono (Q := fun e a w' => match e with | Exit.normal => ∃ X Bc sa cap, a = { tmps := #[.func (.yield l) #[] #[], .pointer (some ⟨Bf, 0, none⟩), .pointer (some ⟨Bn, 0, none⟩), .pointer (some ⟨W.heap.size, 0, none⟩), undef, undef, .agg #[.int .i64 m, .int .i64 x], .int .i64 P, .func (.func 144) #[] #[.pointer (some ⟨Bc, 0, none⟩)], .slice sa Q cap, .func (.func 146) #[] #[.pointer (some ⟨X, 0, none⟩), .pointer (some ⟨X + 1 + 1, 0, none⟩), .pointer (some ⟨X + 1, 0, none⟩)], undef, undef, undef, undef, undef, undef, undef, undef, undef, undef], defers := [] } ∧ Below V.heap.size V w' ∧ Owns w' V.heap.size (.slice sa Q cap) (nI (List.range Q)) ∧ (X + 3 = w'.heap.size ∧ V.heap.size ≤ X) ∧ w'.cell? ⟨X, 0, none⟩ = some (.int .i64 m) ∧ w'.cell? ⟨X, 1, none⟩ = some (.int .i64 x) ∧ w'.cell? ⟨X + 1 + 1, 0, none⟩ = some (.slice sa Q cap) ∧ w'.cell? ⟨X + 1, 0, none⟩ = some (.int .i64 2) | _ => False) ?reg ?rest
  case reg =>
    refine region_wide (fun w' => ((w'.cell? ⟨Bf, 0, none⟩ = some (.int .i64 m) ∧ w'.cell? ⟨Bf, 1, none⟩ = some (.int .i64 x)) ∧ w'.cell? ⟨Bn, 0, none⟩ = some (.int .i64 P)) ∧ Below V.heap.size V w') hmx (by omega) (by rintro ⟨_, _, h⟩; exact h) ?_
    have hHeld : (fun w' => ((w'.cell? ⟨Bf, 0, none⟩ = some (.int .i64 m) ∧ w'.cell? ⟨Bf, 1, none⟩ = some (.int .i64 x)) ∧ w'.cell? ⟨Bn, 0, none⟩ = some (.int .i64 P)) ∧ Below V.heap.size V w') (World.drew V) := ⟨⟨⟨c0, c1⟩, d0⟩, (Below.refl _ _).drew⟩
    change wpAnyH _ _ _ _ _ _ _ _ (World.drew _)
    refine wpAnyH_take (i := 0) (v := ?_) rfl (by kernel_rfl) (by kernel_rfl) (by kernel_rfl) (fun _ _ _ h => h) (Or.inl ⟨by rfl, by intro w hSw; (try dsimp only at hSw); go_simp; try (with_reducible rfl)⟩) (by assumption) ?_
    try simp only [Act.put, List.setIfInBounds_toArray, List.set_cons_zero, List.set_cons_succ, List.getElem_toArray, List.getElem_cons_zero, List.getElem_cons_succ]
    refine wpAnyH_take (i := 1) (v := ?_) rfl (by kernel_rfl) (by kernel_rfl) (by kernel_rfl) (fun _ _ _ h => h) (Or.inl ⟨by rfl, by intro w hSw; (try dsimp only at hSw); go_simp; try (with_reducible rfl)⟩) (by assumption) ?_
    try simp only [Act.put, List.setIfInBounds_toArray, List.set_cons_zero, List.set_cons_succ, List.getElem_toArray, List.getElem_cons_zero, List.getElem_cons_succ]
    refine wpAnyH_ready (rs := [2]) (by kernel_rfl) (by simp) ?_
    refine AllReadyH.cons rfl (fun K hK => ?_) AllReadyH.nil
    go_simp
    refine (rowsOf_any _ _).mono ?_
    rintro e w3 ⟨rfl, rfl⟩
    have cB := (show ((World.drew V).alloc (.cells #[.int .i64 (P : Int)] 2)).cell? ⟨V.heap.size, 0, none⟩ = some (.int .i64 (P : Int)) by simp [go_sem])
    have hb3 := bnew (World.drew V) (.cells #[.int .i64 (P : Int)] 2)
    refine hK _ _ (step_held3 hb3 hHeld) (fun hHeld => ?_)
    clear hK K
    try simp only [Act.put, List.setIfInBounds_toArray, List.set_cons_zero, List.set_cons_succ, List.getElem_toArray, List.getElem_cons_zero, List.getElem_cons_succ]
    refine wpAnyH_ready (rs := [3]) (by kernel_rfl) (by simp) ?_
    refine AllReadyH.cons rfl (fun K hK => ?_) AllReadyH.nil
    go_simp
    refine (collect_rows hP0 hP4 Q0 Q16 hQr V.heap.size _ cB).mono ?_
    rintro e w4 ⟨s4, rfl, o4, hb4⟩
    obtain ⟨sa, cap, rfl⟩ := owns_len o4 (show (nI (List.range Q)).length = Q by rw [nI_length, List.length_range])
    have O4 := Lib.hid o4
    clear o4
    dsimp only
    refine hK _ _ (step_held3 hb4 hHeld) (fun hHeld => ?_)
    clear hK K
    try simp only [Act.put, List.setIfInBounds_toArray, List.set_cons_zero, List.set_cons_succ, List.getElem_toArray, List.getElem_cons_zero, List.getElem_cons_succ]
    refine wpAnyH_ready (rs := [4]) (by kernel_rfl) (by simp) ?_
    refine AllReadyH.cons rfl (fun K hK => ?_) AllReadyH.nil
    go_simp
    refine (stepsOf_anyV _ _ _ _ _ _ _).mono ?_
    rintro e w5 ⟨rfl, rfl⟩
    have hb5 := balloc (balloc (bnew w4 (.cells #[.int .i64 (m : Int), .int .i64 (x : Int)] 43)) (.cells #[.int .i64 2] 2)) (.cells #[.slice sa Q cap] 25)
    refine hK _ _ (step_held3 hb5 hHeld) (fun hHeld => ?_)
    clear hK K
    try simp only [Act.put, List.setIfInBounds_toArray, List.set_cons_zero, List.set_cons_succ, List.getElem_toArray, List.getElem_cons_zero, List.getElem_cons_succ]
    refine wpAnyH_done (by kernel_rfl) ?_ _
    exact ⟨w4.heap.size, V.heap.size, sa, cap, rfl, hHeld.2, ((Owns.mono O4.out (by simp)).below (bnew _ _) |>.below (bnew _ _)).below (bnew _ _), ⟨by simp, by have := hb4.size; simp at this; omega⟩, by simp [go_sem], by simp [go_sem], by simp [go_sem], by simp [go_sem]⟩
  case rest =>
    intro e a w5 hPost
    obtain ⟨rfl, X, Bc, sa, cap, rfl, hb5, o5, ⟨x5, x6⟩, e0, e1, e2, e3⟩ : e = .normal ∧ ∃ X Bc sa cap, a = { tmps := #[.func (.yield l) #[] #[], .pointer (some ⟨Bf, 0, none⟩), .pointer (some ⟨Bn, 0, none⟩), .pointer (some ⟨W.heap.size, 0, none⟩), undef, undef, .agg #[.int .i64 m, .int .i64 x], .int .i64 P, .func (.func 144) #[] #[.pointer (some ⟨Bc, 0, none⟩)], .slice sa Q cap, .func (.func 146) #[] #[.pointer (some ⟨X, 0, none⟩), .pointer (some ⟨X + 1 + 1, 0, none⟩), .pointer (some ⟨X + 1, 0, none⟩)], undef, undef, undef, undef, undef, undef, undef, undef, undef, undef], defers := [] } ∧ Below V.heap.size V w5 ∧ Owns w5 V.heap.size (.slice sa Q cap) (nI (List.range Q)) ∧ (X + 3 = w5.heap.size ∧ V.heap.size ≤ X) ∧ w5.cell? ⟨X, 0, none⟩ = some (.int .i64 m) ∧ w5.cell? ⟨X, 1, none⟩ = some (.int .i64 x) ∧ w5.cell? ⟨X + 1 + 1, 0, none⟩ = some (.slice sa Q cap) ∧ w5.cell? ⟨X + 1, 0, none⟩ = some (.int .i64 2) := by
      cases e <;> first | exact ⟨rfl, hPost⟩ | exact hPost.elim
    clear hPost
    have hj5 := Firm.belowV hJ hjV hb5
    have sV := SV.out
    have s5 := hb5.size
    have hbl : ∀ k, (Value.slice sa Q cap).ownBlock = some k → V.heap.size ≤ k ∧ k < w5.heap.size := fun k e => World.ownsRow.lt o5 k e
    have hmem : ∀ a, a ∈ List.range Q → a < 16 := fun a ha => by have := List.mem_range.1 ha; omega
    have d5 := kc hb5 d0
    have SEQ := steps_seqV ok m4 X (X + 1 + 1) (X + 1) (w5.heap.size + 2) (fun k => K ≤ k ∧ k ≠ w5.heap.size + 1) (.slice sa Q cap) (List.range Q) hmem (by rw [List.length_range]; exact Q16) (fun k hk => ⟨by omega, by omega⟩) (fun k e => ⟨by have := hbl k e; omega, by have := hbl k e; omega⟩) w5 e0 e1 e2 e3 (Owns.mono o5 (Nat.zero_le _)) (3 - 1)
    rw [List.length_range] at SEQ
    gi_wp2_with fail
    refine wpIn_rangeFunc_XV (α := OutV) (Vis := Vis m) rfl (by omega) (T := fun k => K ≤ k ∧ k ≠ w5.heap.size + 1) (gf := 146) (lb := #[.pointer (some ⟨X, 0, none⟩), .pointer (some ⟨X + 1 + 1, 0, none⟩), .pointer (some ⟨X + 1, 0, none⟩)]) rfl trivial (enters_of Try.func146 (by kernel_rfl) rfl) (fun h => h.2 rfl)
      SEQ (fun x W W' row h hg hr => vis_kept m _ x W W' row h hg hr)
      (Below.refl _ _) (fun _ => rfl)
      (fun pre W' => J (pre.map (cutV P)) W' ∧ (W'.heap[W.heap.size]? = some (.cells #[.func (.yield l) #[] #[]] 138 (0, 0)) ∧ W'.cell? ⟨Bn, 0, none⟩ = some (.int .i64 (P : Int))))
      (fun c pre W' => c = .ret ∧ Jx (pre.map (cutV P)) W')
      (Firm.and (fun pre => hJ.mono (by omega) (pre.map (cutV P))) (Firm.and (firm_block (by omega) _) (firm_cell (by omega))))
      (fun c pre A B row hs hg hr => ⟨hs.1, hJx.mono (by omega) _ A B row hs.2 hg hr⟩)
      ⟨hj5, (hb5.block _ (by omega)).trans hbY, d5⟩
      (fun z => { tmps := #[.func (.yield l) #[] #[], .pointer (some ⟨Bf, 0, none⟩), .pointer (some ⟨Bn, 0, none⟩), .pointer (some ⟨W.heap.size, 0, none⟩), z.1, .int .i64 (z.2.2.1 : Int), .agg #[.int .i64 m, .int .i64 x], .int .i64 P, .func (.func 144) #[] #[.pointer (some ⟨Bc, 0, none⟩)], .slice sa Q cap, .func (.func 146) #[] #[.pointer (some ⟨X, 0, none⟩), .pointer (some ⟨X + 1 + 1, 0, none⟩), .pointer (some ⟨X + 1, 0, none⟩)], z.1, .int .i64 (z.2.2.1 : Int), undef, undef, undef, undef, undef, undef, undef, undef], defers := [] }) ?assign ?body ?done ?stop
    case assign =>
      intro l' z W' K' hK'
      unfold encSV
      gi_wp2
      exact hK'
    case body =>
      rintro l' pre z W' ⟨hjp, hy1, hn1⟩ hlenp hvis
      have hYP := hY (pre.map (cutV P)) (cutV P z) W'.drew (Firm.drewV hJ hjp) (by rw [List.length_map]; exact hlenp) ⟨show Owns W'.drew K z.1 (nI z.2.1) from ((Owns.mono hvis.1 (by omega)).below (Below.refl _ _).drew), hvis.2⟩
      obtain ⟨fn, tmps, assign, body, hy, hR⟩ := YieldAt.anyDV (3 - 1 - 1 - 1) hYP
      have cy : W'.cell? ⟨W.heap.size, 0, none⟩ = some (.func (.yield l) #[] #[]) := by simp [World.cell?, hy1]
      have hz := z.2.2.2
      have hand : bits .and .i64 (z.2.2.1 : Int) (M : Int) = (((cutV P z).2.2.1 : Nat) : Int) := by rw [HM.out]; exact and_maskV _ _ hz hP44
      unfold encSV at hy
      have HY1 := Lib.hid hy1
      have HN1 := Lib.hid hn1
      have lY : W.heap.size < W'.heap.size := cell_lt cy
      have FIN := Lib.hid (fun (e : Ending) (W3 : World) (h : Above (fun k => K ≤ k ∨ k = Bn) W'.drew W3 ∧ ((e = .returned (.bool true) ∧ J (pre.map (cutV P) ++ [cutV P z]) W3) ∨ (e = .returned (.bool false) ∧ Jx (pre.map (cutV P) ++ [cutV P z]) W3))) =>
        show ∃ b : Bool, e = .returned (.bool b) ∧ (Above (fun k => K ≤ k ∨ k = Bn) W'.drew W3 ∧ (b = true → J ((pre ++ [z]).map (cutV P)) W3) ∧ (b = false → Jx ((pre ++ [z]).map (cutV P)) W3)) by
          rw [List.map_append]
          rcases h with ⟨ha, ⟨rfl, h2⟩ | ⟨rfl, h2⟩⟩
          · exact ⟨true, rfl, ha, (fun _ => h2), (fun e => by cases e)⟩
          · exact ⟨false, rfl, ha, (fun e => by cases e), fun _ => h2⟩)
      clear hy1 hYP
      have hzc : (cutV P z).1 = z.1 := rfl
      rw [hzc] at hy
      clear hzc
      generalize (cutV P z).2.2.1 = cz at hand hy
      gi_wp2
      refine wpIn_region_any hmx (wpAnyIn_round (F := Fence.wide) l' (by kernel_rfl) _ _ _ _ ?_)
      change wpAnyIn _ _ _ _ _ _ _ _ _ (World.drew _)
      refine wpAnyIn_take (i := 1) (v := ?_) rfl rfl (by kernel_rfl) (by kernel_rfl) (by kernel_rfl) (fun _ _ _ h => h) ⟨Or.inl ⟨by rfl, by intro w; go_simp; try (with_reducible rfl)⟩, fun _ => rfl⟩ ?_
      refine wpAnyIn_take (i := 2) (v := ?_) rfl rfl (by kernel_rfl) (by kernel_rfl) (by kernel_rfl) (fun _ _ _ h => h) ⟨Or.inl ⟨by rfl, by intro w; go_simp; try (with_reducible rfl)⟩, fun _ => rfl⟩ ?_
      refine wpAnyIn_ready (rs := [0, 3]) (by kernel_rfl) (by simp) ?_
      refine AllReadyIn.cons rfl (fun K hK => ?_) ?_
      · go_simp
        refine hK _ _ ?_
        clear hK K
        refine wpAnyIn_ready (rs := [3]) (by kernel_rfl) (by simp) ?_
        refine AllReadyIn.cons rfl (fun K hK => ?_) ?_
        · go_simp
          refine hK _ _ ?_
          clear hK K
          refine wpAnyIn_ready (rs := [4]) (by kernel_rfl) (by simp) ?_
          refine AllReadyIn.cons rfl (fun K hK => ?_) ?_
          · go_simp
            refine ⟨trivial, ?_⟩
            refine (callsIn_wide.2 (HL1.out _)).mono ?_
            rintro e w' ⟨rfl, rfl⟩
            dsimp only
            refine hK _ _ ?_
            clear hK K
            refine wpAnyIn_take (i := 5) (v := ?_) rfl rfl (by kernel_rfl) (by kernel_rfl) (by kernel_rfl) (fun _ _ _ h => h) ⟨Or.inl ⟨by rfl, by intro w; go_simp; try (with_reducible rfl)⟩, fun _ => rfl⟩ ?_
            refine wpAnyIn_ready (rs := [6]) (by kernel_rfl) (by simp) ?_
            refine AllReadyIn.cons rfl (fun K hK => ?_) ?_
            · go_simp
              refine hR.mono ?_
              rintro e W3 hE
              obtain ⟨b3, rfl, ha, hjt, hjf⟩ := FIN.out e W3 hE
              dsimp only
              refine hK _ _ ?_
              clear hK K
              refine wpAnyIn_take (i := 7) (v := ?_) rfl rfl (by kernel_rfl) (by kernel_rfl) (by kernel_rfl) (fun _ _ _ h => h) ⟨Or.inl ⟨by rfl, by intro w; go_simp; try (with_reducible rfl)⟩, fun _ => rfl⟩ ?_
              refine wpAnyIn_done (by kernel_rfl) ?_ _
              cases b3
              · gi_wp2
                exact ⟨⟨⟨ha.size, fun k o hk h0 _ => (ha.same k (.inl (by omega)) (Array.getElem?_eq_some_iff.1 h0).1).trans h0⟩, ⟨ha.size, fun k hk h0 => ha.same k (Or.inl hk.1) h0⟩⟩, rfl, hjf (by first | rfl | trivial)⟩
              · gi_wp2
                exact ⟨⟨⟨ha.size, fun k o hk h0 _ => (ha.same k (.inl (by omega)) (Array.getElem?_eq_some_iff.1 h0).1).trans h0⟩, ⟨ha.size, fun k hk h0 => ha.same k (Or.inl hk.1) h0⟩⟩, hjt (by first | rfl | trivial), (ha.same _ (.inl hK) lY).trans HY1.out, cell_above ha (.inr rfl) HN1.out⟩
            exact AllReadyIn.nil
          exact AllReadyIn.nil
        exact AllReadyIn.nil
      refine AllReadyIn.cons rfl (fun K hK => ?_) ?_
      · go_simp
        refine hK _ _ ?_
        clear hK K
        refine wpAnyIn_ready (rs := [0, 4]) (by kernel_rfl) (by simp) ?_
        refine AllReadyIn.cons rfl (fun K hK => ?_) ?_
        · go_simp
          refine hK _ _ ?_
          clear hK K
          refine wpAnyIn_ready (rs := [4]) (by kernel_rfl) (by simp) ?_
          refine AllReadyIn.cons rfl (fun K hK => ?_) ?_
          · go_simp
            refine ⟨trivial, ?_⟩
            refine (callsIn_wide.2 (HL1.out _)).mono ?_
            rintro e w' ⟨rfl, rfl⟩
            dsimp only
            refine hK _ _ ?_
            clear hK K
            refine wpAnyIn_take (i := 5) (v := ?_) rfl rfl (by kernel_rfl) (by kernel_rfl) (by kernel_rfl) (fun _ _ _ h => h) ⟨Or.inl ⟨by rfl, by intro w; go_simp; try (with_reducible rfl)⟩, fun _ => rfl⟩ ?_
            refine wpAnyIn_ready (rs := [6]) (by kernel_rfl) (by simp) ?_
            refine AllReadyIn.cons rfl (fun K hK => ?_) ?_
            · go_simp
              refine hR.mono ?_
              rintro e W3 hE
              obtain ⟨b3, rfl, ha, hjt, hjf⟩ := FIN.out e W3 hE
              dsimp only
              refine hK _ _ ?_
              clear hK K
              refine wpAnyIn_take (i := 7) (v := ?_) rfl rfl (by kernel_rfl) (by kernel_rfl) (by kernel_rfl) (fun _ _ _ h => h) ⟨Or.inl ⟨by rfl, by intro w; go_simp; try (with_reducible rfl)⟩, fun _ => rfl⟩ ?_
              refine wpAnyIn_done (by kernel_rfl) ?_ _
              cases b3
              · gi_wp2
                exact ⟨⟨⟨ha.size, fun k o hk h0 _ => (ha.same k (.inl (by omega)) (Array.getElem?_eq_some_iff.1 h0).1).trans h0⟩, ⟨ha.size, fun k hk h0 => ha.same k (Or.inl hk.1) h0⟩⟩, rfl, hjf (by first | rfl | trivial)⟩
              · gi_wp2
                exact ⟨⟨⟨ha.size, fun k o hk h0 _ => (ha.same k (.inl (by omega)) (Array.getElem?_eq_some_iff.1 h0).1).trans h0⟩, ⟨ha.size, fun k hk h0 => ha.same k (Or.inl hk.1) h0⟩⟩, hjt (by first | rfl | trivial), (ha.same _ (.inl hK) lY).trans HY1.out, cell_above ha (.inr rfl) HN1.out⟩
            exact AllReadyIn.nil
          exact AllReadyIn.nil
        refine AllReadyIn.cons rfl (fun K hK => ?_) ?_
        · go_simp
          refine ⟨trivial, ?_⟩
          refine (callsIn_wide.2 (HL1.out _)).mono ?_
          rintro e w' ⟨rfl, rfl⟩
          dsimp only
          refine hK _ _ ?_
          clear hK K
          refine wpAnyIn_take (i := 5) (v := ?_) rfl rfl (by kernel_rfl) (by kernel_rfl) (by kernel_rfl) (fun _ _ _ h => h) ⟨Or.inl ⟨by rfl, by intro w; go_simp; try (with_reducible rfl)⟩, fun _ => rfl⟩ ?_
          refine wpAnyIn_ready (rs := [0]) (by kernel_rfl) (by simp) ?_
          refine AllReadyIn.cons rfl (fun K hK => ?_) ?_
          · go_simp
            refine hK _ _ ?_
            clear hK K
            refine wpAnyIn_ready (rs := [6]) (by kernel_rfl) (by simp) ?_
            refine AllReadyIn.cons rfl (fun K hK => ?_) ?_
            · go_simp
              refine hR.mono ?_
              rintro e W3 hE
              obtain ⟨b3, rfl, ha, hjt, hjf⟩ := FIN.out e W3 hE
              dsimp only
              refine hK _ _ ?_
              clear hK K
              refine wpAnyIn_take (i := 7) (v := ?_) rfl rfl (by kernel_rfl) (by kernel_rfl) (by kernel_rfl) (fun _ _ _ h => h) ⟨Or.inl ⟨by rfl, by intro w; go_simp; try (with_reducible rfl)⟩, fun _ => rfl⟩ ?_
              refine wpAnyIn_done (by kernel_rfl) ?_ _
              cases b3
              · gi_wp2
                exact ⟨⟨⟨ha.size, fun k o hk h0 _ => (ha.same k (.inl (by omega)) (Array.getElem?_eq_some_iff.1 h0).1).trans h0⟩, ⟨ha.size, fun k hk h0 => ha.same k (Or.inl hk.1) h0⟩⟩, rfl, hjf (by first | rfl | trivial)⟩
              · gi_wp2
                exact ⟨⟨⟨ha.size, fun k o hk h0 _ => (ha.same k (.inl (by omega)) (Array.getElem?_eq_some_iff.1 h0).1).trans h0⟩, ⟨ha.size, fun k hk h0 => ha.same k (Or.inl hk.1) h0⟩⟩, hjt (by first | rfl | trivial), (ha.same _ (.inl hK) lY).trans HY1.out, cell_above ha (.inr rfl) HN1.out⟩
            exact AllReadyIn.nil
          exact AllReadyIn.nil
        exact AllReadyIn.nil
      exact AllReadyIn.nil
    case done =>
      rintro D xs W' hD ⟨sp, rfl⟩ ⟨hjx, _⟩ hKd
      gi_wp2
      refine ⟨by simp, .inl ⟨_, _, rfl, run_takeDeferred hKd, ?_⟩⟩
      exact ⟨_, results_none rfl _ _ _, ⟨_, rfl⟩, .inl ⟨_, cutV_outs hP44 sp x Q m, hJ.put D _ hjx (by omega)⟩⟩
    case stop =>
      rintro D c pre W' hD ⟨sp, hsp⟩ ⟨rfl, hq⟩ hKd
      gi_wp2
      refine ⟨by simp, .inl ⟨_, _, rfl, run_takeDeferred hKd, ?_⟩⟩
      exact ⟨_, results_none rfl _ _ _, ⟨_, rfl⟩, .inr ⟨_, cutV_pref hP44 sp x Q m _ hsp, hJx.put D _ hq (by omega)⟩⟩

theorem rowLists_seq {x R m : Nat} (ok : FOk (m : Int) x R) (m4 : m ≤ 4) {P Q : Nat} (hP0 : 0 ≤ (P : Int)) (hP4 : (P : Int) ≤ 4) (Q0 : 0 < Q) (Q16 : Q ≤ 16) (hQr : Hid (rowsN (P : Int) = (Q : Int))) (hQ : Q = 2 ^ P) (Bf Bn K n : Nat)
    (w : World) (p0 : w.cell? ⟨Bf, 0, none⟩ = some (.int .i64 (m : Int))) (p1 : w.cell? ⟨Bf, 1, none⟩ = some (.int .i64 (x : Int))) (r0 : w.cell? ⟨Bn, 0, none⟩ = some (.int .i64 (P : Int))) :
    SeqXV Fence.wide n Try.prog 127 #[.pointer (some ⟨Bf, 0, none⟩), .pointer (some ⟨Bn, 0, none⟩)] encSV (fun ys => ys.map keyV = linesL x P Q m) (fun ys => ys.map keyV <+: linesL x P Q m) (Q ^ m) K (fun k => K ≤ k ∨ k = Bn) (Vis m) w := by
  intro l J Jx W hW hK hJ hJx hY hj
  exact callsIn_wide.2 (callsIn_wide.1 (rowLists1_in ok m4 hP0 hP4 Q0 Q16 hQr hQ l Bf Bn K J Jx hJ hJx W (kc hW p0) (kc hW p1) (kc hW r0) hK (fun pre z W1 h1 h2 h3 => YieldAt.anyDV 1 (hY pre z W1 h1 h2 h3)) hj))
end Go.Proofs.Ytbdhlokbpbiijab

/- CM2:
  areCommuting of the program. -/
namespace Go.Proofs.Ytbdhlokbpbiijab
open Go.RowKit Go.Shelf
attribute [local go_sem] Oper.semAt_some
set_option linter.unusedVariables false
set_option linter.unusedSimpArgs false

/-- A list of rows, with the row of the columns' values, does not show that f and g do not commute. -/
def agL (x y : Nat) (l : List Nat × Nat) : Bool := bitN x (rowS y l.1) == bitN y l.2
def comB (x y m P Q : Nat) : Bool := (linesL x P Q m).all (agL x y)

theorem above_keepsV {K : Nat} {W W' : World} (h : Below W.heap.size W W') (S : Nat → Prop) : KeepsFrom K W W' ∧ Above S W W' :=
  ⟨⟨h.size, fun k o _ hk _ => (h.block k (Array.getElem?_eq_some_iff.1 hk).1).trans hk⟩, Above.below h⟩

set_option maxRecDepth 100000 in
set_option maxHeartbeats 8000000 in
theorem areCommuting_any {x R m : Nat} (ok : FOk (m : Int) x R) (m4 : m ≤ 4) {y Q P : Nat} (okg : FOk (P : Int) y Q) (w : World) :
    Calls Try.prog 76 #[.agg #[.int .i64 m, .int .i64 x], .agg #[.int .i64 P, .int .i64 y]] w fun e w' => e = .returned (.bool (comB x y m P Q)) ∧ Below w.heap.size w w' := by
  have hQ : Q = 2 ^ P := by have := okg.he; simpa using this
  have hq16 := okg.r16
  have hLL := linesL_len x P Q m
  have HKN := Lib.hid (show comB x y m P Q = (linesL x P Q m).all (agL x y) from rfl)
  obtain ⟨W0, hW0⟩ : ∃ W0, ((((w.alloc (.cells #[.int .i64 m, .int .i64 x] 43)).alloc (.cells #[.int .i64 P, .int .i64 y] 43)).alloc (.cells #[.bool false] 4)).alloc (.cells #[.int .i64 m, .int .i64 x] 43)).alloc (.cells #[.int .i64 P] 2) = W0 := ⟨_, rfl⟩
  refine (callsIn_wide (n := 3)).1 ?_
  refine callsIn_of_wp_marks Try.func76 rfl trivial ?_ rfl
  simp only [Try.ntmps76, List.size_toArray, List.length_cons, List.length_nil, Nat.reduceAdd, Nat.reduceSub, Array.replicate_succ, Array.replicate_zero, List.push_toArray, List.append_toArray, List.nil_append, List.cons_append]
  gi_wp2_with (refine ⟨trivial, ?_⟩; gi_at_call 106; refine (callsIn_wide.2 (rowLists_any _ _ _ _)).mono ?_; rintro e w' ⟨rfl, rfl⟩)
  have sz : W0.heap.size = w.heap.size + 5 := by rw [← hW0]; simp
  have hB0 : Below w.heap.size w W0 := by rw [← hW0]; exact balloc (balloc (balloc (balloc (bnew _ _) _) _) _) _
  have f0 : W0.cell? ⟨w.heap.size + 1 + 1 + 1, 0, none⟩ = some (.int .i64 (m : Int)) := by rw [← hW0]; simp [go_sem]
  have f1 : W0.cell? ⟨w.heap.size + 1 + 1 + 1, 1, none⟩ = some (.int .i64 (x : Int)) := by rw [← hW0]; simp [go_sem]
  have r0 : W0.cell? ⟨w.heap.size + 1 + 1 + 1 + 1, 0, none⟩ = some (.int .i64 (P : Int)) := by rw [← hW0]; simp [go_sem]
  have a0 : W0.cell? ⟨w.heap.size, 0, none⟩ = some (.int .i64 (m : Int)) := by rw [← hW0]; simp [go_sem]
  have a1 : W0.cell? ⟨w.heap.size, 1, none⟩ = some (.int .i64 (x : Int)) := by rw [← hW0]; simp [go_sem]
  have b0 : W0.cell? ⟨w.heap.size + 1, 0, none⟩ = some (.int .i64 (P : Int)) := by rw [← hW0]; simp [go_sem]
  have b1 : W0.cell? ⟨w.heap.size + 1, 1, none⟩ = some (.int .i64 (y : Int)) := by rw [← hW0]; simp [go_sem]
  have hbg0 : W0.heap[w.heap.size + 1 + 1]? = some (.cells #[.bool false] 4 (0, 0)) := by
    rw [← hW0]
    have e := heap_alloc_new ((w.alloc (.cells #[.int .i64 m, .int .i64 x] 43)).alloc (.cells #[.int .i64 P, .int .i64 y] 43)) (.cells #[.bool false] 4)
    rw [World.size_alloc, World.size_alloc] at e
    exact (Below.heap_alloc _ _ _ (by simp <;> omega)).trans ((Below.heap_alloc _ _ _ (by simp)).trans e)
  try rw [hW0]
  have hbg : Boxed W0 (w.heap.size + 1 + 1) 4 (.bool false) := hbg0
  clear hW0 hbg0
  refine wpIn_rangeFunc_XV (α := OutV) (Vis := Vis m) rfl (by omega) (T := fun k => W0.heap.size + 2 ≤ k ∨ k = w.heap.size + 1 + 1 + 1 + 1) (gf := 127) (lb := #[.pointer (some ⟨w.heap.size + 1 + 1 + 1, 0, none⟩), .pointer (some ⟨w.heap.size + 1 + 1 + 1 + 1, 0, none⟩)]) rfl trivial (enters_of Try.func127 (by kernel_rfl) rfl) (by omega)
    (rowLists_seq ok m4 okg.h0 okg.h4 okg.r0 okg.r16 okg.hR hQ (w.heap.size + 1 + 1 + 1) (w.heap.size + 1 + 1 + 1 + 1) (W0.heap.size + 2) (3 - 1) W0 f0 f1 r0)
    (fun x W W' row h hg hr => vis_kept m _ x W W' row h hg hr)
    (Below.refl _ _) (fun _ => rfl)
    (fun pre W => (∀ t, t ∈ pre.map keyV → agL x y t = true) ∧ (((W.cell? ⟨w.heap.size, 0, none⟩ = some (.int .i64 m) ∧ W.cell? ⟨w.heap.size, 1, none⟩ = some (.int .i64 x)) ∧ (W.cell? ⟨w.heap.size + 1, 0, none⟩ = some (.int .i64 P) ∧ W.cell? ⟨w.heap.size + 1, 1, none⟩ = some (.int .i64 y))) ∧ (W.heap[w.heap.size + 1 + 1]? = some (.cells #[.bool false] 4 (0, 0)) ∧ Below w.heap.size w W)))
    (fun c pre W => (c = .ret ∧ ∃ t, t ∈ pre.map keyV ∧ agL x y t = false) ∧ (W.heap[w.heap.size + 1 + 1]? = some (.cells #[.bool false] 4 (0, 0)) ∧ Below w.heap.size w W))
    (Firm.and (firm_pure _ (fun (pre : List OutV) => ∀ t, t ∈ pre.map keyV → agL x y t = true)) (Firm.and (Firm.and (Firm.and (firm_cell (by omega)) (firm_cell (by omega))) (Firm.and (firm_cell (by omega)) (firm_cell (by omega)))) (Firm.and (firm_block (by omega) _) (firm_below (by omega) (Nat.le_refl _)))))
    (fun c => Firm.and (firm_pure _ (fun (pre : List OutV) => c = .ret ∧ ∃ t, t ∈ pre.map keyV ∧ agL x y t = false)) (Firm.and (firm_block (by omega) _) (firm_below (by omega) (Nat.le_refl _))))
    ⟨fun t ht => (by simp at ht), ⟨⟨a0, a1⟩, ⟨b0, b1⟩⟩, hbg, hB0⟩
    (fun z => { tmps := #[.agg #[.int .i64 m, .int .i64 x], .agg #[.int .i64 P, .int .i64 y], .pointer (some ⟨w.heap.size, 0, none⟩), .pointer (some ⟨w.heap.size + 1, 0, none⟩), .pointer (some ⟨w.heap.size + 1 + 1, 0, none⟩), z.1, .int .i64 (z.2.2.1 : Int), .agg #[.int .i64 m, .int .i64 x], .pointer (some ⟨w.heap.size + 1, 0, none⟩), .int .i64 P, .func (.func 127) #[] #[.pointer (some ⟨w.heap.size + 1 + 1 + 1, 0, none⟩), .pointer (some ⟨w.heap.size + 1 + 1 + 1 + 1, 0, none⟩)], z.1, .int .i64 (z.2.2.1 : Int), undef, undef, undef, undef, undef, undef], defers := [] }) ?assign ?body ?done ?stop
  case assign =>
    intro l z W K hK
    unfold encSV
    gi_wp2
    exact hK
  case body =>
    clear hbg hB0 f0 f1 r0 a0 a1 b0 b1
    rintro l pre z W ⟨hall, ⟨⟨a0, a1⟩, ⟨b0, b1⟩⟩, hg, hB⟩ hlen ⟨hown, hzl, hzb⟩
    have AG0 := fun W2 (hW2 : Below W.heap.size W W2) => agreeAt_any ok m4 (n := (P : Int)) (y := y) okg.hx (base := W0.heap.size + 2) (s := z.1) (p := z.2.1) hzl (fun a ha => Nat.lt_trans (hzb a ha) (by decide)) z.2.2.1 (Nat.lt_trans z.2.2.2 (by decide)) W2 (hown.below hW2)
    have HG := Lib.hid hg
    have HA := Lib.hid (And.intro (And.intro a0 a1) (And.intro b0 b1))
    obtain ⟨ag, hag⟩ : ∃ ag, ag = (bitN x (rowS y z.2.1) == bitN y z.2.2.1) := ⟨_, rfl⟩
    rw [← hag] at AG0
    have AG := Lib.hid AG0
    have hsz := hB.size
    clear AG0 hown hzl hzb hg
    cases ag
    · have HEX : Hid (∃ t, t ∈ (pre ++ [z]).map keyV ∧ agL x y t = false) := Lib.hid ⟨keyV z, by simp, hag.symm⟩
      clear hall hag
      have lg := (Array.getElem?_eq_some_iff.1 HG.out).1
      gi_wp2_with (refine ⟨trivial, ?_⟩; gi_at_call 107; refine (callsIn_wide.2 (AG.out _ (Below.refl _ _))).mono ?_; rintro e w2 ⟨rfl, hb2⟩; have hg2 := Lib.hid ((hb2.block _ lg).trans HG.out); have g0 := Boxed.cell (show Boxed w2 (w.heap.size + 1 + 1) 4 (.bool false) from hg2.out); have g1 := Boxed.frozen (show Boxed w2 (w.heap.size + 1 + 1) 4 (.bool false) from hg2.out))
      obtain ⟨k1, k2⟩ := above_keepsV (K := W0.heap.size) hb2 (fun k => W0.heap.size + 2 ≤ k ∨ k = w.heap.size + 1 + 1 + 1 + 1)
      exact ⟨⟨k1.trans ((KeepsOthers.setCell _ _ _).from _), k2.trans (Above.grown (grownSet _ _ _ _) (fun r e => by cases e; omega))⟩, ⟨rfl, HEX.out⟩, Boxed.set (.bool false) hg2.out, (bthen hB hb2).setCell (p := ⟨w.heap.size + 1 + 1, 0, none⟩) (by show w.heap.size ≤ w.heap.size + 1 + 1; omega) _⟩
    · have HALL : Hid (∀ t, t ∈ (pre ++ [z]).map keyV → agL x y t = true) := Lib.hid fun t h => by
        rw [List.map_append, List.mem_append] at h
        rcases h with h | h
        · exact hall t h
        · simp at h; rw [h]; exact hag.symm
      clear hall hag
      have lg := (Array.getElem?_eq_some_iff.1 HG.out).1
      gi_wp2_with (refine ⟨trivial, ?_⟩; gi_at_call 107; refine (callsIn_wide.2 (AG.out _ (Below.refl _ _))).mono ?_; rintro e w2 ⟨rfl, hb2⟩)
      exact ⟨above_keepsV hb2 _, HALL.out, ⟨⟨kc hb2 HA.out.1.1, kc hb2 HA.out.1.2⟩, ⟨kc hb2 HA.out.2.1, kc hb2 HA.out.2.2⟩⟩, (hb2.block _ lg).trans HG.out, bthen hB hb2⟩
  case done =>
    clear hbg hB0 f0 f1 r0 a0 a1 b0 b1
    rintro D ys W hD hys ⟨hall, _, hg, hB⟩ hKd
    have g0 : W.cell? ⟨w.heap.size + 1 + 1, 0, none⟩ = some (.bool false) := Boxed.cell hg
    have g1 : W.frozen? ⟨w.heap.size + 1 + 1, 0, none⟩ = false := Boxed.frozen hg
    have hk : comB x y m P Q = true := by
      rw [HKN.out, ← hys, List.all_eq_true]
      exact hall
    have HKK := Lib.hid hk
    clear hk
    have h1 := Boxed.cell (Boxed.set (.bool true) hg)
    have hKd' := (KeepsOthers.setCell W ⟨w.heap.size + 1 + 1, 0, none⟩ (.bool true)).same D _ hKd rfl
    have h2 := cell_kept h1 (grownBy_putObj' _ D (.deferred none)) (fun r e => by cases e; exact ⟨_, hKd', rfl⟩)
    have HG := Lib.hid hg
    clear hg h1
    gi_wp2
    refine ⟨by simp, .inl ⟨_, _, rfl, run_takeDeferred hKd', ?_⟩⟩
    refine ⟨.bool true, by simp [results, Try.results76, go_sem, h2], by rw [HKK.out], ?_⟩
    exact (hB.setCell (p := ⟨w.heap.size + 1 + 1, 0, none⟩) (by show w.heap.size ≤ w.heap.size + 1 + 1; omega) _).trans (belowK_b (w := w) (Nat.le_refl _) _ D _ _ (by omega) hKd' rfl rfl)
  case stop =>
    clear hbg hB0 f0 f1 r0 a0 a1 b0 b1
    rintro D c pre W hD hpre ⟨⟨rfl, t, ht, hb⟩, hg, hB⟩ hKd
    have hk : comB x y m P Q = false := by
      rw [HKN.out]
      cases hc : (linesL x P Q m).all (agL x y)
      · rfl
      · have := List.all_eq_true.1 hc t (hpre.subset ht)
        rw [hb] at this
        cases this
    have HKK := Lib.hid hk
    clear hk
    have h1 := Boxed.cell hg
    have h2 := cell_kept h1 (grownBy_putObj' _ D (.deferred none)) (fun r e => by cases e; exact ⟨_, hKd, rfl⟩)
    gi_wp2
    refine ⟨by simp, .inl ⟨_, _, rfl, run_takeDeferred hKd, ?_⟩⟩
    refine ⟨.bool false, by simp [results, Try.results76, go_sem, h2], by rw [HKK.out], ?_⟩
    exact hB.trans (belowK_b (w := w) (Nat.le_refl _) _ D _ _ (by omega) hKd rfl rfl)
end Go.Proofs.Ytbdhlokbpbiijab

/- CM3:
  l10Commute of the model: the tables as lists of rows. -/
namespace Go.Proofs.Ytbdhlokbpbiijab
open Go.RowKit Go.Shelf
set_option linter.unusedVariables false
set_option linter.unusedSimpArgs false

/-- The row i of a table with rows of P numbers. -/
def rowT (t P i : Nat) : Nat := t / 2 ^ (i * P) % 2 ^ P
def rowsT (t P m : Nat) : List Nat := (List.range m).map fun i => rowT t P i
theorem rowsT_len (t P m : Nat) : (rowsT t P m).length = m := by simp [rowsT]
theorem rowT_lt (t P i : Nat) : rowT t P i < 2 ^ P := Nat.mod_lt _ (Nat.two_pow_pos P)
theorem rowsT_get (t P m i : Nat) (h : i < m) : (rowsT t P m)[i]?.getD 0 = rowT t P i := by simp [rowsT, h]
/-- The column k. -/
def colT (t P m k : Nat) : Nat := sumN (fun i => bitN t (i * P + k)) m
theorem rowT_bit (t P i k : Nat) (hk : k < P) : bitN (rowT t P i) k = bitN t (i * P + k) := by
  rw [bitN_testBit, bitN_testBit]
  unfold rowT
  rw [Nat.testBit_mod_two_pow, Nat.testBit_div_two_pow, Nat.add_comm k]
  simp [hk]
theorem rowP_sum (p : List Nat) (k : Nat) : rowP p k = sumN (fun i => bitN (p[i]?.getD 0) k) p.length := by
  have key : ∀ q : List Nat, rowP (q.reverse) k = sumN (fun i => bitN ((q.reverse)[i]?.getD 0) k) q.reverse.length := by
    intro q
    induction q with
    | nil => rfl
    | cons a q ih =>
      rw [List.reverse_cons, rowP_snoc, ih, List.length_append, List.length_singleton]
      show _ = sumN _ _ + _ * _
      congr 1
      · refine sumN_congr _ fun i hi => ?_
        rw [List.getElem?_append_left hi]
      · have e : (q.reverse ++ [a])[q.reverse.length]? = some a := by rw [List.getElem?_append_right (Nat.le_refl _), Nat.sub_self]; rfl
        show _ = bitN ((q.reverse ++ [a])[q.reverse.length]?.getD 0) k * _
        rw [e, bitN_testBit]
        rfl
  have := key p.reverse
  rwa [List.reverse_reverse] at this
theorem rowP_col (t P m k : Nat) (hk : k < P) : rowP (rowsT t P m) k = colT t P m k := by
  rw [rowP_sum, rowsT_len]
  refine sumN_congr _ fun i hi => ?_
  rw [rowsT_get t P m i hi, rowT_bit t P i k hk]
/-- What the model makes of a table. -/
def fstT (y t P m : Nat) : Nat := sumN (fun i => bitN y (rowT t P i)) m
def sndT (x t P m : Nat) : Nat := sumN (fun k => bitN x (colT t P m k)) P
theorem fst_is (y t P m : Nat) : rowS y (rowsT t P m) = fstT y t P m := by
  unfold rowS fstT
  rw [rowsT_len]
  exact sumN_congr _ fun i hi => by rw [rowsT_get t P m i hi]
theorem snd_is (x t P m : Nat) : tupV x (rowsT t P m) P = sndT x t P m := by
  unfold tupV sndT
  exact sumN_congr _ fun k hk => by rw [rowP_col t P m k hk]
def comT (x y m P t : Nat) : Bool := bitN x (fstT y t P m) == bitN y (sndT x t P m)
def comTo (x y m P j : Nat) : Bool := allLt j fun t => comT x y m P t
theorem comTo_succ (x y m P j : Nat) : comTo x y m P (j + 1) = (comTo x y m P j && comT x y m P j) := allLt_succ _ _

/-- The table of a list of rows. -/
def tabP (P : Nat) : List Nat → Nat
  | [] => 0
  | a :: q => a + 2 ^ P * tabP P q
theorem tab_lt {P : Nat} : ∀ (p : List Nat), (∀ a ∈ p, a < 2 ^ P) → tabP P p < 2 ^ (p.length * P)
  | [], _ => by simp [tabP]
  | a :: q, h => by
    have h1 := h a (by simp)
    have h2 := tab_lt q (fun b hb => h b (by simp [hb]))
    simp only [tabP, List.length_cons]
    rw [Nat.add_mul, Nat.one_mul, Nat.pow_add]
    have h3 : 2 ^ P * (tabP P q + 1) ≤ 2 ^ P * 2 ^ (q.length * P) := Nat.mul_le_mul_left _ h2
    rw [Nat.mul_add, Nat.mul_one] at h3
    rw [Nat.mul_comm (2 ^ (q.length * P))]
    omega
theorem rowT_zero {P a q : Nat} (h : a < 2 ^ P) : rowT (a + 2 ^ P * q) P 0 = a := by
  unfold rowT
  rw [Nat.zero_mul, Nat.pow_zero, Nat.div_one, Nat.add_mul_mod_self_left, Nat.mod_eq_of_lt h]
theorem rowT_succ {P a q : Nat} (h : a < 2 ^ P) (i : Nat) : rowT (a + 2 ^ P * q) P (i + 1) = rowT q P i := by
  unfold rowT
  rw [Nat.add_mul, Nat.one_mul, Nat.add_comm (i * P), Nat.pow_add, ← Nat.div_div_eq_div_mul, Nat.add_mul_div_left _ _ (Nat.two_pow_pos P), Nat.div_eq_of_lt h, Nat.zero_add]
theorem tab_rows {P : Nat} : ∀ (p : List Nat), (∀ a ∈ p, a < 2 ^ P) → rowsT (tabP P p) P p.length = p
  | [], _ => rfl
  | a :: q, h => by
    have h1 := h a (by simp)
    have h2 := tab_rows q (fun b hb => h b (by simp [hb]))
    unfold rowsT at h2 ⊢
    rw [List.length_cons, List.range_succ_eq_map, List.map_cons, List.map_map]
    simp only [tabP]
    rw [rowT_zero h1]
    congr 1
    exact (List.map_congr_left fun i hi => rowT_succ h1 i).trans h2
theorem comB_is (x y m P : Nat) : comB x y m P (2 ^ P) = comTo x y m P (2 ^ (m * P)) := by
  rw [Bool.eq_iff_iff]
  unfold comB comTo
  rw [List.all_eq_true, allLt_iff]
  have key : ∀ t, agL x y (rowsT t P m, tupV x (rowsT t P m) P) = comT x y m P t := fun t => by
    unfold agL comT
    rw [fst_is, snd_is]
  constructor
  · intro h t ht
    rw [← key]
    refine h _ (List.mem_map.2 ⟨rowsT t P m, allP_mem.2 ⟨rowsT_len t P m, fun a ha => ?_⟩, rfl⟩)
    simp only [rowsT, List.mem_map] at ha
    obtain ⟨i, _, rfl⟩ := ha
    exact List.mem_range.2 (rowT_lt t P i)
  · rintro h l hl
    obtain ⟨p, hp, rfl⟩ := List.mem_map.1 hl
    obtain ⟨h1, h2⟩ := allP_mem.1 hp
    have hb : ∀ a ∈ p, a < 2 ^ P := fun a ha => List.mem_range.1 (h2 a ha)
    have e := tab_rows p hb
    have := h (tabP P p) (by have := tab_lt p hb; rwa [h1] at this)
    rw [← key, ← h1, e] at this
    exact this
end Go.Proofs.Ytbdhlokbpbiijab

/- CM4:
  l10Commute of the model by contract. -/
namespace Go.Proofs.Ytbdhlokbpbiijab
open Go.RowKit Go.Shelf
set_option linter.unusedVariables false
set_option linter.unusedSimpArgs false

/-- The model's memory while it looks at tables: both functions' boxes. -/
structure ComM (w : World) (m x P y : Nat) (W : World) : Prop where
  f0 : W.cell? ⟨w.heap.size, 0, none⟩ = some (.int .i64 (m : Int))
  f1 : W.cell? ⟨w.heap.size, 1, none⟩ = some (.int .i64 (x : Int))
  g0 : W.cell? ⟨w.heap.size + 1, 0, none⟩ = some (.int .i64 (P : Int))
  g1 : W.cell? ⟨w.heap.size + 1, 1, none⟩ = some (.int .i64 (y : Int))
  b : Below w.heap.size w W
theorem ComM.below {w W W' : World} {m x P y : Nat} (h : ComM w m x P y W) (hb : Below W.heap.size W W') : ComM w m x P y W' := ⟨kc hb h.f0, kc hb h.f1, kc hb h.g0, kc hb h.g1, bthen h.b hb⟩
theorem ComM.drew {w W : World} {m x P y : Nat} (h : ComM w m x P y W) : ComM w m x P y W.drew := h.below (Below.refl _ _).drew

set_option maxHeartbeats 1000000 in
theorem l01Rows_pow (k T : Nat) (hk : k ≤ 40) (hT : T = 2 ^ k) (w : World) :
    Calls Try.prog 91 #[.int .i64 (k : Int)] w fun e w' => e = .returned (.int .i64 (T : Int)) ∧ w = w' := by
  have hu : IntKind.u64.wrap (k : Int) = (k : Int) := by simp [IntKind.wrap, IntKind.bits, IntKind.signed]; omega
  have hlt : T < 2 ^ 62 := by rw [hT]; exact Nat.pow_lt_pow_right (by decide) (by omega)
  have e : (2 : Int) ^ k = (T : Int) := by rw [hT]; push_cast; rfl
  have hv : wrap64 ((2 : Int) ^ k) = (T : Int) := by rw [e, w64]; exact wrap64_small (by omega) (by omega)
  have hv2 : IntKind.i64.wrap ((2 : Int) ^ k) = (T : Int) := by rw [e]; exact wrap64_small (by omega) (by omega)
  clear hlt e hT
  go_enter Try.func91, Try.ntmps91
  go_wp2
  go_ret
  exact ⟨by first | rfl | (rw [← hv]; rfl) | (rw [← hv2]; rfl), rfl⟩

theorem row_and (t s P q : Nat) (ht : t < 2 ^ 62) (hq : q = 2 ^ P - 1) (hP : P ≤ 4) : bits .and .i64 ((t : Int) / 2 ^ s) (q : Int) = ((t / 2 ^ s % 2 ^ P : Nat) : Int) := by
  have h16 : 2 ^ P ≤ 2 ^ 4 := Nat.pow_le_pow_right (by decide) hP
  rw [shr_nat, bits_and_i64 _ _ (Nat.lt_of_le_of_lt (Nat.div_le_self _ _) ht) (by omega), hq, Nat.and_two_pow_sub_one_eq_mod]

set_option maxRecDepth 100000 in
set_option maxHeartbeats 8000000 in
theorem l10Commute_any {x R m : Nat} (ok : FOk (m : Int) x R) (m4 : m ≤ 4) {y Q P : Nat} (okg : FOk (P : Int) y Q) (w : World) :
    Calls Try.prog 75 #[.agg #[.int .i64 m, .int .i64 x], .agg #[.int .i64 P, .int .i64 y]] w fun e w' => e = .returned (.bool (comB x y m P Q)) ∧ Below w.heap.size w w' := by
  have hQ : Q = 2 ^ P := by have := okg.he; simpa using this
  have P4 : P ≤ 4 := by have := okg.h4; omega
  have e0 : comB x y m P Q = comTo x y m P (2 ^ (m * P)) := by rw [hQ]; exact comB_is x y m P
  rw [e0]
  clear e0
  obtain ⟨T, hT⟩ : ∃ T, T = 2 ^ (m * P) := ⟨_, rfl⟩
  have hMP : m * P ≤ 16 := Nat.mul_le_mul m4 P4
  have T16 : T ≤ 65536 := by rw [hT]; exact Nat.pow_le_pow_right (by decide) hMP
  rw [← hT]
  obtain ⟨q, hq⟩ : ∃ q, q = 2 ^ P - 1 := ⟨_, rfl⟩
  have hQ0 := okg.r0
  have hQ16 := okg.r16
  have hqw : IntKind.i64.wrap ((Q : Int) - 1) = (q : Int) := by rw [show (Q : Int) - 1 = (q : Int) by omega]; exact wrap64_small (by omega) (by omega)
  have hmp : IntKind.i64.wrap ((m : Int) * (P : Int)) = ((m * P : Nat) : Int) := by rw [show (m : Int) * (P : Int) = ((m * P : Nat) : Int) by push_cast; rfl]; exact wrap64_small (by omega) (by omega)
  have RT := Lib.hid (fun W => l01Rows_pow (m * P) T (by omega) hT W)
  have RQ := Lib.hid (fun W => l01Rows_is okg.h0 okg.h4 okg.hR W)
  have HQ := Lib.hid hq
  have hox := ok.hx
  have hoy := okg.hx
  have HIP := Lib.hid (fun (i : Nat) (hi : i < m) => (show i * P + P ≤ 16 by
    have h1 : (i + 1) * P ≤ m * P := Nat.mul_le_mul_right P hi
    rw [Nat.add_mul, Nat.one_mul] at h1; omega))
  generalize m * P = M at hmp RT hMP
  clear hT hq hQ
  obtain ⟨W1, hW1⟩ : ∃ W1, (w.alloc (.cells #[.int .i64 m, .int .i64 x] 43)).alloc (.cells #[.int .i64 P, .int .i64 y] 43) = W1 := ⟨_, rfl⟩
  have hM : ComM w m x P y W1 := by
    rw [← hW1]
    exact ⟨by simp [go_sem], by simp [go_sem], by simp [go_sem], by simp [go_sem], balloc (bnew _ _) _⟩
  have a0 := hM.f0
  have a1 := hM.f1
  have b0 := hM.g0
  have b1 := hM.g1
  go_enter Try.func75, Try.ntmps75
  go_wp2
  go_quiet (fail)
  go_wp2
  clear a0 a1 b0 b1 hW1
  have hM2 : ComM w m x P y (W1.drewN nq) := hM.below (below_drewN (Below.refl _ _) _)
  clear hM
  go_loopw [7] (fun t' wr => ∃ t : Nat, t ≤ T ∧ t' = .int .i64 t ∧ Hid (comTo x y m P t = true) ∧ ComM w m x P y wr) (fun t' _ => T - (intOf t').toNat)
  case atStart => exact ⟨0, by omega, rfl, Lib.hid rfl, hM2⟩
  case round =>
    clear hM2
    obtain ⟨t, ht, rfl, hcm, hM⟩ := hrel
    obtain ⟨wo, rfl⟩ : ∃ wo : World, wo = wr := ⟨_, rfl⟩
    by_cases hlt : t < T
    · have HN := fun (h : comT x y m P t = true) => Lib.hid (show comTo x y m P (t + 1) = true by rw [comTo_succ, hcm.out, h]; rfl)
      have HF := fun (h : comT x y m P t = false) => Lib.hid (show comTo x y m P T = false by
        cases hc : comTo x y m P T
        · rfl
        · have := allLt_iff.1 hc t hlt
          rw [h] at this
          cases this)
      have HN2 := Lib.hid HN
      have HF2 := Lib.hid HF
      clear HN HF
      have ht62 : t < 2 ^ 62 := by omega
      go_wp2_with (go_at_call 91; with_reducible refine (RT.out _).mono ?_; rintro e w' ⟨rfl, rfl⟩)
      go_loopw [8, 10] (fun s' i' wr => ∃ i : Nat, i ≤ m ∧ i' = .int .i64 i ∧ s' = .int .i64 (sumN (fun i => bitN y (rowT t P i)) i : Int) ∧ ComM w m x P y wr) (fun _ i' _ => m - (intOf i').toNat)
      case atStart => exact ⟨0, by omega, rfl, rfl, hM⟩
      case round =>
        clear hM
        obtain ⟨i, hi, rfl, rfl, hM⟩ := hrel
        by_cases hli : i < m
        · have hs16 := HIP.out i hli
          have hip : IntKind.i64.wrap ((i : Int) * (P : Int)) = ((i * P : Nat) : Int) := by rw [show (i : Int) * (P : Int) = ((i * P : Nat) : Int) by push_cast; rfl]; exact wrap64_small (by omega) (by omega)
          have HR := row_and t (i * P) P q ht62 HQ.out P4
          have hrl := rowT_lt t P i
          have hr16 : rowT t P i < 62 := Nat.lt_of_lt_of_le hrl (Nat.le_trans (Nat.pow_le_pow_right (by decide) P4) (by decide))
          have OS := Lib.hid (or_sum (fun i => bitN y (rowT t P i)) i (by omega) (fun r _ => bitN_le _ _))
          have AT := Lib.hid (fun W => l01At_any (P : Int) y (rowT t P i) hoy hr16 W)
          have hu : IntKind.u64.wrap ((i * P : Nat) : Int) = ((i * P : Nat) : Int) := by simp only [IntKind.wrap, IntKind.bits, IntKind.signed]; simp; omega
          have hui : IntKind.u64.wrap (i : Int) = (i : Int) := by simp [IntKind.wrap, IntKind.bits, IntKind.signed]; omega
          change bits .and .i64 ((t : Int) / 2 ^ (i * P)) (q : Int) = (rowT t P i : Int) at HR
          have b0 := hM.g0
          have b1 := hM.g1
          have hbl := bitN_le y (rowT t P i)
          have HM := Lib.hid hM
          clear hrl hM
          generalize i * P = s at hip HR hu hs16
          generalize bitN y (rowT t P i) = vb at AT OS hbl
          generalize rowT t P i = rr at HR AT hr16
          go_wp2_with (first
            | (go_at_call 91; with_reducible refine (RQ.out _).mono ?_; rintro e w' ⟨rfl, rfl⟩)
            | (go_at_call 71; with_reducible refine (AT.out _).mono ?_; rintro e w2 ⟨rfl, hb2⟩; have hM2 := HM.out.below hb2))
          go_roundw
          case rel => exact ⟨i + 1, by omega, by go_num, by rw [← OS.out], hM2⟩
          case measure => simp [intOf]; omega
        · obtain rfl : i = m := by omega
          obtain ⟨F, hF⟩ : ∃ F, F = fstT y t P i := ⟨_, rfl⟩
          have hF2 : sumN (fun j => bitN y (rowT t P j)) i = F := by rw [hF]; rfl
          rw [hF2]
          have hFl : F < 16 := by
            rw [hF]
            exact Nat.lt_of_lt_of_le (sumN_lt _ _ (fun _ _ => bitN_le _ _)) (by exact Nat.pow_le_pow_right (by decide) m4)
          have HFD := Lib.hid hF
          clear hF hF2
          go_wp2
          obtain ⟨wi, rfl⟩ : ∃ wi : World, wi = wr := ⟨_, rfl⟩
          go_loopw [9, 12] (fun s' k' wr => ∃ k : Nat, k ≤ P ∧ k' = .int .i64 k ∧ s' = .int .i64 (sumN (fun k => bitN x (colT t P i k)) k : Int) ∧ ComM w i x P y wr) (fun _ k' _ => P - (intOf k').toNat)
          case atStart => exact ⟨0, by omega, rfl, rfl, hM⟩
          case round =>
            clear hM
            obtain ⟨k, hk, rfl, rfl, hM⟩ := hrel
            by_cases hlk : k < P
            · go_wp2
              go_loopw [13, 14] (fun c' j' wq => wq = wr ∧ ∃ j : Nat, j ≤ i ∧ j' = .int .i64 j ∧ c' = .int .i64 (sumN (fun j => bitN t (j * P + k)) j : Int)) (fun _ j' _ => i - (intOf j').toNat)
              case atStart => exact ⟨rfl, 0, by omega, rfl, rfl⟩
              case round =>
                obtain ⟨rfl, j, hj, rfl, rfl⟩ := hrel
                by_cases hlj : j < i
                · have hs16 := HIP.out j hlj
                  have hjp : IntKind.i64.wrap ((j : Int) * (P : Int)) = ((j * P : Nat) : Int) := by rw [show (j : Int) * (P : Int) = ((j * P : Nat) : Int) by push_cast; rfl]; exact wrap64_small (by omega) (by omega)
                  have hjk : IntKind.i64.wrap (((j * P : Nat) : Int) + (k : Int)) = ((j * P + k : Nat) : Int) := by rw [show ((j * P : Nat) : Int) + (k : Int) = ((j * P + k : Nat) : Int) by push_cast; rfl]; exact wrap64_small (by omega) (by omega)
                  have hu : IntKind.u64.wrap ((j * P + k : Nat) : Int) = ((j * P + k : Nat) : Int) := by simp only [IntKind.wrap, IntKind.bits, IntKind.signed]; simp; omega
                  have huj : IntKind.u64.wrap (j : Int) = (j : Int) := by simp [IntKind.wrap, IntKind.bits, IntKind.signed]; omega
                  have hs62 : j * P + k < 62 := by omega
                  have HD := digit_eq t (j * P + k) ht62
                  have OS := Lib.hid (or_sum (fun j => bitN t (j * P + k)) j (by omega) (fun r _ => bitN_le _ _))
                  have hbl := bitN_le t (j * P + k)
                  clear hs16
                  generalize bitN t (j * P + k) = vb at HD OS hbl
                  generalize j * P + k = s2 at hjk HD hu hs62
                  generalize j * P = s1 at hjp hjk
                  go_wp2
                  go_roundw
                  case rel => exact ⟨(by first | trivial | rfl), j + 1, by omega, by go_num, by rw [← OS.out]⟩
                  case measure => simp [intOf]; omega
                · obtain rfl : j = i := by omega
                  have hcl : sumN (fun i => bitN t (i * P + k)) j < 16 := Nat.lt_of_lt_of_le (sumN_lt _ _ (fun _ _ => bitN_le _ _)) (by exact Nat.pow_le_pow_right (by decide) m4)
                  have AT := Lib.hid (fun W => l01At_any (j : Int) x (sumN (fun i => bitN t (i * P + k)) j) hox (by omega) W)
                  have OS := Lib.hid (or_sum (fun k => bitN x (colT t P j k)) k (by omega) (fun r _ => bitN_le _ _))
                  have OE : Hid (bitN x (sumN (fun i => bitN t (i * P + k)) j) = bitN x (colT t P j k)) := Lib.hid rfl
                  have huk : IntKind.u64.wrap (k : Int) = (k : Int) := by simp [IntKind.wrap, IntKind.bits, IntKind.signed]; omega
                  have hbl := bitN_le x (sumN (fun i => bitN t (i * P + k)) j)
                  have a0 := hM.f0
                  have a1 := hM.f1
                  have HM := Lib.hid hM
                  rw [← OE.out] at OS
                  clear hM OE
                  generalize bitN x (sumN (fun i => bitN t (i * P + k)) j) = vb at AT OS hbl
                  generalize sumN (fun i => bitN t (i * P + k)) j = cc at AT hcl ⊢
                  go_wp2_with (go_at_call 71; with_reducible refine (AT.out _).mono ?_; rintro e w2 ⟨rfl, hb2⟩; have hM2 := HM.out.below hb2)
                  go_roundw
                  case rel => exact ⟨k + 1, by omega, by go_num, by rw [← OS.out], hM2⟩
                  case measure => simp [intOf]; omega
            · obtain rfl : k = P := by omega
              obtain ⟨S, hS⟩ : ∃ S, S = sndT x t k i := ⟨_, rfl⟩
              have hS2 : sumN (fun j => bitN x (colT t k i j)) k = S := by rw [hS]; rfl
              rw [hS2]
              have hSl : S < 16 := by
                rw [hS]
                exact Nat.lt_of_lt_of_le (sumN_lt _ _ (fun _ _ => bitN_le _ _)) (by exact Nat.pow_le_pow_right (by decide) P4)
              have AF := Lib.hid (fun W => l01At_any (i : Int) x F hox (by omega) W)
              have AG := Lib.hid (fun W => l01At_any (k : Int) y S hoy (by omega) W)
              have HC : Hid (comT x y i k t = (bitN x F == bitN y S)) := Lib.hid (by unfold comT; rw [← HFD.out, ← hS])
              clear hS hS2
              generalize bitN x F = v1 at AF HC
              generalize bitN y S = v2 at AG HC
              have a0 := hM.f0
              have a1 := hM.f1
              have b0 := hM.g0
              have b1 := hM.g1
              by_cases hv : v1 = v2
              · have hne : ((v1 : Int) != (v2 : Int)) = false := by simp [hv]
                have HX := HN2.out (by rw [HC.out]; simp [hv])
                clear hv HC
                go_wp2
                go_region_held3 (fun w' => (((w'.cell? ⟨w.heap.size, 0, none⟩ = some (.int .i64 i) ∧ w'.cell? ⟨w.heap.size, 1, none⟩ = some (.int .i64 x)) ∧ (w'.cell? ⟨w.heap.size + 1, 0, none⟩ = some (.int .i64 k) ∧ w'.cell? ⟨w.heap.size + 1, 1, none⟩ = some (.int .i64 y))) ∧ Below w.heap.size w w')) (first | exact ⟨⟨⟨a0, a1⟩, ⟨b0, b1⟩⟩, hM.b.drew⟩ | assumption | exact step_heldF hb1 (by assumption))
                  (first
                    | (go_at_call 71; with_reducible refine (AG.out _).mono ?_; rintro e w' ⟨rfl, hb1⟩)
                    | (go_at_call 71; with_reducible refine (AF.out _).mono ?_; rintro e w' ⟨rfl, hb1⟩))
                obtain ⟨⟨⟨y0, y1⟩, ⟨z0, z1⟩⟩, hB9⟩ := (‹((_ ∧ _) ∧ (_ ∧ _)) ∧ Below _ _ _›)
                go_wp2
                go_roundw
                case rel => exact ⟨t + 1, by omega, by go_num, HX, ⟨y0, y1, z0, z1, hB9⟩⟩
                case measure => simp [intOf]; omega
              · have hne : ((v1 : Int) != (v2 : Int)) = true := by simp; omega
                have HX := HF2.out (by rw [HC.out]; simp [hv])
                clear hv HC
                go_wp2
                go_region_held3 (fun w' => (((w'.cell? ⟨w.heap.size, 0, none⟩ = some (.int .i64 i) ∧ w'.cell? ⟨w.heap.size, 1, none⟩ = some (.int .i64 x)) ∧ (w'.cell? ⟨w.heap.size + 1, 0, none⟩ = some (.int .i64 k) ∧ w'.cell? ⟨w.heap.size + 1, 1, none⟩ = some (.int .i64 y))) ∧ Below w.heap.size w w')) (first | exact ⟨⟨⟨a0, a1⟩, ⟨b0, b1⟩⟩, hM.b.drew⟩ | assumption | exact step_heldF hb1 (by assumption))
                  (first
                    | (go_at_call 71; with_reducible refine (AG.out _).mono ?_; rintro e w' ⟨rfl, hb1⟩)
                    | (go_at_call 71; with_reducible refine (AF.out _).mono ?_; rintro e w' ⟨rfl, hb1⟩))
                obtain ⟨⟨⟨y0, y1⟩, ⟨z0, z1⟩⟩, hB9⟩ := (‹((_ ∧ _) ∧ (_ ∧ _)) ∧ Below _ _ _›)
                go_wp2
                go_ret
                exact ⟨by rw [HX.out]; rfl, hB9⟩
    · obtain rfl : t = T := by omega
      have H1 := hcm.out
      go_wp2_with (go_at_call 91; with_reducible refine (RT.out _).mono ?_; rintro e w' ⟨rfl, rfl⟩)
      go_ret
      exact ⟨by rw [H1]; rfl, hM.b⟩
end Go.Proofs.Ytbdhlokbpbiijab

/- CM5:
  AreCommuting in both packages. -/
namespace Go.Proofs.Ytbdhlokbpbiijab
open Go.RowKit Go.Shelf
set_option linter.unusedVariables false
set_option linter.unusedSimpArgs false

set_option maxRecDepth 100000 in
set_option maxHeartbeats 2000000 in
theorem implAreCommuting_a {n0 b0 : Int} (h : isF n0 b0 = false) (n1 b1 : Int) (w : World) :
    Calls Try.prog 35 #[.agg #[.int .i64 n0, .int .i64 b0], .agg #[.int .i64 n1, .int .i64 b1]] w fun e w' => e = .returned (.tuple #[.bool false, .int .i64 1]) ∧ Below w.heap.size w w' := by
  obtain ⟨W1, hW1⟩ : ∃ W1, (w.alloc (.cells #[.int .i64 n0, .int .i64 b0] 43)).alloc (.cells #[.int .i64 n1, .int .i64 b1] 43) = W1 := ⟨_, rfl⟩
  have p0 : W1.cell? ⟨w.heap.size, 0, none⟩ = some (.int .i64 n0) := by rw [← hW1]; simp [go_sem]
  have p1 : W1.cell? ⟨w.heap.size, 1, none⟩ = some (.int .i64 b0) := by rw [← hW1]; simp [go_sem]
  have q0 : W1.cell? ⟨w.heap.size + 1, 0, none⟩ = some (.int .i64 n1) := by rw [← hW1]; simp [go_sem]
  have q1 : W1.cell? ⟨w.heap.size + 1, 1, none⟩ = some (.int .i64 b1) := by rw [← hW1]; simp [go_sem]
  have hB : Below w.heap.size w W1 := by rw [← hW1]; exact balloc (bnew _ _) _
  go_enter Try.func35, Try.ntmps35
  go_wp2_with (go_at_call 63; refine (IsFunc_is h _).mono ?_; rintro e w2 ⟨rfl, hb2⟩)
  go_ret2
  exact ⟨rfl, bthen hB hb2⟩

set_option maxRecDepth 100000 in
set_option maxHeartbeats 2000000 in
theorem implAreCommuting_b {n0 b0 n1 b1 : Int} (h : isF n0 b0 = true) (h2 : isF n1 b1 = false) (w : World) :
    Calls Try.prog 35 #[.agg #[.int .i64 n0, .int .i64 b0], .agg #[.int .i64 n1, .int .i64 b1]] w fun e w' => e = .returned (.tuple #[.bool false, .int .i64 1]) ∧ Below w.heap.size w w' := by
  obtain ⟨W1, hW1⟩ : ∃ W1, (w.alloc (.cells #[.int .i64 n0, .int .i64 b0] 43)).alloc (.cells #[.int .i64 n1, .int .i64 b1] 43) = W1 := ⟨_, rfl⟩
  have p0 : W1.cell? ⟨w.heap.size, 0, none⟩ = some (.int .i64 n0) := by rw [← hW1]; simp [go_sem]
  have p1 : W1.cell? ⟨w.heap.size, 1, none⟩ = some (.int .i64 b0) := by rw [← hW1]; simp [go_sem]
  have q0 : W1.cell? ⟨w.heap.size + 1, 0, none⟩ = some (.int .i64 n1) := by rw [← hW1]; simp [go_sem]
  have q1 : W1.cell? ⟨w.heap.size + 1, 1, none⟩ = some (.int .i64 b1) := by rw [← hW1]; simp [go_sem]
  have hB : Below w.heap.size w W1 := by rw [← hW1]; exact balloc (bnew _ _) _
  go_enter Try.func35, Try.ntmps35
  go_wp2_with fail
  refine (IsFunc_is h _).mono ?_
  rintro e w2 ⟨rfl, hb2⟩
  have r0 := kc hb2 q0
  have r1 := kc hb2 q1
  have hB2 := bthen hB hb2
  clear p0 p1 q0 q1 hW1
  go_wp2_with fail
  refine (IsFunc_is h2 _).mono ?_
  rintro e w3 ⟨rfl, hb3⟩
  go_wp2
  go_ret2
  exact ⟨rfl, bthen hB2 hb3⟩

set_option maxRecDepth 100000 in
set_option maxHeartbeats 2000000 in
theorem implAreCommuting_yes {m x R P y Q : Nat} (ok : FOk (m : Int) x R) (okg : FOk (P : Int) y Q) (w : World) :
    Calls Try.prog 35 #[.agg #[.int .i64 m, .int .i64 x], .agg #[.int .i64 P, .int .i64 y]] w fun e w' => e = .returned (.tuple #[.bool (comB x y m P Q), .int .i64 0]) ∧ Below w.heap.size w w' := by
  have h := ok.is
  have h2 := okg.is
  have m4 : m ≤ 4 := by have := ok.h4; omega
  have CB := Lib.hid (fun W => areCommuting_any ok m4 okg W)
  generalize comB x y m P Q = cb at CB ⊢
  obtain ⟨W1, hW1⟩ : ∃ W1, (w.alloc (.cells #[.int .i64 m, .int .i64 x] 43)).alloc (.cells #[.int .i64 P, .int .i64 y] 43) = W1 := ⟨_, rfl⟩
  have p0 : W1.cell? ⟨w.heap.size, 0, none⟩ = some (.int .i64 m) := by rw [← hW1]; simp [go_sem]
  have p1 : W1.cell? ⟨w.heap.size, 1, none⟩ = some (.int .i64 x) := by rw [← hW1]; simp [go_sem]
  have q0 : W1.cell? ⟨w.heap.size + 1, 0, none⟩ = some (.int .i64 P) := by rw [← hW1]; simp [go_sem]
  have q1 : W1.cell? ⟨w.heap.size + 1, 1, none⟩ = some (.int .i64 y) := by rw [← hW1]; simp [go_sem]
  have hB : Below w.heap.size w W1 := by rw [← hW1]; exact balloc (bnew _ _) _
  go_enter Try.func35, Try.ntmps35
  go_wp2_with fail
  refine (IsFunc_is h _).mono ?_
  rintro e w2 ⟨rfl, hb2⟩
  have s0 := kc hb2 p0
  have s1 := kc hb2 p1
  have r0 := kc hb2 q0
  have r1 := kc hb2 q1
  have hB2 := bthen hB hb2
  clear p0 p1 q0 q1 hW1
  go_wp2_with fail
  refine (IsFunc_is h2 _).mono ?_
  rintro e w3 ⟨rfl, hb3⟩
  have u0 := kc hb3 s0
  have u1 := kc hb3 s1
  have t0 := kc hb3 r0
  have t1 := kc hb3 r1
  have hB3 := bthen hB2 hb3
  clear s0 s1 r0 r1
  go_wp2_with (go_at_call 76; refine (CB.out _).mono ?_; rintro e w4 ⟨rfl, hb4⟩)
  go_ret2
  exact ⟨rfl, bthen hB3 hb4⟩

set_option maxRecDepth 100000 in
set_option maxHeartbeats 2000000 in
theorem specAreCommuting_a {n0 b0 : Int} (h : isF n0 b0 = false) (n1 b1 : Int) (w : World) :
    Calls Try.prog 34 #[.agg #[.int .i64 n0, .int .i64 b0], .agg #[.int .i64 n1, .int .i64 b1]] w fun e w' => e = .returned (.tuple #[.bool false, .int .i64 1]) ∧ Below w.heap.size w w' := by
  obtain ⟨W1, hW1⟩ : ∃ W1, (w.alloc (.cells #[.int .i64 n0, .int .i64 b0] 43)).alloc (.cells #[.int .i64 n1, .int .i64 b1] 43) = W1 := ⟨_, rfl⟩
  have p0 : W1.cell? ⟨w.heap.size, 0, none⟩ = some (.int .i64 n0) := by rw [← hW1]; simp [go_sem]
  have p1 : W1.cell? ⟨w.heap.size, 1, none⟩ = some (.int .i64 b0) := by rw [← hW1]; simp [go_sem]
  have q0 : W1.cell? ⟨w.heap.size + 1, 0, none⟩ = some (.int .i64 n1) := by rw [← hW1]; simp [go_sem]
  have q1 : W1.cell? ⟨w.heap.size + 1, 1, none⟩ = some (.int .i64 b1) := by rw [← hW1]; simp [go_sem]
  have hB : Below w.heap.size w W1 := by rw [← hW1]; exact balloc (bnew _ _) _
  go_enter Try.func34, Try.ntmps34
  go_wp2_with (go_at_call 61; refine (l01Is_is h _).mono ?_; rintro e w2 ⟨rfl, hb2⟩)
  go_ret2
  exact ⟨rfl, bthen hB hb2⟩

set_option maxRecDepth 100000 in
set_option maxHeartbeats 2000000 in
theorem specAreCommuting_b {n0 b0 n1 b1 : Int} (h : isF n0 b0 = true) (h2 : isF n1 b1 = false) (w : World) :
    Calls Try.prog 34 #[.agg #[.int .i64 n0, .int .i64 b0], .agg #[.int .i64 n1, .int .i64 b1]] w fun e w' => e = .returned (.tuple #[.bool false, .int .i64 1]) ∧ Below w.heap.size w w' := by
  obtain ⟨W1, hW1⟩ : ∃ W1, (w.alloc (.cells #[.int .i64 n0, .int .i64 b0] 43)).alloc (.cells #[.int .i64 n1, .int .i64 b1] 43) = W1 := ⟨_, rfl⟩
  have p0 : W1.cell? ⟨w.heap.size, 0, none⟩ = some (.int .i64 n0) := by rw [← hW1]; simp [go_sem]
  have p1 : W1.cell? ⟨w.heap.size, 1, none⟩ = some (.int .i64 b0) := by rw [← hW1]; simp [go_sem]
  have q0 : W1.cell? ⟨w.heap.size + 1, 0, none⟩ = some (.int .i64 n1) := by rw [← hW1]; simp [go_sem]
  have q1 : W1.cell? ⟨w.heap.size + 1, 1, none⟩ = some (.int .i64 b1) := by rw [← hW1]; simp [go_sem]
  have hB : Below w.heap.size w W1 := by rw [← hW1]; exact balloc (bnew _ _) _
  go_enter Try.func34, Try.ntmps34
  go_wp2_with fail
  refine (l01Is_is h _).mono ?_
  rintro e w2 ⟨rfl, hb2⟩
  have r0 := kc hb2 q0
  have r1 := kc hb2 q1
  have hB2 := bthen hB hb2
  clear p0 p1 q0 q1 hW1
  go_wp2_with fail
  refine (l01Is_is h2 _).mono ?_
  rintro e w3 ⟨rfl, hb3⟩
  go_wp2
  go_ret2
  exact ⟨rfl, bthen hB2 hb3⟩

set_option maxRecDepth 100000 in
set_option maxHeartbeats 2000000 in
theorem specAreCommuting_yes {m x R P y Q : Nat} (ok : FOk (m : Int) x R) (okg : FOk (P : Int) y Q) (w : World) :
    Calls Try.prog 34 #[.agg #[.int .i64 m, .int .i64 x], .agg #[.int .i64 P, .int .i64 y]] w fun e w' => e = .returned (.tuple #[.bool (comB x y m P Q), .int .i64 0]) ∧ Below w.heap.size w w' := by
  have h := ok.is
  have h2 := okg.is
  have m4 : m ≤ 4 := by have := ok.h4; omega
  have CB := Lib.hid (fun W => l10Commute_any ok m4 okg W)
  generalize comB x y m P Q = cb at CB ⊢
  obtain ⟨W1, hW1⟩ : ∃ W1, (w.alloc (.cells #[.int .i64 m, .int .i64 x] 43)).alloc (.cells #[.int .i64 P, .int .i64 y] 43) = W1 := ⟨_, rfl⟩
  have p0 : W1.cell? ⟨w.heap.size, 0, none⟩ = some (.int .i64 m) := by rw [← hW1]; simp [go_sem]
  have p1 : W1.cell? ⟨w.heap.size, 1, none⟩ = some (.int .i64 x) := by rw [← hW1]; simp [go_sem]
  have q0 : W1.cell? ⟨w.heap.size + 1, 0, none⟩ = some (.int .i64 P) := by rw [← hW1]; simp [go_sem]
  have q1 : W1.cell? ⟨w.heap.size + 1, 1, none⟩ = some (.int .i64 y) := by rw [← hW1]; simp [go_sem]
  have hB : Below w.heap.size w W1 := by rw [← hW1]; exact balloc (bnew _ _) _
  go_enter Try.func34, Try.ntmps34
  go_wp2_with fail
  refine (l01Is_is h _).mono ?_
  rintro e w2 ⟨rfl, hb2⟩
  have s0 := kc hb2 p0
  have s1 := kc hb2 p1
  have r0 := kc hb2 q0
  have r1 := kc hb2 q1
  have hB2 := bthen hB hb2
  clear p0 p1 q0 q1 hW1
  go_wp2_with fail
  refine (l01Is_is h2 _).mono ?_
  rintro e w3 ⟨rfl, hb3⟩
  have u0 := kc hb3 s0
  have u1 := kc hb3 s1
  have t0 := kc hb3 r0
  have t1 := kc hb3 r1
  have hB3 := bthen hB2 hb3
  clear s0 s1 r0 r1
  go_wp2_with (go_at_call 75; refine (CB.out _).mono ?_; rintro e w4 ⟨rfl, hb4⟩)
  go_ret2
  exact ⟨rfl, bthen hB3 hb4⟩

theorem bothAreCommuting (n0 b0 n1 b1 : Int) (_ : (Lit.int .i64 n0).wf = true) (_ : (Lit.int .i64 b0).wf = true) (_ : (Lit.int .i64 n1).wf = true) (_ : (Lit.int .i64 b1).wf = true) : ∃ (rx : Bool) (rc : Int),
    (∀ w, Calls Try.prog 34 #[.agg #[.int .i64 n0, .int .i64 b0], .agg #[.int .i64 n1, .int .i64 b1]] w fun e w' => e = .returned (.tuple #[.bool rx, .int .i64 rc]) ∧ Below w.heap.size w w') ∧
    (∀ w, Calls Try.prog 35 #[.agg #[.int .i64 n0, .int .i64 b0], .agg #[.int .i64 n1, .int .i64 b1]] w fun e w' => e = .returned (.tuple #[.bool rx, .int .i64 rc]) ∧ Below w.heap.size w w') := by
  cases h : isF n0 b0
  · exact ⟨_, _, specAreCommuting_a h n1 b1, implAreCommuting_a h n1 b1⟩
  · cases h2 : isF n1 b1
    · exact ⟨_, _, specAreCommuting_b h h2, implAreCommuting_b h h2⟩
    · obtain ⟨x, R, rfl, ok⟩ := fok h
      obtain ⟨y, Q, rfl, okg⟩ := fok h2
      obtain ⟨m, rfl⟩ : ∃ m : Nat, n0 = (m : Int) := Int.eq_ofNat_of_zero_le ok.h0
      obtain ⟨P, rfl⟩ : ∃ P : Nat, n1 = (P : Int) := Int.eq_ofNat_of_zero_le okg.h0
      exact ⟨_, _, specAreCommuting_yes ok okg, implAreCommuting_yes ok okg⟩
end Go.Proofs.Ytbdhlokbpbiijab

/- FAreCommuting:
  The walk of the law on AreCommuting: both packages answer alike. -/
namespace Go.Proofs.Ytbdhlokbpbiijab
open Go.RowKit
set_option linter.unusedVariables false
set_option linter.unusedSimpArgs false

set_option maxRecDepth 100000 in
set_option maxHeartbeats 8000000 in
theorem fnExactAreCommuting_walk (n0 b0 n1 b1 : Int) (w : World) (x0 : (Lit.int .i64 n0).wf = true) (x1 : (Lit.int .i64 b0).wf = true) (x2 : (Lit.int .i64 n1).wf = true) (x3 : (Lit.int .i64 b1).wf = true) :
    Calls Try.prog 9 #[.agg #[.int .i64 n0, .int .i64 b0], .agg #[.int .i64 n1, .int .i64 b1]] w fun e w' => e = .returned (.bool true) ∧ Below w.heap.size w w' := by
  obtain ⟨rx, rc, c1, c2⟩ := bothAreCommuting n0 b0 n1 b1 x0 x1 x2 x3
  have C1 := Lib.hid c1
  have C2 := Lib.hid c2
  clear c1 c2
  obtain ⟨W1, hW1⟩ : ∃ W1, (w.alloc (.cells #[.int .i64 n0, .int .i64 b0] 40)).alloc (.cells #[.int .i64 n1, .int .i64 b1] 40) = W1 := ⟨_, rfl⟩
  have T0 : ((W1.cell? ⟨w.heap.size, 0, none⟩ = some (.int .i64 n0) ∧ W1.cell? ⟨w.heap.size, 1, none⟩ = some (.int .i64 b0)) ∧ (W1.cell? ⟨w.heap.size + 1, 0, none⟩ = some (.int .i64 n1) ∧ W1.cell? ⟨w.heap.size + 1, 1, none⟩ = some (.int .i64 b1))) ∧ Below w.heap.size w W1 := by
    rw [← hW1]
    exact ⟨⟨⟨by simp [go_sem], by simp [go_sem]⟩, ⟨by simp [go_sem], by simp [go_sem]⟩⟩, balloc (bnew _ _) _⟩
  have STH : Hid (∀ W W' : World, Below W.heap.size W W' → (((W.cell? ⟨w.heap.size, 0, none⟩ = some (.int .i64 n0) ∧ W.cell? ⟨w.heap.size, 1, none⟩ = some (.int .i64 b0)) ∧ (W.cell? ⟨w.heap.size + 1, 0, none⟩ = some (.int .i64 n1) ∧ W.cell? ⟨w.heap.size + 1, 1, none⟩ = some (.int .i64 b1))) ∧ Below w.heap.size w W) → (((W'.cell? ⟨w.heap.size, 0, none⟩ = some (.int .i64 n0) ∧ W'.cell? ⟨w.heap.size, 1, none⟩ = some (.int .i64 b0)) ∧ (W'.cell? ⟨w.heap.size + 1, 0, none⟩ = some (.int .i64 n1) ∧ W'.cell? ⟨w.heap.size + 1, 1, none⟩ = some (.int .i64 b1))) ∧ Below w.heap.size w W')) := Lib.hid fun W W' h hs => ⟨⟨⟨kc h hs.1.1.1, kc h hs.1.1.2⟩, ⟨kc h hs.1.2.1, kc h hs.1.2.2⟩⟩, bthen hs.2 h⟩
  go_enter Try.func9, Try.ntmps9
  go_wp2_with fail
  clear hW1
  have HT0 := Lib.hid T0
  clear T0
  go_region_held3 (fun W => ((W.cell? ⟨w.heap.size, 0, none⟩ = some (.int .i64 n0) ∧ W.cell? ⟨w.heap.size, 1, none⟩ = some (.int .i64 b0)) ∧ (W.cell? ⟨w.heap.size + 1, 0, none⟩ = some (.int .i64 n1) ∧ W.cell? ⟨w.heap.size + 1, 1, none⟩ = some (.int .i64 b1))) ∧ Below w.heap.size w W)
    (first | with_reducible exact STH.out _ _ (Below.refl _ _).drew HT0.out | (with_reducible refine STH.out _ _ hb5 ?_; with_reducible assumption) | (with_reducible refine STH.out _ _ (bnew _ _) ?_; with_reducible assumption) | with_reducible assumption)
    (first
      | (go_at_call 24; refine (toFunc_any _ _ _).mono ?_; rintro e w5 ⟨rfl, hb5⟩)
      | (go_at_call 34; refine (C1.out _).mono ?_; rintro e w6 ⟨rfl, hb5⟩; have T8 := STH.out _ _ hb5 (by with_reducible assumption)))
  all_goals
    have HT8 := Lib.hid T8
    clear T8
    go_wp2_with fail
    go_region_held3 (fun W => ((W.cell? ⟨w.heap.size, 0, none⟩ = some (.int .i64 n0) ∧ W.cell? ⟨w.heap.size, 1, none⟩ = some (.int .i64 b0)) ∧ (W.cell? ⟨w.heap.size + 1, 0, none⟩ = some (.int .i64 n1) ∧ W.cell? ⟨w.heap.size + 1, 1, none⟩ = some (.int .i64 b1))) ∧ Below w.heap.size w W)
      (first | with_reducible exact STH.out _ _ (Below.refl _ _).drew HT8.out | (with_reducible refine STH.out _ _ hb5 ?_; with_reducible assumption) | (with_reducible refine STH.out _ _ (bnew _ _) ?_; with_reducible assumption) | with_reducible assumption)
      (first
        | (go_at_call 24; refine (toFunc_any _ _ _).mono ?_; rintro e w5 ⟨rfl, hb5⟩)
        | (go_at_call 35; refine (C2.out _).mono ?_; rintro e w6 ⟨rfl, hb5⟩; have T8 := STH.out _ _ hb5 (by with_reducible assumption)))
    all_goals
      have hb9 := T8.2
      clear T8
      go_wp2
      go_ret
      exact ⟨rfl, hb9⟩
end Go.Proofs.Ytbdhlokbpbiijab
