/-
  leastTrueRows of the program.
-/
import Derived.Test.YtcolaggkeekgoaaMO4
import Derived.Test.YtcolaggkeekgoaaCT2
import Derived.Test.YtcolaggkeekgoaaM4
namespace Go.Proofs.Ytcolaggkeekgoaa
open Go.RowKit Go.Shelf
attribute [local go_sem] Oper.semAt_some
set_option linter.unusedVariables false
set_option linter.unusedSimpArgs false

/-- .. those found so far. -/
def ltrF {R : Nat} (x : Nat) (pre : List (Row R)) : List Nat := pre.foldl (fun l y => if (bitN x y.1 == 1 && !abv y.1 l) = true then l ++ [y.1] else l) []
theorem ltrF_snoc {R : Nat} (x : Nat) (pre : List (Row R)) (y : Row R) : ltrF x (pre ++ [y]) = if (bitN x y.1 == 1 && !abv y.1 (ltrF x pre)) = true then ltrF x pre ++ [y.1] else ltrF x pre := by simp [ltrF, List.foldl_append]
theorem ltrF_len {R : Nat} (x : Nat) (l : List (Row R)) : (ltrF x l.reverse).length ≤ l.length := by
  induction l with
  | nil => exact Nat.le_refl _
  | cons y l ih =>
    rw [List.reverse_cons, ltrF_snoc]
    split
    · rw [List.length_append]; simp; exact ih
    · simp; omega
theorem ltrF_le {R : Nat} (x : Nat) (pre : List (Row R)) : (ltrF x pre).length ≤ pre.length := by
  have := ltrF_len x pre.reverse
  rwa [List.reverse_reverse, List.length_reverse] at this
theorem ltrF_lt' {R : Nat} (x : Nat) (l : List (Row R)) : ∀ o ∈ ltrF x l.reverse, o < R := by
  induction l with
  | nil => intro o ho; cases ho
  | cons y l ih =>
    intro o ho
    rw [List.reverse_cons, ltrF_snoc] at ho
    split at ho
    · rw [List.mem_append] at ho
      rcases ho with h | h
      · exact ih o h
      · have : o = y.1 := by simpa using h
        rw [this]; exact y.2
    · exact ih o ho
theorem ltrF_lt {R : Nat} (x : Nat) (pre : List (Row R)) : ∀ o ∈ ltrF x pre, o < R := by
  have := ltrF_lt' x pre.reverse
  rwa [List.reverse_reverse] at this
theorem ltrF_upto {R : Nat} (hR : 0 < R) (x k : Nat) (hk : k ≤ R) : ltrF x (upto hR k) = ltr x k := by
  induction k with
  | zero => rfl
  | succ k ih => rw [upto_succ, ltrF_snoc, ih (by omega), rowAt_val hR (by omega), ltr]

set_option maxRecDepth 100000 in
set_option maxHeartbeats 4000000 in
theorem leastTrueRows_any {n : Int} {x R : Nat} (ok : FOk n x R) (w : World) :
    Calls Try.prog 59 #[.agg #[.int .i64 n, .int .i64 (x : Int)]] w (ListPost w.heap.size (nL (ltr x R)) w) := by
  obtain ⟨i0, hi, hz0, hz1, hz2⟩ := info_parts infoI
  have r0 := ok.r0
  have r16 := ok.r16
  refine (callsIn_wide (n := 3)).1 ?_
  refine callsIn_of_wp_marks Try.func59 rfl trivial ?_ rfl
  simp only [Try.ntmps59, List.size_toArray, List.length_cons, List.length_nil, Nat.reduceAdd, Nat.reduceSub, Array.replicate_succ, Array.replicate_zero, List.push_toArray, List.append_toArray, List.nil_append, List.cons_append]
  gi_wp2_with (refine ⟨trivial, ?_⟩; gi_at_call 84; refine (callsIn_wide.2 (rowsOf_any _ _)).mono ?_; rintro e w' ⟨rfl, rfl⟩)
  obtain ⟨W0, hW0⟩ : ∃ W0, ((w.alloc (.cells #[.int .i64 n, .int .i64 (x : Int)] 24)).alloc (.cells #[.slice none 0 0] 33)).alloc (.cells #[.int .i64 n] 2) = W0 := ⟨_, rfl⟩
  have s0 : W0.cell? ⟨w.heap.size, 0, none⟩ = some (.int .i64 n) := by rw [← hW0]; simp [go_sem]
  have s1 : W0.cell? ⟨w.heap.size, 1, none⟩ = some (.int .i64 (x : Int)) := by rw [← hW0]; simp [go_sem]
  have hbx : Boxed W0 (w.heap.size + 1) 33 (.slice none 0 0) := by
    rw [← hW0, show w.heap.size + 1 = (w.alloc (.cells #[.int .i64 n, .int .i64 (x : Int)] 24)).heap.size by simp]; exact (Boxed.new _ _ _).alloc _
  have cM : W0.cell? ⟨w.heap.size + 1 + 1, 0, none⟩ = some (.int .i64 n) := by rw [← hW0]; simp [go_sem]
  have hsz : W0.heap.size = w.heap.size + 3 := by rw [← hW0]; simp [go_sem]
  have hB0 : Below w.heap.size w W0 := by rw [← hW0]; exact balloc (balloc (bnew _ _) _) _
  rw [hW0]
  clear hW0
  refine wpIn_rangeFunc_ownF (α := Row R) rfl (by omega) (gf := 100) (lb := #[.pointer (some ⟨w.heap.size + 1 + 1, 0, none⟩)]) rfl trivial (enters_of Try.func100 (by kernel_rfl) rfl)
    (rows_stops (3 - 1) (by omega) (w.heap.size + 1 + 1) (w.heap.size + 1) n R ok.h0 ok.h4 r0 r16 ok.hR W0 (by omega) cM) belowK_t (belowK_b (by omega)) (Below.refl _ _) (fun _ => rfl)
    (fun pre W => ((∃ v, Boxed W (w.heap.size + 1) 33 v ∧ W.ownsRow (w.heap.size + 1) 2 1 v (nL (ltrF x pre)).length (ints (nL (ltrF x pre))) ∧ True) ∧ FBox w.heap.size n x W) ∧ Below w.heap.size w W)
    (fun _ _ _ => False)
    (OwnFrom.and (OwnFrom.and (Own.from (holdsRow_own (w.heap.size + 1) (w.heap.size + 1) 33 2 1 (fun pre => (nL (ltrF x pre)).length) (fun pre => ints (nL (ltrF x pre))) (fun _ _ => True)) _) (Own.from (fun s A B row hs hg hr => ⟨cell_kept hs.c0 hg hr, cell_kept hs.c1 hg hr⟩) _)) (ownFrom_below (by omega) (by omega)))
    (fun _ _ _ _ _ hs _ _ => hs)
    ⟨⟨⟨_, hbx, World.ownsRow_nil _ _ _ _, trivial⟩, ⟨s0, s1⟩⟩, hB0⟩
    (fun y => { tmps := #[.agg #[.int .i64 n, .int .i64 (x : Int)], .pointer (some ⟨w.heap.size, 0, none⟩), .slice none 0 0, .pointer (some ⟨w.heap.size + 1, 0, none⟩), .int .i64 (y.1 : Int), .pointer (some ⟨w.heap.size, 0, none⟩), .int .i64 n,
      .func (.func 100) #[] #[.pointer (some ⟨w.heap.size + 1 + 1, 0, none⟩)], .int .i64 (y.1 : Int), undef, undef, undef, undef, undef, undef, undef, undef, undef, undef, undef, undef, undef, undef, undef], defers := [] }) ?assign ?body ?done ?stop
  case assign =>
    intro l y W K hK
    unfold encRow
    gi_wp2
    exact hK
  case body =>
    clear cM s0 s1 hbx hB0
    rintro l pre y W ⟨⟨⟨v, hv, hrow, _⟩, hf⟩, hB⟩ hlen
    have c0 := hf.c0
    have c1 := hf.c1
    have hr := y.2
    have hle : (nL (ltrF x pre)).length ≤ pre.length := by rw [nL_length]; exact ltrF_le x pre
    have hbw : w.heap.size + 1 ≤ W.heap.size := Nat.le_of_lt hv.lt
    have VR := Lib.hid (fun W => valueInRow_any n x y.1 ok.hx (by omega) W)
    have hsn := ltrF_snoc x pre y
    have AB := Lib.hid (fun (b : Bool) (hb : abv y.1 (ltrF x pre) = b) base s W h => isAboveOne_any (base := base) (s := s) (l := ltrF x pre) (by rw [← nL_length]; omega) (fun o ho => by have := ltrF_lt x pre o ho; omega) y.1 (by omega) hb W h)
    by_cases hp : bitN x y.1 = 1
    · have ht : ((bitN x y.1 : Int) == 1) = true := by simp [hp]
      cases ha : abv y.1 (ltrF x pre)
      · have HC := Lib.hid (show ltrF x (pre ++ [y]) = ltrF x pre ++ [y.1] by rw [hsn, hp, ha]; rfl)
        have AB2 := Lib.hid (AB.out _ ha)
        clear hp ha AB hsn
        generalize bitN x y.1 = bt at VR ht
        generalize y.1 = r at hr VR ⊢ HC AB2
        generalize hlk : (nL (ltrF x pre)).length = k at hle hrow
        have HLK := Lib.hid hlk
        have OW : ∀ w', Below W.heap.size W w' → Owns w' (w.heap.size + 1) v (nL (ltrF x pre)) := fun w' hb => by
          show w'.ownsRow _ _ _ _ _ _
          rw [hlk]; exact owns_below hrow hb
        have OWH := Lib.hid OW
        clear OW hlk
        have HV := Lib.hid hv
        have dv := hv.cell
        have HR := Lib.hid hrow
        clear hv hrow
        gi_wp2_with (first
          | (refine ⟨trivial, ?_⟩; gi_at_call 55; refine (callsIn_wide.2 (VR.out _)).mono ?_; rintro e w' ⟨rfl, hb'⟩; have d0 := kc hb' c0; have d1 := kc hb' c1; have hv5 : Boxed w' (w.heap.size + 1) 33 v := (hb'.block (w.heap.size + 1) HV.out.lt).trans HV.out; have HV5 := Lib.hid hv5; have dv5 := hv5.cell; have dvz := hv5.frozen; clear hv5; have hrow5 : World.ownsRow _ _ _ _ _ _ _ := owns_below HR.out hb'; have hs5 := hb'.size)
          | (refine ⟨trivial, ?_⟩; gi_at_call 68; refine (callsIn_wide.2 (AB2.out _ _ _ (OWH.out _ hb'))).mono ?_; rintro e w6 ⟨rfl, rfl⟩)
          | (gi_at_builtin; refine wpListIn_append_own _ rfl _ _ 33 rfl (w.heap.size + 1) 2 i0 (.int .i64 0) 1 8 Try.underlying33 hi hz0 hz1 hz2 rfl (by decide) _ _ _ rfl (hrow5.alloc _) ⟨w'.heap.size, 0, none⟩ 1 1 [.int .i64 (r : Int)] rfl rfl (cell_one_new _ _ _) (one_cell_int _) (by unfold maxLen; omega) (by omega) (by simp; omega) ?_; intro v' w1 hown' hgrow _; have HAP := Lib.hid (Boxed.appended HV5.out (by decide) hrow5 (by omega) (Nat.le_refl _) hown' hgrow); obtain ⟨g5, cap5, rfl⟩ := ownsRow_succ hown'; have e5 := HAP.out.1.cell; have z5 := HAP.out.1.frozen; clear hgrow))
        obtain ⟨a1, a2, a3, a4, a5⟩ := HAP.out
        refine ⟨(kotb hb').trans a4, (hb'.mono (by omega)).trans a5, ⟨⟨_, a2, ?_, trivial⟩, ⟨(a5.cell (p := ⟨w.heap.size, 0, none⟩) (Nat.lt_succ_self _)).trans d0, (a5.cell (p := ⟨w.heap.size, 1, none⟩) (Nat.lt_succ_self _)).trans d1⟩⟩, (bthen hB hb').trans (a5.mono (Nat.le_succ _))⟩
        rw [HC.out, nL_snoc, ints_snoc, List.length_append, HLK.out]
        exact a3
      · have HC := Lib.hid (show ltrF x (pre ++ [y]) = ltrF x pre by rw [hsn, hp, ha]; rfl)
        have AB2 := Lib.hid (AB.out _ ha)
        clear hp ha AB hsn
        generalize bitN x y.1 = bt at VR ht
        generalize y.1 = r at hr VR ⊢ HC AB2
        have OWH := Lib.hid (fun w' (hb : Below W.heap.size W w') => (owns_below hrow hb : Owns w' (w.heap.size + 1) v (nL (ltrF x pre))))
        have HV := Lib.hid hv
        have dv := hv.cell
        have HR := Lib.hid hrow
        clear hv hrow
        gi_wp2_with (first
          | (refine ⟨trivial, ?_⟩; gi_at_call 55; refine (callsIn_wide.2 (VR.out _)).mono ?_; rintro e w' ⟨rfl, hb'⟩; have d0 := kc hb' c0; have d1 := kc hb' c1; have hv5 : Boxed w' (w.heap.size + 1) 33 v := (hb'.block (w.heap.size + 1) HV.out.lt).trans HV.out; have HV5 := Lib.hid hv5; have dv5 := hv5.cell; clear hv5)
          | (refine ⟨trivial, ?_⟩; gi_at_call 68; refine (callsIn_wide.2 (AB2.out _ _ _ (OWH.out _ hb'))).mono ?_; rintro e w6 ⟨rfl, rfl⟩))
        refine ⟨kotb hb', hb'.mono (by omega), ⟨⟨v, HV5.out, ?_, trivial⟩, ⟨d0, d1⟩⟩, bthen hB hb'⟩
        rw [HC.out]
        exact owns_below HR.out hb'
    · have HC := Lib.hid (show ltrF x (pre ++ [y]) = ltrF x pre by
        have : (bitN x y.1 == 1) = false := by simpa using hp
        rw [hsn, this]; rfl)
      have ht : ((bitN x y.1 : Int) == 1) = false := by simp; omega
      clear hp AB hsn
      generalize bitN x y.1 = bt at VR ht
      generalize y.1 = r at hr VR ⊢ HC
      have HV := Lib.hid hv
      have HR := Lib.hid hrow
      clear hv hrow
      gi_wp2_with (refine ⟨trivial, ?_⟩; gi_at_call 55; refine (callsIn_wide.2 (VR.out _)).mono ?_; rintro e w' ⟨rfl, hb'⟩)
      refine ⟨trivial, ?_⟩
      gi_wp2
      refine ⟨kotb hb', hb'.mono (by omega), ⟨⟨v, (hb'.block (w.heap.size + 1) HV.out.lt).trans HV.out, ?_, trivial⟩, ⟨kc hb' c0, kc hb' c1⟩⟩, bthen hB hb'⟩
      rw [HC.out]
      exact owns_below HR.out hb'
  case done =>
    rintro D ys W hD rfl ⟨⟨⟨v, hv, hrow, _⟩, _⟩, hB⟩ hK
    rw [ltrF_upto r0 x R (Nat.le_refl _)] at hrow
    have dv := hv.cell
    have HR := Lib.hid hrow
    clear hrow hv
    gi_wp2
    refine ⟨by simp, .inl ⟨_, _, rfl, run_takeDeferred hK, ?_⟩⟩
    refine ⟨v, by simp [results, Try.results59, go_sem], v, rfl, ?_, hB.trans (belowK_b (w := w) (Nat.le_refl _) W D _ _ (by omega) hK rfl rfl)⟩
    exact Owns.mono (ownsRow_putObj HR.out _ hK rfl) (Nat.le_succ _)
  case stop =>
    rintro D c pre W _ _ h _
    exact h.elim
end Go.Proofs.Ytcolaggkeekgoaa
