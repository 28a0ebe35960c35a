/-
  ShefferFunctions in both packages.
-/
import Derived.Test.YtkemegiofiemfaaM4
import Derived.Test.YtkemegiofiemfaaKCo
namespace Go.Proofs.Ytkemegiofiemfaa
open Go.RowKit Go.Shelf
attribute [local go_sem] Oper.semAt_some

/-- The Sheffer functions among those below k. -/
def shfL (n : Int) (R k : Nat) : List (Int × Int) := ((List.range k).filter fun x => noneTo n.toNat x R 5).map fun (x : Nat) => (n, (x : Int))
theorem shfL_yes (n : Int) (R k : Nat) (h : noneTo n.toNat k R 5 = true) : shfL n R (k + 1) = shfL n R k ++ [(n, (k : Int))] := by simp [shfL, List.range_succ, h]
theorem shfL_no (n : Int) (R k : Nat) (h : noneTo n.toNat k R 5 = false) : shfL n R (k + 1) = shfL n R k := by simp [shfL, List.range_succ, h]
theorem shfL_len (n : Int) (R k : Nat) : (shfL n R k).length ≤ k := by
  unfold shfL
  rw [List.length_map]
  exact Nat.le_trans (List.length_filter_le _ _) (by simp)

set_option maxRecDepth 100000 in
set_option maxHeartbeats 2000000 in
theorem specShefferFunctions_yes (n : Int) (h : inB n 0 3 = true) (h0 : 0 ≤ n) (h4 : n ≤ 4) {R T : Nat} (hT0 : 0 < T) (hT16 : T ≤ 65536) (hA : Hid (allN n = (T : Int) - 1)) (ok : ∀ x, x < T → FOk n x R) (w : World) :
    Calls Try.prog 30 #[.int .i64 n] w (FListCodePost w.heap.size (shfL n R T) 0 w) := by
  obtain ⟨i0, hi, hz0, hz1, hz2⟩ := info_parts infoF
  go_enter Try.func30, Try.ntmps30
  go_wp2_with (go_at_call 67; refine (l01In_is h _).mono ?_; rintro e w' ⟨rfl, rfl⟩)
  go_loopw [4, 5] (fun s b' wr => ∃ b : Nat, b ≤ T ∧ b' = .int .i64 b ∧ OwnsF wr w.heap.size s (shfL n R b) ∧ Below w.heap.size w wr)
    (fun _ b' _ => T - (intOf b').toNat)
  case atStart => exact ⟨0, by omega, rfl, World.ownsRow_lit w #[] 0 (Nat.le_refl _) (by decide) rfl, bnew _ _⟩
  case round =>
    obtain ⟨b, hb, rfl, hown, hN⟩ := hrel
    have hle := shfL_len n R b
    have hsz := hN.size
    by_cases hlt : b < T
    · have hok := Lib.hid (l02Sheffer_any (ok b hlt))
      cases hc : noneTo n.toNat b R 5
      · rw [hc] at hok
        have HS := Lib.hid (shfL_no n R b hc)
        clear hc
        go_wp2_with (first
          | (go_at_call 72; refine (l01All_top h0 h4 hA _).mono ?_; rintro e w' ⟨rfl, rfl⟩)
          | (go_at_call 75; refine (hok.out _).mono ?_; rintro e w2 ⟨rfl, hb2⟩))
        go_roundw
        case rel => exact ⟨b + 1, by omega, by go_num, by rw [HS.out]; exact (OwnsF.below hown (bnew _ _)).below hb2, bthen hN (bthen (bnew _ _) hb2)⟩
        case measure => simp [intOf]; omega
      · rw [hc] at hok
        have HS := Lib.hid (shfL_yes n R b hc)
        clear hc
        obtain ⟨W1, hW1⟩ : ∃ W1, wr.alloc (.cells #[.int .i64 n, .int .i64 (b : Int)] 25) = W1 := ⟨_, rfl⟩
        have p0 : W1.cell? ⟨wr.heap.size, 0, none⟩ = some (.int .i64 n) := by rw [← hW1]; simp [go_sem]
        have p1 : W1.cell? ⟨wr.heap.size, 1, none⟩ = some (.int .i64 (b : Int)) := by rw [← hW1]; simp [go_sem]
        have hB1 : Below wr.heap.size wr W1 := by rw [← hW1]; exact bnew _ _
        go_wp2_with (first
          | (go_at_call 72; refine (l01All_top h0 h4 hA _).mono ?_; rintro e w' ⟨rfl, rfl⟩)
          | (go_at_call 75; refine (hok.out _).mono ?_; rintro e w2 ⟨rfl, hb2⟩; have q0 := kc hb2 p0; have q1 := kc hb2 p1; have hown5 : World.ownsRow _ _ _ _ _ _ _ := (hown.below hB1).below hb2; have hN5 := bthen hN (bthen hB1 hb2); have hs5 := hN5.size)
          | (at_builtin; refine wpList_append_own _ rfl _ _ 40 rfl w.heap.size 25 i0 (.agg #[.int .i64 0, .int .i64 0]) 2 16 Try.underlying40 hi hz0 hz1 hz2 rfl (by decide) _ _ _ rfl (hown5.alloc _) ⟨w2.heap.size, 0, none⟩ 1 1 [.int .i64 n, .int .i64 (b : Int)] rfl rfl (cell_two_new _ _ _ _) (one_cell_two _ _) (by unfold maxLen; omega) (by omega) (by simp; omega) ?_))
        intro v' w1 hown' hgrow _
        have hN' := (balloc hN5 (.cells #[.int .i64 n, .int .i64 (b : Int)] 25)).grown hgrow (by simp; omega) (fun j e => (hown5.lt j e).1)
        clear hgrow hown5 hN5 q0 q1 p0 p1 hW1
        go_wp2
        go_roundw
        case rel => exact ⟨b + 1, by omega, by go_num, by rw [HS.out]; exact OwnsF.snoc hown', hN'⟩
        case measure => simp [intOf]; omega
    · obtain rfl : b = T := by omega
      have ho := Lib.hid hown
      clear hown
      go_wp2_with (go_at_call 72; refine (l01All_top h0 h4 hA _).mono ?_; rintro e w' ⟨rfl, rfl⟩)
      go_ret2
      exact ⟨_, rfl, ho.out, hN⟩

/-- .. those handed out so far. -/
def shfF {T : Nat} (n : Int) (R : Nat) (pre : List (Row T)) : List (Int × Int) := (pre.filter fun x => noneTo n.toNat x.1 R 5).map fun x => (n, (x.1 : Int))
theorem shfF_yes {T : Nat} (n : Int) (R : Nat) (pre : List (Row T)) (x : Row T) (h : noneTo n.toNat x.1 R 5 = true) : shfF n R (pre ++ [x]) = shfF n R pre ++ [(n, (x.1 : Int))] := by simp [shfF, h]
theorem shfF_no {T : Nat} (n : Int) (R : Nat) (pre : List (Row T)) (x : Row T) (h : noneTo n.toNat x.1 R 5 = false) : shfF n R (pre ++ [x]) = shfF n R pre := by simp [shfF, h]
theorem shfF_len {T : Nat} (n : Int) (R : Nat) (pre : List (Row T)) : (shfF n R pre).length ≤ pre.length := by
  unfold shfF
  rw [List.length_map]
  exact List.length_filter_le _ _
theorem shfF_upto {T : Nat} (hT : 0 < T) (n : Int) (R k : Nat) (hk : k ≤ T) : shfF n R (upto hT k) = shfL n R k := by
  induction k with
  | zero => rfl
  | succ k ih =>
    have hv := rowAt_val hT (k := k) (by omega)
    cases h : noneTo n.toNat k R 5
    · rw [upto_succ, shfF_no _ _ _ _ (by rw [hv]; exact h), ih (by omega), shfL_no _ _ _ h]
    · rw [upto_succ, shfF_yes _ _ _ _ (by rw [hv]; exact h), ih (by omega), shfL_yes _ _ _ h, hv]

theorem owns_below' {W W' : World} {base : Nat} {e : TypeId} {size : Nat} {v : Value} {n : Nat} {xs : List Value} (h : W.ownsRow base e size v n xs) (hb : Below W.heap.size W W') : W'.ownsRow base e size v n xs := by
  obtain ⟨h1, h2 | ⟨g, cap, cur, e1, e2, e3, r⟩⟩ := h
  · exact ⟨h1, .inl h2⟩
  · exact ⟨h1, .inr ⟨g, cap, cur, e1, e2, (hb.block g (Array.getElem?_eq_some_iff.1 e3).1).trans e3, r⟩⟩

set_option maxRecDepth 100000 in
set_option maxHeartbeats 4000000 in
theorem implShefferFunctions_yes (n : Int) (h0 : 0 ≤ n) (h3 : n ≤ 3) {R T : Nat} (r0 : 0 < R) (r16 : R ≤ 16) (hR : Hid (rowsN n = (R : Int))) (hT : Hid (T = 2 ^ R)) (hT0 : 0 < T) (hT16 : T ≤ 65536) (ok : ∀ x, x < T → FOk n x R) (w : World) :
    Calls Try.prog 29 #[.int .i64 n] w (FListCodePost w.heap.size (shfL n R T) 0 w) := by
  obtain ⟨i0, hi, hz0, hz1, hz2⟩ := info_parts infoF
  have h4 : n ≤ 4 := by omega
  have HOK := Lib.hid ok
  clear ok
  have hd1 : decide (n < 0) = false := by simp; omega
  have hd2 : decide (3 < n) = false := by simp; omega
  refine (callsIn_wide (n := 3)).1 ?_
  refine callsIn_of_wp_marks Try.func29 rfl trivial ?_ rfl
  simp only [Try.ntmps29, List.size_toArray, List.length_cons, List.length_nil, Nat.reduceAdd, Nat.reduceSub, Array.replicate_succ, Array.replicate_zero, List.push_toArray, List.append_toArray, List.nil_append, List.cons_append]
  gi_wp2_with (refine ⟨trivial, ?_⟩; gi_at_call 76; refine (callsIn_wide.2 (funcsOfArity_any _ _)).mono ?_; rintro e w' ⟨rfl, rfl⟩)
  obtain ⟨W0, hW0⟩ : ∃ W0, (w.alloc (.cells #[.slice none 0 0] 40)).alloc (.cells #[.int .i64 n] 2) = W0 := ⟨_, rfl⟩
  have hbx : Boxed W0 w.heap.size 40 (.slice none 0 0) := by rw [← hW0]; exact (Boxed.new _ _ _).alloc _
  have cM : W0.cell? ⟨w.heap.size + 1, 0, none⟩ = some (.int .i64 n) := by rw [← hW0]; simp [go_sem]
  have hbm : Boxed W0 (w.heap.size + 1) 2 (.int .i64 n) := by rw [← hW0, show w.heap.size + 1 = (w.alloc (.cells #[.slice none 0 0] 40)).heap.size by simp]; exact Boxed.new _ _ _
  have hsz : W0.heap.size = w.heap.size + 2 := by rw [← hW0]; simp [go_sem]
  have hB0 : Below w.heap.size w W0 := by rw [← hW0]; exact balloc (bnew _ _) _
  rw [hW0]
  clear hW0 hd1 hd2
  refine wpIn_rangeFunc_ownH (α := Row T) rfl (by omega) (gf := 100) (lb := #[.pointer (some ⟨w.heap.size + 1, 0, none⟩)]) rfl trivial (enters_of Try.func100 (by kernel_rfl) rfl)
    (funcs_stops (3 - 1) (by omega) (w.heap.size + 1) w.heap.size n R T h0 h4 r0 r16 hR hT.out hT0 hT16 W0 cM) stays_t (stays_b (by omega)) (Below.refl _ _) (fun _ => rfl)
    (fun pre W => (∃ v, Boxed W w.heap.size 40 v ∧ W.ownsRow w.heap.size 25 2 v (shfF n R pre).length (fcells (shfF n R pre)) ∧ True) ∧ (Boxed W (w.heap.size + 1) 2 (.int .i64 n) ∧ Below w.heap.size w W))
    (fun _ _ _ => False)
    (OwnFrom.and (Own.from (holdsRow_own w.heap.size w.heap.size 40 25 2 (fun pre => (shfF n R pre).length) (fun pre => fcells (shfF n R pre)) (fun _ _ => True)) _) (OwnFrom.and ((boxed_own (w.heap.size + 1) 2 (fun _ => .int .i64 n)).from _) (ownFrom_below (Nat.le_refl _) (by omega))))
    (fun _ _ _ _ _ hs _ _ => hs)
    ⟨⟨_, hbx, World.ownsRow_nil _ _ _ _, trivial⟩, hbm, hB0⟩
    (fun x a' W => ∃ BX, a' = { tmps := #[.int .i64 n, undef, .slice none 0 0, .int .i64 0, .pointer (some ⟨w.heap.size, 0, none⟩), .pointer (some ⟨BX, 0, none⟩), .int .i64 n, .bool false, .bool false, .int .i64 n, .bool false, .bool false, .int .i64 n,
      .func (.func 100) #[] #[.pointer (some ⟨w.heap.size + 1, 0, none⟩)], .agg #[.int .i64 n, .int .i64 (x.1 : Int)], undef, undef, undef, undef, undef, undef, undef], defers := [] } ∧ FBox BX n x.1 W)
    (fun x a' _ A B row ⟨BX, e, hb⟩ hg hr => ⟨BX, e, ⟨cell_kept hb.c0 hg (fun r er => (hr r er).2), cell_kept hb.c1 hg (fun r er => (hr r er).2)⟩⟩)
    ?assign ?body ?done ?stop
  case assign =>
    rintro l pre x W K ⟨⟨v, hv, hrow, _⟩, hbm', hB⟩ hK
    unfold encFunc
    gi_wp2
    refine hK _ _ ((KeepsOthers.alloc W _).from _) (stays_below (by have := hB.size; omega) (bnew _ _)) ⟨⟨v, hv.alloc _, hrow.alloc _, trivial⟩, hbm'.alloc _, balloc hB _⟩ ⟨W.heap.size, rfl, ⟨by simp [go_sem], by simp [go_sem]⟩⟩
  case body =>
    clear cM hbx hbm
    rintro l pre x _ W hl hrec ⟨⟨v, hv, hrow, _⟩, hbm, hB⟩ ⟨BX, rfl, hbx⟩ hlen
    have c0 := hbx.c0
    have c1 := hbx.c1
    clear hbx hrec
    have hx := x.2
    have hle := shfF_len n R pre
    have HS := Lib.hid (isSheffer_any (HOK.out x.1 hx))
    have HM := Lib.hid hbm
    clear hbm
    cases hp : noneTo n.toNat x.1 R 5
    · rw [hp] at HS
      have HC := Lib.hid (shfF_no n R pre x hp)
      clear hp
      have HV := Lib.hid hv
      have HR := Lib.hid hrow
      clear hv hrow
      generalize x.1 = r at hx HS c1 ⊢
      gi_wp2_with (refine ⟨trivial, ?_⟩; refine (callsIn_wide.2 (HS.out _)).mono ?_; rintro e w' ⟨rfl, hb'⟩)
      refine ⟨(kotb hb').from _, stays_below (by have := hB.size; omega) hb', ⟨v, ?_, ?_, trivial⟩, (hb'.block _ HM.out.lt).trans HM.out, bthen hB hb'⟩
      · exact (hb'.block w.heap.size HV.out.lt).trans HV.out
      · rw [HC.out]; exact OwnsF.below HR.out hb'
    · rw [hp] at HS
      have HC := Lib.hid (shfF_yes n R pre x hp)
      clear hp
      have HV := Lib.hid hv
      have HR := Lib.hid hrow
      clear hv hrow
      generalize x.1 = r at hx HS c1 HC ⊢
      generalize hlk : (shfF n R pre).length = k at hle HR
      have HLK := Lib.hid hlk
      clear hlk
      gi_wp2_with (first
        | (refine ⟨trivial, ?_⟩; refine (callsIn_wide.2 (HS.out _)).mono ?_; rintro e w' ⟨rfl, hb'⟩; have d0 := kc hb' c0; have d1 := kc hb' c1; have hv5 : Boxed w' w.heap.size 40 v := (hb'.block w.heap.size HV.out.lt).trans HV.out; have HV5 := Lib.hid hv5; have dv := hv5.cell; clear hv5; have hrow5 : World.ownsRow _ _ _ _ _ _ _ := owns_below' HR.out hb'; have hm5 : Boxed w' (w.heap.size + 1) 2 (.int .i64 n) := (hb'.block _ HM.out.lt).trans HM.out; have HM5 := Lib.hid hm5; clear hm5; have hB5 := bthen hB hb'; have hs5 := hB5.size)
        | (gi_at_builtin; refine wpListIn_append_own _ rfl _ _ 40 rfl w.heap.size 25 i0 (.agg #[.int .i64 0, .int .i64 0]) 2 16 Try.underlying40 hi hz0 hz1 hz2 rfl (by decide) _ _ _ rfl (hrow5.alloc _) ⟨w'.heap.size, 0, none⟩ 1 1 [.int .i64 n, .int .i64 (r : Int)] rfl rfl (cell_two_new _ _ _ _) (one_cell_two _ _) (by unfold maxLen; omega) (by omega) (by simp; omega) ?_; intro v' w1 hown' hgrow _; have HAP := Lib.hid (Boxed.appended HV5.out (by decide) hrow5 hs5 (Nat.le_refl _) hown' hgrow); obtain ⟨g5, cap5, rfl⟩ := ownsRow_succ hown'; have HM1 := Lib.hid ((HM5.out.alloc _).kept hgrow (HM5.out.not_row (by decide) hrow5)); have e5 := HAP.out.1.cell; have z5 := HAP.out.1.frozen; clear hgrow))
      obtain ⟨a1, a2, a3, a4, a5⟩ := HAP.out
      have hm6 := HM1.out.other (B' := w.heap.size) (by omega) (.slice (some ⟨g5, 0, none⟩) (k + 1) cap5)
      refine ⟨((kotb hb').trans a4).from _, ⟨(hb'.mono (by have := hB.size; omega)).trans a5, fun u hu => ?_⟩, ⟨_, a2, ?_, trivial⟩, hm6, hB5.trans a5⟩
      · rw [HM.out.cell] at hu
        cases hu
        exact hm6.cell
      · rw [HC.out, fcells_snoc, List.length_append, HLK.out]
        exact a3
  case done =>
    clear cM hbx hbm
    rintro D ys W hD rfl ⟨⟨v, hv, hrow, _⟩, _, hB⟩ hK
    rw [shfF_upto hT0 n R T (Nat.le_refl _)] at hrow
    have dv := hv.cell
    have HR := Lib.hid hrow
    clear hrow hv
    gi_wp2
    refine ⟨by simp, .inl ⟨_, _, rfl, run_takeDeferred hK, ?_⟩⟩
    refine ⟨.tuple #[v, .int .i64 0], by simp [results, Try.results29, go_sem], v, rfl, ?_, hB.trans (belowK_b (w := w) (Nat.le_refl _) W D _ _ (by omega) hK rfl rfl)⟩
    exact ownsRow_putObj HR.out _ hK rfl
  case stop =>
    rintro D c pre W _ _ h _
    exact h.elim

set_option maxRecDepth 100000 in
set_option maxHeartbeats 1000000 in
theorem implShefferFunctions_no (n : Int) (h : n < 0 ∨ 3 < n) (w : World) :
    Calls Try.prog 29 #[.int .i64 n] w (FListCodePost w.heap.size [] 2 w) := by
  rcases h with h | h
  · have hd1 : decide (n < 0) = true := by simpa using h
    go_enter Try.func29, Try.ntmps29
    go_wp2
    go_ret2
    exact ⟨_, rfl, OwnsF.nil _ _, Below.refl _ _⟩
  · have hd1 : decide (n < 0) = false := by simp; omega
    have hd2 : decide (3 < n) = true := by simpa using h
    go_enter Try.func29, Try.ntmps29
    go_wp2
    go_ret2
    exact ⟨_, rfl, OwnsF.nil _ _, Below.refl _ _⟩

set_option maxRecDepth 100000 in
set_option maxHeartbeats 1000000 in
theorem specShefferFunctions_no (n : Int) (h : inB n 0 3 = false) (w : World) :
    Calls Try.prog 30 #[.int .i64 n] w (FListCodePost w.heap.size [] 2 w) := by
  go_enter Try.func30, Try.ntmps30
  go_wp2_with (go_at_call 67; refine (l01In_is h _).mono ?_; rintro e w' ⟨rfl, rfl⟩)
  go_ret2
  exact ⟨_, rfl, OwnsF.nil _ _, Below.refl _ _⟩

theorem bothShefferFunctions (n : Int) (_ : (Lit.int .i64 n).wf = true) : ∃ (xs : List (Int × Int)) (rc : Int), xs.length ≤ 100000 ∧
    (∀ w, Calls Try.prog 30 #[.int .i64 n] w (FListCodePost w.heap.size xs rc w)) ∧
    (∀ w, Calls Try.prog 29 #[.int .i64 n] w (FListCodePost w.heap.size xs rc w)) := by
  cases h : inB n 0 3
  · have hn : n < 0 ∨ 3 < n := by
      have : ¬ (0 ≤ n ∧ n ≤ 3) := by simpa [inB] using h
      omega
    exact ⟨_, _, by simp, specShefferFunctions_no n h, implShefferFunctions_no n hn⟩
  · have hn2 : 0 ≤ n ∧ n ≤ 3 := by simpa [inB] using h
    obtain ⟨R, T, r0, r16, hR, hT, hT0, hT16, hA, ok⟩ := arity_nums (n := n) hn2.1 (by omega)
    exact ⟨_, _, by have := shfL_len n R T; omega, specShefferFunctions_yes n h hn2.1 (by omega) hT0 hT16 hA ok, implShefferFunctions_yes n hn2.1 hn2.2 r0 r16 hR hT hT0 hT16 ok⟩
end Go.Proofs.Ytkemegiofiemfaa
