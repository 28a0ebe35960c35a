/-
  stepsOf and tuplesMade by contract: what a function makes of tuples, as a function that is ranged over.
-/
import Derived.Test.YtlohldddioikaaaNP4
import Derived.Test.YtlohldddioikaaaNU1
namespace Go.Proofs.Ytlohldddioikaaa
open Go.RowKit Go.Shelf
attribute [local go_sem] Oper.semAt_some
set_option linter.unusedVariables false
set_option linter.unusedSimpArgs false

theorem hv15 (x : Nat) : ∀ q, bitN x q * 15 < 2 ^ 4 := fun q => by have := bitN_le x q; show bitN x q * 15 < 16; omega

set_option maxHeartbeats 1000000 in
theorem stepsOf_any (n x a : Int) (sa : Option Addr) (len cap : Nat) (w : World) :
    Calls Try.prog 103 #[.agg #[.int .i64 n, .int .i64 x], .int .i64 a, .slice sa len cap] w fun e w' => e = .returned (.func (.func 104) #[] #[.pointer (some ⟨w.heap.size, 0, none⟩), .pointer (some ⟨w.heap.size + 1 + 1, 0, none⟩), .pointer (some ⟨w.heap.size + 1, 0, none⟩)]) ∧
      w' = ((w.alloc (.cells #[.int .i64 n, .int .i64 x] 34)).alloc (.cells #[.int .i64 a] 2)).alloc (.cells #[.slice sa len cap] 61) := by
  go_enter Try.func103, Try.ntmps103
  go_wp2
  go_ret
  exact ⟨rfl, rfl⟩

theorem steps_seq {x R m : Nat} (ok : FOk (m : Int) x R) (m4 : m ≤ 4) (Bf Bg Bn K : Nat) (S : Nat → Prop) (sg : Value) (gs : List Nat) (g16 : ∀ a, a ∈ gs → a < 16) (gl : gs.length ≤ 16) (kS : ∀ k, K ≤ k → S k) (gS : ∀ k, sg.ownBlock = some k → S k)
    (w : World) (p0 : w.cell? ⟨Bf, 0, none⟩ = some (.int .i64 (m : Int))) (p1 : w.cell? ⟨Bf, 1, none⟩ = some (.int .i64 (x : Int))) (cg : w.cell? ⟨Bg, 0, none⟩ = some sg) (cn : w.cell? ⟨Bn, 0, none⟩ = some (.int .i64 2)) (hg : Owns w 0 sg (nI gs)) (n : Nat) :
    SeqX Fence.wide n Try.prog 104 #[.pointer (some ⟨Bf, 0, none⟩), .pointer (some ⟨Bg, 0, none⟩), .pointer (some ⟨Bn, 0, none⟩)] encS (fun xs => ∃ sp, xs = outs sp (hv15 x) gs [] m) (fun q => ∃ sp, q <+: outs sp (hv15 x) gs [] m) (gs.length ^ m) K S w := by
  intro l J Jx W hW hK hJ hJx hY hj
  refine (callsIn_wide.2 (steps1_any ok m4 l Bf Bg Bn K S sg gs g16 gl (Nat.le_refl _) J Jx hJ kS gS (fun pre x W h1 h2 => YieldAt.anyD 1 (hY pre x W h1 h2)) W (kc hW p0) (kc hW p1) (kc hW cg) (kc hW cn) (hg.below hW) hK hj)).mono ?_
  rintro e W' ⟨hv, ⟨sp, h⟩ | ⟨sp, q, hqp, h⟩⟩
  · exact ⟨hv, .inl ⟨_, ⟨sp, rfl⟩, h⟩⟩
  · exact ⟨hv, .inr ⟨q, ⟨sp, hqp⟩, h⟩⟩

set_option maxHeartbeats 1000000 in
theorem tuplesMade_any (n x k y : Int) (w : World) :
    Calls Try.prog 90 #[.agg #[.int .i64 n, .int .i64 x], .agg #[.int .i64 k, .int .i64 y]] w fun e w' => e = .returned (.func (.func 101) #[] #[.pointer (some ⟨w.heap.size + 1, 0, none⟩), .pointer (some ⟨w.heap.size, 0, none⟩)]) ∧
      w' = (w.alloc (.cells #[.int .i64 n, .int .i64 x] 34)).alloc (.cells #[.int .i64 k, .int .i64 y] 25) := by
  go_enter Try.func90, Try.ntmps90
  go_wp2
  go_ret
  exact ⟨rfl, rfl⟩

/-- What is handed on: the places of the relation alone. -/
def cutO {R : Nat} (hR : 0 < R) (P : Nat) (o : Out) : Row R := rowAt hR (o.2.1 &&& (2 ^ P - 1))
theorem cutO_val {R P : Nat} (hR : 0 < R) (hRP : R = 2 ^ P) (o : Out) : (cutO hR P o).1 = o.2.1 &&& (2 ^ P - 1) :=
  rowAt_val hR (by rw [hRP]; exact Nat.lt_of_le_of_lt Nat.and_le_right (by have := Nat.two_pow_pos P; omega))
theorem cut_outs {R P : Nat} (hR : 0 < R) (hRP : R = 2 ^ P) (h4 : P ≤ 4) (sp : Value) (x : Nat) (gs : List Nat) (m : Nat) : ((outs sp (hv15 x) gs [] m).map (cutO hR P)).map (·.1) = madeL x P gs [] m := by
  unfold outs madeL
  rw [List.map_map, List.map_map]
  refine List.map_congr_left fun t ht => ?_
  simp only [Function.comp, cutO_val hR hRP]
  exact tupV_lev x t P h4
theorem cut_pref {R P : Nat} (hR : 0 < R) (hRP : R = 2 ^ P) (h4 : P ≤ 4) (sp : Value) (x : Nat) (gs : List Nat) (m : Nat) (q : List Out) (hq : q <+: outs sp (hv15 x) gs [] m) : (q.map (cutO hR P)).map (·.1) <+: madeL x P gs [] m := by
  rw [← cut_outs hR hRP h4 sp x gs m]
  exact (hq.map _).map _
theorem and_mask (a P : Nat) (ha : a < 16) (hP : P ≤ 4) : bits .and .i64 (a : Int) ((2 ^ P - 1 : Nat) : Int) = ((a &&& (2 ^ P - 1) : Nat) : Int) := by
  have h : 2 ^ P ≤ 2 ^ 4 := Nat.pow_le_pow_right (by decide) hP
  have h1 : ∀ a : Nat, a < 16 → ∀ b : Nat, b < 16 → bits .and .i64 (a : Int) (b : Int) = ((a &&& b : Nat) : Int) := by decide +kernel
  exact h1 a ha _ (by omega)

set_option maxRecDepth 100000 in
set_option maxHeartbeats 8000000 in
theorem tuples1_in {x R m : Nat} (ok : FOk (m : Int) x R) (m4 : m ≤ 4) {P y Q : Nat} (okr : ROk (P : Int) y Q) (l Bf Br K : Nat) (J Jx : List (Row Q) → World → Prop) (hJ : Firm K J) (hJx : Firm K Jx)
    (W : World) (p0 : W.cell? ⟨Bf, 0, none⟩ = some (.int .i64 (m : Int))) (p1 : W.cell? ⟨Bf, 1, none⟩ = some (.int .i64 (x : Int))) (r0 : W.cell? ⟨Br, 0, none⟩ = some (.int .i64 (P : Int))) (r1 : W.cell? ⟨Br, 1, none⟩ = some (.int .i64 (y : Int))) (hK : K ≤ W.heap.size)
    (hY : ∀ pre z W1, J pre W1 → pre.length < (tupsL y Q).length ^ m → YieldAt Fence.wide 1 Try.prog l (encRow z) W1 fun e W' => Above (fun k => K ≤ k) W1 W' ∧ ((e = .returned (.bool true) ∧ J (pre ++ [z]) W') ∨ (e = .returned (.bool false) ∧ Jx (pre ++ [z]) W')))
    (hj : J [] W) :
    CallsIn Fence.wide 3 Try.prog 101 #[.func (.yield l) #[] #[], .pointer (some ⟨Br, 0, none⟩), .pointer (some ⟨Bf, 0, none⟩)] W fun e W' => (∃ v, e = .returned v) ∧ ((∃ ys, ys.map (·.1) = madeL x P (tupsL y Q) [] m ∧ J ys W') ∨ (∃ pre, pre.map (·.1) <+: madeL x P (tupsL y Q) [] m ∧ Jx pre W')) := by
  refine callsIn_of_wp_marks Try.func101 rfl trivial ?_ rfl
  simp only [Try.ntmps101, List.size_toArray, List.length_cons, List.length_nil, Nat.reduceAdd, Nat.reduceSub, Array.replicate_succ, Array.replicate_zero, List.push_toArray, List.append_toArray, List.nil_append, List.cons_append]
  have lf : Bf < W.heap.size := cell_lt p0
  have lr : Br < W.heap.size := cell_lt r0
  have lf1 : Bf < W.heap.size + 1 := by omega
  have lr1 : Br < W.heap.size + 1 := by omega
  have hQ : Q = 2 ^ P := by have := okr.he; simpa using this
  have hQ0 := okr.r0
  have hQ16 := okr.r16
  obtain ⟨M, hM⟩ : ∃ M, M = 2 ^ P - 1 := ⟨_, rfl⟩
  have hl1 : ∀ w, Calls Try.prog 102 #[.int .i64 (P : Int)] w fun e w' => e = .returned (.int .i64 (M : Int)) ∧ w = w' := by
    have h := lastRow_is okr.h0 okr.h4 okr.r0 okr.r16 okr.hR
    have e : (Q : Int) - 1 = (M : Int) := by omega
    rw [e] at h
    exact h
  have HM := Lib.hid hM
  have HQ := Lib.hid hQ
  clear hM hQ
  obtain ⟨gl, hgl⟩ : ∃ gl, gl = (tupsL y Q).length := ⟨_, rfl⟩
  have hlen : (nI (tupsL y Q)).length = gl := by rw [nI_length, hgl]
  have HGL := Lib.hid hgl
  clear hgl
  obtain ⟨V, hV⟩ : ∃ V, (W.alloc (.cells #[.func (.yield l) #[] #[]] 106)).alloc (.cells #[.int .i64 (M : Int)] 2) = V := ⟨_, rfl⟩
  have hb : Below W.heap.size W V := by rw [← hV]; exact balloc (bnew _ _) _
  have hbY : V.heap[W.heap.size]? = some (.cells #[.func (.yield l) #[] #[]] 106 (0, 0)) := by
    rw [← hV]; exact (Below.heap_alloc _ _ _ (by simp)).trans (heap_alloc_new _ _)
  have hbM : V.heap[W.heap.size + 1]? = some (.cells #[.int .i64 (M : Int)] 2 (0, 0)) := by
    rw [← hV, show W.heap.size + 1 = (W.alloc (.cells #[.func (.yield l) #[] #[]] 106)).heap.size by simp]; exact heap_alloc_new _ _
  have hjV : J [] V := by rw [← hV]; exact hJ.alloc _ (hJ.alloc _ hj)
  have sV : W.heap.size + 2 = V.heap.size := by rw [← hV]; simp
  gi_wp2_with (first
    | (refine ⟨trivial, ?_⟩; gi_at_call 102; refine (callsIn_wide.2 (hl1 _)).mono ?_; rintro e w' ⟨rfl, rfl⟩))
  have c0 := kc hb p0
  have c1 := kc hb p1
  have d0 := kc hb r0
  have d1 := kc hb r1
  have SV := Lib.hid sV
  clear hV p0 p1 r0 r1 hj sV
  refine wpIn_mono (Q := fun e a w' => e = .normal ∧ ∃ X sa cap, a = { tmps := #[.func (.yield l) #[] #[], .pointer (some ⟨Br, 0, none⟩), .pointer (some ⟨Bf, 0, none⟩), .pointer (some ⟨W.heap.size, 0, none⟩), .pointer (some ⟨W.heap.size + 1, 0, none⟩), undef, undef, .pointer (some ⟨Br, 0, none⟩), .int .i64 P, .int .i64 M, .agg #[.int .i64 m, .int .i64 x], .agg #[.int .i64 P, .int .i64 y], .slice sa gl cap, .func (.func 104) #[] #[.pointer (some ⟨X, 0, none⟩), .pointer (some ⟨X + 1 + 1, 0, none⟩), .pointer (some ⟨X + 1, 0, none⟩)], undef, undef, undef, undef, undef, undef, undef, undef], defers := [] } ∧ Below V.heap.size V w' ∧ Owns w' V.heap.size (.slice sa gl cap) (nI (tupsL y Q)) ∧ (X + 3 = w'.heap.size ∧ V.heap.size ≤ X) ∧ w'.cell? ⟨X, 0, none⟩ = some (.int .i64 m) ∧ w'.cell? ⟨X, 1, none⟩ = some (.int .i64 x) ∧ w'.cell? ⟨X + 1 + 1, 0, none⟩ = some (.slice sa gl cap) ∧ w'.cell? ⟨X + 1, 0, none⟩ = some (.int .i64 2)) ?reg ?rest
  case reg =>
    have FIN := Lib.hid (fun (w3 : World) (sa : Option Addr) (cap : Nat) (hb3 : Below V.drew.heap.size V.drew w3) (o3 : Owns w3 V.drew.heap.size (.slice sa gl cap) (nI (tupsL y Q))) =>
      show (Exit.normal = .normal ∧ ∃ X sa' cap', ({ tmps := #[.func (.yield l) #[] #[], .pointer (some ⟨Br, 0, none⟩), .pointer (some ⟨Bf, 0, none⟩), .pointer (some ⟨W.heap.size, 0, none⟩), .pointer (some ⟨W.heap.size + 1, 0, none⟩), undef, undef, .pointer (some ⟨Br, 0, none⟩), .int .i64 P, .int .i64 M, .agg #[.int .i64 m, .int .i64 x], .agg #[.int .i64 P, .int .i64 y], .slice sa gl cap, .func (.func 104) #[] #[.pointer (some ⟨w3.heap.size, 0, none⟩), .pointer (some ⟨w3.heap.size + 1 + 1, 0, none⟩), .pointer (some ⟨w3.heap.size + 1, 0, none⟩)], undef, undef, undef, undef, undef, undef, undef, undef], defers := [] } : Act) = { tmps := #[.func (.yield l) #[] #[], .pointer (some ⟨Br, 0, none⟩), .pointer (some ⟨Bf, 0, none⟩), .pointer (some ⟨W.heap.size, 0, none⟩), .pointer (some ⟨W.heap.size + 1, 0, none⟩), undef, undef, .pointer (some ⟨Br, 0, none⟩), .int .i64 P, .int .i64 M, .agg #[.int .i64 m, .int .i64 x], .agg #[.int .i64 P, .int .i64 y], .slice sa' gl cap', .func (.func 104) #[] #[.pointer (some ⟨X, 0, none⟩), .pointer (some ⟨X + 1 + 1, 0, none⟩), .pointer (some ⟨X + 1, 0, none⟩)], undef, undef, undef, undef, undef, undef, undef, undef], defers := [] } ∧ Below V.heap.size V (((w3.alloc (.cells #[.int .i64 m, .int .i64 x] 34)).alloc (.cells #[.int .i64 2] 2)).alloc (.cells #[.slice sa gl cap] 61)) ∧ Owns (((w3.alloc (.cells #[.int .i64 m, .int .i64 x] 34)).alloc (.cells #[.int .i64 2] 2)).alloc (.cells #[.slice sa gl cap] 61)) V.heap.size (.slice sa' gl cap') (nI (tupsL y Q)) ∧ (X + 3 = (((w3.alloc (.cells #[.int .i64 m, .int .i64 x] 34)).alloc (.cells #[.int .i64 2] 2)).alloc (.cells #[.slice sa gl cap] 61)).heap.size ∧ V.heap.size ≤ X) ∧ (((w3.alloc (.cells #[.int .i64 m, .int .i64 x] 34)).alloc (.cells #[.int .i64 2] 2)).alloc (.cells #[.slice sa gl cap] 61)).cell? ⟨X, 0, none⟩ = some (.int .i64 m) ∧ (((w3.alloc (.cells #[.int .i64 m, .int .i64 x] 34)).alloc (.cells #[.int .i64 2] 2)).alloc (.cells #[.slice sa gl cap] 61)).cell? ⟨X, 1, none⟩ = some (.int .i64 x) ∧ (((w3.alloc (.cells #[.int .i64 m, .int .i64 x] 34)).alloc (.cells #[.int .i64 2] 2)).alloc (.cells #[.slice sa gl cap] 61)).cell? ⟨X + 1 + 1, 0, none⟩ = some (.slice sa' gl cap') ∧ (((w3.alloc (.cells #[.int .i64 m, .int .i64 x] 34)).alloc (.cells #[.int .i64 2] 2)).alloc (.cells #[.slice sa gl cap] 61)).cell? ⟨X + 1, 0, none⟩ = some (.int .i64 2)) from
        ⟨rfl, w3.heap.size, sa, cap, rfl, balloc (balloc (balloc ((Below.refl _ V).drew.trans hb3) _) _) _, ((Owns.below o3 (bnew _ _)).below (bnew _ _)).below (bnew _ _), ⟨by simp, hb3.size⟩, by simp [go_sem], by simp [go_sem], by simp [go_sem], by simp [go_sem]⟩)
    have hmx : Try.prog.follows .mixedOrders = true := by kernel_rfl
    refine wpIn_region_any hmx ?_
    change wpAnyIn _ _ _ _ _ _ _ _ _ (World.drew _)
    refine wpAnyIn_ready (rs := [0, 1]) (by kernel_rfl) (by simp) ?_
    refine AllReadyIn.cons rfl (fun K hK => ?_) ?_
    · go_simp
      refine hK _ _ ?_
      clear hK K
      refine wpAnyIn_ready (rs := [1]) (by kernel_rfl) (by simp) ?_
      refine AllReadyIn.cons rfl (fun K hK => ?_) ?_
      · go_simp
        refine hK _ _ ?_
        clear hK K
        refine wpAnyIn_ready (rs := [2]) (by kernel_rfl) (by simp) ?_
        refine AllReadyIn.cons rfl (fun K hK => ?_) ?_
        · go_simp
          refine ⟨trivial, ?_⟩
          refine (callsIn_wide.2 (numbersOf_any okr.toFOk _)).mono ?_
          rintro e w3 ⟨s3, rfl, o3, hb3⟩
          have hb4 := kcd hb3 c0
          have hb5 := kcd hb3 c1
          obtain ⟨sa, cap, rfl⟩ := owns_len o3 hlen
          have O3 := Lib.hid o3
          clear o3
          dsimp only
          refine hK _ _ ?_
          clear hK K
          refine wpAnyIn_ready (rs := [3]) (by kernel_rfl) (by simp) ?_
          refine AllReadyIn.cons rfl (fun K hK => ?_) ?_
          · go_simp
            refine ⟨trivial, ?_⟩
            refine (callsIn_wide.2 (stepsOf_any _ _ _ _ _ _ _)).mono ?_
            rintro e w4 ⟨rfl, rfl⟩
            dsimp only
            refine hK _ _ ?_
            clear hK K
            refine wpAnyIn_done (by kernel_rfl) ?_ _
            exact FIN.out _ _ _ hb3 O3.out
          exact AllReadyIn.nil
        exact AllReadyIn.nil
      exact AllReadyIn.nil
    refine AllReadyIn.cons rfl (fun K hK => ?_) ?_
    · go_simp
      refine hK _ _ ?_
      clear hK K
      refine wpAnyIn_ready (rs := [0, 2]) (by kernel_rfl) (by simp) ?_
      refine AllReadyIn.cons rfl (fun K hK => ?_) ?_
      · go_simp
        refine hK _ _ ?_
        clear hK K
        refine wpAnyIn_ready (rs := [2]) (by kernel_rfl) (by simp) ?_
        refine AllReadyIn.cons rfl (fun K hK => ?_) ?_
        · go_simp
          refine ⟨trivial, ?_⟩
          refine (callsIn_wide.2 (numbersOf_any okr.toFOk _)).mono ?_
          rintro e w3 ⟨s3, rfl, o3, hb3⟩
          have hb4 := kcd hb3 c0
          have hb5 := kcd hb3 c1
          obtain ⟨sa, cap, rfl⟩ := owns_len o3 hlen
          have O3 := Lib.hid o3
          clear o3
          dsimp only
          refine hK _ _ ?_
          clear hK K
          refine wpAnyIn_ready (rs := [3]) (by kernel_rfl) (by simp) ?_
          refine AllReadyIn.cons rfl (fun K hK => ?_) ?_
          · go_simp
            refine ⟨trivial, ?_⟩
            refine (callsIn_wide.2 (stepsOf_any _ _ _ _ _ _ _)).mono ?_
            rintro e w4 ⟨rfl, rfl⟩
            dsimp only
            refine hK _ _ ?_
            clear hK K
            refine wpAnyIn_done (by kernel_rfl) ?_ _
            exact FIN.out _ _ _ hb3 O3.out
          exact AllReadyIn.nil
        exact AllReadyIn.nil
      refine AllReadyIn.cons rfl (fun K hK => ?_) ?_
      · go_simp
        refine ⟨trivial, ?_⟩
        refine (callsIn_wide.2 (numbersOf_any okr.toFOk _)).mono ?_
        rintro e w3 ⟨s3, rfl, o3, hb3⟩
        have hb4 := kcd hb3 c0
        have hb5 := kcd hb3 c1
        obtain ⟨sa, cap, rfl⟩ := owns_len o3 hlen
        have O3 := Lib.hid o3
        clear o3
        dsimp only
        refine hK _ _ ?_
        clear hK K
        refine wpAnyIn_ready (rs := [0]) (by kernel_rfl) (by simp) ?_
        refine AllReadyIn.cons rfl (fun K hK => ?_) ?_
        · go_simp
          refine hK _ _ ?_
          clear hK K
          refine wpAnyIn_ready (rs := [3]) (by kernel_rfl) (by simp) ?_
          refine AllReadyIn.cons rfl (fun K hK => ?_) ?_
          · go_simp
            refine ⟨trivial, ?_⟩
            refine (callsIn_wide.2 (stepsOf_any _ _ _ _ _ _ _)).mono ?_
            rintro e w4 ⟨rfl, rfl⟩
            dsimp only
            refine hK _ _ ?_
            clear hK K
            refine wpAnyIn_done (by kernel_rfl) ?_ _
            exact FIN.out _ _ _ hb3 O3.out
          exact AllReadyIn.nil
        exact AllReadyIn.nil
      exact AllReadyIn.nil
    exact AllReadyIn.nil
  case rest =>
    rintro e a w5 ⟨rfl, X, sa, cap, rfl, hb5, o5, ⟨x5, x6⟩, e0, e1, e2, e3⟩
    have hj5 := hJ.below hjV hb5
    have sV := SV.out
    have s5 := hb5.size
    have hbl : ∀ k, (Value.slice sa gl cap).ownBlock = some k → V.heap.size ≤ k ∧ k < w5.heap.size := fun k e => World.ownsRow.lt o5 k e
    have hmem : ∀ a, a ∈ tupsL y Q → a < 16 := fun a ha => by have := (tupsL_mem.1 ha).1; omega
    have htl := tupsL_len y Q
    gi_wp2_with fail
    refine wpIn_rangeFunc_X (α := Out) rfl (by omega) (T := fun k => K ≤ k ∧ k ≠ w5.heap.size + 1) (gf := 104) (lb := #[.pointer (some ⟨X, 0, none⟩), .pointer (some ⟨X + 1 + 1, 0, none⟩), .pointer (some ⟨X + 1, 0, none⟩)]) rfl trivial (enters_of Try.func104 (by kernel_rfl) rfl) (fun h => h.2 rfl)
      (steps_seq ok m4 X (X + 1 + 1) (X + 1) (w5.heap.size + 2) _ (.slice sa gl cap) (tupsL y Q) hmem (by omega) (fun k hk => ⟨by omega, by omega⟩) (fun k e => ⟨by have := hbl k e; omega, by have := hbl k e; omega⟩) w5 e0 e1 e2 e3 (Owns.mono o5 (Nat.zero_le _)) (3 - 1))
      (Below.refl _ _) (fun _ => rfl)
      (fun pre W' => J (pre.map (cutO hQ0 P)) W' ∧ (W'.heap[W.heap.size]? = some (.cells #[.func (.yield l) #[] #[]] 106 (0, 0)) ∧ W'.heap[W.heap.size + 1]? = some (.cells #[.int .i64 (M : Int)] 2 (0, 0))))
      (fun c pre W' => c = .ret ∧ Jx (pre.map (cutO hQ0 P)) W')
      (Firm.and (fun pre => hJ.mono (by omega) (pre.map (cutO hQ0 P))) (Firm.and (firm_block (by omega) _) (firm_block (by omega) _)))
      (fun c pre A B row hs hg hr => ⟨hs.1, hJx.mono (by omega) _ A B row hs.2 hg hr⟩)
      ⟨hj5, (hb5.block _ (by omega)).trans hbY, (hb5.block _ (by omega)).trans hbM⟩
      (fun z => { tmps := #[.func (.yield l) #[] #[], .pointer (some ⟨Br, 0, none⟩), .pointer (some ⟨Bf, 0, none⟩), .pointer (some ⟨W.heap.size, 0, none⟩), .pointer (some ⟨W.heap.size + 1, 0, none⟩), undef, .int .i64 (z.2.1 : Int), .pointer (some ⟨Br, 0, none⟩), .int .i64 P, .int .i64 M, .agg #[.int .i64 m, .int .i64 x], .agg #[.int .i64 P, .int .i64 y], .slice sa gl cap, .func (.func 104) #[] #[.pointer (some ⟨X, 0, none⟩), .pointer (some ⟨X + 1 + 1, 0, none⟩), .pointer (some ⟨X + 1, 0, none⟩)], z.1, .int .i64 (z.2.1 : Int), undef, undef, undef, undef, undef, undef], defers := [] }) ?assign ?body ?done ?stop
    case assign =>
      intro l' z W' K' hK'
      unfold encS
      gi_wp2
      exact hK'
    case body =>
      rintro l' pre z W' ⟨hjp, hy1, hm1⟩ hlenp
      have hYP := hY (pre.map (cutO hQ0 P)) (cutO hQ0 P z) W' hjp (by rw [List.length_map]; exact hlenp)
      obtain ⟨fn, tmps, assign, body, hy, hR⟩ := YieldAt.anyD (3 - 1 - 1 - 1) hYP
      have cy : W'.cell? ⟨W.heap.size, 0, none⟩ = some (.func (.yield l) #[] #[]) := by simp [World.cell?, hy1]
      have cm : W'.cell? ⟨W.heap.size + 1, 0, none⟩ = some (.int .i64 (M : Int)) := by simp [World.cell?, hm1]
      have hz := z.2.2
      have hval := cutO_val hQ0 HQ.out z
      have hand : bits .and .i64 (z.2.1 : Int) (M : Int) = ((cutO hQ0 P z).1 : Int) := by
        rw [hval, HM.out]; exact and_mask _ _ hz (by have := okr.h4; omega)
      unfold encRow at hy
      have HY1 := Lib.hid hy1
      have HM1 := Lib.hid hm1
      have lY : W.heap.size < W'.heap.size := cell_lt cy
      clear hval hy1 hm1 hYP
      generalize (cutO hQ0 P z).1 = cz at hand hy
      gi_wp2
      refine hR.mono ?_
      rintro e W3 ⟨ha, ⟨rfl, hj3⟩ | ⟨rfl, hj3⟩⟩
      · gi_wp2
        refine ⟨⟨⟨ha.size, fun k o hk h0 _ => (ha.same k (by omega) (Array.getElem?_eq_some_iff.1 h0).1).trans h0⟩, ha.mono (fun k h => h.1)⟩, ?_, ?_, ?_⟩
        · rw [List.map_append]; exact hj3
        · exact (ha.same _ hK (by omega)).trans HY1.out
        · exact (ha.same _ (by omega) (Array.getElem?_eq_some_iff.1 HM1.out).1).trans HM1.out
      · gi_wp2
        exact ⟨⟨⟨ha.size, fun k o hk h0 _ => (ha.same k (by omega) (Array.getElem?_eq_some_iff.1 h0).1).trans h0⟩, ha.mono (fun k h => h.1)⟩, rfl, by rw [List.map_append]; exact hj3⟩
    case done =>
      rintro D xs W' hD ⟨sp, rfl⟩ ⟨hjx, _⟩ hKd
      gi_wp2
      refine ⟨by simp, .inl ⟨_, _, rfl, run_takeDeferred hKd, ?_⟩⟩
      exact ⟨_, results_none rfl _ _ _, ⟨_, rfl⟩, .inl ⟨_, cut_outs hQ0 HQ.out (by have := okr.h4; omega) sp x _ m, hJ.put D _ hjx (by omega)⟩⟩
    case stop =>
      rintro D c pre W' hD ⟨sp, hsp⟩ ⟨rfl, hq⟩ hKd
      gi_wp2
      refine ⟨by simp, .inl ⟨_, _, rfl, run_takeDeferred hKd, ?_⟩⟩
      exact ⟨_, results_none rfl _ _ _, ⟨_, rfl⟩, .inr ⟨_, cut_pref hQ0 HQ.out (by have := okr.h4; omega) sp x _ m _ hsp, hJx.put D _ hq (by omega)⟩⟩

theorem tuples_seq {x R m : Nat} (ok : FOk (m : Int) x R) (m4 : m ≤ 4) {P y Q : Nat} (okr : ROk (P : Int) y Q) (Bf Br K n : Nat)
    (w : World) (p0 : w.cell? ⟨Bf, 0, none⟩ = some (.int .i64 (m : Int))) (p1 : w.cell? ⟨Bf, 1, none⟩ = some (.int .i64 (x : Int))) (r0 : w.cell? ⟨Br, 0, none⟩ = some (.int .i64 (P : Int))) (r1 : w.cell? ⟨Br, 1, none⟩ = some (.int .i64 (y : Int))) :
    SeqX Fence.wide n Try.prog 101 #[.pointer (some ⟨Br, 0, none⟩), .pointer (some ⟨Bf, 0, none⟩)] (encRow (R := Q)) (fun ys => ys.map (·.1) = madeL x P (tupsL y Q) [] m) (fun ys => ys.map (·.1) <+: madeL x P (tupsL y Q) [] m) ((tupsL y Q).length ^ m) K (fun k => K ≤ k) w := by
  intro l J Jx W hW hK hJ hJx hY hj
  exact callsIn_wide.2 (callsIn_wide.1 (tuples1_in ok m4 okr l Bf Br K J Jx hJ hJx W (kc hW p0) (kc hW p1) (kc hW r0) (kc hW r1) hK (fun pre z W1 h1 h2 => YieldAt.anyD 1 (hY pre z W1 h1 h2)) hj))
end Go.Proofs.Ytlohldddioikaaa
