/-
  DegreeOfFunc in both packages.
-/
import Derived.Test.YtjecemeccbfldaaZ7
namespace Go.Proofs.Ytjecemeccbfldaa
open Go.RowKit Go.Shelf
attribute [local go_sem] Oper.semAt_some
set_option linter.unusedVariables false
set_option linter.unusedSimpArgs false

/-- The greatest size of a row below k with the number 1. -/
def degS (c : Nat → Nat) : Nat → Nat
  | 0 => 0
  | k + 1 => if c k = 1 then max (degS c k) (sizeN k) else degS c k
theorem degS_le (c : Nat → Nat) (k : Nat) : degS c k ≤ 4 := by
  induction k with
  | zero => exact Nat.zero_le _
  | succ k ih => have := sizeN_le k; simp only [degS]; split <;> omega
/-- .. of the rows handed out so far. -/
def degF {R : Nat} (c : Nat → Nat) (pre : List (Row R)) : Nat := pre.foldl (fun m y => if c y.1 = 1 then max m (sizeN y.1) else m) 0
theorem degF_snoc {R : Nat} (c : Nat → Nat) (pre : List (Row R)) (y : Row R) : degF c (pre ++ [y]) = if c y.1 = 1 then max (degF c pre) (sizeN y.1) else degF c pre := by simp [degF]
theorem degF_upto {R : Nat} (hR : 0 < R) (c : Nat → Nat) (k : Nat) (hk : k ≤ R) : degF c (upto hR k) = degS c k := by
  induction k with
  | zero => rfl
  | succ k ih => rw [upto_succ, degF_snoc, ih (by omega), rowAt_val hR (by omega), degS]
theorem degF_le {R : Nat} (c : Nat → Nat) (pre : List (Row R)) : degF c pre ≤ 4 := by
  unfold degF
  suffices h : ∀ (l : List (Row R)) (m : Nat), m ≤ 4 → l.foldl (fun m y => if c y.1 = 1 then max m (sizeN y.1) else m) m ≤ 4 from h pre 0 (by omega)
  intro l
  induction l with
  | nil => intro m h; exact h
  | cons y l ih =>
    intro m h
    refine ih _ ?_
    have := sizeN_le y.1
    dsimp only
    split <;> omega

/-- The boxes of the walk over the rows: the polynomial and the degree so far. -/
structure DMid (C D : Nat) (n : Int) (X d : Nat) (W : World) : Prop where
  c0 : W.cell? ⟨C, 0, none⟩ = some (.int .i64 n)
  c1 : W.cell? ⟨C, 1, none⟩ = some (.int .i64 (X : Int))
  cd : W.cell? ⟨D, 0, none⟩ = some (.int .i64 (d : Int))
  fd : W.frozen? ⟨D, 0, none⟩ = false
theorem DMid.kept {C D : Nat} {n : Int} {X d : Nat} {W W' : World} {row : Option Nat} (h : DMid C D n X d W) (hg : W.grownBy W' row) (hr : ∀ r, row = some r → ∃ o : Obj, W.heap[r]? = some o ∧ o.isCells = false) : DMid C D n X d W' :=
  ⟨cell_kept h.c0 hg hr, cell_kept h.c1 hg hr, cell_kept h.cd hg hr, (frozen_kept h.cd hg hr).trans h.fd⟩
theorem DMid.below {C D : Nat} {n : Int} {X d : Nat} {W W' : World} (h : DMid C D n X d W) (hb : Below W.heap.size W W') : DMid C D n X d W' := ⟨kc hb h.c0, kc hb h.c1, kc hb h.cd, kf hb h.cd h.fd⟩
theorem DMid.set {C D : Nat} {n : Int} {X d d2 : Nat} {W : World} (h : DMid C D n X d W) (hne : ¬ D = C) : DMid C D n X d2 (W.drew.setCell ⟨D, 0, none⟩ (.int .i64 (d2 : Int))) := by
  have h0 : W.cell? ⟨C, 0, none⟩ = some (.int .i64 n) := h.c0
  have h1 : W.cell? ⟨C, 1, none⟩ = some (.int .i64 (X : Int)) := h.c1
  have h2 : W.cell? ⟨D, 0, none⟩ = some (.int .i64 (d : Int)) := h.cd
  have h3 : W.drew.frozen? ⟨D, 0, none⟩ = false := h.fd
  exact ⟨by simp [go_sem, h0, hne], by simp [go_sem, h1, hne], by simp [go_sem, h2], by rw [World.frozen?_setCell]; exact h3⟩
theorem kotb' {w w' : World} (hb : Below w.heap.size w w') : KeepsOthers w w' := ⟨hb.size, fun k _ hk _ => (hb.block k (Array.getElem?_eq_some_iff.1 hk).1).trans hk⟩

set_option maxRecDepth 100000 in
set_option maxHeartbeats 2000000 in
theorem implDegreeOfFunc_no {n b : Int} (h : isF n b = false) (w : World) :
    Calls Try.prog 24 #[.agg #[.int .i64 n, .int .i64 b]] w fun e w' => e = .returned (.tuple #[.int .i64 0, .int .i64 1]) ∧ Below w.heap.size w w' := by
  go_enter Try.func24, Try.ntmps24
  go_wp2_with (first
    | (go_at_call 35; refine (IsFunc_is h _).mono ?_; rintro e w2 ⟨rfl, hb2⟩))
  go_ret2
  exact ⟨rfl, bthen (bnew _ _) hb2⟩

set_option maxRecDepth 100000 in
set_option maxHeartbeats 2000000 in
theorem specDegreeOfFunc_no {n b : Int} (h : isF n b = false) (w : World) :
    Calls Try.prog 23 #[.agg #[.int .i64 n, .int .i64 b]] w fun e w' => e = .returned (.tuple #[.int .i64 0, .int .i64 1]) ∧ Below w.heap.size w w' := by
  go_enter Try.func23, Try.ntmps23
  go_wp2_with (first
    | (go_at_call 95; refine (l01Is_is h _).mono ?_; rintro e w2 ⟨rfl, hb2⟩))
  go_ret2
  exact ⟨rfl, bthen (bnew _ _) hb2⟩

set_option maxRecDepth 100000 in
set_option maxHeartbeats 2000000 in
theorem l03Degree_any {n : Int} {x R : Nat} (ok : FOk n x R) (w : World) :
    Calls Try.prog 104 #[.agg #[.int .i64 n, .int .i64 (x : Int)]] w fun e w' => e = .returned (.int .i64 (degS (polV x) R : Int)) ∧ Below w.heap.size w w' := by
  have r0 := ok.r0
  have r16 := ok.r16
  obtain ⟨W1, hW1⟩ : ∃ W1, w.alloc (.cells #[.int .i64 n, .int .i64 (x : Int)] 27) = W1 := ⟨_, rfl⟩
  have p0 : W1.cell? ⟨w.heap.size, 0, none⟩ = some (.int .i64 n) := by rw [← hW1]; simp [go_sem]
  have p1 : W1.cell? ⟨w.heap.size, 1, none⟩ = some (.int .i64 (x : Int)) := by rw [← hW1]; simp [go_sem]
  have hB : Below w.heap.size w W1 := by rw [← hW1]; exact bnew _ _
  go_enter Try.func104, Try.ntmps104
  go_wp2_with fail
  clear hW1
  refine (l03Poly_any ok _).mono ?_
  rintro e w2 ⟨s, rfl, ho, hb2⟩
  have hB2 := bthen hB hb2
  rcases ho.shape with ⟨he, _⟩ | ⟨_, g, cap, rfl, _, hg, hc, _⟩
  · have := congrArg List.length he
    rw [natL_len] at this
    exact absurd this (by simp; omega)
  · rw [natL_len] at hc ⊢
    have hC := Lib.hid (fun j (hj : j < R) => (hc.out j hj).trans (by rw [natL_get (polV x) R j hj]))
    clear ho hc hb2 p0 p1
    go_wp2
    go_loop [4, 5] (fun m' k' => ∃ k : Nat, k ≤ R ∧ k' = .int .i64 k ∧ m' = .int .i64 (degS (polV x) k : Int)) (fun _ k' => R - (intOf k').toNat)
    case atStart => exact ⟨0, Nat.zero_le _, rfl, rfl⟩
    case round =>
      obtain ⟨k, hk, rfl, rfl⟩ := hrel
      by_cases hlt : k < R
      · have hck := hC.out k hlt
        have hle := degS_le (polV x) k
        have hsz := sizeN_le k
        by_cases h1 : polV x k = 1
        · rw [h1] at hck
          rcases (show degS (polV x) k < sizeN k ∨ sizeN k ≤ degS (polV x) k by omega) with h2 | h2
          · have HS := Lib.hid (show degS (polV x) (k + 1) = sizeN k by simp only [degS, if_pos h1]; omega)
            clear h1
            go_wp2_with (go_at_call 108; refine (l03Size_any k (by omega) _).mono ?_; rintro e w' ⟨rfl, rfl⟩)
            go_round
            case rel => exact ⟨k + 1, by omega, by go_num, by rw [HS.out]⟩
            case measure => simp [intOf]; omega
          · have HS := Lib.hid (show degS (polV x) (k + 1) = degS (polV x) k by simp only [degS, if_pos h1]; omega)
            clear h1
            go_wp2_with (go_at_call 108; refine (l03Size_any k (by omega) _).mono ?_; rintro e w' ⟨rfl, rfl⟩)
            go_round
            case rel => exact ⟨k + 1, by omega, by go_num, by rw [HS.out]⟩
            case measure => simp [intOf]; omega
        · have h0 : polV x k = 0 := by have := polV_le x k; omega
          rw [h0] at hck
          have HS := Lib.hid (show degS (polV x) (k + 1) = degS (polV x) k by simp only [degS, if_neg h1])
          clear h1
          go_wp2
          go_round
          case rel => exact ⟨k + 1, by omega, by go_num, by rw [HS.out]⟩
          case measure => simp [intOf]; omega
      · obtain rfl : k = R := by omega
        go_wp2
        go_ret
        exact ⟨rfl, hB2⟩

set_option maxRecDepth 100000 in
set_option maxHeartbeats 2000000 in
theorem specDegreeOfFunc_yes {n : Int} {x R : Nat} (ok : FOk n x R) (w : World) :
    Calls Try.prog 23 #[.agg #[.int .i64 n, .int .i64 (x : Int)]] w fun e w' => e = .returned (.tuple #[.int .i64 (degS (polV x) R : Int), .int .i64 0]) ∧ Below w.heap.size w w' := by
  have h := ok.is
  obtain ⟨W1, hW1⟩ : ∃ W1, w.alloc (.cells #[.int .i64 n, .int .i64 (x : Int)] 27) = W1 := ⟨_, rfl⟩
  have p0 : W1.cell? ⟨w.heap.size, 0, none⟩ = some (.int .i64 n) := by rw [← hW1]; simp [go_sem]
  have p1 : W1.cell? ⟨w.heap.size, 1, none⟩ = some (.int .i64 (x : Int)) := by rw [← hW1]; simp [go_sem]
  have hB : Below w.heap.size w W1 := by rw [← hW1]; exact bnew _ _
  go_enter Try.func23, Try.ntmps23
  go_wp2_with (first
    | (go_at_call 95; refine (l01Is_is h _).mono ?_; rintro e w2 ⟨rfl, hb2⟩; have q0 := kc hb2 p0; have q1 := kc hb2 p1; have hB2 := bthen hB hb2; clear p0 p1)
    | (go_at_call 104; refine (l03Degree_any ok _).mono ?_; rintro e w3 ⟨rfl, hb3⟩; have hB3 := bthen hB2 hb3))
  go_ret2
  exact ⟨rfl, hB3⟩

set_option maxRecDepth 100000 in
set_option maxHeartbeats 4000000 in
theorem implDegreeOfFunc_yes {n : Int} {x R : Nat} (ok : FOk n x R) (w : World) :
    Calls Try.prog 24 #[.agg #[.int .i64 n, .int .i64 (x : Int)]] w fun e w' => e = .returned (.tuple #[.int .i64 (degS (polV x) R : Int), .int .i64 0]) ∧ Below w.heap.size w w' := by
  have h := ok.is
  have r0 := ok.r0
  have r16 := ok.r16
  obtain ⟨W1, hW1⟩ : ∃ W1, w.alloc (.cells #[.int .i64 n, .int .i64 (x : Int)] 27) = W1 := ⟨_, rfl⟩
  have p0 : W1.cell? ⟨w.heap.size, 0, none⟩ = some (.int .i64 n) := by rw [← hW1]; simp [go_sem]
  have p1 : W1.cell? ⟨w.heap.size, 1, none⟩ = some (.int .i64 (x : Int)) := by rw [← hW1]; simp [go_sem]
  have hB : Below w.heap.size w W1 := by rw [← hW1]; exact bnew _ _
  obtain ⟨X, hX⟩ : ∃ X, X = sumN (polV x) R := ⟨_, rfl⟩
  have okX : FOk n X R := hX ▸ polFun_ok ok
  have HSW := Lib.hid (fun W => (show Calls Try.prog 98 #[.agg #[.int .i64 n, .int .i64 (x : Int)]] W fun e w' => e = .returned (.agg #[.int .i64 n, .int .i64 (X : Int)]) ∧ Below W.heap.size W w' by rw [hX]; exact sumsWithin_any ok W))
  have HBIT := Lib.hid (fun r (hr : r < R) => (show bitN X r = polV x r by rw [hX]; exact polFun_bit r hr))
  have hox := okX.hx
  clear hX
  refine (callsIn_wide (n := 3)).1 ?_
  refine callsIn_of_wp_marks Try.func24 rfl trivial ?_ rfl
  simp only [Try.ntmps24, List.size_toArray, List.length_cons, List.length_nil, Nat.reduceAdd, Nat.reduceSub, Array.replicate_succ, Array.replicate_zero, List.push_toArray, List.append_toArray, List.nil_append, List.cons_append]
  gi_wp2_with (first
    | (refine ⟨trivial, ?_⟩; gi_at_call 35; refine (callsIn_wide.2 (IsFunc_is h _)).mono ?_; rintro e w2 ⟨rfl, hb2⟩; have q0 := kc hb2 p0; have q1 := kc hb2 p1; have hB2 := bthen hB hb2)
    | (refine ⟨trivial, ?_⟩; gi_at_call 98; refine (callsIn_wide.2 (HSW.out _)).mono ?_; rintro e w3 ⟨rfl, hb3⟩; have s0 := kc hb3 q0; have s1 := kc hb3 q1; have hB3 := bthen hB2 hb3; have lt3 := cell_lt s0)
    | (refine ⟨trivial, ?_⟩; gi_at_call 105; refine (callsIn_wide.2 (rowsOf_any _ _)).mono ?_; rintro e w' ⟨rfl, rfl⟩))
  obtain ⟨W0, hW0⟩ : ∃ W0, ((w3.alloc (.cells #[.int .i64 n, .int .i64 (X : Int)] 27)).alloc (.cells #[.int .i64 0] 2)).alloc (.cells #[.int .i64 n] 2) = W0 := ⟨_, rfl⟩
  have c0 : W0.cell? ⟨w3.heap.size, 0, none⟩ = some (.int .i64 n) := by rw [← hW0]; simp [go_sem]
  have c1 : W0.cell? ⟨w3.heap.size, 1, none⟩ = some (.int .i64 (X : Int)) := by rw [← hW0]; simp [go_sem]
  have cd : W0.cell? ⟨w3.heap.size + 1, 0, none⟩ = some (.int .i64 ((0 : Nat) : Int)) := by rw [← hW0]; simp [go_sem]
  have fd : W0.frozen? ⟨w3.heap.size + 1, 0, none⟩ = false := by rw [← hW0]; simp [go_sem]
  have cM : W0.cell? ⟨w3.heap.size + 1 + 1, 0, none⟩ = some (.int .i64 n) := by rw [← hW0]; simp [go_sem]
  have hsz : W0.heap.size = w3.heap.size + 3 := by rw [← hW0]; simp [go_sem]
  have hb0 : Below w3.heap.size w3 W0 := by rw [← hW0]; exact balloc (balloc (bnew _ _) _) _
  have hB0 : Below w.heap.size w W0 := bthen hB3 hb0
  have hge : w.heap.size ≤ w3.heap.size := hB3.size
  rw [hW0]
  clear hW0 hW1 hb0 hB hB2 hB3 hb2 hb3 p0 p1 q0 q1 s0 s1
  refine wpIn_rangeFunc_ownF (α := Row R) rfl (by omega) (gf := 180) (lb := #[.pointer (some ⟨w3.heap.size + 1 + 1, 0, none⟩)]) rfl trivial (enters_of Try.func180 (by kernel_rfl) rfl)
    (rows_stops (3 - 1) (by omega) (w3.heap.size + 1 + 1) w.heap.size n R ok.h0 ok.h4 r0 r16 ok.hR W0 (by omega) cM) belowK_t (belowK_b (by omega)) (Below.refl _ _) (fun _ => rfl)
    (fun pre W => DMid w3.heap.size (w3.heap.size + 1) n X (degF (polV x) pre) W ∧ Below w.heap.size w W)
    (fun _ _ _ => False)
    (OwnFrom.and (Own.from (fun s A B row hs hg hr => hs.kept hg hr) _) (ownFrom_below (Nat.le_refl _) (by omega)))
    (fun _ _ _ _ _ hs _ _ => hs)
    ⟨⟨c0, c1, cd, fd⟩, hB0⟩
    (fun y => { tmps := #[.agg #[.int .i64 n, .int .i64 (x : Int)], .pointer (some ⟨w.heap.size, 0, none⟩), .int .i64 0, .int .i64 0, .pointer (some ⟨w3.heap.size, 0, none⟩), .pointer (some ⟨w3.heap.size + 1, 0, none⟩), .int .i64 (y.1 : Int),
      .agg #[.int .i64 n, .int .i64 (x : Int)], .bool true, .bool false, .agg #[.int .i64 n, .int .i64 (x : Int)], .agg #[.int .i64 n, .int .i64 (X : Int)], .pointer (some ⟨w.heap.size, 0, none⟩), .int .i64 n, .func (.func 180) #[] #[.pointer (some ⟨w3.heap.size + 1 + 1, 0, none⟩)], .int .i64 (y.1 : Int), undef, undef, undef, undef, undef, undef, undef, undef, undef], defers := [] }) ?assign ?body ?done ?stop
  case assign =>
    intro l y W K hK
    unfold encRow
    gi_wp2
    exact hK
  case body =>
    clear c0 c1 cd fd cM hB0
    rintro l pre y W ⟨hM, hB⟩ _
    have hr := y.2
    have hsn := degF_snoc (polV x) pre y
    have hle := degF_le (polV x) pre
    have hbw := hB.size
    generalize y.1 = r at hr hsn ⊢
    have hr16 : r < 16 := by omega
    have hsz4 := sizeN_le r
    have HM := Lib.hid hM
    have c0 := hM.c0
    have c1 := hM.c1
    clear hM
    have hmx : Try.prog.follows .mixedOrders = true := by kernel_rfl
    have hd : 1 ≤ 3 - 1 - 1 := by omega
    by_cases h1 : polV x r = 1
    · have HV := Lib.hid ((HBIT.out r hr).trans h1)
      rw [if_pos h1] at hsn
      have HSN := Lib.hid hsn
      clear hsn h1
      gi_wp2_with (refine ⟨trivial, ?_⟩; gi_at_call 106; refine (callsIn_wide.2 (valueInRow_any n X r hox (by omega) _)).mono ?_; rintro e w' ⟨rfl, hb'⟩; rw [HV.out])
      have HM2 := Lib.hid (HM.out.below hb')
      have cd := HM2.out.cd
      have fd := HM2.out.fd
      have hbw' := hb'.size
      rcases (show degF (polV x) pre < sizeN r ∨ sizeN r ≤ degF (polV x) pre by omega) with h2 | h2
      · have HD := Lib.hid (show degF (polV x) (pre ++ [y]) = sizeN r by rw [HSN.out]; omega)
        have HMX := Lib.hid (show (if degF (polV x) pre < sizeN r then ((sizeN r : Nat) : Int) else ((degF (polV x) pre : Nat) : Int)) = ((sizeN r : Nat) : Int) by split <;> omega)
        have END := Lib.hid (show (KeepsOthers W (w'.drew.setCell ⟨w3.heap.size + 1, 0, none⟩ (.int .i64 (sizeN r : Int))) ∧ Below w.heap.size W (w'.drew.setCell ⟨w3.heap.size + 1, 0, none⟩ (.int .i64 (sizeN r : Int))) ∧
          (DMid w3.heap.size (w3.heap.size + 1) n X (degF (polV x) (pre ++ [y])) (w'.drew.setCell ⟨w3.heap.size + 1, 0, none⟩ (.int .i64 (sizeN r : Int))) ∧ Below w.heap.size w (w'.drew.setCell ⟨w3.heap.size + 1, 0, none⟩ (.int .i64 (sizeN r : Int))))) from
          ⟨((kotb' hb').trans (KeepsOthers.drew _)).trans (KeepsOthers.setCell _ _ _), ((hb'.mono hbw).drew).setCell (p := ⟨w3.heap.size + 1, 0, none⟩) (by simp; omega) _,
            by rw [HD.out]; exact HM2.out.set (by omega), ((bthen hB hb').drew).setCell (p := ⟨w3.heap.size + 1, 0, none⟩) (by simp; omega) _⟩)
        clear hB hb' c0 c1
        refine wpIn_region_any hmx ?_
        refine wpAnyIn_round (F := Fence.wide) l (by kernel_rfl) _ _ _ _ ?_
        change wpAnyIn _ _ _ _ _ _ _ _ _ (World.drew _)
        refine wpAnyIn_take (i := 1) (v := ?_) rfl rfl (by kernel_rfl) (by kernel_rfl) (by kernel_rfl) (fun _ _ _ h => h) ⟨Or.inl ⟨by rfl, by intro w; go_simp; try (with_reducible rfl)⟩, fun _ => rfl⟩ ?_
        refine wpAnyIn_ready (rs := [0, 2]) (by kernel_rfl) (by simp) ?_
        refine AllReadyIn.cons rfl (fun K hK => ?_) ?_
        · go_simp
          refine hK _ _ ?_
          clear hK K
          refine wpAnyIn_ready (rs := [2]) (by kernel_rfl) (by simp) ?_
          refine AllReadyIn.cons rfl (fun K hK => ?_) ?_
          · go_simp
            refine ⟨trivial, ?_⟩
            refine (callsIn_wide.2 (rowSize_any r hr16 _)).mono ?_
            rintro e w5 ⟨rfl, rfl⟩
            dsimp only
            refine hK _ _ ?_
            clear hK K
            refine wpAnyIn_ready (rs := [3]) (by kernel_rfl) (by simp) ?_
            refine AllReadyIn.cons rfl (fun K hK => ?_) ?_
            · go_simp
              try rw [HMX.out]
              refine hK _ _ ?_
              clear hK K
              refine wpAnyIn_ready (rs := [4]) (by kernel_rfl) (by simp) ?_
              refine AllReadyIn.cons rfl (fun K hK => ?_) ?_
              · go_simp
                refine hK _ _ ?_
                clear hK K
                refine wpAnyIn_done (by kernel_rfl) ?_ _
                exact END.out
              exact AllReadyIn.nil
            exact AllReadyIn.nil
          exact AllReadyIn.nil
        refine AllReadyIn.cons rfl (fun K hK => ?_) ?_
        · go_simp
          refine ⟨trivial, ?_⟩
          refine (callsIn_wide.2 (rowSize_any r hr16 _)).mono ?_
          rintro e w5 ⟨rfl, rfl⟩
          dsimp only
          refine hK _ _ ?_
          clear hK K
          refine wpAnyIn_ready (rs := [0]) (by kernel_rfl) (by simp) ?_
          refine AllReadyIn.cons rfl (fun K hK => ?_) ?_
          · go_simp
            refine hK _ _ ?_
            clear hK K
            refine wpAnyIn_ready (rs := [3]) (by kernel_rfl) (by simp) ?_
            refine AllReadyIn.cons rfl (fun K hK => ?_) ?_
            · go_simp
              try rw [HMX.out]
              refine hK _ _ ?_
              clear hK K
              refine wpAnyIn_ready (rs := [4]) (by kernel_rfl) (by simp) ?_
              refine AllReadyIn.cons rfl (fun K hK => ?_) ?_
              · go_simp
                refine hK _ _ ?_
                clear hK K
                refine wpAnyIn_done (by kernel_rfl) ?_ _
                exact END.out
              exact AllReadyIn.nil
            exact AllReadyIn.nil
          exact AllReadyIn.nil
        exact AllReadyIn.nil
      · have HD := Lib.hid (show degF (polV x) (pre ++ [y]) = degF (polV x) pre by rw [HSN.out]; omega)
        have HMX := Lib.hid (show (if degF (polV x) pre < sizeN r then ((sizeN r : Nat) : Int) else ((degF (polV x) pre : Nat) : Int)) = ((degF (polV x) pre : Nat) : Int) by split <;> omega)
        have END := Lib.hid (show (KeepsOthers W (w'.drew.setCell ⟨w3.heap.size + 1, 0, none⟩ (.int .i64 (degF (polV x) pre : Int))) ∧ Below w.heap.size W (w'.drew.setCell ⟨w3.heap.size + 1, 0, none⟩ (.int .i64 (degF (polV x) pre : Int))) ∧
          (DMid w3.heap.size (w3.heap.size + 1) n X (degF (polV x) (pre ++ [y])) (w'.drew.setCell ⟨w3.heap.size + 1, 0, none⟩ (.int .i64 (degF (polV x) pre : Int))) ∧ Below w.heap.size w (w'.drew.setCell ⟨w3.heap.size + 1, 0, none⟩ (.int .i64 (degF (polV x) pre : Int))))) from
          ⟨((kotb' hb').trans (KeepsOthers.drew _)).trans (KeepsOthers.setCell _ _ _), ((hb'.mono hbw).drew).setCell (p := ⟨w3.heap.size + 1, 0, none⟩) (by simp; omega) _,
            by rw [HD.out]; exact HM2.out.set (by omega), ((bthen hB hb').drew).setCell (p := ⟨w3.heap.size + 1, 0, none⟩) (by simp; omega) _⟩)
        clear hB hb' c0 c1
        refine wpIn_region_any hmx ?_
        refine wpAnyIn_round (F := Fence.wide) l (by kernel_rfl) _ _ _ _ ?_
        change wpAnyIn _ _ _ _ _ _ _ _ _ (World.drew _)
        refine wpAnyIn_take (i := 1) (v := ?_) rfl rfl (by kernel_rfl) (by kernel_rfl) (by kernel_rfl) (fun _ _ _ h => h) ⟨Or.inl ⟨by rfl, by intro w; go_simp; try (with_reducible rfl)⟩, fun _ => rfl⟩ ?_
        refine wpAnyIn_ready (rs := [0, 2]) (by kernel_rfl) (by simp) ?_
        refine AllReadyIn.cons rfl (fun K hK => ?_) ?_
        · go_simp
          refine hK _ _ ?_
          clear hK K
          refine wpAnyIn_ready (rs := [2]) (by kernel_rfl) (by simp) ?_
          refine AllReadyIn.cons rfl (fun K hK => ?_) ?_
          · go_simp
            refine ⟨trivial, ?_⟩
            refine (callsIn_wide.2 (rowSize_any r hr16 _)).mono ?_
            rintro e w5 ⟨rfl, rfl⟩
            dsimp only
            refine hK _ _ ?_
            clear hK K
            refine wpAnyIn_ready (rs := [3]) (by kernel_rfl) (by simp) ?_
            refine AllReadyIn.cons rfl (fun K hK => ?_) ?_
            · go_simp
              try rw [HMX.out]
              refine hK _ _ ?_
              clear hK K
              refine wpAnyIn_ready (rs := [4]) (by kernel_rfl) (by simp) ?_
              refine AllReadyIn.cons rfl (fun K hK => ?_) ?_
              · go_simp
                refine hK _ _ ?_
                clear hK K
                refine wpAnyIn_done (by kernel_rfl) ?_ _
                exact END.out
              exact AllReadyIn.nil
            exact AllReadyIn.nil
          exact AllReadyIn.nil
        refine AllReadyIn.cons rfl (fun K hK => ?_) ?_
        · go_simp
          refine ⟨trivial, ?_⟩
          refine (callsIn_wide.2 (rowSize_any r hr16 _)).mono ?_
          rintro e w5 ⟨rfl, rfl⟩
          dsimp only
          refine hK _ _ ?_
          clear hK K
          refine wpAnyIn_ready (rs := [0]) (by kernel_rfl) (by simp) ?_
          refine AllReadyIn.cons rfl (fun K hK => ?_) ?_
          · go_simp
            refine hK _ _ ?_
            clear hK K
            refine wpAnyIn_ready (rs := [3]) (by kernel_rfl) (by simp) ?_
            refine AllReadyIn.cons rfl (fun K hK => ?_) ?_
            · go_simp
              try rw [HMX.out]
              refine hK _ _ ?_
              clear hK K
              refine wpAnyIn_ready (rs := [4]) (by kernel_rfl) (by simp) ?_
              refine AllReadyIn.cons rfl (fun K hK => ?_) ?_
              · go_simp
                refine hK _ _ ?_
                clear hK K
                refine wpAnyIn_done (by kernel_rfl) ?_ _
                exact END.out
              exact AllReadyIn.nil
            exact AllReadyIn.nil
          exact AllReadyIn.nil
        exact AllReadyIn.nil
    · have HV := Lib.hid (show bitN X r = 0 by rw [HBIT.out r hr]; have := polV_le x r; omega)
      rw [if_neg h1] at hsn
      have HSN := Lib.hid hsn
      clear hsn h1
      gi_wp2_with (refine ⟨trivial, ?_⟩; gi_at_call 106; refine (callsIn_wide.2 (valueInRow_any n X r hox (by omega) _)).mono ?_; rintro e w' ⟨rfl, hb'⟩; rw [HV.out])
      exact ⟨kotb' hb', hb'.mono hbw, by rw [HSN.out]; exact HM.out.below hb', bthen hB hb'⟩
  case done =>
    clear c0 c1 cd fd cM hB0
    rintro D ys W hD rfl ⟨hM, hBW⟩ hK
    rw [degF_upto r0 (polV x) R (Nat.le_refl _)] at hM
    have cd := hM.cd
    clear hM
    gi_wp2
    refine ⟨by simp, .inl ⟨_, _, rfl, run_takeDeferred hK, ?_⟩⟩
    exact ⟨.tuple #[.int .i64 (degS (polV x) R : Int), .int .i64 0], by simp [results, Try.results24, go_sem], rfl, hBW.trans (belowK_b (w := w) (Nat.le_refl _) W D _ _ (by omega) hK rfl rfl)⟩
  case stop =>
    rintro D c pre W _ _ h _
    exact h.elim

theorem bothDegreeOfFunc (n b : Int) (_ : (Lit.int .i64 n).wf = true) (_ : (Lit.int .i64 b).wf = true) : ∃ ra rc : Int, 
    (∀ w, Calls Try.prog 23 #[.agg #[.int .i64 n, .int .i64 b]] w (fun e w' => e = .returned (.tuple #[.int .i64 ra, .int .i64 rc]) ∧ Below w.heap.size w w')) ∧
    (∀ w, Calls Try.prog 24 #[.agg #[.int .i64 n, .int .i64 b]] w (fun e w' => e = .returned (.tuple #[.int .i64 ra, .int .i64 rc]) ∧ Below w.heap.size w w')) := by
  cases h : isF n b
  · exact ⟨_, _, specDegreeOfFunc_no h, implDegreeOfFunc_no h⟩
  · obtain ⟨x, R, rfl, ok⟩ := fok h
    exact ⟨_, _, specDegreeOfFunc_yes ok, implDegreeOfFunc_yes ok⟩
end Go.Proofs.Ytjecemeccbfldaa
