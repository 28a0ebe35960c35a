/-
  The texts YA, Z8, ZA, ZB, ZM, YB in one.
-/
import Derived.Test.YtenbokdcdokhiabMPFnPolynomials5
import Derived.Deep.RegionLaw

/- YA:
  A law over a code: what is kept over the calls (the code, boxes of structs, lists of the calls' own). -/
namespace Go.Proofs.Ytenbokdcdokhiab
open Go.RowKit
set_option linter.unusedVariables false
set_option linter.unusedSimpArgs false

/-- The state within a law: L the boxes (block, both cells), M the lists (base, slice, numbers). -/
structure LawSt (w : World) (a : Option Addr) (len : Nat) (L : List (Nat × Int × Int)) (M : List (Nat × Value × List Int)) (W : World) : Prop where
  G : Below w.heap.size w W
  C : Code W a len
  B : ∀ t, t ∈ L → W.cell? ⟨t.1, 0, none⟩ = some (.int .i64 t.2.1) ∧ W.cell? ⟨t.1, 1, none⟩ = some (.int .i64 t.2.2)
  O : ∀ t, t ∈ M → Owns W t.1 t.2.1 t.2.2
theorem LawSt.start {w : World} {a : Option Addr} {len : Nat} (C : Code w a len) : LawSt w a len [] [] w := ⟨Below.refl _ _, C, fun t h => by simp at h, fun t h => by simp at h⟩
theorem LawSt.below {w : World} {a : Option Addr} {len : Nat} {L : List (Nat × Int × Int)} {M : List (Nat × Value × List Int)} {W W' : World} (h : LawSt w a len L M W) (hb : Below W.heap.size W W') : LawSt w a len L M W' :=
  ⟨bthen h.G hb, h.C.below hb, fun t ht => ⟨kc hb (h.B t ht).1, kc hb (h.B t ht).2⟩, fun t ht => (h.O t ht).below hb⟩
theorem LawSt.drew {w : World} {a : Option Addr} {len : Nat} {L : List (Nat × Int × Int)} {M : List (Nat × Value × List Int)} {W : World} (h : LawSt w a len L M W) : LawSt w a len L M W.drew := h.below (Below.refl _ _).drew
theorem LawSt.box {w : World} {a : Option Addr} {len : Nat} {L : List (Nat × Int × Int)} {M : List (Nat × Value × List Int)} {W : World} (h : LawSt w a len L M W) (n x : Int) (T : TypeId) :
    LawSt w a len ((W.heap.size, n, x) :: L) M (W.alloc (.cells #[.int .i64 n, .int .i64 x] T)) := by
  have k := h.below (bnew W (.cells #[.int .i64 n, .int .i64 x] T))
  refine ⟨k.G, k.C, fun t ht => ?_, k.O⟩
  rcases List.mem_cons.mp ht with rfl | ht
  · exact ⟨by simp [go_sem], by simp [go_sem]⟩
  · exact k.B t ht
theorem LawSt.list {w : World} {a : Option Addr} {len : Nat} {L : List (Nat × Int × Int)} {M : List (Nat × Value × List Int)} {W : World} (h : LawSt w a len L M W) {base : Nat} {s : Value} {xs : List Int} (ho : Owns W base s xs) : LawSt w a len L ((base, s, xs) :: M) W :=
  ⟨h.G, h.C, h.B, fun t ht => by
    rcases List.mem_cons.mp ht with rfl | ht
    · exact ho
    · exact h.O t ht⟩
theorem LawSt.less {w : World} {a : Option Addr} {len : Nat} {L L' : List (Nat × Int × Int)} {M M' : List (Nat × Value × List Int)} {W : World} (h : LawSt w a len L M W) (hL : ∀ t, t ∈ L' → t ∈ L) (hM : ∀ t, t ∈ M' → t ∈ M) : LawSt w a len L' M' W :=
  ⟨h.G, h.C, fun t ht => h.B t (hL t ht), fun t ht => h.O t (hM t ht)⟩

set_option maxRecDepth 100000 in
set_option maxHeartbeats 2000000 in
theorem big_ok {a : Option Addr} {len cap : Nat} (w : World) :
    Calls Try.prog 9 #[.slice a len cap] w fun e w' => e = .returned (.bool (decide (4096 < len))) ∧ w = w' := by
  have e : decide ((4096 : Int) < (len : Int)) = decide (4096 < len) := by congr 1; exact propext (by omega)
  go_enter Try.func9, Try.ntmps9
  go_wp2
  go_ret
  simp [e]
theorem Num.wf {x : Int} (h : Num x) : (Lit.int .i64 x).wf = true := by
  obtain ⟨h1, h2⟩ := h
  simp [Lit.wf, IntKind.min, IntKind.max, IntKind.bits, IntKind.signed]
  omega
end Go.Proofs.Ytenbokdcdokhiab

/- Z8:
  DegreeOfFunc in both packages. -/
namespace Go.Proofs.Ytenbokdcdokhiab
open Go.RowKit Go.Shelf
attribute [local go_sem] Oper.semAt_some
set_option linter.unusedVariables false
set_option linter.unusedSimpArgs false

/-- The greatest size of a row below k with the number 1. -/
def degS (c : Nat → Nat) : Nat → Nat
  | 0 => 0
  | k + 1 => if c k = 1 then max (degS c k) (sizeN k) else degS c k
theorem degS_le (c : Nat → Nat) (k : Nat) : degS c k ≤ 4 := by
  induction k with
  | zero => exact Nat.zero_le _
  | succ k ih => have := sizeN_le k; simp only [degS]; split <;> omega
/-- .. of the rows handed out so far. -/
def degF {R : Nat} (c : Nat → Nat) (pre : List (Row R)) : Nat := pre.foldl (fun m y => if c y.1 = 1 then max m (sizeN y.1) else m) 0
theorem degF_snoc {R : Nat} (c : Nat → Nat) (pre : List (Row R)) (y : Row R) : degF c (pre ++ [y]) = if c y.1 = 1 then max (degF c pre) (sizeN y.1) else degF c pre := by simp [degF]
theorem degF_upto {R : Nat} (hR : 0 < R) (c : Nat → Nat) (k : Nat) (hk : k ≤ R) : degF c (upto hR k) = degS c k := by
  induction k with
  | zero => rfl
  | succ k ih => rw [upto_succ, degF_snoc, ih (by omega), rowAt_val hR (by omega), degS]
theorem degF_le {R : Nat} (c : Nat → Nat) (pre : List (Row R)) : degF c pre ≤ 4 := by
  unfold degF
  suffices h : ∀ (l : List (Row R)) (m : Nat), m ≤ 4 → l.foldl (fun m y => if c y.1 = 1 then max m (sizeN y.1) else m) m ≤ 4 from h pre 0 (by omega)
  intro l
  induction l with
  | nil => intro m h; exact h
  | cons y l ih =>
    intro m h
    refine ih _ ?_
    have := sizeN_le y.1
    dsimp only
    split <;> omega

/-- The boxes of the walk over the rows: the polynomial and the degree so far. -/
structure DMid (C D : Nat) (n : Int) (X d : Nat) (W : World) : Prop where
  c0 : W.cell? ⟨C, 0, none⟩ = some (.int .i64 n)
  c1 : W.cell? ⟨C, 1, none⟩ = some (.int .i64 (X : Int))
  cd : W.cell? ⟨D, 0, none⟩ = some (.int .i64 (d : Int))
  fd : W.frozen? ⟨D, 0, none⟩ = false
theorem DMid.kept {C D : Nat} {n : Int} {X d : Nat} {W W' : World} {row : Option Nat} (h : DMid C D n X d W) (hg : W.grownBy W' row) (hr : ∀ r, row = some r → ∃ o : Obj, W.heap[r]? = some o ∧ o.isCells = false) : DMid C D n X d W' :=
  ⟨cell_kept h.c0 hg hr, cell_kept h.c1 hg hr, cell_kept h.cd hg hr, (frozen_kept h.cd hg hr).trans h.fd⟩
theorem DMid.below {C D : Nat} {n : Int} {X d : Nat} {W W' : World} (h : DMid C D n X d W) (hb : Below W.heap.size W W') : DMid C D n X d W' := ⟨kc hb h.c0, kc hb h.c1, kc hb h.cd, kf hb h.cd h.fd⟩
theorem DMid.set {C D : Nat} {n : Int} {X d d2 : Nat} {W : World} (h : DMid C D n X d W) (hne : ¬ D = C) : DMid C D n X d2 (W.drew.setCell ⟨D, 0, none⟩ (.int .i64 (d2 : Int))) := by
  have h0 : W.cell? ⟨C, 0, none⟩ = some (.int .i64 n) := h.c0
  have h1 : W.cell? ⟨C, 1, none⟩ = some (.int .i64 (X : Int)) := h.c1
  have h2 : W.cell? ⟨D, 0, none⟩ = some (.int .i64 (d : Int)) := h.cd
  have h3 : W.drew.frozen? ⟨D, 0, none⟩ = false := h.fd
  exact ⟨by simp [go_sem, h0, hne], by simp [go_sem, h1, hne], by simp [go_sem, h2], by rw [World.frozen?_setCell]; exact h3⟩
theorem kotb' {w w' : World} (hb : Below w.heap.size w w') : KeepsOthers w w' := ⟨hb.size, fun k _ hk _ => (hb.block k (Array.getElem?_eq_some_iff.1 hk).1).trans hk⟩

set_option maxRecDepth 100000 in
set_option maxHeartbeats 2000000 in
theorem implDegreeOfFunc_no {n b : Int} (h : isF n b = false) (w : World) :
    Calls Try.prog 17 #[.agg #[.int .i64 n, .int .i64 b]] w fun e w' => e = .returned (.tuple #[.int .i64 0, .int .i64 1]) ∧ Below w.heap.size w w' := by
  go_enter Try.func17, Try.ntmps17
  go_wp2_with (first
    | (go_at_call 16; refine (IsFunc_is h _).mono ?_; rintro e w2 ⟨rfl, hb2⟩))
  go_ret2
  exact ⟨rfl, bthen (bnew _ _) hb2⟩

set_option maxRecDepth 100000 in
set_option maxHeartbeats 2000000 in
theorem specDegreeOfFunc_no {n b : Int} (h : isF n b = false) (w : World) :
    Calls Try.prog 31 #[.agg #[.int .i64 n, .int .i64 b]] w fun e w' => e = .returned (.tuple #[.int .i64 0, .int .i64 1]) ∧ Below w.heap.size w w' := by
  go_enter Try.func31, Try.ntmps31
  go_wp2_with (first
    | (go_at_call 153; refine (l01Is_is h _).mono ?_; rintro e w2 ⟨rfl, hb2⟩))
  go_ret2
  exact ⟨rfl, bthen (bnew _ _) hb2⟩

set_option maxRecDepth 100000 in
set_option maxHeartbeats 2000000 in
theorem l03Degree_any {n : Int} {x R : Nat} (ok : FOk n x R) (w : World) :
    Calls Try.prog 163 #[.agg #[.int .i64 n, .int .i64 (x : Int)]] w fun e w' => e = .returned (.int .i64 (degS (polV x) R : Int)) ∧ Below w.heap.size w w' := by
  have r0 := ok.r0
  have r16 := ok.r16
  obtain ⟨W1, hW1⟩ : ∃ W1, w.alloc (.cells #[.int .i64 n, .int .i64 (x : Int)] 25) = W1 := ⟨_, rfl⟩
  have p0 : W1.cell? ⟨w.heap.size, 0, none⟩ = some (.int .i64 n) := by rw [← hW1]; simp [go_sem]
  have p1 : W1.cell? ⟨w.heap.size, 1, none⟩ = some (.int .i64 (x : Int)) := by rw [← hW1]; simp [go_sem]
  have hB : Below w.heap.size w W1 := by rw [← hW1]; exact bnew _ _
  go_enter Try.func163, Try.ntmps163
  go_wp2_with fail
  clear hW1
  refine (l03Poly_any ok _).mono ?_
  rintro e w2 ⟨s, rfl, ho, hb2⟩
  have hB2 := bthen hB hb2
  rcases ho.shape with ⟨he, _⟩ | ⟨_, g, cap, rfl, _, hg, hc, _⟩
  · have := congrArg List.length he
    rw [natL_len] at this
    exact absurd this (by simp; omega)
  · rw [natL_len] at hc ⊢
    have hC := Lib.hid (fun j (hj : j < R) => (hc.out j hj).trans (by rw [natL_get (polV x) R j hj]))
    clear ho hc hb2 p0 p1
    go_wp2
    go_loop [4, 5] (fun m' k' => ∃ k : Nat, k ≤ R ∧ k' = .int .i64 k ∧ m' = .int .i64 (degS (polV x) k : Int)) (fun _ k' => R - (intOf k').toNat)
    case atStart => exact ⟨0, Nat.zero_le _, rfl, rfl⟩
    case round =>
      obtain ⟨k, hk, rfl, rfl⟩ := hrel
      by_cases hlt : k < R
      · have hck := hC.out k hlt
        have hle := degS_le (polV x) k
        have hsz := sizeN_le k
        by_cases h1 : polV x k = 1
        · rw [h1] at hck
          rcases (show degS (polV x) k < sizeN k ∨ sizeN k ≤ degS (polV x) k by omega) with h2 | h2
          · have HS := Lib.hid (show degS (polV x) (k + 1) = sizeN k by simp only [degS, if_pos h1]; omega)
            clear h1
            go_wp2_with (go_at_call 160; refine (l03Size_any k (by omega) _).mono ?_; rintro e w' ⟨rfl, rfl⟩)
            go_round
            case rel => exact ⟨k + 1, by omega, by go_num, by rw [HS.out]⟩
            case measure => simp [intOf]; omega
          · have HS := Lib.hid (show degS (polV x) (k + 1) = degS (polV x) k by simp only [degS, if_pos h1]; omega)
            clear h1
            go_wp2_with (go_at_call 160; refine (l03Size_any k (by omega) _).mono ?_; rintro e w' ⟨rfl, rfl⟩)
            go_round
            case rel => exact ⟨k + 1, by omega, by go_num, by rw [HS.out]⟩
            case measure => simp [intOf]; omega
        · have h0 : polV x k = 0 := by have := polV_le x k; omega
          rw [h0] at hck
          have HS := Lib.hid (show degS (polV x) (k + 1) = degS (polV x) k by simp only [degS, if_neg h1])
          clear h1
          go_wp2
          go_round
          case rel => exact ⟨k + 1, by omega, by go_num, by rw [HS.out]⟩
          case measure => simp [intOf]; omega
      · obtain rfl : k = R := by omega
        go_wp2
        go_ret
        exact ⟨rfl, hB2⟩

set_option maxRecDepth 100000 in
set_option maxHeartbeats 2000000 in
theorem specDegreeOfFunc_yes {n : Int} {x R : Nat} (ok : FOk n x R) (w : World) :
    Calls Try.prog 31 #[.agg #[.int .i64 n, .int .i64 (x : Int)]] w fun e w' => e = .returned (.tuple #[.int .i64 (degS (polV x) R : Int), .int .i64 0]) ∧ Below w.heap.size w w' := by
  have h := ok.is
  obtain ⟨W1, hW1⟩ : ∃ W1, w.alloc (.cells #[.int .i64 n, .int .i64 (x : Int)] 25) = W1 := ⟨_, rfl⟩
  have p0 : W1.cell? ⟨w.heap.size, 0, none⟩ = some (.int .i64 n) := by rw [← hW1]; simp [go_sem]
  have p1 : W1.cell? ⟨w.heap.size, 1, none⟩ = some (.int .i64 (x : Int)) := by rw [← hW1]; simp [go_sem]
  have hB : Below w.heap.size w W1 := by rw [← hW1]; exact bnew _ _
  go_enter Try.func31, Try.ntmps31
  go_wp2_with (first
    | (go_at_call 153; refine (l01Is_is h _).mono ?_; rintro e w2 ⟨rfl, hb2⟩; have q0 := kc hb2 p0; have q1 := kc hb2 p1; have hB2 := bthen hB hb2; clear p0 p1)
    | (go_at_call 163; refine (l03Degree_any ok _).mono ?_; rintro e w3 ⟨rfl, hb3⟩; have hB3 := bthen hB2 hb3))
  go_ret2
  exact ⟨rfl, hB3⟩

set_option maxRecDepth 100000 in
set_option maxHeartbeats 4000000 in
theorem implDegreeOfFunc_yes {n : Int} {x R : Nat} (ok : FOk n x R) (w : World) :
    Calls Try.prog 17 #[.agg #[.int .i64 n, .int .i64 (x : Int)]] w fun e w' => e = .returned (.tuple #[.int .i64 (degS (polV x) R : Int), .int .i64 0]) ∧ Below w.heap.size w w' := by
  have h := ok.is
  have r0 := ok.r0
  have r16 := ok.r16
  obtain ⟨W1, hW1⟩ : ∃ W1, w.alloc (.cells #[.int .i64 n, .int .i64 (x : Int)] 25) = W1 := ⟨_, rfl⟩
  have p0 : W1.cell? ⟨w.heap.size, 0, none⟩ = some (.int .i64 n) := by rw [← hW1]; simp [go_sem]
  have p1 : W1.cell? ⟨w.heap.size, 1, none⟩ = some (.int .i64 (x : Int)) := by rw [← hW1]; simp [go_sem]
  have hB : Below w.heap.size w W1 := by rw [← hW1]; exact bnew _ _
  obtain ⟨X, hX⟩ : ∃ X, X = sumN (polV x) R := ⟨_, rfl⟩
  have okX : FOk n X R := hX ▸ polFun_ok ok
  have HSW := Lib.hid (fun W => (show Calls Try.prog 139 #[.agg #[.int .i64 n, .int .i64 (x : Int)]] W fun e w' => e = .returned (.agg #[.int .i64 n, .int .i64 (X : Int)]) ∧ Below W.heap.size W w' by rw [hX]; exact sumsWithin_any ok W))
  have HBIT := Lib.hid (fun r (hr : r < R) => (show bitN X r = polV x r by rw [hX]; exact polFun_bit r hr))
  have hox := okX.hx
  clear hX
  refine (callsIn_wide (n := 3)).1 ?_
  refine callsIn_of_wp_marks Try.func17 rfl trivial ?_ rfl
  simp only [Try.ntmps17, List.size_toArray, List.length_cons, List.length_nil, Nat.reduceAdd, Nat.reduceSub, Array.replicate_succ, Array.replicate_zero, List.push_toArray, List.append_toArray, List.nil_append, List.cons_append]
  gi_wp2_with (first
    | (refine ⟨trivial, ?_⟩; gi_at_call 16; refine (callsIn_wide.2 (IsFunc_is h _)).mono ?_; rintro e w2 ⟨rfl, hb2⟩; have q0 := kc hb2 p0; have q1 := kc hb2 p1; have hB2 := bthen hB hb2)
    | (refine ⟨trivial, ?_⟩; gi_at_call 139; refine (callsIn_wide.2 (HSW.out _)).mono ?_; rintro e w3 ⟨rfl, hb3⟩; have s0 := kc hb3 q0; have s1 := kc hb3 q1; have hB3 := bthen hB2 hb3; have lt3 := cell_lt s0)
    | (refine ⟨trivial, ?_⟩; gi_at_call 142; refine (callsIn_wide.2 (rowsOf_any _ _)).mono ?_; rintro e w' ⟨rfl, rfl⟩))
  obtain ⟨W0, hW0⟩ : ∃ W0, ((w3.alloc (.cells #[.int .i64 n, .int .i64 (X : Int)] 25)).alloc (.cells #[.int .i64 0] 2)).alloc (.cells #[.int .i64 n] 2) = W0 := ⟨_, rfl⟩
  have c0 : W0.cell? ⟨w3.heap.size, 0, none⟩ = some (.int .i64 n) := by rw [← hW0]; simp [go_sem]
  have c1 : W0.cell? ⟨w3.heap.size, 1, none⟩ = some (.int .i64 (X : Int)) := by rw [← hW0]; simp [go_sem]
  have cd : W0.cell? ⟨w3.heap.size + 1, 0, none⟩ = some (.int .i64 ((0 : Nat) : Int)) := by rw [← hW0]; simp [go_sem]
  have fd : W0.frozen? ⟨w3.heap.size + 1, 0, none⟩ = false := by rw [← hW0]; simp [go_sem]
  have cM : W0.cell? ⟨w3.heap.size + 1 + 1, 0, none⟩ = some (.int .i64 n) := by rw [← hW0]; simp [go_sem]
  have hsz : W0.heap.size = w3.heap.size + 3 := by rw [← hW0]; simp [go_sem]
  have hb0 : Below w3.heap.size w3 W0 := by rw [← hW0]; exact balloc (balloc (bnew _ _) _) _
  have hB0 : Below w.heap.size w W0 := bthen hB3 hb0
  have hge : w.heap.size ≤ w3.heap.size := hB3.size
  rw [hW0]
  clear hW0 hW1 hb0 hB hB2 hB3 hb2 hb3 p0 p1 q0 q1 s0 s1
  refine wpIn_rangeFunc_ownF (α := Row R) rfl (by omega) (gf := 252) (lb := #[.pointer (some ⟨w3.heap.size + 1 + 1, 0, none⟩)]) rfl trivial (enters_of Try.func252 (by kernel_rfl) rfl)
    (rows_stops (3 - 1) (by omega) (w3.heap.size + 1 + 1) w.heap.size n R ok.h0 ok.h4 r0 r16 ok.hR W0 (by omega) cM) belowK_t (belowK_b (by omega)) (Below.refl _ _) (fun _ => rfl)
    (fun pre W => DMid w3.heap.size (w3.heap.size + 1) n X (degF (polV x) pre) W ∧ Below w.heap.size w W)
    (fun _ _ _ => False)
    (OwnFrom.and (Own.from (fun s A B row hs hg hr => hs.kept hg hr) _) (ownFrom_below (Nat.le_refl _) (by omega)))
    (fun _ _ _ _ _ hs _ _ => hs)
    ⟨⟨c0, c1, cd, fd⟩, hB0⟩
    (fun y => { tmps := #[.agg #[.int .i64 n, .int .i64 (x : Int)], .pointer (some ⟨w.heap.size, 0, none⟩), .int .i64 0, .int .i64 0, .pointer (some ⟨w3.heap.size, 0, none⟩), .pointer (some ⟨w3.heap.size + 1, 0, none⟩), .int .i64 (y.1 : Int),
      .agg #[.int .i64 n, .int .i64 (x : Int)], .bool true, .bool false, .agg #[.int .i64 n, .int .i64 (x : Int)], .agg #[.int .i64 n, .int .i64 (X : Int)], .pointer (some ⟨w.heap.size, 0, none⟩), .int .i64 n, .func (.func 252) #[] #[.pointer (some ⟨w3.heap.size + 1 + 1, 0, none⟩)], .int .i64 (y.1 : Int), undef, undef, undef, undef, undef, undef, undef, undef, undef], defers := [] }) ?assign ?body ?done ?stop
  case assign =>
    intro l y W K hK
    unfold encRow
    gi_wp2
    exact hK
  case body =>
    clear c0 c1 cd fd cM hB0
    rintro l pre y W ⟨hM, hB⟩ _
    have hr := y.2
    have hsn := degF_snoc (polV x) pre y
    have hle := degF_le (polV x) pre
    have hbw := hB.size
    generalize y.1 = r at hr hsn ⊢
    have hr16 : r < 16 := by omega
    have hsz4 := sizeN_le r
    have HM := Lib.hid hM
    have c0 := hM.c0
    have c1 := hM.c1
    clear hM
    have hmx : Try.prog.follows .mixedOrders = true := by kernel_rfl
    have hd : 1 ≤ 3 - 1 - 1 := by omega
    by_cases h1 : polV x r = 1
    · have HV := Lib.hid ((HBIT.out r hr).trans h1)
      rw [if_pos h1] at hsn
      have HSN := Lib.hid hsn
      clear hsn h1
      gi_wp2_with (refine ⟨trivial, ?_⟩; gi_at_call 143; refine (callsIn_wide.2 (valueInRow_any n X r hox (by omega) _)).mono ?_; rintro e w' ⟨rfl, hb'⟩; rw [HV.out])
      have HM2 := Lib.hid (HM.out.below hb')
      have cd := HM2.out.cd
      have fd := HM2.out.fd
      have hbw' := hb'.size
      rcases (show degF (polV x) pre < sizeN r ∨ sizeN r ≤ degF (polV x) pre by omega) with h2 | h2
      · have HD := Lib.hid (show degF (polV x) (pre ++ [y]) = sizeN r by rw [HSN.out]; omega)
        have HMX := Lib.hid (show (if degF (polV x) pre < sizeN r then ((sizeN r : Nat) : Int) else ((degF (polV x) pre : Nat) : Int)) = ((sizeN r : Nat) : Int) by split <;> omega)
        have END := Lib.hid (show (KeepsOthers W (w'.drew.setCell ⟨w3.heap.size + 1, 0, none⟩ (.int .i64 (sizeN r : Int))) ∧ Below w.heap.size W (w'.drew.setCell ⟨w3.heap.size + 1, 0, none⟩ (.int .i64 (sizeN r : Int))) ∧
          (DMid w3.heap.size (w3.heap.size + 1) n X (degF (polV x) (pre ++ [y])) (w'.drew.setCell ⟨w3.heap.size + 1, 0, none⟩ (.int .i64 (sizeN r : Int))) ∧ Below w.heap.size w (w'.drew.setCell ⟨w3.heap.size + 1, 0, none⟩ (.int .i64 (sizeN r : Int))))) from
          ⟨((kotb' hb').trans (KeepsOthers.drew _)).trans (KeepsOthers.setCell _ _ _), ((hb'.mono hbw).drew).setCell (p := ⟨w3.heap.size + 1, 0, none⟩) (by simp; omega) _,
            by rw [HD.out]; exact HM2.out.set (by omega), ((bthen hB hb').drew).setCell (p := ⟨w3.heap.size + 1, 0, none⟩) (by simp; omega) _⟩)
        clear hB hb' c0 c1
        refine wpIn_region_any hmx ?_
        refine wpAnyIn_round (F := Fence.wide) l (by kernel_rfl) _ _ _ _ ?_
        change wpAnyIn _ _ _ _ _ _ _ _ _ (World.drew _)
        refine wpAnyIn_take (i := 1) (v := ?_) rfl rfl (by kernel_rfl) (by kernel_rfl) (by kernel_rfl) (fun _ _ _ h => h) ⟨Or.inl ⟨by rfl, by intro w; go_simp; try (with_reducible rfl)⟩, fun _ => rfl⟩ ?_
        refine wpAnyIn_ready (rs := [0, 2]) (by kernel_rfl) (by simp) ?_
        refine AllReadyIn.cons rfl (fun K hK => ?_) ?_
        · go_simp
          refine hK _ _ ?_
          clear hK K
          refine wpAnyIn_ready (rs := [2]) (by kernel_rfl) (by simp) ?_
          refine AllReadyIn.cons rfl (fun K hK => ?_) ?_
          · go_simp
            refine ⟨trivial, ?_⟩
            refine (callsIn_wide.2 (rowSize_any r hr16 _)).mono ?_
            rintro e w5 ⟨rfl, rfl⟩
            dsimp only
            refine hK _ _ ?_
            clear hK K
            refine wpAnyIn_ready (rs := [3]) (by kernel_rfl) (by simp) ?_
            refine AllReadyIn.cons rfl (fun K hK => ?_) ?_
            · go_simp
              try rw [HMX.out]
              refine hK _ _ ?_
              clear hK K
              refine wpAnyIn_ready (rs := [4]) (by kernel_rfl) (by simp) ?_
              refine AllReadyIn.cons rfl (fun K hK => ?_) ?_
              · go_simp
                refine hK _ _ ?_
                clear hK K
                refine wpAnyIn_done (by kernel_rfl) ?_ _
                exact END.out
              exact AllReadyIn.nil
            exact AllReadyIn.nil
          exact AllReadyIn.nil
        refine AllReadyIn.cons rfl (fun K hK => ?_) ?_
        · go_simp
          refine ⟨trivial, ?_⟩
          refine (callsIn_wide.2 (rowSize_any r hr16 _)).mono ?_
          rintro e w5 ⟨rfl, rfl⟩
          dsimp only
          refine hK _ _ ?_
          clear hK K
          refine wpAnyIn_ready (rs := [0]) (by kernel_rfl) (by simp) ?_
          refine AllReadyIn.cons rfl (fun K hK => ?_) ?_
          · go_simp
            refine hK _ _ ?_
            clear hK K
            refine wpAnyIn_ready (rs := [3]) (by kernel_rfl) (by simp) ?_
            refine AllReadyIn.cons rfl (fun K hK => ?_) ?_
            · go_simp
              try rw [HMX.out]
              refine hK _ _ ?_
              clear hK K
              refine wpAnyIn_ready (rs := [4]) (by kernel_rfl) (by simp) ?_
              refine AllReadyIn.cons rfl (fun K hK => ?_) ?_
              · go_simp
                refine hK _ _ ?_
                clear hK K
                refine wpAnyIn_done (by kernel_rfl) ?_ _
                exact END.out
              exact AllReadyIn.nil
            exact AllReadyIn.nil
          exact AllReadyIn.nil
        exact AllReadyIn.nil
      · have HD := Lib.hid (show degF (polV x) (pre ++ [y]) = degF (polV x) pre by rw [HSN.out]; omega)
        have HMX := Lib.hid (show (if degF (polV x) pre < sizeN r then ((sizeN r : Nat) : Int) else ((degF (polV x) pre : Nat) : Int)) = ((degF (polV x) pre : Nat) : Int) by split <;> omega)
        have END := Lib.hid (show (KeepsOthers W (w'.drew.setCell ⟨w3.heap.size + 1, 0, none⟩ (.int .i64 (degF (polV x) pre : Int))) ∧ Below w.heap.size W (w'.drew.setCell ⟨w3.heap.size + 1, 0, none⟩ (.int .i64 (degF (polV x) pre : Int))) ∧
          (DMid w3.heap.size (w3.heap.size + 1) n X (degF (polV x) (pre ++ [y])) (w'.drew.setCell ⟨w3.heap.size + 1, 0, none⟩ (.int .i64 (degF (polV x) pre : Int))) ∧ Below w.heap.size w (w'.drew.setCell ⟨w3.heap.size + 1, 0, none⟩ (.int .i64 (degF (polV x) pre : Int))))) from
          ⟨((kotb' hb').trans (KeepsOthers.drew _)).trans (KeepsOthers.setCell _ _ _), ((hb'.mono hbw).drew).setCell (p := ⟨w3.heap.size + 1, 0, none⟩) (by simp; omega) _,
            by rw [HD.out]; exact HM2.out.set (by omega), ((bthen hB hb').drew).setCell (p := ⟨w3.heap.size + 1, 0, none⟩) (by simp; omega) _⟩)
        clear hB hb' c0 c1
        refine wpIn_region_any hmx ?_
        refine wpAnyIn_round (F := Fence.wide) l (by kernel_rfl) _ _ _ _ ?_
        change wpAnyIn _ _ _ _ _ _ _ _ _ (World.drew _)
        refine wpAnyIn_take (i := 1) (v := ?_) rfl rfl (by kernel_rfl) (by kernel_rfl) (by kernel_rfl) (fun _ _ _ h => h) ⟨Or.inl ⟨by rfl, by intro w; go_simp; try (with_reducible rfl)⟩, fun _ => rfl⟩ ?_
        refine wpAnyIn_ready (rs := [0, 2]) (by kernel_rfl) (by simp) ?_
        refine AllReadyIn.cons rfl (fun K hK => ?_) ?_
        · go_simp
          refine hK _ _ ?_
          clear hK K
          refine wpAnyIn_ready (rs := [2]) (by kernel_rfl) (by simp) ?_
          refine AllReadyIn.cons rfl (fun K hK => ?_) ?_
          · go_simp
            refine ⟨trivial, ?_⟩
            refine (callsIn_wide.2 (rowSize_any r hr16 _)).mono ?_
            rintro e w5 ⟨rfl, rfl⟩
            dsimp only
            refine hK _ _ ?_
            clear hK K
            refine wpAnyIn_ready (rs := [3]) (by kernel_rfl) (by simp) ?_
            refine AllReadyIn.cons rfl (fun K hK => ?_) ?_
            · go_simp
              try rw [HMX.out]
              refine hK _ _ ?_
              clear hK K
              refine wpAnyIn_ready (rs := [4]) (by kernel_rfl) (by simp) ?_
              refine AllReadyIn.cons rfl (fun K hK => ?_) ?_
              · go_simp
                refine hK _ _ ?_
                clear hK K
                refine wpAnyIn_done (by kernel_rfl) ?_ _
                exact END.out
              exact AllReadyIn.nil
            exact AllReadyIn.nil
          exact AllReadyIn.nil
        refine AllReadyIn.cons rfl (fun K hK => ?_) ?_
        · go_simp
          refine ⟨trivial, ?_⟩
          refine (callsIn_wide.2 (rowSize_any r hr16 _)).mono ?_
          rintro e w5 ⟨rfl, rfl⟩
          dsimp only
          refine hK _ _ ?_
          clear hK K
          refine wpAnyIn_ready (rs := [0]) (by kernel_rfl) (by simp) ?_
          refine AllReadyIn.cons rfl (fun K hK => ?_) ?_
          · go_simp
            refine hK _ _ ?_
            clear hK K
            refine wpAnyIn_ready (rs := [3]) (by kernel_rfl) (by simp) ?_
            refine AllReadyIn.cons rfl (fun K hK => ?_) ?_
            · go_simp
              try rw [HMX.out]
              refine hK _ _ ?_
              clear hK K
              refine wpAnyIn_ready (rs := [4]) (by kernel_rfl) (by simp) ?_
              refine AllReadyIn.cons rfl (fun K hK => ?_) ?_
              · go_simp
                refine hK _ _ ?_
                clear hK K
                refine wpAnyIn_done (by kernel_rfl) ?_ _
                exact END.out
              exact AllReadyIn.nil
            exact AllReadyIn.nil
          exact AllReadyIn.nil
        exact AllReadyIn.nil
    · have HV := Lib.hid (show bitN X r = 0 by rw [HBIT.out r hr]; have := polV_le x r; omega)
      rw [if_neg h1] at hsn
      have HSN := Lib.hid hsn
      clear hsn h1
      gi_wp2_with (refine ⟨trivial, ?_⟩; gi_at_call 143; refine (callsIn_wide.2 (valueInRow_any n X r hox (by omega) _)).mono ?_; rintro e w' ⟨rfl, hb'⟩; rw [HV.out])
      exact ⟨kotb' hb', hb'.mono hbw, by rw [HSN.out]; exact HM.out.below hb', bthen hB hb'⟩
  case done =>
    clear c0 c1 cd fd cM hB0
    rintro D ys W hD rfl ⟨hM, hBW⟩ hK
    rw [degF_upto r0 (polV x) R (Nat.le_refl _)] at hM
    have cd := hM.cd
    clear hM
    gi_wp2
    refine ⟨by simp, .inl ⟨_, _, rfl, run_takeDeferred hK, ?_⟩⟩
    exact ⟨.tuple #[.int .i64 (degS (polV x) R : Int), .int .i64 0], by simp [results, Try.results17, go_sem], rfl, hBW.trans (belowK_b (w := w) (Nat.le_refl _) W D _ _ (by omega) hK rfl rfl)⟩
  case stop =>
    rintro D c pre W _ _ h _
    exact h.elim

theorem bothDegreeOfFunc (n b : Int) (_ : (Lit.int .i64 n).wf = true) (_ : (Lit.int .i64 b).wf = true) : ∃ ra rc : Int, 
    (∀ w, Calls Try.prog 31 #[.agg #[.int .i64 n, .int .i64 b]] w (fun e w' => e = .returned (.tuple #[.int .i64 ra, .int .i64 rc]) ∧ Below w.heap.size w w')) ∧
    (∀ w, Calls Try.prog 17 #[.agg #[.int .i64 n, .int .i64 b]] w (fun e w' => e = .returned (.tuple #[.int .i64 ra, .int .i64 rc]) ∧ Below w.heap.size w w')) := by
  cases h : isF n b
  · exact ⟨_, _, specDegreeOfFunc_no h, implDegreeOfFunc_no h⟩
  · obtain ⟨x, R, rfl, ok⟩ := fok h
    exact ⟨_, _, specDegreeOfFunc_yes ok, implDegreeOfFunc_yes ok⟩
end Go.Proofs.Ytenbokdcdokhiab

/- ZA:
  SumOfFuncs and ProductOfFuncs in both packages. -/
namespace Go.Proofs.Ytenbokdcdokhiab
open Go.RowKit
set_option linter.unusedVariables false
set_option linter.unusedSimpArgs false

/-- The code of two functions. -/
def pairC (n0 b0 n1 b1 : Int) : Int := if isF n0 b0 = true ∧ isF n1 b1 = true then (if n0 = n1 then 0 else 2) else 1

set_option maxRecDepth 100000 in
set_option maxHeartbeats 2000000 in
theorem pairCode_any (n0 b0 n1 b1 : Int) (w : World) :
    Calls Try.prog 136 #[.agg #[.int .i64 n0, .int .i64 b0], .agg #[.int .i64 n1, .int .i64 b1]] w fun e w' => e = .returned (.int .i64 (pairC n0 b0 n1 b1)) ∧ Below w.heap.size w w' := by
  cases h0 : isF n0 b0
  · rw [show pairC n0 b0 n1 b1 = 1 by simp [pairC, h0]]
    obtain ⟨W1, hW1⟩ : ∃ W1, ((w.alloc (.cells #[.int .i64 n0, .int .i64 b0] 25)).alloc (.cells #[.int .i64 n1, .int .i64 b1] 25)) = W1 := ⟨_, rfl⟩
    have p0 : W1.cell? ⟨w.heap.size, 0, none⟩ = some (.int .i64 n0) := by rw [← hW1]; simp [go_sem]
    have p1 : W1.cell? ⟨w.heap.size, 1, none⟩ = some (.int .i64 b0) := by rw [← hW1]; simp [go_sem]
    have r0 : W1.cell? ⟨w.heap.size + 1, 0, none⟩ = some (.int .i64 n1) := by rw [← hW1]; simp [go_sem]
    have r1 : W1.cell? ⟨w.heap.size + 1, 1, none⟩ = some (.int .i64 b1) := by rw [← hW1]; simp [go_sem]
    have hB : Below w.heap.size w W1 := by rw [← hW1]; exact balloc (bnew _ _) _
    go_enter Try.func136, Try.ntmps136
    go_wp2_with (first
      | (go_at_call 16; refine (IsFunc_is h0 _).mono ?_; rintro e w2 ⟨rfl, hb2⟩; have q0 := kc hb2 p0; have q1 := kc hb2 p1; have s0 := kc hb2 r0; have s1 := kc hb2 r1; have hB2 := bthen hB hb2; clear p0 p1 r0 r1))
    go_ret
    exact ⟨rfl, hB2⟩
  · cases h1 : isF n1 b1
    · rw [show pairC n0 b0 n1 b1 = 1 by simp [pairC, h1]]
      obtain ⟨W1, hW1⟩ : ∃ W1, ((w.alloc (.cells #[.int .i64 n0, .int .i64 b0] 25)).alloc (.cells #[.int .i64 n1, .int .i64 b1] 25)) = W1 := ⟨_, rfl⟩
      have p0 : W1.cell? ⟨w.heap.size, 0, none⟩ = some (.int .i64 n0) := by rw [← hW1]; simp [go_sem]
      have p1 : W1.cell? ⟨w.heap.size, 1, none⟩ = some (.int .i64 b0) := by rw [← hW1]; simp [go_sem]
      have r0 : W1.cell? ⟨w.heap.size + 1, 0, none⟩ = some (.int .i64 n1) := by rw [← hW1]; simp [go_sem]
      have r1 : W1.cell? ⟨w.heap.size + 1, 1, none⟩ = some (.int .i64 b1) := by rw [← hW1]; simp [go_sem]
      have hB : Below w.heap.size w W1 := by rw [← hW1]; exact balloc (bnew _ _) _
      go_enter Try.func136, Try.ntmps136
      go_wp2_with fail
      clear hW1
      refine (IsFunc_is h0 _).mono ?_
      rintro e w2 ⟨rfl, hb2⟩
      have q0 := kc hb2 p0
      have q1 := kc hb2 p1
      have s0 := kc hb2 r0
      have s1 := kc hb2 r1
      have hB2 := bthen hB hb2
      clear p0 p1 r0 r1
      go_wp2_with fail
      refine (IsFunc_is h1 _).mono ?_
      rintro e w3 ⟨rfl, hb3⟩
      have t0 := kc hb3 q0
      have u0 := kc hb3 s0
      have hB3 := bthen hB2 hb3
      clear q0 q1 s0 s1
      go_wp2
      go_ret
      exact ⟨rfl, hB3⟩
    · by_cases hn : n0 = n1
      · rw [show pairC n0 b0 n1 b1 = 0 by rw [pairC, if_pos ⟨h0, h1⟩, if_pos hn]]
        have hq : (n0 != n1) = false := by simp [hn]
        clear hn
        obtain ⟨W1, hW1⟩ : ∃ W1, ((w.alloc (.cells #[.int .i64 n0, .int .i64 b0] 25)).alloc (.cells #[.int .i64 n1, .int .i64 b1] 25)) = W1 := ⟨_, rfl⟩
        have p0 : W1.cell? ⟨w.heap.size, 0, none⟩ = some (.int .i64 n0) := by rw [← hW1]; simp [go_sem]
        have p1 : W1.cell? ⟨w.heap.size, 1, none⟩ = some (.int .i64 b0) := by rw [← hW1]; simp [go_sem]
        have r0 : W1.cell? ⟨w.heap.size + 1, 0, none⟩ = some (.int .i64 n1) := by rw [← hW1]; simp [go_sem]
        have r1 : W1.cell? ⟨w.heap.size + 1, 1, none⟩ = some (.int .i64 b1) := by rw [← hW1]; simp [go_sem]
        have hB : Below w.heap.size w W1 := by rw [← hW1]; exact balloc (bnew _ _) _
        go_enter Try.func136, Try.ntmps136
        go_wp2_with fail
        clear hW1
        refine (IsFunc_is h0 _).mono ?_
        rintro e w2 ⟨rfl, hb2⟩
        have q0 := kc hb2 p0
        have q1 := kc hb2 p1
        have s0 := kc hb2 r0
        have s1 := kc hb2 r1
        have hB2 := bthen hB hb2
        clear p0 p1 r0 r1
        go_wp2_with fail
        refine (IsFunc_is h1 _).mono ?_
        rintro e w3 ⟨rfl, hb3⟩
        have t0 := kc hb3 q0
        have u0 := kc hb3 s0
        have hB3 := bthen hB2 hb3
        clear q0 q1 s0 s1
        go_wp2
        go_ret
        exact ⟨rfl, hB3⟩
      · rw [show pairC n0 b0 n1 b1 = 2 by rw [pairC, if_pos ⟨h0, h1⟩, if_neg hn]]
        have hq : (n0 != n1) = true := by simp [hn]
        clear hn
        obtain ⟨W1, hW1⟩ : ∃ W1, ((w.alloc (.cells #[.int .i64 n0, .int .i64 b0] 25)).alloc (.cells #[.int .i64 n1, .int .i64 b1] 25)) = W1 := ⟨_, rfl⟩
        have p0 : W1.cell? ⟨w.heap.size, 0, none⟩ = some (.int .i64 n0) := by rw [← hW1]; simp [go_sem]
        have p1 : W1.cell? ⟨w.heap.size, 1, none⟩ = some (.int .i64 b0) := by rw [← hW1]; simp [go_sem]
        have r0 : W1.cell? ⟨w.heap.size + 1, 0, none⟩ = some (.int .i64 n1) := by rw [← hW1]; simp [go_sem]
        have r1 : W1.cell? ⟨w.heap.size + 1, 1, none⟩ = some (.int .i64 b1) := by rw [← hW1]; simp [go_sem]
        have hB : Below w.heap.size w W1 := by rw [← hW1]; exact balloc (bnew _ _) _
        go_enter Try.func136, Try.ntmps136
        go_wp2_with fail
        clear hW1
        refine (IsFunc_is h0 _).mono ?_
        rintro e w2 ⟨rfl, hb2⟩
        have q0 := kc hb2 p0
        have q1 := kc hb2 p1
        have s0 := kc hb2 r0
        have s1 := kc hb2 r1
        have hB2 := bthen hB hb2
        clear p0 p1 r0 r1
        go_wp2_with fail
        refine (IsFunc_is h1 _).mono ?_
        rintro e w3 ⟨rfl, hb3⟩
        have t0 := kc hb3 q0
        have u0 := kc hb3 s0
        have hB3 := bthen hB2 hb3
        clear q0 q1 s0 s1
        go_wp2
        go_ret
        exact ⟨rfl, hB3⟩

set_option maxRecDepth 100000 in
set_option maxHeartbeats 2000000 in
theorem l03Like_any (n0 b0 n1 b1 : Int) (w : World) :
    Calls Try.prog 137 #[.agg #[.int .i64 n0, .int .i64 b0], .agg #[.int .i64 n1, .int .i64 b1]] w fun e w' => e = .returned (.int .i64 (pairC n0 b0 n1 b1)) ∧ Below w.heap.size w w' := by
  cases h0 : isF n0 b0
  · rw [show pairC n0 b0 n1 b1 = 1 by simp [pairC, h0]]
    obtain ⟨W1, hW1⟩ : ∃ W1, ((w.alloc (.cells #[.int .i64 n0, .int .i64 b0] 25)).alloc (.cells #[.int .i64 n1, .int .i64 b1] 25)) = W1 := ⟨_, rfl⟩
    have p0 : W1.cell? ⟨w.heap.size, 0, none⟩ = some (.int .i64 n0) := by rw [← hW1]; simp [go_sem]
    have p1 : W1.cell? ⟨w.heap.size, 1, none⟩ = some (.int .i64 b0) := by rw [← hW1]; simp [go_sem]
    have r0 : W1.cell? ⟨w.heap.size + 1, 0, none⟩ = some (.int .i64 n1) := by rw [← hW1]; simp [go_sem]
    have r1 : W1.cell? ⟨w.heap.size + 1, 1, none⟩ = some (.int .i64 b1) := by rw [← hW1]; simp [go_sem]
    have hB : Below w.heap.size w W1 := by rw [← hW1]; exact balloc (bnew _ _) _
    go_enter Try.func137, Try.ntmps137
    go_wp2_with (first
      | (go_at_call 153; refine (l01Is_is h0 _).mono ?_; rintro e w2 ⟨rfl, hb2⟩; have q0 := kc hb2 p0; have q1 := kc hb2 p1; have s0 := kc hb2 r0; have s1 := kc hb2 r1; have hB2 := bthen hB hb2; clear p0 p1 r0 r1))
    go_ret
    exact ⟨rfl, hB2⟩
  · cases h1 : isF n1 b1
    · rw [show pairC n0 b0 n1 b1 = 1 by simp [pairC, h1]]
      obtain ⟨W1, hW1⟩ : ∃ W1, ((w.alloc (.cells #[.int .i64 n0, .int .i64 b0] 25)).alloc (.cells #[.int .i64 n1, .int .i64 b1] 25)) = W1 := ⟨_, rfl⟩
      have p0 : W1.cell? ⟨w.heap.size, 0, none⟩ = some (.int .i64 n0) := by rw [← hW1]; simp [go_sem]
      have p1 : W1.cell? ⟨w.heap.size, 1, none⟩ = some (.int .i64 b0) := by rw [← hW1]; simp [go_sem]
      have r0 : W1.cell? ⟨w.heap.size + 1, 0, none⟩ = some (.int .i64 n1) := by rw [← hW1]; simp [go_sem]
      have r1 : W1.cell? ⟨w.heap.size + 1, 1, none⟩ = some (.int .i64 b1) := by rw [← hW1]; simp [go_sem]
      have hB : Below w.heap.size w W1 := by rw [← hW1]; exact balloc (bnew _ _) _
      go_enter Try.func137, Try.ntmps137
      go_wp2_with fail
      clear hW1
      refine (l01Is_is h0 _).mono ?_
      rintro e w2 ⟨rfl, hb2⟩
      have q0 := kc hb2 p0
      have q1 := kc hb2 p1
      have s0 := kc hb2 r0
      have s1 := kc hb2 r1
      have hB2 := bthen hB hb2
      clear p0 p1 r0 r1
      go_wp2_with fail
      refine (l01Is_is h1 _).mono ?_
      rintro e w3 ⟨rfl, hb3⟩
      have t0 := kc hb3 q0
      have u0 := kc hb3 s0
      have hB3 := bthen hB2 hb3
      clear q0 q1 s0 s1
      go_wp2
      go_ret
      exact ⟨rfl, hB3⟩
    · by_cases hn : n0 = n1
      · rw [show pairC n0 b0 n1 b1 = 0 by rw [pairC, if_pos ⟨h0, h1⟩, if_pos hn]]
        have hq : (n0 != n1) = false := by simp [hn]
        clear hn
        obtain ⟨W1, hW1⟩ : ∃ W1, ((w.alloc (.cells #[.int .i64 n0, .int .i64 b0] 25)).alloc (.cells #[.int .i64 n1, .int .i64 b1] 25)) = W1 := ⟨_, rfl⟩
        have p0 : W1.cell? ⟨w.heap.size, 0, none⟩ = some (.int .i64 n0) := by rw [← hW1]; simp [go_sem]
        have p1 : W1.cell? ⟨w.heap.size, 1, none⟩ = some (.int .i64 b0) := by rw [← hW1]; simp [go_sem]
        have r0 : W1.cell? ⟨w.heap.size + 1, 0, none⟩ = some (.int .i64 n1) := by rw [← hW1]; simp [go_sem]
        have r1 : W1.cell? ⟨w.heap.size + 1, 1, none⟩ = some (.int .i64 b1) := by rw [← hW1]; simp [go_sem]
        have hB : Below w.heap.size w W1 := by rw [← hW1]; exact balloc (bnew _ _) _
        go_enter Try.func137, Try.ntmps137
        go_wp2_with fail
        clear hW1
        refine (l01Is_is h0 _).mono ?_
        rintro e w2 ⟨rfl, hb2⟩
        have q0 := kc hb2 p0
        have q1 := kc hb2 p1
        have s0 := kc hb2 r0
        have s1 := kc hb2 r1
        have hB2 := bthen hB hb2
        clear p0 p1 r0 r1
        go_wp2_with fail
        refine (l01Is_is h1 _).mono ?_
        rintro e w3 ⟨rfl, hb3⟩
        have t0 := kc hb3 q0
        have u0 := kc hb3 s0
        have hB3 := bthen hB2 hb3
        clear q0 q1 s0 s1
        go_wp2
        go_ret
        exact ⟨rfl, hB3⟩
      · rw [show pairC n0 b0 n1 b1 = 2 by rw [pairC, if_pos ⟨h0, h1⟩, if_neg hn]]
        have hq : (n0 != n1) = true := by simp [hn]
        clear hn
        obtain ⟨W1, hW1⟩ : ∃ W1, ((w.alloc (.cells #[.int .i64 n0, .int .i64 b0] 25)).alloc (.cells #[.int .i64 n1, .int .i64 b1] 25)) = W1 := ⟨_, rfl⟩
        have p0 : W1.cell? ⟨w.heap.size, 0, none⟩ = some (.int .i64 n0) := by rw [← hW1]; simp [go_sem]
        have p1 : W1.cell? ⟨w.heap.size, 1, none⟩ = some (.int .i64 b0) := by rw [← hW1]; simp [go_sem]
        have r0 : W1.cell? ⟨w.heap.size + 1, 0, none⟩ = some (.int .i64 n1) := by rw [← hW1]; simp [go_sem]
        have r1 : W1.cell? ⟨w.heap.size + 1, 1, none⟩ = some (.int .i64 b1) := by rw [← hW1]; simp [go_sem]
        have hB : Below w.heap.size w W1 := by rw [← hW1]; exact balloc (bnew _ _) _
        go_enter Try.func137, Try.ntmps137
        go_wp2_with fail
        clear hW1
        refine (l01Is_is h0 _).mono ?_
        rintro e w2 ⟨rfl, hb2⟩
        have q0 := kc hb2 p0
        have q1 := kc hb2 p1
        have s0 := kc hb2 r0
        have s1 := kc hb2 r1
        have hB2 := bthen hB hb2
        clear p0 p1 r0 r1
        go_wp2_with fail
        refine (l01Is_is h1 _).mono ?_
        rintro e w3 ⟨rfl, hb3⟩
        have t0 := kc hb3 q0
        have u0 := kc hb3 s0
        have hB3 := bthen hB2 hb3
        clear q0 q1 s0 s1
        go_wp2
        go_ret
        exact ⟨rfl, hB3⟩

set_option maxRecDepth 100000 in
set_option maxHeartbeats 2000000 in
theorem implSumOfFuncs_no {n0 b0 n1 b1 : Int} {c : Int} (hc : pairC n0 b0 n1 b1 = c) (hz : (c != 0) = true) (w : World) :
    Calls Try.prog 11 #[.agg #[.int .i64 n0, .int .i64 b0], .agg #[.int .i64 n1, .int .i64 b1]] w fun e w' => e = .returned (.tuple #[.agg #[.int .i64 0, .int .i64 0], .int .i64 c]) ∧ Below w.heap.size w w' := by
  obtain ⟨W1, hW1⟩ : ∃ W1, ((w.alloc (.cells #[.int .i64 n0, .int .i64 b0] 25)).alloc (.cells #[.int .i64 n1, .int .i64 b1] 25)).alloc (.cells #[.int .i64 0, .int .i64 0] 25) = W1 := ⟨_, rfl⟩
  have p0 : W1.cell? ⟨w.heap.size, 0, none⟩ = some (.int .i64 n0) := by rw [← hW1]; simp [go_sem]
  have p1 : W1.cell? ⟨w.heap.size, 1, none⟩ = some (.int .i64 b0) := by rw [← hW1]; simp [go_sem]
  have r0 : W1.cell? ⟨w.heap.size + 1, 0, none⟩ = some (.int .i64 n1) := by rw [← hW1]; simp [go_sem]
  have r1 : W1.cell? ⟨w.heap.size + 1, 1, none⟩ = some (.int .i64 b1) := by rw [← hW1]; simp [go_sem]
  have c0 : W1.cell? ⟨w.heap.size + 1 + 1, 0, none⟩ = some (.int .i64 0) := by rw [← hW1]; simp [go_sem]
  have f0 : W1.frozen? ⟨w.heap.size + 1 + 1, 0, none⟩ = false := by rw [← hW1]; simp [go_sem]
  have c1 : W1.cell? ⟨w.heap.size + 1 + 1, 1, none⟩ = some (.int .i64 0) := by rw [← hW1]; simp [go_sem]
  have f1 : W1.frozen? ⟨w.heap.size + 1 + 1, 1, none⟩ = false := by rw [← hW1]; simp [go_sem]
  have hB : Below w.heap.size w W1 := by rw [← hW1]; exact balloc (balloc (bnew _ _) _) _
  go_enter Try.func11, Try.ntmps11
  go_wp2_with (first
    | (go_at_call 136; refine (pairCode_any n0 b0 n1 b1 _).mono ?_; rintro e w3 ⟨rfl, hb3⟩; rw [hc]; have q0 := kc hb3 p0; have q1 := kc hb3 p1; have s0 := kc hb3 r0; have s1 := kc hb3 r1; have e0 := kc hb3 c0; have e1 := kc hb3 c1; have k0 := kf hb3 c0 f0; have k1 := kf hb3 c1 f1; have hB3 := bthen hB hb3; clear p0 p1 r0 r1 c0 c1 f0 f1))
  exact bodyPost_ret (v := .tuple #[.agg #[.int .i64 0, .int .i64 0], .int .i64 c]) (by simp [results, Try.results11, go_sem, e0, e1]) rfl ⟨rfl, (hB3.setCell (p := ⟨w.heap.size + 1 + 1, 0, none⟩) (by simp; omega) _).setCell (p := ⟨w.heap.size + 1 + 1, 1, none⟩) (by simp; omega) _⟩

set_option maxRecDepth 100000 in
set_option maxHeartbeats 2000000 in
theorem implSumOfFuncs_yes {n0 b0 n1 b1 : Int} (hc : pairC n0 b0 n1 b1 = 0) (w : World) :
    Calls Try.prog 11 #[.agg #[.int .i64 n0, .int .i64 b0], .agg #[.int .i64 n1, .int .i64 b1]] w fun e w' => e = .returned (.tuple #[.agg #[.int .i64 n0, .int .i64 (bits .xor .i64 b0 b1)], .int .i64 0]) ∧ Below w.heap.size w w' := by
  obtain ⟨W1, hW1⟩ : ∃ W1, ((w.alloc (.cells #[.int .i64 n0, .int .i64 b0] 25)).alloc (.cells #[.int .i64 n1, .int .i64 b1] 25)).alloc (.cells #[.int .i64 0, .int .i64 0] 25) = W1 := ⟨_, rfl⟩
  have p0 : W1.cell? ⟨w.heap.size, 0, none⟩ = some (.int .i64 n0) := by rw [← hW1]; simp [go_sem]
  have p1 : W1.cell? ⟨w.heap.size, 1, none⟩ = some (.int .i64 b0) := by rw [← hW1]; simp [go_sem]
  have r0 : W1.cell? ⟨w.heap.size + 1, 0, none⟩ = some (.int .i64 n1) := by rw [← hW1]; simp [go_sem]
  have r1 : W1.cell? ⟨w.heap.size + 1, 1, none⟩ = some (.int .i64 b1) := by rw [← hW1]; simp [go_sem]
  have c0 : W1.cell? ⟨w.heap.size + 1 + 1, 0, none⟩ = some (.int .i64 0) := by rw [← hW1]; simp [go_sem]
  have f0 : W1.frozen? ⟨w.heap.size + 1 + 1, 0, none⟩ = false := by rw [← hW1]; simp [go_sem]
  have c1 : W1.cell? ⟨w.heap.size + 1 + 1, 1, none⟩ = some (.int .i64 0) := by rw [← hW1]; simp [go_sem]
  have f1 : W1.frozen? ⟨w.heap.size + 1 + 1, 1, none⟩ = false := by rw [← hW1]; simp [go_sem]
  have hB : Below w.heap.size w W1 := by rw [← hW1]; exact balloc (balloc (bnew _ _) _) _
  go_enter Try.func11, Try.ntmps11
  go_wp2_with (first
    | (go_at_call 136; refine (pairCode_any n0 b0 n1 b1 _).mono ?_; rintro e w3 ⟨rfl, hb3⟩; rw [hc]; have q0 := kc hb3 p0; have q1 := kc hb3 p1; have s0 := kc hb3 r0; have s1 := kc hb3 r1; have e0 := kc hb3 c0; have e1 := kc hb3 c1; have k0 := kf hb3 c0 f0; have k1 := kf hb3 c1 f1; have hB3 := bthen hB hb3; clear p0 p1 r0 r1 c0 c1 f0 f1))
  exact bodyPost_ret (v := .tuple #[.agg #[.int .i64 n0, .int .i64 (bits .xor .i64 b0 b1)], .int .i64 0]) (by simp [results, Try.results11, go_sem, e0, e1]) rfl ⟨rfl, (hB3.setCell (p := ⟨w.heap.size + 1 + 1, 0, none⟩) (by simp; omega) _).setCell (p := ⟨w.heap.size + 1 + 1, 1, none⟩) (by simp; omega) _⟩

set_option maxRecDepth 100000 in
set_option maxHeartbeats 2000000 in
theorem specSumOfFuncs_no {n0 b0 n1 b1 : Int} {c : Int} (hc : pairC n0 b0 n1 b1 = c) (hz : (c != 0) = true) (w : World) :
    Calls Try.prog 12 #[.agg #[.int .i64 n0, .int .i64 b0], .agg #[.int .i64 n1, .int .i64 b1]] w fun e w' => e = .returned (.tuple #[.agg #[.int .i64 0, .int .i64 0], .int .i64 c]) ∧ Below w.heap.size w w' := by
  obtain ⟨W1, hW1⟩ : ∃ W1, ((w.alloc (.cells #[.int .i64 n0, .int .i64 b0] 25)).alloc (.cells #[.int .i64 n1, .int .i64 b1] 25)).alloc (.cells #[.int .i64 0, .int .i64 0] 25) = W1 := ⟨_, rfl⟩
  have p0 : W1.cell? ⟨w.heap.size, 0, none⟩ = some (.int .i64 n0) := by rw [← hW1]; simp [go_sem]
  have p1 : W1.cell? ⟨w.heap.size, 1, none⟩ = some (.int .i64 b0) := by rw [← hW1]; simp [go_sem]
  have r0 : W1.cell? ⟨w.heap.size + 1, 0, none⟩ = some (.int .i64 n1) := by rw [← hW1]; simp [go_sem]
  have r1 : W1.cell? ⟨w.heap.size + 1, 1, none⟩ = some (.int .i64 b1) := by rw [← hW1]; simp [go_sem]
  have c0 : W1.cell? ⟨w.heap.size + 1 + 1, 0, none⟩ = some (.int .i64 0) := by rw [← hW1]; simp [go_sem]
  have f0 : W1.frozen? ⟨w.heap.size + 1 + 1, 0, none⟩ = false := by rw [← hW1]; simp [go_sem]
  have c1 : W1.cell? ⟨w.heap.size + 1 + 1, 1, none⟩ = some (.int .i64 0) := by rw [← hW1]; simp [go_sem]
  have f1 : W1.frozen? ⟨w.heap.size + 1 + 1, 1, none⟩ = false := by rw [← hW1]; simp [go_sem]
  have hB : Below w.heap.size w W1 := by rw [← hW1]; exact balloc (balloc (bnew _ _) _) _
  go_enter Try.func12, Try.ntmps12
  go_wp2_with (first
    | (go_at_call 137; refine (l03Like_any n0 b0 n1 b1 _).mono ?_; rintro e w3 ⟨rfl, hb3⟩; rw [hc]; have q0 := kc hb3 p0; have q1 := kc hb3 p1; have s0 := kc hb3 r0; have s1 := kc hb3 r1; have e0 := kc hb3 c0; have e1 := kc hb3 c1; have k0 := kf hb3 c0 f0; have k1 := kf hb3 c1 f1; have hB3 := bthen hB hb3; clear p0 p1 r0 r1 c0 c1 f0 f1))
  exact bodyPost_ret (v := .tuple #[.agg #[.int .i64 0, .int .i64 0], .int .i64 c]) (by simp [results, Try.results12, go_sem, e0, e1]) rfl ⟨rfl, (hB3.setCell (p := ⟨w.heap.size + 1 + 1, 0, none⟩) (by simp; omega) _).setCell (p := ⟨w.heap.size + 1 + 1, 1, none⟩) (by simp; omega) _⟩

set_option maxRecDepth 100000 in
set_option maxHeartbeats 2000000 in
theorem specSumOfFuncs_yes {n0 b0 n1 b1 : Int} (hc : pairC n0 b0 n1 b1 = 0) (w : World) :
    Calls Try.prog 12 #[.agg #[.int .i64 n0, .int .i64 b0], .agg #[.int .i64 n1, .int .i64 b1]] w fun e w' => e = .returned (.tuple #[.agg #[.int .i64 n0, .int .i64 (bits .xor .i64 b0 b1)], .int .i64 0]) ∧ Below w.heap.size w w' := by
  obtain ⟨W1, hW1⟩ : ∃ W1, ((w.alloc (.cells #[.int .i64 n0, .int .i64 b0] 25)).alloc (.cells #[.int .i64 n1, .int .i64 b1] 25)).alloc (.cells #[.int .i64 0, .int .i64 0] 25) = W1 := ⟨_, rfl⟩
  have p0 : W1.cell? ⟨w.heap.size, 0, none⟩ = some (.int .i64 n0) := by rw [← hW1]; simp [go_sem]
  have p1 : W1.cell? ⟨w.heap.size, 1, none⟩ = some (.int .i64 b0) := by rw [← hW1]; simp [go_sem]
  have r0 : W1.cell? ⟨w.heap.size + 1, 0, none⟩ = some (.int .i64 n1) := by rw [← hW1]; simp [go_sem]
  have r1 : W1.cell? ⟨w.heap.size + 1, 1, none⟩ = some (.int .i64 b1) := by rw [← hW1]; simp [go_sem]
  have c0 : W1.cell? ⟨w.heap.size + 1 + 1, 0, none⟩ = some (.int .i64 0) := by rw [← hW1]; simp [go_sem]
  have f0 : W1.frozen? ⟨w.heap.size + 1 + 1, 0, none⟩ = false := by rw [← hW1]; simp [go_sem]
  have c1 : W1.cell? ⟨w.heap.size + 1 + 1, 1, none⟩ = some (.int .i64 0) := by rw [← hW1]; simp [go_sem]
  have f1 : W1.frozen? ⟨w.heap.size + 1 + 1, 1, none⟩ = false := by rw [← hW1]; simp [go_sem]
  have hB : Below w.heap.size w W1 := by rw [← hW1]; exact balloc (balloc (bnew _ _) _) _
  go_enter Try.func12, Try.ntmps12
  go_wp2_with (first
    | (go_at_call 137; refine (l03Like_any n0 b0 n1 b1 _).mono ?_; rintro e w3 ⟨rfl, hb3⟩; rw [hc]; have q0 := kc hb3 p0; have q1 := kc hb3 p1; have s0 := kc hb3 r0; have s1 := kc hb3 r1; have e0 := kc hb3 c0; have e1 := kc hb3 c1; have k0 := kf hb3 c0 f0; have k1 := kf hb3 c1 f1; have hB3 := bthen hB hb3; clear p0 p1 r0 r1 c0 c1 f0 f1))
  exact bodyPost_ret (v := .tuple #[.agg #[.int .i64 n0, .int .i64 (bits .xor .i64 b0 b1)], .int .i64 0]) (by simp [results, Try.results12, go_sem, e0, e1]) rfl ⟨rfl, (hB3.setCell (p := ⟨w.heap.size + 1 + 1, 0, none⟩) (by simp; omega) _).setCell (p := ⟨w.heap.size + 1 + 1, 1, none⟩) (by simp; omega) _⟩

theorem bothSumOfFuncs (n0 b0 n1 b1 : Int) (_ : (Lit.int .i64 n0).wf = true) (_ : (Lit.int .i64 b0).wf = true) (_ : (Lit.int .i64 n1).wf = true) (_ : (Lit.int .i64 b1).wf = true) : ∃ rn rb rc : Int,
    (∀ w, Calls Try.prog 12 #[.agg #[.int .i64 n0, .int .i64 b0], .agg #[.int .i64 n1, .int .i64 b1]] w fun e w' => e = .returned (.tuple #[.agg #[.int .i64 rn, .int .i64 rb], .int .i64 rc]) ∧ Below w.heap.size w w') ∧
    (∀ w, Calls Try.prog 11 #[.agg #[.int .i64 n0, .int .i64 b0], .agg #[.int .i64 n1, .int .i64 b1]] w fun e w' => e = .returned (.tuple #[.agg #[.int .i64 rn, .int .i64 rb], .int .i64 rc]) ∧ Below w.heap.size w w') := by
  by_cases hc : pairC n0 b0 n1 b1 = 0
  · exact ⟨_, _, _, specSumOfFuncs_yes hc, implSumOfFuncs_yes hc⟩
  · exact ⟨_, _, _, specSumOfFuncs_no rfl (by simp [hc]), implSumOfFuncs_no rfl (by simp [hc])⟩

set_option maxRecDepth 100000 in
set_option maxHeartbeats 2000000 in
theorem implProductOfFuncs_no {n0 b0 n1 b1 : Int} {c : Int} (hc : pairC n0 b0 n1 b1 = c) (hz : (c != 0) = true) (w : World) :
    Calls Try.prog 15 #[.agg #[.int .i64 n0, .int .i64 b0], .agg #[.int .i64 n1, .int .i64 b1]] w fun e w' => e = .returned (.tuple #[.agg #[.int .i64 0, .int .i64 0], .int .i64 c]) ∧ Below w.heap.size w w' := by
  obtain ⟨W1, hW1⟩ : ∃ W1, ((w.alloc (.cells #[.int .i64 n0, .int .i64 b0] 25)).alloc (.cells #[.int .i64 n1, .int .i64 b1] 25)).alloc (.cells #[.int .i64 0, .int .i64 0] 25) = W1 := ⟨_, rfl⟩
  have p0 : W1.cell? ⟨w.heap.size, 0, none⟩ = some (.int .i64 n0) := by rw [← hW1]; simp [go_sem]
  have p1 : W1.cell? ⟨w.heap.size, 1, none⟩ = some (.int .i64 b0) := by rw [← hW1]; simp [go_sem]
  have r0 : W1.cell? ⟨w.heap.size + 1, 0, none⟩ = some (.int .i64 n1) := by rw [← hW1]; simp [go_sem]
  have r1 : W1.cell? ⟨w.heap.size + 1, 1, none⟩ = some (.int .i64 b1) := by rw [← hW1]; simp [go_sem]
  have c0 : W1.cell? ⟨w.heap.size + 1 + 1, 0, none⟩ = some (.int .i64 0) := by rw [← hW1]; simp [go_sem]
  have f0 : W1.frozen? ⟨w.heap.size + 1 + 1, 0, none⟩ = false := by rw [← hW1]; simp [go_sem]
  have c1 : W1.cell? ⟨w.heap.size + 1 + 1, 1, none⟩ = some (.int .i64 0) := by rw [← hW1]; simp [go_sem]
  have f1 : W1.frozen? ⟨w.heap.size + 1 + 1, 1, none⟩ = false := by rw [← hW1]; simp [go_sem]
  have hB : Below w.heap.size w W1 := by rw [← hW1]; exact balloc (balloc (bnew _ _) _) _
  go_enter Try.func15, Try.ntmps15
  go_wp2_with (first
    | (go_at_call 136; refine (pairCode_any n0 b0 n1 b1 _).mono ?_; rintro e w3 ⟨rfl, hb3⟩; rw [hc]; have q0 := kc hb3 p0; have q1 := kc hb3 p1; have s0 := kc hb3 r0; have s1 := kc hb3 r1; have e0 := kc hb3 c0; have e1 := kc hb3 c1; have k0 := kf hb3 c0 f0; have k1 := kf hb3 c1 f1; have hB3 := bthen hB hb3; clear p0 p1 r0 r1 c0 c1 f0 f1))
  exact bodyPost_ret (v := .tuple #[.agg #[.int .i64 0, .int .i64 0], .int .i64 c]) (by simp [results, Try.results15, go_sem, e0, e1]) rfl ⟨rfl, (hB3.setCell (p := ⟨w.heap.size + 1 + 1, 0, none⟩) (by simp; omega) _).setCell (p := ⟨w.heap.size + 1 + 1, 1, none⟩) (by simp; omega) _⟩

set_option maxRecDepth 100000 in
set_option maxHeartbeats 2000000 in
theorem implProductOfFuncs_yes {n0 b0 n1 b1 : Int} (hc : pairC n0 b0 n1 b1 = 0) (w : World) :
    Calls Try.prog 15 #[.agg #[.int .i64 n0, .int .i64 b0], .agg #[.int .i64 n1, .int .i64 b1]] w fun e w' => e = .returned (.tuple #[.agg #[.int .i64 n0, .int .i64 (bits .and .i64 b0 b1)], .int .i64 0]) ∧ Below w.heap.size w w' := by
  obtain ⟨W1, hW1⟩ : ∃ W1, ((w.alloc (.cells #[.int .i64 n0, .int .i64 b0] 25)).alloc (.cells #[.int .i64 n1, .int .i64 b1] 25)).alloc (.cells #[.int .i64 0, .int .i64 0] 25) = W1 := ⟨_, rfl⟩
  have p0 : W1.cell? ⟨w.heap.size, 0, none⟩ = some (.int .i64 n0) := by rw [← hW1]; simp [go_sem]
  have p1 : W1.cell? ⟨w.heap.size, 1, none⟩ = some (.int .i64 b0) := by rw [← hW1]; simp [go_sem]
  have r0 : W1.cell? ⟨w.heap.size + 1, 0, none⟩ = some (.int .i64 n1) := by rw [← hW1]; simp [go_sem]
  have r1 : W1.cell? ⟨w.heap.size + 1, 1, none⟩ = some (.int .i64 b1) := by rw [← hW1]; simp [go_sem]
  have c0 : W1.cell? ⟨w.heap.size + 1 + 1, 0, none⟩ = some (.int .i64 0) := by rw [← hW1]; simp [go_sem]
  have f0 : W1.frozen? ⟨w.heap.size + 1 + 1, 0, none⟩ = false := by rw [← hW1]; simp [go_sem]
  have c1 : W1.cell? ⟨w.heap.size + 1 + 1, 1, none⟩ = some (.int .i64 0) := by rw [← hW1]; simp [go_sem]
  have f1 : W1.frozen? ⟨w.heap.size + 1 + 1, 1, none⟩ = false := by rw [← hW1]; simp [go_sem]
  have hB : Below w.heap.size w W1 := by rw [← hW1]; exact balloc (balloc (bnew _ _) _) _
  go_enter Try.func15, Try.ntmps15
  go_wp2_with (first
    | (go_at_call 136; refine (pairCode_any n0 b0 n1 b1 _).mono ?_; rintro e w3 ⟨rfl, hb3⟩; rw [hc]; have q0 := kc hb3 p0; have q1 := kc hb3 p1; have s0 := kc hb3 r0; have s1 := kc hb3 r1; have e0 := kc hb3 c0; have e1 := kc hb3 c1; have k0 := kf hb3 c0 f0; have k1 := kf hb3 c1 f1; have hB3 := bthen hB hb3; clear p0 p1 r0 r1 c0 c1 f0 f1))
  exact bodyPost_ret (v := .tuple #[.agg #[.int .i64 n0, .int .i64 (bits .and .i64 b0 b1)], .int .i64 0]) (by simp [results, Try.results15, go_sem, e0, e1]) rfl ⟨rfl, (hB3.setCell (p := ⟨w.heap.size + 1 + 1, 0, none⟩) (by simp; omega) _).setCell (p := ⟨w.heap.size + 1 + 1, 1, none⟩) (by simp; omega) _⟩

set_option maxRecDepth 100000 in
set_option maxHeartbeats 2000000 in
theorem specProductOfFuncs_no {n0 b0 n1 b1 : Int} {c : Int} (hc : pairC n0 b0 n1 b1 = c) (hz : (c != 0) = true) (w : World) :
    Calls Try.prog 29 #[.agg #[.int .i64 n0, .int .i64 b0], .agg #[.int .i64 n1, .int .i64 b1]] w fun e w' => e = .returned (.tuple #[.agg #[.int .i64 0, .int .i64 0], .int .i64 c]) ∧ Below w.heap.size w w' := by
  obtain ⟨W1, hW1⟩ : ∃ W1, ((w.alloc (.cells #[.int .i64 n0, .int .i64 b0] 25)).alloc (.cells #[.int .i64 n1, .int .i64 b1] 25)).alloc (.cells #[.int .i64 0, .int .i64 0] 25) = W1 := ⟨_, rfl⟩
  have p0 : W1.cell? ⟨w.heap.size, 0, none⟩ = some (.int .i64 n0) := by rw [← hW1]; simp [go_sem]
  have p1 : W1.cell? ⟨w.heap.size, 1, none⟩ = some (.int .i64 b0) := by rw [← hW1]; simp [go_sem]
  have r0 : W1.cell? ⟨w.heap.size + 1, 0, none⟩ = some (.int .i64 n1) := by rw [← hW1]; simp [go_sem]
  have r1 : W1.cell? ⟨w.heap.size + 1, 1, none⟩ = some (.int .i64 b1) := by rw [← hW1]; simp [go_sem]
  have c0 : W1.cell? ⟨w.heap.size + 1 + 1, 0, none⟩ = some (.int .i64 0) := by rw [← hW1]; simp [go_sem]
  have f0 : W1.frozen? ⟨w.heap.size + 1 + 1, 0, none⟩ = false := by rw [← hW1]; simp [go_sem]
  have c1 : W1.cell? ⟨w.heap.size + 1 + 1, 1, none⟩ = some (.int .i64 0) := by rw [← hW1]; simp [go_sem]
  have f1 : W1.frozen? ⟨w.heap.size + 1 + 1, 1, none⟩ = false := by rw [← hW1]; simp [go_sem]
  have hB : Below w.heap.size w W1 := by rw [← hW1]; exact balloc (balloc (bnew _ _) _) _
  go_enter Try.func29, Try.ntmps29
  go_wp2_with (first
    | (go_at_call 137; refine (l03Like_any n0 b0 n1 b1 _).mono ?_; rintro e w3 ⟨rfl, hb3⟩; rw [hc]; have q0 := kc hb3 p0; have q1 := kc hb3 p1; have s0 := kc hb3 r0; have s1 := kc hb3 r1; have e0 := kc hb3 c0; have e1 := kc hb3 c1; have k0 := kf hb3 c0 f0; have k1 := kf hb3 c1 f1; have hB3 := bthen hB hb3; clear p0 p1 r0 r1 c0 c1 f0 f1))
  exact bodyPost_ret (v := .tuple #[.agg #[.int .i64 0, .int .i64 0], .int .i64 c]) (by simp [results, Try.results29, go_sem, e0, e1]) rfl ⟨rfl, (hB3.setCell (p := ⟨w.heap.size + 1 + 1, 0, none⟩) (by simp; omega) _).setCell (p := ⟨w.heap.size + 1 + 1, 1, none⟩) (by simp; omega) _⟩

set_option maxRecDepth 100000 in
set_option maxHeartbeats 2000000 in
theorem specProductOfFuncs_yes {n0 b0 n1 b1 : Int} (hc : pairC n0 b0 n1 b1 = 0) (w : World) :
    Calls Try.prog 29 #[.agg #[.int .i64 n0, .int .i64 b0], .agg #[.int .i64 n1, .int .i64 b1]] w fun e w' => e = .returned (.tuple #[.agg #[.int .i64 n0, .int .i64 (bits .and .i64 b0 b1)], .int .i64 0]) ∧ Below w.heap.size w w' := by
  obtain ⟨W1, hW1⟩ : ∃ W1, ((w.alloc (.cells #[.int .i64 n0, .int .i64 b0] 25)).alloc (.cells #[.int .i64 n1, .int .i64 b1] 25)).alloc (.cells #[.int .i64 0, .int .i64 0] 25) = W1 := ⟨_, rfl⟩
  have p0 : W1.cell? ⟨w.heap.size, 0, none⟩ = some (.int .i64 n0) := by rw [← hW1]; simp [go_sem]
  have p1 : W1.cell? ⟨w.heap.size, 1, none⟩ = some (.int .i64 b0) := by rw [← hW1]; simp [go_sem]
  have r0 : W1.cell? ⟨w.heap.size + 1, 0, none⟩ = some (.int .i64 n1) := by rw [← hW1]; simp [go_sem]
  have r1 : W1.cell? ⟨w.heap.size + 1, 1, none⟩ = some (.int .i64 b1) := by rw [← hW1]; simp [go_sem]
  have c0 : W1.cell? ⟨w.heap.size + 1 + 1, 0, none⟩ = some (.int .i64 0) := by rw [← hW1]; simp [go_sem]
  have f0 : W1.frozen? ⟨w.heap.size + 1 + 1, 0, none⟩ = false := by rw [← hW1]; simp [go_sem]
  have c1 : W1.cell? ⟨w.heap.size + 1 + 1, 1, none⟩ = some (.int .i64 0) := by rw [← hW1]; simp [go_sem]
  have f1 : W1.frozen? ⟨w.heap.size + 1 + 1, 1, none⟩ = false := by rw [← hW1]; simp [go_sem]
  have hB : Below w.heap.size w W1 := by rw [← hW1]; exact balloc (balloc (bnew _ _) _) _
  go_enter Try.func29, Try.ntmps29
  go_wp2_with (first
    | (go_at_call 137; refine (l03Like_any n0 b0 n1 b1 _).mono ?_; rintro e w3 ⟨rfl, hb3⟩; rw [hc]; have q0 := kc hb3 p0; have q1 := kc hb3 p1; have s0 := kc hb3 r0; have s1 := kc hb3 r1; have e0 := kc hb3 c0; have e1 := kc hb3 c1; have k0 := kf hb3 c0 f0; have k1 := kf hb3 c1 f1; have hB3 := bthen hB hb3; clear p0 p1 r0 r1 c0 c1 f0 f1))
  exact bodyPost_ret (v := .tuple #[.agg #[.int .i64 n0, .int .i64 (bits .and .i64 b0 b1)], .int .i64 0]) (by simp [results, Try.results29, go_sem, e0, e1]) rfl ⟨rfl, (hB3.setCell (p := ⟨w.heap.size + 1 + 1, 0, none⟩) (by simp; omega) _).setCell (p := ⟨w.heap.size + 1 + 1, 1, none⟩) (by simp; omega) _⟩

theorem bothProductOfFuncs (n0 b0 n1 b1 : Int) (_ : (Lit.int .i64 n0).wf = true) (_ : (Lit.int .i64 b0).wf = true) (_ : (Lit.int .i64 n1).wf = true) (_ : (Lit.int .i64 b1).wf = true) : ∃ rn rb rc : Int,
    (∀ w, Calls Try.prog 29 #[.agg #[.int .i64 n0, .int .i64 b0], .agg #[.int .i64 n1, .int .i64 b1]] w fun e w' => e = .returned (.tuple #[.agg #[.int .i64 rn, .int .i64 rb], .int .i64 rc]) ∧ Below w.heap.size w w') ∧
    (∀ w, Calls Try.prog 15 #[.agg #[.int .i64 n0, .int .i64 b0], .agg #[.int .i64 n1, .int .i64 b1]] w fun e w' => e = .returned (.tuple #[.agg #[.int .i64 rn, .int .i64 rb], .int .i64 rc]) ∧ Below w.heap.size w w') := by
  by_cases hc : pairC n0 b0 n1 b1 = 0
  · exact ⟨_, _, _, specProductOfFuncs_yes hc, implProductOfFuncs_yes hc⟩
  · exact ⟨_, _, _, specProductOfFuncs_no rfl (by simp [hc]), implProductOfFuncs_no rfl (by simp [hc])⟩

end Go.Proofs.Ytenbokdcdokhiab

/- ZB:
  DerivativeBy in both packages. -/
namespace Go.Proofs.Ytenbokdcdokhiab
open Go.RowKit
set_option linter.unusedVariables false
set_option linter.unusedSimpArgs false

/-- The value of the derivative by a at a row. -/
def derV (x a r : Nat) : Nat := (bitN x r + bitN x (r ^^^ a)) % 2
theorem derV_le (x a r : Nat) : derV x a r ≤ 1 := by unfold derV; omega

theorem xor_num (r a : Nat) (hr : r < 16) (ha : a < 16) : bits .xor .i64 (r : Int) (a : Int) = ((r ^^^ a : Nat) : Int) := by
  have h : r ^^^ a < 2 ^ 4 := Nat.xor_lt_two_pow (show r < 2 ^ 4 by omega) (show a < 2 ^ 4 by omega)
  show IntKind.i64.wrap ((BitVec.ofInt 64 (r : Int) ^^^ BitVec.ofInt 64 (a : Int)).toNat : Int) = _
  rw [BitVec.ofInt_natCast, BitVec.ofInt_natCast, BitVec.toNat_xor, BitVec.toNat_ofNat, BitVec.toNat_ofNat, Nat.mod_eq_of_lt (by omega : r < 2 ^ 64), Nat.mod_eq_of_lt (by omega : a < 2 ^ 64)]
  exact wrap64_small (by omega) (by omega)

theorem valueInRow_int (n : Int) (x : Nat) (hx : x < 2 ^ 62) (I : Int) (h0 : 0 ≤ I) (h1 : I < 62) (w : World) :
    Calls Try.prog 143 #[.agg #[.int .i64 n, .int .i64 (x : Int)], .int .i64 I] w fun e w' => e = .returned (.int .i64 (bitN x I.toNat : Int)) ∧ Below w.heap.size w w' := by
  have h := valueInRow_any n x I.toNat hx (by omega) w
  rwa [show ((I.toNat : Nat) : Int) = I by omega] at h
theorem l01At_int' (n : Int) (x : Nat) (hx : x < 2 ^ 62) (I : Int) (h0 : 0 ≤ I) (h1 : I < 62) (w : World) :
    Calls Try.prog 155 #[.agg #[.int .i64 n, .int .i64 (x : Int)], .int .i64 I] w fun e w' => e = .returned (.int .i64 (bitN x I.toNat : Int)) ∧ Below w.heap.size w w' := by
  have h := l01At_any n x I.toNat hx (by omega) w
  rwa [show ((I.toNat : Nat) : Int) = I by omega] at h

theorem step_heldD {W w' W0 : World} {a b c : Addr} {u v z : Value} (hb : Below W.heap.size W w') (h : ((W.cell? a = some u ∧ W.cell? b = some v) ∧ W.cell? c = some z) ∧ Below W0.heap.size W0 W) :
    ((w'.cell? a = some u ∧ w'.cell? b = some v) ∧ w'.cell? c = some z) ∧ Below W0.heap.size W0 w' := ⟨⟨⟨kc hb h.1.1.1, kc hb h.1.1.2⟩, kc hb h.1.2⟩, bthen h.2 hb⟩

set_option maxRecDepth 100000 in
set_option maxHeartbeats 2000000 in
theorem Derivative1_any {n : Int} {x R : Nat} (ok : FOk n x R) (a r : Nat) (ha : a < 16) (hr : r < 16) (b ba : Nat) (w : World) (hb : FBox b n x w) (cA : w.cell? ⟨ba, 0, none⟩ = some (.int .i64 (a : Int))) :
    Calls Try.prog 152 #[.int .i64 (r : Int), .pointer (some ⟨b, 0, none⟩), .pointer (some ⟨ba, 0, none⟩)] w fun e w' => e = .returned (.int .i64 (derV x a r : Int)) ∧ Below w.heap.size w w' := by
  obtain ⟨c0, c1⟩ := hb
  have hx := ok.hx
  have HX := xor_num r a hr ha
  have h4 : r ^^^ a < 2 ^ 4 := Nat.xor_lt_two_pow (show r < 2 ^ 4 by omega) (show a < 2 ^ 4 by omega)
  have b0 : 0 ≤ bits .xor .i64 (r : Int) (a : Int) := by rw [HX]; omega
  have b1 : bits .xor .i64 (r : Int) (a : Int) < 62 := by rw [HX]; omega
  have HV := Lib.hid (show bits .xor .i64 (bitN x ((r : Int)).toNat : Int) (bitN x (bits .xor .i64 (r : Int) (a : Int)).toNat : Int) = (derV x a r : Int) by
    rw [HX, Int.toNat_natCast, Int.toNat_natCast, xor_par _ _ (bitN_le _ _) (bitN_le _ _)]; rfl)
  clear HX h4
  go_enter Try.func152, Try.ntmps152
  go_wp2
  go_region_held3 (fun W => ((W.cell? ⟨b, 0, none⟩ = some (.int .i64 n) ∧ W.cell? ⟨b, 1, none⟩ = some (.int .i64 (x : Int))) ∧ W.cell? ⟨ba, 0, none⟩ = some (.int .i64 (a : Int))) ∧ Below w.heap.size w W) (first | exact ⟨⟨⟨c0, c1⟩, cA⟩, (Below.refl _ _).drew⟩ | exact step_heldD hb1 (by assumption))
    (first
      | (go_at_call 143; refine (valueInRow_int _ _ hx _ (by omega) (by omega) _).mono ?_; rintro e w' ⟨rfl, hb1⟩))
  go_wp2
  go_ret
  exact ⟨by rw [← HV.out]; rfl, (‹(_ ∧ _) ∧ Below _ _ _›).2⟩

theorem derRows {n : Int} {x R : Nat} (ok : FOk n x R) (a : Nat) (ha : a < 16) (b ba : Nat) (W : World) (hb : FBox b n x W) (cA : W.cell? ⟨ba, 0, none⟩ = some (.int .i64 (a : Int))) :
    Calls Try.prog 151 #[.int .i64 n, .func (.func 152) #[] #[.pointer (some ⟨b, 0, none⟩), .pointer (some ⟨ba, 0, none⟩)]] W fun e w' => e = .returned (.agg #[.int .i64 n, .int .i64 (sumN (derV x a) R : Int)]) ∧ Below W.heap.size W w' := by
  have r16 := ok.r16
  have F := funcByRows_any n ok.h0 ok.h4 R ok.r0 ok.r16 ok.hR 152 #[.pointer (some ⟨b, 0, none⟩), .pointer (some ⟨ba, 0, none⟩)] (enters_of Try.func152 (by kernel_rfl) rfl)
    (derV x a) (fun r _ => derV_le _ _ _) W (Lib.hid fun W' hW r hr => Derivative1_any ok a r ha (by omega) b ba W' (hb.keep hW) (kc hW cA))
  rwa [orBits_sum ok.r0 _ (fun r _ => derV_le _ _ _)] at F

/-- The boxes of the program's derivative. -/
theorem derBox (n b a : Int) (w : World) : ∃ W1, ((w.alloc (.cells #[.int .i64 n, .int .i64 b] 25)).alloc (.cells #[.int .i64 a] 2)).alloc (.cells #[.int .i64 0, .int .i64 0] 25) = W1 ∧
    (W1.cell? ⟨w.heap.size, 0, none⟩ = some (.int .i64 n) ∧ W1.cell? ⟨w.heap.size, 1, none⟩ = some (.int .i64 b) ∧ W1.cell? ⟨w.heap.size + 1, 0, none⟩ = some (.int .i64 a)) ∧
    (W1.cell? ⟨w.heap.size + 1 + 1, 0, none⟩ = some (.int .i64 0) ∧ W1.cell? ⟨w.heap.size + 1 + 1, 1, none⟩ = some (.int .i64 0)) ∧
    (W1.frozen? ⟨w.heap.size + 1 + 1, 0, none⟩ = false ∧ W1.frozen? ⟨w.heap.size + 1 + 1, 1, none⟩ = false) ∧ Below w.heap.size w W1 :=
  ⟨_, rfl, ⟨by simp [go_sem], by simp [go_sem], by simp [go_sem]⟩, ⟨by simp [go_sem], by simp [go_sem]⟩, ⟨by simp [go_sem], by simp [go_sem]⟩, balloc (balloc (bnew _ _) _) _⟩

set_option maxRecDepth 100000 in
set_option maxHeartbeats 2000000 in
theorem implDerivativeBy_no {n b a : Int} (h : isF n b = false) (w : World) :
    Calls Try.prog 19 #[.agg #[.int .i64 n, .int .i64 b], .int .i64 a] w fun e w' => e = .returned (.tuple #[.agg #[.int .i64 0, .int .i64 0], .int .i64 1]) ∧ Below w.heap.size w w' := by
  obtain ⟨W1, hW1, ⟨p0, p1, pa⟩, ⟨c0, c1⟩, ⟨f0, f1⟩, hB⟩ := derBox n b a w
  go_enter Try.func19, Try.ntmps19
  go_wp2_with (first
    | (go_at_call 16; refine (IsFunc_is h _).mono ?_; rintro e w2 ⟨rfl, hb2⟩; have d0 := kc hb2 c0; have d1 := kc hb2 c1; have g0 := kf hb2 c0 f0; have g1 := kf hb2 c1 f1; have hB2 := bthen hB hb2))
  exact bodyPost_ret (v := .tuple #[.agg #[.int .i64 0, .int .i64 0], .int .i64 1]) (by simp [results, Try.results19, go_sem, d0, d1]) rfl ⟨rfl, (hB2.setCell (p := ⟨w.heap.size + 1 + 1, 0, none⟩) (by simp; omega) _).setCell (p := ⟨w.heap.size + 1 + 1, 1, none⟩) (by simp; omega) _⟩

set_option maxRecDepth 100000 in
set_option maxHeartbeats 4000000 in
theorem implDerivativeBy_out {n a : Int} {x R : Nat} (ok : FOk n x R) (hr : a < 0 ∨ (R : Int) - 1 < a) (w : World) :
    Calls Try.prog 19 #[.agg #[.int .i64 n, .int .i64 (x : Int)], .int .i64 a] w fun e w' => e = .returned (.tuple #[.agg #[.int .i64 0, .int .i64 0], .int .i64 2]) ∧ Below w.heap.size w w' := by
  have h := ok.is
  rcases (show a < 0 ∨ (0 ≤ a ∧ (R : Int) - 1 < a) by omega) with hr | ⟨hr0, hr⟩
  · have hd : decide (a < 0) = true := by simpa using hr
    obtain ⟨W1, hW1, ⟨p0, p1, pa⟩, ⟨c0, c1⟩, ⟨f0, f1⟩, hB⟩ := derBox n x a w
    go_enter Try.func19, Try.ntmps19
    go_wp2_with (first
      | (go_at_call 16; refine (IsFunc_is h _).mono ?_; rintro e w2 ⟨rfl, hb2⟩; have q0 := kc hb2 p0; have qa := kc hb2 pa; have d0 := kc hb2 c0; have d1 := kc hb2 c1; have g0 := kf hb2 c0 f0; have g1 := kf hb2 c1 f1; have hB2 := bthen hB hb2; clear p0 p1 pa c0 c1 f0 f1))
    go_quiet (first | (go_at_call 150; exact quiet_eq (lastRow_is ok.h0 ok.h4 ok.r0 ok.r16 ok.hR _)))
    go_wp2
    exact bodyPost_ret (v := .tuple #[.agg #[.int .i64 0, .int .i64 0], .int .i64 2]) (by simp [results, Try.results19, go_sem, d0, d1]) rfl ⟨rfl, ((below_drewN hB2 _).setCell (p := ⟨w.heap.size + 1 + 1, 0, none⟩) (by simp; omega) _).setCell (p := ⟨w.heap.size + 1 + 1, 1, none⟩) (by simp; omega) _⟩
  · have hd : decide (a < 0) = false := by simpa using hr0
    have hd2 : decide ((R : Int) - 1 < a) = true := by simpa using hr
    obtain ⟨W1, hW1, ⟨p0, p1, pa⟩, ⟨c0, c1⟩, ⟨f0, f1⟩, hB⟩ := derBox n x a w
    go_enter Try.func19, Try.ntmps19
    go_wp2_with (first
      | (go_at_call 16; refine (IsFunc_is h _).mono ?_; rintro e w2 ⟨rfl, hb2⟩; have q0 := kc hb2 p0; have qa := kc hb2 pa; have d0 := kc hb2 c0; have d1 := kc hb2 c1; have g0 := kf hb2 c0 f0; have g1 := kf hb2 c1 f1; have hB2 := bthen hB hb2; clear p0 p1 pa c0 c1 f0 f1))
    go_quiet (first | (go_at_call 150; exact quiet_eq (lastRow_is ok.h0 ok.h4 ok.r0 ok.r16 ok.hR _)))
    go_wp2
    exact bodyPost_ret (v := .tuple #[.agg #[.int .i64 0, .int .i64 0], .int .i64 2]) (by simp [results, Try.results19, go_sem, d0, d1]) rfl ⟨rfl, ((below_drewN hB2 _).setCell (p := ⟨w.heap.size + 1 + 1, 0, none⟩) (by simp; omega) _).setCell (p := ⟨w.heap.size + 1 + 1, 1, none⟩) (by simp; omega) _⟩

set_option maxRecDepth 100000 in
set_option maxHeartbeats 4000000 in
theorem implDerivativeBy_yes {n : Int} {x R a : Nat} (ok : FOk n x R) (ha : a < R) (w : World) :
    Calls Try.prog 19 #[.agg #[.int .i64 n, .int .i64 (x : Int)], .int .i64 (a : Int)] w fun e w' => e = .returned (.tuple #[.agg #[.int .i64 n, .int .i64 (sumN (derV x a) R : Int)], .int .i64 0]) ∧ Below w.heap.size w w' := by
  have h := ok.is
  have r16 := ok.r16
  have hd : decide ((a : Int) < 0) = false := by simp
  have hd2 : decide ((R : Int) - 1 < (a : Int)) = false := by simp; omega
  obtain ⟨W1, hW1, ⟨p0, p1, pa⟩, ⟨c0, c1⟩, ⟨f0, f1⟩, hB⟩ := derBox n x a w
  go_enter Try.func19, Try.ntmps19
  go_wp2_with (first
    | (go_at_call 16; refine (IsFunc_is h _).mono ?_; rintro e w2 ⟨rfl, hb2⟩; have q0 := kc hb2 p0; have q1 := kc hb2 p1; have qa := kc hb2 pa; have d0 := kc hb2 c0; have d1 := kc hb2 c1; have g0 := kf hb2 c0 f0; have g1 := kf hb2 c1 f1; have hB2 := bthen hB hb2; clear p0 p1 pa c0 c1 f0 f1))
  go_quiet (first | (go_at_call 150; exact quiet_eq (lastRow_is ok.h0 ok.h4 ok.r0 ok.r16 ok.hR _)))
  obtain ⟨w4, hw4⟩ : ∃ w4, w2.drewN nq = w4 := ⟨_, rfl⟩
  have hbq : Below w2.heap.size w2 w4 := by rw [← hw4]; exact below_drewN (Below.refl _ _) _
  have q0 := kc hbq q0
  have q1 := kc hbq q1
  have qa := kc hbq qa
  have g0 := kf hbq d0 g0
  have g1 := kf hbq d1 g1
  have d0 := kc hbq d0
  have d1 := kc hbq d1
  have hB2 := bthen hB2 hbq
  rw [hw4]
  clear hw4 hW1
  go_wp2_with (first
    | (go_at_call 151; refine (derRows ok a (by omega) w.heap.size (w.heap.size + 1) _ ⟨q0, q1⟩ qa).mono ?_; rintro e w3 ⟨rfl, hb3⟩; have e0 := kc hb3 d0; have e1 := kc hb3 d1; have k0 := kf hb3 d0 g0; have k1 := kf hb3 d1 g1; have hB3 := bthen hB2 hb3))
  exact bodyPost_ret (v := .tuple #[.agg #[.int .i64 n, .int .i64 (sumN (derV x a) R : Int)], .int .i64 0]) (by simp [results, Try.results19, go_sem, e0, e1]) rfl ⟨rfl, (hB3.setCell (p := ⟨w.heap.size + 1 + 1, 0, none⟩) (by simp; omega) _).setCell (p := ⟨w.heap.size + 1 + 1, 1, none⟩) (by simp; omega) _⟩

/-- An append to a list of one's own, within a region that draws. -/
theorem step_append_own {P : Program} (w : World) {ops : Array Oper} {o : Oper} {a : Act} {K : Act → World → Prop} {Q : Exit → Act → World → Prop} {E : Prop}
    (hg : o.guard = none) (s x : Operand) (t : TypeId) (hop : o.op = Op.call { callee := Callee.builtin Builtin.append, args := #[s, x], argTypes := #[t, t] })
    (base : Nat) (e : TypeId) (i : TypeInfo) (z : Value) (size bytes : Nat) (h1 : P.underlying t = some (.slice e)) (h2 : P.info? e = some i) (h3 : i.zero = some z) (h4 : i.size = size) (h5 : i.bytes = bytes) (h6 : z.cells.size = size) (h7 : 0 < size)
    (v : Value) (k : Nat) (xs : List Value) (hs : a.eval s = v) (hown : w.ownsRow base e size v k xs) (ad : Addr) (m c : Nat) (news : List Value) (hx : a.eval x = .slice (some ad) m c) (hn : news.length = m * size)
    (hc : ∀ j u, news[j]? = some u → w.cell? (ad.add j) = some u) (h1c : ∀ u ∈ news, u.oneCell' = true) (b1 : k + m ≤ maxLen) (b2 : (k + m) * bytes ≤ 140737488355328) (b3 : base ≤ w.heap.size)
    (hK : ∀ v' w', w'.ownsRow base e size v' (k + m) (xs ++ news) → w.grownBy w' v.ownBlock → K (a.put o.dst v') w') :
    if Region.wanted o (yielded ops a.tmps) = true then Oper.wp P o a w K Q else E := by
  rw [if_pos (by simp [Region.wanted, hg])]
  obtain ⟨v', w', hrun, r1, r2, _⟩ := run_append_own (P := P) w base t o.type e i z size bytes h1 h2 h3 h4 h5 h6 h7 v k xs hown ad m c news hn hc h1c b1 b2 b3
  unfold Oper.wp
  simp [execOp, hop, resolve, invoke, builtin, hs, hx, hrun, Result.andThen]
  exact hK _ _ r1 r2

/-- The boxes of the model's derivative. -/
theorem derBoxS (n b : Int) (w : World) : ∃ W1, (w.alloc (.cells #[.int .i64 n, .int .i64 b] 25)).alloc (.cells #[.int .i64 0, .int .i64 0] 25) = W1 ∧
    (W1.cell? ⟨w.heap.size, 0, none⟩ = some (.int .i64 n) ∧ W1.cell? ⟨w.heap.size, 1, none⟩ = some (.int .i64 b)) ∧
    (W1.cell? ⟨w.heap.size + 1, 0, none⟩ = some (.int .i64 0) ∧ W1.cell? ⟨w.heap.size + 1, 1, none⟩ = some (.int .i64 0)) ∧
    (W1.frozen? ⟨w.heap.size + 1, 0, none⟩ = false ∧ W1.frozen? ⟨w.heap.size + 1, 1, none⟩ = false) ∧ Below w.heap.size w W1 :=
  ⟨_, rfl, ⟨by simp [go_sem], by simp [go_sem]⟩, ⟨by simp [go_sem], by simp [go_sem]⟩, ⟨by simp [go_sem], by simp [go_sem]⟩, balloc (bnew _ _) _⟩

set_option maxRecDepth 100000 in
set_option maxHeartbeats 2000000 in
theorem specDerivativeBy_no {n b a : Int} (h : isF n b = false) (w : World) :
    Calls Try.prog 20 #[.agg #[.int .i64 n, .int .i64 b], .int .i64 a] w fun e w' => e = .returned (.tuple #[.agg #[.int .i64 0, .int .i64 0], .int .i64 1]) ∧ Below w.heap.size w w' := by
  obtain ⟨W1, hW1, ⟨p0, p1⟩, ⟨c0, c1⟩, ⟨f0, f1⟩, hB⟩ := derBoxS n b w
  go_enter Try.func20, Try.ntmps20
  go_wp2_with (first
    | (go_at_call 153; refine (l01Is_is h _).mono ?_; rintro e w2 ⟨rfl, hb2⟩; have d0 := kc hb2 c0; have d1 := kc hb2 c1; have g0 := kf hb2 c0 f0; have g1 := kf hb2 c1 f1; have hB2 := bthen hB hb2))
  exact bodyPost_ret (v := .tuple #[.agg #[.int .i64 0, .int .i64 0], .int .i64 1]) (by simp [results, Try.results20, go_sem, d0, d1]) rfl ⟨rfl, (hB2.setCell (p := ⟨w.heap.size + 1, 0, none⟩) (by simp) _).setCell (p := ⟨w.heap.size + 1, 1, none⟩) (by simp) _⟩

set_option maxRecDepth 100000 in
set_option maxHeartbeats 4000000 in
theorem specDerivativeBy_out {n a : Int} {x R : Nat} (ok : FOk n x R) (hr : inB a 0 ((R : Int) - 1) = false) (w : World) :
    Calls Try.prog 20 #[.agg #[.int .i64 n, .int .i64 (x : Int)], .int .i64 a] w fun e w' => e = .returned (.tuple #[.agg #[.int .i64 0, .int .i64 0], .int .i64 2]) ∧ Below w.heap.size w w' := by
  have h := ok.is
  have r16 := ok.r16
  obtain ⟨W1, hW1, ⟨p0, p1⟩, ⟨c0, c1⟩, ⟨f0, f1⟩, hB⟩ := derBoxS n x w
  go_enter Try.func20, Try.ntmps20
  go_wp2_with (first
    | (go_at_call 153; refine (l01Is_is h _).mono ?_; rintro e w2 ⟨rfl, hb2⟩; have q0 := kc hb2 p0; have d0 := kc hb2 c0; have d1 := kc hb2 c1; have g0 := kf hb2 c0 f0; have g1 := kf hb2 c1 f1; have hB2 := bthen hB hb2)
    | (go_at_call 148; refine (l01Rows_is ok.h0 ok.h4 ok.hR _).mono ?_; rintro e w' ⟨rfl, rfl⟩)
    | (go_at_call 154; refine (l01In_is hr _).mono ?_; rintro e w' ⟨rfl, rfl⟩))
  exact bodyPost_ret (v := .tuple #[.agg #[.int .i64 0, .int .i64 0], .int .i64 2]) (by simp [results, Try.results20, go_sem, d0, d1]) rfl ⟨rfl, (hB2.setCell (p := ⟨w.heap.size + 1, 0, none⟩) (by simp) _).setCell (p := ⟨w.heap.size + 1, 1, none⟩) (by simp) _⟩

set_option maxRecDepth 100000 in
set_option maxHeartbeats 8000000 in
theorem specDerivativeBy_yes {n : Int} {x R a : Nat} (ok : FOk n x R) (ha : a < R) (w : World) :
    Calls Try.prog 20 #[.agg #[.int .i64 n, .int .i64 (x : Int)], .int .i64 (a : Int)] w fun e w' => e = .returned (.tuple #[.agg #[.int .i64 n, .int .i64 (sumN (derV x a) R : Int)], .int .i64 0]) ∧ Below w.heap.size w w' := by
  obtain ⟨i0, hi, hz0, hz1, hz2⟩ := info_parts infoI
  have h := ok.is
  have r0 := ok.r0
  have r16 := ok.r16
  have hin : inB (a : Int) 0 ((R : Int) - 1) = true := inB_true (by omega) (by omega)
  obtain ⟨W1, hW1, ⟨p0, p1⟩, ⟨c0, c1⟩, ⟨f0, f1⟩, hB⟩ := derBoxS n x w
  go_enter Try.func20, Try.ntmps20
  go_wp2_with (first
    | (go_at_call 153; refine (l01Is_is h _).mono ?_; rintro e w2 ⟨rfl, hb2⟩; have q0 := kc hb2 p0; have q1 := kc hb2 p1; have d0 := kc hb2 c0; have d1 := kc hb2 c1; have g0 := kf hb2 c0 f0; have g1 := kf hb2 c1 f1; have hB2 := bthen hB hb2)
    | (go_at_call 148; refine (l01Rows_is ok.h0 ok.h4 ok.hR _).mono ?_; rintro e w' ⟨rfl, rfl⟩)
    | (go_at_call 154; refine (l01In_is hin _).mono ?_; rintro e w' ⟨rfl, rfl⟩))
  clear hW1
  have hlt2 : w.heap.size < w2.heap.size := cell_lt q0
  have HC := Lib.hid (show (w2.cell? ⟨w.heap.size + 1, 0, none⟩ = some (.int .i64 0) ∧ w2.cell? ⟨w.heap.size + 1, 1, none⟩ = some (.int .i64 0)) ∧ (w2.frozen? ⟨w.heap.size + 1, 0, none⟩ = false ∧ w2.frozen? ⟨w.heap.size + 1, 1, none⟩ = false) from ⟨⟨d0, d1⟩, g0, g1⟩)
  clear d0 d1 g0 g1 p0 p1 c0 c1 f0 f1 hb2 hin
  go_loopw [6, 7] (fun s r' wr => ∃ k : Nat, k ≤ R ∧ r' = .int .i64 k ∧ Hid (Owns wr w2.heap.size s (natL (derV x a) k)) ∧ Below w2.heap.size w2 wr)
    (fun _ r' _ => R - (intOf r').toNat)
  case atStart => exact ⟨0, by omega, rfl, Lib.hid (World.ownsRow_lit w2 #[] 0 (Nat.le_refl _) (by decide) rfl), bnew _ _⟩
  case round =>
    obtain ⟨k, hk, rfl, HOWN, hN⟩ := hrel
    have hsz := hN.size
    have u0 := kc hN q0
    have u1 := kc hN q1
    by_cases hlt : k < R
    · have HX := xor_num k a (by omega) (by omega)
      have h4 : k ^^^ a < 2 ^ 4 := Nat.xor_lt_two_pow (show k < 2 ^ 4 by omega) (show a < 2 ^ 4 by omega)
      have b0 : 0 ≤ bits .xor .i64 (k : Int) (a : Int) := by rw [HX]; omega
      have b1 : bits .xor .i64 (k : Int) (a : Int) < 62 := by rw [HX]; omega
      have hq1 := bitN_le x ((k : Int)).toNat
      have hq2 := bitN_le x (bits .xor .i64 (k : Int) (a : Int)).toNat
      have hq3 := bitN_le x k
      have HV := Lib.hid (show (IntKind.i64.wrap ((bitN x k : Int) + (bitN x (bits .xor .i64 (k : Int) (a : Int)).toNat : Int))).tmod 2 = (derV x a k : Int) by
        rw [wrap64_small (by omega) (by omega), Int.tmod_eq_emod_of_nonneg (by omega), HX, Int.toNat_natCast]; unfold derV; omega)
      have hx := ok.hx
      have hlen := natL_len (derV x a) k
      have HS := Lib.hid (natL_succ (derV x a) k)
      clear HX h4
      go_wp2_with (go_at_call 148; refine (l01Rows_is ok.h0 ok.h4 ok.hR _).mono ?_; rintro e w' ⟨rfl, rfl⟩)
      have HD := Lib.hid (show Owns wr.drew w2.heap.size _ (natL (derV x a) k) from HOWN.out)
      have hND := hN.drew
      clear HOWN hN
      go_region_law (first
        | (refine step_append_own _ rfl _ _ 30 rfl w2.heap.size 2 i0 (.int .i64 0) 1 8 Try.underlying30 hi hz0 hz1 hz2 rfl (by decide) _ _ _ rfl (O6.alloc _) ⟨w5.heap.size, 0, none⟩ 1 1 [.int .i64 (derV x a k : Int)] rfl rfl (by rw [← HV.out]; exact cell_one_new _ _ _) (one_cell_int _) (by unfold maxLen; omega) (by omega) (by simp; omega) ?_; intro v' w1 hown' hgrow)
        | (go_simp; go_at_call 155; refine (l01At_int' _ _ hx _ (by omega) (by omega) _).mono ?_; rintro e w5 ⟨rfl, hb5⟩; (first | (with_reducible have O5 := Lib.hid (O5.out.below hb5)) | (have O5 := Lib.hid (HD.out.below hb5))); (first | (with_reducible have N5 := bthen N5 hb5) | (have N5 := bthen hND hb5)); (first | (with_reducible have u0 := kc hb5 u0) | (have u0 := kcd hb5 u0)); (first | (with_reducible have u1 := kc hb5 u1) | (have u1 := kcd hb5 u1)); have hs5 := N5.size; have O6 : World.ownsRow _ _ _ _ _ _ _ := O5.out))
      all_goals
        have hN' := (balloc N5 (.cells #[.int .i64 (derV x a k : Int)] 2)).grown (by rw [HV.out] at hgrow; exact hgrow) (by simp; omega) (fun j e => (O6.lt j e).1)
        clear hgrow O6 O5 N5
        go_wp2
        go_roundw
        case rel => exact ⟨k + 1, by omega, by go_num, Lib.hid (by rw [HS.out]; unfold Owns; rw [ints_snoc, List.length_append]; exact hown'), hN'⟩
        case measure => simp [intOf]; omega
    · obtain rfl : R = k := by omega
      obtain ⟨g, cap, rfl, hg, hc⟩ := owned_cells r0 HOWN.out
      obtain ⟨⟨d0, d1⟩, g0, g1⟩ := HC.out
      have v0 := kc hN d0
      have v1 := kc hN d1
      have y0 := kf hN d0 g0
      have y1 := kf hN d1 g1
      have hBr := bthen hB2 hN
      clear d0 d1 g0 g1 HOWN hN
      go_wp2_with (first
        | (go_at_call 148; refine (l01Rows_is ok.h0 ok.h4 ok.hR _).mono ?_; rintro e w' ⟨rfl, rfl⟩)
        | (go_at_call 156; refine (l01Of_any ok.h0 ok.h4 r0 r16 ok.hR g cap (derV x a) (fun r _ => derV_le _ _ _) _ hg hc).mono ?_; rintro e w6 ⟨rfl, hb6⟩; have o0 := kc hb6 v0; have o1 := kc hb6 v1; have i0 := kf hb6 v0 y0; have i1 := kf hb6 v1 y1; have hB6 := bthen hBr hb6; clear v0 v1 y0 y1))
      exact bodyPost_ret (v := .tuple #[.agg #[.int .i64 n, .int .i64 (sumN (derV x a) R : Int)], .int .i64 0]) (by simp [results, Try.results20, go_sem, o0, o1]) rfl ⟨rfl, (hB6.setCell (p := ⟨w.heap.size + 1, 0, none⟩) (by simp) _).setCell (p := ⟨w.heap.size + 1, 1, none⟩) (by simp) _⟩

theorem bothDerivativeBy (n b a : Int) (_ : (Lit.int .i64 n).wf = true) (_ : (Lit.int .i64 b).wf = true) (_ : (Lit.int .i64 a).wf = true) : ∃ rn rb rc : Int,
    (∀ w, Calls Try.prog 20 #[.agg #[.int .i64 n, .int .i64 b], .int .i64 a] w fun e w' => e = .returned (.tuple #[.agg #[.int .i64 rn, .int .i64 rb], .int .i64 rc]) ∧ Below w.heap.size w w') ∧
    (∀ w, Calls Try.prog 19 #[.agg #[.int .i64 n, .int .i64 b], .int .i64 a] w fun e w' => e = .returned (.tuple #[.agg #[.int .i64 rn, .int .i64 rb], .int .i64 rc]) ∧ Below w.heap.size w w') := by
  cases h : isF n b
  · exact ⟨_, _, _, specDerivativeBy_no h, implDerivativeBy_no h⟩
  · obtain ⟨x, R, rfl, ok⟩ := fok h
    cases hr : inB a 0 ((R : Int) - 1)
    · exact ⟨_, _, _, specDerivativeBy_out ok hr, implDerivativeBy_out ok (by have : ¬ (0 ≤ a ∧ a ≤ (R : Int) - 1) := by simpa [inB] using hr
                                                                              omega)⟩
    · have h2 : 0 ≤ a ∧ a ≤ (R : Int) - 1 := by simpa [inB] using hr
      obtain ⟨c, rfl⟩ := Int.eq_ofNat_of_zero_le h2.1
      exact ⟨_, _, _, specDerivativeBy_yes ok (by omega), implDerivativeBy_yes ok (by omega)⟩
end Go.Proofs.Ytenbokdcdokhiab

/- ZM:
  The mathematics of the law of the polynomials. -/
namespace Go.Proofs.Ytenbokdcdokhiab
open Go.RowKit
set_option linter.unusedVariables false
set_option linter.unusedSimpArgs false

/-- The numbers v below k, each c times. -/
def dot (c v : Nat → Nat) : Nat → Nat
  | 0 => 0
  | k + 1 => dot c v k + c k * v k
theorem dot_zero (v : Nat → Nat) (k : Nat) : dot (fun _ => 0) v k = 0 := by
  induction k with
  | zero => rfl
  | succ k ih => simp [dot, ih]
theorem dot_add (c d v : Nat → Nat) (k : Nat) : dot (fun u => c u + d u) v k = dot c v k + dot d v k := by
  induction k with
  | zero => rfl
  | succ k ih => simp only [dot, ih, Nat.add_mul]; omega
theorem dot_one (w : Nat) (v : Nat → Nat) (k : Nat) : dot (fun u => if w = u then 1 else 0) v k = if w < k then v w else 0 := by
  induction k with
  | zero => simp [dot]
  | succ k ih =>
    simp only [dot, ih]
    by_cases h1 : w = k
    · subst h1; simp
    · by_cases h2 : w < k
      · simp [h1, h2, show w < k + 1 by omega]
      · simp [h1, h2, show ¬ w < k + 1 by omega]
theorem sum_dot (v : Nat → Nat) (k : Nat) (L : List Nat) (h : ∀ w, w ∈ L → w < k) : (L.map v).sum = dot (fun u => L.count u) v k := by
  induction L with
  | nil => simp [dot_zero]
  | cons w L ih =>
    have e : (fun u => (w :: L).count u) = fun u => L.count u + if w = u then 1 else 0 := by
      funext u
      rw [List.count_cons]
      by_cases hq : w = u <;> simp [hq]
    rw [e, dot_add, dot_one, if_pos (h w (by simp)), List.map_cons, List.sum_cons, ih (fun u hu => h u (by simp [hu]))]
    omega
theorem dot_delta (c v : Nat → Nat) (r : Nat) (k : Nat) (h : ∀ u, u < k → c u % 2 = if u = r then 1 else 0) : dot c v k % 2 = if r < k then v r % 2 else 0 := by
  induction k with
  | zero => rfl
  | succ k ih =>
    have i := ih (fun u hu => h u (by omega))
    have hk := h k (by omega)
    simp only [dot]
    rw [Nat.add_mod, i, Nat.mul_mod, hk]
    by_cases h1 : k = r
    · subst h1; simp
    · by_cases h2 : r < k
      · simp [h1, h2, show r < k + 1 by omega]
      · simp [h1, h2, show ¬ r < k + 1 by omega]
theorem dot_odd (c v : Nat → Nat) (k : Nat) (h : dot c v k % 2 = 1) : ∃ u, u < k ∧ c u % 2 = 1 ∧ v u % 2 = 1 := by
  induction k with
  | zero => simp [dot] at h
  | succ k ih =>
    simp only [dot] at h
    by_cases hk : dot c v k % 2 = 1
    · obtain ⟨u, hu, e1, e2⟩ := ih hk
      exact ⟨u, by omega, e1, e2⟩
    · have h3 : c k * v k % 2 = 1 := by omega
      rw [Nat.mul_mod] at h3
      refine ⟨k, by omega, ?_, ?_⟩
      · rcases Nat.mod_two_eq_zero_or_one (c k) with e | e
        · rw [e] at h3; simp at h3
        · exact e
      · rcases Nat.mod_two_eq_zero_or_one (v k) with e | e
        · rw [e] at h3; simp at h3
        · exact e

theorem par_append (v : Nat → Nat) (L M : List Nat) : par v (L ++ M) = (par v L + par v M) % 2 := by
  unfold par; rw [List.map_append, List.sum_append]; omega
theorem par_flat (v : Nat → Nat) (g : Nat → List Nat) (L : List Nat) : par (fun w => par v (g w)) L = par v (L.flatMap g) := by
  induction L with
  | nil => rfl
  | cons w L ih => rw [List.flatMap_cons, par_append, par_cons, ih]; omega
theorem par_add (u v : Nat → Nat) (L : List Nat) : par (fun r => (u r + v r) % 2) L = (par u L + par v L) % 2 := by
  induction L with
  | nil => rfl
  | cons w L ih => rw [par_cons, par_cons, par_cons, ih]; omega
theorem par_dot (v : Nat → Nat) (L : List Nat) (k : Nat) (h : ∀ w, w ∈ L → w < k) : par v L = dot (fun u => L.count u) v k % 2 := by
  unfold par; rw [sum_dot v k L h]

theorem subs16 {r w : Nat} (hr : r < 16) (h : w ∈ subsOf r) : w < 16 := subs_mem 4 (by decide) r hr w h
theorem inv_dec : ∀ r, r < 16 → ∀ u, u < 16 → ((subsOf r).flatMap subsOf).count u % 2 = if u = r then 1 else 0 := by decide +kernel
theorem inv_par (v : Nat → Nat) (hv : ∀ u, v u ≤ 1) (r : Nat) (hr : r < 16) : par (fun w => par v (subsOf w)) (subsOf r) = v r := by
  have hv := hv r
  rw [par_flat, par_dot v _ 16, dot_delta _ v r 16 (inv_dec r hr), if_pos hr]
  · omega
  · intro w hw
    obtain ⟨u, hu, hwu⟩ := List.mem_flatMap.mp hw
    exact subs16 (subs16 hr hu) hwu

theorem bitN_tst (x i : Nat) : bitN x i = (x.testBit i).toNat := by rw [Nat.toNat_testBit]; rfl
theorem bitN_xor (x y i : Nat) : bitN (x ^^^ y) i = (bitN x i + bitN y i) % 2 := by
  rw [bitN_tst, bitN_tst, bitN_tst, Nat.testBit_xor]
  cases x.testBit i <;> cases y.testBit i <;> rfl

theorem FOk.r16' {n : Int} {x R : Nat} (ok : FOk n x R) {r : Nat} (hr : r < R) : r < 16 := Nat.lt_of_lt_of_le hr ok.r16
theorem FOk.sub {n : Int} {x R : Nat} (ok : FOk n x R) {r w : Nat} (hr : r < R) (h : w ∈ subsOf r) : w < R := by
  have he := ok.he
  rw [he] at hr ⊢
  exact subs_mem _ ok.n5 r hr w h
/-- The polynomial of a polynomial: the bits. -/
theorem bit_pol {n : Int} {x R : Nat} (ok : FOk n x R) (r : Nat) (hr : r < R) : par (polV x) (subsOf r) = bitN x r := inv_par (bitN x) (bitN_le x) r (ok.r16' hr)
theorem pol_sumN {n : Int} {x R : Nat} (ok : FOk n x R) (v : Nat → Nat) (hv : ∀ r, v r ≤ 1) (r : Nat) (hr : r < R) : polV (sumN v R) r = par v (subsOf r) :=
  par_congr fun w hw => bitN_sum v R (fun j _ => hv j) w (ok.sub hr hw)
theorem pol_back {n : Int} {x R : Nat} (ok : FOk n x R) : sumN (polV (sumN (polV x) R)) R = x := by
  rw [sumN_congr R fun r hr => (pol_sumN ok (polV x) (polV_le x) r hr).trans (bit_pol ok r hr), sumN_bits]
  exact Nat.mod_eq_of_lt ok.hB
theorem pol_sum (x y r : Nat) : polV (x ^^^ y) r = (polV x r + polV y r) % 2 := by
  unfold polV
  rw [← par_add]
  exact par_congr fun w _ => bitN_xor x y w

theorem degS_ge (c : Nat → Nat) (k w : Nat) (hw : w < k) (h : c w = 1) : sizeN w ≤ degS c k := by
  induction k with
  | zero => omega
  | succ k ih =>
    simp only [degS]
    by_cases e : w = k
    · subst e; rw [if_pos h]; omega
    · have := ih (by omega); split <;> omega
theorem degS_att (c : Nat → Nat) (k : Nat) (h : 0 < degS c k) : ∃ w, w < k ∧ c w = 1 ∧ sizeN w = degS c k := by
  induction k with
  | zero => simp [degS] at h
  | succ k ih =>
    simp only [degS] at h ⊢
    by_cases e : c k = 1
    · rw [if_pos e] at h ⊢
      by_cases h2 : degS c k < sizeN k
      · exact ⟨k, by omega, e, by omega⟩
      · obtain ⟨w, hw, e1, e2⟩ := ih (by omega)
        exact ⟨w, by omega, e1, by omega⟩
    · rw [if_neg e] at h ⊢
      obtain ⟨w, hw, e1, e2⟩ := ih h
      exact ⟨w, by omega, e1, e2⟩
/-- The degree of a sum is at most the greater one. -/
theorem deg_sum (x y R : Nat) : degS (polV (x ^^^ y)) R ≤ degS (polV x) R ∨ degS (polV (x ^^^ y)) R ≤ degS (polV y) R := by
  by_cases h0 : 0 < degS (polV (x ^^^ y)) R
  · obtain ⟨w, hw, e1, e2⟩ := degS_att _ R h0
    rw [pol_sum] at e1
    have hx := polV_le x w
    have hy := polV_le y w
    by_cases h1 : polV x w = 1
    · left; rw [← e2]; exact degS_ge _ R w hw h1
    · right; rw [← e2]; exact degS_ge _ R w hw (by omega)
  · left; omega

/-- The numbers that a coefficient of a derivative adds up. -/
def derL (a w : Nat) : List Nat := (subsOf w).flatMap fun r => subsOf r ++ subsOf (r ^^^ a)
theorem der_dec : ∀ a, a < 16 → ∀ w, w < 16 → ∀ u, u < 16 → ((derL a w).count u % 2 == 1) = true → (Nat.blt (sizeN w) (sizeN u)) = true := by decide +kernel
theorem der_pol {n : Int} {x R : Nat} (ok : FOk n x R) {a : Nat} (ha : a < R) (w : Nat) (hw : w < R) : polV (sumN (derV x a) R) w = par (polV x) (derL a w) := by
  rw [pol_sumN ok (derV x a) (derV_le x a) w hw, derL, ← par_flat]
  refine par_congr fun r hr => ?_
  have h1 := ok.sub hw hr
  have h2 : r ^^^ a < R := by
    have he := ok.he
    rw [he] at h1 ha ⊢
    exact Nat.xor_lt_two_pow h1 ha
  rw [par_append, bit_pol ok r h1, bit_pol ok _ h2]
  rfl
theorem der_in {n : Int} {x R : Nat} (ok : FOk n x R) {a : Nat} (ha : a < R) (w : Nat) (hw : w < R) : ∀ u, u ∈ derL a w → u < R := by
  intro u hu
  obtain ⟨r, hr, h⟩ := List.mem_flatMap.mp hu
  have h1 := ok.sub hw hr
  have h2 : r ^^^ a < R := by
    have he := ok.he
    rw [he] at h1 ha ⊢
    exact Nat.xor_lt_two_pow h1 ha
  rcases List.mem_append.mp h with h | h
  · exact ok.sub h1 h
  · exact ok.sub h2 h
/-- A derivative has a lesser degree, or the degree 0. -/
theorem deg_der {n : Int} {x R : Nat} (ok : FOk n x R) {a : Nat} (ha : a < R) : degS (polV (sumN (derV x a) R)) R = 0 ∨ degS (polV (sumN (derV x a) R)) R < degS (polV x) R := by
  by_cases h0 : 0 < degS (polV (sumN (derV x a) R)) R
  · right
    obtain ⟨w, hw, e1, e2⟩ := degS_att _ R h0
    rw [der_pol ok ha w hw, par_dot _ _ R (der_in ok ha w hw)] at e1
    obtain ⟨u, hu, h1, h2⟩ := dot_odd _ _ _ e1
    have h3 := der_dec a (ok.r16' ha) w (ok.r16' hw) u (ok.r16' hu) (by simpa using h1)
    have h4 := Nat.blt_eq.mp h3
    have h5 := degS_ge (polV x) R u hu (by have := polV_le x u; omega)
    omega
  · left; omega

theorem aff_pol {n : Int} {x R : Nat} (ok : FOk n x R) (w : Nat) (hw : w < R) : polV (affP x R) w = lowV (polV x) w := by
  unfold affP
  rw [pol_sumN ok _ (fun r => par_le _ _) w hw]
  exact inv_par (lowV (polV x)) (lowV_le x) w (ok.r16' hw)
/-- An affine part has at most the degree 1. -/
theorem deg_aff {n : Int} {x R : Nat} (ok : FOk n x R) : degS (polV (affP x R)) R ≤ 1 := by
  by_cases h0 : 0 < degS (polV (affP x R)) R
  · obtain ⟨w, hw, e1, e2⟩ := degS_att _ R h0
    rw [aff_pol ok w hw] at e1
    unfold lowV at e1
    split at e1
    · omega
    · omega
  · omega
/-- A function of a degree below 2 is its affine part. -/
theorem aff_self {n : Int} {x R : Nat} (ok : FOk n x R) (h : degS (polV x) R < 2) : affP x R = x := by
  unfold affP
  rw [sumN_congr R (u := bitN x) fun r hr => ?_, sumN_bits]
  · exact Nat.mod_eq_of_lt ok.hB
  · rw [← bit_pol ok r hr]
    refine par_congr fun w hw => ?_
    unfold lowV
    split
    · have h1 := ok.sub hr hw
      have h2 := polV_le x w
      by_cases h3 : polV x w = 1
      · have := degS_ge (polV x) R w h1 h3
        omega
      · omega
    · rfl
end Go.Proofs.Ytenbokdcdokhiab

/- YB:
  The laws' own lists: likeInts. -/
namespace Go.Proofs.Ytenbokdcdokhiab
open Go.RowKit
set_option linter.unusedVariables false
set_option linter.unusedSimpArgs false

set_option maxRecDepth 100000 in
set_option maxHeartbeats 1000000 in
theorem likeInts_same {b1 b2 : Nat} {s1 s2 : Value} {xs : List Int} (hl : xs.length ≤ 100000000) (w : World) (h1 : Owns w b1 s1 xs) (h2 : Owns w b2 s2 xs) :
    Calls Try.prog 32 #[s1, s2] w fun e w' => e = .returned (.bool true) ∧ Below w.heap.size w w' := by
  rcases h1.shape with ⟨rfl, a, cap, rfl⟩ | ⟨hn, g, cap, rfl, _, hg, hc, _⟩
  · rcases h2.shape with ⟨_, a', cap', rfl⟩ | ⟨hn, _⟩
    · go_enter Try.func32, Try.ntmps32
      go_wp2
      refine wp_loop_rounds 1 ?_
      rw [rounds_succ]
      go_wp2
      go_ret
      exact ⟨rfl, Below.refl _ _⟩
    · simp at hn
  · rcases h2.shape with ⟨h0, _⟩ | ⟨_, g', cap', rfl, _, hg', hc', _⟩
    · rw [h0] at hn; simp at hn
    · clear h1 h2
      generalize xs.length = n at hl hn hc hc' ⊢
      go_enter Try.func32, Try.ntmps32
      go_wp2
      go_loopw [5] (fun i wr => ∃ k : Nat, k ≤ n ∧ i = .int .i64 k ∧ Below w.heap.size w wr) (fun i _ => n - (intOf i).toNat)
      case atStart => exact ⟨0, Nat.zero_le _, rfl, Below.refl _ _⟩
      case round =>
        obtain ⟨k, hk, rfl, hB⟩ := hrel
        by_cases hlt : k < n
        · have d1 := (hB.cell (p := ⟨g, k, none⟩) hg).trans (hc.out k hlt)
          have d2 := (hB.cell (p := ⟨g', k, none⟩) hg').trans (hc'.out k hlt)
          go_wp2
          go_quiet (fail)
          go_wp2
          go_roundw
          case rel => exact ⟨k + 1, by omega, by go_num, below_drewN hB _⟩
          case measure => simp [intOf]; omega
        · obtain rfl : k = n := by omega
          go_wp2
          go_ret
          exact ⟨rfl, hB⟩

end Go.Proofs.Ytenbokdcdokhiab
