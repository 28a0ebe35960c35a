/-
  The texts ZB, MO17, MO18, MO19, FLevelsOf in one.
-/
import Derived.Test.YtcolaggkeekgoaaMPLevelsOf4
import Derived.Deep.RegionLaw
import Derived.Lib.BufferMore
import Derived.ChangeKeysEq

/- ZB:
  DerivativeBy in both packages. -/
namespace Go.Proofs.Ytcolaggkeekgoaa
open Go.RowKit
set_option linter.unusedVariables false
set_option linter.unusedSimpArgs false

/-- The value of the derivative by a at a row. -/
def derV (x a r : Nat) : Nat := (bitN x r + bitN x (r ^^^ a)) % 2
theorem derV_le (x a r : Nat) : derV x a r ≤ 1 := by unfold derV; omega

theorem xor_num (r a : Nat) (hr : r < 16) (ha : a < 16) : bits .xor .i64 (r : Int) (a : Int) = ((r ^^^ a : Nat) : Int) := by
  have h : r ^^^ a < 2 ^ 4 := Nat.xor_lt_two_pow (show r < 2 ^ 4 by omega) (show a < 2 ^ 4 by omega)
  show IntKind.i64.wrap ((BitVec.ofInt 64 (r : Int) ^^^ BitVec.ofInt 64 (a : Int)).toNat : Int) = _
  rw [BitVec.ofInt_natCast, BitVec.ofInt_natCast, BitVec.toNat_xor, BitVec.toNat_ofNat, BitVec.toNat_ofNat, Nat.mod_eq_of_lt (by omega : r < 2 ^ 64), Nat.mod_eq_of_lt (by omega : a < 2 ^ 64)]
  exact wrap64_small (by omega) (by omega)

theorem valueInRow_int (n : Int) (x : Nat) (hx : x < 2 ^ 62) (I : Int) (h0 : 0 ≤ I) (h1 : I < 62) (w : World) :
    Calls Try.prog 55 #[.agg #[.int .i64 n, .int .i64 (x : Int)], .int .i64 I] w fun e w' => e = .returned (.int .i64 (bitN x I.toNat : Int)) ∧ Below w.heap.size w w' := by
  have h := valueInRow_any n x I.toNat hx (by omega) w
  rwa [show ((I.toNat : Nat) : Int) = I by omega] at h
theorem l01At_int' (n : Int) (x : Nat) (hx : x < 2 ^ 62) (I : Int) (h0 : 0 ≤ I) (h1 : I < 62) (w : World) :
    Calls Try.prog 49 #[.agg #[.int .i64 n, .int .i64 (x : Int)], .int .i64 I] w fun e w' => e = .returned (.int .i64 (bitN x I.toNat : Int)) ∧ Below w.heap.size w w' := by
  have h := l01At_any n x I.toNat hx (by omega) w
  rwa [show ((I.toNat : Nat) : Int) = I by omega] at h

theorem step_heldD {W w' W0 : World} {a b c : Addr} {u v z : Value} (hb : Below W.heap.size W w') (h : ((W.cell? a = some u ∧ W.cell? b = some v) ∧ W.cell? c = some z) ∧ Below W0.heap.size W0 W) :
    ((w'.cell? a = some u ∧ w'.cell? b = some v) ∧ w'.cell? c = some z) ∧ Below W0.heap.size W0 w' := ⟨⟨⟨kc hb h.1.1.1, kc hb h.1.1.2⟩, kc hb h.1.2⟩, bthen h.2 hb⟩

set_option maxRecDepth 100000 in
set_option maxHeartbeats 2000000 in
theorem Derivative1_any {n : Int} {x R : Nat} (ok : FOk n x R) (a r : Nat) (ha : a < 16) (hr : r < 16) (b ba : Nat) (w : World) (hb : FBox b n x w) (cA : w.cell? ⟨ba, 0, none⟩ = some (.int .i64 (a : Int))) :
    Calls Try.prog 54 #[.int .i64 (r : Int), .pointer (some ⟨b, 0, none⟩), .pointer (some ⟨ba, 0, none⟩)] w fun e w' => e = .returned (.int .i64 (derV x a r : Int)) ∧ Below w.heap.size w w' := by
  obtain ⟨c0, c1⟩ := hb
  have hx := ok.hx
  have HX := xor_num r a hr ha
  have h4 : r ^^^ a < 2 ^ 4 := Nat.xor_lt_two_pow (show r < 2 ^ 4 by omega) (show a < 2 ^ 4 by omega)
  have b0 : 0 ≤ bits .xor .i64 (r : Int) (a : Int) := by rw [HX]; omega
  have b1 : bits .xor .i64 (r : Int) (a : Int) < 62 := by rw [HX]; omega
  have HV := Lib.hid (show bits .xor .i64 (bitN x ((r : Int)).toNat : Int) (bitN x (bits .xor .i64 (r : Int) (a : Int)).toNat : Int) = (derV x a r : Int) by
    rw [HX, Int.toNat_natCast, Int.toNat_natCast, xor_par _ _ (bitN_le _ _) (bitN_le _ _)]; rfl)
  clear HX h4
  go_enter Try.func54, Try.ntmps54
  go_wp2
  go_region_held3 (fun W => ((W.cell? ⟨b, 0, none⟩ = some (.int .i64 n) ∧ W.cell? ⟨b, 1, none⟩ = some (.int .i64 (x : Int))) ∧ W.cell? ⟨ba, 0, none⟩ = some (.int .i64 (a : Int))) ∧ Below w.heap.size w W) (first | exact ⟨⟨⟨c0, c1⟩, cA⟩, (Below.refl _ _).drew⟩ | exact step_heldD hb1 (by assumption))
    (first
      | (go_at_call 55; refine (valueInRow_int _ _ hx _ (by omega) (by omega) _).mono ?_; rintro e w' ⟨rfl, hb1⟩))
  go_wp2
  go_ret
  exact ⟨by rw [← HV.out]; rfl, (‹(_ ∧ _) ∧ Below _ _ _›).2⟩

theorem derRows {n : Int} {x R : Nat} (ok : FOk n x R) (a : Nat) (ha : a < 16) (b ba : Nat) (W : World) (hb : FBox b n x W) (cA : W.cell? ⟨ba, 0, none⟩ = some (.int .i64 (a : Int))) :
    Calls Try.prog 53 #[.int .i64 n, .func (.func 54) #[] #[.pointer (some ⟨b, 0, none⟩), .pointer (some ⟨ba, 0, none⟩)]] W fun e w' => e = .returned (.agg #[.int .i64 n, .int .i64 (sumN (derV x a) R : Int)]) ∧ Below W.heap.size W w' := by
  have r16 := ok.r16
  have F := funcByRows_any n ok.h0 ok.h4 R ok.r0 ok.r16 ok.hR 54 #[.pointer (some ⟨b, 0, none⟩), .pointer (some ⟨ba, 0, none⟩)] (enters_of Try.func54 (by kernel_rfl) rfl)
    (derV x a) (fun r _ => derV_le _ _ _) W (Lib.hid fun W' hW r hr => Derivative1_any ok a r ha (by omega) b ba W' (hb.keep hW) (kc hW cA))
  rwa [orBits_sum ok.r0 _ (fun r _ => derV_le _ _ _)] at F

/-- The boxes of the program's derivative. -/
theorem derBox (n b a : Int) (w : World) : ∃ W1, ((w.alloc (.cells #[.int .i64 n, .int .i64 b] 24)).alloc (.cells #[.int .i64 a] 2)).alloc (.cells #[.int .i64 0, .int .i64 0] 24) = W1 ∧
    (W1.cell? ⟨w.heap.size, 0, none⟩ = some (.int .i64 n) ∧ W1.cell? ⟨w.heap.size, 1, none⟩ = some (.int .i64 b) ∧ W1.cell? ⟨w.heap.size + 1, 0, none⟩ = some (.int .i64 a)) ∧
    (W1.cell? ⟨w.heap.size + 1 + 1, 0, none⟩ = some (.int .i64 0) ∧ W1.cell? ⟨w.heap.size + 1 + 1, 1, none⟩ = some (.int .i64 0)) ∧
    (W1.frozen? ⟨w.heap.size + 1 + 1, 0, none⟩ = false ∧ W1.frozen? ⟨w.heap.size + 1 + 1, 1, none⟩ = false) ∧ Below w.heap.size w W1 :=
  ⟨_, rfl, ⟨by simp [go_sem], by simp [go_sem], by simp [go_sem]⟩, ⟨by simp [go_sem], by simp [go_sem]⟩, ⟨by simp [go_sem], by simp [go_sem]⟩, balloc (balloc (bnew _ _) _) _⟩

set_option maxRecDepth 100000 in
set_option maxHeartbeats 2000000 in
theorem implDerivativeBy_no {n b a : Int} (h : isF n b = false) (w : World) :
    Calls Try.prog 17 #[.agg #[.int .i64 n, .int .i64 b], .int .i64 a] w fun e w' => e = .returned (.tuple #[.agg #[.int .i64 0, .int .i64 0], .int .i64 1]) ∧ Below w.heap.size w w' := by
  obtain ⟨W1, hW1, ⟨p0, p1, pa⟩, ⟨c0, c1⟩, ⟨f0, f1⟩, hB⟩ := derBox n b a w
  go_enter Try.func17, Try.ntmps17
  go_wp2_with (first
    | (go_at_call 51; refine (IsFunc_is h _).mono ?_; rintro e w2 ⟨rfl, hb2⟩; have d0 := kc hb2 c0; have d1 := kc hb2 c1; have g0 := kf hb2 c0 f0; have g1 := kf hb2 c1 f1; have hB2 := bthen hB hb2))
  exact bodyPost_ret (v := .tuple #[.agg #[.int .i64 0, .int .i64 0], .int .i64 1]) (by simp [results, Try.results17, go_sem, d0, d1]) rfl ⟨rfl, (hB2.setCell (p := ⟨w.heap.size + 1 + 1, 0, none⟩) (by simp; omega) _).setCell (p := ⟨w.heap.size + 1 + 1, 1, none⟩) (by simp; omega) _⟩

set_option maxRecDepth 100000 in
set_option maxHeartbeats 4000000 in
theorem implDerivativeBy_out {n a : Int} {x R : Nat} (ok : FOk n x R) (hr : inB a 0 ((R : Int) - 1) = false) (w : World) :
    Calls Try.prog 17 #[.agg #[.int .i64 n, .int .i64 (x : Int)], .int .i64 a] w fun e w' => e = .returned (.tuple #[.agg #[.int .i64 0, .int .i64 0], .int .i64 2]) ∧ Below w.heap.size w w' := by
  have h := ok.is
  obtain ⟨W1, hW1, ⟨p0, p1, pa⟩, ⟨c0, c1⟩, ⟨f0, f1⟩, hB⟩ := derBox n x a w
  go_enter Try.func17, Try.ntmps17
  go_wp2_with (first
    | (go_at_call 51; refine (IsFunc_is h _).mono ?_; rintro e w2 ⟨rfl, hb2⟩; have q0 := kc hb2 p0; have qa := kc hb2 pa; have d0 := kc hb2 c0; have d1 := kc hb2 c1; have g0 := kf hb2 c0 f0; have g1 := kf hb2 c1 f1; have hB2 := bthen hB hb2; clear p0 p1 pa c0 c1 f0 f1)
    | (go_at_call 52; refine (isRow_is ok.h0 ok.h4 ok.r0 ok.r16 ok.hR hr _).mono ?_; rintro e w' ⟨rfl, rfl⟩))
  exact bodyPost_ret (v := .tuple #[.agg #[.int .i64 0, .int .i64 0], .int .i64 2]) (by simp [results, Try.results17, go_sem, d0, d1]) rfl ⟨rfl, (hB2.setCell (p := ⟨w.heap.size + 1 + 1, 0, none⟩) (by simp; omega) _).setCell (p := ⟨w.heap.size + 1 + 1, 1, none⟩) (by simp; omega) _⟩

set_option maxRecDepth 100000 in
set_option maxHeartbeats 4000000 in
theorem implDerivativeBy_yes {n : Int} {x R a : Nat} (ok : FOk n x R) (ha : a < R) (w : World) :
    Calls Try.prog 17 #[.agg #[.int .i64 n, .int .i64 (x : Int)], .int .i64 (a : Int)] w fun e w' => e = .returned (.tuple #[.agg #[.int .i64 n, .int .i64 (sumN (derV x a) R : Int)], .int .i64 0]) ∧ Below w.heap.size w w' := by
  have h := ok.is
  have r16 := ok.r16
  have hr : inB (a : Int) 0 ((R : Int) - 1) = true := inB_true (by omega) (by omega)
  obtain ⟨W1, hW1, ⟨p0, p1, pa⟩, ⟨c0, c1⟩, ⟨f0, f1⟩, hB⟩ := derBox n x a w
  go_enter Try.func17, Try.ntmps17
  go_wp2_with (first
    | (go_at_call 51; refine (IsFunc_is h _).mono ?_; rintro e w2 ⟨rfl, hb2⟩; have q0 := kc hb2 p0; have q1 := kc hb2 p1; have qa := kc hb2 pa; have d0 := kc hb2 c0; have d1 := kc hb2 c1; have g0 := kf hb2 c0 f0; have g1 := kf hb2 c1 f1; have hB2 := bthen hB hb2; clear p0 p1 pa c0 c1 f0 f1)
    | (go_at_call 52; refine (isRow_is ok.h0 ok.h4 ok.r0 ok.r16 ok.hR hr _).mono ?_; rintro e w' ⟨rfl, rfl⟩)
    | (go_at_call 53; refine (derRows ok a (by omega) w.heap.size (w.heap.size + 1) _ ⟨q0, q1⟩ qa).mono ?_; rintro e w3 ⟨rfl, hb3⟩; have e0 := kc hb3 d0; have e1 := kc hb3 d1; have k0 := kf hb3 d0 g0; have k1 := kf hb3 d1 g1; have hB3 := bthen hB2 hb3))
  exact bodyPost_ret (v := .tuple #[.agg #[.int .i64 n, .int .i64 (sumN (derV x a) R : Int)], .int .i64 0]) (by simp [results, Try.results17, go_sem, e0, e1]) rfl ⟨rfl, (hB3.setCell (p := ⟨w.heap.size + 1 + 1, 0, none⟩) (by simp; omega) _).setCell (p := ⟨w.heap.size + 1 + 1, 1, none⟩) (by simp; omega) _⟩

/-- An append to a list of one's own, within a region that draws. -/
theorem step_append_own {P : Program} (w : World) {ops : Array Oper} {o : Oper} {a : Act} {K : Act → World → Prop} {Q : Exit → Act → World → Prop} {E : Prop}
    (hg : o.guard = none) (s x : Operand) (t : TypeId) (hop : o.op = Op.call { callee := Callee.builtin Builtin.append, args := #[s, x], argTypes := #[t, t] })
    (base : Nat) (e : TypeId) (i : TypeInfo) (z : Value) (size bytes : Nat) (h1 : P.underlying t = some (.slice e)) (h2 : P.info? e = some i) (h3 : i.zero = some z) (h4 : i.size = size) (h5 : i.bytes = bytes) (h6 : z.cells.size = size) (h7 : 0 < size)
    (v : Value) (k : Nat) (xs : List Value) (hs : a.eval s = v) (hown : w.ownsRow base e size v k xs) (ad : Addr) (m c : Nat) (news : List Value) (hx : a.eval x = .slice (some ad) m c) (hn : news.length = m * size)
    (hc : ∀ j u, news[j]? = some u → w.cell? (ad.add j) = some u) (h1c : ∀ u ∈ news, u.oneCell' = true) (b1 : k + m ≤ maxLen) (b2 : (k + m) * bytes ≤ 140737488355328) (b3 : base ≤ w.heap.size)
    (hK : ∀ v' w', w'.ownsRow base e size v' (k + m) (xs ++ news) → w.grownBy w' v.ownBlock → K (a.put o.dst v') w') :
    if Region.wanted o (yielded ops a.tmps) = true then Oper.wp P o a w K Q else E := by
  rw [if_pos (by simp [Region.wanted, hg])]
  obtain ⟨v', w', hrun, r1, r2, _⟩ := run_append_own (P := P) w base t o.type e i z size bytes h1 h2 h3 h4 h5 h6 h7 v k xs hown ad m c news hn hc h1c b1 b2 b3
  unfold Oper.wp
  simp [execOp, hop, resolve, invoke, builtin, hs, hx, hrun, Result.andThen]
  exact hK _ _ r1 r2

/-- The boxes of the model's derivative. -/
theorem derBoxS (n b : Int) (w : World) : ∃ W1, (w.alloc (.cells #[.int .i64 n, .int .i64 b] 24)).alloc (.cells #[.int .i64 0, .int .i64 0] 24) = W1 ∧
    (W1.cell? ⟨w.heap.size, 0, none⟩ = some (.int .i64 n) ∧ W1.cell? ⟨w.heap.size, 1, none⟩ = some (.int .i64 b)) ∧
    (W1.cell? ⟨w.heap.size + 1, 0, none⟩ = some (.int .i64 0) ∧ W1.cell? ⟨w.heap.size + 1, 1, none⟩ = some (.int .i64 0)) ∧
    (W1.frozen? ⟨w.heap.size + 1, 0, none⟩ = false ∧ W1.frozen? ⟨w.heap.size + 1, 1, none⟩ = false) ∧ Below w.heap.size w W1 :=
  ⟨_, rfl, ⟨by simp [go_sem], by simp [go_sem]⟩, ⟨by simp [go_sem], by simp [go_sem]⟩, ⟨by simp [go_sem], by simp [go_sem]⟩, balloc (bnew _ _) _⟩

set_option maxRecDepth 100000 in
set_option maxHeartbeats 2000000 in
theorem specDerivativeBy_no {n b a : Int} (h : isF n b = false) (w : World) :
    Calls Try.prog 15 #[.agg #[.int .i64 n, .int .i64 b], .int .i64 a] w fun e w' => e = .returned (.tuple #[.agg #[.int .i64 0, .int .i64 0], .int .i64 1]) ∧ Below w.heap.size w w' := by
  obtain ⟨W1, hW1, ⟨p0, p1⟩, ⟨c0, c1⟩, ⟨f0, f1⟩, hB⟩ := derBoxS n b w
  go_enter Try.func15, Try.ntmps15
  go_wp2_with (first
    | (go_at_call 46; refine (l01Is_is h _).mono ?_; rintro e w2 ⟨rfl, hb2⟩; have d0 := kc hb2 c0; have d1 := kc hb2 c1; have g0 := kf hb2 c0 f0; have g1 := kf hb2 c1 f1; have hB2 := bthen hB hb2))
  exact bodyPost_ret (v := .tuple #[.agg #[.int .i64 0, .int .i64 0], .int .i64 1]) (by simp [results, Try.results15, go_sem, d0, d1]) rfl ⟨rfl, (hB2.setCell (p := ⟨w.heap.size + 1, 0, none⟩) (by simp) _).setCell (p := ⟨w.heap.size + 1, 1, none⟩) (by simp) _⟩

set_option maxRecDepth 100000 in
set_option maxHeartbeats 4000000 in
theorem specDerivativeBy_out {n a : Int} {x R : Nat} (ok : FOk n x R) (hr : inB a 0 ((R : Int) - 1) = false) (w : World) :
    Calls Try.prog 15 #[.agg #[.int .i64 n, .int .i64 (x : Int)], .int .i64 a] w fun e w' => e = .returned (.tuple #[.agg #[.int .i64 0, .int .i64 0], .int .i64 2]) ∧ Below w.heap.size w w' := by
  have h := ok.is
  have r16 := ok.r16
  obtain ⟨W1, hW1, ⟨p0, p1⟩, ⟨c0, c1⟩, ⟨f0, f1⟩, hB⟩ := derBoxS n x w
  go_enter Try.func15, Try.ntmps15
  go_wp2_with (first
    | (go_at_call 46; refine (l01Is_is h _).mono ?_; rintro e w2 ⟨rfl, hb2⟩; have q0 := kc hb2 p0; have d0 := kc hb2 c0; have d1 := kc hb2 c1; have g0 := kf hb2 c0 f0; have g1 := kf hb2 c1 f1; have hB2 := bthen hB hb2)
    | (go_at_call 48; refine (l01Rows_is ok.h0 ok.h4 ok.hR _).mono ?_; rintro e w' ⟨rfl, rfl⟩)
    | (go_at_call 47; refine (l01In_is hr _).mono ?_; rintro e w' ⟨rfl, rfl⟩))
  exact bodyPost_ret (v := .tuple #[.agg #[.int .i64 0, .int .i64 0], .int .i64 2]) (by simp [results, Try.results15, go_sem, d0, d1]) rfl ⟨rfl, (hB2.setCell (p := ⟨w.heap.size + 1, 0, none⟩) (by simp) _).setCell (p := ⟨w.heap.size + 1, 1, none⟩) (by simp) _⟩

set_option maxRecDepth 100000 in
set_option maxHeartbeats 8000000 in
theorem specDerivativeBy_yes {n : Int} {x R a : Nat} (ok : FOk n x R) (ha : a < R) (w : World) :
    Calls Try.prog 15 #[.agg #[.int .i64 n, .int .i64 (x : Int)], .int .i64 (a : Int)] w fun e w' => e = .returned (.tuple #[.agg #[.int .i64 n, .int .i64 (sumN (derV x a) R : Int)], .int .i64 0]) ∧ Below w.heap.size w w' := by
  obtain ⟨i0, hi, hz0, hz1, hz2⟩ := info_parts infoI
  have h := ok.is
  have r0 := ok.r0
  have r16 := ok.r16
  have hin : inB (a : Int) 0 ((R : Int) - 1) = true := inB_true (by omega) (by omega)
  obtain ⟨W1, hW1, ⟨p0, p1⟩, ⟨c0, c1⟩, ⟨f0, f1⟩, hB⟩ := derBoxS n x w
  go_enter Try.func15, Try.ntmps15
  go_wp2_with (first
    | (go_at_call 46; refine (l01Is_is h _).mono ?_; rintro e w2 ⟨rfl, hb2⟩; have q0 := kc hb2 p0; have q1 := kc hb2 p1; have d0 := kc hb2 c0; have d1 := kc hb2 c1; have g0 := kf hb2 c0 f0; have g1 := kf hb2 c1 f1; have hB2 := bthen hB hb2)
    | (go_at_call 48; refine (l01Rows_is ok.h0 ok.h4 ok.hR _).mono ?_; rintro e w' ⟨rfl, rfl⟩)
    | (go_at_call 47; refine (l01In_is hin _).mono ?_; rintro e w' ⟨rfl, rfl⟩))
  clear hW1
  have hlt2 : w.heap.size < w2.heap.size := cell_lt q0
  have HC := Lib.hid (show (w2.cell? ⟨w.heap.size + 1, 0, none⟩ = some (.int .i64 0) ∧ w2.cell? ⟨w.heap.size + 1, 1, none⟩ = some (.int .i64 0)) ∧ (w2.frozen? ⟨w.heap.size + 1, 0, none⟩ = false ∧ w2.frozen? ⟨w.heap.size + 1, 1, none⟩ = false) from ⟨⟨d0, d1⟩, g0, g1⟩)
  clear d0 d1 g0 g1 p0 p1 c0 c1 f0 f1 hb2 hin
  go_loopw [6, 7] (fun s r' wr => ∃ k : Nat, k ≤ R ∧ r' = .int .i64 k ∧ Hid (Owns wr w2.heap.size s (natL (derV x a) k)) ∧ Below w2.heap.size w2 wr)
    (fun _ r' _ => R - (intOf r').toNat)
  case atStart => exact ⟨0, by omega, rfl, Lib.hid (World.ownsRow_lit w2 #[] 0 (Nat.le_refl _) (by decide) rfl), bnew _ _⟩
  case round =>
    obtain ⟨k, hk, rfl, HOWN, hN⟩ := hrel
    have hsz := hN.size
    have u0 := kc hN q0
    have u1 := kc hN q1
    by_cases hlt : k < R
    · have HX := xor_num k a (by omega) (by omega)
      have h4 : k ^^^ a < 2 ^ 4 := Nat.xor_lt_two_pow (show k < 2 ^ 4 by omega) (show a < 2 ^ 4 by omega)
      have b0 : 0 ≤ bits .xor .i64 (k : Int) (a : Int) := by rw [HX]; omega
      have b1 : bits .xor .i64 (k : Int) (a : Int) < 62 := by rw [HX]; omega
      have hq1 := bitN_le x ((k : Int)).toNat
      have hq2 := bitN_le x (bits .xor .i64 (k : Int) (a : Int)).toNat
      have hq3 := bitN_le x k
      have HV := Lib.hid (show (IntKind.i64.wrap ((bitN x k : Int) + (bitN x (bits .xor .i64 (k : Int) (a : Int)).toNat : Int))).tmod 2 = (derV x a k : Int) by
        rw [wrap64_small (by omega) (by omega), Int.tmod_eq_emod_of_nonneg (by omega), HX, Int.toNat_natCast]; unfold derV; omega)
      have hx := ok.hx
      have hlen := natL_len (derV x a) k
      have HS := Lib.hid (natL_succ (derV x a) k)
      clear HX h4
      go_wp2_with (go_at_call 48; refine (l01Rows_is ok.h0 ok.h4 ok.hR _).mono ?_; rintro e w' ⟨rfl, rfl⟩)
      have HD := Lib.hid (show Owns wr.drew w2.heap.size _ (natL (derV x a) k) from HOWN.out)
      have hND := hN.drew
      clear HOWN hN
      go_region_law (first
        | (refine step_append_own _ rfl _ _ 33 rfl w2.heap.size 2 i0 (.int .i64 0) 1 8 Try.underlying33 hi hz0 hz1 hz2 rfl (by decide) _ _ _ rfl (O6.alloc _) ⟨w5.heap.size, 0, none⟩ 1 1 [.int .i64 (derV x a k : Int)] rfl rfl (by rw [← HV.out]; exact cell_one_new _ _ _) (one_cell_int _) (by unfold maxLen; omega) (by omega) (by simp; omega) ?_; intro v' w1 hown' hgrow)
        | (go_simp; go_at_call 49; refine (l01At_int' _ _ hx _ (by omega) (by omega) _).mono ?_; rintro e w5 ⟨rfl, hb5⟩; (first | (with_reducible have O5 := Lib.hid (O5.out.below hb5)) | (have O5 := Lib.hid (HD.out.below hb5))); (first | (with_reducible have N5 := bthen N5 hb5) | (have N5 := bthen hND hb5)); (first | (with_reducible have u0 := kc hb5 u0) | (have u0 := kcd hb5 u0)); (first | (with_reducible have u1 := kc hb5 u1) | (have u1 := kcd hb5 u1)); have hs5 := N5.size; have O6 : World.ownsRow _ _ _ _ _ _ _ := O5.out))
      all_goals
        have hN' := (balloc N5 (.cells #[.int .i64 (derV x a k : Int)] 2)).grown (by rw [HV.out] at hgrow; exact hgrow) (by simp; omega) (fun j e => (O6.lt j e).1)
        clear hgrow O6 O5 N5
        go_wp2
        go_roundw
        case rel => exact ⟨k + 1, by omega, by go_num, Lib.hid (by rw [HS.out]; unfold Owns; rw [ints_snoc, List.length_append]; exact hown'), hN'⟩
        case measure => simp [intOf]; omega
    · obtain rfl : R = k := by omega
      obtain ⟨g, cap, rfl, hg, hc⟩ := owned_cells r0 HOWN.out
      obtain ⟨⟨d0, d1⟩, g0, g1⟩ := HC.out
      have v0 := kc hN d0
      have v1 := kc hN d1
      have y0 := kf hN d0 g0
      have y1 := kf hN d1 g1
      have hBr := bthen hB2 hN
      clear d0 d1 g0 g1 HOWN hN
      go_wp2_with (first
        | (go_at_call 48; refine (l01Rows_is ok.h0 ok.h4 ok.hR _).mono ?_; rintro e w' ⟨rfl, rfl⟩)
        | (go_at_call 50; refine (l01Of_any ok.h0 ok.h4 r0 r16 ok.hR g cap (derV x a) (fun r _ => derV_le _ _ _) _ hg hc).mono ?_; rintro e w6 ⟨rfl, hb6⟩; have o0 := kc hb6 v0; have o1 := kc hb6 v1; have i0 := kf hb6 v0 y0; have i1 := kf hb6 v1 y1; have hB6 := bthen hBr hb6; clear v0 v1 y0 y1))
      exact bodyPost_ret (v := .tuple #[.agg #[.int .i64 n, .int .i64 (sumN (derV x a) R : Int)], .int .i64 0]) (by simp [results, Try.results15, go_sem, o0, o1]) rfl ⟨rfl, (hB6.setCell (p := ⟨w.heap.size + 1, 0, none⟩) (by simp) _).setCell (p := ⟨w.heap.size + 1, 1, none⟩) (by simp) _⟩

theorem bothDerivativeBy (n b a : Int) (_ : (Lit.int .i64 n).wf = true) (_ : (Lit.int .i64 b).wf = true) (_ : (Lit.int .i64 a).wf = true) : ∃ rn rb rc : Int,
    (∀ w, Calls Try.prog 15 #[.agg #[.int .i64 n, .int .i64 b], .int .i64 a] w fun e w' => e = .returned (.tuple #[.agg #[.int .i64 rn, .int .i64 rb], .int .i64 rc]) ∧ Below w.heap.size w w') ∧
    (∀ w, Calls Try.prog 17 #[.agg #[.int .i64 n, .int .i64 b], .int .i64 a] w fun e w' => e = .returned (.tuple #[.agg #[.int .i64 rn, .int .i64 rb], .int .i64 rc]) ∧ Below w.heap.size w w') := by
  cases h : isF n b
  · exact ⟨_, _, _, specDerivativeBy_no h, implDerivativeBy_no h⟩
  · obtain ⟨x, R, rfl, ok⟩ := fok h
    cases hr : inB a 0 ((R : Int) - 1)
    · exact ⟨_, _, _, specDerivativeBy_out ok hr, implDerivativeBy_out ok hr⟩
    · have h2 : 0 ≤ a ∧ a ≤ (R : Int) - 1 := by simpa [inB] using hr
      obtain ⟨c, rfl⟩ := Int.eq_ofNat_of_zero_le h2.1
      exact ⟨_, _, _, specDerivativeBy_yes ok (by omega), implDerivativeBy_yes ok (by omega)⟩
end Go.Proofs.Ytcolaggkeekgoaa

/- MO17:
  LevelsOf of the model; the mathematics of levels. -/
namespace Go.Proofs.Ytcolaggkeekgoaa
open Go.RowKit
set_option linter.unusedVariables false
set_option linter.unusedSimpArgs false

/-- All rows of a size have one value. -/
def symB (x R : Nat) : Bool := allLt R fun r => bitN x r == lev x (sizeN r)
theorem symB_iff {x R : Nat} : symB x R = true ↔ ∀ r, r < R → bitN x r = lev x (sizeN r) := by unfold symB; rw [allLt_iff]; simp
theorem lev_le (x s : Nat) : lev x s ≤ 1 := bitN_le _ _
theorem size_full : ∀ s, s ≤ 4 → sizeN (2 ^ s - 1) = s := by
  intro s hs
  rcases (show s = 0 ∨ s = 1 ∨ s = 2 ∨ s = 3 ∨ s = 4 by omega) with rfl | rfl | rfl | rfl | rfl <;> decide
theorem full_lt {s m R : Nat} (hs : s ≤ m) (he : R = 2 ^ m) : 2 ^ s - 1 < R := by
  have := Nat.pow_le_pow_right (show 1 ≤ 2 by decide) hs
  have := Nat.pow_pos (n := s) (show 0 < 2 by decide)
  omega

theorem mem_upto {R : Nat} (h : 0 < R) (r : Nat) (hr : r < R) : ∃ y : Row R, y ∈ upto h R ∧ y.1 = r := ⟨rowAt h r, List.mem_map.2 ⟨r, List.mem_range.2 hr, rfl⟩, rowAt_val h hr⟩

theorem loF_one {R : Nat} (r0 : 0 < R) {m x s : Nat} (hs : s ≤ m) : loF m x (upto r0 R) s = 1 ↔ ∀ r, r < R → sizeN r = s → bitN x r = 1 := by
  unfold loF
  rw [if_pos hs]
  have e : ∀ b : Bool, b.toNat = 1 ↔ b = true := by decide
  rw [e, List.all_eq_true]
  constructor
  · intro h r hr hrs
    obtain ⟨y, hy, rfl⟩ := mem_upto r0 r hr
    have := h y hy
    simpa [hrs] using this
  · intro h y _
    by_cases e : sizeN y.1 = s
    · have := h y.1 y.2 e
      simp [this]
    · simp [e]
theorem hiF_one {R : Nat} (r0 : 0 < R) {x s : Nat} : hiF x (upto r0 R) s = 1 ↔ ∃ r, r < R ∧ sizeN r = s ∧ bitN x r = 1 := by
  unfold hiF
  have e : ∀ b : Bool, b.toNat = 1 ↔ b = true := by decide
  rw [e, List.any_eq_true]
  constructor
  · rintro ⟨y, hy, h⟩
    exact ⟨y.1, y.2, by simpa using h⟩
  · rintro ⟨r, hr, hrs, hb⟩
    obtain ⟨y, hy, rfl⟩ := mem_upto r0 r hr
    exact ⟨y, hy, by simp [hrs, hb]⟩

theorem sym_yes {R m x : Nat} (r0 : 0 < R) (h4 : m ≤ 4) (he : R = 2 ^ m) (h : symB x R = true) : ∀ s, s < 5 → loF m x (upto r0 R) s = hiF x (upto r0 R) s ∧ (s < m + 1 → loF m x (upto r0 R) s = lev x s) := by
  intro s hs5
  have H := symB_iff.1 h
  have l1 := loF_le m x (upto r0 R) s
  have u1 := hiF_le x (upto r0 R) s
  have v1 := lev_le x s
  by_cases hsm : s ≤ m
  · have F1 := size_full s (by omega)
    have F2 := full_lt hsm he
    rcases (show lev x s = 1 ∨ lev x s = 0 by omega) with hv | hv
    · have A : loF m x (upto r0 R) s = 1 := (loF_one r0 hsm).2 fun r hr hrs => by rw [H r hr, hrs, hv]
      have B : hiF x (upto r0 R) s = 1 := (hiF_one r0).2 ⟨_, F2, F1, hv⟩
      exact ⟨by omega, fun _ => by omega⟩
    · have A : ¬ loF m x (upto r0 R) s = 1 := fun c => by
        have := (loF_one r0 hsm).1 c _ F2 F1
        unfold lev at hv
        omega
      have B : ¬ hiF x (upto r0 R) s = 1 := fun c => by
        obtain ⟨r, hr, hrs, hb⟩ := (hiF_one r0).1 c
        rw [H r hr, hrs, hv] at hb
        omega
      exact ⟨by omega, fun _ => by omega⟩
  · have A : loF m x (upto r0 R) s = 0 := by unfold loF; rw [if_neg hsm]
    have B : ¬ hiF x (upto r0 R) s = 1 := fun c => by
      obtain ⟨r, hr, hrs, hb⟩ := (hiF_one r0).1 c
      have := size_lt m (by omega) r (by rw [← he]; exact hr)
      omega
    exact ⟨by omega, fun c => absurd c (by omega)⟩
theorem sym_no {R m x : Nat} (r0 : 0 < R) (h4 : m ≤ 4) (he : R = 2 ^ m) (h : symB x R = false) : ¬ ∀ s, s < 5 → loF m x (upto r0 R) s = hiF x (upto r0 R) s := by
  intro hall
  have : symB x R = true := symB_iff.2 fun r hr => by
    have hs := size_lt m (by omega) r (by rw [← he]; exact hr)
    have E := hall (sizeN r) (by omega)
    have F1 := size_full (sizeN r) (by omega)
    have F2 := full_lt hs he
    have b1 := bitN_le x r
    have v1 := lev_le x (sizeN r)
    have l1 := loF_le m x (upto r0 R) (sizeN r)
    rcases (show loF m x (upto r0 R) (sizeN r) = 1 ∨ loF m x (upto r0 R) (sizeN r) = 0 by omega) with c | c
    · have A := (loF_one r0 hs).1 c
      have a1 := A r hr rfl
      have a2 := A _ F2 F1
      unfold lev
      omega
    · have B : ∀ q, q < R → sizeN q = sizeN r → bitN x q = 0 := fun q hq hqs => by
        have := bitN_le x q
        rcases (show bitN x q = 1 ∨ bitN x q = 0 by omega) with d | d
        · have := (hiF_one r0).2 ⟨q, hq, hqs, d⟩
          omega
        · exact d
      have a1 := B r hr rfl
      have a2 := B _ F2 F1
      unfold lev
      omega
  rw [this] at h
  cases h

/- slices.Clone -/
theorem eql_nil_ints (w : World) (a : Addr) (n c : Nat) : (binOp .eql 33 (.slice (some a) n c) (.slice none 0 0)).run Try.prog w = .ok (.bool false) w := Go.Lib.run_eql_slice_some_nil w a n c Try.underlying33
attribute [local go_sem] eql_nil_ints

set_option maxRecDepth 100000 in
set_option maxHeartbeats 2000000 in
theorem slicesClone_any {g m cap : Nat} (v : Nat → Nat) (hm : m ≤ 5) (w : World) (hg : g < w.heap.size) (hc : ∀ j, j < m → w.cell? ⟨g, j, none⟩ = some (.int .i64 (v j : Int))) :
    Calls Try.prog 78 #[.slice (some ⟨g, 0, none⟩) m cap] w fun e w' => ∃ s, e = .returned s ∧ Owns w' w.heap.size s (natL v m) ∧ Below w.heap.size w w' := by
  obtain ⟨i0, hi, hz0, hz1, hz2⟩ := info_parts infoI
  have HC := Lib.hid hc
  have HIN : Hid (ints (natL v m) = (List.range m).map fun j => Value.int .i64 (v j : Int)) := Lib.hid (by simp [ints, natL])
  clear hc
  have hn : (ints (natL v m)).length = m * 1 := by rw [HIN.out]; simp
  go_enter Try.func78, Try.ntmps78
  go_wp2_with (at_builtin; refine wpList_append_own _ rfl _ _ 33 rfl w.heap.size 2 i0 (.int .i64 0) 1 8 Try.underlying33 hi hz0 hz1 hz2 rfl (by decide) _ 0 [] rfl (World.ownsRow_lit w #[] 0 (Nat.le_refl _) (by decide) rfl) ⟨g, 0, none⟩ m cap (ints (natL v m)) rfl hn ?cells ?one (by unfold maxLen; omega) (by omega) (by simp) ?_)
  case cells =>
    intro j u hj
    rw [HIN.out] at hj
    have hjm : j < m := by
      have := (List.getElem?_eq_some_iff.1 hj).1
      simpa using this
    have hu : u = .int .i64 (v j : Int) := by simpa [hjm] using hj.symm
    rw [hu]
    rw [show (⟨g, 0, none⟩ : Addr).add j = ⟨g, j, none⟩ by simp [Addr.add]; omega]
    exact kc (bnew _ _) (HC.out j hjm)
  case one =>
    intro u hu
    rw [HIN.out, List.mem_map] at hu
    obtain ⟨j, _, rfl⟩ := hu
    rfl
  intro v' w1 hown hgrow _
  have hB : Below w.heap.size w w1 := (bnew w (.cells #[] 2)).grown hgrow (by simp) (fun j e => by cases e; exact Nat.le_refl _)
  go_wp2
  go_ret
  exact ⟨_, rfl, by unfold Owns; rw [natL_len]; exact hown, hB⟩
end Go.Proofs.Ytcolaggkeekgoaa

/- MO18:
  LevelsOf of the model. -/
namespace Go.Proofs.Ytcolaggkeekgoaa
open Go.RowKit
set_option linter.unusedVariables false
set_option linter.unusedSimpArgs false

set_option maxRecDepth 100000 in
set_option maxHeartbeats 2000000 in
theorem specLevelsOf_no {n b : Int} (h : isF n b = false) (w : World) :
    Calls Try.prog 39 #[.agg #[.int .i64 n, .int .i64 b]] w (ListCodePost w.heap.size [] 1 w) := by
  go_enter Try.func39, Try.ntmps39
  go_wp2_with (go_at_call 46; refine (l01Is_is h _).mono ?_; rintro e w2 ⟨rfl, hb2⟩)
  go_ret2
  exact ⟨_, rfl, Owns.nil _ _, bthen (bnew _ _) hb2⟩

set_option maxRecDepth 100000 in
set_option maxHeartbeats 8000000 in
theorem specLevelsOf_yes {n : Int} {x R m : Nat} (ok : FOk n x R) (hm : n = (m : Int)) (L : List Int) (c : Int) (HL1 : Hid (symB x R = true → L = natL (lev x) (m + 1) ∧ c = 0)) (HL2 : Hid (symB x R = false → L = [] ∧ c = 5)) (w : World) :
    Calls Try.prog 39 #[.agg #[.int .i64 n, .int .i64 (x : Int)]] w (ListCodePost w.heap.size L c w) := by
  obtain ⟨i0, hi, hz0, hz1, hz2⟩ := info_parts infoI
  subst hm
  have h := ok.is
  have r0 := ok.r0
  have r16 := ok.r16
  have hx := ok.hx
  have m4 : m ≤ 4 := by have := ok.h4; omega
  have HSZ := Lib.hid (fun (r : Nat) (hr : r < R) => (size_lt m (by omega) r (by have := ok.he; rw [show ((m : Int)).toNat = m by omega] at this; rw [← this]; exact hr) : sizeN r ≤ m))
  have RW := Lib.hid (fun W => l01Rows_is ok.h0 ok.h4 ok.hR W)
  obtain ⟨W1, hW1⟩ : ∃ W1, w.alloc (.cells #[.int .i64 (m : Int), .int .i64 (x : Int)] 24) = W1 := ⟨_, rfl⟩
  have p0 : W1.cell? ⟨w.heap.size, 0, none⟩ = some (.int .i64 (m : Int)) := by rw [← hW1]; simp [go_sem]
  have p1 : W1.cell? ⟨w.heap.size, 1, none⟩ = some (.int .i64 (x : Int)) := by rw [← hW1]; simp [go_sem]
  have hB : Below w.heap.size w W1 := by rw [← hW1]; exact bnew _ _
  go_enter Try.func39, Try.ntmps39
  go_wp2_with (go_at_call 46; refine (l01Is_is h _).mono ?_; rintro e w2 ⟨rfl, hb2⟩; have q0 := kc hb2 p0; have q1 := kc hb2 p1; have hB2 := bthen hB hb2)
  clear hW1 p0 p1 hb2
  have hlt2 : w.heap.size < w2.heap.size := cell_lt q0
  go_loopw [4, 5] (fun s r' wr => ∃ k : Nat, k ≤ m + 1 ∧ r' = .int .i64 k ∧ Hid (Owns wr w2.heap.size s (natL (lev x) k)) ∧ Below w2.heap.size w2 wr)
    (fun _ r' _ => m + 1 - (intOf r').toNat)
  case atStart => exact ⟨0, by omega, rfl, Lib.hid (World.ownsRow_lit w2 #[] 0 (Nat.le_refl _) (by decide) rfl), bnew _ _⟩
  case round =>
    obtain ⟨k, hk, rfl, HOWN, hN⟩ := hrel
    have hsz := hN.size
    have u0 := kc hN q0
    have u1 := kc hN q1
    by_cases hlt : k < m + 1
    · obtain ⟨R2, hR2, r20, r216, he2⟩ := rowsN_eq (n := (k : Int)) (by omega) (by omega)
      have RK := Lib.hid (fun W => l01Rows_is (n := (k : Int)) (by omega) (by omega) (Lib.hid hR2) W)
      have hwr : IntKind.i64.wrap ((R2 : Int) - 1) = (R2 : Int) - 1 := wrap64_small (by omega) (by omega)
      have HV : Hid (bitN x (IntKind.i64.wrap ((R2 : Int) - 1)).toNat = lev x k) := Lib.hid (by
        unfold lev
        rw [hwr, show ((R2 : Int) - 1).toNat = R2 - 1 by omega, he2, show ((k : Int)).toNat = k by omega])
      have b0 : 0 ≤ IntKind.i64.wrap ((R2 : Int) - 1) := by rw [hwr]; omega
      have b1 : IntKind.i64.wrap ((R2 : Int) - 1) < 62 := by rw [hwr]; omega
      have hlen := natL_len (lev x) k
      have HS := Lib.hid (natL_succ (lev x) k)
      clear hR2 he2 hwr r20 r216
      go_wp2
      have HD := Lib.hid (show Owns wr.drew w2.heap.size _ (natL (lev x) k) from HOWN.out)
      have hND := hN.drew
      have d0 := (cell_drew_own wr _).trans u0
      have d1 := (cell_drew_own wr _).trans u1
      clear HOWN hN
      go_region_law (first
        | (refine step_append_own _ rfl _ _ 33 rfl w2.heap.size 2 i0 (.int .i64 0) 1 8 Try.underlying33 hi hz0 hz1 hz2 rfl (by decide) _ _ _ rfl (O6.alloc _) ⟨w5.heap.size, 0, none⟩ 1 1 [.int .i64 (lev x k : Int)] rfl rfl (by rw [← HV.out]; exact cell_one_new _ _ _) (one_cell_int _) (by unfold maxLen; omega) (by omega) (by simp; omega) ?_; intro v' w1 hown' hgrow)
        | (go_simp; go_at_call 48; refine (RK.out _).mono ?_; rintro e w' ⟨rfl, rfl⟩)
        | (go_simp; go_at_call 49; refine (l01At_int' _ _ hx _ (by omega) (by omega) _).mono ?_; rintro e w5 ⟨rfl, hb5⟩; have N5 := bthen hND hb5; have hs5 := N5.size; have O6 : World.ownsRow _ _ _ _ _ _ _ := HD.out.below hb5))
      all_goals
        have hN' := (balloc N5 (.cells #[.int .i64 (lev x k : Int)] 2)).grown (by rw [HV.out] at hgrow; exact hgrow) (by simp; omega) (fun j e => (O6.lt j e).1)
        clear hgrow O6 N5
        go_wp2
        go_roundw
        case rel => exact ⟨k + 1, by omega, by go_num, Lib.hid (by rw [HS.out]; unfold Owns; rw [ints_snoc, List.length_append]; exact hown'), hN'⟩
        case measure => simp [intOf]; omega
    · have HK : Hid (k = m + 1) := Lib.hid (by omega)
      have HOWN0 := HOWN
      obtain ⟨g, cap, rfl, hg, hc⟩ := owned_cells (by omega) HOWN.out
      have hBN := bthen hB2 hN
      have hdec : decide ((k : Int) ≤ (m : Int)) = false := decide_eq_false (by omega)
      have hdec2 : decide (k ≤ m) = false := decide_eq_false (by omega)
      go_wp2
      clear hdec hdec2
      clear HOWN hN
      go_loopw [6] (fun r' w4 => ∃ r : Nat, r ≤ R ∧ r' = .int .i64 r ∧ Hid (∀ j, j < r → bitN x j = lev x (sizeN j)) ∧ Below wr.heap.size wr w4) (fun r' _ => R - (intOf r').toNat)
      case atStart => exact ⟨0, by omega, rfl, Lib.hid (fun j hj => absurd hj (Nat.not_lt_zero _)), Below.refl _ _⟩
      case round =>
        obtain ⟨r, hr, rfl, HJ, hN4⟩ := hrel
        have y0 := kc hN4 u0
        have y1 := kc hN4 u1
        by_cases hlt2 : r < R
        · have hsz2 := HSZ.out r hlt2
          have hcell := kc hN4 (hc.out (sizeN r) (by omega))
          have AT := Lib.hid (fun W => l01At_any (m : Int) x r hx (by omega) W)
          have SZ := Lib.hid (fun W => l03Size_any r (by omega) W)
          have v1 := bitN_le x r
          have v2 := lev_le x (sizeN r)
          have HNX : bitN x r = lev x (sizeN r) → Hid (∀ j, j < r + 1 → bitN x j = lev x (sizeN j)) := fun e => Lib.hid fun j hj => by
            by_cases hjr : j = r
            · rw [hjr, e]
            · exact HJ.out j (by omega)
          have HNO : bitN x r ≠ lev x (sizeN r) → Hid (L = [] ∧ c = 5) := fun e => Lib.hid (HL2.out (by
            cases hs : symB x R
            · rfl
            · exact absurd (symB_iff.1 hs r hlt2) e))
          have hBN4 := bthen hBN hN4
          generalize sizeN r = sz at hsz2 hcell SZ v2 HNX HNO
          generalize lev x sz = lv at hcell v2 HNX HNO
          generalize bitN x r = bv at AT v1 HNX HNO
          clear hc HJ HOWN0
          go_wp2_with (first
            | (go_at_call 48; refine (RW.out _).mono ?_; rintro e w' ⟨rfl, rfl⟩)
            | (go_at_call 76; refine (SZ.out _).mono ?_; rintro e w' ⟨rfl, rfl⟩)
            | (go_at_call 49; refine (AT.out _).mono ?_; rintro e w5 ⟨rfl, hb5⟩; have c5 := kc hb5 hcell; have N5 := bthen hN4 hb5; have M5 := bthen hBN4 hb5))
          · rename_i hne
            have e : bv ≠ lv := by
              intro e
              rw [e] at hne
              simp at hne
            have HL := (HNO e).out
            go_ret2
            rw [HL.1, HL.2]
            exact ⟨_, rfl, Owns.nil _ _, M5⟩
          · rename_i hne
            have e : bv = lv := by
              have : (bv : Int) = (lv : Int) := by simpa using hne
              omega
            have HX := HNX e
            go_roundw
            case rel => exact ⟨r + 1, by omega, by go_num, HX, N5⟩
            case measure => simp [intOf]; omega
        · obtain rfl : r = R := by omega
          have HL := HL1.out (symB_iff.2 HJ.out)
          have hO := Lib.hid ((HOWN0.out.mono hB2.size).below hN4)
          have hBE := bthen hBN hN4
          clear HOWN0 hc HJ hN4
          go_wp2_with (go_at_call 48; refine (RW.out _).mono ?_; rintro e w' ⟨rfl, rfl⟩)
          go_ret2
          rw [HL.1, HL.2, ← HK.out]
          exact ⟨_, rfl, hO.out, hBE⟩
end Go.Proofs.Ytcolaggkeekgoaa

/- MO19:
  LevelsOf of the program, and both. -/
namespace Go.Proofs.Ytcolaggkeekgoaa
open Go.RowKit
set_option linter.unusedVariables false
set_option linter.unusedSimpArgs false

def eq5 (a b : Nat → Nat) : Bool := (a 0 == b 0) && ((a 1 == b 1) && ((a 2 == b 2) && ((a 3 == b 3) && (a 4 == b 4))))
theorem eq5_iff (a b : Nat → Nat) : eq5 a b = true ↔ ∀ s, s < 5 → a s = b s := by
  unfold eq5
  simp only [Bool.and_eq_true, beq_iff_eq]
  constructor
  · rintro ⟨h0, h1, h2, h3, h4⟩ s hs
    rcases (show s = 0 ∨ s = 1 ∨ s = 2 ∨ s = 3 ∨ s = 4 by omega) with rfl | rfl | rfl | rfl | rfl <;> assumption
  · intro h
    exact ⟨h 0 (by decide), h 1 (by decide), h 2 (by decide), h 3 (by decide), h 4 (by decide)⟩

theorem equal_ints (w : World) (d : Nat) (a b : Nat) : (Op.equalIn (d + 1) 2 (.int .i64 (a : Int)) (.int .i64 (b : Int))).run Try.prog w = .ok (a == b) w := by
  have h : ((a : Int) == (b : Int)) = (a == b) := by
    rw [Bool.eq_iff_iff, beq_iff_eq, beq_iff_eq]; omega
  simp [Op.equalIn, run_underlying Try.underlying2, h]

theorem items_step (d : Nat) (xs ys : Array Value) (j p q : Nat) (is : List Nat) (w : World) (hx : xs[j]? = some (.int .i64 (p : Int))) (hy : ys[j]? = some (.int .i64 (q : Int))) :
    (Op.eqItems (d + 1) 2 1 xs ys (j :: is)).run Try.prog w = if (p == q) = true then (Op.eqItems (d + 1) 2 1 xs ys is).run Try.prog w else .ok false w := by
  have hp : Try.prog.plainKey 2 = true := by kernel_rfl
  have P : ∀ (xs : Array Value) (j : Nat) (v : Value), xs[j]? = some v → (part 2 xs j).run Try.prog w = .ok v w := fun xs j v hx => run_part_plain w hp hx
  simp only [Op.eqItems, Sem.run_bind, Nat.mul_one]
  rw [P _ j _ hx]
  simp only [Result.andThen_ok]
  rw [P _ j _ hy]
  simp only [Result.andThen_ok, equal_ints]
  cases p == q <;> simp

theorem neq_arr5 (a b : Nat → Nat) (w : World) : (binOp .neq 73 (arr5 a) (arr5 b)).run Try.prog w = .ok (.bool (!(eq5 a b))) w := by
  obtain ⟨i0, hi, hz0, hz1, hz2⟩ := info_parts infoI
  have hc : Try.prog.cellsOf 2 = 1 := by kernel_rfl
  have h : ∀ d : Nat, (Op.equalIn (d + 1 + 1) 73 (arr5 a) (arr5 b)).run Try.prog w = .ok (eq5 a b) w := fun d => by
    unfold arr5
    rw [run_equalIn_array w (d + 1) _ _ Try.underlying73 hi, hc, show List.range 5 = [0, 1, 2, 3, 4] from rfl,
      items_step d _ _ 0 (a 0) (b 0) _ w rfl rfl, items_step d _ _ 1 (a 1) (b 1) _ w rfl rfl, items_step d _ _ 2 (a 2) (b 2) _ w rfl rfl, items_step d _ _ 3 (a 3) (b 3) _ w rfl rfl, items_step d _ _ 4 (a 4) (b 4) _ w rfl rfl]
    unfold eq5
    simp only [Op.eqItems]
    cases a 0 == b 0 <;> cases a 1 == b 1 <;> cases a 2 == b 2 <;> cases a 3 == b 3 <;> cases a 4 == b 4 <;> simp
  unfold arr5 at h ⊢
  simp only [binOp]
  simp only [Op.equal, Op.maxDepth, Sem.run_bind]
  rw [h 9998]
  simp

theorem slice_lev (m g : Nat) (hm : m ≤ 4) (w : World) : (Instr.sliceAt 73 (.pointer (some ⟨g, 0, none⟩)) none (some (.int .i64 ((m : Int) + 1))) none).run Try.prog w = .ok (.slice (some ⟨g, 0, none⟩) (m + 1) 5) w := by
  obtain ⟨i0, hi, hz0, hz1, hz2⟩ := info_parts infoI
  have hl : Try.prog.arrayLen 73 = 5 := by kernel_rfl
  have he : Try.prog.elem 73 = 2 := by kernel_rfl
  have hu : Try.prog.underlying 73 = some (.array (Try.prog.arrayLen 73) (Try.prog.elem 73)) := by rw [hl, he]; exact Try.underlying73
  rw [run_sliceAt_array_h w _ _ hu .i64 ((m : Int) + 1) (by omega) (by rw [hl]; omega), hl, he, run_sizeOf w hi]
  have e : ((m : Int) + 1).toNat = m + 1 := by omega
  have e2 : (⟨g, 0, none⟩ : Addr).add (0 * Try.prog.cellsOf 2) = ⟨g, 0, none⟩ := by simp [Addr.add]
  simp only [Result.andThen_ok, slicedAt, e, e2, Nat.sub_zero]
  split <;> rfl

set_option maxRecDepth 100000 in
set_option maxHeartbeats 2000000 in
theorem implLevelsOf_no {n b : Int} (h : isF n b = false) (w : World) :
    Calls Try.prog 40 #[.agg #[.int .i64 n, .int .i64 b]] w (ListCodePost w.heap.size [] 1 w) := by
  go_enter Try.func40, Try.ntmps40
  go_wp2_with (go_at_call 51; refine (IsFunc_is h _).mono ?_; rintro e w2 ⟨rfl, hb2⟩)
  go_ret2
  exact ⟨_, rfl, Owns.nil _ _, bthen (bnew _ _) hb2⟩

set_option maxRecDepth 100000 in
set_option maxHeartbeats 8000000 in
theorem implLevelsOf_state {m x R : Nat} (ok : FOk (m : Int) x R) (hs : symB x R = false) (w : World) :
    Calls Try.prog 40 #[.agg #[.int .i64 (m : Int), .int .i64 (x : Int)]] w (ListCodePost w.heap.size [] 5 w) := by
  have h := ok.is
  have m4 : m ≤ 4 := by have := ok.h4; omega
  have hmn : ((m : Int)).toNat = m := by omega
  have LB0 := fun W => levelBounds_any ok W
  have NO := sym_no ok.r0 m4 (by have := ok.he; rwa [hmn] at this) hs
  rw [hmn] at LB0
  generalize loF m x (upto ok.r0 R) = lo at LB0 NO
  generalize hiF x (upto ok.r0 R) = hh at LB0 NO
  have NEQ := fun w => neq_arr5 lo hh w
  rw [show eq5 lo hh = false from Bool.eq_false_iff.2 fun e => NO ((eq5_iff _ _).1 e)] at NEQ
  unfold arr5 at LB0 NEQ
  have LB := Lib.hid LB0
  clear LB0 NO hs hmn
  obtain ⟨W1, hW1⟩ : ∃ W1, w.alloc (.cells #[.int .i64 (m : Int), .int .i64 (x : Int)] 24) = W1 := ⟨_, rfl⟩
  have p0 : W1.cell? ⟨w.heap.size, 0, none⟩ = some (.int .i64 (m : Int)) := by rw [← hW1]; simp [go_sem]
  have p1 : W1.cell? ⟨w.heap.size, 1, none⟩ = some (.int .i64 (x : Int)) := by rw [← hW1]; simp [go_sem]
  have hB : Below w.heap.size w W1 := by rw [← hW1]; exact bnew _ _
  go_enter Try.func40, Try.ntmps40
  go_wp2_with (first
    | (go_at_call 51; refine (IsFunc_is h _).mono ?_; rintro e w2 ⟨rfl, hb2⟩; have q0 := kc hb2 p0; have q1 := kc hb2 p1; have hB2 := bthen hB hb2)
    | (go_at_call 77; refine (LB.out _).mono ?_; rintro e w3 ⟨rfl, hb3⟩; have o0 := kc hb3 q0; have o1 := kc hb3 q1; have hB3 := bthen hB2 hb3))
  go_ret2
  exact ⟨_, rfl, Owns.nil _ _, balloc (balloc hB3 _) _⟩
set_option maxRecDepth 100000 in
set_option maxHeartbeats 8000000 in
theorem implLevelsOf_yes {m x R : Nat} (ok : FOk (m : Int) x R) (hs : symB x R = true) (w : World) :
    Calls Try.prog 40 #[.agg #[.int .i64 (m : Int), .int .i64 (x : Int)]] w (ListCodePost w.heap.size (natL (lev x) (m + 1)) 0 w) := by
  have h := ok.is
  have m4 : m ≤ 4 := by have := ok.h4; omega
  have SLI := fun g w => slice_lev m g m4 w
  have hmn : ((m : Int)).toNat = m := by omega
  have LB0 := fun W => levelBounds_any ok W
  have YES := sym_yes ok.r0 m4 (by have := ok.he; rwa [hmn] at this) hs
  rw [hmn] at LB0
  generalize loF m x (upto ok.r0 R) = lo at LB0 YES
  generalize hiF x (upto ok.r0 R) = hh at LB0 YES
  have NEQ := fun w => neq_arr5 lo hh w
  rw [show eq5 lo hh = true from (eq5_iff _ _).2 fun s hs => (YES s hs).1] at NEQ
  rw [← natL_congr (v := lo) (u := lev x) (k := m + 1) fun s hs => (YES s (by omega)).2 hs]
  unfold arr5 at LB0 NEQ
  have LB := Lib.hid LB0
  clear LB0 YES hs hmn
  obtain ⟨W1, hW1⟩ : ∃ W1, w.alloc (.cells #[.int .i64 (m : Int), .int .i64 (x : Int)] 24) = W1 := ⟨_, rfl⟩
  have p0 : W1.cell? ⟨w.heap.size, 0, none⟩ = some (.int .i64 (m : Int)) := by rw [← hW1]; simp [go_sem]
  have p1 : W1.cell? ⟨w.heap.size, 1, none⟩ = some (.int .i64 (x : Int)) := by rw [← hW1]; simp [go_sem]
  have hB : Below w.heap.size w W1 := by rw [← hW1]; exact bnew _ _
  go_enter Try.func40, Try.ntmps40
  go_wp2_with (first
    | (go_at_call 51; refine (IsFunc_is h _).mono ?_; rintro e w2 ⟨rfl, hb2⟩; have q0 := kc hb2 p0; have q1 := kc hb2 p1; have hB2 := bthen hB hb2)
    | (go_at_call 77; refine (LB.out _).mono ?_; rintro e w3 ⟨rfl, hb3⟩; have o0 := kc hb3 q0; have o1 := kc hb3 q1; have hB3 := bthen hB2 hb3; have hlt3 := cell_lt o0; have n1 : ¬ w.heap.size = w3.heap.size := Nat.ne_of_lt hlt3; have n2 : ¬ w.heap.size = w3.heap.size + 1 := Nat.ne_of_lt (Nat.lt_succ_of_lt hlt3)))
  have hN := balloc (balloc hB3 (.cells #[.int .i64 (lo 0 : Int), .int .i64 (lo 1 : Int), .int .i64 (lo 2 : Int), .int .i64 (lo 3 : Int), .int .i64 (lo 4 : Int)] 73)) (.cells #[.int .i64 (hh 0 : Int), .int .i64 (hh 1 : Int), .int .i64 (hh 2 : Int), .int .i64 (hh 3 : Int), .int .i64 (hh 4 : Int)] 73)
  refine (slicesClone_any (g := w3.heap.size) (m := m + 1) (cap := 5) lo (by omega) _ ?_ (fun j hj => ?_)).mono ?_
  · simp; omega
  · rcases (show j = 0 ∨ j = 1 ∨ j = 2 ∨ j = 3 ∨ j = 4 by omega) with rfl | rfl | rfl | rfl | rfl <;> simp [go_sem]
  · rintro e w5 ⟨s5, rfl, ho5, hb5⟩
    have hBE := bthen hN hb5
    have ho6 := ho5.mono hN.size
    clear ho5 hb5 hN
    go_wp2
    go_ret2
    exact ⟨_, rfl, ho6, hBE⟩

theorem bothLevelsOf (n b : Int) (_ : (Lit.int .i64 n).wf = true) (_ : (Lit.int .i64 b).wf = true) : ∃ (xs : List Int) (rc : Int), xs.length ≤ 1000 ∧
    (∀ w, Calls Try.prog 39 #[.agg #[.int .i64 n, .int .i64 b]] w (ListCodePost w.heap.size xs rc w)) ∧
    (∀ w, Calls Try.prog 40 #[.agg #[.int .i64 n, .int .i64 b]] w (ListCodePost w.heap.size xs rc w)) := by
  cases h : isF n b
  · exact ⟨_, _, by simp, specLevelsOf_no h, implLevelsOf_no h⟩
  · obtain ⟨x, R, rfl, ok⟩ := fok h
    obtain ⟨m, rfl⟩ : ∃ m : Nat, n = (m : Int) := Int.eq_ofNat_of_zero_le ok.h0
    have h4 := ok.h4
    cases hs : symB x R
    · exact ⟨_, _, by simp, specLevelsOf_yes ok rfl [] 5 (Lib.hid fun e => by rw [hs] at e; cases e) (Lib.hid fun _ => ⟨rfl, rfl⟩), implLevelsOf_state ok hs⟩
    · exact ⟨_, _, by rw [natL_len]; omega, specLevelsOf_yes ok rfl (natL (lev x) (m + 1)) 0 (Lib.hid fun _ => ⟨rfl, rfl⟩) (Lib.hid fun e => by rw [hs] at e; cases e), implLevelsOf_yes ok hs⟩
end Go.Proofs.Ytcolaggkeekgoaa

/- FLevelsOf:
  The walk of the law on LevelsOf: both packages answer alike, and each answer has memory of its own. -/
namespace Go.Proofs.Ytcolaggkeekgoaa
open Go.RowKit

set_option maxRecDepth 100000 in
set_option maxHeartbeats 4000000 in
theorem fnExactLevelsOf_walk (n0 b0 : Int) (w : World) (wn0 : (Lit.int .i64 n0).wf = true) (wb0 : (Lit.int .i64 b0).wf = true) :
    Calls Try.prog 12 #[.agg #[.int .i64 n0, .int .i64 b0]] w fun e w' => e = .returned (.bool true) ∧ Below w.heap.size w w' := by
  obtain ⟨xs, rc, hlen, c1, c2⟩ := bothLevelsOf n0 b0 wn0 wb0
  have C1 := Lib.hid c1
  have C2 := Lib.hid c2
  clear c1 c2 wn0 wb0
  obtain ⟨W1, hW1⟩ : ∃ W1, w.alloc (.cells #[.int .i64 n0, .int .i64 b0] 23) = W1 := ⟨_, rfl⟩
  have p0 : W1.cell? ⟨w.heap.size, 0, none⟩ = some (.int .i64 n0) := by rw [← hW1]; simp [go_sem]
  have p1 : W1.cell? ⟨w.heap.size, 1, none⟩ = some (.int .i64 b0) := by rw [← hW1]; simp [go_sem]
  have hB : Below w.heap.size w W1 := by rw [← hW1]; exact bnew _ _
  go_enter Try.func12, Try.ntmps12
  go_wp2_with fail
  clear hW1
  -- the model
  refine (toFunc_any n0 b0 _).mono ?_
  rintro e w2 ⟨rfl, hN2⟩
  go_wp2_with fail
  refine (C1.out _).mono ?_
  rintro e w3 ⟨s0, rfl, o0, hb⟩
  have hN3 := bthen hN2 hb
  have q0 := kc hN3 p0
  have q1 := kc hN3 p1
  have O0 := Lib.hid o0
  clear hb hN2 o0
  go_wp2_with fail
  -- the program
  refine (toFunc_any n0 b0 _).mono ?_
  rintro e w4 ⟨rfl, hb⟩
  have hN4 := bthen hN3 hb
  replace O0 := Lib.hid (O0.out.below hb)
  clear hb hN3 q0 q1
  go_wp2_with fail
  refine (C2.out _).mono ?_
  rintro e w5 ⟨s1, rfl, o1, hb⟩
  have hN5 := bthen hN4 hb
  have lt0 := Lib.hid O0.out.lt
  replace O0 := Lib.hid (O0.out.below hb)
  have hs4 := hN4.size
  have O1 := Lib.hid o1
  clear hb hN4 o1
  go_wp2_with fail
  refine (eqInt64S_same (by omega) _ O1.out O0.out).mono ?_
  rintro e w6 ⟨rfl, hb⟩
  have hN6 := bthen hN5 hb
  replace O0 := Lib.hid (O0.out.below hb)
  replace O1 := Lib.hid (O1.out.below hb)
  clear hb hN5
  go_wp2_with fail
  -- the marks
  refine (mark_any (by omega) 1 (by omega) (by omega) _ O1.out).mono ?_
  rintro e w7 ⟨rfl, o1, hg⟩
  have hN7 := below_marked hN6 O1.out hg hs4 hN6.size
  replace O0 := Lib.hid (O0.out.other hg O1.out lt0.out)
  have M1 := Lib.hid o1
  have q0 := kc hN7 p0
  have q1 := kc hN7 p1
  clear O1 o1 hg hN6
  go_wp2_with fail
  refine (held_any (by omega) 1 (by omega) (by omega) _ M1.out).mono ?_
  rintro e w8 ⟨rfl, rfl⟩
  go_wp2_with fail
  -- the program once more
  refine (toFunc_any n0 b0 _).mono ?_
  rintro e w9 ⟨rfl, hb⟩
  have hN9 := bthen hN7 hb
  replace O0 := Lib.hid (O0.out.below hb)
  replace M1 := Lib.hid (M1.out.below hb)
  clear hb hN7 q0 q1
  go_wp2_with fail
  refine (C2.out _).mono ?_
  rintro e w10 ⟨s2, rfl, o2, hb⟩
  have hN10 := bthen hN9 hb
  replace O0 := Lib.hid (O0.out.below hb)
  replace M1 := Lib.hid (M1.out.below hb)
  have O2 := Lib.hid o2
  clear hb hN9 o2
  go_wp2_with fail
  refine (eqInt64S_same (by omega) _ O2.out O0.out).mono ?_
  rintro e w11 ⟨rfl, hb⟩
  have hN11 := bthen hN10 hb
  replace M1 := Lib.hid (M1.out.below hb)
  clear hb hN10
  go_wp2_with fail
  refine (held_any (by omega) 1 (by omega) (by omega) _ M1.out).mono ?_
  rintro e w12 ⟨rfl, rfl⟩
  go_wp2
  go_ret
  exact ⟨rfl, bthen hB hN11⟩
end Go.Proofs.Ytcolaggkeekgoaa
