/-
  DerivativeBy in both packages.
-/
import Derived.Test.YtcolaggkeekgoaaZ9
import Derived.Test.YtcolaggkeekgoaaIR
import Derived.Deep.RegionLaw
namespace Go.Proofs.Ytcolaggkeekgoaa
open Go.RowKit
set_option linter.unusedVariables false
set_option linter.unusedSimpArgs false

/-- The value of the derivative by a at a row. -/
def derV (x a r : Nat) : Nat := (bitN x r + bitN x (r ^^^ a)) % 2
theorem derV_le (x a r : Nat) : derV x a r ≤ 1 := by unfold derV; omega

theorem xor_num (r a : Nat) (hr : r < 16) (ha : a < 16) : bits .xor .i64 (r : Int) (a : Int) = ((r ^^^ a : Nat) : Int) := by
  have h : r ^^^ a < 2 ^ 4 := Nat.xor_lt_two_pow (show r < 2 ^ 4 by omega) (show a < 2 ^ 4 by omega)
  show IntKind.i64.wrap ((BitVec.ofInt 64 (r : Int) ^^^ BitVec.ofInt 64 (a : Int)).toNat : Int) = _
  rw [BitVec.ofInt_natCast, BitVec.ofInt_natCast, BitVec.toNat_xor, BitVec.toNat_ofNat, BitVec.toNat_ofNat, Nat.mod_eq_of_lt (by omega : r < 2 ^ 64), Nat.mod_eq_of_lt (by omega : a < 2 ^ 64)]
  exact wrap64_small (by omega) (by omega)

theorem valueInRow_int (n : Int) (x : Nat) (hx : x < 2 ^ 62) (I : Int) (h0 : 0 ≤ I) (h1 : I < 62) (w : World) :
    Calls Try.prog 55 #[.agg #[.int .i64 n, .int .i64 (x : Int)], .int .i64 I] w fun e w' => e = .returned (.int .i64 (bitN x I.toNat : Int)) ∧ Below w.heap.size w w' := by
  have h := valueInRow_any n x I.toNat hx (by omega) w
  rwa [show ((I.toNat : Nat) : Int) = I by omega] at h
theorem l01At_int' (n : Int) (x : Nat) (hx : x < 2 ^ 62) (I : Int) (h0 : 0 ≤ I) (h1 : I < 62) (w : World) :
    Calls Try.prog 49 #[.agg #[.int .i64 n, .int .i64 (x : Int)], .int .i64 I] w fun e w' => e = .returned (.int .i64 (bitN x I.toNat : Int)) ∧ Below w.heap.size w w' := by
  have h := l01At_any n x I.toNat hx (by omega) w
  rwa [show ((I.toNat : Nat) : Int) = I by omega] at h

theorem step_heldD {W w' W0 : World} {a b c : Addr} {u v z : Value} (hb : Below W.heap.size W w') (h : ((W.cell? a = some u ∧ W.cell? b = some v) ∧ W.cell? c = some z) ∧ Below W0.heap.size W0 W) :
    ((w'.cell? a = some u ∧ w'.cell? b = some v) ∧ w'.cell? c = some z) ∧ Below W0.heap.size W0 w' := ⟨⟨⟨kc hb h.1.1.1, kc hb h.1.1.2⟩, kc hb h.1.2⟩, bthen h.2 hb⟩

set_option maxRecDepth 100000 in
set_option maxHeartbeats 2000000 in
theorem Derivative1_any {n : Int} {x R : Nat} (ok : FOk n x R) (a r : Nat) (ha : a < 16) (hr : r < 16) (b ba : Nat) (w : World) (hb : FBox b n x w) (cA : w.cell? ⟨ba, 0, none⟩ = some (.int .i64 (a : Int))) :
    Calls Try.prog 54 #[.int .i64 (r : Int), .pointer (some ⟨b, 0, none⟩), .pointer (some ⟨ba, 0, none⟩)] w fun e w' => e = .returned (.int .i64 (derV x a r : Int)) ∧ Below w.heap.size w w' := by
  obtain ⟨c0, c1⟩ := hb
  have hx := ok.hx
  have HX := xor_num r a hr ha
  have h4 : r ^^^ a < 2 ^ 4 := Nat.xor_lt_two_pow (show r < 2 ^ 4 by omega) (show a < 2 ^ 4 by omega)
  have b0 : 0 ≤ bits .xor .i64 (r : Int) (a : Int) := by rw [HX]; omega
  have b1 : bits .xor .i64 (r : Int) (a : Int) < 62 := by rw [HX]; omega
  have HV := Lib.hid (show bits .xor .i64 (bitN x ((r : Int)).toNat : Int) (bitN x (bits .xor .i64 (r : Int) (a : Int)).toNat : Int) = (derV x a r : Int) by
    rw [HX, Int.toNat_natCast, Int.toNat_natCast, xor_par _ _ (bitN_le _ _) (bitN_le _ _)]; rfl)
  clear HX h4
  go_enter Try.func54, Try.ntmps54
  go_wp2
  go_region_held3 (fun W => ((W.cell? ⟨b, 0, none⟩ = some (.int .i64 n) ∧ W.cell? ⟨b, 1, none⟩ = some (.int .i64 (x : Int))) ∧ W.cell? ⟨ba, 0, none⟩ = some (.int .i64 (a : Int))) ∧ Below w.heap.size w W) (first | exact ⟨⟨⟨c0, c1⟩, cA⟩, (Below.refl _ _).drew⟩ | exact step_heldD hb1 (by assumption))
    (first
      | (go_at_call 55; refine (valueInRow_int _ _ hx _ (by omega) (by omega) _).mono ?_; rintro e w' ⟨rfl, hb1⟩))
  go_wp2
  go_ret
  exact ⟨by rw [← HV.out]; rfl, (‹(_ ∧ _) ∧ Below _ _ _›).2⟩

theorem derRows {n : Int} {x R : Nat} (ok : FOk n x R) (a : Nat) (ha : a < 16) (b ba : Nat) (W : World) (hb : FBox b n x W) (cA : W.cell? ⟨ba, 0, none⟩ = some (.int .i64 (a : Int))) :
    Calls Try.prog 53 #[.int .i64 n, .func (.func 54) #[] #[.pointer (some ⟨b, 0, none⟩), .pointer (some ⟨ba, 0, none⟩)]] W fun e w' => e = .returned (.agg #[.int .i64 n, .int .i64 (sumN (derV x a) R : Int)]) ∧ Below W.heap.size W w' := by
  have r16 := ok.r16
  have F := funcByRows_any n ok.h0 ok.h4 R ok.r0 ok.r16 ok.hR 54 #[.pointer (some ⟨b, 0, none⟩), .pointer (some ⟨ba, 0, none⟩)] (enters_of Try.func54 (by kernel_rfl) rfl)
    (derV x a) (fun r _ => derV_le _ _ _) W (Lib.hid fun W' hW r hr => Derivative1_any ok a r ha (by omega) b ba W' (hb.keep hW) (kc hW cA))
  rwa [orBits_sum ok.r0 _ (fun r _ => derV_le _ _ _)] at F

/-- The boxes of the program's derivative. -/
theorem derBox (n b a : Int) (w : World) : ∃ W1, ((w.alloc (.cells #[.int .i64 n, .int .i64 b] 24)).alloc (.cells #[.int .i64 a] 2)).alloc (.cells #[.int .i64 0, .int .i64 0] 24) = W1 ∧
    (W1.cell? ⟨w.heap.size, 0, none⟩ = some (.int .i64 n) ∧ W1.cell? ⟨w.heap.size, 1, none⟩ = some (.int .i64 b) ∧ W1.cell? ⟨w.heap.size + 1, 0, none⟩ = some (.int .i64 a)) ∧
    (W1.cell? ⟨w.heap.size + 1 + 1, 0, none⟩ = some (.int .i64 0) ∧ W1.cell? ⟨w.heap.size + 1 + 1, 1, none⟩ = some (.int .i64 0)) ∧
    (W1.frozen? ⟨w.heap.size + 1 + 1, 0, none⟩ = false ∧ W1.frozen? ⟨w.heap.size + 1 + 1, 1, none⟩ = false) ∧ Below w.heap.size w W1 :=
  ⟨_, rfl, ⟨by simp [go_sem], by simp [go_sem], by simp [go_sem]⟩, ⟨by simp [go_sem], by simp [go_sem]⟩, ⟨by simp [go_sem], by simp [go_sem]⟩, balloc (balloc (bnew _ _) _) _⟩

set_option maxRecDepth 100000 in
set_option maxHeartbeats 2000000 in
theorem implDerivativeBy_no {n b a : Int} (h : isF n b = false) (w : World) :
    Calls Try.prog 17 #[.agg #[.int .i64 n, .int .i64 b], .int .i64 a] w fun e w' => e = .returned (.tuple #[.agg #[.int .i64 0, .int .i64 0], .int .i64 1]) ∧ Below w.heap.size w w' := by
  obtain ⟨W1, hW1, ⟨p0, p1, pa⟩, ⟨c0, c1⟩, ⟨f0, f1⟩, hB⟩ := derBox n b a w
  go_enter Try.func17, Try.ntmps17
  go_wp2_with (first
    | (go_at_call 51; refine (IsFunc_is h _).mono ?_; rintro e w2 ⟨rfl, hb2⟩; have d0 := kc hb2 c0; have d1 := kc hb2 c1; have g0 := kf hb2 c0 f0; have g1 := kf hb2 c1 f1; have hB2 := bthen hB hb2))
  exact bodyPost_ret (v := .tuple #[.agg #[.int .i64 0, .int .i64 0], .int .i64 1]) (by simp [results, Try.results17, go_sem, d0, d1]) rfl ⟨rfl, (hB2.setCell (p := ⟨w.heap.size + 1 + 1, 0, none⟩) (by simp; omega) _).setCell (p := ⟨w.heap.size + 1 + 1, 1, none⟩) (by simp; omega) _⟩

set_option maxRecDepth 100000 in
set_option maxHeartbeats 4000000 in
theorem implDerivativeBy_out {n a : Int} {x R : Nat} (ok : FOk n x R) (hr : inB a 0 ((R : Int) - 1) = false) (w : World) :
    Calls Try.prog 17 #[.agg #[.int .i64 n, .int .i64 (x : Int)], .int .i64 a] w fun e w' => e = .returned (.tuple #[.agg #[.int .i64 0, .int .i64 0], .int .i64 2]) ∧ Below w.heap.size w w' := by
  have h := ok.is
  obtain ⟨W1, hW1, ⟨p0, p1, pa⟩, ⟨c0, c1⟩, ⟨f0, f1⟩, hB⟩ := derBox n x a w
  go_enter Try.func17, Try.ntmps17
  go_wp2_with (first
    | (go_at_call 51; refine (IsFunc_is h _).mono ?_; rintro e w2 ⟨rfl, hb2⟩; have q0 := kc hb2 p0; have qa := kc hb2 pa; have d0 := kc hb2 c0; have d1 := kc hb2 c1; have g0 := kf hb2 c0 f0; have g1 := kf hb2 c1 f1; have hB2 := bthen hB hb2; clear p0 p1 pa c0 c1 f0 f1)
    | (go_at_call 52; refine (isRow_is ok.h0 ok.h4 ok.r0 ok.r16 ok.hR hr _).mono ?_; rintro e w' ⟨rfl, rfl⟩))
  exact bodyPost_ret (v := .tuple #[.agg #[.int .i64 0, .int .i64 0], .int .i64 2]) (by simp [results, Try.results17, go_sem, d0, d1]) rfl ⟨rfl, (hB2.setCell (p := ⟨w.heap.size + 1 + 1, 0, none⟩) (by simp; omega) _).setCell (p := ⟨w.heap.size + 1 + 1, 1, none⟩) (by simp; omega) _⟩

set_option maxRecDepth 100000 in
set_option maxHeartbeats 4000000 in
theorem implDerivativeBy_yes {n : Int} {x R a : Nat} (ok : FOk n x R) (ha : a < R) (w : World) :
    Calls Try.prog 17 #[.agg #[.int .i64 n, .int .i64 (x : Int)], .int .i64 (a : Int)] w fun e w' => e = .returned (.tuple #[.agg #[.int .i64 n, .int .i64 (sumN (derV x a) R : Int)], .int .i64 0]) ∧ Below w.heap.size w w' := by
  have h := ok.is
  have r16 := ok.r16
  have hr : inB (a : Int) 0 ((R : Int) - 1) = true := inB_true (by omega) (by omega)
  obtain ⟨W1, hW1, ⟨p0, p1, pa⟩, ⟨c0, c1⟩, ⟨f0, f1⟩, hB⟩ := derBox n x a w
  go_enter Try.func17, Try.ntmps17
  go_wp2_with (first
    | (go_at_call 51; refine (IsFunc_is h _).mono ?_; rintro e w2 ⟨rfl, hb2⟩; have q0 := kc hb2 p0; have q1 := kc hb2 p1; have qa := kc hb2 pa; have d0 := kc hb2 c0; have d1 := kc hb2 c1; have g0 := kf hb2 c0 f0; have g1 := kf hb2 c1 f1; have hB2 := bthen hB hb2; clear p0 p1 pa c0 c1 f0 f1)
    | (go_at_call 52; refine (isRow_is ok.h0 ok.h4 ok.r0 ok.r16 ok.hR hr _).mono ?_; rintro e w' ⟨rfl, rfl⟩)
    | (go_at_call 53; refine (derRows ok a (by omega) w.heap.size (w.heap.size + 1) _ ⟨q0, q1⟩ qa).mono ?_; rintro e w3 ⟨rfl, hb3⟩; have e0 := kc hb3 d0; have e1 := kc hb3 d1; have k0 := kf hb3 d0 g0; have k1 := kf hb3 d1 g1; have hB3 := bthen hB2 hb3))
  exact bodyPost_ret (v := .tuple #[.agg #[.int .i64 n, .int .i64 (sumN (derV x a) R : Int)], .int .i64 0]) (by simp [results, Try.results17, go_sem, e0, e1]) rfl ⟨rfl, (hB3.setCell (p := ⟨w.heap.size + 1 + 1, 0, none⟩) (by simp; omega) _).setCell (p := ⟨w.heap.size + 1 + 1, 1, none⟩) (by simp; omega) _⟩

/-- An append to a list of one's own, within a region that draws. -/
theorem step_append_own {P : Program} (w : World) {ops : Array Oper} {o : Oper} {a : Act} {K : Act → World → Prop} {Q : Exit → Act → World → Prop} {E : Prop}
    (hg : o.guard = none) (s x : Operand) (t : TypeId) (hop : o.op = Op.call { callee := Callee.builtin Builtin.append, args := #[s, x], argTypes := #[t, t] })
    (base : Nat) (e : TypeId) (i : TypeInfo) (z : Value) (size bytes : Nat) (h1 : P.underlying t = some (.slice e)) (h2 : P.info? e = some i) (h3 : i.zero = some z) (h4 : i.size = size) (h5 : i.bytes = bytes) (h6 : z.cells.size = size) (h7 : 0 < size)
    (v : Value) (k : Nat) (xs : List Value) (hs : a.eval s = v) (hown : w.ownsRow base e size v k xs) (ad : Addr) (m c : Nat) (news : List Value) (hx : a.eval x = .slice (some ad) m c) (hn : news.length = m * size)
    (hc : ∀ j u, news[j]? = some u → w.cell? (ad.add j) = some u) (h1c : ∀ u ∈ news, u.oneCell' = true) (b1 : k + m ≤ maxLen) (b2 : (k + m) * bytes ≤ 140737488355328) (b3 : base ≤ w.heap.size)
    (hK : ∀ v' w', w'.ownsRow base e size v' (k + m) (xs ++ news) → w.grownBy w' v.ownBlock → K (a.put o.dst v') w') :
    if Region.wanted o (yielded ops a.tmps) = true then Oper.wp P o a w K Q else E := by
  rw [if_pos (by simp [Region.wanted, hg])]
  obtain ⟨v', w', hrun, r1, r2, _⟩ := run_append_own (P := P) w base t o.type e i z size bytes h1 h2 h3 h4 h5 h6 h7 v k xs hown ad m c news hn hc h1c b1 b2 b3
  unfold Oper.wp
  simp [execOp, hop, resolve, invoke, builtin, hs, hx, hrun, Result.andThen]
  exact hK _ _ r1 r2

/-- The boxes of the model's derivative. -/
theorem derBoxS (n b : Int) (w : World) : ∃ W1, (w.alloc (.cells #[.int .i64 n, .int .i64 b] 24)).alloc (.cells #[.int .i64 0, .int .i64 0] 24) = W1 ∧
    (W1.cell? ⟨w.heap.size, 0, none⟩ = some (.int .i64 n) ∧ W1.cell? ⟨w.heap.size, 1, none⟩ = some (.int .i64 b)) ∧
    (W1.cell? ⟨w.heap.size + 1, 0, none⟩ = some (.int .i64 0) ∧ W1.cell? ⟨w.heap.size + 1, 1, none⟩ = some (.int .i64 0)) ∧
    (W1.frozen? ⟨w.heap.size + 1, 0, none⟩ = false ∧ W1.frozen? ⟨w.heap.size + 1, 1, none⟩ = false) ∧ Below w.heap.size w W1 :=
  ⟨_, rfl, ⟨by simp [go_sem], by simp [go_sem]⟩, ⟨by simp [go_sem], by simp [go_sem]⟩, ⟨by simp [go_sem], by simp [go_sem]⟩, balloc (bnew _ _) _⟩

set_option maxRecDepth 100000 in
set_option maxHeartbeats 2000000 in
theorem specDerivativeBy_no {n b a : Int} (h : isF n b = false) (w : World) :
    Calls Try.prog 15 #[.agg #[.int .i64 n, .int .i64 b], .int .i64 a] w fun e w' => e = .returned (.tuple #[.agg #[.int .i64 0, .int .i64 0], .int .i64 1]) ∧ Below w.heap.size w w' := by
  obtain ⟨W1, hW1, ⟨p0, p1⟩, ⟨c0, c1⟩, ⟨f0, f1⟩, hB⟩ := derBoxS n b w
  go_enter Try.func15, Try.ntmps15
  go_wp2_with (first
    | (go_at_call 46; refine (l01Is_is h _).mono ?_; rintro e w2 ⟨rfl, hb2⟩; have d0 := kc hb2 c0; have d1 := kc hb2 c1; have g0 := kf hb2 c0 f0; have g1 := kf hb2 c1 f1; have hB2 := bthen hB hb2))
  exact bodyPost_ret (v := .tuple #[.agg #[.int .i64 0, .int .i64 0], .int .i64 1]) (by simp [results, Try.results15, go_sem, d0, d1]) rfl ⟨rfl, (hB2.setCell (p := ⟨w.heap.size + 1, 0, none⟩) (by simp) _).setCell (p := ⟨w.heap.size + 1, 1, none⟩) (by simp) _⟩

set_option maxRecDepth 100000 in
set_option maxHeartbeats 4000000 in
theorem specDerivativeBy_out {n a : Int} {x R : Nat} (ok : FOk n x R) (hr : inB a 0 ((R : Int) - 1) = false) (w : World) :
    Calls Try.prog 15 #[.agg #[.int .i64 n, .int .i64 (x : Int)], .int .i64 a] w fun e w' => e = .returned (.tuple #[.agg #[.int .i64 0, .int .i64 0], .int .i64 2]) ∧ Below w.heap.size w w' := by
  have h := ok.is
  have r16 := ok.r16
  obtain ⟨W1, hW1, ⟨p0, p1⟩, ⟨c0, c1⟩, ⟨f0, f1⟩, hB⟩ := derBoxS n x w
  go_enter Try.func15, Try.ntmps15
  go_wp2_with (first
    | (go_at_call 46; refine (l01Is_is h _).mono ?_; rintro e w2 ⟨rfl, hb2⟩; have q0 := kc hb2 p0; have d0 := kc hb2 c0; have d1 := kc hb2 c1; have g0 := kf hb2 c0 f0; have g1 := kf hb2 c1 f1; have hB2 := bthen hB hb2)
    | (go_at_call 48; refine (l01Rows_is ok.h0 ok.h4 ok.hR _).mono ?_; rintro e w' ⟨rfl, rfl⟩)
    | (go_at_call 47; refine (l01In_is hr _).mono ?_; rintro e w' ⟨rfl, rfl⟩))
  exact bodyPost_ret (v := .tuple #[.agg #[.int .i64 0, .int .i64 0], .int .i64 2]) (by simp [results, Try.results15, go_sem, d0, d1]) rfl ⟨rfl, (hB2.setCell (p := ⟨w.heap.size + 1, 0, none⟩) (by simp) _).setCell (p := ⟨w.heap.size + 1, 1, none⟩) (by simp) _⟩

set_option maxRecDepth 100000 in
set_option maxHeartbeats 8000000 in
theorem specDerivativeBy_yes {n : Int} {x R a : Nat} (ok : FOk n x R) (ha : a < R) (w : World) :
    Calls Try.prog 15 #[.agg #[.int .i64 n, .int .i64 (x : Int)], .int .i64 (a : Int)] w fun e w' => e = .returned (.tuple #[.agg #[.int .i64 n, .int .i64 (sumN (derV x a) R : Int)], .int .i64 0]) ∧ Below w.heap.size w w' := by
  obtain ⟨i0, hi, hz0, hz1, hz2⟩ := info_parts infoI
  have h := ok.is
  have r0 := ok.r0
  have r16 := ok.r16
  have hin : inB (a : Int) 0 ((R : Int) - 1) = true := inB_true (by omega) (by omega)
  obtain ⟨W1, hW1, ⟨p0, p1⟩, ⟨c0, c1⟩, ⟨f0, f1⟩, hB⟩ := derBoxS n x w
  go_enter Try.func15, Try.ntmps15
  go_wp2_with (first
    | (go_at_call 46; refine (l01Is_is h _).mono ?_; rintro e w2 ⟨rfl, hb2⟩; have q0 := kc hb2 p0; have q1 := kc hb2 p1; have d0 := kc hb2 c0; have d1 := kc hb2 c1; have g0 := kf hb2 c0 f0; have g1 := kf hb2 c1 f1; have hB2 := bthen hB hb2)
    | (go_at_call 48; refine (l01Rows_is ok.h0 ok.h4 ok.hR _).mono ?_; rintro e w' ⟨rfl, rfl⟩)
    | (go_at_call 47; refine (l01In_is hin _).mono ?_; rintro e w' ⟨rfl, rfl⟩))
  clear hW1
  have hlt2 : w.heap.size < w2.heap.size := cell_lt q0
  have HC := Lib.hid (show (w2.cell? ⟨w.heap.size + 1, 0, none⟩ = some (.int .i64 0) ∧ w2.cell? ⟨w.heap.size + 1, 1, none⟩ = some (.int .i64 0)) ∧ (w2.frozen? ⟨w.heap.size + 1, 0, none⟩ = false ∧ w2.frozen? ⟨w.heap.size + 1, 1, none⟩ = false) from ⟨⟨d0, d1⟩, g0, g1⟩)
  clear d0 d1 g0 g1 p0 p1 c0 c1 f0 f1 hb2 hin
  go_loopw [6, 7] (fun s r' wr => ∃ k : Nat, k ≤ R ∧ r' = .int .i64 k ∧ Hid (Owns wr w2.heap.size s (natL (derV x a) k)) ∧ Below w2.heap.size w2 wr)
    (fun _ r' _ => R - (intOf r').toNat)
  case atStart => exact ⟨0, by omega, rfl, Lib.hid (World.ownsRow_lit w2 #[] 0 (Nat.le_refl _) (by decide) rfl), bnew _ _⟩
  case round =>
    obtain ⟨k, hk, rfl, HOWN, hN⟩ := hrel
    have hsz := hN.size
    have u0 := kc hN q0
    have u1 := kc hN q1
    by_cases hlt : k < R
    · have HX := xor_num k a (by omega) (by omega)
      have h4 : k ^^^ a < 2 ^ 4 := Nat.xor_lt_two_pow (show k < 2 ^ 4 by omega) (show a < 2 ^ 4 by omega)
      have b0 : 0 ≤ bits .xor .i64 (k : Int) (a : Int) := by rw [HX]; omega
      have b1 : bits .xor .i64 (k : Int) (a : Int) < 62 := by rw [HX]; omega
      have hq1 := bitN_le x ((k : Int)).toNat
      have hq2 := bitN_le x (bits .xor .i64 (k : Int) (a : Int)).toNat
      have hq3 := bitN_le x k
      have HV := Lib.hid (show (IntKind.i64.wrap ((bitN x k : Int) + (bitN x (bits .xor .i64 (k : Int) (a : Int)).toNat : Int))).tmod 2 = (derV x a k : Int) by
        rw [wrap64_small (by omega) (by omega), Int.tmod_eq_emod_of_nonneg (by omega), HX, Int.toNat_natCast]; unfold derV; omega)
      have hx := ok.hx
      have hlen := natL_len (derV x a) k
      have HS := Lib.hid (natL_succ (derV x a) k)
      clear HX h4
      go_wp2_with (go_at_call 48; refine (l01Rows_is ok.h0 ok.h4 ok.hR _).mono ?_; rintro e w' ⟨rfl, rfl⟩)
      have HD := Lib.hid (show Owns wr.drew w2.heap.size _ (natL (derV x a) k) from HOWN.out)
      have hND := hN.drew
      clear HOWN hN
      go_region_law (first
        | (refine step_append_own _ rfl _ _ 33 rfl w2.heap.size 2 i0 (.int .i64 0) 1 8 Try.underlying33 hi hz0 hz1 hz2 rfl (by decide) _ _ _ rfl (O6.alloc _) ⟨w5.heap.size, 0, none⟩ 1 1 [.int .i64 (derV x a k : Int)] rfl rfl (by rw [← HV.out]; exact cell_one_new _ _ _) (one_cell_int _) (by unfold maxLen; omega) (by omega) (by simp; omega) ?_; intro v' w1 hown' hgrow)
        | (go_simp; go_at_call 49; refine (l01At_int' _ _ hx _ (by omega) (by omega) _).mono ?_; rintro e w5 ⟨rfl, hb5⟩; (first | (with_reducible have O5 := Lib.hid (O5.out.below hb5)) | (have O5 := Lib.hid (HD.out.below hb5))); (first | (with_reducible have N5 := bthen N5 hb5) | (have N5 := bthen hND hb5)); (first | (with_reducible have u0 := kc hb5 u0) | (have u0 := kcd hb5 u0)); (first | (with_reducible have u1 := kc hb5 u1) | (have u1 := kcd hb5 u1)); have hs5 := N5.size; have O6 : World.ownsRow _ _ _ _ _ _ _ := O5.out))
      all_goals
        have hN' := (balloc N5 (.cells #[.int .i64 (derV x a k : Int)] 2)).grown (by rw [HV.out] at hgrow; exact hgrow) (by simp; omega) (fun j e => (O6.lt j e).1)
        clear hgrow O6 O5 N5
        go_wp2
        go_roundw
        case rel => exact ⟨k + 1, by omega, by go_num, Lib.hid (by rw [HS.out]; unfold Owns; rw [ints_snoc, List.length_append]; exact hown'), hN'⟩
        case measure => simp [intOf]; omega
    · obtain rfl : R = k := by omega
      obtain ⟨g, cap, rfl, hg, hc⟩ := owned_cells r0 HOWN.out
      obtain ⟨⟨d0, d1⟩, g0, g1⟩ := HC.out
      have v0 := kc hN d0
      have v1 := kc hN d1
      have y0 := kf hN d0 g0
      have y1 := kf hN d1 g1
      have hBr := bthen hB2 hN
      clear d0 d1 g0 g1 HOWN hN
      go_wp2_with (first
        | (go_at_call 48; refine (l01Rows_is ok.h0 ok.h4 ok.hR _).mono ?_; rintro e w' ⟨rfl, rfl⟩)
        | (go_at_call 50; refine (l01Of_any ok.h0 ok.h4 r0 r16 ok.hR g cap (derV x a) (fun r _ => derV_le _ _ _) _ hg hc).mono ?_; rintro e w6 ⟨rfl, hb6⟩; have o0 := kc hb6 v0; have o1 := kc hb6 v1; have i0 := kf hb6 v0 y0; have i1 := kf hb6 v1 y1; have hB6 := bthen hBr hb6; clear v0 v1 y0 y1))
      exact bodyPost_ret (v := .tuple #[.agg #[.int .i64 n, .int .i64 (sumN (derV x a) R : Int)], .int .i64 0]) (by simp [results, Try.results15, go_sem, o0, o1]) rfl ⟨rfl, (hB6.setCell (p := ⟨w.heap.size + 1, 0, none⟩) (by simp) _).setCell (p := ⟨w.heap.size + 1, 1, none⟩) (by simp) _⟩

theorem bothDerivativeBy (n b a : Int) (_ : (Lit.int .i64 n).wf = true) (_ : (Lit.int .i64 b).wf = true) (_ : (Lit.int .i64 a).wf = true) : ∃ rn rb rc : Int,
    (∀ w, Calls Try.prog 15 #[.agg #[.int .i64 n, .int .i64 b], .int .i64 a] w fun e w' => e = .returned (.tuple #[.agg #[.int .i64 rn, .int .i64 rb], .int .i64 rc]) ∧ Below w.heap.size w w') ∧
    (∀ w, Calls Try.prog 17 #[.agg #[.int .i64 n, .int .i64 b], .int .i64 a] w fun e w' => e = .returned (.tuple #[.agg #[.int .i64 rn, .int .i64 rb], .int .i64 rc]) ∧ Below w.heap.size w w') := by
  cases h : isF n b
  · exact ⟨_, _, _, specDerivativeBy_no h, implDerivativeBy_no h⟩
  · obtain ⟨x, R, rfl, ok⟩ := fok h
    cases hr : inB a 0 ((R : Int) - 1)
    · exact ⟨_, _, _, specDerivativeBy_out ok hr, implDerivativeBy_out ok hr⟩
    · have h2 : 0 ≤ a ∧ a ≤ (R : Int) - 1 := by simpa [inB] using hr
      obtain ⟨c, rfl⟩ := Int.eq_ofNat_of_zero_le h2.1
      exact ⟨_, _, _, specDerivativeBy_yes ok (by omega), implDerivativeBy_yes ok (by omega)⟩
end Go.Proofs.Ytcolaggkeekgoaa
