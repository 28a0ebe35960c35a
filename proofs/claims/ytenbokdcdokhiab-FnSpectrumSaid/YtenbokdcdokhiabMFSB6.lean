/-
  The texts ZB, I1, I2, YG, YA, LW, YH, J1, J2, YC, YI in one.
-/
import Derived.Test.YtenbokdcdokhiabMFSB5
import Derived.Deep.RegionLaw

/- ZB:
  DerivativeBy in both packages. -/
namespace Go.Proofs.Ytenbokdcdokhiab
open Go.RowKit
set_option linter.unusedVariables false
set_option linter.unusedSimpArgs false

/-- The value of the derivative by a at a row. -/
def derV (x a r : Nat) : Nat := (bitN x r + bitN x (r ^^^ a)) % 2
theorem derV_le (x a r : Nat) : derV x a r ≤ 1 := by unfold derV; omega

theorem xor_num (r a : Nat) (hr : r < 16) (ha : a < 16) : bits .xor .i64 (r : Int) (a : Int) = ((r ^^^ a : Nat) : Int) := by
  have h : r ^^^ a < 2 ^ 4 := Nat.xor_lt_two_pow (show r < 2 ^ 4 by omega) (show a < 2 ^ 4 by omega)
  show IntKind.i64.wrap ((BitVec.ofInt 64 (r : Int) ^^^ BitVec.ofInt 64 (a : Int)).toNat : Int) = _
  rw [BitVec.ofInt_natCast, BitVec.ofInt_natCast, BitVec.toNat_xor, BitVec.toNat_ofNat, BitVec.toNat_ofNat, Nat.mod_eq_of_lt (by omega : r < 2 ^ 64), Nat.mod_eq_of_lt (by omega : a < 2 ^ 64)]
  exact wrap64_small (by omega) (by omega)

theorem valueInRow_int (n : Int) (x : Nat) (hx : x < 2 ^ 62) (I : Int) (h0 : 0 ≤ I) (h1 : I < 62) (w : World) :
    Calls Try.prog 143 #[.agg #[.int .i64 n, .int .i64 (x : Int)], .int .i64 I] w fun e w' => e = .returned (.int .i64 (bitN x I.toNat : Int)) ∧ Below w.heap.size w w' := by
  have h := valueInRow_any n x I.toNat hx (by omega) w
  rwa [show ((I.toNat : Nat) : Int) = I by omega] at h
theorem l01At_int' (n : Int) (x : Nat) (hx : x < 2 ^ 62) (I : Int) (h0 : 0 ≤ I) (h1 : I < 62) (w : World) :
    Calls Try.prog 155 #[.agg #[.int .i64 n, .int .i64 (x : Int)], .int .i64 I] w fun e w' => e = .returned (.int .i64 (bitN x I.toNat : Int)) ∧ Below w.heap.size w w' := by
  have h := l01At_any n x I.toNat hx (by omega) w
  rwa [show ((I.toNat : Nat) : Int) = I by omega] at h

theorem step_heldD {W w' W0 : World} {a b c : Addr} {u v z : Value} (hb : Below W.heap.size W w') (h : ((W.cell? a = some u ∧ W.cell? b = some v) ∧ W.cell? c = some z) ∧ Below W0.heap.size W0 W) :
    ((w'.cell? a = some u ∧ w'.cell? b = some v) ∧ w'.cell? c = some z) ∧ Below W0.heap.size W0 w' := ⟨⟨⟨kc hb h.1.1.1, kc hb h.1.1.2⟩, kc hb h.1.2⟩, bthen h.2 hb⟩

set_option maxRecDepth 100000 in
set_option maxHeartbeats 2000000 in
theorem Derivative1_any {n : Int} {x R : Nat} (ok : FOk n x R) (a r : Nat) (ha : a < 16) (hr : r < 16) (b ba : Nat) (w : World) (hb : FBox b n x w) (cA : w.cell? ⟨ba, 0, none⟩ = some (.int .i64 (a : Int))) :
    Calls Try.prog 152 #[.int .i64 (r : Int), .pointer (some ⟨b, 0, none⟩), .pointer (some ⟨ba, 0, none⟩)] w fun e w' => e = .returned (.int .i64 (derV x a r : Int)) ∧ Below w.heap.size w w' := by
  obtain ⟨c0, c1⟩ := hb
  have hx := ok.hx
  have HX := xor_num r a hr ha
  have h4 : r ^^^ a < 2 ^ 4 := Nat.xor_lt_two_pow (show r < 2 ^ 4 by omega) (show a < 2 ^ 4 by omega)
  have b0 : 0 ≤ bits .xor .i64 (r : Int) (a : Int) := by rw [HX]; omega
  have b1 : bits .xor .i64 (r : Int) (a : Int) < 62 := by rw [HX]; omega
  have HV := Lib.hid (show bits .xor .i64 (bitN x ((r : Int)).toNat : Int) (bitN x (bits .xor .i64 (r : Int) (a : Int)).toNat : Int) = (derV x a r : Int) by
    rw [HX, Int.toNat_natCast, Int.toNat_natCast, xor_par _ _ (bitN_le _ _) (bitN_le _ _)]; rfl)
  clear HX h4
  go_enter Try.func152, Try.ntmps152
  go_wp2
  go_region_held3 (fun W => ((W.cell? ⟨b, 0, none⟩ = some (.int .i64 n) ∧ W.cell? ⟨b, 1, none⟩ = some (.int .i64 (x : Int))) ∧ W.cell? ⟨ba, 0, none⟩ = some (.int .i64 (a : Int))) ∧ Below w.heap.size w W) (first | exact ⟨⟨⟨c0, c1⟩, cA⟩, (Below.refl _ _).drew⟩ | exact step_heldD hb1 (by assumption))
    (first
      | (go_at_call 143; refine (valueInRow_int _ _ hx _ (by omega) (by omega) _).mono ?_; rintro e w' ⟨rfl, hb1⟩))
  go_wp2
  go_ret
  exact ⟨by rw [← HV.out]; rfl, (‹(_ ∧ _) ∧ Below _ _ _›).2⟩

theorem derRows {n : Int} {x R : Nat} (ok : FOk n x R) (a : Nat) (ha : a < 16) (b ba : Nat) (W : World) (hb : FBox b n x W) (cA : W.cell? ⟨ba, 0, none⟩ = some (.int .i64 (a : Int))) :
    Calls Try.prog 151 #[.int .i64 n, .func (.func 152) #[] #[.pointer (some ⟨b, 0, none⟩), .pointer (some ⟨ba, 0, none⟩)]] W fun e w' => e = .returned (.agg #[.int .i64 n, .int .i64 (sumN (derV x a) R : Int)]) ∧ Below W.heap.size W w' := by
  have r16 := ok.r16
  have F := funcByRows_any n ok.h0 ok.h4 R ok.r0 ok.r16 ok.hR 152 #[.pointer (some ⟨b, 0, none⟩), .pointer (some ⟨ba, 0, none⟩)] (enters_of Try.func152 (by kernel_rfl) rfl)
    (derV x a) (fun r _ => derV_le _ _ _) W (Lib.hid fun W' hW r hr => Derivative1_any ok a r ha (by omega) b ba W' (hb.keep hW) (kc hW cA))
  rwa [orBits_sum ok.r0 _ (fun r _ => derV_le _ _ _)] at F

/-- The boxes of the program's derivative. -/
theorem derBox (n b a : Int) (w : World) : ∃ W1, ((w.alloc (.cells #[.int .i64 n, .int .i64 b] 25)).alloc (.cells #[.int .i64 a] 2)).alloc (.cells #[.int .i64 0, .int .i64 0] 25) = W1 ∧
    (W1.cell? ⟨w.heap.size, 0, none⟩ = some (.int .i64 n) ∧ W1.cell? ⟨w.heap.size, 1, none⟩ = some (.int .i64 b) ∧ W1.cell? ⟨w.heap.size + 1, 0, none⟩ = some (.int .i64 a)) ∧
    (W1.cell? ⟨w.heap.size + 1 + 1, 0, none⟩ = some (.int .i64 0) ∧ W1.cell? ⟨w.heap.size + 1 + 1, 1, none⟩ = some (.int .i64 0)) ∧
    (W1.frozen? ⟨w.heap.size + 1 + 1, 0, none⟩ = false ∧ W1.frozen? ⟨w.heap.size + 1 + 1, 1, none⟩ = false) ∧ Below w.heap.size w W1 :=
  ⟨_, rfl, ⟨by simp [go_sem], by simp [go_sem], by simp [go_sem]⟩, ⟨by simp [go_sem], by simp [go_sem]⟩, ⟨by simp [go_sem], by simp [go_sem]⟩, balloc (balloc (bnew _ _) _) _⟩

set_option maxRecDepth 100000 in
set_option maxHeartbeats 2000000 in
theorem implDerivativeBy_no {n b a : Int} (h : isF n b = false) (w : World) :
    Calls Try.prog 19 #[.agg #[.int .i64 n, .int .i64 b], .int .i64 a] w fun e w' => e = .returned (.tuple #[.agg #[.int .i64 0, .int .i64 0], .int .i64 1]) ∧ Below w.heap.size w w' := by
  obtain ⟨W1, hW1, ⟨p0, p1, pa⟩, ⟨c0, c1⟩, ⟨f0, f1⟩, hB⟩ := derBox n b a w
  go_enter Try.func19, Try.ntmps19
  go_wp2_with (first
    | (go_at_call 16; refine (IsFunc_is h _).mono ?_; rintro e w2 ⟨rfl, hb2⟩; have d0 := kc hb2 c0; have d1 := kc hb2 c1; have g0 := kf hb2 c0 f0; have g1 := kf hb2 c1 f1; have hB2 := bthen hB hb2))
  exact bodyPost_ret (v := .tuple #[.agg #[.int .i64 0, .int .i64 0], .int .i64 1]) (by simp [results, Try.results19, go_sem, d0, d1]) rfl ⟨rfl, (hB2.setCell (p := ⟨w.heap.size + 1 + 1, 0, none⟩) (by simp; omega) _).setCell (p := ⟨w.heap.size + 1 + 1, 1, none⟩) (by simp; omega) _⟩

set_option maxRecDepth 100000 in
set_option maxHeartbeats 4000000 in
theorem implDerivativeBy_out {n a : Int} {x R : Nat} (ok : FOk n x R) (hr : a < 0 ∨ (R : Int) - 1 < a) (w : World) :
    Calls Try.prog 19 #[.agg #[.int .i64 n, .int .i64 (x : Int)], .int .i64 a] w fun e w' => e = .returned (.tuple #[.agg #[.int .i64 0, .int .i64 0], .int .i64 2]) ∧ Below w.heap.size w w' := by
  have h := ok.is
  rcases (show a < 0 ∨ (0 ≤ a ∧ (R : Int) - 1 < a) by omega) with hr | ⟨hr0, hr⟩
  · have hd : decide (a < 0) = true := by simpa using hr
    obtain ⟨W1, hW1, ⟨p0, p1, pa⟩, ⟨c0, c1⟩, ⟨f0, f1⟩, hB⟩ := derBox n x a w
    go_enter Try.func19, Try.ntmps19
    go_wp2_with (first
      | (go_at_call 16; refine (IsFunc_is h _).mono ?_; rintro e w2 ⟨rfl, hb2⟩; have q0 := kc hb2 p0; have qa := kc hb2 pa; have d0 := kc hb2 c0; have d1 := kc hb2 c1; have g0 := kf hb2 c0 f0; have g1 := kf hb2 c1 f1; have hB2 := bthen hB hb2; clear p0 p1 pa c0 c1 f0 f1))
    go_quiet (first | (go_at_call 150; exact quiet_eq (lastRow_is ok.h0 ok.h4 ok.r0 ok.r16 ok.hR _)))
    go_wp2
    exact bodyPost_ret (v := .tuple #[.agg #[.int .i64 0, .int .i64 0], .int .i64 2]) (by simp [results, Try.results19, go_sem, d0, d1]) rfl ⟨rfl, ((below_drewN hB2 _).setCell (p := ⟨w.heap.size + 1 + 1, 0, none⟩) (by simp; omega) _).setCell (p := ⟨w.heap.size + 1 + 1, 1, none⟩) (by simp; omega) _⟩
  · have hd : decide (a < 0) = false := by simpa using hr0
    have hd2 : decide ((R : Int) - 1 < a) = true := by simpa using hr
    obtain ⟨W1, hW1, ⟨p0, p1, pa⟩, ⟨c0, c1⟩, ⟨f0, f1⟩, hB⟩ := derBox n x a w
    go_enter Try.func19, Try.ntmps19
    go_wp2_with (first
      | (go_at_call 16; refine (IsFunc_is h _).mono ?_; rintro e w2 ⟨rfl, hb2⟩; have q0 := kc hb2 p0; have qa := kc hb2 pa; have d0 := kc hb2 c0; have d1 := kc hb2 c1; have g0 := kf hb2 c0 f0; have g1 := kf hb2 c1 f1; have hB2 := bthen hB hb2; clear p0 p1 pa c0 c1 f0 f1))
    go_quiet (first | (go_at_call 150; exact quiet_eq (lastRow_is ok.h0 ok.h4 ok.r0 ok.r16 ok.hR _)))
    go_wp2
    exact bodyPost_ret (v := .tuple #[.agg #[.int .i64 0, .int .i64 0], .int .i64 2]) (by simp [results, Try.results19, go_sem, d0, d1]) rfl ⟨rfl, ((below_drewN hB2 _).setCell (p := ⟨w.heap.size + 1 + 1, 0, none⟩) (by simp; omega) _).setCell (p := ⟨w.heap.size + 1 + 1, 1, none⟩) (by simp; omega) _⟩

set_option maxRecDepth 100000 in
set_option maxHeartbeats 4000000 in
theorem implDerivativeBy_yes {n : Int} {x R a : Nat} (ok : FOk n x R) (ha : a < R) (w : World) :
    Calls Try.prog 19 #[.agg #[.int .i64 n, .int .i64 (x : Int)], .int .i64 (a : Int)] w fun e w' => e = .returned (.tuple #[.agg #[.int .i64 n, .int .i64 (sumN (derV x a) R : Int)], .int .i64 0]) ∧ Below w.heap.size w w' := by
  have h := ok.is
  have r16 := ok.r16
  have hd : decide ((a : Int) < 0) = false := by simp
  have hd2 : decide ((R : Int) - 1 < (a : Int)) = false := by simp; omega
  obtain ⟨W1, hW1, ⟨p0, p1, pa⟩, ⟨c0, c1⟩, ⟨f0, f1⟩, hB⟩ := derBox n x a w
  go_enter Try.func19, Try.ntmps19
  go_wp2_with (first
    | (go_at_call 16; refine (IsFunc_is h _).mono ?_; rintro e w2 ⟨rfl, hb2⟩; have q0 := kc hb2 p0; have q1 := kc hb2 p1; have qa := kc hb2 pa; have d0 := kc hb2 c0; have d1 := kc hb2 c1; have g0 := kf hb2 c0 f0; have g1 := kf hb2 c1 f1; have hB2 := bthen hB hb2; clear p0 p1 pa c0 c1 f0 f1))
  go_quiet (first | (go_at_call 150; exact quiet_eq (lastRow_is ok.h0 ok.h4 ok.r0 ok.r16 ok.hR _)))
  obtain ⟨w4, hw4⟩ : ∃ w4, w2.drewN nq = w4 := ⟨_, rfl⟩
  have hbq : Below w2.heap.size w2 w4 := by rw [← hw4]; exact below_drewN (Below.refl _ _) _
  have q0 := kc hbq q0
  have q1 := kc hbq q1
  have qa := kc hbq qa
  have g0 := kf hbq d0 g0
  have g1 := kf hbq d1 g1
  have d0 := kc hbq d0
  have d1 := kc hbq d1
  have hB2 := bthen hB2 hbq
  rw [hw4]
  clear hw4 hW1
  go_wp2_with (first
    | (go_at_call 151; refine (derRows ok a (by omega) w.heap.size (w.heap.size + 1) _ ⟨q0, q1⟩ qa).mono ?_; rintro e w3 ⟨rfl, hb3⟩; have e0 := kc hb3 d0; have e1 := kc hb3 d1; have k0 := kf hb3 d0 g0; have k1 := kf hb3 d1 g1; have hB3 := bthen hB2 hb3))
  exact bodyPost_ret (v := .tuple #[.agg #[.int .i64 n, .int .i64 (sumN (derV x a) R : Int)], .int .i64 0]) (by simp [results, Try.results19, go_sem, e0, e1]) rfl ⟨rfl, (hB3.setCell (p := ⟨w.heap.size + 1 + 1, 0, none⟩) (by simp; omega) _).setCell (p := ⟨w.heap.size + 1 + 1, 1, none⟩) (by simp; omega) _⟩

/-- An append to a list of one's own, within a region that draws. -/
theorem step_append_own {P : Program} (w : World) {ops : Array Oper} {o : Oper} {a : Act} {K : Act → World → Prop} {Q : Exit → Act → World → Prop} {E : Prop}
    (hg : o.guard = none) (s x : Operand) (t : TypeId) (hop : o.op = Op.call { callee := Callee.builtin Builtin.append, args := #[s, x], argTypes := #[t, t] })
    (base : Nat) (e : TypeId) (i : TypeInfo) (z : Value) (size bytes : Nat) (h1 : P.underlying t = some (.slice e)) (h2 : P.info? e = some i) (h3 : i.zero = some z) (h4 : i.size = size) (h5 : i.bytes = bytes) (h6 : z.cells.size = size) (h7 : 0 < size)
    (v : Value) (k : Nat) (xs : List Value) (hs : a.eval s = v) (hown : w.ownsRow base e size v k xs) (ad : Addr) (m c : Nat) (news : List Value) (hx : a.eval x = .slice (some ad) m c) (hn : news.length = m * size)
    (hc : ∀ j u, news[j]? = some u → w.cell? (ad.add j) = some u) (h1c : ∀ u ∈ news, u.oneCell' = true) (b1 : k + m ≤ maxLen) (b2 : (k + m) * bytes ≤ 140737488355328) (b3 : base ≤ w.heap.size)
    (hK : ∀ v' w', w'.ownsRow base e size v' (k + m) (xs ++ news) → w.grownBy w' v.ownBlock → K (a.put o.dst v') w') :
    if Region.wanted o (yielded ops a.tmps) = true then Oper.wp P o a w K Q else E := by
  rw [if_pos (by simp [Region.wanted, hg])]
  obtain ⟨v', w', hrun, r1, r2, _⟩ := run_append_own (P := P) w base t o.type e i z size bytes h1 h2 h3 h4 h5 h6 h7 v k xs hown ad m c news hn hc h1c b1 b2 b3
  unfold Oper.wp
  simp [execOp, hop, resolve, invoke, builtin, hs, hx, hrun, Result.andThen]
  exact hK _ _ r1 r2

/-- The boxes of the model's derivative. -/
theorem derBoxS (n b : Int) (w : World) : ∃ W1, (w.alloc (.cells #[.int .i64 n, .int .i64 b] 25)).alloc (.cells #[.int .i64 0, .int .i64 0] 25) = W1 ∧
    (W1.cell? ⟨w.heap.size, 0, none⟩ = some (.int .i64 n) ∧ W1.cell? ⟨w.heap.size, 1, none⟩ = some (.int .i64 b)) ∧
    (W1.cell? ⟨w.heap.size + 1, 0, none⟩ = some (.int .i64 0) ∧ W1.cell? ⟨w.heap.size + 1, 1, none⟩ = some (.int .i64 0)) ∧
    (W1.frozen? ⟨w.heap.size + 1, 0, none⟩ = false ∧ W1.frozen? ⟨w.heap.size + 1, 1, none⟩ = false) ∧ Below w.heap.size w W1 :=
  ⟨_, rfl, ⟨by simp [go_sem], by simp [go_sem]⟩, ⟨by simp [go_sem], by simp [go_sem]⟩, ⟨by simp [go_sem], by simp [go_sem]⟩, balloc (bnew _ _) _⟩

set_option maxRecDepth 100000 in
set_option maxHeartbeats 2000000 in
theorem specDerivativeBy_no {n b a : Int} (h : isF n b = false) (w : World) :
    Calls Try.prog 20 #[.agg #[.int .i64 n, .int .i64 b], .int .i64 a] w fun e w' => e = .returned (.tuple #[.agg #[.int .i64 0, .int .i64 0], .int .i64 1]) ∧ Below w.heap.size w w' := by
  obtain ⟨W1, hW1, ⟨p0, p1⟩, ⟨c0, c1⟩, ⟨f0, f1⟩, hB⟩ := derBoxS n b w
  go_enter Try.func20, Try.ntmps20
  go_wp2_with (first
    | (go_at_call 153; refine (l01Is_is h _).mono ?_; rintro e w2 ⟨rfl, hb2⟩; have d0 := kc hb2 c0; have d1 := kc hb2 c1; have g0 := kf hb2 c0 f0; have g1 := kf hb2 c1 f1; have hB2 := bthen hB hb2))
  exact bodyPost_ret (v := .tuple #[.agg #[.int .i64 0, .int .i64 0], .int .i64 1]) (by simp [results, Try.results20, go_sem, d0, d1]) rfl ⟨rfl, (hB2.setCell (p := ⟨w.heap.size + 1, 0, none⟩) (by simp) _).setCell (p := ⟨w.heap.size + 1, 1, none⟩) (by simp) _⟩

set_option maxRecDepth 100000 in
set_option maxHeartbeats 4000000 in
theorem specDerivativeBy_out {n a : Int} {x R : Nat} (ok : FOk n x R) (hr : inB a 0 ((R : Int) - 1) = false) (w : World) :
    Calls Try.prog 20 #[.agg #[.int .i64 n, .int .i64 (x : Int)], .int .i64 a] w fun e w' => e = .returned (.tuple #[.agg #[.int .i64 0, .int .i64 0], .int .i64 2]) ∧ Below w.heap.size w w' := by
  have h := ok.is
  have r16 := ok.r16
  obtain ⟨W1, hW1, ⟨p0, p1⟩, ⟨c0, c1⟩, ⟨f0, f1⟩, hB⟩ := derBoxS n x w
  go_enter Try.func20, Try.ntmps20
  go_wp2_with (first
    | (go_at_call 153; refine (l01Is_is h _).mono ?_; rintro e w2 ⟨rfl, hb2⟩; have q0 := kc hb2 p0; have d0 := kc hb2 c0; have d1 := kc hb2 c1; have g0 := kf hb2 c0 f0; have g1 := kf hb2 c1 f1; have hB2 := bthen hB hb2)
    | (go_at_call 148; refine (l01Rows_is ok.h0 ok.h4 ok.hR _).mono ?_; rintro e w' ⟨rfl, rfl⟩)
    | (go_at_call 154; refine (l01In_is hr _).mono ?_; rintro e w' ⟨rfl, rfl⟩))
  exact bodyPost_ret (v := .tuple #[.agg #[.int .i64 0, .int .i64 0], .int .i64 2]) (by simp [results, Try.results20, go_sem, d0, d1]) rfl ⟨rfl, (hB2.setCell (p := ⟨w.heap.size + 1, 0, none⟩) (by simp) _).setCell (p := ⟨w.heap.size + 1, 1, none⟩) (by simp) _⟩

set_option maxRecDepth 100000 in
set_option maxHeartbeats 8000000 in
theorem specDerivativeBy_yes {n : Int} {x R a : Nat} (ok : FOk n x R) (ha : a < R) (w : World) :
    Calls Try.prog 20 #[.agg #[.int .i64 n, .int .i64 (x : Int)], .int .i64 (a : Int)] w fun e w' => e = .returned (.tuple #[.agg #[.int .i64 n, .int .i64 (sumN (derV x a) R : Int)], .int .i64 0]) ∧ Below w.heap.size w w' := by
  obtain ⟨i0, hi, hz0, hz1, hz2⟩ := info_parts infoI
  have h := ok.is
  have r0 := ok.r0
  have r16 := ok.r16
  have hin : inB (a : Int) 0 ((R : Int) - 1) = true := inB_true (by omega) (by omega)
  obtain ⟨W1, hW1, ⟨p0, p1⟩, ⟨c0, c1⟩, ⟨f0, f1⟩, hB⟩ := derBoxS n x w
  go_enter Try.func20, Try.ntmps20
  go_wp2_with (first
    | (go_at_call 153; refine (l01Is_is h _).mono ?_; rintro e w2 ⟨rfl, hb2⟩; have q0 := kc hb2 p0; have q1 := kc hb2 p1; have d0 := kc hb2 c0; have d1 := kc hb2 c1; have g0 := kf hb2 c0 f0; have g1 := kf hb2 c1 f1; have hB2 := bthen hB hb2)
    | (go_at_call 148; refine (l01Rows_is ok.h0 ok.h4 ok.hR _).mono ?_; rintro e w' ⟨rfl, rfl⟩)
    | (go_at_call 154; refine (l01In_is hin _).mono ?_; rintro e w' ⟨rfl, rfl⟩))
  clear hW1
  have hlt2 : w.heap.size < w2.heap.size := cell_lt q0
  have HC := Lib.hid (show (w2.cell? ⟨w.heap.size + 1, 0, none⟩ = some (.int .i64 0) ∧ w2.cell? ⟨w.heap.size + 1, 1, none⟩ = some (.int .i64 0)) ∧ (w2.frozen? ⟨w.heap.size + 1, 0, none⟩ = false ∧ w2.frozen? ⟨w.heap.size + 1, 1, none⟩ = false) from ⟨⟨d0, d1⟩, g0, g1⟩)
  clear d0 d1 g0 g1 p0 p1 c0 c1 f0 f1 hb2 hin
  go_loopw [6, 7] (fun s r' wr => ∃ k : Nat, k ≤ R ∧ r' = .int .i64 k ∧ Hid (Owns wr w2.heap.size s (natL (derV x a) k)) ∧ Below w2.heap.size w2 wr)
    (fun _ r' _ => R - (intOf r').toNat)
  case atStart => exact ⟨0, by omega, rfl, Lib.hid (World.ownsRow_lit w2 #[] 0 (Nat.le_refl _) (by decide) rfl), bnew _ _⟩
  case round =>
    obtain ⟨k, hk, rfl, HOWN, hN⟩ := hrel
    have hsz := hN.size
    have u0 := kc hN q0
    have u1 := kc hN q1
    by_cases hlt : k < R
    · have HX := xor_num k a (by omega) (by omega)
      have h4 : k ^^^ a < 2 ^ 4 := Nat.xor_lt_two_pow (show k < 2 ^ 4 by omega) (show a < 2 ^ 4 by omega)
      have b0 : 0 ≤ bits .xor .i64 (k : Int) (a : Int) := by rw [HX]; omega
      have b1 : bits .xor .i64 (k : Int) (a : Int) < 62 := by rw [HX]; omega
      have hq1 := bitN_le x ((k : Int)).toNat
      have hq2 := bitN_le x (bits .xor .i64 (k : Int) (a : Int)).toNat
      have hq3 := bitN_le x k
      have HV := Lib.hid (show (IntKind.i64.wrap ((bitN x k : Int) + (bitN x (bits .xor .i64 (k : Int) (a : Int)).toNat : Int))).tmod 2 = (derV x a k : Int) by
        rw [wrap64_small (by omega) (by omega), Int.tmod_eq_emod_of_nonneg (by omega), HX, Int.toNat_natCast]; unfold derV; omega)
      have hx := ok.hx
      have hlen := natL_len (derV x a) k
      have HS := Lib.hid (natL_succ (derV x a) k)
      clear HX h4
      go_wp2_with (go_at_call 148; refine (l01Rows_is ok.h0 ok.h4 ok.hR _).mono ?_; rintro e w' ⟨rfl, rfl⟩)
      have HD := Lib.hid (show Owns wr.drew w2.heap.size _ (natL (derV x a) k) from HOWN.out)
      have hND := hN.drew
      clear HOWN hN
      go_region_law (first
        | (refine step_append_own _ rfl _ _ 30 rfl w2.heap.size 2 i0 (.int .i64 0) 1 8 Try.underlying30 hi hz0 hz1 hz2 rfl (by decide) _ _ _ rfl (O6.alloc _) ⟨w5.heap.size, 0, none⟩ 1 1 [.int .i64 (derV x a k : Int)] rfl rfl (by rw [← HV.out]; exact cell_one_new _ _ _) (one_cell_int _) (by unfold maxLen; omega) (by omega) (by simp; omega) ?_; intro v' w1 hown' hgrow)
        | (go_simp; go_at_call 155; refine (l01At_int' _ _ hx _ (by omega) (by omega) _).mono ?_; rintro e w5 ⟨rfl, hb5⟩; (first | (with_reducible have O5 := Lib.hid (O5.out.below hb5)) | (have O5 := Lib.hid (HD.out.below hb5))); (first | (with_reducible have N5 := bthen N5 hb5) | (have N5 := bthen hND hb5)); (first | (with_reducible have u0 := kc hb5 u0) | (have u0 := kcd hb5 u0)); (first | (with_reducible have u1 := kc hb5 u1) | (have u1 := kcd hb5 u1)); have hs5 := N5.size; have O6 : World.ownsRow _ _ _ _ _ _ _ := O5.out))
      all_goals
        have hN' := (balloc N5 (.cells #[.int .i64 (derV x a k : Int)] 2)).grown (by rw [HV.out] at hgrow; exact hgrow) (by simp; omega) (fun j e => (O6.lt j e).1)
        clear hgrow O6 O5 N5
        go_wp2
        go_roundw
        case rel => exact ⟨k + 1, by omega, by go_num, Lib.hid (by rw [HS.out]; unfold Owns; rw [ints_snoc, List.length_append]; exact hown'), hN'⟩
        case measure => simp [intOf]; omega
    · obtain rfl : R = k := by omega
      obtain ⟨g, cap, rfl, hg, hc⟩ := owned_cells r0 HOWN.out
      obtain ⟨⟨d0, d1⟩, g0, g1⟩ := HC.out
      have v0 := kc hN d0
      have v1 := kc hN d1
      have y0 := kf hN d0 g0
      have y1 := kf hN d1 g1
      have hBr := bthen hB2 hN
      clear d0 d1 g0 g1 HOWN hN
      go_wp2_with (first
        | (go_at_call 148; refine (l01Rows_is ok.h0 ok.h4 ok.hR _).mono ?_; rintro e w' ⟨rfl, rfl⟩)
        | (go_at_call 156; refine (l01Of_any ok.h0 ok.h4 r0 r16 ok.hR g cap (derV x a) (fun r _ => derV_le _ _ _) _ hg hc).mono ?_; rintro e w6 ⟨rfl, hb6⟩; have o0 := kc hb6 v0; have o1 := kc hb6 v1; have i0 := kf hb6 v0 y0; have i1 := kf hb6 v1 y1; have hB6 := bthen hBr hb6; clear v0 v1 y0 y1))
      exact bodyPost_ret (v := .tuple #[.agg #[.int .i64 n, .int .i64 (sumN (derV x a) R : Int)], .int .i64 0]) (by simp [results, Try.results20, go_sem, o0, o1]) rfl ⟨rfl, (hB6.setCell (p := ⟨w.heap.size + 1, 0, none⟩) (by simp) _).setCell (p := ⟨w.heap.size + 1, 1, none⟩) (by simp) _⟩

theorem bothDerivativeBy (n b a : Int) (_ : (Lit.int .i64 n).wf = true) (_ : (Lit.int .i64 b).wf = true) (_ : (Lit.int .i64 a).wf = true) : ∃ rn rb rc : Int,
    (∀ w, Calls Try.prog 20 #[.agg #[.int .i64 n, .int .i64 b], .int .i64 a] w fun e w' => e = .returned (.tuple #[.agg #[.int .i64 rn, .int .i64 rb], .int .i64 rc]) ∧ Below w.heap.size w w') ∧
    (∀ w, Calls Try.prog 19 #[.agg #[.int .i64 n, .int .i64 b], .int .i64 a] w fun e w' => e = .returned (.tuple #[.agg #[.int .i64 rn, .int .i64 rb], .int .i64 rc]) ∧ Below w.heap.size w w') := by
  cases h : isF n b
  · exact ⟨_, _, _, specDerivativeBy_no h, implDerivativeBy_no h⟩
  · obtain ⟨x, R, rfl, ok⟩ := fok h
    cases hr : inB a 0 ((R : Int) - 1)
    · exact ⟨_, _, _, specDerivativeBy_out ok hr, implDerivativeBy_out ok (by have : ¬ (0 ≤ a ∧ a ≤ (R : Int) - 1) := by simpa [inB] using hr
                                                                              omega)⟩
    · have h2 : 0 ≤ a ∧ a ≤ (R : Int) - 1 := by simpa [inB] using hr
      obtain ⟨c, rfl⟩ := Int.eq_ofNat_of_zero_le h2.1
      exact ⟨_, _, _, specDerivativeBy_yes ok (by omega), implDerivativeBy_yes ok (by omega)⟩
end Go.Proofs.Ytenbokdcdokhiab

/- I1:
  The two closures of PermuteFunc. -/
namespace Go.Proofs.Ytenbokdcdokhiab
open Go.RowKit
set_option linter.unusedVariables false

/-- What a permutation of the variables says, number by number: within 0..3. -/
def permI (xs : List Int) (i : Nat) : Nat := (xs[i]?.getD 0).toNat

set_option maxRecDepth 100000 in
set_option maxHeartbeats 1000000 in
theorem PermuteFunc2_any (br bp r g cap m i : Nat) (v : Nat) (hr : r < 62) (hv : v < 62) (him : i < m) (hm : m ≤ 4) (w : World) (hcr : w.cell? ⟨br, 0, none⟩ = some (.int .i64 (r : Int))) (hcp : w.cell? ⟨bp, 0, none⟩ = some (.slice (some ⟨g, 0, none⟩) m cap)) (hci : w.cell? ⟨g, i, none⟩ = some (.int .i64 (v : Int))) :
    Calls Try.prog 213 #[.int .i64 (i : Int), .pointer (some ⟨br, 0, none⟩), .pointer (some ⟨bp, 0, none⟩)] w fun e w' => e = .returned (.int .i64 (bitN r v : Int)) ∧ Below w.heap.size w w' := by
  go_enter Try.func213, Try.ntmps213
  go_wp2_with fail
  go_region_held3 (fun w' => w'.cell? ⟨br, 0, none⟩ = some (.int .i64 (r : Int)) ∧ w'.cell? ⟨bp, 0, none⟩ = some (.slice (some ⟨g, 0, none⟩) m cap) ∧ w'.cell? ⟨g, i, none⟩ = some (.int .i64 (v : Int))) (exact ⟨hcr, hcp, hci⟩)
    (first
      | (go_at_call 208; refine (digitOf_any _ _ (by omega) hv _).mono ?_; rintro e w' ⟨rfl, rfl⟩))
  go_wp2
  go_ret
  exact ⟨rfl, (Below.refl _ _).drew⟩

set_option maxRecDepth 100000 in
set_option maxHeartbeats 1000000 in
theorem PermuteFunc1_any (bf bp r g cap m x R : Nat) (pv : Nat → Nat) (ok : FOk (m : Int) x R) (hr : r < 62) (hm : m ≤ 4) (hp : ∀ i, i < m → pv i < 62) (w : World) (hf : FBox bf (m : Int) x w) (hcp : 0 < m → w.cell? ⟨bp, 0, none⟩ = some (.slice (some ⟨g, 0, none⟩) m cap)) (hci : ∀ i, i < m → w.cell? ⟨g, i, none⟩ = some (.int .i64 (pv i : Int))) :
    Calls Try.prog 212 #[.int .i64 (r : Int), .pointer (some ⟨bf, 0, none⟩), .pointer (some ⟨bp, 0, none⟩)] w fun e w' => e = .returned (.int .i64 (bitN x (sumN (fun i => bitN r (pv i)) m) : Int)) ∧ Below w.heap.size w w' := by
  have hx := ok.hx
  have hn4 := ok.h4
  have hrow : sumN (fun i => bitN r (pv i)) m < 62 := by
    have h1 := sumN_lt (fun i => bitN r (pv i)) m (fun i _ => bitN_le _ _)
    have h2 : (2 : Nat) ^ m ≤ 2 ^ 4 := Nat.pow_le_pow_right (by decide) hm
    omega
  obtain ⟨c0, c1⟩ := hf
  obtain ⟨W1, hW1⟩ : ∃ W1, w.alloc (.cells #[.int .i64 (r : Int)] 2) = W1 := ⟨_, rfl⟩
  have cr : W1.cell? ⟨w.heap.size, 0, none⟩ = some (.int .i64 (r : Int)) := by rw [← hW1]; simp [go_sem]
  have hB : Below w.heap.size w W1 := by rw [← hW1]; exact bnew _ _
  have RW := Lib.hid (fun W (hW : Below W1.heap.size W1 W) => rowWith_any m hm 213 #[.pointer (some ⟨w.heap.size, 0, none⟩), .pointer (some ⟨bp, 0, none⟩)] (enters_of Try.func213 (by kernel_rfl) rfl)
    (fun i => bitN r (pv i)) (fun i _ => bitN_le _ _) W (Lib.hid fun W' hW' i hi => PermuteFunc2_any w.heap.size bp r g cap m i (pv i) hr (hp i hi) hi hm W' (kc hW' (kc hW cr)) (kc hW' (kc hW (kc hB (hcp (by omega))))) (kc hW' (kc hW (kc hB (hci i hi))))))
  have d0 := kc hB c0
  have d1 := kc hB c1
  clear c0 c1 hci hcp
  go_enter Try.func212, Try.ntmps212
  go_wp2_with fail
  clear hW1
  go_region_held3 (fun w' => (w'.cell? ⟨bf, 0, none⟩ = some (.int .i64 (m : Int)) ∧ w'.cell? ⟨bf, 1, none⟩ = some (.int .i64 (x : Int))) ∧ Below W1.heap.size W1 w') (first | exact ⟨⟨d0, d1⟩, (Below.refl _ _).drew⟩ | exact step_heldW hb5 (by assumption))
    (first
      | (go_at_call 203; refine (RW.out _ (‹(_ ∧ _) ∧ Below W1.heap.size W1 _›).2).mono ?_; rintro e w5 ⟨rfl, hb5⟩)
      | (go_at_call 143; refine (valueInRow_any _ _ _ hx hrow _).mono ?_; rintro e w5 ⟨rfl, hb5⟩))
  have hB3 := bthen hB (‹(_ ∧ _) ∧ Below W1.heap.size W1 _›).2
  go_wp2
  go_ret
  exact ⟨rfl, hB3⟩
end Go.Proofs.Ytenbokdcdokhiab

/- I2:
  isPermutation. -/
namespace Go.Proofs.Ytenbokdcdokhiab
open Go.RowKit
set_option linter.unusedVariables false

/-- The first j numbers of a list are variables of n, each once. -/
def PermTo (n : Int) (xs : List Int) (j : Nat) : Prop := ∀ i, i < j → (0 ≤ xs[i]?.getD 0 ∧ xs[i]?.getD 0 ≤ n - 1) ∧ ∀ k, k < i → xs[k]?.getD 0 ≠ xs[i]?.getD 0

theorem PermTo.step {n : Int} {xs : List Int} {j : Nat} (h : PermTo n xs j) (h1 : 0 ≤ xs[j]?.getD 0 ∧ xs[j]?.getD 0 ≤ n - 1) (h2 : ¬ ∃ i, i < j ∧ xs[i]?.getD 0 = xs[j]?.getD 0) : PermTo n xs (j + 1) := by
  intro i hi
  by_cases e : i = j
  · subst e
    exact ⟨h1, fun k hk he => h2 ⟨k, hk, he⟩⟩
  · exact h i (by omega)

theorem PermTo.not_in {n : Int} {xs : List Int} {j l : Nat} (hj : j < l) (h1 : ¬ (0 ≤ xs[j]?.getD 0 ∧ xs[j]?.getD 0 ≤ n - 1)) : ¬ PermTo n xs l := fun h => h1 (h j hj).1
theorem PermTo.not_twice {n : Int} {xs : List Int} {j l : Nat} (hj : j < l) (h1 : ∃ i, i < j ∧ xs[i]?.getD 0 = xs[j]?.getD 0) : ¬ PermTo n xs l := fun h => by
  obtain ⟨i, hi, e⟩ := h1
  exact (h j hj).2 i hi e

/-- What a row of marks says: which numbers stand among the first j. -/
def seenB (xs : List Int) (j k : Nat) : Bool := (List.range j).any fun i => xs[i]?.getD 0 == (k : Int)
theorem seenB_true {xs : List Int} {j k : Nat} : seenB xs j k = true ↔ ∃ i, i < j ∧ xs[i]?.getD 0 = (k : Int) := by simp [seenB]
theorem seenB_zero (xs : List Int) (k : Nat) : seenB xs 0 k = false := by simp [seenB]
theorem seenB_same {xs : List Int} {j k : Nat} (h : xs[j]?.getD 0 = (k : Int)) : seenB xs (j + 1) k = true := seenB_true.2 ⟨j, by omega, h⟩
theorem seenB_other {xs : List Int} {j k : Nat} (h : xs[j]?.getD 0 ≠ (k : Int)) : seenB xs (j + 1) k = seenB xs j k := by
  apply Bool.eq_iff_iff.2
  rw [seenB_true, seenB_true]
  constructor
  · rintro ⟨i, hi, e⟩
    by_cases hij : i = j
    · exact absurd (hij ▸ e) h
    · exact ⟨i, by omega, e⟩
  · rintro ⟨i, hi, e⟩
    exact ⟨i, by omega, e⟩

set_option maxRecDepth 100000 in
set_option maxHeartbeats 2000000 in
theorem isPermutation_any {base : Nat} {s : Value} {xs : List Int} (hl : xs.length ≤ 1048576) {m : Nat} (hm : m ≤ 4) (b : Bool) (hb : b = true ↔ (xs.length = m ∧ PermTo (m : Int) xs xs.length)) (w : World) (h : Owns w base s xs) :
    Calls Try.prog 211 #[.int .i64 (m : Int), s] w fun e w' => e = .returned (.bool b) ∧ Below w.heap.size w w' := by
  obtain ⟨W1, hW1⟩ : ∃ W1, w.alloc (.cells #[.bool false, .bool false, .bool false, .bool false] 166) = W1 := ⟨_, rfl⟩
  have c0 : W1.cell? ⟨w.heap.size, 0, none⟩ = some (.bool false) := by rw [← hW1]; simp [go_sem]
  have c1 : W1.cell? ⟨w.heap.size, 1, none⟩ = some (.bool false) := by rw [← hW1]; simp [go_sem]
  have c2 : W1.cell? ⟨w.heap.size, 2, none⟩ = some (.bool false) := by rw [← hW1]; simp [go_sem]
  have c3 : W1.cell? ⟨w.heap.size, 3, none⟩ = some (.bool false) := by rw [← hW1]; simp [go_sem]
  have f0 : W1.frozen? ⟨w.heap.size, 0, none⟩ = false := by rw [← hW1]; simp [go_sem]
  have f1 : W1.frozen? ⟨w.heap.size, 1, none⟩ = false := by rw [← hW1]; simp [go_sem]
  have f2 : W1.frozen? ⟨w.heap.size, 2, none⟩ = false := by rw [← hW1]; simp [go_sem]
  have f3 : W1.frozen? ⟨w.heap.size, 3, none⟩ = false := by rw [← hW1]; simp [go_sem]
  have hB : Below w.heap.size w W1 := by rw [← hW1]; exact bnew _ _
  have hC : Hid (∀ k, k < 4 → W1.cell? ⟨w.heap.size, k, none⟩ = some (.bool (seenB xs 0 k)) ∧ W1.frozen? ⟨w.heap.size, k, none⟩ = false) := Lib.hid fun k hk => by
    rw [seenB_zero]
    obtain rfl | rfl | rfl | rfl : k = 0 ∨ k = 1 ∨ k = 2 ∨ k = 3 := by omega
    · exact ⟨c0, f0⟩
    · exact ⟨c1, f1⟩
    · exact ⟨c2, f2⟩
    · exact ⟨c3, f3⟩
  clear c0 c1 c2 c3 f0 f1 f2 f3
  have HB := Lib.hid hb
  clear hb
  rcases h.shape with ⟨rfl, a, cap, rfl⟩ | ⟨hn, g, cap, rfl, hbg, hg, hc, hf⟩
  · clear h
    by_cases h0 : m = 0
    · subst h0
      obtain rfl : b = true := HB.out.2 ⟨rfl, fun i hi => by simp at hi⟩
      go_enter Try.func211, Try.ntmps211
      go_wp2
      refine wp_loop_rounds 1 ?_
      rw [rounds_succ]
      go_wp2
      go_ret
      exact ⟨rfl, hB⟩
    · obtain rfl : b = false := by
        cases b
        · rfl
        · exact absurd (HB.out.1 rfl).1 (by simp; omega)
      go_enter Try.func211, Try.ntmps211
      go_wp2
      go_ret
      exact ⟨rfl, Below.refl _ _⟩
  · clear h hf
    by_cases hne : xs.length = m
    · generalize hxl : xs.length = n at hl hn hc HB hne
      subst hne
      clear hxl
      go_enter Try.func211, Try.ntmps211
      go_wp2
      clear hW1
      go_loopw [14] (fun i' wr => ∃ j : Nat, j ≤ n ∧ i' = .int .i64 j ∧ Hid (PermTo (n : Int) xs j) ∧ Hid (∀ k, k < 4 → wr.cell? ⟨w.heap.size, k, none⟩ = some (.bool (seenB xs j k)) ∧ wr.frozen? ⟨w.heap.size, k, none⟩ = false) ∧ Below w.heap.size w wr) (fun i' _ => n - (intOf i').toNat)
      case atStart => exact ⟨0, Nat.zero_le _, rfl, Lib.hid (fun i hi => by omega), hC, hB⟩
      case round =>
        obtain ⟨j, hj, rfl, HP, HC, hN⟩ := hrel
        by_cases hlt : j < n
        · have hu0 := hc.out j hlt
          have hu := kc hN hu0
          clear hu0
          cases hin : inB (xs[j]?.getD 0) 0 ((n : Int) - 1)
          · obtain rfl : b = false := by
              cases b
              · rfl
              · exact absurd (HB.out.1 rfl).2 (PermTo.not_in hlt (by simpa [inB] using hin))
            go_wp2_with (go_at_call 188; refine (isVariable_is hin _).mono ?_; rintro e w' ⟨rfl, rfl⟩)
            go_ret
            exact ⟨rfl, hN⟩
          · have hin2 : 0 ≤ xs[j]?.getD 0 ∧ xs[j]?.getD 0 ≤ (n : Int) - 1 := by simpa [inB] using hin
            obtain ⟨q, hq⟩ : ∃ q : Nat, xs[j]?.getD 0 = (q : Int) := ⟨(xs[j]?.getD 0).toNat, by omega⟩
            have hq4 : q < 4 := by omega
            have hqn : q < n := by omega
            obtain ⟨hcq, hfq⟩ := HC.out q hq4
            have HQ := Lib.hid hq
            rw [hq] at hu hin
            cases hsn : seenB xs j q
            · rw [hsn] at hcq
              have HP2 := Lib.hid (HP.out.step hin2 (fun hex => by rw [hq] at hex; have := seenB_true.2 hex; rw [hsn] at this; cases this))
              clear hin2 hq hsn
              go_wp2_with (go_at_call 188; refine (isVariable_is hin _).mono ?_; rintro e w' ⟨rfl, rfl⟩)
              go_roundw
              case rel =>
                refine ⟨j + 1, by omega, by go_num, HP2, Lib.hid fun k hk => ?_, hN.setCell (p := ⟨w.heap.size, q, none⟩) (by simp) _⟩
                obtain ⟨hck, hfk⟩ := HC.out k hk
                by_cases hkq : k = q
                · subst hkq
                  rw [seenB_same HQ.out]
                  exact ⟨by simp [go_sem, hck], by simp [go_sem, hfk]⟩
                · have hne : q ≠ k := fun e => hkq e.symm
                  rw [seenB_other (by rw [HQ.out]; omega)]
                  exact ⟨by simp [go_sem, hck], by simp [go_sem, hfk]⟩
              case measure => simp [intOf]; omega
            · rw [hsn] at hcq
              obtain rfl : b = false := by
                cases b
                · rfl
                · exact absurd (HB.out.1 rfl).2 (PermTo.not_twice hlt (by rw [hq]; exact seenB_true.1 hsn))
              clear hin2 hq hsn
              go_wp2_with (go_at_call 188; refine (isVariable_is hin _).mono ?_; rintro e w' ⟨rfl, rfl⟩)
              go_ret
              exact ⟨rfl, hN⟩
        · obtain rfl : j = n := by omega
          obtain rfl : b = true := HB.out.2 ⟨by simp, HP.out⟩
          go_wp2
          go_ret
          exact ⟨rfl, hN⟩
    · obtain rfl : b = false := by
        cases b
        · rfl
        · exact absurd (HB.out.1 rfl).1 hne
      have hne2 : ((xs.length : Int) != (m : Int)) = true := by simp; omega
      have hL := Lib.hid (rfl : xs.length = xs.length)
      go_enter Try.func211, Try.ntmps211
      go_wp2
      go_ret
      exact ⟨rfl, Below.refl _ _⟩
end Go.Proofs.Ytenbokdcdokhiab

/- YG:
  Draws: an order of the variables (a list with each new number put in somewhere). -/
namespace Go.Proofs.Ytenbokdcdokhiab
open Go.RowKit
set_option linter.unusedVariables false
set_option linter.unusedSimpArgs false

set_option maxRecDepth 100000 in
set_option maxHeartbeats 2000000 in
theorem l01Own_ok (ys : List Int) (hl : ys.length ≤ 1000) (ad : Addr) (c : Nat) (w : World) (H : ∀ (j : Nat) (u : Value), (ints ys)[j]? = some u → w.cell? (ad.add j) = some u) :
    Calls Try.prog 261 #[.slice (some ad) ys.length c] w fun e w' => ∃ s, e = .returned s ∧ Owns w' w.heap.size s ys ∧ Below w.heap.size w w' := by
  obtain ⟨i0, hi, hz0, hz1, hz2⟩ := info_parts infoI
  have O0 := Lib.hid (World.ownsRow_lit (e := 2) (size := 1) w #[] 0 (Nat.le_refl _) (by decide) rfl)
  have H2 := Lib.hid (fun (j : Nat) (u : Value) (h : (ints ys)[j]? = some u) => kc (bnew w (.cells #[] 2)) (H j u h))
  have hb := bnew w (.cells #[] 2)
  have hln : (ints ys).length = ys.length * 1 := by simp [ints]
  clear H
  go_enter Try.func261, Try.ntmps261
  go_wp2_with (at_builtin; refine wpList_append_own _ rfl _ _ 30 rfl w.heap.size 2 i0 (.int .i64 0) 1 8 Try.underlying30 hi hz0 hz1 hz2 rfl (by decide) _ _ _ rfl O0.out ad ys.length c (ints ys) rfl hln H2.out (by intro u hu; simp [ints] at hu; obtain ⟨z, _, rfl⟩ := hu; rfl) (by unfold maxLen; omega) (by omega) (by simp) ?_)
  intro v' w1 hown' hgrow _
  have hB := hb.grown hgrow (by simp) (fun j e => (O0.out.lt j e).1)
  have HO := Lib.hid (show Owns w1 w.heap.size v' ys by
    unfold Owns
    simpa using hown')
  clear hown' hgrow
  go_wp2
  go_ret
  exact ⟨_, rfl, HO.out, hB⟩

/-- A list of the numbers below k, each once. -/
def Ord (k : Nat) (xs : List Int) : Prop := xs.Perm ((List.range k).map fun (j : Nat) => (j : Int))
theorem Ord.len {k : Nat} {xs : List Int} (h : Ord k xs) : xs.length = k := by
  have := h.length_eq
  simpa using this
theorem Ord.put {k : Nat} {xs : List Int} (h : Ord k xs) (p : Nat) : Ord (k + 1) (xs.take p ++ [(k : Int)] ++ xs.drop p) := by
  unfold Ord at *
  rw [List.range_succ, List.map_append, List.map_cons, List.map_nil]
  rw [List.append_assoc]
  refine (List.perm_middle).trans ?_
  show ((k : Int) :: (List.take p xs ++ List.drop p xs)).Perm _
  rw [List.take_append_drop]
  exact (List.Perm.cons _ h).trans (List.perm_append_singleton _ _).symm
theorem Ord.perm {k : Nat} {xs : List Int} (h : Ord k xs) : PermTo (k : Int) xs k := by
  have hl := h.len
  have hn : xs.Nodup := by
    refine h.nodup_iff.2 ?_
    refine List.Pairwise.map _ ?_ (List.nodup_range (n := k))
    intro a b hab e
    exact hab (by omega)
  intro i hi
  have hil : i < xs.length := by omega
  rw [List.getElem?_eq_getElem hil]
  refine ⟨?_, fun j hj e => ?_⟩
  · have hm := h.mem_iff.1 (List.getElem_mem hil)
    simp only [List.mem_map, List.mem_range] at hm
    obtain ⟨z, hz, e⟩ := hm
    simp only [Option.getD_some]
    omega
  · rw [List.getElem?_eq_getElem (show j < xs.length by omega)] at e
    simp only [Option.getD_some] at e
    have := (List.getElem_inj hn).1 e
    omega
/-- Cells of a part of a list. -/
theorem ints_take (xs : List Int) (p j : Nat) (u : Value) (h : (ints (xs.take p))[j]? = some u) : (ints xs)[j]? = some u := by
  simp only [ints, List.getElem?_map] at *
  by_cases hj : j < p
  · rw [List.getElem?_take_of_lt hj] at h; exact h
  · rw [List.getElem?_eq_none (by simp; omega)] at h; simp at h
theorem ints_drop (xs : List Int) (p j : Nat) (u : Value) (h : (ints (xs.drop p))[j]? = some u) : (ints xs)[p + j]? = some u := by
  simp only [ints, List.getElem?_map, List.getElem?_drop] at *
  exact h
end Go.Proofs.Ytenbokdcdokhiab

/- YA:
  A law over a code: what is kept over the calls (the code, boxes of structs, lists of the calls' own). -/
namespace Go.Proofs.Ytenbokdcdokhiab
open Go.RowKit
set_option linter.unusedVariables false
set_option linter.unusedSimpArgs false

/-- The state within a law: L the boxes (block, both cells), M the lists (base, slice, numbers). -/
structure LawSt (w : World) (a : Option Addr) (len : Nat) (L : List (Nat × Int × Int)) (M : List (Nat × Value × List Int)) (W : World) : Prop where
  G : Below w.heap.size w W
  C : Code W a len
  B : ∀ t, t ∈ L → W.cell? ⟨t.1, 0, none⟩ = some (.int .i64 t.2.1) ∧ W.cell? ⟨t.1, 1, none⟩ = some (.int .i64 t.2.2)
  O : ∀ t, t ∈ M → Owns W t.1 t.2.1 t.2.2
theorem LawSt.start {w : World} {a : Option Addr} {len : Nat} (C : Code w a len) : LawSt w a len [] [] w := ⟨Below.refl _ _, C, fun t h => by simp at h, fun t h => by simp at h⟩
theorem LawSt.below {w : World} {a : Option Addr} {len : Nat} {L : List (Nat × Int × Int)} {M : List (Nat × Value × List Int)} {W W' : World} (h : LawSt w a len L M W) (hb : Below W.heap.size W W') : LawSt w a len L M W' :=
  ⟨bthen h.G hb, h.C.below hb, fun t ht => ⟨kc hb (h.B t ht).1, kc hb (h.B t ht).2⟩, fun t ht => (h.O t ht).below hb⟩
theorem LawSt.drew {w : World} {a : Option Addr} {len : Nat} {L : List (Nat × Int × Int)} {M : List (Nat × Value × List Int)} {W : World} (h : LawSt w a len L M W) : LawSt w a len L M W.drew := h.below (Below.refl _ _).drew
theorem LawSt.box {w : World} {a : Option Addr} {len : Nat} {L : List (Nat × Int × Int)} {M : List (Nat × Value × List Int)} {W : World} (h : LawSt w a len L M W) (n x : Int) (T : TypeId) :
    LawSt w a len ((W.heap.size, n, x) :: L) M (W.alloc (.cells #[.int .i64 n, .int .i64 x] T)) := by
  have k := h.below (bnew W (.cells #[.int .i64 n, .int .i64 x] T))
  refine ⟨k.G, k.C, fun t ht => ?_, k.O⟩
  rcases List.mem_cons.mp ht with rfl | ht
  · exact ⟨by simp [go_sem], by simp [go_sem]⟩
  · exact k.B t ht
theorem LawSt.list {w : World} {a : Option Addr} {len : Nat} {L : List (Nat × Int × Int)} {M : List (Nat × Value × List Int)} {W : World} (h : LawSt w a len L M W) {base : Nat} {s : Value} {xs : List Int} (ho : Owns W base s xs) : LawSt w a len L ((base, s, xs) :: M) W :=
  ⟨h.G, h.C, h.B, fun t ht => by
    rcases List.mem_cons.mp ht with rfl | ht
    · exact ho
    · exact h.O t ht⟩
theorem LawSt.less {w : World} {a : Option Addr} {len : Nat} {L L' : List (Nat × Int × Int)} {M M' : List (Nat × Value × List Int)} {W : World} (h : LawSt w a len L M W) (hL : ∀ t, t ∈ L' → t ∈ L) (hM : ∀ t, t ∈ M' → t ∈ M) : LawSt w a len L' M' W :=
  ⟨h.G, h.C, fun t ht => h.B t (hL t ht), fun t ht => h.O t (hM t ht)⟩

set_option maxRecDepth 100000 in
set_option maxHeartbeats 2000000 in
theorem big_ok {a : Option Addr} {len cap : Nat} (w : World) :
    Calls Try.prog 9 #[.slice a len cap] w fun e w' => e = .returned (.bool (decide (4096 < len))) ∧ w = w' := by
  have e : decide ((4096 : Int) < (len : Int)) = decide (4096 < len) := by congr 1; exact propext (by omega)
  go_enter Try.func9, Try.ntmps9
  go_wp2
  go_ret
  simp [e]
theorem Num.wf {x : Int} (h : Num x) : (Lit.int .i64 x).wf = true := by
  obtain ⟨h1, h2⟩ := h
  simp [Lit.wf, IntKind.min, IntKind.max, IntKind.bits, IntKind.signed]
  omega
end Go.Proofs.Ytenbokdcdokhiab

/- LW:
  Parts of a long law: pieces of the code, taken out of the function's body. -/
namespace Go.Proofs.Ytenbokdcdokhiab
open Go.RowKit

/-- Is k the first region? -/
def starts (k : Nat) : Go.Code → Bool
  | .region n _ _ => Nat.beq n k
  | .seq a _ => starts k a
  | _ => false
def isIf (k : Nat) : Go.Code → Bool
  | .cond (.tmp n) _ _ => Nat.beq n k
  | _ => false
/-- The code from the region k on, to its sequence's end. -/
def fromReg (k : Nat) : Go.Code → Option Go.Code
  | .region n o b => match Nat.beq n k with
    | true => some (.region n o b)
    | false => none
  | .seq a b => match starts k a with
    | true => some (.seq a b)
    | false => match fromReg k a with
      | some c => some c
      | none => fromReg k b
  | .cond _ a b => match fromReg k a with
    | some c => some c
    | none => fromReg k b
  | .loop c => fromReg k c
  | .block _ c => fromReg k c
  | .scope c => fromReg k c
  | _ => none
/-- The region k alone. -/
def regAt (k : Nat) : Go.Code → Option Go.Code
  | .region n o b => match Nat.beq n k with
    | true => some (.region n o b)
    | false => none
  | .seq a b => match regAt k a with
    | some c => some c
    | none => regAt k b
  | .cond _ a b => match regAt k a with
    | some c => some c
    | none => regAt k b
  | .loop c => regAt k c
  | .block _ c => regAt k c
  | .scope c => regAt k c
  | _ => none
/-- The 'if' that asks the slot k. -/
def ifAt (k : Nat) : Go.Code → Option Go.Code
  | .seq a b => match ifAt k a with
    | some c => some c
    | none => ifAt k b
  | .cond o a b => match isIf k (.cond o a b) with
    | true => some (.cond o a b)
    | false => match ifAt k a with
      | some c => some c
      | none => ifAt k b
  | .loop c => ifAt k c
  | .block _ c => ifAt k c
  | .scope c => ifAt k c
  | _ => none
/-- A slice of bytes that came in is a code. -/
theorem codeOf {w : World} {a : Option Addr} {len cap : Nat} {zs : List Int} (h : IsRow .u8 w a len cap zs) : Code w a len := by
  obtain ⟨hz, hs⟩ := h.spot
  have hwf : ∀ n ∈ zs, 0 ≤ n ∧ n < 256 := by
    rcases h with ⟨_, _, _, rfl⟩ | ⟨x, rfl, _, _, _, _, hw⟩
    · simp
    · intro n hn
      have := hw n hn
      simp [Lit.wf, IntKind.min, IntKind.max, IntKind.bits, IntKind.signed] at this
      omega
  refine ⟨?_, ?_⟩
  · rcases hs with h0 | ⟨b, off, rfl, hb, hc⟩
    · exact .inl h0
    · refine .inr ⟨b, off, rfl, fun j hj => ?_⟩
      have hj2 : j < zs.length := by omega
      have hv := hwf zs[j] (List.getElem_mem hj2)
      refine ⟨zs[j].toNat, by omega, ?_⟩
      rw [hc.out j hj, List.getElem?_eq_getElem hj2]
      simp
      omega
  · intro h0 g off e
    rcases hs with h1 | ⟨b, off', rfl, hb, hc⟩
    · omega
    · cases e
      exact hb
end Go.Proofs.Ytenbokdcdokhiab

/- YH:
  Draws: an order of the variables. -/
namespace Go.Proofs.Ytenbokdcdokhiab
open Go.RowKit
set_option linter.unusedVariables false
set_option linter.unusedSimpArgs false

theorem add_at' (g a j : Nat) : (⟨g, a, none⟩ : Addr).add j = ⟨g, a + j, none⟩ := by
  simp only [Addr.add]
  split <;> simp_all
theorem Owns.base {W : World} {b c : Nat} {s : Value} {xs : List Int} (h : Owns W b s xs) (hc : c ≤ b) : Owns W c s xs := h.mono hc
set_option maxRecDepth 100000 in
set_option maxHeartbeats 64000000 in
theorem order_round {k p g c : Nat} {xs : List Int} (hx : xs.length = k) (hk : k ≤ 4) (hp : p ≤ k) (hc : k ≤ c) (hcm : c ≤ 9223372036854775807) (w2 : World) (hcell : ∀ j, j < k → w2.cell? ⟨g, j, none⟩ = some (.int .i64 (xs[j]?.getD 0))) (hg : g < w2.heap.size)
    (K : Act → World → Prop) (t0 t1 t4 t8 t9 t10 t11 t12 t13 t14 t15 t16 t17 t18 t19 t20 t21 t22 t23 t24 t25 t26 t27 t28 t29 : Value)
    (hK : Hid (∀ (v : Value) (u18 u19 u20 u21 u22 u23 u24 u25 u26 u27 u28 : Value) (w' : World), Owns w' w2.heap.size v (xs.take p ++ [(k : Int)] ++ xs.drop p) → Below w2.heap.size w2 w' → K ⟨#[t0, t1, undef, undef, t4, v, .int .i64 (k : Int), .int .i64 (p : Int), t8, t9, t10, t11, t12, t13, t14, t15, t16, t17, u18, u19, u20, u21, u22, u23, u24, u25, u26, u27, u28, t29], []⟩ w')) :
    Code.wp Try.prog ((Try.f209.body.bind (regAt 6)).getD .skip) (Exit.then K (fun _ _ _ => False)) ⟨#[t0, t1, undef, undef, t4, .slice (some ⟨g, 0, none⟩) k c, .int .i64 (k : Int), .int .i64 (p : Int), t8, t9, t10, t11, t12, t13, t14, t15, t16, t17, t18, t19, t20, t21, t22, t23, t24, t25, t26, t27, t28, t29], []⟩ w2 := by
  obtain ⟨i0, hi, hz0, hz1, hz2⟩ := info_parts infoI
  have hn1 : (xs.take p).length = p := by rw [List.length_take]; omega
  have hn2 : (xs.drop p).length = k - p := by rw [List.length_drop]; omega
  have hcell2 : ∀ (j : Nat) (u : Value), (ints xs)[j]? = some u → w2.cell? ⟨g, j, none⟩ = some u := by
    intro j u hu
    have hj : j < xs.length := by
      have := (List.getElem?_eq_some_iff.1 hu).1
      simpa [ints] using this
    rw [hcell j (by omega)]
    simp only [ints, List.getElem?_map, List.getElem?_eq_getElem hj, Option.map_some] at hu
    rw [List.getElem?_eq_getElem hj]
    exact hu
  have C1 := Lib.hid (fun (W : World) (hb : Below w2.heap.size w2 W) (j : Nat) (u : Value) (h : (ints (xs.take p))[j]? = some u) => show W.cell? ((⟨g, 0, none⟩ : Addr).add j) = some u by
    rw [add_at', Nat.zero_add]
    exact kc hb (hcell2 j u (ints_take xs p j u h)))
  obtain ⟨ad, had, hc2⟩ : ∃ ad : Addr, (if c = p then some (⟨g, 0, none⟩ : Addr) else some ⟨g, p, none⟩) = some ad ∧ ∀ (j : Nat) (u : Value), (ints (xs.drop p))[j]? = some u → ad.add j = ⟨g, p + j, none⟩ ∧ w2.cell? ⟨g, p + j, none⟩ = some u := by
    by_cases e : c = p
    · refine ⟨⟨g, 0, none⟩, by rw [if_pos e], fun j u h => ?_⟩
      have : (ints (xs.drop p)).length = 0 := by simp only [ints, List.length_map, hn2]; omega
      have h2 := (List.getElem?_eq_some_iff.1 h).1
      omega
    · refine ⟨⟨g, p, none⟩, by rw [if_neg e], fun j u h => ⟨add_at' _ _ _, hcell2 _ u (ints_drop xs p j u h)⟩⟩
  have C2 := Lib.hid hc2
  have a0 : (0 : Int) ≤ (p : Int) := by omega
  have a1 : (p : Int) ≤ (c : Int) := by omega
  have a2 : (p : Int) ≤ (k : Int) := by omega
  have OC : ∀ (ys : List Int), ∀ u ∈ ints ys, u.oneCell' = true := fun ys u hu => by simp [ints] at hu; obtain ⟨z, _, rfl⟩ := hu; rfl
  have OCH := Lib.hid OC
  have L1 := Lib.hid (fun (W : World) (hb : Below w2.heap.size w2 W) => (show Calls Try.prog 261 #[.slice (some ⟨g, 0, none⟩) p c] W fun e w' => ∃ s, e = .returned s ∧ Owns w' W.heap.size s (xs.take p) ∧ Below W.heap.size W w' by
    have := l01Own_ok (xs.take p) (by omega) ⟨g, 0, none⟩ c W (C1.out W hb)
    rw [hn1] at this
    exact this))
  clear OC hcell hcell2 hc2
  conv => arg 2; whnf
  have hl1 : (ints (xs.take p)).length = p := by rw [ints, List.length_map, hn1]
  go_region_law (first
    | (refine step_append_own _ rfl _ _ 30 rfl w2.heap.size 2 i0 (.int .i64 0) 1 8 Try.underlying30 hi hz0 hz1 hz2 rfl (by decide) _ _ _ rfl O6 ⟨w2.heap.size, 0, none⟩ 1 1 [.int .i64 (k : Int)] rfl rfl (fun j u h => kc hb5 (cell_one_new _ _ _ j u h)) (one_cell_int _) (by unfold maxLen; omega) (by omega) (by have := N5.size; omega) ?_; intro v6 w6 hown6 hgrow6; have N6 := N5.grown hgrow6 N5.size (fun j e => (O6.lt j e).1))
    | (refine step_append_own _ rfl _ _ 30 rfl w2.heap.size 2 i0 (.int .i64 0) 1 8 Try.underlying30 hi hz0 hz1 hz2 rfl (by decide) _ _ _ rfl (O6.alloc _) ⟨w5.heap.size, 0, none⟩ 1 1 [.int .i64 (k : Int)] rfl rfl (cell_one_new _ _ _) (one_cell_int _) (by unfold maxLen; omega) (by omega) (by have := N5.size; simp; omega) ?_; intro v6 w6 hown6 hgrow6; have N6 := (N5.alloc N5.size _).grown hgrow6 (by have := N5.size; simp; omega) (fun j e => (O6.lt j e).1))
    | (go_simp; go_at_call 261; refine (L1.out _ (by first | exact (Below.refl _ _).drew | exact balloc ((Below.refl _ _).drew) _ | exact (bnew _ _).drew)).mono ?_; rintro e w5 ⟨s5, rfl, O5, hb5⟩; have O6 : World.ownsRow _ w2.heap.size _ _ _ _ _ := O5.base (by simp); have N5 : Below w2.heap.size w2 w5 := bthen (by first | exact (Below.refl _ _).drew | exact balloc ((Below.refl _ _).drew) _ | exact (bnew _ _).drew) hb5)
    | (refine step_append_own _ rfl _ _ 30 rfl w2.heap.size 2 i0 (.int .i64 0) 1 8 Try.underlying30 hi hz0 hz1 hz2 rfl (by decide) _ _ _ rfl hown6 ad (k - p) (c - p) (ints (xs.drop p)) rfl (by rw [ints, List.length_map, hn2, Nat.mul_one]) (fun j u h => by rw [(C2.out j u h).1]; exact kc N6 (C2.out j u h).2) (OCH.out _) (by unfold maxLen; omega) (by omega) N6.size ?_; intro v7 w7 hown7 hgrow7; have N7 := N6.grown hgrow7 N6.size (fun j e => (hown6.lt j e).1)))
  all_goals
    have HO := Lib.hid (show Owns w7 w2.heap.size v7 (xs.take p ++ [(k : Int)] ++ xs.drop p) by
      unfold Owns
      rw [List.length_append, List.length_append, hn1, hn2]
      have e1 : ints (xs.take p ++ [(k : Int)] ++ xs.drop p) = ints (xs.take p) ++ [.int .i64 (k : Int)] ++ ints (xs.drop p) := by simp [ints]
      rw [e1]
      rw [hn1] at hown7
      exact hown7)
    clear hown7 hgrow7 hown6 hgrow6
    simp only [Exit.then]
    go_simp
    exact hK.out _ _ _ _ _ _ _ _ _ _ _ _ _ HO.out N7

theorem Owns.full {W : World} {base : Nat} {s : Value} {xs : List Int} (h : Owns W base s xs) (h0 : 0 < xs.length) : ∃ g c, s = .slice (some ⟨g, 0, none⟩) xs.length c ∧ xs.length ≤ c ∧ c ≤ 9223372036854775807 := by
  rcases h.2 with ⟨_, h1⟩ | ⟨g, cap, cur, rfl, _, _, h1, h2, _⟩
  · omega
  · exact ⟨g, cap, rfl, h1, by unfold maxLen at h2; omega⟩
set_option maxRecDepth 100000 in
set_option maxHeartbeats 64000000 in
theorem drawOrder_ok {b : Nat} {a : Option Addr} {len cap : Nat} {n : Nat} (hn : n ≤ 4) (w : World) (S : SrcOk b a len cap w) :
    Calls Try.prog 209 #[.pointer (some ⟨b, 0, none⟩), .int .i64 (n : Int)] w fun e w' => ∃ s xs, e = .returned s ∧ Owns w' w.heap.size s xs ∧ Ord n xs ∧ SrcOk b a len cap w' ∧ w.grownBy w' (some b) := by
  have hb := S.lt
  have S0 := Lib.hid S
  clear S
  go_enter Try.func209, Try.ntmps209
  go_wp2_with fail
  go_loopw [5, 6] (fun s i wr => ∃ (k g c : Nat) (xs : List Int), k ≤ n ∧ i = .int .i64 k ∧ s = .slice (some ⟨g, 0, none⟩) k c ∧ k ≤ c ∧ c ≤ 9223372036854775807 ∧ g < wr.heap.size ∧ Owns wr w.heap.size s xs ∧ Ord k xs ∧ SrcOk b a len cap wr ∧ w.grownBy wr (some b)) (fun _ i _ => n - (intOf i).toNat)
  case atStart =>
    refine ⟨0, w.heap.size, 0, [], Nat.zero_le _, rfl, rfl, Nat.le_refl _, by omega, by simp, ?_, ?_, S0.out.below (bnew _ _), gOf (bnew _ _) b⟩
    · exact World.ownsRow_lit w #[] 0 (Nat.le_refl _) (by decide) rfl
    · exact List.Perm.refl _
  case round =>
    obtain ⟨k, g, c, xs, hk, rfl, rfl, hc, hcm, hg, HO, hord, S1, hgr⟩ := hrel
    have hx := hord.len
    by_cases hlt : k < n
    · have ORD := Lib.hid hord
      have OW := Lib.hid HO
      have GR := Lib.hid hgr
      have S2 := Lib.hid S1
      clear hord HO hgr S1
      go_wp2_with fail
      refine (next_ok ((k : Int) + 1) (by omega) (by omega) _ S2.out).mono ?_
      rintro e w2 ⟨p', rfl, p0, p1, S3', hg3⟩
      obtain ⟨p, rfl⟩ := Int.eq_ofNat_of_zero_le p0
      have O3 := Lib.hid (OW.out.grownTo hg3 hb)
      have G3 := Lib.hid (gGo GR.out hg3)
      have S3 := Lib.hid S3'
      have hg2 : g < w2.heap.size := Nat.lt_of_lt_of_le hg hg3.size
      have hcell : ∀ j, j < k → w2.cell? ⟨g, j, none⟩ = some (.int .i64 (xs[j]?.getD 0)) := by
        intro j hj
        rcases O3.out.shape with ⟨h0, _⟩ | ⟨_, g', cap', e', _, _, hc', _⟩
        · rw [h0] at hx; simp at hx; omega
        · cases e'
          exact hc'.out j (by omega)
      have CC := Lib.hid hcell
      clear hg3 S3' OW GR S2 hcell
      go_wp2_with fail
      refine Code.wp_mono ?_ (order_round (g := g) (c := c) (p := p) hx (by omega) (by omega) hc hcm w2 CC.out hg2 (fun a' ww => ∃ (v u18 u19 u20 u21 u22 u23 u24 u25 u26 u27 u28 : Value), a' = ⟨#[_, _, undef, undef, _, v, .int .i64 (k : Int), .int .i64 (p : Int), _, _, _, _, _, _, _, _, _, _, u18, u19, u20, u21, u22, u23, u24, u25, u26, u27, u28, _], []⟩ ∧ Owns ww w2.heap.size v (xs.take p ++ [(k : Int)] ++ xs.drop p) ∧ Below w2.heap.size w2 ww) _ _ _ _ _ _ _ _ _ _ _ _ _ _ _ _ _ _ _ _ _ _ _ _ _ (Lib.hid fun v u18 u19 u20 u21 u22 u23 u24 u25 u26 u27 u28 w' ho hb => ⟨v, u18, u19, u20, u21, u22, u23, u24, u25, u26, u27, u28, rfl, ho, hb⟩))
      rintro e a' ww h
      have he : e = .normal := by cases e <;> first | rfl | exact h.elim
      subst he
      obtain ⟨v, u18, u19, u20, u21, u22, u23, u24, u25, u26, u27, u28, rfl, ho, hb2⟩ := h
      have hord2 := ORD.out.put p
      have hsz : w.heap.size ≤ w2.heap.size := G3.out.size
      have HO2 := Lib.hid (ho.mono hsz)
      have hl2 := hord2.len
      obtain ⟨g2, c2, rfl, hc2, hcm2⟩ := ho.full (by omega)
      have hg4 : g2 < ww.heap.size := (World.ownsRow.lt ho g2 rfl).2
      have G4 := Lib.hid (gGo G3.out (gOf hb2 b))
      have S4 := Lib.hid (S3.out.below hb2)
      have HORD := Lib.hid hord2
      rw [hl2] at *
      clear ho hb2 hord2 O3 S3 G3 ORD CC
      simp only [Exit.inBlock, Exit.then]
      go_wp2
      go_roundw
      case rel => exact ⟨k + 1, g2, c2, _, by omega, by go_num, rfl, hc2, hcm2, hg4, HO2.out, HORD.out, S4.out, G4.out⟩
      case measure => simp [intOf]; omega
    · obtain rfl : k = n := by omega
      have ORD := Lib.hid hord
      have OW := Lib.hid HO
      have GR := Lib.hid hgr
      have S2 := Lib.hid S1
      clear hord HO hgr S1
      go_wp2
      go_ret
      exact ⟨_, _, rfl, OW.out, ORD.out, S2.out, GR.out⟩
end Go.Proofs.Ytenbokdcdokhiab

/- J1:
  l01Order of the model. -/
namespace Go.Proofs.Ytenbokdcdokhiab
open Go.RowKit

theorem infoB : (Try.prog.info? 4).map (fun i => (i.zero, i.size, i.bytes)) = some (some (.bool false), 1, 1) := by kernel_rfl

/-- The row of marks. -/
def seenV (xs : List Int) (j m : Nat) : List Value := (List.range m).map fun k => .bool (seenB xs j k)
theorem seenV_zero (xs : List Int) (m : Nat) : seenV xs 0 m = List.replicate m (.bool false) := by
  unfold seenV
  apply List.ext_getElem
  · simp
  · intro i h1 h2
    simp [seenB_zero]
theorem seenV_len (xs : List Int) (j m : Nat) : (seenV xs j m).length = m := by simp [seenV]
theorem seenV_get (xs : List Int) (j m k : Nat) (h : k < m) : (seenV xs j m)[k]? = some (.bool (seenB xs j k)) := by simp [seenV, h]
theorem seenV_set (xs : List Int) (j m q : Nat) (h : xs[j]?.getD 0 = (q : Int)) : (seenV xs j m).set q (.bool true) = seenV xs (j + 1) m := by
  unfold seenV
  apply List.ext_getElem
  · simp
  · intro i h1 h2
    simp only [List.length_set, List.length_map, List.length_range] at h1
    rw [List.getElem_set]
    by_cases e : q = i
    · subst e
      simp [seenB_same h]
    · simp only [e, if_false, List.getElem_map, List.getElem_range]
      rw [seenB_other (by rw [h]; omega)]

set_option maxRecDepth 100000 in
set_option maxHeartbeats 2000000 in
theorem l01Order_any {base : Nat} {s : Value} {xs : List Int} (hl : xs.length ≤ 1048576) {m : Nat} (hm : m ≤ 4) (b : Bool) (hb : b = true ↔ (xs.length = m ∧ PermTo (m : Int) xs xs.length)) (w : World) (h : Owns w base s xs) :
    Calls Try.prog 214 #[s, .int .i64 (m : Int)] w fun e w' => e = .returned (.bool b) ∧ Below w.heap.size w w' := by
  obtain ⟨i0, hi, hz0, hz1, hz2⟩ := info_parts infoB
  have HB := Lib.hid hb
  clear hb
  rcases h.shape with ⟨rfl, a, cap, rfl⟩ | ⟨hn, g, cap, rfl, hbg, hg, hc, hf⟩
  · clear h
    by_cases h0 : m = 0
    · subst h0
      obtain rfl : b = true := HB.out.2 ⟨rfl, fun i hi => by simp at hi⟩
      go_enter Try.func214, Try.ntmps214
      go_wp2_with (at_make; refine wpList_make_full _ rfl _ _ 167 rfl w.heap.size 4 i0 (.bool false) 1 Try.underlying167 hi hz0 hz1 .i64 .i64 _ _ 0 rfl rfl rfl rfl (by rw [hz2]; decide) (by decide) (Nat.le_refl _) ?_; intro w1 hown1 hgrow1)
      have hB : Below w.heap.size w w1 := (Below.refl _ _).grown hgrow1 (Nat.le_refl _) (fun j e => by cases e)
      clear hown1 hgrow1
      refine wp_loop_rounds 1 ?_
      rw [rounds_succ]
      go_wp2
      go_ret
      exact ⟨rfl, hB⟩
    · obtain rfl : b = false := by
        cases b
        · rfl
        · exact absurd (HB.out.1 rfl).1 (by simp; omega)
      have hz : ((0 : Int) == (m : Int)) = false := by simp; omega
      go_enter Try.func214, Try.ntmps214
      go_wp2_with (at_make; refine wpList_make_full _ rfl _ _ 167 rfl w.heap.size 4 i0 (.bool false) 1 Try.underlying167 hi hz0 hz1 .i64 .i64 _ _ m rfl rfl rfl rfl (by rw [hz2]; omega) (by unfold maxLen; omega) (Nat.le_refl _) ?_; intro w1 hown1 hgrow1)
      have hB : Below w.heap.size w w1 := (Below.refl _ _).grown hgrow1 (Nat.le_refl _) (fun j e => by cases e)
      clear hown1 hgrow1
      refine wp_loop_rounds 1 ?_
      rw [rounds_succ]
      go_wp2
      go_ret
      exact ⟨rfl, hB⟩
  · clear h hf
    generalize hxl : xs.length = n at hl hn hc HB
    have HXL := Lib.hid hxl
    clear hxl
    go_enter Try.func214, Try.ntmps214
    go_wp2_with (at_make; refine wpList_make_full _ rfl _ _ 167 rfl w.heap.size 4 i0 (.bool false) 1 Try.underlying167 hi hz0 hz1 .i64 .i64 _ _ m rfl rfl rfl rfl (by rw [hz2]; omega) (by unfold maxLen; omega) (Nat.le_refl _) ?_; intro w1 hown1 hgrow1)
    have hB : Below w.heap.size w w1 := (Below.refl _ _).grown hgrow1 (Nat.le_refl _) (fun j e => by cases e)
    rw [show (Value.bool false).cells = #[.bool false] from rfl, toList_madeCells_one, Nat.mul_one, ← seenV_zero xs m] at hown1
    clear hgrow1
    go_loopw [6] (fun i' wr => ∃ j : Nat, j ≤ n ∧ i' = .int .i64 j ∧ Hid (PermTo (m : Int) xs j) ∧ wr.ownsRow w.heap.size 4 1 (.slice (some ⟨w.heap.size, 0, none⟩) m m) m (seenV xs j m) ∧ Below w.heap.size w wr) (fun i' _ => n - (intOf i').toNat)
    case atStart => exact ⟨0, Nat.zero_le _, rfl, Lib.hid (fun i hi => by omega), hown1, hB⟩
    case round =>
      clear hown1 hB
      obtain ⟨j, hj, rfl, HP, ho, hN⟩ := hrel
      by_cases hlt : j < n
      · have hu := (hN.cell (p := ⟨g, j, none⟩) hg).trans (hc.out j hlt)
        cases hin : inB (xs[j]?.getD 0) 0 ((m : Int) - 1)
        · obtain rfl : b = false := by
            cases b
            · rfl
            · exact absurd (HB.out.1 rfl).2 (PermTo.not_in hlt (by simpa [inB] using hin))
          clear ho
          go_wp2_with (go_at_call 154; refine (l01In_is hin _).mono ?_; rintro e w' ⟨rfl, rfl⟩)
          go_ret
          exact ⟨rfl, hN⟩
        · have hin2 : 0 ≤ xs[j]?.getD 0 ∧ xs[j]?.getD 0 ≤ (m : Int) - 1 := by simpa [inB] using hin
          obtain ⟨q, hq⟩ : ∃ q : Nat, xs[j]?.getD 0 = (q : Int) := ⟨(xs[j]?.getD 0).toNat, by omega⟩
          have hqm : q < m := by omega
          have hcq : wr.cell? ⟨w.heap.size, q, none⟩ = some (.bool (seenB xs j q)) := by rw [ho.cellAt q (by omega)]; exact seenV_get xs j m q hqm
          have hfq := ho.frozenAt q
          have hst := (ho.stored q (.bool true)).1
          rw [seenV_set xs j m q hq] at hst
          have HST := Lib.hid hst
          have HQ := Lib.hid hq
          rw [hq] at hu hin
          cases hsn : seenB xs j q
          · rw [hsn] at hcq
            have HP2 := Lib.hid (HP.out.step hin2 (fun hex => by rw [hq] at hex; have := seenB_true.2 hex; rw [hsn] at this; cases this))
            clear hin2 hq hsn hst ho
            go_wp2_with (go_at_call 154; refine (l01In_is hin _).mono ?_; rintro e w' ⟨rfl, rfl⟩)
            go_roundw
            case rel => exact ⟨j + 1, by omega, by go_num, HP2, HST.out, hN.setCell (p := ⟨w.heap.size, q, none⟩) (Nat.le_refl _) _⟩
            case measure => simp [intOf]; omega
          · rw [hsn] at hcq
            obtain rfl : b = false := by
              cases b
              · rfl
              · exact absurd (HB.out.1 rfl).2 (PermTo.not_twice hlt (by rw [hq]; exact seenB_true.1 hsn))
            clear hin2 hq hsn hst ho
            go_wp2_with (go_at_call 154; refine (l01In_is hin _).mono ?_; rintro e w' ⟨rfl, rfl⟩)
            go_ret
            exact ⟨rfl, hN⟩
      · obtain rfl : j = n := by omega
        clear ho
        by_cases hnm : j = m
        · obtain rfl : b = true := HB.out.2 ⟨hnm, HP.out⟩
          have ht : ((j : Int) == (m : Int)) = true := by simp [hnm]
          clear hnm
          go_wp2
          go_ret
          exact ⟨rfl, hN⟩
        · obtain rfl : b = false := by
            cases b
            · rfl
            · exact absurd (HB.out.1 rfl).1 hnm
          have ht : ((j : Int) == (m : Int)) = false := by simp; omega
          clear hnm
          go_wp2
          go_ret
          exact ⟨rfl, hN⟩
end Go.Proofs.Ytenbokdcdokhiab

/- J2:
  l01Permute of the model. -/
namespace Go.Proofs.Ytenbokdcdokhiab
open Go.RowKit

/-- Where the arguments of the row r lie. -/
def permRow (xs : List Int) (m r : Nat) : Nat := sumN (fun i => bitN r (permI xs i)) m
/-- The function with its variables permuted. -/
def permN (xs : List Int) (m x r : Nat) : Nat := bitN x (permRow xs m r)

theorem permRow_lt (xs : List Int) (m r : Nat) (hm : m ≤ 4) : permRow xs m r < 16 := by
  have h1 := sumN_lt (fun i => bitN r (permI xs i)) m (fun i _ => bitN_le _ _)
  have h2 : (2 : Nat) ^ m ≤ 2 ^ 4 := Nat.pow_le_pow_right (by decide) hm
  unfold permRow
  omega

theorem PermTo.val {n : Nat} {xs : List Int} {j : Nat} (h : PermTo (n : Int) xs j) (i : Nat) (hi : i < j) : xs[i]?.getD 0 = (permI xs i : Int) ∧ permI xs i < n := by
  obtain ⟨⟨h1, h2⟩, _⟩ := h i hi
  unfold permI
  omega

set_option maxRecDepth 100000 in
set_option maxHeartbeats 2000000 in
theorem l01Permute_any {m x R : Nat} (ok : FOk (m : Int) x R) (hm : m ≤ 4) {base : Nat} {s : Value} {xs : List Int} (hl : xs.length = m) (hp : PermTo (m : Int) xs m) (w : World) (h : Owns w base s xs) :
    Calls Try.prog 215 #[.agg #[.int .i64 (m : Int), .int .i64 (x : Int)], s] w fun e w' => e = .returned (.agg #[.int .i64 (m : Int), .int .i64 (sumN (permN xs m x) R : Int)]) ∧ Below w.heap.size w w' := by
  obtain ⟨i0, hinf, hz0, hz1, hz2⟩ := info_parts infoI
  have r0 := ok.r0
  have r16 := ok.r16
  obtain ⟨a, cap, hs, hrow⟩ : ∃ a cap, s = .slice a m cap ∧ (m = 0 ∨ ∃ g, a = some ⟨g, 0, none⟩ ∧ g < w.heap.size ∧ ∀ j, j < m → w.cell? ⟨g, j, none⟩ = some (.int .i64 (permI xs j : Int)) ∧ permI xs j < m) := by
    rcases h.shape with ⟨rfl, a, cap, rfl⟩ | ⟨hn, g, cap, rfl, hbg, hg, hc, hf⟩
    · simp at hl
      exact ⟨a, cap, by rw [← hl], .inl hl.symm⟩
    · refine ⟨_, cap, by rw [hl], .inr ⟨g, rfl, hg, fun j hj => ?_⟩⟩
      obtain ⟨e1, e2⟩ := hp.val j hj
      rw [hc.out j (by omega), e1]
      exact ⟨rfl, e2⟩
  subst hs
  have HROW := Lib.hid hrow
  clear h hp hl hrow
  obtain ⟨W1, hW1⟩ : ∃ W1, (w.alloc (.cells #[.int .i64 (m : Int), .int .i64 (x : Int)] 25)).alloc (.cells #[.int .i64 0, .int .i64 0] 25) = W1 := ⟨_, rfl⟩
  have p0 : W1.cell? ⟨w.heap.size, 0, none⟩ = some (.int .i64 (m : Int)) := by rw [← hW1]; simp [go_sem]
  have p1 : W1.cell? ⟨w.heap.size, 1, none⟩ = some (.int .i64 (x : Int)) := by rw [← hW1]; simp [go_sem]
  have c0 : W1.cell? ⟨w.heap.size + 1, 0, none⟩ = some (.int .i64 0) := by rw [← hW1]; simp [go_sem]
  have c1 : W1.cell? ⟨w.heap.size + 1, 1, none⟩ = some (.int .i64 0) := by rw [← hW1]; simp [go_sem]
  have f0 : W1.frozen? ⟨w.heap.size + 1, 0, none⟩ = false := by rw [← hW1]; simp [go_sem]
  have f1 : W1.frozen? ⟨w.heap.size + 1, 1, none⟩ = false := by rw [← hW1]; simp [go_sem]
  have hB : Below w.heap.size w W1 := by rw [← hW1]; exact balloc (bnew _ _) _
  have l0 : w.heap.size < W1.heap.size := cell_lt p0
  have l1 : w.heap.size + 1 < W1.heap.size := cell_lt c0
  go_enter Try.func215, Try.ntmps215
  go_wp2
  clear hW1
  go_loopw [5, 6] (fun s i' wr => ∃ k : Nat, k ≤ R ∧ i' = .int .i64 k ∧ wr.ownsRow W1.heap.size 2 1 s k (valsN (permN xs m x) k) ∧ Below W1.heap.size W1 wr)
    (fun _ i' _ => R - (intOf i').toNat)
  case atStart => exact ⟨0, Nat.zero_le _, rfl, World.ownsRow_lit W1 #[] 0 (Nat.le_refl _) (by decide) rfl, bnew _ _⟩
  case round =>
    obtain ⟨k, hk, rfl, hown, hN⟩ := hrel
    have hsz := hN.size
    obtain ⟨wo, rfl⟩ : ∃ wo : World, wo = wr := ⟨_, rfl⟩
    by_cases hlt : k < R
    · have hdk : decide ((k : Int) < (R : Int)) = true := by simp; omega
      have q0 := kc hN p0
      have q1 := kc hN p1
      have HS := Lib.hid (valsN_succ (permN xs m x) k)
      go_wp2_with (go_at_call 148; refine (l01Rows_is ok.h0 ok.h4 ok.hR _).mono ?_; rintro e w' ⟨rfl, rfl⟩)
      clear hdk
      go_loop [7, 8] (fun r' i' => ∃ i : Nat, i ≤ m ∧ i' = .int .i64 i ∧ r' = .int .i64 (permRow xs i k : Int)) (fun _ i' => m - (intOf i').toNat)
      case atStart => exact ⟨0, Nat.zero_le _, rfl, rfl⟩
      case round =>
        obtain ⟨i, hi, rfl, rfl⟩ := hrel
        by_cases hlti : i < m
        · obtain ⟨g, rfl, hg, hcell⟩ : ∃ g, a = some ⟨g, 0, none⟩ ∧ g < w.heap.size ∧ ∀ j, j < m → w.cell? ⟨g, j, none⟩ = some (.int .i64 (permI xs j : Int)) ∧ permI xs j < m := by
            rcases HROW.out with h0 | h1
            · omega
            · exact h1
          obtain ⟨hc0, hq⟩ := hcell i hlti
          have hci := kc hN (kc hB hc0)
          have HF : Hid (wrap64 ((permRow xs i k : Int) + wrap64 ((bitN k (permI xs i) : Int) * 2 ^ i)) = (permRow xs (i + 1) k : Int)) := Lib.hid (sum_fin' (fun i => bitN k (permI xs i)) i (by omega) (fun r _ => bitN_le _ _))
          have hdg := digit_eq k (permI xs i) (by omega)
          have hb1 := bitN_le k (permI xs i)
          have hpr := permRow_lt xs i k (by omega)
          clear hcell hc0
          go_wp2
          go_round
          case rel => exact ⟨i + 1, by omega, by go_num, by rw [← HF.out]⟩
          case measure => simp [intOf]; omega
        · obtain rfl : i = m := by omega
          have hpr := permRow_lt xs i k hm
          go_wp2_with (first
            | (go_at_call 155; refine (l01At_any (i : Int) x (permRow xs i k) ok.hx (by omega) _).mono ?_; rintro e w2 ⟨rfl, hb2⟩; have hown2 := owns_below hown hb2; have hN2 := bthen hN hb2; have hsz2 := hb2.size)
            | (at_builtin; refine wpList_append_own _ rfl _ _ 30 rfl W1.heap.size 2 i0 (.int .i64 0) 1 8 Try.underlying30 hinf hz0 hz1 hz2 rfl (by decide) _ _ _ rfl (hown2.alloc _) ⟨w2.heap.size, 0, none⟩ 1 1 [.int .i64 (bitN x (permRow xs i k) : Int)] rfl rfl (cell_one_new _ _ _) (one_cell_int _) (by unfold maxLen; omega) (by omega) (by simp; omega) ?_))
          intro v' w1 hown' hgrow _
          have hN' := (balloc hN2 (.cells #[.int .i64 (bitN x (permRow xs i k) : Int)] 2)).grown hgrow (by simp; omega) (fun j e => (hown2.lt j e).1)
          clear hgrow hown hN hown2 hN2
          go_wp2
          go_roundw
          case rel => exact ⟨k + 1, by omega, by go_num, by rw [HS.out]; exact hown', hN'⟩
          case measure => simp [intOf]; omega
    · obtain rfl : k = R := by omega
      obtain ⟨g, cap2, rfl, hg, hc⟩ := owned_slice r0 hown
      have q0 := kc hN p0
      have q1 := kc hN p1
      have d00 := kc hN c0
      have d01 := kc hN c1
      have g00 := kf hN c0 f0
      have g01 := kf hN c1 f1
      have hB2 := bthen hB hN
      clear hown hN p0 p1 c0 c1 f0 f1 hB
      go_wp2_with (first
        | (go_at_call 148; refine (l01Rows_is ok.h0 ok.h4 ok.hR _).mono ?_; rintro e w' ⟨rfl, rfl⟩)
        | (go_at_call 156; refine (l01Of_any ok.h0 ok.h4 r0 r16 ok.hR g cap2 (permN xs m x) (fun r _ => bitN_le _ _) _ hg hc).mono ?_; rintro e w3 ⟨rfl, hb3⟩; have e00 := kc hb3 d00; have e01 := kc hb3 d01; have k00 := kf hb3 d00 g00; have k01 := kf hb3 d01 g01; have hB3 := bthen hB2 hb3))
      exact bodyPost_ret (v := .agg #[.int .i64 (m : Int), .int .i64 (sumN (permN xs m x) k : Int)]) (by simp [results, Try.results215, go_sem, e00, e01]) rfl ⟨rfl, (hB3.setCell (p := ⟨w.heap.size + 1, 0, none⟩) (by simp) _).setCell (p := ⟨w.heap.size + 1, 1, none⟩) (by simp) _⟩
end Go.Proofs.Ytenbokdcdokhiab

/- YC:
  Draws of chapter 2: a function that often is in a class. -/
namespace Go.Proofs.Ytenbokdcdokhiab
open Go.RowKit
set_option linter.unusedVariables false
set_option linter.unusedSimpArgs false

theorem or_next (b x r : Nat) (hb : b < 2 ^ r) (hx : x ≤ 1) (hr : r < 16) : bits .or .i64 (b : Int) (IntKind.i64.wrap ((x : Int) * 2 ^ r)) = ((b ||| (x <<< r) : Nat) : Int) ∧ (b ||| (x <<< r)) < 2 ^ (r + 1) := by
  have h1 : (2 : Nat) ^ r ≤ 2 ^ 15 := Nat.pow_le_pow_right (by decide) (by omega)
  refine ⟨or_step b x r (by omega) hx hr, ?_⟩
  apply Nat.or_lt_two_pow
  · rw [Nat.pow_succ]; omega
  · rw [Nat.shiftLeft_eq, Nat.pow_succ]
    have := Nat.two_pow_pos r
    have : x = 0 ∨ x = 1 := by omega
    rcases this with rfl | rfl <;> omega
theorem or_one (b r : Nat) (hb : b < 2 ^ r) (hr : r < 16) : bits .or .i64 (b : Int) (wrap64 (2 ^ r)) = ((b ||| (1 <<< r) : Nat) : Int) ∧ (b ||| (1 <<< r)) < 2 ^ (r + 1) := by
  obtain ⟨h1, h2⟩ := or_next b 1 r hb (Nat.le_refl _) hr
  refine ⟨?_, h2⟩
  rw [← h1]
  congr 1
  rw [show ((1 : Nat) : Int) * 2 ^ r = 2 ^ r by omega]
  simp [wrap64, IntKind.wrap, IntKind.bits, IntKind.signed]
  split <;> omega
theorem keep_next (b r : Nat) (hb : b < 2 ^ r) : b < 2 ^ (r + 1) := by rw [Nat.pow_succ]; omega
theorem bit01' (x i : Nat) : bitN x i = 0 ∨ bitN x i = 1 := by have := bitN_le x i; omega
theorem six {k : Int} (h0 : 0 ≤ k) (h1 : k < 6) : k = 0 ∨ k = 1 ∨ k = 2 ∨ k = 3 ∨ k = 4 ∨ k = 5 := by omega
theorem big_bits {x R : Nat} (h : x < 2 ^ R) (r16 : R ≤ 16) : x ≤ 65536 := by
  have : (2 : Nat) ^ R ≤ 2 ^ 16 := Nat.pow_le_pow_right (by decide) r16
  omega
theorem l01At_intI {n : Int} {x R : Nat} (ok : FOk n x R) (i : Int) (h0 : 0 ≤ i) (h1 : i < 62) (w : World) :
    Calls Try.prog 155 #[.agg #[.int .i64 n, .int .i64 (x : Int)], .int .i64 i] w fun e w' => e = .returned (.int .i64 (bitN x i.toNat : Int)) ∧ Below w.heap.size w w' := by
  obtain ⟨k, rfl⟩ := Int.eq_ofNat_of_zero_le h0
  exact l01At_any n x k ok.hx (by omega) w
end Go.Proofs.Ytenbokdcdokhiab

/- YI:
  Draws of chapter 3: functions that often are bent. -/
namespace Go.Proofs.Ytenbokdcdokhiab
open Go.RowKit
set_option linter.unusedVariables false
set_option linter.unusedSimpArgs false

/-- While a bent function is drawn: the source (block s), the answer's box, the function's box F, the list of coefficients. -/
structure BD (s F g R cp base : Nat) (a : Option Addr) (len cap : Nat) (w : World) (n0 x0 : Int) (v : Nat → Nat) (W : World) : Prop where
  S : SrcOk s a len cap W
  S0 : ∃ W0, SrcOk s a len cap W0 ∧ W0.heap.size ≤ base
  HB : Below w.heap.size w W
  c0 : W.cell? ⟨w.heap.size, 0, none⟩ = some (.int .i64 0)
  c1 : W.cell? ⟨w.heap.size, 1, none⟩ = some (.int .i64 0)
  f0 : W.frozen? ⟨w.heap.size, 0, none⟩ = false
  f1 : W.frozen? ⟨w.heap.size, 1, none⟩ = false
  o0 : W.cell? ⟨F, 0, none⟩ = some (.int .i64 n0)
  o1 : W.cell? ⟨F, 1, none⟩ = some (.int .i64 x0)
  p0 : W.frozen? ⟨F, 0, none⟩ = false
  p1 : W.frozen? ⟨F, 1, none⟩ = false
  ws : w.heap.size < s
  sF : s < F
  Fb : F < base
  O : Owns W base (.slice (some ⟨g, 0, none⟩) R cp) (natL v R)
  v1 : ∀ j, v j ≤ 1
theorem BD.ge {s F g R cp base : Nat} {a : Option Addr} {len cap : Nat} {w : World} {n0 x0 : Int} {v : Nat → Nat} {W : World} (h : BD s F g R cp base a len cap w n0 x0 v W) : base ≤ g := (World.ownsRow.lt h.O g rfl).1
theorem BD.next {s F g R cp base : Nat} {a : Option Addr} {len cap : Nat} {w : World} {n0 x0 : Int} {v : Nat → Nat} {W W' : World} (h : BD s F g R cp base a len cap w n0 x0 v W) (S : SrcOk s a len cap W') (hg : W.grownBy W' (some s)) : BD s F g R cp base a len cap w n0 x0 v W' := by
  have e1 : ¬ w.heap.size = s := by have := h.ws; omega
  have e2 : ¬ F = s := by have := h.sF; omega
  have := h.ws
  have := h.sF
  have := h.Fb
  exact ⟨S, h.S0, bGrown h.HB (Nat.le_of_lt h.ws) hg, kcg hg e1 h.c0, kcg hg e1 h.c1, kfg hg e1 h.c0 h.f0, kfg hg e1 h.c1 h.f1, kcg hg e2 h.o0, kcg hg e2 h.o1, kfg hg e2 h.o0 h.p0, kfg hg e2 h.o1 h.p1, h.ws, h.sF, h.Fb, h.O.grownTo hg (by omega), h.v1⟩
theorem BD.below {s F g R cp base : Nat} {a : Option Addr} {len cap : Nat} {w : World} {n0 x0 : Int} {v : Nat → Nat} {W W' : World} (h : BD s F g R cp base a len cap w n0 x0 v W) (hb : Below W.heap.size W W') : BD s F g R cp base a len cap w n0 x0 v W' :=
  ⟨h.S.below hb, h.S0, bthen h.HB hb, kc hb h.c0, kc hb h.c1, kf hb h.c0 h.f0, kf hb h.c1 h.f1, kc hb h.o0, kc hb h.o1, kf hb h.o0 h.p0, kf hb h.o1 h.p1, h.ws, h.sF, h.Fb, h.O.below hb, h.v1⟩
theorem BD.set {s F g R cp base : Nat} {a : Option Addr} {len cap : Nat} {w : World} {n0 x0 : Int} {v : Nat → Nat} {W : World} (h : BD s F g R cp base a len cap w n0 x0 v W) (k u : Nat) (hk : k < R) (hu : u ≤ 1) :
    (∃ z, W.cell? ⟨g, k, none⟩ = some z) ∧ W.frozen? ⟨g, k, none⟩ = false ∧ BD s F g R cp base a len cap w n0 x0 (fun j => if j = k then u else v j) (W.setCell ⟨g, k, none⟩ (.int .i64 (u : Int))) := by
  have hge := h.ge
  obtain ⟨W0, hS0, hW0⟩ := h.S0
  have hrow : W.ownsRow base 2 1 (.slice (some ⟨g, 0, none⟩) R cp) R (ints (natL v R)) := by
    have := h.O
    unfold Owns at this
    rw [natL_len] at this
    exact this
  have := h.ws
  have := h.sF
  have := h.Fb
  refine ⟨⟨_, by rw [World.ownsRow.cellAt hrow k (by omega)]; exact List.getElem?_eq_getElem (by simp [ints, natL_len]; omega)⟩, World.ownsRow.frozenAt hrow k, ?_⟩
  have hst := (World.ownsRow.stored hrow k (.int .i64 (u : Int))).1
  rw [natL_set] at hst
  have cell : ∀ (p : Addr) (z : Value), ¬ g = p.block → W.cell? p = some z → (W.setCell ⟨g, k, none⟩ (.int .i64 (u : Int))).cell? p = some z := fun p z hp hz =>
    (World.cell?_of_block (w := W) (Below.heap_setCell W ⟨g, k, none⟩ _ p.block (fun e => hp e.symm))).trans hz
  refine ⟨h.S.set' hS0 (by show W0.heap.size ≤ g; omega) _, h.S0, h.HB.setCell (p := ⟨g, k, none⟩) (by show w.heap.size ≤ g; omega) _, cell _ _ (by show ¬ g = w.heap.size; omega) h.c0, cell _ _ (by show ¬ g = w.heap.size; omega) h.c1, by rw [World.frozen?_setCell]; exact h.f0, by rw [World.frozen?_setCell]; exact h.f1, cell _ _ (by show ¬ g = F; omega) h.o0, cell _ _ (by show ¬ g = F; omega) h.o1, by rw [World.frozen?_setCell]; exact h.p0, by rw [World.frozen?_setCell]; exact h.p1, h.ws, h.sF, h.Fb, ?_, fun j => ?_⟩
  · unfold Owns
    rw [natL_len]
    exact hst
  · have := h.v1 j
    by_cases e : j = k <;> simp [e] <;> omega
theorem pow4 (k : Nat) (hk : k < 4) : wrap64 (2 ^ k) = ((2 ^ k : Nat) : Int) := by
  have e : (2 : Int) ^ k = ((2 ^ k : Nat) : Int) := by push_cast; rfl
  have hp : (2 : Nat) ^ k ≤ 2 ^ 3 := Nat.pow_le_pow_right (by decide) (by omega)
  rw [e]
  generalize (2 : Nat) ^ k = q at hp ⊢
  have : q ≤ 8 := hp
  exact IntWalk.wrap64_in _ ⟨by omega, by omega⟩
theorem natL_zero (R : Nat) : ints (natL (fun _ => 0) R) = List.replicate R (.int .i64 0) := by
  simp only [ints, natL, List.map_map]
  apply List.ext_getElem <;> simp
set_option maxRecDepth 100000 in
set_option maxHeartbeats 64000000 in
theorem bent_ok {a : Option Addr} {len cap : Nat} (hl : len ≤ 1048576) (w : World) (C : Code w a len) :
    Calls Try.prog 164 #[.slice a len cap] w (OneB w) := by
  obtain ⟨i0, hi, hz0, hz1, hz2⟩ := info_parts infoI
  obtain ⟨W1, hW1⟩ : ∃ W1, w.alloc (.cells #[.int .i64 0, .int .i64 0] 25) = W1 := ⟨_, rfl⟩
  have hb1 : Below w.heap.size w W1 := by rw [← hW1]; exact bnew _ _
  have c0 : W1.cell? ⟨w.heap.size, 0, none⟩ = some (.int .i64 0) := by rw [← hW1]; simp [go_sem]
  have c1 : W1.cell? ⟨w.heap.size, 1, none⟩ = some (.int .i64 0) := by rw [← hW1]; simp [go_sem]
  have f0 : W1.frozen? ⟨w.heap.size, 0, none⟩ = false := by rw [← hW1]; simp [go_sem]
  have f1 : W1.frozen? ⟨w.heap.size, 1, none⟩ = false := by rw [← hW1]; simp [go_sem]
  have hws : w.heap.size < W1.heap.size := cell_lt c0
  have hne : ¬ w.heap.size = W1.heap.size := by omega
  have hle : w.heap.size ≤ W1.heap.size := by omega
  have FR := Lib.hid (from_ok (cap := cap) hl W1 (C.below hb1).B (C.below hb1).lt)
  clear C
  go_enter Try.func164, Try.ntmps164
  go_wp2_with fail
  refine FR.out.mono ?_
  rintro e w2 ⟨rfl, S2, hb2⟩
  have f0 := kf hb2 c0 f0
  have f1 := kf hb2 c1 f1
  have c0 := kc hb2 c0
  have c1 := kc hb2 c1
  have HB := Lib.hid (bthen hb1 hb2)
  have S := Lib.hid S2
  clear S2 hb2 hb1 hW1 FR
  go_wp2_with fail
  refine (spoil_ok _ S.out).mono ?_
  rintro e w3 ⟨n0, x0, rfl, hn0, hx0, S3, hg3⟩
  have f0 := kfg hg3 hne c0 f0
  have f1 := kfg hg3 hne c1 f1
  have c0 := kcg hg3 hne c0
  have c1 := kcg hg3 hne c1
  replace HB := Lib.hid (bGrown HB.out hle hg3)
  have hsF := S3.lt
  obtain ⟨W4, hW4⟩ : ∃ W4, w3.alloc (.cells #[.int .i64 n0, .int .i64 x0] 25) = W4 := ⟨_, rfl⟩
  have hb4 : Below w3.heap.size w3 W4 := by rw [← hW4]; exact bnew _ _
  have o0 : W4.cell? ⟨w3.heap.size, 0, none⟩ = some (.int .i64 n0) := by rw [← hW4]; simp [go_sem]
  have o1 : W4.cell? ⟨w3.heap.size, 1, none⟩ = some (.int .i64 x0) := by rw [← hW4]; simp [go_sem]
  have p0 : W4.frozen? ⟨w3.heap.size, 0, none⟩ = false := by rw [← hW4]; simp [go_sem]
  have p1 : W4.frozen? ⟨w3.heap.size, 1, none⟩ = false := by rw [← hW4]; simp [go_sem]
  have hob : ¬ w3.heap.size = W1.heap.size := by omega
  have f0 := kf hb4 c0 f0
  have f1 := kf hb4 c1 f1
  have c0 := kc hb4 c0
  have c1 := kc hb4 c1
  replace HB := Lib.hid (bthen HB.out hb4)
  replace S := Lib.hid (S3.below hb4)
  clear S3 hg3 hb4
  go_wp2_with fail
  clear hW4
  refine (next_ok 3 (by omega) (by omega) _ S.out).mono ?_
  rintro e w5 ⟨r, rfl, r0, r1, S5, hg5⟩
  have f0 := kfg hg5 hne c0 f0
  have f1 := kfg hg5 hne c1 f1
  have c0 := kcg hg5 hne c0
  have c1 := kcg hg5 hne c1
  have p0 := kfg hg5 hob o0 p0
  have p1 := kfg hg5 hob o1 p1
  have o0 := kcg hg5 hob o0
  have o1 := kcg hg5 hob o1
  replace HB := Lib.hid (bGrown HB.out hle hg5)
  replace S := Lib.hid S5
  clear S5 hg5
  by_cases hr : r = 0
  · subst hr
    have PK := Lib.hid (pick3_ok 2 4 4 _ S.out)
    have bp := bnew w5 (.cells #[.int .i64 2, .int .i64 4, .int .i64 4] 2)
    go_wp2_with fail
    refine PK.out.mono ?_
    rintro e w6 ⟨m, hm, rfl, S6, hg6'⟩
    have hg6 := hg6'
    have f0 := kfg hg6 hne c0 f0
    have f1 := kfg hg6 hne c1 f1
    have c0 := kcg hg6 hne c0
    have c1 := kcg hg6 hne c1
    have p0 := kfg hg6 hob o0 p0
    have p1 := kfg hg6 hob o1 p1
    have o0 := kcg hg6 hob o0
    have o1 := kcg hg6 hob o1
    replace HB := Lib.hid (bGrown HB.out hle hg6)
    replace S := Lib.hid S6
    obtain ⟨n, rfl, hn⟩ : ∃ n : Nat, m = (n : Int) ∧ (n = 2 ∨ n = 4) := by
      rcases hm with rfl | rfl | rfl
      · exact ⟨2, rfl, .inl rfl⟩
      · exact ⟨4, rfl, .inr rfl⟩
      · exact ⟨4, rfl, .inr rfl⟩
    have h0 : (0 : Int) ≤ (n : Int) := by omega
    have h4 : (n : Int) ≤ 4 := by omega
    obtain ⟨R0, R16, hR, hRb⟩ := rows_two h0 h4
    rw [Int.toNat_natCast] at R0 R16 hR hRb
    have h12 : 3 < 2 ^ n ∧ (n = 4 → 12 < 2 ^ n) := by rcases hn with rfl | rfl <;> decide
    have HP := Lib.hid (fun k (hk : k < n) => Nat.pow_lt_pow_right (a := 2) (by decide) hk)
    have HW := Lib.hid (fun k (hk : k < n) => pow4 k (by omega))
    have HRe := Lib.hid (rfl : 2 ^ n = 2 ^ n)
    have RW := Lib.hid (fun w => l01Rows_is h0 h4 (Lib.hid hR) w)
    have OF := Lib.hid (fun (x : Nat) (hx : x < 2 ^ 2 ^ n) => FOk.of h0 h4 (by rw [Int.toNat_natCast]; exact hx))
    have LO := Lib.hid (fun (g cp : Nat) (v : Nat → Nat) (hv : ∀ r, r < 2 ^ n → v r ≤ 1) (w : World) hg hc => l01Of_any h0 h4 R0 R16 (Lib.hid hR) g cp v hv w hg hc)
    have LS := Lib.hid (fun (v : Nat → Nat) (hv : ∀ j, v j ≤ 1) (base : Nat) (s : Value) (w : World) ho => l03Sums_any (n := n) (by omega) rfl (v := v) hv (base := base) (s := s) w ho)
    have HH := Lib.hid (And.intro hn (And.intro hn0 hx0))
    clear PK bp S6 hg6 hg6' hm hRb
    generalize hRR : 2 ^ n = R at R0 R16 hR h12 HP HRe RW OF LO LS
    have hs6 := S.out.lt
    have hF6 : w3.heap.size < w6.heap.size := cell_lt o0
    go_wp2_with (first
      | (go_at_call 148; refine (RW.out _).mono ?_; rintro e w' ⟨rfl, rfl⟩)
      | (at_make; refine wpList_make_full _ rfl _ _ 30 rfl w6.heap.size 2 i0 (.int .i64 0) 1 Try.underlying30 hi hz0 hz1 .i64 .i64 _ _ R rfl rfl rfl rfl (by rw [hz2]; omega) (by unfold maxLen; omega) (Nat.le_refl _) ?_; intro w7 hown7 hgrow7))
    have D0 := Lib.hid (show BD W1.heap.size w3.heap.size w6.heap.size R R w6.heap.size a len cap w n0 x0 (fun _ => 0) w7 by
      have gb := Below.grown (Below.refl w6.heap.size w6) hgrow7 (Nat.le_refl _) (by simp)
      refine ⟨S.out.below gb, ⟨w6, S.out, Nat.le_refl _⟩, bthen HB.out gb, kc gb c0, kc gb c1, kf gb c0 f0, kf gb c1 f1, kc gb o0, kc gb o1, kf gb o0 p0, kf gb o1 p1, hws, hsF, hF6, ?_, fun _ => Nat.zero_le _⟩
      unfold Owns
      rw [natL_len, natL_zero]
      rw [show (Value.int .i64 0).cells = #[.int .i64 0] from rfl, toList_madeCells_one, Nat.mul_one] at hown7
      exact hown7)
    clear hown7 hgrow7 c0 c1 f0 f1 o0 o1 p0 p1 HB S
    go_loopw [7] (fun i wr => ∃ (k : Nat) (v : Nat → Nat), k ≤ n ∧ i = .int .i64 k ∧ Hid (BD W1.heap.size w3.heap.size w6.heap.size R R w6.heap.size a len cap w n0 x0 v wr)) (fun i _ => n - (intOf i).toNat)
    case atStart => exact ⟨0, _, Nat.zero_le _, rfl, D0⟩
    case round =>
      obtain ⟨k, v, hk, rfl, D⟩ := hrel
      clear D0
      by_cases hlt : k < n
      · have e1 := HW.out k hlt
        have e2 := HP.out k hlt
        obtain ⟨q, hq⟩ : ∃ q : Nat, 2 ^ k = q := ⟨_, rfl⟩
        rw [hq] at e1 e2
        clear hq
        go_wp2_with fail
        refine (next_ok 2 (by omega) (by omega) _ D.out.S).mono ?_
        rintro e w8 ⟨u', rfl, u0, u1, S8, hg8⟩
        obtain ⟨u, rfl⟩ := Int.eq_ofNat_of_zero_le u0
        obtain ⟨⟨z, hz⟩, hfz, D9⟩ := (D.out.next S8 hg8).set q u e2 (by omega)
        have DD := Lib.hid D9
        clear D S8 hg8 D9
        go_wp2_with fail
        go_roundw
        case rel => exact ⟨k + 1, _, by omega, by go_num, DD⟩
        case measure => simp [intOf]; omega
      · obtain rfl : k = n := by omega
        go_wp2_with fail
        refine (next_ok 2 (by omega) (by omega) _ D.out.S).mono ?_
        rintro e w8 ⟨u', rfl, u0, u1, S8, hg8⟩
        obtain ⟨u, rfl⟩ := Int.eq_ofNat_of_zero_le u0
        have EA := (D.out.next S8 hg8).set 0 u (by omega) (by omega)
        obtain ⟨⟨z, hz⟩, hfz, D9⟩ := EA
        obtain ⟨⟨z2, hz2'⟩, hfz2, D10⟩ := D9.set 3 1 h12.1 (by omega)
        have E10 := Lib.hid D10
        have H12 := Lib.hid h12.2
        have l3 := h12.1
        have B12 := Lib.hid (fun (h : 12 < R) => And.intro ((D.out.next S8 hg8).set 12 1 h (by omega)).1 ((D.out.next S8 hg8).set 12 1 h (by omega)).2.1)
        clear D S8 hg8 D9 D10 h12
        rcases HH.out.1 with hk2 | hk4
        · have hq : ((k : Int) == 4) = false := by simp; omega
          clear hk2
          go_wp2_with fail
          clear hq
          obtain ⟨v', hv'⟩ : ∃ v' : Nat → Nat, BD W1.heap.size w3.heap.size w6.heap.size R R w6.heap.size a len cap w n0 x0 v' _ := ⟨_, E10.out⟩
          refine (LS.out _ hv'.v1 _ _ _ hv'.O).mono ?_
          rintro e w12 ⟨s12, rfl, ho12, hb12⟩
          obtain ⟨g12, c12, rfl, hg12, hc12⟩ := owned_cells R0 ho12
          have E12 := Lib.hid (hv'.below hb12)
          have OK := Lib.hid (OF.out (sumN (fun r => par v' (subsOf r)) R) (sumN_lt _ _ (fun r _ => par_le _ _)))
          clear ho12 hb12 hv' E10 hz hfz hz2' hfz2
          go_wp2_with fail
          refine (LO.out g12 c12 (fun r => par v' (subsOf r)) (fun r _ => par_le _ _) _ hg12 hc12).mono ?_
          rintro e w13 ⟨rfl, hb13⟩
          have E13 := Lib.hid (E12.out.below hb13)
          generalize sumN (fun r => par v' (subsOf r)) R = y at OK
          clear hb13 E12 hc12
          go_wp2_with fail
          refine (drawOrder_ok (n := k) (by omega) _ E13.out.S).mono ?_
          rintro e w14 ⟨s14, xs, rfl, ho14, hord, S14, hg14⟩
          have E14 := Lib.hid (E13.out.next S14 hg14)
          have PM := Lib.hid (l01Permute_any OK.out (by omega) hord.len hord.perm w14 ho14)
          clear hord ho14 S14 hg14 E13
          go_wp2_with fail
          refine PM.out.mono ?_
          rintro e w15 ⟨rfl, hb15⟩
          have E15 := E14.out.below hb15
          have hyb := sumN_lt (permN xs k y) R (fun r _ => bitN_le _ _)
          have hy := big_bits hyb R16
          have c0 := E15.c0
          have c1 := E15.c1
          have f0 := E15.f0
          have f1 := E15.f1
          have o0 := E15.o0
          have o1 := E15.o1
          have p0 := E15.p0
          have p1 := E15.p1
          have ne2 : ¬ w3.heap.size = w.heap.size := by omega
          have HB := Lib.hid E15.HB
          have hwF : w.heap.size ≤ w3.heap.size := by omega
          clear E15 E14 PM hb15 hyb
          go_wp2_with fail
          exact bodyPost_ret (v := .agg #[.int .i64 (k : Int), .int .i64 (sumN (permN xs k y) R : Int)]) (by simp [results, Try.results164, go_sem, c0, c1, o0, o1, ne2]) rfl ⟨(k : Int), (sumN (permN xs k y) R : Int), rfl, ⟨by omega, by omega⟩, ⟨by omega, by omega⟩, (((HB.out.setCell (p := ⟨w3.heap.size, 0, none⟩) hwF _).setCell (p := ⟨w3.heap.size, 1, none⟩) hwF _).setCell (p := ⟨w.heap.size, 0, none⟩) (Nat.le_refl _) _).setCell (p := ⟨w.heap.size, 1, none⟩) (Nat.le_refl _) _⟩
        · have hq : ((k : Int) == 4) = true := by simp; omega
          obtain ⟨_, _, D11⟩ := E10.out.set 12 1 (H12.out hk4) (by omega)
          have l12 := H12.out hk4
          obtain ⟨⟨z3, hz3⟩, hfz3⟩ := B12.out l12
          replace E10 := Lib.hid D11
          clear hk4 D11
          go_wp2_with fail
          clear hq
          obtain ⟨v', hv'⟩ : ∃ v' : Nat → Nat, BD W1.heap.size w3.heap.size w6.heap.size R R w6.heap.size a len cap w n0 x0 v' _ := ⟨_, E10.out⟩
          refine (LS.out _ hv'.v1 _ _ _ hv'.O).mono ?_
          rintro e w12 ⟨s12, rfl, ho12, hb12⟩
          obtain ⟨g12, c12, rfl, hg12, hc12⟩ := owned_cells R0 ho12
          have E12 := Lib.hid (hv'.below hb12)
          have OK := Lib.hid (OF.out (sumN (fun r => par v' (subsOf r)) R) (sumN_lt _ _ (fun r _ => par_le _ _)))
          clear ho12 hb12 hv' E10 hz hfz hz2' hfz2
          go_wp2_with fail
          refine (LO.out g12 c12 (fun r => par v' (subsOf r)) (fun r _ => par_le _ _) _ hg12 hc12).mono ?_
          rintro e w13 ⟨rfl, hb13⟩
          have E13 := Lib.hid (E12.out.below hb13)
          generalize sumN (fun r => par v' (subsOf r)) R = y at OK
          clear hb13 E12 hc12
          go_wp2_with fail
          refine (drawOrder_ok (n := k) (by omega) _ E13.out.S).mono ?_
          rintro e w14 ⟨s14, xs, rfl, ho14, hord, S14, hg14⟩
          have E14 := Lib.hid (E13.out.next S14 hg14)
          have PM := Lib.hid (l01Permute_any OK.out (by omega) hord.len hord.perm w14 ho14)
          clear hord ho14 S14 hg14 E13
          go_wp2_with fail
          refine PM.out.mono ?_
          rintro e w15 ⟨rfl, hb15⟩
          have E15 := E14.out.below hb15
          have hyb := sumN_lt (permN xs k y) R (fun r _ => bitN_le _ _)
          have hy := big_bits hyb R16
          have c0 := E15.c0
          have c1 := E15.c1
          have f0 := E15.f0
          have f1 := E15.f1
          have o0 := E15.o0
          have o1 := E15.o1
          have p0 := E15.p0
          have p1 := E15.p1
          have ne2 : ¬ w3.heap.size = w.heap.size := by omega
          have HB := Lib.hid E15.HB
          have hwF : w.heap.size ≤ w3.heap.size := by omega
          clear E15 E14 PM hb15 hyb
          go_wp2_with fail
          exact bodyPost_ret (v := .agg #[.int .i64 (k : Int), .int .i64 (sumN (permN xs k y) R : Int)]) (by simp [results, Try.results164, go_sem, c0, c1, o0, o1, ne2]) rfl ⟨(k : Int), (sumN (permN xs k y) R : Int), rfl, ⟨by omega, by omega⟩, ⟨by omega, by omega⟩, (((HB.out.setCell (p := ⟨w3.heap.size, 0, none⟩) hwF _).setCell (p := ⟨w3.heap.size, 1, none⟩) hwF _).setCell (p := ⟨w.heap.size, 0, none⟩) (Nat.le_refl _) _).setCell (p := ⟨w.heap.size, 1, none⟩) (Nat.le_refl _) _⟩
  · have hq : (r == 0) = false := by simp [hr]
    go_wp2_with fail
    exact bodyPost_ret (v := .agg #[.int .i64 n0, .int .i64 x0]) (by simp [results, Try.results164, go_sem, c0, c1]) rfl ⟨n0, x0, rfl, ⟨by omega, by omega⟩, ⟨by omega, by omega⟩, (HB.out.setCell (p := ⟨w.heap.size, 0, none⟩) (Nat.le_refl _) _).setCell (p := ⟨w.heap.size, 1, none⟩) (Nat.le_refl _) _⟩
end Go.Proofs.Ytenbokdcdokhiab
