/-
  The texts FL1, FL2, FL3, FL4, FFlipInstance in one.
-/
import Derived.Test.YthkmapflbopdpaaMPFixVar1
import Derived.Deep.RegionHeldLaw
import Derived.Deep.DeepCutAuto
import Derived.Deep.RegionHeld3
import Derived.Deep.Cut

/- FL1:
  Flipped relations, in both packages. -/
namespace Go.Proofs.Ythkmapflbopdpaa
open Go.RowKit
set_option linter.unusedVariables false
set_option linter.unusedSimpArgs false

/-- The flipped tuples of those below k. -/
def flTo (x R : Nat) : Nat → Nat
  | 0 => 0
  | k + 1 => flTo x R k + bitN x k * 2 ^ (R - 1 - k)
theorem flTo_bd (x R : Nat) : ∀ k, k ≤ R → flTo x R k + 2 ^ (R - k) ≤ 2 ^ R
  | 0, _ => by simp [flTo]
  | k + 1, h => by
    have ih := flTo_bd x R k (by omega)
    have hb := bitN_le x k
    have hp := Nat.two_pow_pos (R - 1 - k)
    have e : (2 : Nat) ^ (R - k) = 2 ^ (R - 1 - k) + 2 ^ (R - 1 - k) := by
      rw [show R - k = (R - 1 - k) + 1 by omega, Nat.pow_succ]; omega
    have e2 : R - (k + 1) = R - 1 - k := by omega
    rw [e2]
    show flTo x R k + bitN x k * 2 ^ (R - 1 - k) + _ ≤ _
    rcases (show bitN x k = 0 ∨ bitN x k = 1 by omega) with h0 | h0
    · rw [h0, Nat.zero_mul]; omega
    · rw [h0, Nat.one_mul]; omega
theorem flTo_dvd (x R : Nat) : ∀ k, k ≤ R → ∃ q, flTo x R k = q * 2 ^ (R - k)
  | 0, _ => ⟨0, by simp [flTo]⟩
  | k + 1, h => by
    obtain ⟨q, hq⟩ := flTo_dvd x R k (by omega)
    refine ⟨2 * q + bitN x k, ?_⟩
    have e : (2 : Nat) ^ (R - k) = 2 * 2 ^ (R - (k + 1)) := by
      rw [show R - k = (R - (k + 1)) + 1 by omega, Nat.pow_succ]; omega
    show flTo x R k + bitN x k * 2 ^ (R - 1 - k) = _
    rw [hq, e, show R - 1 - k = R - (k + 1) by omega, Nat.add_mul]
    congr 1
    rw [Nat.mul_comm 2 q, Nat.mul_assoc]
theorem flTo_or {x R k : Nat} (h : k < R) (hb : bitN x k = 1) : flTo x R k ||| 2 ^ (R - 1 - k) = flTo x R (k + 1) := by
  obtain ⟨q, hq⟩ := flTo_dvd x R k (by omega)
  have hlt : 2 ^ (R - 1 - k) < 2 ^ (R - k) := Nat.pow_lt_pow_right (by decide) (by omega)
  show _ = flTo x R k + bitN x k * 2 ^ (R - 1 - k)
  rw [hb, Nat.one_mul, hq, ← Nat.shiftLeft_eq, Nat.shiftLeft_add_eq_or_of_lt hlt]
theorem flTo_no {x R k : Nat} (hb : bitN x k ≠ 1) : flTo x R (k + 1) = flTo x R k := by
  have := bitN_le x k
  show flTo x R k + bitN x k * 2 ^ (R - 1 - k) = _
  rw [show bitN x k = 0 by omega]
  omega
/-- The flipped relation. -/
def flN (x R : Nat) : Nat := flTo x R R
/-- What the first tuples of a list make. -/
def flL (R : Nat) (l : List Nat) : Nat := l.foldl (fun o t => o ||| 2 ^ (R - 1 - t)) 0
theorem flL_snoc (R : Nat) (l : List Nat) (t : Nat) : flL R (l ++ [t]) = flL R l ||| 2 ^ (R - 1 - t) := by simp [flL]
theorem flL_tups (x R : Nat) : ∀ k, k ≤ R → flL R (tupsL x k) = flTo x R k
  | 0, _ => by simp [tupsL, flL, flTo]
  | k + 1, h => by
    have ih := flL_tups x R k (by omega)
    have e : tupsL x (k + 1) = tupsL x k ++ (if bitN x k = 1 then [k] else []) := by
      unfold tupsL
      rw [List.range_succ, List.filter_append]
      congr 1
      by_cases hb : bitN x k = 1
      · simp [hb]
      · simp [hb]
    rw [e]
    by_cases hb : bitN x k = 1
    · rw [if_pos hb, flL_snoc, ih, flTo_or (by omega) hb]
    · rw [if_neg hb, List.append_nil, ih, flTo_no hb]
theorem flL_lt (R : Nat) : ∀ l : List Nat, (∀ t ∈ l, t < R) → flL R l < 2 ^ R := by
  have key : ∀ (l : List Nat) (o : Nat), o < 2 ^ R → (∀ t ∈ l, t < R) → l.foldl (fun o t => o ||| 2 ^ (R - 1 - t)) o < 2 ^ R := by
    intro l
    induction l with
    | nil => intro o ho _; exact ho
    | cons t l ih =>
      intro o ho h
      rw [List.foldl_cons]
      have ht := h t (by simp)
      exact ih _ (Nat.or_lt_two_pow ho (Nat.pow_lt_pow_right (by decide) (by omega))) fun u hu => h u (List.mem_cons_of_mem _ hu)
  intro l h
  exact key l 0 (Nat.two_pow_pos _) h

theorem wrap_add2 (a P : Nat) (h : a + P ≤ 65536) : IntKind.i64.wrap ((a : Int) + IntKind.i64.wrap (P : Int)) = ((a + P : Nat) : Int) := by
  rw [wrap64_small (x := (P : Int)) (by omega) (by omega), wrap64_small (by omega) (by omega)]
  omega

set_option maxRecDepth 100000 in
set_option maxHeartbeats 8000000 in
theorem l09Flip_any {n : Int} {y R : Nat} (okr : ROk n y R) (w : World) :
    Calls Try.prog 71 #[.agg #[.int .i64 n, .int .i64 (y : Int)]] w fun e w' => e = .returned (.agg #[.int .i64 n, .int .i64 (flN y R : Int)]) ∧ Below w.heap.size w w' := by
  have r0 := okr.r0
  have r16 := okr.r16
  have LR := Lib.hid (fun V => l01Rows_is okr.h0 okr.h4 okr.hR V)
  have HAS := Lib.hid (fun t (ht : t < 62) V => l09Has_any (n := n) y t okr.hx ht V)
  have HBD : Hid (∀ k, k ≤ R → flTo y R k + 2 ^ (R - k) ≤ 65536) := Lib.hid fun k hk => by
    have h1 := flTo_bd y R k hk
    have h2 := Nat.pow_le_pow_right (show 0 < 2 by decide) r16
    omega
  clear okr
  obtain ⟨W1, hW1⟩ : ∃ W1, (w.alloc (.cells #[.int .i64 n, .int .i64 (y : Int)] 38)).alloc (.cells #[.int .i64 0, .int .i64 0] 38) = W1 := ⟨_, rfl⟩
  have p0 : W1.cell? ⟨w.heap.size, 0, none⟩ = some (.int .i64 n) := by rw [← hW1]; simp [go_sem]
  have p1 : W1.cell? ⟨w.heap.size, 1, none⟩ = some (.int .i64 (y : Int)) := by rw [← hW1]; simp [go_sem]
  have x0 : W1.cell? ⟨w.heap.size + 1, 0, none⟩ = some (.int .i64 0) := by rw [← hW1]; simp [go_sem]
  have x1 : W1.cell? ⟨w.heap.size + 1, 1, none⟩ = some (.int .i64 0) := by rw [← hW1]; simp [go_sem]
  have x2 : W1.frozen? ⟨w.heap.size + 1, 0, none⟩ = false := by rw [← hW1]; simp [go_sem]
  have x3 : W1.frozen? ⟨w.heap.size + 1, 1, none⟩ = false := by rw [← hW1]; simp [go_sem]
  have hB : Below w.heap.size w W1 := by rw [← hW1]; exact balloc (bnew _ _) _
  have hsz : W1.heap.size = w.heap.size + 2 := by rw [← hW1]; simp [go_sem]
  have HSZ := Lib.hid hsz
  have hlt : w.heap.size + 1 < W1.heap.size := cell_lt x0
  have hlt0 : w.heap.size < W1.heap.size := cell_lt p0
  have X0 : BX2 W1 w.heap.size n (.int .i64 (y : Int)) := ⟨p0, p1, by rw [← hW1]; simp [go_sem], by rw [← hW1]; simp [go_sem]⟩
  have X1 : BX2 W1 (w.heap.size + 1) 0 (.int .i64 0) := ⟨x0, x1, x2, x3⟩
  clear hsz
  go_enter Try.func71, Try.ntmps71
  go_wp2
  clear hW1
  go_region_law (first | (go_simp; go_at_call 77; refine (LR.out _).mono ?_; rintro e w' ⟨rfl, rfl⟩))
  all_goals
    go_wp2
    go_loopw [5] (fun i' wr => ∃ k : Nat, k ≤ R ∧ i' = .int .i64 k ∧ Hid (BX2 wr w.heap.size n (.int .i64 (y : Int))) ∧ Hid (BX2 wr (w.heap.size + 1) 0 (.int .i64 0)) ∧ Hid (BX2 wr W1.heap.size n (.int .i64 (flTo y R k : Int))) ∧ Below w.heap.size w wr) (fun i' _ => R - (intOf i').toNat)
    case atStart => exact ⟨0, by omega, rfl, Lib.hid (by first | exact X0.below (bnew _ _).drew | exact X0.below ((Below.refl _ _).drew.alloc (Nat.le_refl _) _)), Lib.hid (by first | exact X1.below (bnew _ _).drew | exact X1.below ((Below.refl _ _).drew.alloc (Nat.le_refl _) _)), Lib.hid ⟨by simp [go_sem, flTo], by simp [go_sem, flTo], by simp [go_sem], by simp [go_sem]⟩, by first | exact balloc hB _ | exact (balloc hB _).drew⟩
    case round =>
      clear p0 p1 x0 x1 x2 x3 X0 X1 hB
      obtain ⟨k, hk, rfl, HX0, HX1, HX3, hN⟩ := hrel
      have u0 := (HX0.out).c0
      have u1 := (HX0.out).c1
      by_cases hkR : k < R
      · have HASk := Lib.hid (HAS.out k (by omega))
        have hw1 : IntKind.i64.wrap ((R : Int) - 1) = (R : Int) - 1 := wrap64_small (by omega) (by omega)
        have hw2 : IntKind.i64.wrap ((R : Int) - 1 - (k : Int)) = ((R - 1 - k : Nat) : Int) := by rw [wrap64_small (by omega) (by omega)]; omega
        cases hb : bitN y k == 1
        · rw [hb] at HASk
          have HNO := Lib.hid (flTo_no (R := R) (show bitN y k ≠ 1 by simpa using hb))
          clear hb
          go_wp2_with (go_at_call 78; refine (HASk.out _).mono ?_; rintro e w5 ⟨rfl, hb5⟩)
          go_roundw
          case rel => exact ⟨k + 1, by omega, by go_num, Lib.hid ((HX0.out).below hb5), Lib.hid ((HX1.out).below hb5), by rw [HNO.out]; exact Lib.hid ((HX3.out).below hb5), bthen hN hb5⟩
          case measure => simp [intOf]; omega
        · rw [hb] at HASk
          have hb1 : bitN y k = 1 := by simpa using hb
          have HV : Hid (wrap64 ((flTo y R k : Int) + wrap64 ((2 : Int) ^ (R - 1 - k))) = (flTo y R (k + 1) : Int)) := Lib.hid (by
            have h1 := HBD.out k (by omega)
            have h2 := HBD.out (k + 1) (by omega)
            have h3 : flTo y R (k + 1) = flTo y R k + 2 ^ (R - 1 - k) := by show flTo y R k + bitN y k * 2 ^ (R - 1 - k) = _; rw [hb1, Nat.one_mul]
            have h4 : ((2 : Int) ^ (R - 1 - k)) = ((2 ^ (R - 1 - k) : Nat) : Int) := by push_cast; rfl
            have h5 : 0 < 2 ^ (R - (k + 1)) := Nat.two_pow_pos _
            rw [w64, w64, h4, h3]
            exact wrap_add2 _ _ (by rw [← h3]; omega))
          clear hb
          go_wp2_with (go_at_call 78; refine (HASk.out _).mono ?_; rintro e w5 ⟨rfl, hb5⟩; have Y3 := (HX3.out).below hb5; have v0 := Y3.c0; have v1 := Y3.c1; have v2 := Y3.f0; have v3 := Y3.f1; have HY3 := Lib.hid Y3; clear Y3)
          have hne0 : w.heap.size ≠ W1.heap.size := by omega
          have hne1 : w.heap.size + 1 ≠ W1.heap.size := by omega
          go_roundw
          case rel => exact ⟨k + 1, by omega, by go_num, Lib.hid (((HX0.out).below hb5).other hne0 _ _), Lib.hid (((HX1.out).below hb5).other hne1 _ _), by rw [HV.out]; exact Lib.hid ((HY3.out).set _), (bthen hN hb5).setCell (p := ⟨W1.heap.size, 1, none⟩) (by show _ ≤ W1.heap.size; omega) _⟩
          case measure => simp [intOf]; omega
      · obtain rfl : k = R := by omega
        have z0 := (HX3.out).c0
        have z1 := (HX3.out).c1
        have y0 := (HX1.out).c0
        have y1 := (HX1.out).c1
        have y2 := (HX1.out).f0
        have y3 := (HX1.out).f1
        go_wp2
        refine bodyPost_ret (v := .agg #[.int .i64 n, .int .i64 (flN y k : Int)]) ?_ rfl ?_
        · simp [results, Try.results71, go_sem, y0, y1, flN]
        · exact ⟨rfl, (hN.setCell (p := ⟨w.heap.size + 1, 0, none⟩) (by show _ ≤ w.heap.size + 1; omega) _).setCell (p := ⟨w.heap.size + 1, 1, none⟩) (by show _ ≤ w.heap.size + 1; omega) _⟩
end Go.Proofs.Ythkmapflbopdpaa

/- FL2:
  Flipped relations in the program. -/
namespace Go.Proofs.Ythkmapflbopdpaa
open Go.RowKit
set_option linter.unusedVariables false
set_option linter.unusedSimpArgs false

def na (l : List Nat) (j : Nat) : Nat := l[j]?.getD 0
theorem na_mem {l : List Nat} {j : Nat} (h : j < l.length) : na l j ∈ l := by
  unfold na
  rw [List.getElem?_eq_getElem h]
  exact List.getElem_mem h
theorem na_take {l : List Nat} {j : Nat} (h : j < l.length) : l.take (j + 1) = l.take j ++ [na l j] := by
  rw [List.take_succ_eq_append_getElem h, na, List.getElem?_eq_getElem h]; rfl
theorem vget_nI (l : List Nat) (j : Nat) (h : j < l.length) : vget (nI l) j = (na l j : Int) := by simp [vget, nI, na, h]

/-- The cells of a list of numbers that can be read, above its base. -/
theorem Owns.cellsG {W : World} {base : Nat} {s : Value} {xs : List Int} (h : Owns W base s xs) : ∃ a cap, s = .slice a xs.length cap ∧ (xs.length = 0 ∨ ∃ g, a = some ⟨g, 0, none⟩ ∧ base ≤ g ∧ Hid (∀ j, j < xs.length → W.cell? ⟨g, j, none⟩ = some (.int .i64 (vget xs j)))) := by
  rcases h.shape with ⟨rfl, a, cap, rfl⟩ | ⟨hn, g, cap, rfl, hb, hg, hc, _⟩
  · exact ⟨a, cap, rfl, .inl rfl⟩
  · exact ⟨_, cap, rfl, .inr ⟨g, rfl, hb, Lib.hid fun j hj => by rw [hc.out j hj]; rfl⟩⟩

set_option maxRecDepth 100000 in
set_option maxHeartbeats 8000000 in
theorem flippedRelation_any {n : Int} {y R : Nat} (okr : ROk n y R) (w : World) :
    Calls Try.prog 73 #[.agg #[.int .i64 n, .int .i64 (y : Int)]] w fun e w' => e = .returned (.agg #[.int .i64 n, .int .i64 (flN y R : Int)]) ∧ Below w.heap.size w w' := by
  have r0 := okr.r0
  have r16 := okr.r16
  have LR := Lib.hid (fun V => lastRow_is okr.h0 okr.h4 r0 r16 okr.hR V)
  have NO := Lib.hid (fun V => numbersOf_any okr.toFOk V)
  have HMEM : Hid (∀ t ∈ tupsL y R, t < R) := Lib.hid fun t ht => (tupsL_mem.1 ht).1
  have HFIN : Hid (flL R (tupsL y R) = flN y R) := Lib.hid (flL_tups y R R (Nat.le_refl _))
  have HLEN : Hid ((tupsL y R).length ≤ R) := Lib.hid (tupsL_len y R)
  clear okr
  generalize tupsL y R = l at NO HMEM HFIN HLEN
  have HBD : Hid (∀ i, flL R (l.take i) < 65536) := Lib.hid fun i => by
    have h1 := flL_lt R (l.take i) fun t ht => HMEM.out t (List.mem_of_mem_take ht)
    have h2 := Nat.pow_le_pow_right (show 0 < 2 by decide) r16
    omega
  obtain ⟨W1, hW1⟩ : ∃ W1, ((w.alloc (.cells #[.int .i64 n, .int .i64 (y : Int)] 38)).alloc (.cells #[.int .i64 0, .int .i64 0] 38)).alloc (.cells #[.int .i64 n, .int .i64 0] 38) = W1 := ⟨_, rfl⟩
  have X0 : BX2 W1 w.heap.size n (.int .i64 (y : Int)) := by rw [← hW1]; exact ⟨by simp [go_sem], by simp [go_sem], by simp [go_sem], by simp [go_sem]⟩
  have X1 : BX2 W1 (w.heap.size + 1) 0 (.int .i64 0) := by rw [← hW1]; exact ⟨by simp [go_sem], by simp [go_sem], by simp [go_sem], by simp [go_sem]⟩
  have X3 : BX2 W1 (w.heap.size + 1 + 1) n (.int .i64 0) := by rw [← hW1]; exact ⟨by simp [go_sem], by simp [go_sem], by simp [go_sem], by simp [go_sem]⟩
  have hB : Below w.heap.size w W1 := by rw [← hW1]; exact balloc (balloc (bnew _ _) _) _
  have p0 := X0.c0
  have p1 := X0.c1
  have x0 := X3.c0
  have x1 := X3.c1
  have x2 := X3.f0
  have x3 := X3.f1
  have HX0 := Lib.hid X0
  have HX1 := Lib.hid X1
  have HX3 := Lib.hid X3
  clear X0 X1 X3
  go_enter Try.func73, Try.ntmps73
  go_wp2_with fail
  clear hW1
  obtain ⟨W2, hW2⟩ : ∃ W2, W1.setCell ⟨w.heap.size + 1 + 1, 1, none⟩ (.int .i64 0) = W2 := ⟨_, rfl⟩
  rw [hW2]
  have HZ0 : Hid (BX2 W2 w.heap.size n (.int .i64 (y : Int))) := Lib.hid (by rw [← hW2]; exact (HX0.out).other (by omega) _ _)
  have HZ1 : Hid (BX2 W2 (w.heap.size + 1) 0 (.int .i64 0)) := Lib.hid (by rw [← hW2]; exact (HX1.out).other (by omega) _ _)
  have HZ3 : Hid (BX2 W2 (w.heap.size + 1 + 1) n (.int .i64 0)) := Lib.hid (by rw [← hW2]; exact (HX3.out).set _)
  have hB2 : Below w.heap.size w W2 := by rw [← hW2]; exact hB.setCell (p := ⟨w.heap.size + 1 + 1, 1, none⟩) (by show _ ≤ w.heap.size + 1 + 1; omega) _
  clear hW2 HX0 HX1 HX3 p0 p1 x0 x1 x2 x3 hB
  refine (NO.out _).mono ?_
  rintro e w3 ⟨s, rfl, ho, hb3⟩
  obtain ⟨la, lc, rfl, hcl⟩ := Owns.cellsG ho
  have hlt2 : w.heap.size + 1 + 1 < W2.heap.size := (HZ3.out).lt
  rw [nI_length] at hcl ⊢
  have HCL : Hid (l.length = 0 ∨ ∃ g, la = some ⟨g, 0, none⟩ ∧ w.heap.size + 1 + 1 < g ∧ Hid (∀ j, j < l.length → w3.cell? ⟨g, j, none⟩ = some (.int .i64 (na l j : Int)))) := Lib.hid (by
    rcases hcl with h0 | ⟨g, h1, h2, h3⟩
    · exact .inl h0
    · exact .inr ⟨g, h1, by omega, Lib.hid fun j hj => by rw [h3.out j hj, vget_nI l j hj]⟩)
  have HY0 := Lib.hid ((HZ0.out).below hb3)
  have HY1 := Lib.hid ((HZ1.out).below hb3)
  have HY3 := Lib.hid ((HZ3.out).below hb3)
  have hB3 := bthen hB2 hb3
  have hlenR := HLEN.out
  clear hcl ho HZ0 HZ1 HZ3 hB2 hb3 NO
  generalize hL : l.length = L at HCL hlenR ⊢
  have HL := Lib.hid hL
  clear hL
  go_wp2
  go_loopw [12] (fun i' wr => ∃ i : Nat, i ≤ L ∧ i' = .int .i64 i ∧ Hid (BX2 wr w.heap.size n (.int .i64 (y : Int))) ∧ Hid (BX2 wr (w.heap.size + 1) 0 (.int .i64 0)) ∧ Hid (BX2 wr (w.heap.size + 1 + 1) n (.int .i64 (flL R (l.take i) : Int))) ∧ Hid (0 < L → ∀ g, la = some ⟨g, 0, none⟩ → w.heap.size + 1 + 1 < g ∧ ∀ j, j < L → wr.cell? ⟨g, j, none⟩ = some (.int .i64 (na l j : Int))) ∧ Below w.heap.size w wr) (fun i' _ => L - (intOf i').toNat)
  case atStart => exact ⟨0, by omega, rfl, HY0, HY1, HY3, Lib.hid fun hL0 g e => by
    rcases HCL.out with h0 | ⟨g', e', hg, h⟩
    · exact absurd hL0 (by omega)
    · rw [e] at e'; cases e'; exact ⟨hg, h.out⟩, hB3⟩
  case round =>
    clear HY0 HY1 HY3 hB3
    obtain ⟨i, hin, rfl, HX0, HX1, HX3, HCE, hN⟩ := hrel
    by_cases hlt : i < L
    · obtain ⟨g, hg, _, _⟩ := (HCL.out).resolve_left (by omega)
      subst hg
      have c0 := (HCE.out (by omega) g rfl).2 i hlt
      have hg2 := (HCE.out (by omega) g rfl).1
      have htR : na l i < R := HMEM.out _ (na_mem (by rw [HL.out]; exact hlt))
      have HTK := Lib.hid (na_take (l := l) (by rw [HL.out]; exact hlt))
      have hbd := HBD.out i
      have hw2 : IntKind.i64.wrap ((R : Int) - 1 - (na l i : Int)) = ((R - 1 - na l i : Nat) : Int) := by rw [wrap64_small (by omega) (by omega)]; omega
      have HNX : Hid (bits .or .i64 (flL R (l.take i) : Int) (wrap64 ((2 : Int) ^ (R - 1 - na l i))) = (flL R (l.take (i + 1)) : Int)) := Lib.hid (by
        have h4 : ((2 : Int) ^ (R - 1 - na l i)) = ((2 ^ (R - 1 - na l i) : Nat) : Int) := by push_cast; rfl
        have h5 : 2 ^ (R - 1 - na l i) ≤ 2 ^ 15 := Nat.pow_le_pow_right (by decide) (by omega)
        rw [HTK.out, flL_snoc, h4]
        generalize 2 ^ (R - 1 - na l i) = P at h5 ⊢
        have h6 : P ≤ 32768 := h5
        generalize flL R (l.take i) = Q at hbd ⊢
        rw [w64, wrap64_small (by omega) (by omega), bits_or_nat _ _ (by omega) (by omega)])
      have u0 := (HX0.out).c0
      have v1 := (HX3.out).c1
      have v0 := (HX3.out).c0
      have v2 := (HX3.out).f1
      generalize na l i = t at c0 htR hw2 HNX
      go_wp2
      go_region_law (first | (go_simp; go_at_call 116; refine (LR.out _).mono ?_; rintro e w' ⟨rfl, rfl⟩))
      all_goals (go_wp2; go_roundw)
      all_goals first
        | (show L - ((i : Int) + 1).toNat < L - (i : Int).toNat; omega)
        | (have hb9 : ∀ V : World, Below V.heap.size V V.drew := fun V => (Below.refl _ _).drew
           refine ⟨i + 1, by omega, by go_num, ?_, ?_, ?_, ?_, ?_⟩
           · exact Lib.hid (((HX0.out).other (by omega) _ _).below (hb9 _))
           · exact Lib.hid (((HX1.out).other (by omega) _ _).below (hb9 _))
           · exact Lib.hid (by rw [← HNX.out]; exact ((HX3.out).set _).below (hb9 _))
           · exact Lib.hid fun h0 g' e' => by
               have h1 := HCE.out h0 g' e'
               refine ⟨h1.1, fun j hj => ?_⟩
               have h2 := h1.2 j hj
               have h3 := h1.1
               have h5 : g' ≠ w.heap.size + 1 + 1 := by omega
               exact kc (hb9 _) ((World.cell?_of_block (Below.heap_setCell _ _ _ _ h5)).trans h2)
           · exact (hN.setCell (p := ⟨w.heap.size + 1 + 1, 1, none⟩) (by show _ ≤ w.heap.size + 1 + 1; omega) _).drew)
    · clear HLEN HBD
      obtain rfl : i = L := by omega
      have z0 := (HX3.out).c0
      have z1 := (HX3.out).c1
      have y0 := (HX1.out).c0
      have y1 := (HX1.out).c1
      have y2 := (HX1.out).f0
      have y3 := (HX1.out).f1
      have hall : l.take i = l := List.take_of_length_le (by rw [HL.out]; exact Nat.le_refl _)
      rw [hall, HFIN.out] at z1
      clear hall
      go_wp2
      refine bodyPost_ret (v := .agg #[.int .i64 n, .int .i64 (flN y R : Int)]) ?_ rfl ?_
      · simp [results, Try.results73, go_sem, y0, y1]
      · exact ⟨rfl, (hN.setCell (p := ⟨w.heap.size + 1, 0, none⟩) (by show _ ≤ w.heap.size + 1; omega) _).setCell (p := ⟨w.heap.size + 1, 1, none⟩) (by show _ ≤ w.heap.size + 1; omega) _⟩
end Go.Proofs.Ythkmapflbopdpaa

/- FL3:
  FlipInstance: clauses flipped one by one; the model. -/
namespace Go.Proofs.Ythkmapflbopdpaa
open Go.RowKit
set_option linter.unusedVariables false
set_option linter.unusedSimpArgs false

/-- A clause with the flipped relation. -/
def flC (c : Cl) : Cl := ⟨c.p, (flN c.t.toNat (2 ^ c.vs.length) : Nat), c.vs⟩
theorem flC_ok {m : Int} {c : Cl} {y R : Nat} (hy : c.t = (y : Int)) (ok : COk m c.p y R c.vs) : flC c = ⟨c.p, (flN y R : Nat), c.vs⟩ := by
  unfold flC
  rw [hy, ok.four.2, Int.toNat_natCast]
/-- The first i clauses flipped. -/
def flI (cs : List Cl) (i : Nat) : List Cl := (List.range cs.length).map fun j => if j < i then flC (cget cs j) else cget cs j
theorem flI_length (cs : List Cl) (i : Nat) : (flI cs i).length = cs.length := by simp [flI]
theorem flI_zero (cs : List Cl) : flI cs 0 = cs := by
  unfold flI
  refine List.ext_getElem (by simp) fun j h1 h2 => ?_
  simp [cget, List.getElem?_eq_getElem h2]
theorem flI_at (cs : List Cl) {i j : Nat} (h : j < cs.length) : cget (flI cs i) j = if j < i then flC (cget cs j) else cget cs j := by
  simp [cget, flI, h]
theorem flI_succ (cs : List Cl) (i : Nat) : flI cs (i + 1) = (flI cs i).set i (flC (cget cs i)) := by
  refine List.ext_getElem (by simp [flI]) fun j h1 h2 => ?_
  simp only [flI, List.getElem_map, List.getElem_range, List.getElem_set]
  by_cases e : i = j
  · subst e; simp
  · rw [if_neg e]
    by_cases h : j < i
    · rw [if_pos h, if_pos (by omega)]
    · rw [if_neg h, if_neg (by omega)]
theorem flI_vs (cs : List Cl) (i j : Nat) (h : j < cs.length) : (cget (flI cs i) j).vs = (cget cs j).vs := by
  rw [flI_at cs h]
  split
  · rfl
  · rfl
theorem OC.cellsAt {W : World} {lo hi g n cap i : Nat} {ss : List Value} {cs : List Cl} (h : OC W lo hi (.slice (some ⟨g, 0, none⟩) n cap) ss cs) (hic : i < cs.length) :
    W.cell? ⟨g, i * 3, none⟩ = some (.int .i64 (cget cs i).p) ∧ W.cell? ⟨g, i * 3 + 1, none⟩ = some (.int .i64 (cget cs i).t) ∧ W.cell? ⟨g, i * 3 + 2, none⟩ = some (sget ss i) ∧ W.frozen? ⟨g, i * 3, none⟩ = false ∧ W.frozen? ⟨g, i * 3 + 1, none⟩ = false := by
  obtain ⟨_, _, e, _⟩ := h.at
  simp only [Value.slice.injEq] at e
  obtain ⟨_, rfl, _⟩ := e
  have how := h.own
  have hl : (ccells cs ss).length = cs.length * 3 := how.1
  obtain ⟨e1, e2, e3⟩ := ccells_get cs ss i h.len hic
  exact ⟨by rw [how.cellAt (i * 3) (by omega)]; exact e1, by rw [how.cellAt (i * 3 + 1) (by omega)]; exact e2, by rw [how.cellAt (i * 3 + 2) (by omega)]; exact e3, how.frozenAt _, how.frozenAt _⟩
theorem OC.flip {W : World} {lo hi g n cap i : Nat} {ss : List Value} {cs : List Cl} {p t : Int} {vs : List Int} (h : OC W lo hi (.slice (some ⟨g, 0, none⟩) n cap) ss (flI cs i)) (hic : i < cs.length) (hp : flC (cget cs i) = ⟨p, t, vs⟩) :
    OC ((W.setCell ⟨g, i * 3, none⟩ (.int .i64 p)).setCell ⟨g, i * 3 + 1, none⟩ (.int .i64 t)) lo hi (.slice (some ⟨g, 0, none⟩) n cap) ss (flI cs (i + 1)) := by
  obtain ⟨_, _, e, _⟩ := h.at
  simp only [Value.slice.injEq] at e
  obtain ⟨_, rfl, _⟩ := e
  have how := h.own
  obtain ⟨o1, g1⟩ := how.stored (i * 3) (.int .i64 p)
  obtain ⟨o2, g2⟩ := o1.stored (i * 3 + 1) (.int .i64 t)
  rw [ccells_set2 (flI cs i) ss i p t vs h.len (by rw [flI_length]; exact hic)] at o2
  rw [flI_succ, hp]
  refine h.tabled (gtrans g1 g2) (by rw [List.length_set]) o2 fun j hj => ?_
  by_cases e : j = i
  · subst e
    rw [cget_set_same hj, flI_vs cs _ _ hic]
    have := congrArg Cl.vs hp
    exact this.symm
  · rw [cget_set_other e]

set_option maxRecDepth 100000 in
set_option maxHeartbeats 4000000 in
theorem specFlip_no {m : Int} {cs : List Cl} (hl : cs.length ≤ 1048576) (hr : ∀ k, k < cs.length → (cget cs k).vs.length ≤ 1048576) (hI : isI m cs = false) {s : Value} (w : World) (h : AtC w s cs) :
    Calls Try.prog 29 #[.agg #[.int .i64 m, s]] w (InstPost 0 [] 1 w) := by
  obtain ⟨sa, cap, hs, _⟩ := id h
  obtain ⟨W1, hW1, ⟨p0, p1⟩, x2, hB⟩ := boxes2 m s w
  have II := Lib.hid (l09Is_any hl hr hI W1 (h.below hB))
  subst hs
  have HX2 := Lib.hid x2
  clear h hr hI x2
  go_enter Try.func29, Try.ntmps29
  go_wp2_with (go_at_call 51; refine (II.out).mono ?_; rintro e w5 ⟨rfl, hb5⟩; have Y := (HX2.out).below hb5; have y0 := Y.c0; have y1 := Y.c1; have y2 := Y.f0; have y3 := Y.f1; have hB5 := bthen hB hb5; clear Y)
  refine bodyPost_ret (v := .tuple #[.agg #[.int .i64 0, .slice none 0 0], .int .i64 1]) ?_ rfl ?_
  · simp [results, Try.results29, go_sem, y0, y1]
  apply InstPost.zero
  exact (hB5.setCell (p := ⟨w.heap.size + 1, 0, none⟩) (by show _ ≤ w.heap.size + 1; omega) _).setCell (p := ⟨w.heap.size + 1, 1, none⟩) (by show _ ≤ w.heap.size + 1; omega) _

set_option maxRecDepth 100000 in
set_option maxHeartbeats 40000000 in
theorem specFlip_yes {m : Int} {cs : List Cl} (hI : isI m cs = true) {s : Value} (w : World) (h : AtC w s cs) :
    Calls Try.prog 29 #[.agg #[.int .i64 m, s]] w (InstPost m (flI cs cs.length) 0 w) := by
  obtain ⟨sa, cap, hs, _⟩ := id h
  obtain ⟨m0, m8, h12, hcl⟩ := isI_parts hI
  obtain ⟨W1, hW1, ⟨p0, p1⟩, x2, hB⟩ := boxes2 m s w
  have II := Lib.hid (l09Is_any (by omega) (fun k hk => by have := isI_rows hI k hk; omega) hI W1 (h.below hB))
  subst hs
  have HX2 := Lib.hid x2
  have HCL := Lib.hid hcl
  have CP := Lib.hid (fun (V : World) (hV : Below W1.heap.size W1 V) => l09Copy_any hI V ((h.below hB).below hV))
  clear h hI x2 hcl
  generalize hn : cs.length = n at h12 p1 hW1 II CP HCL ⊢
  have HN := Lib.hid hn
  clear hn
  go_enter Try.func29, Try.ntmps29
  go_wp2_with fail
  clear hW1
  refine (II.out).mono ?_
  rintro e w5 ⟨rfl, hb5⟩
  have q0 := kc hb5 p0
  have q1 := kc hb5 p1
  have Y5 := Lib.hid ((HX2.out).below hb5)
  have hB5 := bthen hB hb5
  have CP5 := Lib.hid (fun (V : World) (hV : Below w5.heap.size w5 V) => CP.out V (bthen hb5 hV))
  clear HX2 CP p0 p1
  go_wp2_with fail
  have hD5 : Below w5.heap.size w5 w5.drew := (Below.refl _ _).drew
  have hs5 : w.heap.size + 1 < w5.heap.size := (Y5.out).lt
  have qd0 := kc (bnew w5 (.cells #[.int .i64 0, .slice none 0 0] 29)).drew q0
  have qd1 := kc (bnew w5 (.cells #[.int .i64 0, .slice none 0 0] 29)).drew q1
  go_region_law (first
    | (go_simp; go_at_call 70; refine (CP5.out _ (by first | exact hD5 | exact (bnew w5 _).drew | exact Below.refl _ _ | exact bnew w5 _)).mono ?_; rintro e w7 ⟨a7, c7, ss7, rfl, O7, hbC⟩; have hb57 : Below w5.heap.size w5 w7 := (by first | exact hD5.trans (hbC.mono (Nat.le_refl _)) | exact ((bnew w5 _).drew).trans (hbC.mono (by simp)) | exact hbC | exact (bnew w5 _).trans (hbC.mono (by simp))); have q07 := kc hb57 q0; have q17 := kc hb57 q1; have qe0 := kc (bnew w7 (.cells #[.int .i64 0, .slice none 0 0] 29)) q07; first | (have XB := (BX2.below (show BX2 (World.drew (World.alloc w5 _)) w5.heap.size 0 (.slice none 0 0) from ⟨by simp [go_sem], by simp [go_sem], by simp [go_sem], by simp [go_sem]⟩) hbC); have xb0 := XB.c0; have xb1 := XB.c1; have xb2 := XB.f0; have xb3 := XB.f1) | skip))
  all_goals
    have hs57 := hb57.size
    first
      | (obtain ⟨W8, hW8⟩ : ∃ W8, w7.alloc (.cells #[.int .i64 m, .slice a7 n c7] 29) = W8 := ⟨_, rfl⟩
         rw [hW8]
         have hb78 : Below w7.heap.size w7 W8 := by rw [← hW8]; exact bnew _ _
         have HX8 : Hid (BX2 W8 w7.heap.size m (.slice a7 n c7)) := Lib.hid (by rw [← hW8]; exact ⟨by simp [go_sem], by simp [go_sem], by simp [go_sem], by simp [go_sem]⟩)
         have HY8 := Lib.hid (((Y5.out).below hb57).below hb78)
         have HO8 : Hid (OC W8 w5.heap.size w7.heap.size (.slice a7 n c7) ss7 cs) := Lib.hid ((O7.mono (show w5.heap.size ≤ _ by first | exact Nat.le_refl _ | simp)).below hb78)
         have hB8 := bthen hB5 (bthen hb57 hb78)
         have HNE : Hid (∀ b, (Value.slice a7 n c7).ownBlock = some b → b ≠ w7.heap.size ∧ w.heap.size + 1 < b) := Lib.hid fun b e => by
           have h1 := O7.blk b e
           have h2 := (World.ownsRow.lt (O7.mono (show w5.heap.size ≤ _ by first | exact Nat.le_refl _ | simp)).own b e).1
           omega
         have hbx : w.heap.size + 1 < w7.heap.size := by omega
         clear O7 hbC hW8 qe0 q07 q17
         obtain ⟨bx, hbe⟩ : ∃ bx, w7.heap.size = bx := ⟨_, rfl⟩
         obtain ⟨h8, hhe⟩ : ∃ h8, w7.heap.size = h8 := ⟨_, rfl⟩
         rw [hhe] at HO8
         rw [hbe] at HX8 HNE hbx ⊢
         clear hbe hhe hs57 hb78 hb57)
      | (obtain ⟨W8, hW8⟩ : ∃ W8, (w7.setCell ⟨w5.heap.size, 0, none⟩ (.int .i64 m)).setCell ⟨w5.heap.size, 1, none⟩ (.slice a7 n c7) = W8 := ⟨_, rfl⟩
         rw [hW8]
         have HX8 : Hid (BX2 W8 w5.heap.size m (.slice a7 n c7)) := Lib.hid (by rw [← hW8]; exact ⟨by simp [go_sem, xb0], by simp [go_sem, xb1], by simp [go_sem, xb2], by simp [go_sem, xb3]⟩)
         have HY8 : Hid (BX2 W8 (w.heap.size + 1) 0 (.slice none 0 0)) := Lib.hid (by rw [← hW8]; exact ((((Y5.out).below hb57).other (by omega) _ _).other (by omega) _ _))
         have HO8 : Hid (OC W8 w5.heap.size w7.heap.size (.slice a7 n c7) ss7 cs) := Lib.hid (by rw [← hW8]; exact (((O7.set (show w5.heap.size < _ by simp) 0 _).set (show w5.heap.size < _ by simp) 1 _).mono (by simp)))
         have hB8 : Below w.heap.size w W8 := by rw [← hW8]; exact ((bthen hB5 hb57).setCell (p := ⟨w5.heap.size, 0, none⟩) (by show _ ≤ w5.heap.size; omega) _).setCell (p := ⟨w5.heap.size, 1, none⟩) (by show _ ≤ w5.heap.size; omega) _
         have HNE : Hid (∀ b, (Value.slice a7 n c7).ownBlock = some b → b ≠ w5.heap.size ∧ w.heap.size + 1 < b) := Lib.hid fun b e => by
           have h1 := (World.ownsRow.lt O7.own b e).1
           simp at h1
           omega
         have hbx : w.heap.size + 1 < w5.heap.size := hs5
         clear O7 hbC hW8 qe0 q07 q17 XB xb0 xb1 xb2 xb3
         obtain ⟨bx, hbe⟩ : ∃ bx, w5.heap.size = bx := ⟨_, rfl⟩
         obtain ⟨h8, hhe⟩ : ∃ h8, w7.heap.size = h8 := ⟨_, rfl⟩
         rw [hhe] at HO8
         rw [hbe] at HX8 HNE hbx ⊢
         clear hbe hhe hs57 hb57)
    clear hD5 qd0 qd1 q0 q1 CP5 Y5 hb5 hB5 II
  all_goals
    go_wp2
    go_loopw [5] (fun i' wr => ∃ i : Nat, i ≤ n ∧ i' = .int .i64 i ∧ Hid (BX2 wr bx m (.slice a7 n c7)) ∧ Hid (BX2 wr (w.heap.size + 1) 0 (.slice none 0 0)) ∧ Hid (OC wr w5.heap.size h8 (.slice a7 n c7) ss7 (flI cs i)) ∧ Below w.heap.size w wr) (fun i' _ => n - (intOf i').toNat)
    case atStart => exact ⟨0, by omega, rfl, HX8, HY8, by rw [flI_zero]; exact HO8, hB8⟩
    case round =>
      clear HX8 HY8 HO8 hB8
      obtain ⟨i, hin, rfl, HX, HY, HO, hN⟩ := hrel
      have z0 := (HX.out).c0
      have z1 := (HX.out).c1
      by_cases hlt : i < n
      · have hic : i < cs.length := by rw [HN.out]; exact hlt
        obtain ⟨g, hg⟩ : ∃ g, a7 = some ⟨g, 0, none⟩ := by
          rcases (HO.out).shape with ⟨h0, _⟩ | ⟨_, g, _, e, _⟩
          · have h1 : (flI cs i).length = 0 := by rw [h0]; rfl
            rw [flI_length] at h1
            omega
          · simp only [Value.slice.injEq] at e
            exact ⟨g, e.1⟩
        subst hg
        obtain ⟨y, R', hy, ok⟩ := cok (HCL.out i hlt)
        have FL := Lib.hid (fun V => l09Flip_any ok.rel V)
        have hfc := flC_ok hy ok
        obtain ⟨c0, c1, _, f0, f1⟩ := (HO.out).cellsAt (i := i) (by rw [flI_length]; exact hic)
        have hat : cget (flI cs i) i = cget cs i := by rw [flI_at cs hic, if_neg (by omega)]
        rw [hat] at c0 c1
        rw [hy] at c1
        have hneg := (HNE.out g rfl)
        have STEP : Hid (∀ V : World, Below wr.heap.size wr V → V.cell? ⟨g, i * 3, none⟩ = some (.int .i64 (cget cs i).p) ∧ V.cell? ⟨g, i * 3 + 1, none⟩ = some (.int .i64 (y : Int)) ∧ V.frozen? ⟨g, i * 3, none⟩ = false ∧ V.frozen? ⟨g, i * 3 + 1, none⟩ = false ∧ V.cell? ⟨bx, 1, none⟩ = some (.slice (some ⟨g, 0, none⟩) n c7)) := Lib.hid fun V hV => ⟨kc hV c0, kc hV c1, kf hV c0 f0, kf hV c1 f1, kc hV z1⟩
        have HFC := Lib.hid hfc
        clear hfc hat ok hy
        generalize (cget cs i).p = pp at c0 FL STEP HFC
        generalize flN y R' = fl at FL HFC
        go_wp2
        go_region_law (first | (go_simp; go_at_call 71; refine (FL.out _).mono ?_; rintro e w6 ⟨rfl, hb6⟩; have hbx6 : Below wr.heap.size wr w6 := (Below.refl _ _).drew.trans (hb6.mono (Nat.le_refl _)); obtain ⟨k0, k1, k2, k3, k4⟩ := STEP.out w6 hbx6))
        all_goals
          have HFIN := Lib.hid (OC.flip ((HO.out).below hbx6) hic HFC.out)
          have HX6 := Lib.hid (((HX.out).below hbx6).other (show bx ≠ g by omega) (i * 3) (.int .i64 pp))
          have HY6 := Lib.hid (((HY.out).below hbx6).other (show w.heap.size + 1 ≠ g by omega) (i * 3) (.int .i64 pp))
          have HN6 := Lib.hid (bthen hN hbx6)
          clear STEP FL k4 hb6
          go_wp2
          go_roundw
          case rel => exact ⟨i + 1, by omega, by go_num, Lib.hid ((HX6.out).other (show bx ≠ g by omega) _ _), Lib.hid ((HY6.out).other (show w.heap.size + 1 ≠ g by omega) _ _), HFIN, ((HN6.out).setCell (p := ⟨g, i * 3, none⟩) (by show _ ≤ g; omega) _).setCell (p := ⟨g, i * 3 + 1, none⟩) (by show _ ≤ g; omega) _⟩
          case measure => simp [intOf]; omega
      · obtain rfl : i = n := by omega
        have y0 := (HY.out).c0
        have y1 := (HY.out).c1
        have y2 := (HY.out).f0
        have y3 := (HY.out).f1
        go_wp2
        refine bodyPost_ret (v := .tuple #[.agg #[.int .i64 m, .slice a7 i c7], .int .i64 0]) ?_ rfl ?_
        · simp [results, Try.results29, go_sem, y0, y1]
        · refine ⟨a7, c7, ss7, by rw [flI_length, HN.out], ?_, ?_⟩
          · rw [flI_length, HN.out]
            exact (((HO.out).set (show w.heap.size + 1 < w5.heap.size from hs5) 0 _).set (show w.heap.size + 1 < w5.heap.size from hs5) 1 _).full.mono (by omega)
          · exact (hN.setCell (p := ⟨w.heap.size + 1, 0, none⟩) (by show _ ≤ w.heap.size + 1; omega) _).setCell (p := ⟨w.heap.size + 1, 1, none⟩) (by show _ ≤ w.heap.size + 1; omega) _
end Go.Proofs.Ythkmapflbopdpaa

/- FL4:
  FlipInstance of the program; both. -/
namespace Go.Proofs.Ythkmapflbopdpaa
open Go.RowKit
set_option linter.unusedVariables false
set_option linter.unusedSimpArgs false

set_option maxRecDepth 100000 in
set_option maxHeartbeats 4000000 in
theorem implFlip_no {m : Int} {cs : List Cl} (hl : cs.length ≤ 1048576) (hr : ∀ k, k < cs.length → (cget cs k).vs.length ≤ 1048576) (hI : isI m cs = false) {s : Value} (w : World) (h : AtC w s cs) :
    Calls Try.prog 30 #[.agg #[.int .i64 m, s]] w (InstPost 0 [] 1 w) := by
  obtain ⟨sa, cap, hs, _⟩ := id h
  obtain ⟨W1, hW1, ⟨p0, p1⟩, x2, hB⟩ := boxes2 m s w
  have II := Lib.hid (IsInstance_any hl hr hI W1 (h.below hB))
  subst hs
  have HX2 := Lib.hid x2
  clear h hr hI x2
  go_enter Try.func30, Try.ntmps30
  go_wp2_with (go_at_call 15; refine (II.out).mono ?_; rintro e w5 ⟨rfl, hb5⟩; have Y := (HX2.out).below hb5; have y0 := Y.c0; have y1 := Y.c1; have y2 := Y.f0; have y3 := Y.f1; have hB5 := bthen hB hb5; clear Y)
  refine bodyPost_ret (v := .tuple #[.agg #[.int .i64 0, .slice none 0 0], .int .i64 1]) ?_ rfl ?_
  · simp [results, Try.results30, go_sem, y0, y1]
  apply InstPost.zero
  exact (hB5.setCell (p := ⟨w.heap.size + 1, 0, none⟩) (by show _ ≤ w.heap.size + 1; omega) _).setCell (p := ⟨w.heap.size + 1, 1, none⟩) (by show _ ≤ w.heap.size + 1; omega) _

set_option maxRecDepth 100000 in
set_option maxHeartbeats 20000000 in
theorem implFlip_yes {m : Int} {cs : List Cl} (hI : isI m cs = true) {s : Value} (w : World) (h : AtC w s cs) :
    Calls Try.prog 30 #[.agg #[.int .i64 m, s]] w (InstPost m (flI cs cs.length) 0 w) := by
  obtain ⟨sa, cap, hs, _⟩ := id h
  obtain ⟨m0, m8, h12, hcl⟩ := isI_parts hI
  obtain ⟨W1, hW1, ⟨p0, p1⟩, x2, hB⟩ := boxes2 m s w
  have II := Lib.hid (IsInstance_any (by omega) (fun k hk => by have := isI_rows hI k hk; omega) hI W1 (h.below hB))
  subst hs
  have HX2 := Lib.hid x2
  have HCL := Lib.hid hcl
  have HAT := Lib.hid h
  have CP := Lib.hid (fun (V : World) (hV : Below W1.heap.size W1 V) => copied_any hI V ((h.below hB).below hV))
  clear h hI x2 hcl
  generalize hn : cs.length = n at h12 p1 hW1 II CP HCL HAT ⊢
  have HN := Lib.hid hn
  clear hn
  go_enter Try.func30, Try.ntmps30
  go_wp2_with fail
  clear hW1
  refine (II.out).mono ?_
  rintro e w5 ⟨rfl, hb5⟩
  have q0 := kc hb5 p0
  have q1 := kc hb5 p1
  have Y5 := Lib.hid ((HX2.out).below hb5)
  have hB5 := bthen hB hb5
  clear HX2 p0 p1
  go_wp2_with fail
  refine (CP.out _ hb5).mono ?_
  rintro e w6 ⟨a6, c6, ss6, rfl, O6, hb6⟩
  obtain ⟨W7, hW7⟩ : ∃ W7, w6.alloc (.cells #[.int .i64 m, .slice a6 n c6] 29) = W7 := ⟨_, rfl⟩
  have hb7 : Below w6.heap.size w6 W7 := by rw [← hW7]; exact bnew _ _
  have hb57 := bthen hb6 hb7
  have q07 := kc hb57 q0
  have q17 := kc hb57 q1
  have HX8 : Hid (BX2 W7 w6.heap.size m (.slice a6 n c6)) := Lib.hid (by rw [← hW7]; exact ⟨by simp [go_sem], by simp [go_sem], by simp [go_sem], by simp [go_sem]⟩)
  have HO8 := Lib.hid (O6.below hb7)
  have HY8 := Lib.hid ((Y5.out).below hb57)
  have hB8 := bthen hB5 hb57
  have hs5 : w.heap.size + 1 < w5.heap.size := (Y5.out).lt
  have hs56 := hb6.size
  have HNE : Hid (∀ b, (Value.slice a6 n c6).ownBlock = some b → b ≠ w6.heap.size ∧ w.heap.size + 1 < b) := Lib.hid fun b e => by
    have h1 := O6.blk b e
    have h2 := (World.ownsRow.lt O6.own b e).1
    omega
  have hbx : w.heap.size + 1 < w6.heap.size := by omega
  clear O6 q0 q1 CP Y5 hb5 hB5 II hb57 hb6
  obtain ⟨bx, hbe⟩ : ∃ bx, w6.heap.size = bx := ⟨_, rfl⟩
  obtain ⟨h8, hhe⟩ : ∃ h8, w6.heap.size = h8 := ⟨_, rfl⟩
  rw [hhe] at HO8
  rw [hbe] at HX8 HNE hbx
  have x0 := (HX8.out).c0
  have x1 := (HX8.out).c1
  go_wp2_with fail
  clear hW7 x0 x1
  go_loopw [16] (fun i' wr => ∃ i : Nat, i ≤ n ∧ i' = .int .i64 i ∧ Hid (BX2 wr bx m (.slice a6 n c6)) ∧ Hid (BX2 wr (w.heap.size + 1) 0 (.slice none 0 0)) ∧ Hid (OC wr w5.heap.size h8 (.slice a6 n c6) ss6 (flI cs i)) ∧ Below w.heap.size w wr) (fun i' _ => n - (intOf i').toNat)
  case atStart => exact ⟨0, by omega, rfl, HX8, HY8, by rw [flI_zero]; exact HO8, hB8⟩
  case round =>
    clear HX8 HY8 HO8 hB8
    obtain ⟨i, hin, rfl, HX, HY, HO, hN⟩ := hrel
    by_cases hlt : i < n
    · have hic : i < cs.length := by rw [HN.out]; exact hlt
      obtain ⟨g, hg⟩ : ∃ g, a6 = some ⟨g, 0, none⟩ := by
        rcases (HO.out).shape with ⟨h0, _⟩ | ⟨_, g, _, e, _⟩
        · have h1 : (flI cs i).length = 0 := by rw [h0]; rfl
          rw [flI_length] at h1
          omega
        · simp only [Value.slice.injEq] at e
          exact ⟨g, e.1⟩
      subst hg
      obtain ⟨sg, v, b, rfl, e0, e1, e2, ho⟩ := (HAT.out).row HN.out hlt
      obtain ⟨va, vc, hvv⟩ := ho.slice
      subst hvv
      clear ho
      obtain ⟨y, R', hy, ok⟩ := cok (HCL.out i hlt)
      have FL := Lib.hid (fun V => flippedRelation_any ok.rel V)
      have hfc := flC_ok hy ok
      have d0 := kc hN e0
      have d1 := kc hN e1
      have d2 := kc hN e2
      obtain ⟨W2, hW2⟩ : ∃ W2, wr.alloc (.cells #[.int .i64 (cget cs i).p, .int .i64 (cget cs i).t, .slice va (cget cs i).vs.length vc] 74) = W2 := ⟨_, rfl⟩
      have hB2 : Below wr.heap.size wr W2 := by rw [← hW2]; exact bnew _ _
      have r0 : W2.cell? ⟨wr.heap.size, 0, none⟩ = some (.int .i64 (cget cs i).p) := by rw [← hW2]; simp [go_sem]
      have r1 : W2.cell? ⟨wr.heap.size, 1, none⟩ = some (.int .i64 (y : Int)) := by rw [← hW2, hy]; simp [go_sem]
      have HX2 := Lib.hid ((HX.out).below hB2)
      have HY2 := Lib.hid ((HY.out).below hB2)
      have HO2 := Lib.hid ((HO.out).below hB2)
      have hN2 := bthen hN hB2
      have z0 := (HX2.out).c0
      have z1 := (HX2.out).c1
      obtain ⟨c0, c1, _, f0, f1⟩ := (HO2.out).cellsAt (i := i) (by rw [flI_length]; exact hic)
      have hneg := (HNE.out g rfl)
      have STEP : Hid (∀ V : World, Below W2.heap.size W2 V → (∃ u, V.cell? ⟨g, i * 3, none⟩ = some u) ∧ (∃ u, V.cell? ⟨g, i * 3 + 1, none⟩ = some u) ∧ V.frozen? ⟨g, i * 3, none⟩ = false ∧ V.frozen? ⟨g, i * 3 + 1, none⟩ = false ∧ V.cell? ⟨bx, 1, none⟩ = some (.slice (some ⟨g, 0, none⟩) n c6)) := Lib.hid fun V hV => ⟨⟨_, kc hV c0⟩, ⟨_, kc hV c1⟩, kf hV c0 f0, kf hV c1 f1, kc hV z1⟩
      have HFC := Lib.hid hfc
      rw [hy] at d1 hW2
      clear hfc ok hy e0 e1 e2 c0 c1 f0 f1
      generalize (cget cs i).p = pp at d0 r0 hW2 FL HFC
      generalize flN y R' = fl at FL HFC
      have HFC2 := Lib.hid HFC.out
      clear HFC
      have HFC := HFC2
      generalize hvl : (cget cs i).vs.length = vl at d2 hW2
      clear hvl
      go_wp2_with fail
      clear hW2 d0 d1 d2
      go_region_law (first | (go_simp; go_at_call 73; refine (FL.out _).mono ?_; rintro e w6 ⟨rfl, hb6⟩; have hbx6 : Below W2.heap.size W2 w6 := (Below.refl _ _).drew.trans (hb6.mono (Nat.le_refl _)); obtain ⟨⟨_, k0⟩, ⟨_, k1⟩, k2, k3, k4⟩ := STEP.out w6 hbx6))
      all_goals
        have HFIN := Lib.hid (OC.flip ((HO2.out).below hbx6) hic HFC.out)
        have HX6 := Lib.hid (((HX2.out).below hbx6).other (show bx ≠ g by omega) (i * 3) (.int .i64 pp))
        have HY6 := Lib.hid (((HY2.out).below hbx6).other (show w.heap.size + 1 ≠ g by omega) (i * 3) (.int .i64 pp))
        have HN6 := Lib.hid (bthen hN2 hbx6)
        clear STEP FL k4 hb6
        go_wp2
        go_roundw
        case rel => exact ⟨i + 1, by omega, by go_num, Lib.hid ((HX6.out).other (show bx ≠ g by omega) _ _), Lib.hid ((HY6.out).other (show w.heap.size + 1 ≠ g by omega) _ _), HFIN, ((HN6.out).setCell (p := ⟨g, i * 3, none⟩) (by show _ ≤ g; omega) _).setCell (p := ⟨g, i * 3 + 1, none⟩) (by show _ ≤ g; omega) _⟩
        case measure => simp [intOf]; omega
    · obtain rfl : i = n := by omega
      have z0 := (HX.out).c0
      have z1 := (HX.out).c1
      have y0 := (HY.out).c0
      have y1 := (HY.out).c1
      have y2 := (HY.out).f0
      have y3 := (HY.out).f1
      go_wp2
      refine bodyPost_ret (v := .tuple #[.agg #[.int .i64 m, .slice a6 i c6], .int .i64 0]) ?_ rfl ?_
      · simp [results, Try.results30, go_sem, y0, y1]
      · refine ⟨a6, c6, ss6, by rw [flI_length, HN.out], ?_, ?_⟩
        · rw [flI_length, HN.out]
          exact (((HO.out).set (show w.heap.size + 1 < w5.heap.size from hs5) 0 _).set (show w.heap.size + 1 < w5.heap.size from hs5) 1 _).full.mono (by omega)
        · exact (hN.setCell (p := ⟨w.heap.size + 1, 0, none⟩) (by show _ ≤ w.heap.size + 1; omega) _).setCell (p := ⟨w.heap.size + 1, 1, none⟩) (by show _ ≤ w.heap.size + 1; omega) _

theorem bothFlipInstance {cs : List Cl} (hl : cs.length ≤ 1048576) (hr : ∀ k, k < cs.length → (cget cs k).vs.length ≤ 1048576) (m : Int) : ∃ (rm : Int) (ds : List Cl) (rc : Int), ds.length + szN ds ds.length ≤ 1000000 ∧
    (∀ s w, AtC w s cs → Calls Try.prog 29 #[.agg #[.int .i64 m, s]] w (InstPost rm ds rc w)) ∧
    (∀ s w, AtC w s cs → Calls Try.prog 30 #[.agg #[.int .i64 m, s]] w (InstPost rm ds rc w)) := by
  cases hI : isI m cs
  · exact ⟨0, [], 1, by simp [szN], fun s w h => specFlip_no hl hr hI w h, fun s w h => implFlip_no hl hr hI w h⟩
  · obtain ⟨_, _, h12, _⟩ := isI_parts hI
    refine ⟨m, flI cs cs.length, 0, ?_, fun s w h => specFlip_yes hI w h, fun s w h => implFlip_yes hI w h⟩
    have h4 : ∀ k, k < (flI cs cs.length).length → (cget (flI cs cs.length) k).vs.length ≤ 4 := fun k hk => by
      rw [flI_length] at hk
      rw [flI_vs cs _ _ hk]
      exact isI_rows hI k hk
    have h5 := szN_le4 h4
    rw [flI_length] at h5 ⊢
    omega
end Go.Proofs.Ythkmapflbopdpaa

/- FFlipInstance:
  The walk of the law on FlipInstance: both packages answer alike, and what came in is as it was. -/
namespace Go.Proofs.Ythkmapflbopdpaa
open Go.RowKit
set_option linter.unusedVariables false
set_option linter.unusedSimpArgs false

set_option maxRecDepth 100000 in
set_option maxHeartbeats 8000000 in
theorem fnExactFlipInstance_walk (m : Int) (a : Option Addr) (len cap : Nat) (cs : List Cl) (w : World) (hr0 : IsRowC w a len cs) :
    Calls Try.prog 7 #[.agg #[.int .i64 m, .slice a len cap]] w fun e w' => e = .returned (.bool true) ∧ Below w.heap.size w w' := by
  have hcl := hr0.1
  by_cases ht : len + szN cs len ≤ 1048576
  · have hcs := inst_sizes hcl ht
    obtain ⟨rm, ds, rc, hdz, c1, c2⟩ := bothFlipInstance hcs.1 hcs.2 m
    have C1 := Lib.hid c1
    have C2 := Lib.hid c2
    have HR := Lib.hid hr0
    have HT := Lib.hid ht
    have HSZ : Hid (cs.length + szN cs cs.length ≤ 1048576) := Lib.hid (by rw [hcl]; exact ht)
    have hds : ds.length ≤ 100000000 ∧ ∀ k, k < ds.length → (cget ds k).vs.length ≤ 100000000 := by have h := inst_sizes (cs := ds) (len := ds.length) rfl (by omega); exact ⟨by omega, fun k hk => by have := h.2 k hk; omega⟩
    have hcs2 : cs.length ≤ 100000000 ∧ ∀ k, k < cs.length → (cget cs k).vs.length ≤ 100000000 := ⟨by omega, fun k hk => by have := hcs.2 k hk; omega⟩
    have hd0 : decide ((1048576 : Int) - (len : Int) - ((szN cs len : Nat) : Int) < 0) = false := by simp only [decide_eq_false_iff_not]; omega
    have hdk : decide (kAt 1 cs cs.length < 0) = false := kAt_neg (by omega)
    have hdk2 : decide (kAt 1 ds ds.length < 0) = false := kAt_neg (by omega)
    replace hcs := hcs2
    clear c1 c2 hr0 ht hcs2 hcl
    obtain ⟨W1, hW1⟩ : ∃ W1, w.alloc (.cells #[.int .i64 m, .slice a len cap] 24) = W1 := ⟨_, rfl⟩
    have qa : W1.cell? ⟨w.heap.size, 0, none⟩ = some (.int .i64 m) := by rw [← hW1]; simp [go_sem]
    have qb : W1.cell? ⟨w.heap.size, 1, none⟩ = some (.slice a len cap) := by rw [← hW1]; simp [go_sem]
    have hN : Below w.heap.size w W1 := by rw [← hW1]; exact bnew _ _
    go_enter Try.func7, Try.ntmps7
    go_wp2_with fail
    clear hW1
    go_wp2_with fail
    refine (szInstance_ok HR.out HT.out _ hN).mono ?_
    rintro e w2 ⟨rfl, hb⟩
    replace hN := bthen hN hb
    have q1 := kc hb qa; have q2 := kc hb qb
    clear hb qa qb
    go_wp2_with fail
    have ba3 := Lib.hid (cell_lt q1)
    have hs_O1 := Lib.hid hN.size
    go_wp2_with fail
    refine (toInst_any HR.out HT.out _ hN).mono ?_
    rintro e w3 ⟨xa1, xc1, ss1, rfl, o, hb⟩
    have O1 := Lib.hid o
    clear o
    replace hN := bthen hN hb
    have q4 := kc hb q1; have q5 := kc hb q2
    clear hb q1 q2
    go_wp2_with fail
    have ba6 := Lib.hid (cell_lt q4)
    have ap7 := Lib.hid O1.out.top
    have hs_R1 := Lib.hid hN.size
    go_wp2_with fail
    refine (C1.out _ _ O1.out.at).mono ?_
    rintro e w4 ⟨ya1, yc1, ts1, rfl, o, hb⟩
    have R1 := Lib.hid o
    clear o
    replace hN := bthen hN hb
    have q8 := kc hb q4; have q9 := kc hb q5
    replace O1 := Lib.hid (O1.out.below hb)
    clear hb q4 q5
    obtain ⟨W10, hW11, q12, q13, hb⟩ := ansBoxI rm (.slice ya1 ds.length yc1) w4
    have ab14 := Lib.hid O1.out.top
    have ab15 := Lib.hid R1.out.top
    replace hN := bthen hN hb
    have q16 := kc hb q8; have q17 := kc hb q9
    replace O1 := Lib.hid (O1.out.below hb)
    replace R1 := Lib.hid (R1.out.below hb)
    clear hb q8 q9
    clear O1
    go_wp2_with fail
    clear hW11
    go_wp2_with fail
    have ba18 := Lib.hid (cell_lt q16)
    have ba19 := Lib.hid (cell_lt q12)
    have ap20 := Lib.hid R1.out.top
    have hs_O2 := Lib.hid hN.size
    go_wp2_with fail
    refine (toInst_any HR.out HT.out _ hN).mono ?_
    rintro e w5 ⟨xa2, xc2, ss2, rfl, o, hb⟩
    have O2 := Lib.hid o
    clear o
    replace hN := bthen hN hb
    have q21 := kc hb q16; have q22 := kc hb q17
    have q23 := kc hb q12; have q24 := kc hb q13
    replace R1 := Lib.hid (R1.out.below hb)
    clear hb q16 q17 q12 q13
    obtain ⟨W25, hW26, q27, q28, hb⟩ := ansBoxI m (.slice xa2 cs.length xc2) w5
    have ab29 := Lib.hid R1.out.top
    have ab30 := Lib.hid O2.out.top
    replace hN := bthen hN hb
    have q31 := kc hb q21; have q32 := kc hb q22
    have q33 := kc hb q23; have q34 := kc hb q24
    replace R1 := Lib.hid (R1.out.below hb)
    replace O2 := Lib.hid (O2.out.below hb)
    clear hb q21 q22 q23 q24
    go_wp2_with fail
    clear hW26
    go_wp2_with fail
    have ba35 := Lib.hid (cell_lt q31)
    have ba36 := Lib.hid (cell_lt q33)
    have ba37 := Lib.hid (cell_lt q27)
    have ap38 := Lib.hid R1.out.top
    have ap39 := Lib.hid O2.out.top
    have hs_R2 := Lib.hid hN.size
    go_wp2_with fail
    refine (C2.out _ _ O2.out.at).mono ?_
    rintro e w6 ⟨ya2, yc2, ts2, rfl, o, hb⟩
    have R2 := Lib.hid o
    clear o
    replace hN := bthen hN hb
    have q40 := kc hb q31; have q41 := kc hb q32
    have q42 := kc hb q33; have q43 := kc hb q34
    have q44 := kc hb q27; have q45 := kc hb q28
    replace R1 := Lib.hid (R1.out.below hb)
    replace O2 := Lib.hid (O2.out.below hb)
    clear hb q31 q32 q33 q34 q27 q28
    obtain ⟨W46, hW47, q48, q49, hb⟩ := ansBoxI rm (.slice ya2 ds.length yc2) w6
    have ab50 := Lib.hid R1.out.top
    have ab51 := Lib.hid O2.out.top
    have ab52 := Lib.hid R2.out.top
    replace hN := bthen hN hb
    have q53 := kc hb q40; have q54 := kc hb q41
    have q55 := kc hb q42; have q56 := kc hb q43
    have q57 := kc hb q44; have q58 := kc hb q45
    replace R1 := Lib.hid (R1.out.below hb)
    replace O2 := Lib.hid (O2.out.below hb)
    replace R2 := Lib.hid (R2.out.below hb)
    clear hb q40 q41 q42 q43 q44 q45
    go_wp2_with fail
    clear hW47
    go_wp2_with fail
    refine (eqInstance_same hds.1 hds.2 _ R2.out.at R1.out.at).mono ?_
    rintro e w7 ⟨rfl, hb⟩
    replace hN := bthen hN hb
    have q59 := kc hb q53; have q60 := kc hb q54
    have q61 := kc hb q55; have q62 := kc hb q56
    have q63 := kc hb q57; have q64 := kc hb q58
    have q65 := kc hb q48; have q66 := kc hb q49
    replace R1 := Lib.hid (R1.out.below hb)
    replace O2 := Lib.hid (O2.out.below hb)
    replace R2 := Lib.hid (R2.out.below hb)
    clear hb q53 q54 q55 q56 q57 q58 q48 q49
    -- the program's argument is as it was
    go_wp2_with fail
    have MK : Hid (∀ V : World, Below w7.heap.size w7 V → (((V.cell? ⟨w.heap.size, 0, none⟩ = some (.int .i64 m) ∧ V.cell? ⟨w.heap.size, 1, none⟩ = some (.slice a len cap)) ∧ (V.cell? ⟨w5.heap.size, 0, none⟩ = some (.int .i64 m) ∧ V.cell? ⟨w5.heap.size, 1, none⟩ = some (.slice xa2 cs.length xc2))) ∧ Below w7.heap.size w7 V)) := Lib.hid fun V h => ⟨⟨⟨kc h q59, kc h q60⟩, kc h q63, kc h q64⟩, h⟩
    have ST : Hid (∀ V V' : World, Below V.heap.size V V' → (((V.cell? ⟨w.heap.size, 0, none⟩ = some (.int .i64 m) ∧ V.cell? ⟨w.heap.size, 1, none⟩ = some (.slice a len cap)) ∧ (V.cell? ⟨w5.heap.size, 0, none⟩ = some (.int .i64 m) ∧ V.cell? ⟨w5.heap.size, 1, none⟩ = some (.slice xa2 cs.length xc2))) ∧ Below w7.heap.size w7 V) → (((V'.cell? ⟨w.heap.size, 0, none⟩ = some (.int .i64 m) ∧ V'.cell? ⟨w.heap.size, 1, none⟩ = some (.slice a len cap)) ∧ (V'.cell? ⟨w5.heap.size, 0, none⟩ = some (.int .i64 m) ∧ V'.cell? ⟨w5.heap.size, 1, none⟩ = some (.slice xa2 cs.length xc2))) ∧ Below w7.heap.size w7 V')) := Lib.hid fun V V' hb h => MK.out V' (bthen h.2 hb)
    have HNC := Lib.hid hN
    have TI : Hid (∀ V : World, (((V.cell? ⟨w.heap.size, 0, none⟩ = some (.int .i64 m) ∧ V.cell? ⟨w.heap.size, 1, none⟩ = some (.slice a len cap)) ∧ (V.cell? ⟨w5.heap.size, 0, none⟩ = some (.int .i64 m) ∧ V.cell? ⟨w5.heap.size, 1, none⟩ = some (.slice xa2 cs.length xc2))) ∧ Below w7.heap.size w7 V) → _) := Lib.hid fun V h => toInst_any (m := m) (cap := cap) HR.out HT.out V (bthen HNC.out h.2)
    have EQ : Hid (∀ (V V0 : World) (s : Value), (((V.cell? ⟨w.heap.size, 0, none⟩ = some (.int .i64 m) ∧ V.cell? ⟨w.heap.size, 1, none⟩ = some (.slice a len cap)) ∧ (V.cell? ⟨w5.heap.size, 0, none⟩ = some (.int .i64 m) ∧ V.cell? ⟨w5.heap.size, 1, none⟩ = some (.slice xa2 cs.length xc2))) ∧ Below w7.heap.size w7 V) → AtC V0 s cs → Below V0.heap.size V0 V → _) := Lib.hid fun V V0 s h h1 h2 => eqInstance_same (m := m) hcs.1 hcs.2 V (O2.out.at.below h.2) (h1.below h2)
    go_region_held3 (fun V => ((V.cell? ⟨w.heap.size, 0, none⟩ = some (.int .i64 m) ∧ V.cell? ⟨w.heap.size, 1, none⟩ = some (.slice a len cap)) ∧ (V.cell? ⟨w5.heap.size, 0, none⟩ = some (.int .i64 m) ∧ V.cell? ⟨w5.heap.size, 1, none⟩ = some (.slice xa2 cs.length xc2))) ∧ Below w7.heap.size w7 V)
      (first
        | with_reducible exact MK.out _ (Below.refl _ _).drew
        | (with_reducible refine ST.out _ _ hbE ?_; with_reducible assumption)
        | (with_reducible refine ST.out _ _ hbT ?_; with_reducible assumption)
        | with_reducible assumption)
      (first
        | (go_at_call 16; with_reducible refine (EQ.out _ _ _ (by with_reducible assumption) (o7.at) (by first | exact Below.refl _ _ | exact (Below.refl _ _).drew)).mono ?_; rintro e w8 ⟨rfl, hbE⟩; have T8 := ST.out _ _ hbE (by with_reducible assumption))
        | (go_at_call 14; with_reducible refine (TI.out _ (by with_reducible assumption)).mono ?_; rintro e w7 ⟨xa7, xc7, ss7, rfl, o7, hbT⟩; have T7 := ST.out _ _ hbT (by with_reducible assumption)))
    have hb := T8.2
    clear T8 T7 hbE hbT o7 MK ST TI EQ HNC
    replace hN := bthen hN hb
    have q67 := kc hb q59; have q68 := kc hb q60
    have q69 := kc hb q61; have q70 := kc hb q62
    have q71 := kc hb q63; have q72 := kc hb q64
    have q73 := kc hb q65; have q74 := kc hb q66
    replace R1 := Lib.hid (R1.out.below hb)
    replace O2 := Lib.hid (O2.out.below hb)
    replace R2 := Lib.hid (R2.out.below hb)
    clear hb q59 q60 q61 q62 q63 q64 q65 q66
    go_wp2_with fail
    refine (markInstance_any HSZ.out _ O2.out).mono ?_
    rintro e w8 ⟨rfl, o, hw⟩
    replace hN := Below.within hN hw hs_O2.out hN.size
    have q75 := hw.cell q67 (.inl ba18.out); have q76 := hw.cell q68 (.inl ba18.out)
    have q77 := hw.cell q69 (.inl ba19.out); have q78 := hw.cell q70 (.inl ba19.out)
    have q79 := hw.cell q71 (.inr ab30.out); have q80 := hw.cell q72 (.inr ab30.out)
    have q81 := hw.cell q73 (.inr ab51.out); have q82 := hw.cell q74 (.inr ab51.out)
    replace R1 := Lib.hid (R1.out.apart hw (.inl ap20.out))
    replace R2 := Lib.hid (R2.out.apart hw (.inr ap39.out))
    replace O2 := Lib.hid o
    clear o hw q67 q68 q69 q70 q71 q72 q73 q74
    go_wp2_with fail
    refine (eqInstance_same hds.1 hds.2 _ R2.out.at R1.out.at).mono ?_
    rintro e w9 ⟨rfl, hb⟩
    replace hN := bthen hN hb
    have q83 := kc hb q75; have q84 := kc hb q76
    have q85 := kc hb q77; have q86 := kc hb q78
    have q87 := kc hb q79; have q88 := kc hb q80
    have q89 := kc hb q81; have q90 := kc hb q82
    replace R1 := Lib.hid (R1.out.below hb)
    replace O2 := Lib.hid (O2.out.below hb)
    replace R2 := Lib.hid (R2.out.below hb)
    clear hb q75 q76 q77 q78 q79 q80 q81 q82
    clear O2
    clear q87 q88
    go_wp2_with fail
    refine (markInstance_any (by omega) _ R2.out).mono ?_
    rintro e w10 ⟨rfl, o, hw⟩
    replace hN := Below.within hN hw hs_R2.out hN.size
    have q91 := hw.cell q83 (.inl ba35.out); have q92 := hw.cell q84 (.inl ba35.out)
    have q93 := hw.cell q85 (.inl ba36.out); have q94 := hw.cell q86 (.inl ba36.out)
    have q95 := hw.cell q89 (.inr ab52.out); have q96 := hw.cell q90 (.inr ab52.out)
    replace R1 := Lib.hid (R1.out.apart hw (.inl ap38.out))
    replace R2 := Lib.hid o
    clear o hw q83 q84 q85 q86 q89 q90
    go_wp2_with fail
    refine (heldInstance_any hdz _ R2.out.at).mono ?_
    rintro e w11 ⟨rfl, hb⟩
    replace hN := bthen hN hb
    have q97 := kc hb q91; have q98 := kc hb q92
    have q99 := kc hb q93; have q100 := kc hb q94
    have q101 := kc hb q95; have q102 := kc hb q96
    replace R1 := Lib.hid (R1.out.below hb)
    replace R2 := Lib.hid (R2.out.below hb)
    clear hb q91 q92 q93 q94 q95 q96
    go_wp2_with fail
    have ba103 := Lib.hid (cell_lt q97)
    have ba104 := Lib.hid (cell_lt q99)
    have ba105 := Lib.hid (cell_lt q101)
    have ap106 := Lib.hid R1.out.top
    have ap107 := Lib.hid R2.out.top
    have hs_O3 := Lib.hid hN.size
    go_wp2_with fail
    refine (toInst_any HR.out HT.out _ hN).mono ?_
    rintro e w12 ⟨xa3, xc3, ss3, rfl, o, hb⟩
    have O3 := Lib.hid o
    clear o
    replace hN := bthen hN hb
    have q108 := kc hb q97; have q109 := kc hb q98
    have q110 := kc hb q99; have q111 := kc hb q100
    have q112 := kc hb q101; have q113 := kc hb q102
    replace R1 := Lib.hid (R1.out.below hb)
    replace R2 := Lib.hid (R2.out.below hb)
    clear hb q97 q98 q99 q100 q101 q102
    go_wp2_with fail
    have ba114 := Lib.hid (cell_lt q108)
    have ba115 := Lib.hid (cell_lt q110)
    have ba116 := Lib.hid (cell_lt q112)
    have ap117 := Lib.hid R1.out.top
    have ap118 := Lib.hid R2.out.top
    have ap119 := Lib.hid O3.out.top
    have hs_R3 := Lib.hid hN.size
    go_wp2_with fail
    refine (C2.out _ _ O3.out.at).mono ?_
    rintro e w13 ⟨ya3, yc3, ts3, rfl, o, hb⟩
    have R3 := Lib.hid o
    clear o
    replace hN := bthen hN hb
    have q120 := kc hb q108; have q121 := kc hb q109
    have q122 := kc hb q110; have q123 := kc hb q111
    have q124 := kc hb q112; have q125 := kc hb q113
    replace R1 := Lib.hid (R1.out.below hb)
    replace R2 := Lib.hid (R2.out.below hb)
    replace O3 := Lib.hid (O3.out.below hb)
    clear hb q108 q109 q110 q111 q112 q113
    obtain ⟨W126, hW127, q128, q129, hb⟩ := ansBoxI rm (.slice ya3 ds.length yc3) w13
    have ab130 := Lib.hid R1.out.top
    have ab131 := Lib.hid R2.out.top
    have ab132 := Lib.hid O3.out.top
    have ab133 := Lib.hid R3.out.top
    replace hN := bthen hN hb
    have q134 := kc hb q120; have q135 := kc hb q121
    have q136 := kc hb q122; have q137 := kc hb q123
    have q138 := kc hb q124; have q139 := kc hb q125
    replace R1 := Lib.hid (R1.out.below hb)
    replace R2 := Lib.hid (R2.out.below hb)
    replace O3 := Lib.hid (O3.out.below hb)
    replace R3 := Lib.hid (R3.out.below hb)
    clear hb q120 q121 q122 q123 q124 q125
    clear O3
    go_wp2_with fail
    clear hW127
    go_wp2_with fail
    refine (eqInstance_same hds.1 hds.2 _ R3.out.at R1.out.at).mono ?_
    rintro e w14 ⟨rfl, hb⟩
    replace hN := bthen hN hb
    have q140 := kc hb q134; have q141 := kc hb q135
    have q142 := kc hb q136; have q143 := kc hb q137
    have q144 := kc hb q138; have q145 := kc hb q139
    have q146 := kc hb q128; have q147 := kc hb q129
    replace R1 := Lib.hid (R1.out.below hb)
    replace R2 := Lib.hid (R2.out.below hb)
    replace R3 := Lib.hid (R3.out.below hb)
    clear hb q134 q135 q136 q137 q138 q139 q128 q129
    clear R3
    clear q146 q147
    go_wp2_with fail
    refine (heldInstance_any hdz _ R2.out.at).mono ?_
    rintro e w15 ⟨rfl, hb⟩
    replace hN := bthen hN hb
    have q148 := kc hb q140; have q149 := kc hb q141
    have q150 := kc hb q142; have q151 := kc hb q143
    have q152 := kc hb q144; have q153 := kc hb q145
    replace R1 := Lib.hid (R1.out.below hb)
    replace R2 := Lib.hid (R2.out.below hb)
    clear hb q140 q141 q142 q143 q144 q145
    go_wp2
    go_ret
    exact ⟨rfl, hN⟩
  · obtain ⟨W1, hW1⟩ : ∃ W1, w.alloc (.cells #[.int .i64 m, .slice a len cap] 24) = W1 := ⟨_, rfl⟩
    have qa : W1.cell? ⟨w.heap.size, 0, none⟩ = some (.int .i64 m) := by rw [← hW1]; simp [go_sem]
    have qb : W1.cell? ⟨w.heap.size, 1, none⟩ = some (.slice a len cap) := by rw [← hW1]; simp [go_sem]
    have hN : Below w.heap.size w W1 := by rw [← hW1]; exact bnew _ _
    have HC := Lib.hid (szInstance_over (m := m) (cap := cap) hr0 ht W1 hN)
    clear hr0 ht
    go_enter Try.func7, Try.ntmps7
    go_wp2_with (go_at_call 12; (try rw [hW1]); refine (HC.out).mono ?_; rintro e w' ⟨rfl, hb⟩)
    go_ret
    exact ⟨rfl, bthen hN hb⟩
end Go.Proofs.Ythkmapflbopdpaa
