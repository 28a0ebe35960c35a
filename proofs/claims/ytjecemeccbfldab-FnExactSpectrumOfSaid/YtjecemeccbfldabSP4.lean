/-
  Spectra in the program: spectrumOf.
-/
import Derived.Test.YtjecemeccbfldabSP3
namespace Go.Proofs.Ytjecemeccbfldab
open Go.RowKit
set_option linter.unusedVariables false
set_option linter.unusedSimpArgs false

/-- A line of a table of numbers. -/
def LineOf (base : Nat) (s : Value) (xs : Nat → Int) (R : Nat) (W : World) : Prop := ∃ (g a N : Nat) (F : Nat → Value), s = .slice (some ⟨g, a, none⟩) R R ∧ a + R ≤ N ∧ N ≤ 80 ∧ (∀ j, j < R → F (a + j) = .int .i64 (xs j)) ∧ W.ownsRow base 2 1 (.slice (some ⟨g, 0, none⟩) N N) N (tab F N)

theorem sgn_bd (x j : Nat) : -1 ≤ sgn (bitN x) j ∧ sgn (bitN x) j ≤ 1 := sgn_bound (bitN_le x) j
theorem fly_bd (x i j : Nat) (hi : i ≤ 4) : -1000 ≤ fly (sgn (bitN x)) i j ∧ fly (sgn (bitN x)) i j ≤ 1000 := by
  have h := fly_bound (sgn (bitN x)) (sgn_bd x) i j
  have h2 : (2 : Nat) ^ i ≤ 2 ^ 4 := Nat.pow_le_pow_right (by decide) hi
  omega

set_option maxRecDepth 100000 in
set_option maxHeartbeats 8000000 in
theorem spectrumOf_any {n : Int} {x R : Nat} (ok : FOk n x R) (w : World) :
    Calls Try.prog 74 #[.agg #[.int .i64 n, .int .i64 (x : Int)]] w fun e w' => ∃ s, e = .returned s ∧ LineOf w.heap.size s (spV x R) R w' ∧ Below w.heap.size w w' := by
  obtain ⟨i0, hi, hz0, hz1, hz2⟩ := info_parts infoI
  have r0 := ok.r0
  have r16 := ok.r16
  obtain ⟨m, hm⟩ : ∃ m : Nat, n = (m : Int) := ⟨n.toNat, by have := ok.h0; omega⟩
  subst hm
  have m4 : m ≤ 4 := by have := ok.h4; omega
  have hRm : R = 2 ^ m := by have := ok.he; simpa using this
  obtain ⟨N, hN⟩ : ∃ N, N = (m + 1) * R := ⟨_, rfl⟩
  have hN80 : N ≤ 80 := by rw [hN]; exact mul_bd (by omega) r16
  have e2 : ((m : Int) + 1) * (R : Int) = (N : Int) := by rw [hN]; push_cast; rfl
  have w2 : IntKind.i64.wrap (((m : Int) + 1) * (R : Int)) = (N : Int) := by rw [e2]; exact wrap64_small (by omega) (by omega)
  have w2' : wrap64 (((m : Int) + 1) * (R : Int)) = (N : Int) := by rw [e2]; exact IntWalk.wrap64_in _ ⟨by omega, by omega⟩
  have hRN : R ≤ N := by rw [hN]; exact Nat.le_mul_of_pos_left R (by omega)
  have HN := Lib.hid hN
  have HR := Lib.hid hRm
  clear e2 hN hRm
  obtain ⟨W1, hW1⟩ : ∃ W1, w.alloc (.cells #[.int .i64 (m : Int), .int .i64 (x : Int)] 27) = W1 := ⟨_, rfl⟩
  have p0 : W1.cell? ⟨w.heap.size, 0, none⟩ = some (.int .i64 (m : Int)) := by rw [← hW1]; simp [go_sem]
  have p1 : W1.cell? ⟨w.heap.size, 1, none⟩ = some (.int .i64 (x : Int)) := by rw [← hW1]; simp [go_sem]
  have hB : Below w.heap.size w W1 := by rw [← hW1]; exact bnew _ _
  go_enter Try.func74, Try.ntmps74
  go_wp2_with (first
    | (go_at_call 78; refine (rowCount_is ok.h0 ok.h4 ok.hR _).mono ?_; rintro e w' ⟨rfl, rfl⟩)
    | (at_make; refine wpList_make_full _ rfl _ _ 24 rfl W1.heap.size 2 i0 (.int .i64 0) 1 Try.underlying24 hi hz0 hz1 .i64 .i64 _ _ N rfl rfl (by first | rfl | assumption) (by first | rfl | assumption) (by rw [hz2]; omega) (by unfold maxLen; omega) (Nat.le_refl _) ?_; intro w4 hown1 hgrow1; have hN4 : Below W1.heap.size W1 w4 := (Below.refl _ _).grown hgrow1 (Nat.le_refl _) (fun j e => by cases e); have q0 := kc hN4 p0; have q1 := kc hN4 p1)
    | (go_at_call 124; refine (lineOf_any W1.heap.size R 0 N 0 rfl r0 r16 (by omega) (by omega) hN80 _).mono ?_; rintro e w' ⟨rfl, rfl⟩; rw [Nat.zero_mul])
    | (go_at_call 80; refine (signsOf_any ok _).mono ?_; rintro e w5 ⟨gs, rfl, hgs, hgs2, hsg, hb5⟩))
  have hvl := hown1.1
  have own5 := owns_below hown1 hb5
  generalize (madeCells (Value.int .i64 0).cells (N * 1)).toList = vs at own5 hown1 hvl
  rw [Nat.mul_one] at hvl
  have u0 := kc hb5 q0
  have hN5 := bthen (bthen hB hN4) hb5
  obtain ⟨g, hg⟩ : ∃ g, g = W1.heap.size := ⟨_, rfl⟩
  have hwg : w.heap.size ≤ g := by rw [hg]; exact hB.size
  have hlt4 : g < w4.heap.size := by rw [hg]; exact (World.ownsRow.lt hown1 W1.heap.size rfl).2
  have hgs3 : ¬ g = gs := by omega
  have hwg2 : ¬ g = w.heap.size := by have : w.heap.size < W1.heap.size := cell_lt p0; omega
  rw [tab_of vs N hvl] at own5
  generalize (fun o : Nat => (vs[o]?).getD undef) = F0 at own5
  rw [← hg] at own5 ⊢
  have HSG := Lib.hid hsg
  have U0 := Lib.hid u0
  clear hW1 hown1 hgrow1 hN4 hB q0 q1 p0 p1 hb5 hsg hvl hg u0 hgs hgs2 hlt4
  go_loopw [25] (fun k' wr => ∃ k : Nat, k ≤ R ∧ k' = .int .i64 k ∧ wr.ownsRow g 2 1 (.slice (some ⟨g, 0, none⟩) N N) N (tab (lineT (sgn (bitN x)) 0 k F0) N) ∧ (Hid (∀ j, j < R → wr.cell? ⟨gs, j, none⟩ = some (.int .i64 (sgn (bitN x) j)))) ∧ Hid (wr.cell? ⟨w.heap.size, 0, none⟩ = some (.int .i64 (m : Int))) ∧ Below w.heap.size w wr) (fun k' _ => R - (intOf k').toNat)
  case atStart => exact ⟨0, Nat.zero_le _, rfl, by rw [lineT_zero]; exact own5, HSG, U0, hN5⟩
  case round =>
    clear own5 HSG hN5 U0
    obtain ⟨k, hk, rfl, ho, HSG, HU, hN2⟩ := hrel
    by_cases hlt : k < R
    · have hc1 := HSG.out k hlt
      obtain ⟨u, hu⟩ : ∃ u, wr.cell? ⟨g, k, none⟩ = some u := ⟨_, by rw [World.ownsRow.cellAt ho k (by omega), tab_get _ _ _ (by omega)]⟩
      have hfz := World.ownsRow.frozenAt ho k
      have hst := (World.ownsRow.stored ho k (.int .i64 (sgn (bitN x) k))).1
      rw [tab_set] at hst
      have hl := lineT_succ (sgn (bitN x)) 0 k F0
      rw [Nat.zero_add] at hl
      rw [hl] at hst
      have HST := Lib.hid hst
      clear ho hst hl
      go_wp2
      go_roundw
      case rel =>
        refine ⟨k + 1, by omega, by go_num, HST.out, Lib.hid fun j hj => ?_, Lib.hid ?_, hN2.setCell (p := ⟨g, k, none⟩) hwg _⟩
        · have := HSG.out j hj
          simp [go_sem, this, hgs3]
        · have := HU.out
          simp [go_sem, this, hwg2]
      case measure => simp [intOf]; omega
    · obtain rfl : R = k := by omega
      have HO := Lib.hid ho
      have hu0 := HU.out
      clear ho HSG HU
      go_wp2
      clear hu0
      go_loopw [5, 37] (fun l' i' wr => ∃ i : Nat, i ≤ m ∧ i' = .int .i64 i ∧ l' = .slice (some ⟨g, i * R, none⟩) R R ∧ (∃ F, Hid (∀ j, j < R → F (i * R + j) = .int .i64 (fly (sgn (bitN x)) i j)) ∧ Hid (wr.ownsRow g 2 1 (.slice (some ⟨g, 0, none⟩) N N) N (tab F N))) ∧ Below w.heap.size w wr) (fun _ i' _ => m - (intOf i').toNat)
      case atStart => exact ⟨0, Nat.zero_le _, rfl, by rw [Nat.zero_mul], ⟨_, Lib.hid fun j hj => by simp only [lineT, Nat.zero_mul, Nat.zero_add]; rw [if_pos (by omega)]; rfl, HO⟩, hN2⟩
      case round =>
        clear HO hN2
        obtain ⟨i, hi2, rfl, rfl, ⟨F, HF, HO⟩, hN2⟩ := hrel
        by_cases hlt2 : i < m
        · have e1 : (i + 1) * R = i * R + R := Nat.succ_mul i R
          have e3 : (i + 1) * R + R ≤ N := by
            rw [HN.out]
            have := Nat.mul_le_mul_right R (show i + 1 + 1 ≤ m + 1 by omega)
            rwa [Nat.succ_mul (i + 1) R] at this
          have TV := Lib.hid (takeVariable_any m4 g ((i + 1) * R) (i * R) R i N g HR.out hlt2 e3 (by omega) (by omega) hN80 F (fly (sgn (bitN x)) i) HF.out (fun j => fly_bd x i j (by omega)) wr HO.out)
          have HF2 := Lib.hid (fun j (hj : j < R) => (show lineT (flyS (fly (sgn (bitN x)) i) i) ((i + 1) * R) R F ((i + 1) * R + j) = .int .i64 (fly (sgn (bitN x)) (i + 1) j) by
            simp only [lineT]; rw [if_pos (by omega), Nat.add_sub_cancel_left]; rfl))
          have e4 := Lib.hid e3
          clear HF e1 e3
          go_wp2_with (first
            | (go_at_call 124; refine (lineOf_any g R (i + 1) N _ (by push_cast; rfl) r0 r16 (by omega) e4.out hN80 _).mono ?_; rintro e w' ⟨rfl, rfl⟩)
            | (go_at_call 125; refine TV.out.mono ?_; rintro e w6 ⟨rfl, ho6, hb6⟩; have HO6 := Lib.hid ho6; have hN6 := hN2.trans (hb6.mono hwg)))
          go_roundw
          case rel => exact ⟨i + 1, by omega, by go_num, rfl, ⟨_, HF2, HO6⟩, hN6⟩
          case measure => simp [intOf]; omega
        · obtain rfl : m = i := by omega
          have e1 : (m + 1) * R = m * R + R := Nat.succ_mul m R
          have e2 : m * R + R ≤ N := by rw [HN.out, e1]; exact Nat.le_refl _
          have HF2 := Lib.hid (fun j (hj : j < R) => (show F (m * R + j) = .int .i64 (spV x R j) by
            rw [HF.out j hj, fly_eq (n := m) (by omega) _ j (by rw [← HR.out]; exact hj), ← HR.out]; rfl))
          have E2 := Lib.hid e2
          clear HF e1 e2
          go_wp2
          go_ret
          refine ⟨_, rfl, ⟨g, m * R, N, F, rfl, E2.out, hN80, HF2.out, ?_⟩, hN2⟩
          have := HO.out
          exact ⟨this.1, this.2.imp id (fun ⟨g', cap, cur, e1, e2, r⟩ => ⟨g', cap, cur, e1, Nat.le_trans hwg e2, r⟩)⟩
end Go.Proofs.Ytjecemeccbfldab
