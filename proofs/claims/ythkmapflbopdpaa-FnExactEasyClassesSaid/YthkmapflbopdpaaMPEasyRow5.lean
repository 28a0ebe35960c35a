/-
  The texts EZ3, H9, FEasyRow in one.
-/
import Derived.Test.YthkmapflbopdpaaMPEasyRow4

/- EZ3:
  The six easy classes of a relation, in the model; EasyRow in both packages. -/
namespace Go.Proofs.Ythkmapflbopdpaa
open Go.RowKit
set_option linter.unusedVariables false
set_option linter.unusedSimpArgs false

set_option maxRecDepth 100000 in
set_option maxHeartbeats 2000000 in
theorem l09Has_any {n : Int} (x t : Nat) (hx : x < 2 ^ 62) (ht : t < 62) (w : World) :
    Calls Try.prog 78 #[.agg #[.int .i64 n, .int .i64 (x : Int)], .int .i64 (t : Int)] w fun e w' => e = .returned (.bool (bitN x t == 1)) ∧ Below w.heap.size w w' := by
  have H : Hid ((bits .and .i64 ((x : Int) / 2 ^ t) 1 == 1) = (bitN x t == 1)) := Lib.hid (by rw [digit_eq x t hx, Bool.eq_iff_iff, beq_iff_eq, beq_iff_eq]; omega)
  clear hx
  go_enter Try.func78, Try.ntmps78
  go_wp2
  go_ret
  exact ⟨by rw [← H.out]; rfl, bnew _ _⟩

/-- The names of the last four classes' functions. -/
def ezS (i : Nat) : ByteArray :=
  match i with
  | 0 => ⟨#[97, 110, 100]⟩
  | 1 => ⟨#[111, 114]⟩
  | 2 => ⟨#[109, 97, 106, 111, 114, 105, 116, 121]⟩
  | _ => ⟨#[109, 105, 110, 111, 114, 105, 116, 121]⟩
def ezP (i : Nat) : Int × Int :=
  match i with
  | 0 => (2, 8)
  | 1 => (2, 14)
  | 2 => (3, 232)
  | _ => (3, 150)
theorem ezP_is (i : Nat) : isF (ezP i).1 (ezP i).2 = true := by
  match i with
  | 0 => decide
  | 1 => decide
  | 2 => decide
  | n + 3 => exact (by decide : isF 3 150 = true)
theorem ezB_ge (y P R i : Nat) (h : i < 4) : ezB y P R (i + 2) = keepsP (ezP i) y P := by
  rcases (show i = 0 ∨ i = 1 ∨ i = 2 ∨ i = 3 by omega) with rfl | rfl | rfl | rfl <;> rfl
theorem ezNamed_any (i : Nat) (hi : i < 4) (w : World) : Calls Try.prog 101 #[.string (ezS i)] w (NamedPost (ezP i).1 (ezP i).2 0 w) := by
  rcases (show i = 0 ∨ i = 1 ∨ i = 2 ∨ i = 3 by omega) with rfl | rfl | rfl | rfl
  · have := specNamedFunc_some (s := ezS 0) (k := 4) (by decide) (by decide) (by decide) w
    rwa [(txAt_read 4 (by decide)).2.1, (txAt_read 4 (by decide)).2.2] at this
  · have := specNamedFunc_some (s := ezS 1) (k := 5) (by decide) (by decide) (by decide) w
    rwa [(txAt_read 5 (by decide)).2.1, (txAt_read 5 (by decide)).2.2] at this
  · have := specNamedFunc_some (s := ezS 2) (k := 11) (by decide) (by decide) (by decide) w
    rwa [(txAt_read 11 (by decide)).2.1, (txAt_read 11 (by decide)).2.2] at this
  · have := specNamedFunc_some (s := ezS 3) (k := 12) (by decide) (by decide) (by decide) w
    rwa [(txAt_read 12 (by decide)).2.1, (txAt_read 12 (by decide)).2.2] at this
theorem ezS_at (w : World) (t : TypeId) (i : Nat) (h : i < 4) : (w.alloc (.cells #[.string (ezS 0), .string (ezS 1), .string (ezS 2), .string (ezS 3)] t)).cell? ⟨w.heap.size, i, none⟩ = some (.string (ezS i)) := by
  rcases (show i = 0 ∨ i = 1 ∨ i = 2 ∨ i = 3 by omega) with rfl | rfl | rfl | rfl <;> simp [go_sem]

/-- The row, 0 from class k on. -/
def ezT (y P R k : Nat) : List Int := (List.range 6).map fun i => if i < k then ((ezB y P R i).toNat : Int) else 0
theorem ezT_len (y P R k : Nat) : (ezT y P R k).length = 6 := by simp [ezT]
theorem ezT_last (y P R : Nat) : ezT y P R 6 = ezL y P R 6 := by
  unfold ezT ezL
  exact List.map_congr_left fun i hi => if_pos (by simpa using hi)
theorem ezT_first (y P R : Nat) : ezT y P R 0 = [0, 0, 0, 0, 0, 0] := rfl
theorem ezT_no {y P R k : Nat} (h : ezB y P R k = false) : ezT y P R (k + 1) = ezT y P R k := by
  unfold ezT
  refine List.map_congr_left fun i hi => ?_
  by_cases h1 : i < k
  · rw [if_pos h1, if_pos (by omega)]
  · by_cases h2 : i = k
    · subst h2; rw [if_pos (by omega), if_neg h1, h]; rfl
    · rw [if_neg (by omega), if_neg h1]
theorem ezT_yes {y P R k : Nat} (h : ezB y P R k = true) : ezT y P R (k + 1) = (ezT y P R k).set k 1 := by
  unfold ezT
  refine List.ext_getElem (by simp) fun i h1 h2 => ?_
  simp only [List.getElem_map, List.getElem_range, List.getElem_set]
  by_cases h3 : k = i
  · subst h3; rw [if_pos (by omega), if_pos rfl, h]; rfl
  · rw [if_neg h3]
    by_cases h4 : i < k
    · rw [if_pos h4, if_pos (by omega)]
    · rw [if_neg h4, if_neg (by omega)]
theorem ints_set (xs : List Int) (k : Nat) (x : Int) : ints (xs.set k x) = (ints xs).set k (.int .i64 x) := by simp [ints, List.map_set]

/-- The row's list, whose first k classes are told, behind a store or not. -/
theorem ezOwn_yes {W : World} {base g y P R k : Nat} (h : W.ownsRow base 2 1 (.slice (some ⟨g, 0, none⟩) 6 6) 6 (ints (ezT y P R k))) (hb : ezB y P R k = true) : (W.setCell ⟨g, k, none⟩ (.int .i64 1)).ownsRow base 2 1 (.slice (some ⟨g, 0, none⟩) 6 6) 6 (ints (ezT y P R (k + 1))) := by
  rw [ezT_yes hb, ints_set]
  exact (World.ownsRow.stored h k (.int .i64 1)).1
theorem ezOwn_cell {W : World} {base g y P R k : Nat} (h : W.ownsRow base 2 1 (.slice (some ⟨g, 0, none⟩) 6 6) 6 (ints (ezT y P R k))) (j : Nat) (hj : j < 6) : (∃ u, W.cell? ⟨g, j, none⟩ = some u) ∧ W.frozen? ⟨g, j, none⟩ = false := by
  refine ⟨?_, World.ownsRow.frozenAt h j⟩
  rw [World.ownsRow.cellAt h j (by omega)]
  exact ⟨_, List.getElem?_eq_getElem (by simp [ints, ezT]; omega)⟩

theorem six_zero : (madeCells (Value.int .i64 0).cells (6 * 1)).toList = ints [0, 0, 0, 0, 0, 0] := by kernel_rfl

set_option maxRecDepth 100000 in
set_option maxHeartbeats 8000000 in
theorem l09Row_any {n : Int} {P y R : Nat} (hn : n = (P : Int)) (okr : ROk n y R) (w : World) :
    Calls Try.prog 56 #[.agg #[.int .i64 n, .int .i64 (y : Int)]] w (ListPost w.heap.size (ezL y P R 6) w) := by
  obtain ⟨i0, hi, hz0, hz1, hz2⟩ := info_parts infoI
  have r0 := okr.r0
  have r16 := okr.r16
  have H0 : Hid (∀ V, Calls Try.prog 78 #[.agg #[.int .i64 n, .int .i64 (y : Int)], .int .i64 0] V fun e w' => e = .returned (.bool (ezB y P R 0)) ∧ Below V.heap.size V w') := Lib.hid fun V => l09Has_any y 0 okr.hx (by omega) V
  have H1 : Hid (∀ V, Calls Try.prog 78 #[.agg #[.int .i64 n, .int .i64 (y : Int)], .int .i64 ((R : Int) - 1)] V fun e w' => e = .returned (.bool (ezB y P R 1)) ∧ Below V.heap.size V w') := Lib.hid fun V => by
    have := l09Has_any (n := n) y (R - 1) okr.hx (by omega) V
    rwa [show ((R - 1 : Nat) : Int) = (R : Int) - 1 by omega] at this
  have LR := Lib.hid (fun V => l01Rows_is okr.h0 okr.h4 okr.hR V)
  have KP : Hid (∀ i, i < 4 → ∀ V, Calls Try.prog 102 #[.agg #[.int .i64 (ezP i).1, .int .i64 (ezP i).2], .agg #[.int .i64 n, .int .i64 (y : Int)]] V fun e w' => e = .returned (.bool (ezB y P R (i + 2))) ∧ Below V.heap.size V w') := Lib.hid fun i h4 V => by
    rw [ezB_ge y P R i h4]
    exact l06Keeps_pn hn (ezP_is i) okr rfl V
  have NF := Lib.hid ezNamed_any
  have hw1 : IntKind.i64.wrap ((R : Int) - 1) = (R : Int) - 1 := wrap64_small (by omega) (by omega)
  clear okr hn
  obtain ⟨W1, hW1⟩ : ∃ W1, w.alloc (.cells #[.int .i64 n, .int .i64 (y : Int)] 38) = W1 := ⟨_, rfl⟩
  have p0 : W1.cell? ⟨w.heap.size, 0, none⟩ = some (.int .i64 n) := by rw [← hW1]; simp [go_sem]
  have p1 : W1.cell? ⟨w.heap.size, 1, none⟩ = some (.int .i64 (y : Int)) := by rw [← hW1]; simp [go_sem]
  have hB : Below w.heap.size w W1 := by rw [← hW1]; exact bnew _ _
  have hs1 := hB.size
  go_enter Try.func56, Try.ntmps56
  go_wp2_with (at_make; refine wpList_make_full _ rfl _ _ 35 rfl W1.heap.size 2 i0 (.int .i64 0) 1 Try.underlying35 hi hz0 hz1 .i64 .i64 _ _ 6 rfl rfl rfl rfl (by rw [hz2]; decide) (by decide) (Nat.le_refl _) ?_; intro w1 hown1 hgrow1; have hB1 := hB.grown hgrow1 hs1 (fun j e => by cases e); have q0 := hgrow1.cell p0 (by simp); have q1 := hgrow1.cell p1 (by simp))
  have hg1 : w.heap.size < W1.heap.size := cell_lt p0
  have own0 : w1.ownsRow W1.heap.size 2 1 (.slice (some ⟨W1.heap.size, 0, none⟩) 6 6) 6 (ints (ezT y P R 0)) := by
    rw [ezT_first, ← six_zero]; exact hown1
  clear hown1 hgrow1 hW1 p0 p1 hB
  generalize W1.heap.size = g at own0 hg1 hs1
  cases hb0 : ezB y P R 0
  case' false =>
    rw [hb0] at H0
    refine (H0.out _).mono ?_
    rintro e W3 ⟨rfl, hb⟩
    have own3 : W3.ownsRow g 2 1 (.slice (some ⟨g, 0, none⟩) 6 6) 6 (ints (ezT y P R 1)) := by rw [ezT_no hb0]; exact owns_below own0 hb
    have s0 := kc hb q0
    have s1 := kc hb q1
    have hB3 := bthen hB1 hb
    clear hb own0 q0 q1 hB1
    go_wp2_with fail
  case' true =>
    rw [hb0] at H0
    refine (H0.out _).mono ?_
    rintro e w2 ⟨rfl, hb⟩
    have own2 := owns_below own0 hb
    obtain ⟨⟨u, hu⟩, hfz⟩ := ezOwn_cell own2 0 (by omega)
    obtain ⟨W3, hW3⟩ : ∃ W3, w2.setCell ⟨g, 0, none⟩ (.int .i64 1) = W3 := ⟨_, rfl⟩
    have own3 : W3.ownsRow g 2 1 (.slice (some ⟨g, 0, none⟩) 6 6) 6 (ints (ezT y P R 1)) := by rw [← hW3]; exact ezOwn_yes own2 hb0
    have s0 : W3.cell? ⟨w.heap.size, 0, none⟩ = some (.int .i64 n) := by rw [← hW3]; exact (World.ownsRow.stored own2 0 (.int .i64 1)).2.cell (kc hb q0) (by simp; omega)
    have s1 : W3.cell? ⟨w.heap.size, 1, none⟩ = some (.int .i64 (y : Int)) := by rw [← hW3]; exact (World.ownsRow.stored own2 0 (.int .i64 1)).2.cell (kc hb q1) (by simp; omega)
    have hB3 : Below w.heap.size w W3 := by rw [← hW3]; exact (bthen hB1 hb).setCell (p := ⟨g, 0, none⟩) (by show w.heap.size ≤ g; omega) _
    clear hb own0 own2 q0 q1 hB1
    go_wp2_with fail
    clear hW3 hu hfz
  all_goals
    clear H0
    have MK : Hid (∀ V : World, Below W3.heap.size W3 V → ((V.cell? ⟨w.heap.size, 0, none⟩ = some (.int .i64 n) ∧ V.cell? ⟨w.heap.size, 1, none⟩ = some (.int .i64 (y : Int))) ∧ Below W3.heap.size W3 V)) := Lib.hid fun V h => ⟨⟨kc h s0, kc h s1⟩, h⟩
    have ST : Hid (∀ V V' : World, Below V.heap.size V V' → ((V.cell? ⟨w.heap.size, 0, none⟩ = some (.int .i64 n) ∧ V.cell? ⟨w.heap.size, 1, none⟩ = some (.int .i64 (y : Int))) ∧ Below W3.heap.size W3 V) → ((V'.cell? ⟨w.heap.size, 0, none⟩ = some (.int .i64 n) ∧ V'.cell? ⟨w.heap.size, 1, none⟩ = some (.int .i64 (y : Int))) ∧ Below W3.heap.size W3 V')) := Lib.hid fun V V' hb h => MK.out V' (bthen h.2 hb)
    go_region_held3 (fun V => ((V.cell? ⟨w.heap.size, 0, none⟩ = some (.int .i64 n) ∧ V.cell? ⟨w.heap.size, 1, none⟩ = some (.int .i64 (y : Int))) ∧ Below W3.heap.size W3 V))
      (first
        | with_reducible exact MK.out _ (Below.refl _ _).drew
        | (with_reducible refine ST.out _ _ hbE ?_; with_reducible assumption)
        | with_reducible assumption)
      (first
        | (go_at_call 78; with_reducible refine (H1.out _).mono ?_; rintro e w8 ⟨rfl, hbE⟩; have T8 := ST.out _ _ hbE (by with_reducible assumption))
        | (go_at_call 77; with_reducible refine (LR.out _).mono ?_; rintro e w' ⟨rfl, rfl⟩))
    obtain ⟨⟨t0, t1⟩, hb8⟩ := T8
    have own8 := owns_below own3 hb8
    have hB8 := bthen hB3 hb8
    clear MK ST hbE s0 s1 own3 hB3 hb8
    cases hb1 : ezB y P R 1
    case' false =>
      have own4 : w8.ownsRow g 2 1 (.slice (some ⟨g, 0, none⟩) 6 6) 6 (ints (ezT y P R 2)) := by rw [ezT_no hb1]; exact own8
      obtain ⟨W5, hW5⟩ : ∃ W5, w8.alloc (.cells #[.string ⟨#[97, 110, 100]⟩, .string ⟨#[111, 114]⟩, .string ⟨#[109, 97, 106, 111, 114, 105, 116, 121]⟩, .string ⟨#[109, 105, 110, 111, 114, 105, 116, 121]⟩] 9) = W5 := ⟨_, rfl⟩
      have hnm : Hid (∀ i, i < 4 → W5.cell? ⟨w8.heap.size, i, none⟩ = some (.string (ezS i))) := Lib.hid fun i hi => by rw [← hW5]; exact ezS_at w8 _ i hi
      have hb5 : Below w8.heap.size w8 W5 := by rw [← hW5]; exact bnew _ _
      have hgB : g < w8.heap.size := (World.ownsRow.lt own4 g rfl).2
      have own5 := owns_below own4 hb5
      have v0 := kc hb5 t0
      have v1 := kc hb5 t1
      have hB5 := bthen hB8 hb5
      have hrB : w.heap.size < w8.heap.size := cell_lt t0
      clear own8 own4 hb5 t0 t1 hB8
      go_wp2
      clear hW5
      generalize w8.heap.size = B at hnm hgB hrB
    case' true =>
      obtain ⟨⟨u, hu⟩, hfz⟩ := ezOwn_cell own8 1 (by omega)
      obtain ⟨W4, hW4⟩ : ∃ W4, w8.setCell ⟨g, 1, none⟩ (.int .i64 1) = W4 := ⟨_, rfl⟩
      have own4 : W4.ownsRow g 2 1 (.slice (some ⟨g, 0, none⟩) 6 6) 6 (ints (ezT y P R 2)) := by rw [← hW4]; exact ezOwn_yes own8 hb1
      have x0 : W4.cell? ⟨w.heap.size, 0, none⟩ = some (.int .i64 n) := by rw [← hW4]; exact (World.ownsRow.stored own8 1 (.int .i64 1)).2.cell t0 (by simp; omega)
      have x1 : W4.cell? ⟨w.heap.size, 1, none⟩ = some (.int .i64 (y : Int)) := by rw [← hW4]; exact (World.ownsRow.stored own8 1 (.int .i64 1)).2.cell t1 (by simp; omega)
      have hB4 : Below w.heap.size w W4 := by rw [← hW4]; exact hB8.setCell (p := ⟨g, 1, none⟩) (by show w.heap.size ≤ g; omega) _
      obtain ⟨W5, hW5⟩ : ∃ W5, W4.alloc (.cells #[.string ⟨#[97, 110, 100]⟩, .string ⟨#[111, 114]⟩, .string ⟨#[109, 97, 106, 111, 114, 105, 116, 121]⟩, .string ⟨#[109, 105, 110, 111, 114, 105, 116, 121]⟩] 9) = W5 := ⟨_, rfl⟩
      have hnm : Hid (∀ i, i < 4 → W5.cell? ⟨W4.heap.size, i, none⟩ = some (.string (ezS i))) := Lib.hid fun i hi => by rw [← hW5]; exact ezS_at W4 _ i hi
      have hb5 : Below W4.heap.size W4 W5 := by rw [← hW5]; exact bnew _ _
      have hgB : g < W4.heap.size := (World.ownsRow.lt own4 g rfl).2
      have own5 := owns_below own4 hb5
      have v0 := kc hb5 x0
      have v1 := kc hb5 x1
      have hB5 := bthen hB4 hb5
      have hrB : w.heap.size < W4.heap.size := cell_lt x0
      clear own8 own4 hb5 t0 t1 hB8 x0 x1 hB4
      go_wp2
      clear hW5 hW4 hu hfz
      generalize W4.heap.size = B at hnm hgB hrB
    all_goals
      clear hb0 hb1 H1 LR
      have hB5s := hB5.size
      go_loopw [5] (fun i' wr => ∃ i : Nat, i ≤ 4 ∧ i' = .int .i64 i ∧ wr.ownsRow g 2 1 (.slice (some ⟨g, 0, none⟩) 6 6) 6 (ints (ezT y P R (i + 2))) ∧ (wr.cell? ⟨w.heap.size, 0, none⟩ = some (.int .i64 n) ∧ wr.cell? ⟨w.heap.size, 1, none⟩ = some (.int .i64 (y : Int))) ∧ Hid (∀ i, i < 4 → wr.cell? ⟨B, i, none⟩ = some (.string (ezS i))) ∧ Below w.heap.size w wr) (fun i' _ => 4 - (intOf i').toNat)
      case atStart => exact ⟨0, by omega, rfl, own5, ⟨v0, v1⟩, hnm, hB5⟩
      case round =>
        clear own5 v0 v1 hnm hB5
        obtain ⟨i, hi4, rfl, hown, ⟨u0, u1⟩, hnm, hN⟩ := hrel
        by_cases hlt : i < 4
        · have hnc := hnm.out i hlt
          have i0 : (0 : Int) ≤ (i : Int) := by omega
          have i1 : (i : Int) < (4 : Int) := by omega
          have NFi := Lib.hid (NF.out i hlt)
          have KPi := Lib.hid (KP.out i hlt)
          have hw2 : IntKind.i64.wrap ((i : Int) + 2) = (i : Int) + 2 := wrap64_small (by omega) (by omega)
          have HOWN := Lib.hid hown
          have hgW : g < wr.heap.size := (World.ownsRow.lt hown g rfl).2
          clear hown
          cases hbi : ezB y P R (i + 2)
          · rw [hbi] at KPi
            have HT : Hid (ezT y P R (i + 2 + 1) = ezT y P R (i + 2)) := Lib.hid (ezT_no hbi)
            clear hbi
            go_wp2_with fail
            refine (NFi.out _).mono ?_
            rintro e w6 ⟨rfl, hb6⟩
            obtain ⟨W7, hW7⟩ : ∃ W7, w6.alloc (.cells #[.int .i64 (ezP i).1, .int .i64 (ezP i).2] 113) = W7 := ⟨_, rfl⟩
            have f0 : W7.cell? ⟨w6.heap.size, 0, none⟩ = some (.int .i64 (ezP i).1) := by rw [← hW7]; simp [go_sem]
            have f1 : W7.cell? ⟨w6.heap.size, 1, none⟩ = some (.int .i64 (ezP i).2) := by rw [← hW7]; simp [go_sem]
            have hb7 : Below wr.heap.size wr W7 := by rw [← hW7]; exact bthen hb6 (bnew _ _)
            have z0 := kc hb7 u0
            have z1 := kc hb7 u1
            generalize (ezP i).1 = q1 at KPi f0 hW7
            generalize (ezP i).2 = q2 at KPi f1 hW7
            go_wp2_with fail
            try rw [hW7]
            clear hW7
            refine (KPi.out _).mono ?_
            rintro e w8 ⟨rfl, hb8⟩
            have hb9 := bthen hb7 hb8
            go_wp2
            go_roundw
            case rel => exact ⟨i + 1, by omega, by go_num, by rw [show i + 1 + 2 = i + 2 + 1 by omega, HT.out]; exact owns_below HOWN.out hb9, ⟨kc hb9 u0, kc hb9 u1⟩, Lib.hid fun j hj => kc hb9 (hnm.out j hj), bthen hN hb9⟩
            case measure => simp [intOf]; omega
          · rw [hbi] at KPi
            have HT := Lib.hid hbi
            clear hbi
            go_wp2_with fail
            refine (NFi.out _).mono ?_
            rintro e w6 ⟨rfl, hb6⟩
            obtain ⟨W7, hW7⟩ : ∃ W7, w6.alloc (.cells #[.int .i64 (ezP i).1, .int .i64 (ezP i).2] 113) = W7 := ⟨_, rfl⟩
            have f0 : W7.cell? ⟨w6.heap.size, 0, none⟩ = some (.int .i64 (ezP i).1) := by rw [← hW7]; simp [go_sem]
            have f1 : W7.cell? ⟨w6.heap.size, 1, none⟩ = some (.int .i64 (ezP i).2) := by rw [← hW7]; simp [go_sem]
            have hb7 : Below wr.heap.size wr W7 := by rw [← hW7]; exact bthen hb6 (bnew _ _)
            have z0 := kc hb7 u0
            have z1 := kc hb7 u1
            generalize (ezP i).1 = q1 at KPi f0 hW7
            generalize (ezP i).2 = q2 at KPi f1 hW7
            go_wp2_with fail
            try rw [hW7]
            clear hW7
            refine (KPi.out _).mono ?_
            rintro e w8 ⟨rfl, hb8⟩
            have hb9 := bthen hb7 hb8
            have how := owns_below HOWN.out hb9
            obtain ⟨⟨u, hu⟩, hfz⟩ := ezOwn_cell how (i + 2) (by omega)
            have j0 : (0 : Int) ≤ (i : Int) + 2 := by omega
            have j1 : (i : Int) + 2 < (6 : Int) := by omega
            have hst := (World.ownsRow.stored how (i + 2) (.int .i64 1)).2
            have GG := Lib.hid (And.intro (hst.cell (kc hb9 u0) (by simp; omega)) (hst.cell (kc hb9 u1) (by simp; omega)))
            have GN : Hid (∀ j, j < 4 → (w8.setCell ⟨g, i + 2, none⟩ (.int .i64 1)).cell? ⟨B, j, none⟩ = some (.string (ezS j))) := Lib.hid fun j hj => hst.cell (kc hb9 (hnm.out j hj)) (by simp; omega)
            have GO := Lib.hid (ezOwn_yes how HT.out)
            have hN9 := bthen hN hb9
            clear how hst z0 z1 f0 f1 hnc
            go_wp2
            go_roundw
            case rel => exact ⟨i + 1, by omega, by go_num, by rw [show i + 1 + 2 = i + 2 + 1 by omega]; exact GO.out, GG.out, GN, hN9.setCell (p := ⟨g, i + 2, none⟩) (by show w.heap.size ≤ g; omega) _⟩
            case measure => simp [intOf]; omega
        · obtain rfl : i = 4 := by omega
          have HOWN := Lib.hid hown
          clear hown
          go_wp2
          go_ret
          refine ⟨_, rfl, ?_, hN⟩
          have := (HOWN.out)
          rw [ezT_last] at this
          exact Owns.mono (b1 := g) (by unfold Owns; rw [ezL_len]; exact this) (by omega)

set_option maxRecDepth 100000 in
set_option maxHeartbeats 2000000 in
theorem specEasyRow_no {n b : Int} (h : isR n b = false) (w : World) :
    Calls Try.prog 17 #[.agg #[.int .i64 n, .int .i64 b]] w (ListCodePost w.heap.size [] 1 w) := by
  go_enter Try.func17, Try.ntmps17
  go_wp2_with (go_at_call 55; refine (l06Is_is h _).mono ?_; rintro e w5 ⟨rfl, hb5⟩)
  refine bodyPost_ret (v := .tuple #[.slice none 0 0, .int .i64 1]) (by simp [results, Try.results17, go_sem]) rfl ⟨_, rfl, Owns.nil _ _, bthen (bnew _ _) hb5⟩
set_option maxRecDepth 100000 in
set_option maxHeartbeats 2000000 in
theorem specEasyRow_yes {n : Int} {P y R : Nat} (hn : n = (P : Int)) (okr : ROk n y R) (w : World) :
    Calls Try.prog 17 #[.agg #[.int .i64 n, .int .i64 (y : Int)]] w (ListCodePost w.heap.size (ezL y P R 6) 0 w) := by
  have his := okr.is
  have RW := Lib.hid (fun V => l09Row_any hn okr V)
  clear hn okr
  obtain ⟨W1, hW1⟩ : ∃ W1, w.alloc (.cells #[.int .i64 n, .int .i64 (y : Int)] 38) = W1 := ⟨_, rfl⟩
  have p0 : W1.cell? ⟨w.heap.size, 0, none⟩ = some (.int .i64 n) := by rw [← hW1]; simp [go_sem]
  have p1 : W1.cell? ⟨w.heap.size, 1, none⟩ = some (.int .i64 (y : Int)) := by rw [← hW1]; simp [go_sem]
  have hB : Below w.heap.size w W1 := by rw [← hW1]; exact bnew _ _
  go_enter Try.func17, Try.ntmps17
  go_wp2_with (first
    | (go_at_call 55; refine (l06Is_is his _).mono ?_; rintro e w5 ⟨rfl, hb5⟩; have q0 := kc hb5 p0; have q1 := kc hb5 p1; have hB5 := bthen hB hb5)
    | (go_at_call 56; refine (RW.out _).mono ?_; rintro e w6 ⟨v, rfl, ho, hb6⟩; have hB6 := bthen hB5 hb6; have HO := Lib.hid (ho.mono hB5.size); clear ho))
  go_ret2
  exact ⟨_, rfl, HO.out, hB6⟩

theorem bothEasyRow (n b : Int) : ∃ (ys : List Int) (rc : Int), ys.length ≤ 100000 ∧
    (∀ w, Calls Try.prog 17 #[.agg #[.int .i64 n, .int .i64 b]] w (ListCodePost w.heap.size ys rc w)) ∧
    (∀ w, Calls Try.prog 19 #[.agg #[.int .i64 n, .int .i64 b]] w (ListCodePost w.heap.size ys rc w)) := by
  cases h : isR n b
  · exact ⟨[], 1, by simp, specEasyRow_no h, implEasyRow_no h⟩
  · obtain ⟨x, R, rfl, ok⟩ := rok h
    obtain ⟨P, hP⟩ := Int.eq_ofNat_of_zero_le (show 0 ≤ n by have := ok.h1; omega)
    exact ⟨ezL x P R 6, 0, by rw [ezL_len]; omega, specEasyRow_yes hP ok, implEasyRow_yes hP ok⟩
end Go.Proofs.Ythkmapflbopdpaa

/- H9:
  Lists beside each other: one is marked, the others are as they were. -/
namespace Go.Proofs.Ythkmapflbopdpaa
open Go.RowKit
theorem Owns.ge {W : World} {b : Nat} {s : Value} {xs : List Int} (h : Owns W b s xs) : ∀ k, s.ownBlock = some k → b ≤ k := fun k hk => (World.ownsRow.lt h k hk).1
theorem Owns.keep {W W' : World} {b : Nat} {s : Value} {xs : List Int} {row : Option Nat} (h : Owns W b s xs) (hg : W.grownBy W' row) (hne : ∀ k, s.ownBlock = some k → some k ≠ row) : Owns W' b s xs := by
  refine World.ownsRow.kept h hg ?_
  cases hs : s.ownBlock with
  | none => exact .inl rfl
  | some k => exact .inr (hne k hs)
theorem below_markedF {B : Nat} {W0 W W' : World} {b : Nat} {s : Value} {xs : List (Int × Int)} (hN : Below B W0 W) (h : OwnsF W b s xs) (hg : W.grownBy W' s.ownBlock) (hB : B ≤ b) (hs : B ≤ W.heap.size) : Below B W0 W' :=
  hN.grown hg hs (fun j e => Nat.le_trans hB (h.ge j e))
end Go.Proofs.Ythkmapflbopdpaa

/- FEasyRow:
  The walk of the law on EasyRow: both packages answer alike. -/
namespace Go.Proofs.Ythkmapflbopdpaa
open Go.RowKit
set_option linter.unusedVariables false

set_option maxRecDepth 100000 in
set_option maxHeartbeats 4000000 in
theorem fnExactEasyRow_walk (n0 b0 : Int) (w : World) (_ : (Lit.int .i64 n0).wf = true) (_ : (Lit.int .i64 b0).wf = true) :
    Calls Try.prog 4 #[.agg #[.int .i64 n0, .int .i64 b0]] w fun e w' => e = .returned (.bool true) ∧ Below w.heap.size w w' := by
  obtain ⟨ys, rc, hlen, c1, c2⟩ := bothEasyRow n0 b0
  have C1 := Lib.hid c1
  have C2 := Lib.hid c2
  clear c1 c2
  obtain ⟨W1, hW1⟩ : ∃ W1, (w.alloc (.cells #[.int .i64 n0, .int .i64 b0] 34)) = W1 := ⟨_, rfl⟩
  have p00 : W1.cell? ⟨w.heap.size, 0, none⟩ = some (.int .i64 n0) := by rw [← hW1]; simp [go_sem]
  have p01 : W1.cell? ⟨w.heap.size, 1, none⟩ = some (.int .i64 b0) := by rw [← hW1]; simp [go_sem]
  have hN : Below w.heap.size w W1 := by rw [← hW1]; exact balloc (Below.refl _ _) _
  go_enter Try.func4, Try.ntmps4
  go_wp2_with fail
  clear hW1
  go_wp2_with fail
  refine (toRelation_any n0 b0 _).mono ?_
  rintro e w2 ⟨rfl, hb⟩
  replace hN := bthen hN hb
  have q1_0 := kc hb p00; have q1_1 := kc hb p01
  clear hb p00 p01
  go_wp2_with fail
  have hs_O1 := hN.size
  have lb_O1_0 := Lib.hid (cell_lt q1_0)
  go_wp2_with fail
  refine (C1.out _).mono ?_
  rintro e w3 ⟨s1, rfl, o, hb⟩
  have O1 := Lib.hid o
  clear o
  replace hN := bthen hN hb
  have q2_0 := kc hb q1_0; have q2_1 := kc hb q1_1
  clear hb q1_0 q1_1
  go_wp2_with fail
  refine (toRelation_any n0 b0 _).mono ?_
  rintro e w4 ⟨rfl, hb⟩
  replace hN := bthen hN hb
  have q3_0 := kc hb q2_0; have q3_1 := kc hb q2_1
  replace O1 := Lib.hid (O1.out.below hb)
  clear hb q2_0 q2_1
  go_wp2_with fail
  have lt_O1_O2 := Lib.hid O1.out.lt
  have hs_O2 := hN.size
  have lb_O2_0 := Lib.hid (cell_lt q3_0)
  go_wp2_with fail
  refine (C2.out _).mono ?_
  rintro e w5 ⟨s2, rfl, o, hb⟩
  have O2 := Lib.hid o
  clear o
  replace hN := bthen hN hb
  have q4_0 := kc hb q3_0; have q4_1 := kc hb q3_1
  replace O1 := Lib.hid (O1.out.below hb)
  clear hb q3_0 q3_1
  go_wp2_with fail
  refine (eqInt64S_same (by omega) _ O2.out O1.out).mono ?_
  rintro e w6 ⟨rfl, hb⟩
  replace hN := bthen hN hb
  have q5_0 := kc hb q4_0; have q5_1 := kc hb q4_1
  replace O1 := Lib.hid (O1.out.below hb)
  replace O2 := Lib.hid (O2.out.below hb)
  clear hb q4_0 q4_1
  have hbx := hN
  go_wp2_with fail
  refine (mark_any (by omega) 1 (by omega) (by omega) _ O2.out).mono ?_
  rintro e w7 ⟨rfl, o, hg⟩
  replace hN := below_marked hN O2.out hg hs_O2 hN.size
  replace O1 := Lib.hid (O1.out.keep hg fun k hk he => by have h1 := lt_O1_O2.out k hk; have h2 := O2.out.ge k he.symm; omega)
  have q6_0 := hg.cell q5_0 (by intro he; have h2 := O2.out.ge _ he.symm; have h3 := lb_O2_0.out; simp only [] at h2 h3; omega); have q6_1 := hg.cell q5_1 (by intro he; have h2 := O2.out.ge _ he.symm; have h3 := lb_O2_0.out; simp only [] at h2 h3; omega)
  clear q5_0 q5_1
  replace O2 := Lib.hid o
  clear o hg
  go_wp2_with fail
  refine (held_any (by omega) 1 (by omega) (by omega) _ O2.out).mono ?_
  rintro e w8 ⟨rfl, rfl⟩
  go_wp2_with fail
  refine (toRelation_any n0 b0 _).mono ?_
  rintro e w9 ⟨rfl, hb⟩
  replace hN := bthen hN hb
  have q7_0 := kc hb q6_0; have q7_1 := kc hb q6_1
  replace O1 := Lib.hid (O1.out.below hb)
  replace O2 := Lib.hid (O2.out.below hb)
  clear hb q6_0 q6_1
  go_wp2_with fail
  have lt_O1_O3 := Lib.hid O1.out.lt
  have lt_O2_O3 := Lib.hid O2.out.lt
  have hs_O3 := hN.size
  have lb_O3_0 := Lib.hid (cell_lt q7_0)
  go_wp2_with fail
  refine (C2.out _).mono ?_
  rintro e w10 ⟨s3, rfl, o, hb⟩
  have O3 := Lib.hid o
  clear o
  replace hN := bthen hN hb
  have q8_0 := kc hb q7_0; have q8_1 := kc hb q7_1
  replace O1 := Lib.hid (O1.out.below hb)
  replace O2 := Lib.hid (O2.out.below hb)
  clear hb q7_0 q7_1
  go_wp2_with fail
  refine (eqInt64S_same (by omega) _ O3.out O1.out).mono ?_
  rintro e w11 ⟨rfl, hb⟩
  replace hN := bthen hN hb
  have q9_0 := kc hb q8_0; have q9_1 := kc hb q8_1
  replace O1 := Lib.hid (O1.out.below hb)
  replace O2 := Lib.hid (O2.out.below hb)
  replace O3 := Lib.hid (O3.out.below hb)
  clear hb q8_0 q8_1
  clear O3
  go_wp2_with fail
  refine (held_any (by omega) 1 (by omega) (by omega) _ O2.out).mono ?_
  rintro e w12 ⟨rfl, rfl⟩
  go_wp2
  go_ret
  exact ⟨rfl, hN⟩
end Go.Proofs.Ythkmapflbopdpaa
