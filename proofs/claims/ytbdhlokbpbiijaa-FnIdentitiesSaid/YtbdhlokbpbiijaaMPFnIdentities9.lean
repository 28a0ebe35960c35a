/-
  The texts YD, DI1, YE, DI2, FI0, FI1, FI2, FI3, FI4, FFnIdentities in one.
-/
import Derived.Test.YtbdhlokbpbiijaaMPFnIdentities8
import Derived.Deep.DeepCutAuto
import Derived.Deep.QuietTactic

/- YD:
  Draws of chapter 2: a function that often is in a class. -/
namespace Go.Proofs.Ytbdhlokbpbiijaa
open Go.RowKit
set_option linter.unusedVariables false
set_option linter.unusedSimpArgs false

set_option maxRecDepth 100000 in
set_option maxHeartbeats 64000000 in
theorem drawIn_ok {b : Nat} {a : Option Addr} {len cap : Nat} (w : World) (S : SrcOk b a len cap w) :
    Calls Try.prog 134 #[.pointer (some ⟨b, 0, none⟩)] w (AnyPost b a len cap w) := by
  have S0 := Lib.hid S
  have D1 := Lib.hid (DD.new (T := 25) S)
  obtain ⟨W1, hW1⟩ : ∃ W1, w.alloc (.cells #[.int .i64 0, .int .i64 0] 25) = W1 := ⟨_, rfl⟩
  rw [hW1] at D1
  obtain ⟨W2, hW2⟩ : ∃ W2, W1.alloc (.cells #[.int .i64 0, .int .i64 1, .int .i64 2, .int .i64 2, .int .i64 3, .int .i64 3, .int .i64 4] 2) = W2 := ⟨_, rfl⟩
  have D2 := Lib.hid (show DD b a len cap w W2 by rw [← hW2]; exact D1.out.below (bnew _ _))
  have hne : ¬ W1.heap.size = b := by have := D1.out.S.lt; omega
  have hc := Lib.hid (show ∀ j, j < 7 → W2.cell? ⟨W1.heap.size, j, none⟩ = some (.int .i64 (([0, 1, 2, 2, 3, 3, 4] : List Int).getD j 0)) by
    intro j hj
    rw [← hW2]
    have : j = 0 ∨ j = 1 ∨ j = 2 ∨ j = 3 ∨ j = 4 ∨ j = 5 ∨ j = 6 := by omega
    rcases this with rfl | rfl | rfl | rfl | rfl | rfl | rfl <;> simp [go_sem])
  have PK := Lib.hid (pick_ok 7 7 (by decide) (by decide) W1.heap.size (fun j => ([0, 1, 2, 2, 3, 3, 4] : List Int).getD j 0) W2 D2.out.S hne hc)
  clear hc S D1
  go_enter Try.func134, Try.ntmps134
  go_wp2_with fail
  refine PK.out.mono ?_
  rintro e w3 ⟨i, hi, rfl, S3, hg3⟩
  have D3 := Lib.hid (D2.out.next S3 hg3)
  have hv : 0 ≤ (([0, 1, 2, 2, 3, 3, 4] : List Int).getD i 0) ∧ (([0, 1, 2, 2, 3, 3, 4] : List Int).getD i 0) ≤ 4 := by
    have : i = 0 ∨ i = 1 ∨ i = 2 ∨ i = 3 ∨ i = 4 ∨ i = 5 ∨ i = 6 := by omega
    rcases this with rfl | rfl | rfl | rfl | rfl | rfl | rfl <;> decide
  dsimp only
  generalize (([0, 1, 2, 2, 3, 3, 4] : List Int).getD i 0) = n at hv
  obtain ⟨h0, h4⟩ := hv
  obtain ⟨r0, r16, hR, hb⟩ := rows_two h0 h4
  have OF := Lib.hid (fun (x : Nat) (hx : x < 2 ^ 2 ^ n.toNat) => FOk.of h0 h4 hx)
  have DO := Lib.hid (drawOf_ok h0 h4 r0 r16 (Lib.hid hR) rfl w3 S3)
  generalize 2 ^ n.toNat = R at r0 r16 hR hb DO OF
  have RW := Lib.hid (fun w => l01Rows_is h0 h4 (Lib.hid hR) w)
  clear S3 hg3 PK hW1 hW2 hR hb D2 hi hne
  go_wp2_with fail
  refine DO.out.mono ?_
  rintro e w4 ⟨x, rfl, hx, S4, hg4⟩
  have D4 := Lib.hid (D3.out.next S4 hg4)
  have OK := Lib.hid (OF.out x hx)
  have hx16 := big_bits hx r16
  obtain ⟨W5, hW5⟩ : ∃ W5, w4.alloc (.cells #[.int .i64 n, .int .i64 (x : Int)] 25) = W5 := ⟨_, rfl⟩
  have D5 := Lib.hid (show DD b a len cap w W5 by rw [← hW5]; exact D4.out.below (bnew _ _))
  have o0 : W5.cell? ⟨w4.heap.size, 0, none⟩ = some (.int .i64 n) := by rw [← hW5]; simp [go_sem]
  have o1 : W5.cell? ⟨w4.heap.size, 1, none⟩ = some (.int .i64 (x : Int)) := by rw [← hW5]; simp [go_sem]
  have hob : ¬ w4.heap.size = b := by have := D4.out.S.lt; omega
  have S5 := Lib.hid D5.out.S
  clear S4 hg4 DO D3 D4 hx OF
  go_wp2_with fail
  clear hW5
  refine (next_ok 6 (by omega) (by omega) _ S5.out).mono ?_
  rintro e w6 ⟨k, rfl, k0, k1, S6', hg6⟩
  have D6 := Lib.hid (D5.out.next S6' hg6)
  have S6 := Lib.hid S6'
  have p0 := kcg hg6 hob o0
  have p1 := kcg hg6 hob o1
  clear S6' hg6 D5 S5 o0 o1
  rcases six k0 k1 with rfl | rfl | rfl | rfl | rfl | rfl
  · go_wp2_with fail
    refine (spoil_ok _ S6.out).mono ?_
    rintro e w7 ⟨n', x', rfl, hn, hx', S7, hg7⟩
    have DX := D6.out.next S7 hg7
    clear S7 hg7
    have d0 := DX.c0
    have d1 := DX.c1
    have g0 := DX.f0
    have g1 := DX.f1
    go_wp2_with fail
    exact bodyPost_ret (v := .agg #[.int .i64 n', .int .i64 x']) (by simp [results, Try.results134, go_sem, d0, d1]) rfl ⟨_, _, rfl, hn, hx', (DX.done S0.out _ _).1, (DX.done S0.out _ _).2⟩
  · go_wp2_with fail
    refine (next_ok 32 (by omega) (by omega) _ S6.out).mono ?_
    rintro e w7 ⟨A', rfl, A0, A1, S7, hg7⟩
    obtain ⟨A, rfl⟩ := Int.eq_ofNat_of_zero_le A0
    have D7 := Lib.hid (D6.out.next S7 hg7)
    clear S7 hg7 D6 S6 p0 p1
    go_wp2_with fail
    go_loopw [5, 7] (fun B I wr => wr = w7 ∧ ∃ (y i : Nat), B = .int .i64 y ∧ I = .int .i64 i ∧ i ≤ R ∧ y < 2 ^ i) (fun _ I _ => R - (intOf I).toNat)
    case atStart => exact ⟨rfl, 0, 0, rfl, rfl, by omega, by decide⟩
    case round =>
      obtain ⟨hw, y, i, rfl, rfl, hi, hy⟩ := hrel
      subst hw
      by_cases hlt : i < R
      · go_wp2_with (go_at_call 116; refine (RW.out _).mono ?_; rintro e w' ⟨rfl, rfl⟩)
        go_loopw [8, 9] (fun Sm V wr' => wr' = wr ∧ ∃ (s v : Nat), Sm = .int .i64 s ∧ V = .int .i64 v ∧ (v : Int) ≤ n ∧ s ≤ 31 * (v + 1)) (fun _ V _ => n.toNat - (intOf V).toNat)
        case atStart => exact ⟨rfl, A, 0, rfl, rfl, by omega, by omega⟩
        case round =>
          obtain ⟨hw, s, v, rfl, rfl, hvn, hs⟩ := hrel
          subst hw
          by_cases hv : (v : Int) < n
          · have e1 := digit_eq i v (by omega)
            obtain ⟨z, hz⟩ : ∃ z : Nat, (A : Int) / 2 ^ (v + 1) = (z : Int) := ⟨A / 2 ^ (v + 1), by push_cast; rfl⟩
            have hzA : z ≤ 31 := by
              have : A / 2 ^ (v + 1) ≤ A := Nat.div_le_self _ _
              have h2 : ((A / 2 ^ (v + 1) : Nat) : Int) = (z : Int) := by rw [← hz]; push_cast; rfl
              omega
            rcases bit01' i v with hb | hb
            · rw [hb] at e1
              go_wp2
              go_roundw
              case rel => exact ⟨by first | exact True.intro | rfl, s, v + 1, rfl, by go_num, by omega, by omega⟩
              case measure => simp [intOf]; omega
            · rw [hb] at e1
              go_wp2
              go_roundw
              case rel => exact ⟨by first | exact True.intro | rfl, s + z, v + 1, by go_num, by go_num, by omega, by omega⟩
              case measure => simp [intOf]; omega
          · have e1 := bits_and_one s (by omega)
            have hm : s % 2 ≤ 1 := by omega
            generalize s % 2 = m at e1 hm
            obtain ⟨e2, e3⟩ := or_next y m i hy hm (by omega)
            rw [← w64] at e2
            generalize y ||| m <<< i = y2 at e2 e3
            go_wp2
            go_roundw
            case rel => exact ⟨by first | exact True.intro | rfl, y2, i + 1, rfl, by go_num, by omega, e3⟩
            case measure => simp [intOf]; omega
      · obtain rfl : i = R := by omega
        have hyb := big_bits hy r16
        have d0 := D7.out.c0
        have d1 := D7.out.c1
        have g0 := D7.out.f0
        have g1 := D7.out.f1
        go_wp2_with (go_at_call 116; refine (RW.out _).mono ?_; rintro e w' ⟨rfl, rfl⟩)
        exact bodyPost_ret (v := .agg #[.int .i64 n, .int .i64 (y : Int)]) (by simp [results, Try.results134, go_sem, d0, d1]) rfl ⟨_, _, rfl, by omega, by omega, (D7.out.done S0.out _ _).1, (D7.out.done S0.out _ _).2⟩
  · go_wp2_with fail
    refine (next_ok (n + 2) (by omega) (by omega) _ S6.out).mono ?_
    rintro e w7 ⟨A', rfl, A0, A1, S7, hg7⟩
    obtain ⟨A, rfl⟩ := Int.eq_ofNat_of_zero_le A0
    have D7 := Lib.hid (D6.out.next S7 hg7)
    clear S7 hg7 D6 S6 p0 p1
    go_wp2_with fail
    go_loopw [10, 12] (fun B I wr => wr = w7 ∧ ∃ (y i : Nat), B = .int .i64 y ∧ I = .int .i64 i ∧ i ≤ R ∧ y < 2 ^ i) (fun _ I _ => R - (intOf I).toNat)
    case atStart => exact ⟨rfl, 0, 0, rfl, rfl, by omega, by decide⟩
    case round =>
      obtain ⟨hw, y, i, rfl, rfl, hi, hy⟩ := hrel
      subst hw
      by_cases hlt : i < R
      · go_wp2_with (go_at_call 116; refine (RW.out _).mono ?_; rintro e w' ⟨rfl, rfl⟩)
        go_loopw [13, 14] (fun Sm V wr' => wr' = wr ∧ ∃ (s v : Nat), Sm = .int .i64 s ∧ V = .int .i64 v ∧ (v : Int) ≤ n ∧ s ≤ v) (fun _ V _ => n.toNat - (intOf V).toNat)
        case atStart => exact ⟨rfl, 0, 0, rfl, rfl, by omega, by omega⟩
        case round =>
          obtain ⟨hw, s, v, rfl, rfl, hvn, hs⟩ := hrel
          subst hw
          by_cases hv : (v : Int) < n
          · have e1 := digit_eq i v (by omega)
            have hb := bitN_le i v
            generalize bitN i v = z at e1 hb
            go_wp2
            go_roundw
            case rel => exact ⟨by first | exact True.intro | rfl, s + z, v + 1, by go_num, by go_num, by omega, by omega⟩
            case measure => simp [intOf]; omega
          · by_cases hge : A ≤ s
            · have q : decide ((A : Int) ≤ (s : Int)) = true := by simp; omega
              obtain ⟨e2, e3⟩ := or_one y i hy (by omega)
              generalize y ||| 1 <<< i = y2 at e2 e3
              go_wp2
              go_roundw
              case rel => exact ⟨by first | exact True.intro | rfl, y2, i + 1, rfl, by go_num, by omega, e3⟩
              case measure => simp [intOf]; omega
            · have q : decide ((A : Int) ≤ (s : Int)) = false := by simp; omega
              go_wp2
              go_roundw
              case rel => exact ⟨by first | exact True.intro | rfl, y, i + 1, rfl, by go_num, by omega, keep_next y i hy⟩
              case measure => simp [intOf]; omega
      · obtain rfl : i = R := by omega
        have hyb := big_bits hy r16
        have d0 := D7.out.c0
        have d1 := D7.out.c1
        have g0 := D7.out.f0
        have g1 := D7.out.f1
        go_wp2_with (go_at_call 116; refine (RW.out _).mono ?_; rintro e w' ⟨rfl, rfl⟩)
        exact bodyPost_ret (v := .agg #[.int .i64 n, .int .i64 (y : Int)]) (by simp [results, Try.results134, go_sem, d0, d1]) rfl ⟨_, _, rfl, by omega, by omega, (D7.out.done S0.out _ _).1, (D7.out.done S0.out _ _).2⟩
  · have o0 := cell_lt p0
    have AC := Lib.hid (fun (i : Int) (h0 : 0 ≤ i) (h1 : i < 62) (w : World) => l01At_intI OK.out i h0 h1 w)
    go_wp2_with fail
    go_loopw [15, 16] (fun B I wr => Below w6.heap.size w6 wr ∧ ∃ (y i : Nat), B = .int .i64 y ∧ I = .int .i64 i ∧ i ≤ R ∧ y < 2 ^ i) (fun _ I _ => R - (intOf I).toNat)
    case atStart => exact ⟨Below.refl _ _, 0, 0, rfl, rfl, by omega, by decide⟩
    case round =>
      obtain ⟨hB, y, i, rfl, rfl, hi, hy⟩ := hrel
      have HB := Lib.hid hB
      have q0 := kc hB p0
      have q1 := kc hB p1
      clear hB
      by_cases hlt : i < R
      · obtain ⟨e2, e3⟩ := or_one y i hy (by omega)
        have e4 := keep_next y i hy
        generalize y ||| 1 <<< i = y2 at e2 e3
        by_cases h1 : (i : Int) < (R : Int) - 1 - (i : Int)
        · have c1 : decide ((i : Int) < (R : Int) - 1 - (i : Int)) = true := by simpa using h1
          have c2 : decide ((R : Int) - 1 - (i : Int) < (i : Int)) = false := by simp; omega
          rcases bit01' x i with hb | hb
          · have cb : ((bitN x i : Int) == 1) = false := by rw [hb]; rfl
            go_wp2_with (first | (go_at_call 116; refine (RW.out _).mono ?_; rintro e w' ⟨rfl, rfl⟩) | (go_at_call 115; refine (AC.out _ (by omega) (by omega) _).mono ?_; rintro e w8 ⟨rfl, hb8⟩))
            go_roundw
            case rel => exact ⟨by first | exact HB.out | exact bthen HB.out (by assumption), y, i + 1, rfl, by go_num, by omega, e4⟩
            case measure => simp [intOf]; omega
          · have cb : ((bitN x i : Int) == 1) = true := by rw [hb]; rfl
            go_wp2_with (first | (go_at_call 116; refine (RW.out _).mono ?_; rintro e w' ⟨rfl, rfl⟩) | (go_at_call 115; refine (AC.out _ (by omega) (by omega) _).mono ?_; rintro e w8 ⟨rfl, hb8⟩))
            go_roundw
            case rel => exact ⟨by first | exact HB.out | exact bthen HB.out (by assumption), y2, i + 1, rfl, by go_num, by omega, e3⟩
            case measure => simp [intOf]; omega
        · have c1 : decide ((i : Int) < (R : Int) - 1 - (i : Int)) = false := by simp; omega
          by_cases h2 : (R : Int) - 1 - (i : Int) < (i : Int)
          · have c2 : decide ((R : Int) - 1 - (i : Int) < (i : Int)) = true := by simpa using h2
            obtain ⟨j, hj⟩ : ∃ j : Nat, (R : Int) - 1 - (i : Int) = (j : Int) := ⟨R - 1 - i, by omega⟩
            rw [hj] at c1 c2
            rcases bit01' x j with hb | hb
            · have cb : ((bitN x j : Int) == 0) = true := by rw [hb]; rfl
              go_wp2_with (first | (go_at_call 116; refine (RW.out _).mono ?_; rintro e w' ⟨rfl, rfl⟩) | (go_at_call 115; refine (AC.out _ (by omega) (by omega) _).mono ?_; rintro e w8 ⟨rfl, hb8⟩))
              go_roundw
              case rel => exact ⟨by first | exact HB.out | exact bthen HB.out (by assumption), y2, i + 1, rfl, by go_num, by omega, e3⟩
              case measure => simp [intOf]; omega
            · have cb : ((bitN x j : Int) == 0) = false := by rw [hb]; rfl
              go_wp2_with (first | (go_at_call 116; refine (RW.out _).mono ?_; rintro e w' ⟨rfl, rfl⟩) | (go_at_call 115; refine (AC.out _ (by omega) (by omega) _).mono ?_; rintro e w8 ⟨rfl, hb8⟩))
              go_roundw
              case rel => exact ⟨by first | exact HB.out | exact bthen HB.out (by assumption), y, i + 1, rfl, by go_num, by omega, e4⟩
              case measure => simp [intOf]; omega
          · have c2 : decide ((R : Int) - 1 - (i : Int) < (i : Int)) = false := by simp; omega
            go_wp2_with (go_at_call 116; refine (RW.out _).mono ?_; rintro e w' ⟨rfl, rfl⟩)
            go_roundw
            case rel => exact ⟨by first | exact HB.out | exact bthen HB.out (by assumption), y, i + 1, rfl, by go_num, by omega, e4⟩
            case measure => simp [intOf]; omega
      · obtain rfl : i = R := by omega
        have hyb := big_bits hy r16
        have DX := D6.out.below HB.out
        have d0 := DX.c0
        have d1 := DX.c1
        have g0 := DX.f0
        have g1 := DX.f1
        go_wp2_with (go_at_call 116; refine (RW.out _).mono ?_; rintro e w' ⟨rfl, rfl⟩)
        exact bodyPost_ret (v := .agg #[.int .i64 n, .int .i64 (y : Int)]) (by simp [results, Try.results134, go_sem, d0, d1]) rfl ⟨_, _, rfl, by omega, by omega, (DX.done S0.out _ _).1, (DX.done S0.out _ _).2⟩
  · have DX := D6.out
    have d0 := DX.c0
    have d1 := DX.c1
    have g0 := DX.f0
    have g1 := DX.f1
    go_wp2_with fail
    exact bodyPost_ret (v := .agg #[.int .i64 n, .int .i64 (x : Int)]) (by simp [results, Try.results134, go_sem, d0, d1]) rfl ⟨_, _, rfl, by omega, by omega, (DX.done S0.out _ _).1, (DX.done S0.out _ _).2⟩
  · have DX := D6.out
    have d0 := DX.c0
    have d1 := DX.c1
    have g0 := DX.f0
    have g1 := DX.f1
    go_wp2_with fail
    exact bodyPost_ret (v := .agg #[.int .i64 n, .int .i64 (x : Int)]) (by simp [results, Try.results134, go_sem, d0, d1]) rfl ⟨_, _, rfl, by omega, by omega, (DX.done S0.out _ _).1, (DX.done S0.out _ _).2⟩
end Go.Proofs.Ytbdhlokbpbiijaa

/- DI1:
  Draws of chapter 10: a function that often has one of the identities. -/
namespace Go.Proofs.Ytbdhlokbpbiijaa
open Go.RowKit
set_option linter.unusedVariables false
set_option linter.unusedSimpArgs false

set_option maxRecDepth 100000 in
set_option maxHeartbeats 64000000 in
theorem draw10_ok {b : Nat} {a : Option Addr} {len cap : Nat} (w : World) (S : SrcOk b a len cap w) :
    Calls Try.prog 142 #[.pointer (some ⟨b, 0, none⟩)] w (AnyPost b a len cap w) := by
  have S0 := Lib.hid S
  have D1 := Lib.hid (DD.new (T := 25) S)
  obtain ⟨W1, hW1⟩ : ∃ W1, w.alloc (.cells #[.int .i64 0, .int .i64 0] 25) = W1 := ⟨_, rfl⟩
  rw [hW1] at D1
  have S1 := Lib.hid D1.out.S
  clear S
  go_enter Try.func142, Try.ntmps142
  go_wp2_with fail
  refine (next_ok 4 (by omega) (by omega) _ S1.out).mono ?_
  rintro e w2 ⟨k, rfl, k0, k1, S2', hg2⟩
  have D2 := Lib.hid (D1.out.next S2' hg2)
  have S2 := Lib.hid S2'
  clear S2' hg2 D1 S1 hW1
  rcases (show k = 0 ∨ k = 1 ∨ (k ≠ 0 ∧ k ≠ 1) by omega) with rfl | rfl | ⟨hk0, hk1⟩
  · -- one of six
    obtain ⟨W3, hW3⟩ : ∃ W3, w2.alloc (.cells #[.int .i64 3, .int .i64 232, .int .i64 3, .int .i64 150, .int .i64 3, .int .i64 178, .int .i64 2, .int .i64 8, .int .i64 2, .int .i64 14, .int .i64 3, .int .i64 128] 25) = W3 := ⟨_, rfl⟩
    have D3 := Lib.hid (show DD b a len cap w W3 by rw [← hW3]; exact D2.out.below (bnew _ _))
    have hob : ¬ w2.heap.size = b := by have := S2.out.lt; omega
    have S3 := Lib.hid D3.out.S
    have c0 : W3.cell? ⟨w2.heap.size, 0, none⟩ = some (.int .i64 3) := by rw [← hW3]; simp [go_sem]
    have c1 : W3.cell? ⟨w2.heap.size, 1, none⟩ = some (.int .i64 232) := by rw [← hW3]; simp [go_sem]
    have c2 : W3.cell? ⟨w2.heap.size, 2, none⟩ = some (.int .i64 3) := by rw [← hW3]; simp [go_sem]
    have c3 : W3.cell? ⟨w2.heap.size, 3, none⟩ = some (.int .i64 150) := by rw [← hW3]; simp [go_sem]
    have c4 : W3.cell? ⟨w2.heap.size, 4, none⟩ = some (.int .i64 3) := by rw [← hW3]; simp [go_sem]
    have c5 : W3.cell? ⟨w2.heap.size, 5, none⟩ = some (.int .i64 178) := by rw [← hW3]; simp [go_sem]
    have c6 : W3.cell? ⟨w2.heap.size, 6, none⟩ = some (.int .i64 2) := by rw [← hW3]; simp [go_sem]
    have c7 : W3.cell? ⟨w2.heap.size, 7, none⟩ = some (.int .i64 8) := by rw [← hW3]; simp [go_sem]
    have c8 : W3.cell? ⟨w2.heap.size, 8, none⟩ = some (.int .i64 2) := by rw [← hW3]; simp [go_sem]
    have c9 : W3.cell? ⟨w2.heap.size, 9, none⟩ = some (.int .i64 14) := by rw [← hW3]; simp [go_sem]
    have c10 : W3.cell? ⟨w2.heap.size, 10, none⟩ = some (.int .i64 3) := by rw [← hW3]; simp [go_sem]
    have c11 : W3.cell? ⟨w2.heap.size, 11, none⟩ = some (.int .i64 128) := by rw [← hW3]; simp [go_sem]
    go_wp2_with fail
    refine (next_ok 6 (by omega) (by omega) _ S3.out).mono ?_
    rintro e w4 ⟨q, rfl, q0, q1, S4, hg4⟩
    have D4 := Lib.hid (D3.out.next S4 hg4)
    clear hW3
    have x0 := kcg hg4 hob c0
    have x1 := kcg hg4 hob c1
    have x2 := kcg hg4 hob c2
    have x3 := kcg hg4 hob c3
    have x4 := kcg hg4 hob c4
    have x5 := kcg hg4 hob c5
    have x6 := kcg hg4 hob c6
    have x7 := kcg hg4 hob c7
    have x8 := kcg hg4 hob c8
    have x9 := kcg hg4 hob c9
    have x10 := kcg hg4 hob c10
    have x11 := kcg hg4 hob c11
    have d0 := D4.out.c0
    have d1 := D4.out.c1
    have g0 := D4.out.f0
    have g1 := D4.out.f1
    clear c0 c1 c2 c3 c4 c5 c6 c7 c8 c9 c10 c11 S4 hg4 D3 S3
    have fin : ∀ (n' x' : Int), -1 ≤ n' ∧ n' ≤ 1099511627776 → -1 ≤ x' ∧ x' ≤ 1099511627776 → AnyPost b a len cap w (.returned (.agg #[.int .i64 n', .int .i64 x'])) ((w4.setCell ⟨w.heap.size, 0, none⟩ (.int .i64 n')).setCell ⟨w.heap.size, 1, none⟩ (.int .i64 x')) := fun n' x' h1 h2 => ⟨_, _, rfl, h1, h2, (D4.out.done S0.out _ _).1, (D4.out.done S0.out _ _).2⟩
    have FIN := Lib.hid fin
    clear fin
    rcases (show q = 0 ∨ q = 1 ∨ q = 2 ∨ q = 3 ∨ q = 4 ∨ q = 5 by omega) with rfl | rfl | rfl | rfl | rfl | rfl
    · go_wp2_with fail
      exact bodyPost_ret (v := .agg #[.int .i64 3, .int .i64 232]) (by simp [results, Try.results142, go_sem, d0, d1]) rfl (FIN.out 3 232 (by omega) (by omega))
    · go_wp2_with fail
      exact bodyPost_ret (v := .agg #[.int .i64 3, .int .i64 150]) (by simp [results, Try.results142, go_sem, d0, d1]) rfl (FIN.out 3 150 (by omega) (by omega))
    · go_wp2_with fail
      exact bodyPost_ret (v := .agg #[.int .i64 3, .int .i64 178]) (by simp [results, Try.results142, go_sem, d0, d1]) rfl (FIN.out 3 178 (by omega) (by omega))
    · go_wp2_with fail
      exact bodyPost_ret (v := .agg #[.int .i64 2, .int .i64 8]) (by simp [results, Try.results142, go_sem, d0, d1]) rfl (FIN.out 2 8 (by omega) (by omega))
    · go_wp2_with fail
      exact bodyPost_ret (v := .agg #[.int .i64 2, .int .i64 14]) (by simp [results, Try.results142, go_sem, d0, d1]) rfl (FIN.out 2 14 (by omega) (by omega))
    · go_wp2_with fail
      exact bodyPost_ret (v := .agg #[.int .i64 3, .int .i64 128]) (by simp [results, Try.results142, go_sem, d0, d1]) rfl (FIN.out 3 128 (by omega) (by omega))
  · -- by weights
    obtain ⟨W3, hW3⟩ : ∃ W3, w2.alloc (.cells #[.int .i64 1, .int .i64 2, .int .i64 3, .int .i64 4] 2) = W3 := ⟨_, rfl⟩
    have D3 := Lib.hid (show DD b a len cap w W3 by rw [← hW3]; exact D2.out.below (bnew _ _))
    have hob : ¬ w2.heap.size = b := by have := S2.out.lt; omega
    have hc := Lib.hid (show ∀ j, j < 4 → W3.cell? ⟨w2.heap.size, j, none⟩ = some (.int .i64 (([1, 2, 3, 4] : List Int).getD j 0)) by
      intro j hj
      rw [← hW3]
      have : j = 0 ∨ j = 1 ∨ j = 2 ∨ j = 3 := by omega
      rcases this with rfl | rfl | rfl | rfl <;> simp [go_sem])
    have PK := Lib.hid (pick_ok 4 4 (by decide) (by decide) w2.heap.size (fun j => ([1, 2, 3, 4] : List Int).getD j 0) W3 D3.out.S hob hc)
    clear hc D2 S2
    go_wp2_with fail
    refine PK.out.mono ?_
    rintro e w4 ⟨i, hi, rfl, S4', hg4⟩
    have D4 := Lib.hid (D3.out.next S4' hg4)
    have S4 := Lib.hid S4'
    have hv : 0 ≤ (([1, 2, 3, 4] : List Int).getD i 0) ∧ (([1, 2, 3, 4] : List Int).getD i 0) ≤ 4 := by
      have : i = 0 ∨ i = 1 ∨ i = 2 ∨ i = 3 := by omega
      rcases this with rfl | rfl | rfl | rfl <;> decide
    dsimp only
    generalize (([1, 2, 3, 4] : List Int).getD i 0) = n at hv
    obtain ⟨h0, h4⟩ := hv
    obtain ⟨r0, r16, hR, hb⟩ := rows_two h0 h4
    generalize 2 ^ n.toNat = R at r0 r16 hR hb
    have RW := Lib.hid (fun w => l01Rows_is h0 h4 (Lib.hid hR) w)
    clear S4' hg4 PK hW3 hR hb D3 hi
    go_wp2_with fail
    refine (next_ok 32 (by omega) (by omega) _ S4.out).mono ?_
    rintro e w7 ⟨A', rfl, A0, A1, S7, hg7⟩
    obtain ⟨A, rfl⟩ := Int.eq_ofNat_of_zero_le A0
    have D7 := Lib.hid (D4.out.next S7 hg7)
    clear S7 hg7 D4 S4
    go_wp2_with fail
    go_loopw [5, 6] (fun B I wr => wr = w7 ∧ ∃ (y i : Nat), B = .int .i64 y ∧ I = .int .i64 i ∧ i ≤ R ∧ y < 2 ^ i) (fun _ I _ => R - (intOf I).toNat)
    case atStart => exact ⟨rfl, 0, 0, rfl, rfl, by omega, by decide⟩
    case round =>
      obtain ⟨hw, y, i, rfl, rfl, hi, hy⟩ := hrel
      subst hw
      by_cases hlt : i < R
      · have WT := Lib.hid (fun W => l10Weight_any i (by omega) W)
        have hz := sizeN_le i
        generalize sizeN i = z at WT hz
        have e1 := digit_eq A z (by omega)
        have hbl := bitN_le A z
        have hu : IntKind.u64.wrap (z : Int) = (z : Int) := by simp [IntKind.wrap, IntKind.bits, IntKind.signed]; omega
        have hui : IntKind.u64.wrap (i : Int) = (i : Int) := by simp [IntKind.wrap, IntKind.bits, IntKind.signed]; omega
        generalize bitN A z = m at e1 hbl
        obtain ⟨e2, e3⟩ := or_next y m i hy hbl (by omega)
        rw [← w64] at e2
        generalize y ||| m <<< i = y2 at e2 e3
        go_wp2_with (first
          | (go_at_call 116; refine (RW.out _).mono ?_; rintro e w' ⟨rfl, rfl⟩)
          | (go_at_call 196; refine (WT.out _).mono ?_; rintro e w' ⟨rfl, rfl⟩))
        go_roundw
        case rel => exact ⟨by first | exact True.intro | rfl, y2, i + 1, rfl, by go_num, by omega, e3⟩
        case measure => simp [intOf]; omega
      · obtain rfl : i = R := by omega
        have hyb := big_bits hy r16
        have d0 := D7.out.c0
        have d1 := D7.out.c1
        have g0 := D7.out.f0
        have g1 := D7.out.f1
        go_wp2_with (go_at_call 116; refine (RW.out _).mono ?_; rintro e w' ⟨rfl, rfl⟩)
        exact bodyPost_ret (v := .agg #[.int .i64 n, .int .i64 (y : Int)]) (by simp [results, Try.results142, go_sem, d0, d1]) rfl ⟨_, _, rfl, by omega, by omega, (D7.out.done S0.out _ _).1, (D7.out.done S0.out _ _).2⟩
  · -- chapter 2's
    have hk0' : (k == 0) = false := by simpa using hk0
    have hk1' : (k == 1) = false := by simpa using hk1
    clear hk0 hk1
    go_wp2_with fail
    refine (drawIn_ok _ S2.out).mono ?_
    rintro e w7 ⟨n', x', rfl, hn, hx', S7, hg7⟩
    have DX := D2.out.next S7 hg7
    clear S7 hg7
    have d0 := DX.c0
    have d1 := DX.c1
    have g0 := DX.f0
    have g1 := DX.f1
    go_wp2_with fail
    exact bodyPost_ret (v := .agg #[.int .i64 n', .int .i64 x']) (by simp [results, Try.results142, go_sem, d0, d1]) rfl ⟨_, _, rfl, hn, hx', (DX.done S0.out _ _).1, (DX.done S0.out _ _).2⟩
end Go.Proofs.Ytbdhlokbpbiijaa

/- YE:
  Draws of chapter 2 from a code. -/
namespace Go.Proofs.Ytbdhlokbpbiijaa
open Go.RowKit
set_option linter.unusedVariables false
set_option linter.unusedSimpArgs false

/-- What a draw of a number from a code hands out. -/
def NumB (w : World) (e : Ending) (w' : World) : Prop := ∃ n : Int, e = .returned (.int .i64 n) ∧ Num n ∧ Below w.heap.size w w'
/-- .. of two numbers. -/
def Num2B (w : World) (e : Ending) (w' : World) : Prop := ∃ n k : Int, e = .returned (.tuple #[.int .i64 n, .int .i64 k]) ∧ Num n ∧ Num k ∧ Below w.heap.size w w'
theorem and_not_le (x y : Nat) (hx : x < 2 ^ 62) (hy : y < 2 ^ 62) : ∃ z : Nat, bits .andNot .i64 (x : Int) (y : Int) = (z : Int) ∧ z ≤ x := by
  refine ⟨(BitVec.ofNat 64 x &&& ~~~ BitVec.ofNat 64 y).toNat, ?_, ?_⟩
  · show IntKind.i64.wrap ((BitVec.ofInt 64 (x : Int) &&& ~~~ BitVec.ofInt 64 (y : Int)).toNat : Int) = _
    rw [BitVec.ofInt_natCast, BitVec.ofInt_natCast]
    have h : (BitVec.ofNat 64 x &&& ~~~ BitVec.ofNat 64 y).toNat ≤ x := by
      rw [BitVec.toNat_and, BitVec.toNat_ofNat, Nat.mod_eq_of_lt (by omega : x < 2 ^ 64)]
      exact Nat.and_le_left
    exact wrap64_small (by omega) (by omega)
  · rw [BitVec.toNat_and, BitVec.toNat_ofNat, Nat.mod_eq_of_lt (by omega : x < 2 ^ 64)]
    exact Nat.and_le_left
end Go.Proofs.Ytbdhlokbpbiijaa

/- DI2:
  Draws of chapter 10 from a code. -/
namespace Go.Proofs.Ytbdhlokbpbiijaa
open Go.RowKit
set_option linter.unusedVariables false
set_option linter.unusedSimpArgs false

set_option maxRecDepth 100000 in
set_option maxHeartbeats 64000000 in
theorem drawIsIdempotent_ok {a : Option Addr} {len cap : Nat} (hl : len ≤ 1048576) (w : World) (C : Code w a len) :
    Calls Try.prog 54 #[.slice a len cap] w (OneB w) := by
  obtain ⟨W1, hW1⟩ : ∃ W1, w.alloc (.cells #[.int .i64 0, .int .i64 0] 25) = W1 := ⟨_, rfl⟩
  have hb1 : Below w.heap.size w W1 := by rw [← hW1]; exact bnew _ _
  have c0 : W1.cell? ⟨w.heap.size, 0, none⟩ = some (.int .i64 0) := by rw [← hW1]; simp [go_sem]
  have c1 : W1.cell? ⟨w.heap.size, 1, none⟩ = some (.int .i64 0) := by rw [← hW1]; simp [go_sem]
  have f0 : W1.frozen? ⟨w.heap.size, 0, none⟩ = false := by rw [← hW1]; simp [go_sem]
  have f1 : W1.frozen? ⟨w.heap.size, 1, none⟩ = false := by rw [← hW1]; simp [go_sem]
  have hne : ¬ w.heap.size = W1.heap.size := by have := cell_lt c0; simp at this; omega
  have hle : w.heap.size ≤ W1.heap.size := hb1.size
  have FR := Lib.hid (from_ok (cap := cap) hl W1 (C.below hb1).B (C.below hb1).lt)
  clear C
  go_enter Try.func54, Try.ntmps54
  go_wp2_with fail
  refine FR.out.mono ?_
  rintro e w2 ⟨rfl, S2, hb2⟩
  have f0 := kf hb2 c0 f0
  have f1 := kf hb2 c1 f1
  have c0 := kc hb2 c0
  have c1 := kc hb2 c1
  have HB := Lib.hid (bthen hb1 hb2)
  have S := Lib.hid S2
  clear S2 hb2 hb1 hW1 FR
  go_wp2_with fail
  refine (draw10_ok _ S.out).mono ?_
  rintro e w3 ⟨n, x, rfl, hn, hx, S3, hg3⟩
  have f0 := kfg hg3 hne c0 f0
  have f1 := kfg hg3 hne c1 f1
  have c0 := kcg hg3 hne c0
  have c1 := kcg hg3 hne c1
  replace HB := Lib.hid (bGrown HB.out hle hg3)
  replace S := Lib.hid S3
  clear S3 hg3
  go_wp2_with fail
  exact bodyPost_ret (v := .agg #[.int .i64 n, .int .i64 x]) (by simp [results, Try.results54, go_sem, c0, c1]) rfl ⟨n, x, rfl, ⟨by omega, by omega⟩, ⟨by omega, by omega⟩, (HB.out.setCell (p := ⟨w.heap.size, 0, none⟩) (Nat.le_refl _) _).setCell (p := ⟨w.heap.size, 1, none⟩) (Nat.le_refl _) _⟩
set_option maxRecDepth 100000 in
set_option maxHeartbeats 64000000 in
theorem drawIsOfKind_ok {a : Option Addr} {len cap : Nat} (hl : len ≤ 1048576) (w : World) (C : Code w a len) :
    Calls Try.prog 51 #[.slice a len cap] w (FunNumB w) := by
  obtain ⟨W1, hW1⟩ : ∃ W1, w.alloc (.cells #[.int .i64 0, .int .i64 0] 25) = W1 := ⟨_, rfl⟩
  have hb1 : Below w.heap.size w W1 := by rw [← hW1]; exact bnew _ _
  have c0 : W1.cell? ⟨w.heap.size, 0, none⟩ = some (.int .i64 0) := by rw [← hW1]; simp [go_sem]
  have c1 : W1.cell? ⟨w.heap.size, 1, none⟩ = some (.int .i64 0) := by rw [← hW1]; simp [go_sem]
  have f0 : W1.frozen? ⟨w.heap.size, 0, none⟩ = false := by rw [← hW1]; simp [go_sem]
  have f1 : W1.frozen? ⟨w.heap.size, 1, none⟩ = false := by rw [← hW1]; simp [go_sem]
  have hne : ¬ w.heap.size = W1.heap.size := by have := cell_lt c0; simp at this; omega
  have hle : w.heap.size ≤ W1.heap.size := hb1.size
  have FR := Lib.hid (from_ok (cap := cap) hl W1 (C.below hb1).B (C.below hb1).lt)
  clear C
  go_enter Try.func51, Try.ntmps51
  go_wp2_with fail
  refine FR.out.mono ?_
  rintro e w2 ⟨rfl, S2, hb2⟩
  have f0 := kf hb2 c0 f0
  have f1 := kf hb2 c1 f1
  have c0 := kc hb2 c0
  have c1 := kc hb2 c1
  have HB := Lib.hid (bthen hb1 hb2)
  have S := Lib.hid S2
  clear S2 hb2 hb1 hW1 FR
  go_wp2_with fail
  refine (draw10_ok _ S.out).mono ?_
  rintro e w3 ⟨n, x, rfl, hn, hx, S3, hg3⟩
  have f0 := kfg hg3 hne c0 f0
  have f1 := kfg hg3 hne c1 f1
  have c0 := kcg hg3 hne c0
  have c1 := kcg hg3 hne c1
  replace HB := Lib.hid (bGrown HB.out hle hg3)
  replace S := Lib.hid S3
  clear S3 hg3
  go_wp2_with fail
  refine (next_ok 4 (by omega) (by omega) _ S.out).mono ?_
  rintro e w4 ⟨y, rfl, y0, y1, S4, hg4⟩
  have f0 := kfg hg4 hne c0 f0
  have f1 := kfg hg4 hne c1 f1
  have c0 := kcg hg4 hne c0
  have c1 := kcg hg4 hne c1
  replace HB := Lib.hid (bGrown HB.out hle hg4)
  replace S := Lib.hid S4
  clear S4 hg4
  go_wp2_with fail
  refine (next_ok 24 (by omega) (by omega) _ S.out).mono ?_
  rintro e w5 ⟨z, rfl, z0, z1, S5, hg5⟩
  have f0 := kfg hg5 hne c0 f0
  have f1 := kfg hg5 hne c1 f1
  have c0 := kcg hg5 hne c0
  have c1 := kcg hg5 hne c1
  replace HB := Lib.hid (bGrown HB.out hle hg5)
  replace S := Lib.hid S5
  clear S5 hg5
  obtain ⟨q, hq⟩ : ∃ q, z / 23 = q := ⟨_, rfl⟩
  have hq1 : 0 ≤ q ∧ q ≤ 1 := by omega
  go_wp2_with fail
  exact bodyPost_ret (v := .tuple #[.agg #[.int .i64 n, .int .i64 x], .int .i64 (y + q)]) (by simp [results, Try.results51, go_sem, c0, c1]) rfl ⟨n, x, y + q, rfl, ⟨⟨by omega, by omega⟩, ⟨by omega, by omega⟩⟩, ⟨by omega, by omega⟩, (HB.out.setCell (p := ⟨w.heap.size, 0, none⟩) (Nat.le_refl _) _).setCell (p := ⟨w.heap.size, 1, none⟩) (Nat.le_refl _) _⟩
set_option maxRecDepth 100000 in
set_option maxHeartbeats 64000000 in
theorem drawKindCounts_ok {a : Option Addr} {len cap : Nat} (hl : len ≤ 1048576) (w : World) (C : Code w a len) :
    Calls Try.prog 63 #[.slice a len cap] w (NumB w) := by
  have FR := Lib.hid (from_ok (cap := cap) hl w C.B C.lt)
  have hle : w.heap.size ≤ w.heap.size := Nat.le_refl _
  clear C
  go_enter Try.func63, Try.ntmps63
  go_wp2_with fail
  refine FR.out.mono ?_
  rintro e w2 ⟨rfl, S2, hb2⟩
  have HB := Lib.hid hb2
  have S := Lib.hid S2
  clear S2 hb2 FR
  go_wp2_with fail
  refine (next_ok 6 (by omega) (by omega) _ S.out).mono ?_
  rintro e w3 ⟨y, rfl, y0, y1, S3, hg3⟩
  replace HB := Lib.hid (bGrown HB.out hle hg3)
  replace S := Lib.hid S3
  clear S3 hg3
  obtain ⟨W4, hW4⟩ : ∃ W4, w3.alloc (.cells #[.int .i64 0, .int .i64 1, .int .i64 2, .int .i64 3, .int .i64 y] 2) = W4 := ⟨_, rfl⟩
  have hbw : Below w3.heap.size w3 W4 := by rw [← hW4]; exact bnew _ _
  have hgb : ¬ w3.heap.size = w.heap.size := by have := S.out.lt; omega
  have hc := Lib.hid (show ∀ j, j < 5 → W4.cell? ⟨w3.heap.size, j, none⟩ = some (.int .i64 (([0, 1, 2, 3, y] : List Int).getD j 0)) by
    intro j hj
    rw [← hW4]
    have : j = 0 ∨ j = 1 ∨ j = 2 ∨ j = 3 ∨ j = 4 := by omega
    rcases this with rfl | rfl | rfl | rfl | rfl <;> simp [go_sem])
  have PK := Lib.hid (pick_ok 5 5 (by decide) (by decide) w3.heap.size (fun j => ([0, 1, 2, 3, y] : List Int).getD j 0) W4 (S.out.below hbw) hgb hc)
  replace HB := Lib.hid (bthen HB.out hbw)
  clear hc S
  go_wp2_with fail
  refine PK.out.mono ?_
  rintro e w5 ⟨i, hi, rfl, S5, hg5⟩
  have hv : 0 ≤ (([0, 1, 2, 3, y] : List Int).getD i 0) ∧ (([0, 1, 2, 3, y] : List Int).getD i 0) ≤ 6 := by
    have : i = 0 ∨ i = 1 ∨ i = 2 ∨ i = 3 ∨ i = 4 := by omega
    rcases this with rfl | rfl | rfl | rfl | rfl <;> simp <;> omega
  dsimp only
  generalize (([0, 1, 2, 3, y] : List Int).getD i 0) = n at hv
  replace HB := Lib.hid (bGrown HB.out hle hg5)
  have S := Lib.hid S5
  clear S5 hg5 PK hW4 hbw hi
  go_wp2_with fail
  go_ret
  exact ⟨n, rfl, ⟨by omega, by omega⟩, HB.out⟩
end Go.Proofs.Ytbdhlokbpbiijaa

/- FI0:
  What the walk of FnIdentities asks of its callees. -/
namespace Go.Proofs.Ytbdhlokbpbiijaa
open Go.RowKit
set_option linter.unusedVariables false
set_option linter.unusedSimpArgs false

theorem kd_idem {n : Int} {x R k : Nat} (h : kdB n x R k = true) : idB x R = true := by
  unfold kdB at h
  simp only [Bool.and_eq_true] at h
  have h2 := h.2
  split at h2
  · simp only [Bool.and_eq_true] at h2; exact h2.1
  · simp only [Bool.and_eq_true] at h2; exact h2.2
theorem near_kd (x R : Nat) : nearB 3 x R = kdB 3 x R 0 := by
  unfold nearB kdB fotL
  rw [show pws 3 = [1, 2, 4] from rfl]
  simp [kdL, Bool.and_comm, Bool.and_left_comm, Bool.and_assoc]

/-- What is known of a kind's answer. -/
def KOf (n x : Int) (r : Bool) (c : Int) : Prop := (c = 0 ∧ ∃ v R : Nat, FOk n v R ∧ x = (v : Int) ∧ (r = true → idB v R = true)) ∨ (c ≠ 0 ∧ r = false)
theorem kindF (n b k : Int) : ∃ (r : Bool) (rc : Int),
    (∀ w, Calls Try.prog 53 #[.agg #[.int .i64 n, .int .i64 b], .int .i64 k] w fun e w' => e = .returned (.tuple #[.bool r, .int .i64 rc]) ∧ Below w.heap.size w w') ∧
    (∀ w, Calls Try.prog 52 #[.agg #[.int .i64 n, .int .i64 b], .int .i64 k] w fun e w' => e = .returned (.tuple #[.bool r, .int .i64 rc]) ∧ Below w.heap.size w w') ∧ KOf n b r rc := by
  cases h : isF n b
  · exact ⟨_, _, specIsOfKind_no (c := 1) (by unfold kcF; rw [h]; rfl) (by decide), implIsOfKind_no h k, .inr ⟨by decide, rfl⟩⟩
  · cases hk : inB k 0 3
    · exact ⟨_, _, specIsOfKind_no (c := 2) (by unfold kcF; rw [h, hk]; rfl) (by decide), implIsOfKind_range h hk, .inr ⟨by decide, rfl⟩⟩
    · have hk2 : 0 ≤ k ∧ k ≤ 3 := by simpa [inB] using hk
      obtain ⟨j, rfl⟩ := Int.eq_ofNat_of_zero_le hk2.1
      obtain ⟨x, R, rfl, ok⟩ := fok h
      exact ⟨_, _, specIsOfKind_yes ok (by unfold kcF; rw [h, hk]; rfl) (l10Kind_any ok j (by omega)), implIsOfKind_yes ok (by omega), .inl ⟨rfl, x, R, ok, rfl, kd_idem⟩⟩

theorem specIsSemilattice_all {n : Int} {x R : Nat} (ok : FOk n x R) (w : World) :
    Calls Try.prog 60 #[.agg #[.int .i64 n, .int .i64 (x : Int)]] w fun e w' => e = .returned (.tuple #[.bool (slB n x R), .int .i64 0]) ∧ Below w.heap.size w w' := by
  by_cases hn : n = 2
  · subst hn
    obtain rfl : R = 4 := by rw [ok.he]; rfl
    have hx16 : x < 16 := ok.hB
    cases hi : idB x 4
    · rw [slB_idem hi]; exact specIsSemilattice_idem ok hi w
    · by_cases hd : bitN x 1 = bitN x 2
      · rcases sl_two x hx16 hi hd with rfl | rfl
        · rw [sl_yes.1]; exact specIsSemilattice_8 ok w
        · rw [sl_yes.2]; exact specIsSemilattice_14 ok w
      · rw [slB_sym (sl_dif x hx16 hd)]; exact specIsSemilattice_dif ok hi hd w
  · rw [slB_other hn]; exact specIsSemilattice_other ok hn w

/-- What the law's second function answers: idempotent, symmetric, a semilattice, of near unanimity; their code. -/
def GOf (n x : Int) (rI rS rL rN : Bool) (c : Int) : Prop := (c = 0 ∧ ∃ v R : Nat, FOk n v R ∧ x = (v : Int) ∧ rI = idB v R ∧ rS = symB v R ∧ rL = slB n v R ∧ rN = nearB n.toNat v R) ∨ c ≠ 0
/-- Both packages' answers of one of these functions. -/
def Both (fs fi : Nat) (n x : Int) (r : Bool) (c : Int) : Prop :=
    (∀ w, Calls Try.prog fs #[.agg #[.int .i64 n, .int .i64 x]] w fun e w' => e = .returned (.tuple #[.bool r, .int .i64 c]) ∧ Below w.heap.size w w') ∧
    (∀ w, Calls Try.prog fi #[.agg #[.int .i64 n, .int .i64 x]] w fun e w' => e = .returned (.tuple #[.bool r, .int .i64 c]) ∧ Below w.heap.size w w')
theorem gF (n b : Int) : ∃ (rI rS rL rN : Bool) (c : Int), Both 56 55 n b rI c ∧ Both 58 57 n b rS c ∧
    Both 60 59 n b rL c ∧ Both 62 61 n b rN c ∧ GOf n b rI rS rL rN c := by
  cases h : isF n b
  · exact ⟨_, _, _, _, _, ⟨specIsIdempotent_no h, implIsIdempotent_no h⟩, ⟨specIsSymmetric_no h, implIsSymmetric_no h⟩, ⟨specIsSemilattice_no h, implIsSemilattice_no h⟩, ⟨specHasNearUnanimity_no h, implHasNearUnanimity_no h⟩, .inr (by decide)⟩
  · obtain ⟨x, R, rfl, ok⟩ := fok h
    exact ⟨_, _, _, _, _, ⟨specIsIdempotent_yes ok, implIsIdempotent_yes ok⟩, ⟨specIsSymmetric_yes ok, implIsSymmetric_yes ok⟩, ⟨specIsSemilattice_all ok, implIsSemilattice_yes ok⟩, ⟨specHasNearUnanimity_yes ok, implHasNearUnanimity_yes ok⟩, .inl ⟨rfl, x, R, ok, rfl, rfl, rfl, rfl, rfl⟩⟩

/-- What is known of the counts. -/
def CntOf (n : Int) (xs : List Int) (c : Int) : Prop := (c = 0 ∧ ∃ (m : Nat) (c0 c2 c3 : Int), n = (m : Int) ∧ m ≤ 4 ∧ xs = [c0, ((2 ^ (m + 1) : Nat) : Int), c2, c3] ∧ c2 ≤ c0 ∧ c2 ≤ ((2 ^ (m + 1) : Nat) : Int)) ∨ c ≠ 0
theorem countsF (n : Int) : ∃ (xs : List Int) (rc : Int), xs.length ≤ 100000 ∧
    (∀ w, Calls Try.prog 65 #[.int .i64 n] w (ListCodePost w.heap.size xs rc w)) ∧
    (∀ w, Calls Try.prog 64 #[.int .i64 n] w (ListCodePost w.heap.size xs rc w)) ∧ CntOf n xs rc := by
  cases h : inB n 0 4
  · exact ⟨_, _, by simp, specKindCounts_no h, implKindCounts_no h, .inr (by decide)⟩
  · have hn2 : 0 ≤ n ∧ n ≤ 4 := by simpa [inB] using h
    obtain ⟨R, T, r0, r16, hR, hT, hT0, hT16, hA, ok⟩ := arity_nums hn2.1 hn2.2
    refine ⟨_, _, by simp [kcL], specKindCounts_yes hn2.1 hn2.2 hT0 hT16 hA ok h, implKindCounts_yes hn2.1 hn2.2 r0 r16 hR hT hT0 hT16 ok h, .inl ⟨rfl, ?_⟩⟩
    obtain ⟨m, rfl⟩ := Int.eq_ofNat_of_zero_le hn2.1
    have he : R = 2 ^ m := by have := (ok 0 hT0).he; simpa using this
    have hs := sym_count (m := m) (by omega) he hT.out
    have h1 := cntTo_mono (p := fun x => idB x R && symB x R) (q := fun x => idB x R) (fun x h => by simp only [Bool.and_eq_true] at h; exact h.1) T
    have h2 := cntTo_mono (p := fun x => idB x R && symB x R) (q := fun x => symB x R) (fun x h => by simp only [Bool.and_eq_true] at h; exact h.2) T
    refine ⟨m, _, _, _, rfl, by omega, by unfold kcL; rw [hs], by exact_mod_cast h1, ?_⟩
    rw [← hs]
    exact_mod_cast h2
end Go.Proofs.Ytbdhlokbpbiijaa

/- FI1:
  FnIdentities, its tail: a kind's function is idempotent. -/
namespace Go.Proofs.Ytbdhlokbpbiijaa
open Go.RowKit
set_option linter.unusedVariables false
set_option linter.unusedSimpArgs false

noncomputable def idnR36 : Go.Code := ((Try.f5.body.bind (regAt 36)).getD .skip)
noncomputable def idnI225 : Go.Code := ((Try.f5.body.bind (ifAt 225)).getD .skip)
noncomputable def idnC38 : Go.Code := ((Try.f5.body.bind (fromReg 38)).getD .skip)
set_option maxRecDepth 100000 in
set_option maxHeartbeats 64000000 in
theorem fi1 {a : Option Addr} {len cap : Nat} {w W : World} (hl : len ≤ 1048576) {bF : Nat} {n1 x1 k1 c1 : Int} {r1 : Bool} (CA : KOf n1 x1 r1 c1)
    (st : LawSt w a len [(bF, n1, x1)] [] W)
    {K2 : Act → World → Prop} (h2 : ∀ aa ww, Code.wp Try.prog idnC38 (bodyPost Try.prog Try.f5 (fun e w' => e = .returned (.bool true) ∧ Below w.heap.size w w')) aa ww → K2 aa ww)
    {K1 : Act → World → Prop} (h1 : ∀ aa ww, Code.wp Try.prog idnI225 (Exit.then K2 (bodyPost Try.prog Try.f5 (fun e w' => e = .returned (.bool true) ∧ Below w.heap.size w w'))) aa ww → K1 aa ww)
    (u2 u7 u8 u9 u10 u11 u12 u13 u14 u15 u16 u17 u18 u19 u20 u21 u22 u23 u24 u25 u26 u27 u28 u29 u30 u31 u32 u33 u34 u35 u36 u37 u38 u39 u40 u41 u42 u43 u44 u45 u46 u47 u48 u49 u50 u51 u52 u53 u54 u55 u56 u57 u58 u59 u60 u61 u62 u63 u64 u65 u66 u67 u68 u69 u70 u71 u72 u73 u74 u75 u76 u77 u78 u79 u80 u81 u82 u83 u84 u85 u86 u87 u88 u89 u90 u91 u92 u93 u94 u95 u96 u97 u98 u99 u100 u101 u102 u103 u104 u105 u106 u107 u108 u109 u110 u111 u112 u113 u114 u115 u116 u117 u118 u119 u120 u121 u122 u123 u124 u125 u126 u127 u128 u129 u130 u131 u132 u133 u134 u135 u136 u137 u138 u139 u140 u141 u142 u143 u144 u145 u146 u147 u148 u149 u150 u151 u152 u153 u154 u155 u156 u157 u158 u159 u160 u161 u162 u163 u164 u165 u166 u167 u168 u169 u170 u171 u172 u173 u174 u175 u176 u177 u178 u179 u180 u181 u182 u183 u184 u185 u186 u187 u188 u189 u190 u191 u192 u193 u194 u195 u196 u197 u198 u199 u200 u201 u202 u203 u204 u205 u206 u207 u208 u209 u210 u211 u212 u213 u214 u215 u216 u217 u218 u219 u220 u221 u222 u223 u224 u225 u226 u227 u228 u229 u230 u231 u232 u233 u234 u235 u236 u237 u238 u239 u240 u241 : Value) :
    Code.wp Try.prog idnR36 (Exit.then K1 (Exit.then K2 (bodyPost Try.prog Try.f5 (fun e w' => e = .returned (.bool true) ∧ Below w.heap.size w w')))) ⟨#[.slice a len cap, undef, u2, .pointer (some ⟨bF, 0, none⟩), .int .i64 k1, .bool r1, .int .i64 c1, u7, u8, u9, u10, u11, u12, u13, u14, u15, u16, u17, u18, u19, u20, u21, u22, u23, u24, u25, u26, u27, u28, u29, u30, u31, u32, u33, u34, u35, u36, u37, u38, u39, u40, u41, u42, u43, u44, u45, u46, u47, u48, u49, u50, u51, u52, u53, u54, u55, u56, u57, u58, u59, u60, u61, u62, u63, u64, u65, u66, u67, u68, u69, u70, u71, u72, u73, u74, u75, u76, u77, u78, u79, u80, u81, u82, u83, u84, u85, u86, u87, u88, u89, u90, u91, u92, u93, u94, u95, u96, u97, u98, u99, u100, u101, u102, u103, u104, u105, u106, u107, u108, u109, u110, u111, u112, u113, u114, u115, u116, u117, u118, u119, u120, u121, u122, u123, u124, u125, u126, u127, u128, u129, u130, u131, u132, u133, u134, u135, u136, u137, u138, u139, u140, u141, u142, u143, u144, u145, u146, u147, u148, u149, u150, u151, u152, u153, u154, u155, u156, u157, u158, u159, u160, u161, u162, u163, u164, u165, u166, u167, u168, u169, u170, u171, u172, u173, u174, u175, u176, u177, u178, u179, u180, u181, u182, u183, u184, u185, u186, u187, u188, u189, u190, u191, u192, u193, u194, u195, u196, u197, u198, u199, u200, u201, u202, u203, u204, u205, u206, u207, u208, u209, u210, u211, u212, u213, u214, u215, u216, u217, u218, u219, u220, u221, u222, u223, u224, u225, u226, u227, u228, u229, u230, u231, u232, u233, u234, u235, u236, u237, u238, u239, u240, u241], []⟩ W := by
  conv => arg 2; whnf
  dsimp only
  conv at h1 => enter [aa, ww, 1, 2]; whnf
  conv at h2 => enter [aa, ww, 1, 2]; whnf
  have st0 := Lib.hid st
  clear st
  have HCA := Lib.hid CA
  clear CA
  rcases HCA.out with ⟨rfl, v, R, ok, rfl, hi⟩ | ⟨hne, rfl⟩
  · have CI := Lib.hid (implIsIdempotent_yes ok)
    clear ok HCA
    have p0 := (st0.out.B (bF, n1, (v : Int)) (by simp)).1
    have p1 := (st0.out.B (bF, n1, (v : Int)) (by simp)).2
    go_wp2_with fail
    refine (CI.out _).mono ?_
    rintro e w1 ⟨rfl, hb1⟩
    have st1 := Lib.hid (st0.out.below hb1)
    clear hb1 st0 CI
    clear p0 p1
    have G := Lib.hid st1.out.G
    clear st1
    cases r1
    · clear hi
      go_wp2_with fail
      go_ret
      exact ⟨rfl, G.out⟩
    · have hi2 := hi rfl
      rw [hi2]
      clear hi hi2
      go_wp2_with fail
      go_ret
      exact ⟨rfl, G.out⟩
  · have hq : (c1 != 0) = true := by simp [hne]
    have G := Lib.hid st0.out.G
    clear st0 HCA hne
    go_wp2_with fail
    go_ret
    exact ⟨rfl, G.out⟩
end Go.Proofs.Ytbdhlokbpbiijaa

/- FI2:
  FnIdentities: what the second function's answers have to do with one another. -/
namespace Go.Proofs.Ytbdhlokbpbiijaa
open Go.RowKit
set_option linter.unusedVariables false
set_option linter.unusedSimpArgs false

noncomputable def idnR32 : Go.Code := ((Try.f5.body.bind (regAt 32)).getD .skip)
noncomputable def idnI188 : Go.Code := ((Try.f5.body.bind (ifAt 188)).getD .skip)
noncomputable def idnC36 : Go.Code := ((Try.f5.body.bind (fromReg 36)).getD .skip)
set_option maxRecDepth 100000 in
set_option maxHeartbeats 64000000 in
theorem fi2 {a : Option Addr} {len cap : Nat} {w W : World} (hl : len ≤ 1048576) {bF : Nat} {n1 x1 k1 c1 : Int} {r1 : Bool} (CA : KOf n1 x1 r1 c1) {bG : Nat} {n2 x2 c2 : Int} {rI rS rL rN : Bool} (CB : GOf n2 x2 rI rS rL rN c2)
    (st : LawSt w a len [(bG, n2, x2), (bF, n1, x1)] [] W)
    {K2 : Act → World → Prop} (h2 : ∀ aa ww, Code.wp Try.prog idnC36 (bodyPost Try.prog Try.f5 (fun e w' => e = .returned (.bool true) ∧ Below w.heap.size w w')) aa ww → K2 aa ww)
    {K1 : Act → World → Prop} (h1 : ∀ aa ww, Code.wp Try.prog idnI188 (Exit.then K2 (bodyPost Try.prog Try.f5 (fun e w' => e = .returned (.bool true) ∧ Below w.heap.size w w'))) aa ww → K1 aa ww)
    (u2 u7 u8 u12 u13 u15 u16 u17 u19 u20 u21 u23 u24 u25 u26 u27 u28 u29 u30 u31 u32 u33 u34 u35 u36 u37 u38 u39 u40 u41 u42 u43 u44 u45 u46 u47 u48 u49 u50 u51 u52 u53 u54 u55 u56 u57 u58 u59 u60 u61 u62 u63 u64 u65 u66 u67 u68 u69 u70 u71 u72 u73 u74 u75 u76 u77 u78 u79 u80 u81 u82 u83 u84 u85 u86 u87 u88 u89 u90 u91 u92 u93 u94 u95 u96 u97 u98 u99 u100 u101 u102 u103 u104 u105 u106 u107 u108 u109 u110 u111 u112 u113 u114 u115 u116 u117 u118 u119 u120 u121 u122 u123 u124 u125 u126 u127 u128 u129 u130 u131 u132 u133 u134 u135 u136 u137 u138 u139 u140 u141 u142 u143 u144 u145 u146 u147 u148 u149 u150 u151 u152 u153 u154 u155 u156 u157 u158 u159 u160 u161 u162 u163 u164 u165 u166 u167 u168 u169 u170 u171 u172 u173 u174 u175 u176 u177 u178 u179 u180 u181 u182 u183 u184 u185 u186 u187 u188 u189 u190 u191 u192 u193 u194 u195 u196 u197 u198 u199 u200 u201 u202 u203 u204 u205 u206 u207 u208 u209 u210 u211 u212 u213 u214 u215 u216 u217 u218 u219 u220 u221 u222 u223 u224 u225 u226 u227 u228 u229 u230 u231 u232 u233 u234 u235 u236 u237 u238 u239 u240 u241 : Value) :
    Code.wp Try.prog idnR32 (Exit.then K1 (Exit.then K2 (bodyPost Try.prog Try.f5 (fun e w' => e = .returned (.bool true) ∧ Below w.heap.size w w')))) ⟨#[.slice a len cap, undef, u2, .pointer (some ⟨bF, 0, none⟩), .int .i64 k1, .bool r1, .int .i64 c1, u7, u8, .pointer (some ⟨bG, 0, none⟩), .bool rI, .int .i64 c2, u12, u13, .bool rS, u15, u16, u17, .bool rL, u19, u20, u21, .bool rN, u23, u24, u25, u26, u27, u28, u29, u30, u31, u32, u33, u34, u35, u36, u37, u38, u39, u40, u41, u42, u43, u44, u45, u46, u47, u48, u49, u50, u51, u52, u53, u54, u55, u56, u57, u58, u59, u60, u61, u62, u63, u64, u65, u66, u67, u68, u69, u70, u71, u72, u73, u74, u75, u76, u77, u78, u79, u80, u81, u82, u83, u84, u85, u86, u87, u88, u89, u90, u91, u92, u93, u94, u95, u96, u97, u98, u99, u100, u101, u102, u103, u104, u105, u106, u107, u108, u109, u110, u111, u112, u113, u114, u115, u116, u117, u118, u119, u120, u121, u122, u123, u124, u125, u126, u127, u128, u129, u130, u131, u132, u133, u134, u135, u136, u137, u138, u139, u140, u141, u142, u143, u144, u145, u146, u147, u148, u149, u150, u151, u152, u153, u154, u155, u156, u157, u158, u159, u160, u161, u162, u163, u164, u165, u166, u167, u168, u169, u170, u171, u172, u173, u174, u175, u176, u177, u178, u179, u180, u181, u182, u183, u184, u185, u186, u187, u188, u189, u190, u191, u192, u193, u194, u195, u196, u197, u198, u199, u200, u201, u202, u203, u204, u205, u206, u207, u208, u209, u210, u211, u212, u213, u214, u215, u216, u217, u218, u219, u220, u221, u222, u223, u224, u225, u226, u227, u228, u229, u230, u231, u232, u233, u234, u235, u236, u237, u238, u239, u240, u241], []⟩ W := by
  conv => arg 2; whnf
  dsimp only
  conv at h1 => enter [aa, ww, 1, 2]; whnf
  conv at h2 => enter [aa, ww, 1, 2]; whnf
  have st0 := Lib.hid st
  clear st
  have HCA := Lib.hid CA
  clear CA
  have HCB := Lib.hid CB
  clear CB
  rcases HCB.out with ⟨rfl, v, R, ok, rfl, hI, hS, hL, hN⟩ | hne
  · have CK := Lib.hid (implIsOfKind_yes ok (k := 0) (by decide))
    have f1 : rN = true → rI = true := fun h => by rw [hI]; exact near_idem (hN ▸ h)
    have f2 : rL = true → rI = true ∧ rS = true := fun h => by
      rw [hL] at h
      unfold slB at h
      simp only [Bool.and_eq_true] at h
      exact ⟨hI ▸ h.2.1, hS ▸ h.2.2⟩
    have f3 : n2 = 3 → rN = kdB n2 v R 0 := fun h => by subst h; rw [hN]; exact near_kd v R
    have F1 := Lib.hid f1
    have F2 := Lib.hid f2
    have F3 := Lib.hid f3
    clear f1 f2 f3 hI hS hL hN HCB ok
    generalize kdB n2 v R 0 = rK at CK F3
    have p0 := (st0.out.B (bG, n2, (v : Int)) (by simp)).1
    have p1 := (st0.out.B (bG, n2, (v : Int)) (by simp)).2
    go_wp2_with fail
    refine (CK.out _).mono ?_
    rintro e w1 ⟨rfl, hb1⟩
    have st1 := Lib.hid (st0.out.below hb1)
    clear hb1 st0 CK
    clear p0 p1
    by_cases h3 : n2 = 3
    · have hn : (n2 == 3) = true := by simp [h3]
      obtain rfl := F3.out h3
      subst h3
      clear F3
      have f1 := F1.out
      have f2 := F2.out
      clear F1 F2
      cases rN
      · cases rL
        · skip
          clear f1 f2
          have q0 := (st1.out.B (bG, 3, (v : Int)) (by simp)).1
          have q1 := (st1.out.B (bG, 3, (v : Int)) (by simp)).2
          go_upto_region 36 with fail
          exact fi1 hl (HCA.out) (st1.out.less (fun t ht => by simp only [List.mem_cons, List.not_mem_nil, or_false] at ht ⊢; first | (subst ht; simp) | simp [ht]) (fun t ht => by simp at ht)) (by assumption) (by assumption) _ _ _ _ _ _ _ _ _ _ _ _ _ _ _ _ _ _ _ _ _ _ _ _ _ _ _ _ _ _ _ _ _ _ _ _ _ _ _ _ _ _ _ _ _ _ _ _ _ _ _ _ _ _ _ _ _ _ _ _ _ _ _ _ _ _ _ _ _ _ _ _ _ _ _ _ _ _ _ _ _ _ _ _ _ _ _ _ _ _ _ _ _ _ _ _ _ _ _ _ _ _ _ _ _ _ _ _ _ _ _ _ _ _ _ _ _ _ _ _ _ _ _ _ _ _ _ _ _ _ _ _ _ _ _ _ _ _ _ _ _ _ _ _ _ _ _ _ _ _ _ _ _ _ _ _ _ _ _ _ _ _ _ _ _ _ _ _ _ _ _ _ _ _ _ _ _ _ _ _ _ _ _ _ _ _ _ _ _ _ _ _ _ _ _ _ _ _ _ _ _ _ _ _ _ _ _ _ _ _ _ _ _ _ _ _ _ _ _ _ _ _ _ _ _ _ _ _ _ _ _ _ _ _ _ _
        · obtain ⟨rfl, rfl⟩ := f2 rfl
          clear f1 f2
          have q0 := (st1.out.B (bG, 3, (v : Int)) (by simp)).1
          have q1 := (st1.out.B (bG, 3, (v : Int)) (by simp)).2
          go_upto_region 36 with fail
          exact fi1 hl (HCA.out) (st1.out.less (fun t ht => by simp only [List.mem_cons, List.not_mem_nil, or_false] at ht ⊢; first | (subst ht; simp) | simp [ht]) (fun t ht => by simp at ht)) (by assumption) (by assumption) _ _ _ _ _ _ _ _ _ _ _ _ _ _ _ _ _ _ _ _ _ _ _ _ _ _ _ _ _ _ _ _ _ _ _ _ _ _ _ _ _ _ _ _ _ _ _ _ _ _ _ _ _ _ _ _ _ _ _ _ _ _ _ _ _ _ _ _ _ _ _ _ _ _ _ _ _ _ _ _ _ _ _ _ _ _ _ _ _ _ _ _ _ _ _ _ _ _ _ _ _ _ _ _ _ _ _ _ _ _ _ _ _ _ _ _ _ _ _ _ _ _ _ _ _ _ _ _ _ _ _ _ _ _ _ _ _ _ _ _ _ _ _ _ _ _ _ _ _ _ _ _ _ _ _ _ _ _ _ _ _ _ _ _ _ _ _ _ _ _ _ _ _ _ _ _ _ _ _ _ _ _ _ _ _ _ _ _ _ _ _ _ _ _ _ _ _ _ _ _ _ _ _ _ _ _ _ _ _ _ _ _ _ _ _ _ _ _ _ _ _ _ _ _ _ _ _ _ _ _ _ _ _ _ _ _
      · cases rL
        · obtain rfl := f1 rfl
          clear f1 f2
          have q0 := (st1.out.B (bG, 3, (v : Int)) (by simp)).1
          have q1 := (st1.out.B (bG, 3, (v : Int)) (by simp)).2
          go_upto_region 36 with fail
          exact fi1 hl (HCA.out) (st1.out.less (fun t ht => by simp only [List.mem_cons, List.not_mem_nil, or_false] at ht ⊢; first | (subst ht; simp) | simp [ht]) (fun t ht => by simp at ht)) (by assumption) (by assumption) _ _ _ _ _ _ _ _ _ _ _ _ _ _ _ _ _ _ _ _ _ _ _ _ _ _ _ _ _ _ _ _ _ _ _ _ _ _ _ _ _ _ _ _ _ _ _ _ _ _ _ _ _ _ _ _ _ _ _ _ _ _ _ _ _ _ _ _ _ _ _ _ _ _ _ _ _ _ _ _ _ _ _ _ _ _ _ _ _ _ _ _ _ _ _ _ _ _ _ _ _ _ _ _ _ _ _ _ _ _ _ _ _ _ _ _ _ _ _ _ _ _ _ _ _ _ _ _ _ _ _ _ _ _ _ _ _ _ _ _ _ _ _ _ _ _ _ _ _ _ _ _ _ _ _ _ _ _ _ _ _ _ _ _ _ _ _ _ _ _ _ _ _ _ _ _ _ _ _ _ _ _ _ _ _ _ _ _ _ _ _ _ _ _ _ _ _ _ _ _ _ _ _ _ _ _ _ _ _ _ _ _ _ _ _ _ _ _ _ _ _ _ _ _ _ _ _ _ _ _ _ _ _ _ _ _
        · obtain ⟨rfl, rfl⟩ := f2 rfl
          clear f1 f2
          have q0 := (st1.out.B (bG, 3, (v : Int)) (by simp)).1
          have q1 := (st1.out.B (bG, 3, (v : Int)) (by simp)).2
          go_upto_region 36 with fail
          exact fi1 hl (HCA.out) (st1.out.less (fun t ht => by simp only [List.mem_cons, List.not_mem_nil, or_false] at ht ⊢; first | (subst ht; simp) | simp [ht]) (fun t ht => by simp at ht)) (by assumption) (by assumption) _ _ _ _ _ _ _ _ _ _ _ _ _ _ _ _ _ _ _ _ _ _ _ _ _ _ _ _ _ _ _ _ _ _ _ _ _ _ _ _ _ _ _ _ _ _ _ _ _ _ _ _ _ _ _ _ _ _ _ _ _ _ _ _ _ _ _ _ _ _ _ _ _ _ _ _ _ _ _ _ _ _ _ _ _ _ _ _ _ _ _ _ _ _ _ _ _ _ _ _ _ _ _ _ _ _ _ _ _ _ _ _ _ _ _ _ _ _ _ _ _ _ _ _ _ _ _ _ _ _ _ _ _ _ _ _ _ _ _ _ _ _ _ _ _ _ _ _ _ _ _ _ _ _ _ _ _ _ _ _ _ _ _ _ _ _ _ _ _ _ _ _ _ _ _ _ _ _ _ _ _ _ _ _ _ _ _ _ _ _ _ _ _ _ _ _ _ _ _ _ _ _ _ _ _ _ _ _ _ _ _ _ _ _ _ _ _ _ _ _ _ _ _ _ _ _ _ _ _ _ _ _ _ _ _ _
    · have hn : (n2 == 3) = false := by simp [h3]
      clear F3
      have f1 := F1.out
      have f2 := F2.out
      clear F1 F2
      cases rN
      · cases rL
        · skip
          clear f1 f2
          have q0 := (st1.out.B (bG, n2, (v : Int)) (by simp)).1
          have q1 := (st1.out.B (bG, n2, (v : Int)) (by simp)).2
          go_upto_region 36 with fail
          exact fi1 hl (HCA.out) (st1.out.less (fun t ht => by simp only [List.mem_cons, List.not_mem_nil, or_false] at ht ⊢; first | (subst ht; simp) | simp [ht]) (fun t ht => by simp at ht)) (by assumption) (by assumption) _ _ _ _ _ _ _ _ _ _ _ _ _ _ _ _ _ _ _ _ _ _ _ _ _ _ _ _ _ _ _ _ _ _ _ _ _ _ _ _ _ _ _ _ _ _ _ _ _ _ _ _ _ _ _ _ _ _ _ _ _ _ _ _ _ _ _ _ _ _ _ _ _ _ _ _ _ _ _ _ _ _ _ _ _ _ _ _ _ _ _ _ _ _ _ _ _ _ _ _ _ _ _ _ _ _ _ _ _ _ _ _ _ _ _ _ _ _ _ _ _ _ _ _ _ _ _ _ _ _ _ _ _ _ _ _ _ _ _ _ _ _ _ _ _ _ _ _ _ _ _ _ _ _ _ _ _ _ _ _ _ _ _ _ _ _ _ _ _ _ _ _ _ _ _ _ _ _ _ _ _ _ _ _ _ _ _ _ _ _ _ _ _ _ _ _ _ _ _ _ _ _ _ _ _ _ _ _ _ _ _ _ _ _ _ _ _ _ _ _ _ _ _ _ _ _ _ _ _ _ _ _ _ _ _ _
        · obtain ⟨rfl, rfl⟩ := f2 rfl
          clear f1 f2
          have q0 := (st1.out.B (bG, n2, (v : Int)) (by simp)).1
          have q1 := (st1.out.B (bG, n2, (v : Int)) (by simp)).2
          go_upto_region 36 with fail
          exact fi1 hl (HCA.out) (st1.out.less (fun t ht => by simp only [List.mem_cons, List.not_mem_nil, or_false] at ht ⊢; first | (subst ht; simp) | simp [ht]) (fun t ht => by simp at ht)) (by assumption) (by assumption) _ _ _ _ _ _ _ _ _ _ _ _ _ _ _ _ _ _ _ _ _ _ _ _ _ _ _ _ _ _ _ _ _ _ _ _ _ _ _ _ _ _ _ _ _ _ _ _ _ _ _ _ _ _ _ _ _ _ _ _ _ _ _ _ _ _ _ _ _ _ _ _ _ _ _ _ _ _ _ _ _ _ _ _ _ _ _ _ _ _ _ _ _ _ _ _ _ _ _ _ _ _ _ _ _ _ _ _ _ _ _ _ _ _ _ _ _ _ _ _ _ _ _ _ _ _ _ _ _ _ _ _ _ _ _ _ _ _ _ _ _ _ _ _ _ _ _ _ _ _ _ _ _ _ _ _ _ _ _ _ _ _ _ _ _ _ _ _ _ _ _ _ _ _ _ _ _ _ _ _ _ _ _ _ _ _ _ _ _ _ _ _ _ _ _ _ _ _ _ _ _ _ _ _ _ _ _ _ _ _ _ _ _ _ _ _ _ _ _ _ _ _ _ _ _ _ _ _ _ _ _ _ _ _ _ _
      · cases rL
        · obtain rfl := f1 rfl
          clear f1 f2
          have q0 := (st1.out.B (bG, n2, (v : Int)) (by simp)).1
          have q1 := (st1.out.B (bG, n2, (v : Int)) (by simp)).2
          go_upto_region 36 with fail
          exact fi1 hl (HCA.out) (st1.out.less (fun t ht => by simp only [List.mem_cons, List.not_mem_nil, or_false] at ht ⊢; first | (subst ht; simp) | simp [ht]) (fun t ht => by simp at ht)) (by assumption) (by assumption) _ _ _ _ _ _ _ _ _ _ _ _ _ _ _ _ _ _ _ _ _ _ _ _ _ _ _ _ _ _ _ _ _ _ _ _ _ _ _ _ _ _ _ _ _ _ _ _ _ _ _ _ _ _ _ _ _ _ _ _ _ _ _ _ _ _ _ _ _ _ _ _ _ _ _ _ _ _ _ _ _ _ _ _ _ _ _ _ _ _ _ _ _ _ _ _ _ _ _ _ _ _ _ _ _ _ _ _ _ _ _ _ _ _ _ _ _ _ _ _ _ _ _ _ _ _ _ _ _ _ _ _ _ _ _ _ _ _ _ _ _ _ _ _ _ _ _ _ _ _ _ _ _ _ _ _ _ _ _ _ _ _ _ _ _ _ _ _ _ _ _ _ _ _ _ _ _ _ _ _ _ _ _ _ _ _ _ _ _ _ _ _ _ _ _ _ _ _ _ _ _ _ _ _ _ _ _ _ _ _ _ _ _ _ _ _ _ _ _ _ _ _ _ _ _ _ _ _ _ _ _ _ _ _ _ _
        · obtain ⟨rfl, rfl⟩ := f2 rfl
          clear f1 f2
          have q0 := (st1.out.B (bG, n2, (v : Int)) (by simp)).1
          have q1 := (st1.out.B (bG, n2, (v : Int)) (by simp)).2
          go_upto_region 36 with fail
          exact fi1 hl (HCA.out) (st1.out.less (fun t ht => by simp only [List.mem_cons, List.not_mem_nil, or_false] at ht ⊢; first | (subst ht; simp) | simp [ht]) (fun t ht => by simp at ht)) (by assumption) (by assumption) _ _ _ _ _ _ _ _ _ _ _ _ _ _ _ _ _ _ _ _ _ _ _ _ _ _ _ _ _ _ _ _ _ _ _ _ _ _ _ _ _ _ _ _ _ _ _ _ _ _ _ _ _ _ _ _ _ _ _ _ _ _ _ _ _ _ _ _ _ _ _ _ _ _ _ _ _ _ _ _ _ _ _ _ _ _ _ _ _ _ _ _ _ _ _ _ _ _ _ _ _ _ _ _ _ _ _ _ _ _ _ _ _ _ _ _ _ _ _ _ _ _ _ _ _ _ _ _ _ _ _ _ _ _ _ _ _ _ _ _ _ _ _ _ _ _ _ _ _ _ _ _ _ _ _ _ _ _ _ _ _ _ _ _ _ _ _ _ _ _ _ _ _ _ _ _ _ _ _ _ _ _ _ _ _ _ _ _ _ _ _ _ _ _ _ _ _ _ _ _ _ _ _ _ _ _ _ _ _ _ _ _ _ _ _ _ _ _ _ _ _ _ _ _ _ _ _ _ _ _ _ _ _ _ _ _
  · have hq : (c2 == 0) = false := by simp [hne]
    go_upto_region 36 with fail
    exact fi1 hl (HCA.out) (st0.out.less (fun t ht => by simp only [List.mem_cons, List.not_mem_nil, or_false] at ht ⊢; first | (subst ht; simp) | simp [ht]) (fun t ht => by simp at ht)) (by assumption) (by assumption) _ _ _ _ _ _ _ _ _ _ _ _ _ _ _ _ _ _ _ _ _ _ _ _ _ _ _ _ _ _ _ _ _ _ _ _ _ _ _ _ _ _ _ _ _ _ _ _ _ _ _ _ _ _ _ _ _ _ _ _ _ _ _ _ _ _ _ _ _ _ _ _ _ _ _ _ _ _ _ _ _ _ _ _ _ _ _ _ _ _ _ _ _ _ _ _ _ _ _ _ _ _ _ _ _ _ _ _ _ _ _ _ _ _ _ _ _ _ _ _ _ _ _ _ _ _ _ _ _ _ _ _ _ _ _ _ _ _ _ _ _ _ _ _ _ _ _ _ _ _ _ _ _ _ _ _ _ _ _ _ _ _ _ _ _ _ _ _ _ _ _ _ _ _ _ _ _ _ _ _ _ _ _ _ _ _ _ _ _ _ _ _ _ _ _ _ _ _ _ _ _ _ _ _ _ _ _ _ _ _ _ _ _ _ _ _ _ _ _ _ _ _ _ _ _ _ _ _ _ _ _ _ _ _ _ _
end Go.Proofs.Ytbdhlokbpbiijaa

/- FI3:
  FnIdentities: the counts. -/
namespace Go.Proofs.Ytbdhlokbpbiijaa
open Go.RowKit
set_option linter.unusedVariables false
set_option linter.unusedSimpArgs false

noncomputable def idnR25 : Go.Code := ((Try.f5.body.bind (regAt 25)).getD .skip)
noncomputable def idnC26 : Go.Code := ((Try.f5.body.bind (fromReg 26)).getD .skip)
set_option maxRecDepth 100000 in
set_option maxHeartbeats 64000000 in
theorem fi3 {a : Option Addr} {len cap : Nat} {w W : World} (hl : len ≤ 1048576) {bF : Nat} {n1 x1 k1 c1 : Int} {r1 : Bool} (CA : KOf n1 x1 r1 c1) {bG : Nat} {n2 x2 c2 : Int} {rI rS rL rN : Bool} (CB : GOf n2 x2 rI rS rL rN c2)
    (st : LawSt w a len [(bG, n2, x2), (bF, n1, x1)] [] W)
    {K1 : Act → World → Prop} (h1 : ∀ aa ww, Code.wp Try.prog idnC26 (bodyPost Try.prog Try.f5 (fun e w' => e = .returned (.bool true) ∧ Below w.heap.size w w')) aa ww → K1 aa ww)
    (u2 u7 u8 u12 u13 u15 u16 u17 u19 u20 u21 u23 u24 u25 u26 u27 u28 u29 u30 u31 u32 u33 u34 u35 u36 u37 u38 u39 u40 u41 u42 u43 u44 u45 u46 u47 u48 u49 u50 u51 u52 u53 u54 u55 u56 u57 u58 u59 u60 u61 u62 u63 u64 u65 u66 u67 u68 u69 u70 u71 u72 u73 u74 u75 u76 u77 u78 u79 u80 u81 u82 u83 u84 u85 u86 u87 u88 u89 u90 u91 u92 u93 u94 u95 u96 u97 u98 u99 u100 u101 u102 u103 u104 u105 u106 u107 u108 u109 u110 u111 u112 u113 u114 u115 u116 u117 u118 u119 u120 u121 u122 u123 u124 u125 u126 u127 u128 u129 u130 u131 u132 u133 u134 u135 u136 u137 u138 u139 u140 u141 u142 u143 u144 u145 u146 u147 u148 u149 u150 u151 u152 u153 u154 u155 u156 u157 u158 u159 u160 u161 u162 u163 u164 u165 u166 u167 u168 u169 u170 u171 u172 u173 u174 u175 u176 u177 u178 u179 u180 u181 u182 u183 u184 u185 u186 u187 u188 u189 u190 u191 u192 u193 u194 u195 u196 u197 u198 u199 u200 u201 u202 u203 u204 u205 u206 u207 u208 u209 u210 u211 u212 u213 u214 u215 u216 u217 u218 u219 u220 u221 u222 u223 u224 u225 u226 u227 u228 u229 u230 u231 u232 u233 u234 u235 u236 u237 u238 u239 u240 u241 : Value) :
    Code.wp Try.prog idnR25 (Exit.then K1 (bodyPost Try.prog Try.f5 (fun e w' => e = .returned (.bool true) ∧ Below w.heap.size w w'))) ⟨#[.slice a len cap, undef, u2, .pointer (some ⟨bF, 0, none⟩), .int .i64 k1, .bool r1, .int .i64 c1, u7, u8, .pointer (some ⟨bG, 0, none⟩), .bool rI, .int .i64 c2, u12, u13, .bool rS, u15, u16, u17, .bool rL, u19, u20, u21, .bool rN, u23, u24, u25, u26, u27, u28, u29, u30, u31, u32, u33, u34, u35, u36, u37, u38, u39, u40, u41, u42, u43, u44, u45, u46, u47, u48, u49, u50, u51, u52, u53, u54, u55, u56, u57, u58, u59, u60, u61, u62, u63, u64, u65, u66, u67, u68, u69, u70, u71, u72, u73, u74, u75, u76, u77, u78, u79, u80, u81, u82, u83, u84, u85, u86, u87, u88, u89, u90, u91, u92, u93, u94, u95, u96, u97, u98, u99, u100, u101, u102, u103, u104, u105, u106, u107, u108, u109, u110, u111, u112, u113, u114, u115, u116, u117, u118, u119, u120, u121, u122, u123, u124, u125, u126, u127, u128, u129, u130, u131, u132, u133, u134, u135, u136, u137, u138, u139, u140, u141, u142, u143, u144, u145, u146, u147, u148, u149, u150, u151, u152, u153, u154, u155, u156, u157, u158, u159, u160, u161, u162, u163, u164, u165, u166, u167, u168, u169, u170, u171, u172, u173, u174, u175, u176, u177, u178, u179, u180, u181, u182, u183, u184, u185, u186, u187, u188, u189, u190, u191, u192, u193, u194, u195, u196, u197, u198, u199, u200, u201, u202, u203, u204, u205, u206, u207, u208, u209, u210, u211, u212, u213, u214, u215, u216, u217, u218, u219, u220, u221, u222, u223, u224, u225, u226, u227, u228, u229, u230, u231, u232, u233, u234, u235, u236, u237, u238, u239, u240, u241], []⟩ W := by
  conv => arg 2; whnf
  dsimp only
  conv at h1 => enter [aa, ww, 1, 2]; whnf
  have st0 := Lib.hid st
  clear st
  have HCA := Lib.hid CA
  clear CA
  have HCB := Lib.hid CB
  clear CB
  have DR := Lib.hid (drawKindCounts_ok (cap := cap) hl W st0.out.C)
  go_wp2_with fail
  refine DR.out.mono ?_
  rintro e w1 ⟨n, rfl, hn, hb1⟩
  have st1 := Lib.hid (st0.out.below hb1)
  clear hb1 DR st0
  obtain ⟨xs, c, hlen, cs, ci, hc⟩ := countsF n
  have CS := Lib.hid cs
  have CI := Lib.hid ci
  have HC := Lib.hid hc
  clear cs ci hc hn
  go_wp2_with fail
  refine (CI.out _).mono ?_
  rintro e w2 ⟨s1, rfl, ho2, hb2⟩
  have st2 := Lib.hid ((st1.out.below hb2).list ho2)
  clear hb2 st1 ho2 CI
  go_wp2_with fail
  refine (CS.out _).mono ?_
  rintro e w3 ⟨s2, rfl, ho3, hb3⟩
  have st3 := Lib.hid ((st2.out.below hb3).list ho3)
  clear hb3 st2 ho3 CS
  have LI := Lib.hid (likeInts_same (xs := xs) (by omega) w3 (st3.out.O (w1.heap.size, s1, xs) (by simp)) (st3.out.O (w2.heap.size, s2, xs) (by simp)))
  rcases HC.out with ⟨rfl, m, q0, q2, q3, rfl, hm, rfl, hle0, hle1⟩ | hne
  · clear HC
    go_upto_region 30 with (go_at_call 14; refine LI.out.mono ?_; rintro e w40 ⟨rfl, hb40⟩; have st40 := Lib.hid (st3.out.below hb40); clear hb40 LI st3)
    have ho := st40.out.O (w1.heap.size, s1, [q0, ((2 ^ (m + 1) : Nat) : Int), q2, q3]) (by simp)
    obtain ⟨g, cap1, rfl⟩ : ∃ g cap1, s1 = .slice (some ⟨g, 0, none⟩) 4 cap1 := by
      rcases ho.shape with ⟨h, _⟩ | ⟨_, g, c, e, _⟩
      · simp at h
      · exact ⟨g, c, e⟩
    have e0 := cell_of_owns ho rfl 0 q0 rfl
    have e1 := cell_of_owns ho rfl 1 ((2 ^ (m + 1) : Nat) : Int) rfl
    have e2 := cell_of_owns ho rfl 2 q2 rfl
    clear ho
    have d0 : decide (q0 < q2) = false := decide_eq_false (by omega)
    have d1 : decide (((2 ^ (m + 1) : Nat) : Int) < q2) = false := decide_eq_false (by omega)
    clear hle0 hle1
    rcases (show m = 0 ∨ m = 1 ∨ m = 2 ∨ m = 3 ∨ m = 4 by omega) with rfl | rfl | rfl | rfl | rfl
    · replace e1 : w40.cell? ⟨g, 1, none⟩ = some (.int .i64 2) := e1
      replace d1 : decide ((2 : Int) < q2) = false := d1
      go_wp2_with fail
      go_quiet (fail)
      go_upto_region 32 with fail
      exact fi2 hl (HCA.out) (HCB.out) ((Lib.hid (st40.out.below (below_drewN (Below.refl _ _) _))).out.less (fun t ht => by simp only [List.mem_cons, List.not_mem_nil, or_false] at ht ⊢; rcases ht with h | h <;> simp [h]) (fun t ht => by simp at ht)) (by assumption) (by assumption) _ _ _ _ _ _ _ _ _ _ _ _ _ _ _ _ _ _ _ _ _ _ _ _ _ _ _ _ _ _ _ _ _ _ _ _ _ _ _ _ _ _ _ _ _ _ _ _ _ _ _ _ _ _ _ _ _ _ _ _ _ _ _ _ _ _ _ _ _ _ _ _ _ _ _ _ _ _ _ _ _ _ _ _ _ _ _ _ _ _ _ _ _ _ _ _ _ _ _ _ _ _ _ _ _ _ _ _ _ _ _ _ _ _ _ _ _ _ _ _ _ _ _ _ _ _ _ _ _ _ _ _ _ _ _ _ _ _ _ _ _ _ _ _ _ _ _ _ _ _ _ _ _ _ _ _ _ _ _ _ _ _ _ _ _ _ _ _ _ _ _ _ _ _ _ _ _ _ _ _ _ _ _ _ _ _ _ _ _ _ _ _ _ _ _ _ _ _ _ _ _ _ _ _ _ _ _ _ _ _ _ _ _ _ _ _ _ _ _ _ _ _ _ _ _ _ _ _ _ _
    · replace e1 : w40.cell? ⟨g, 1, none⟩ = some (.int .i64 4) := e1
      replace d1 : decide ((4 : Int) < q2) = false := d1
      go_wp2_with fail
      go_quiet (fail)
      go_upto_region 32 with fail
      exact fi2 hl (HCA.out) (HCB.out) ((Lib.hid (st40.out.below (below_drewN (Below.refl _ _) _))).out.less (fun t ht => by simp only [List.mem_cons, List.not_mem_nil, or_false] at ht ⊢; rcases ht with h | h <;> simp [h]) (fun t ht => by simp at ht)) (by assumption) (by assumption) _ _ _ _ _ _ _ _ _ _ _ _ _ _ _ _ _ _ _ _ _ _ _ _ _ _ _ _ _ _ _ _ _ _ _ _ _ _ _ _ _ _ _ _ _ _ _ _ _ _ _ _ _ _ _ _ _ _ _ _ _ _ _ _ _ _ _ _ _ _ _ _ _ _ _ _ _ _ _ _ _ _ _ _ _ _ _ _ _ _ _ _ _ _ _ _ _ _ _ _ _ _ _ _ _ _ _ _ _ _ _ _ _ _ _ _ _ _ _ _ _ _ _ _ _ _ _ _ _ _ _ _ _ _ _ _ _ _ _ _ _ _ _ _ _ _ _ _ _ _ _ _ _ _ _ _ _ _ _ _ _ _ _ _ _ _ _ _ _ _ _ _ _ _ _ _ _ _ _ _ _ _ _ _ _ _ _ _ _ _ _ _ _ _ _ _ _ _ _ _ _ _ _ _ _ _ _ _ _ _ _ _ _ _ _ _ _ _ _ _ _ _ _ _ _ _ _ _ _ _
    · replace e1 : w40.cell? ⟨g, 1, none⟩ = some (.int .i64 8) := e1
      replace d1 : decide ((8 : Int) < q2) = false := d1
      go_wp2_with fail
      go_quiet (fail)
      go_upto_region 32 with fail
      exact fi2 hl (HCA.out) (HCB.out) ((Lib.hid (st40.out.below (below_drewN (Below.refl _ _) _))).out.less (fun t ht => by simp only [List.mem_cons, List.not_mem_nil, or_false] at ht ⊢; rcases ht with h | h <;> simp [h]) (fun t ht => by simp at ht)) (by assumption) (by assumption) _ _ _ _ _ _ _ _ _ _ _ _ _ _ _ _ _ _ _ _ _ _ _ _ _ _ _ _ _ _ _ _ _ _ _ _ _ _ _ _ _ _ _ _ _ _ _ _ _ _ _ _ _ _ _ _ _ _ _ _ _ _ _ _ _ _ _ _ _ _ _ _ _ _ _ _ _ _ _ _ _ _ _ _ _ _ _ _ _ _ _ _ _ _ _ _ _ _ _ _ _ _ _ _ _ _ _ _ _ _ _ _ _ _ _ _ _ _ _ _ _ _ _ _ _ _ _ _ _ _ _ _ _ _ _ _ _ _ _ _ _ _ _ _ _ _ _ _ _ _ _ _ _ _ _ _ _ _ _ _ _ _ _ _ _ _ _ _ _ _ _ _ _ _ _ _ _ _ _ _ _ _ _ _ _ _ _ _ _ _ _ _ _ _ _ _ _ _ _ _ _ _ _ _ _ _ _ _ _ _ _ _ _ _ _ _ _ _ _ _ _ _ _ _ _ _ _ _ _ _
    · replace e1 : w40.cell? ⟨g, 1, none⟩ = some (.int .i64 16) := e1
      replace d1 : decide ((16 : Int) < q2) = false := d1
      go_wp2_with fail
      go_quiet (fail)
      go_upto_region 32 with fail
      exact fi2 hl (HCA.out) (HCB.out) ((Lib.hid (st40.out.below (below_drewN (Below.refl _ _) _))).out.less (fun t ht => by simp only [List.mem_cons, List.not_mem_nil, or_false] at ht ⊢; rcases ht with h | h <;> simp [h]) (fun t ht => by simp at ht)) (by assumption) (by assumption) _ _ _ _ _ _ _ _ _ _ _ _ _ _ _ _ _ _ _ _ _ _ _ _ _ _ _ _ _ _ _ _ _ _ _ _ _ _ _ _ _ _ _ _ _ _ _ _ _ _ _ _ _ _ _ _ _ _ _ _ _ _ _ _ _ _ _ _ _ _ _ _ _ _ _ _ _ _ _ _ _ _ _ _ _ _ _ _ _ _ _ _ _ _ _ _ _ _ _ _ _ _ _ _ _ _ _ _ _ _ _ _ _ _ _ _ _ _ _ _ _ _ _ _ _ _ _ _ _ _ _ _ _ _ _ _ _ _ _ _ _ _ _ _ _ _ _ _ _ _ _ _ _ _ _ _ _ _ _ _ _ _ _ _ _ _ _ _ _ _ _ _ _ _ _ _ _ _ _ _ _ _ _ _ _ _ _ _ _ _ _ _ _ _ _ _ _ _ _ _ _ _ _ _ _ _ _ _ _ _ _ _ _ _ _ _ _ _ _ _ _ _ _ _ _ _ _ _ _ _
    · replace e1 : w40.cell? ⟨g, 1, none⟩ = some (.int .i64 32) := e1
      replace d1 : decide ((32 : Int) < q2) = false := d1
      go_wp2_with fail
      go_quiet (fail)
      go_upto_region 32 with fail
      exact fi2 hl (HCA.out) (HCB.out) ((Lib.hid (st40.out.below (below_drewN (Below.refl _ _) _))).out.less (fun t ht => by simp only [List.mem_cons, List.not_mem_nil, or_false] at ht ⊢; rcases ht with h | h <;> simp [h]) (fun t ht => by simp at ht)) (by assumption) (by assumption) _ _ _ _ _ _ _ _ _ _ _ _ _ _ _ _ _ _ _ _ _ _ _ _ _ _ _ _ _ _ _ _ _ _ _ _ _ _ _ _ _ _ _ _ _ _ _ _ _ _ _ _ _ _ _ _ _ _ _ _ _ _ _ _ _ _ _ _ _ _ _ _ _ _ _ _ _ _ _ _ _ _ _ _ _ _ _ _ _ _ _ _ _ _ _ _ _ _ _ _ _ _ _ _ _ _ _ _ _ _ _ _ _ _ _ _ _ _ _ _ _ _ _ _ _ _ _ _ _ _ _ _ _ _ _ _ _ _ _ _ _ _ _ _ _ _ _ _ _ _ _ _ _ _ _ _ _ _ _ _ _ _ _ _ _ _ _ _ _ _ _ _ _ _ _ _ _ _ _ _ _ _ _ _ _ _ _ _ _ _ _ _ _ _ _ _ _ _ _ _ _ _ _ _ _ _ _ _ _ _ _ _ _ _ _ _ _ _ _ _ _ _ _ _ _ _ _ _ _ _
  · have hq : (c == 0) = false := by simp [hne]
    clear HC
    go_upto_region 30 with (go_at_call 14; refine LI.out.mono ?_; rintro e w40 ⟨rfl, hb40⟩; have st40 := Lib.hid (st3.out.below hb40); clear hb40 LI st3)
    go_quiet (fail)
    go_upto_region 32 with fail
    exact fi2 hl (HCA.out) (HCB.out) ((Lib.hid (st40.out.below (below_drewN (Below.refl _ _) _))).out.less (fun t ht => by simp only [List.mem_cons, List.not_mem_nil, or_false] at ht ⊢; rcases ht with h | h <;> simp [h]) (fun t ht => by simp at ht)) (by assumption) (by assumption) _ _ _ _ _ _ _ _ _ _ _ _ _ _ _ _ _ _ _ _ _ _ _ _ _ _ _ _ _ _ _ _ _ _ _ _ _ _ _ _ _ _ _ _ _ _ _ _ _ _ _ _ _ _ _ _ _ _ _ _ _ _ _ _ _ _ _ _ _ _ _ _ _ _ _ _ _ _ _ _ _ _ _ _ _ _ _ _ _ _ _ _ _ _ _ _ _ _ _ _ _ _ _ _ _ _ _ _ _ _ _ _ _ _ _ _ _ _ _ _ _ _ _ _ _ _ _ _ _ _ _ _ _ _ _ _ _ _ _ _ _ _ _ _ _ _ _ _ _ _ _ _ _ _ _ _ _ _ _ _ _ _ _ _ _ _ _ _ _ _ _ _ _ _ _ _ _ _ _ _ _ _ _ _ _ _ _ _ _ _ _ _ _ _ _ _ _ _ _ _ _ _ _ _ _ _ _ _ _ _ _ _ _ _ _ _ _ _ _ _ _ _ _ _ _ _ _ _ _ _
end Go.Proofs.Ytbdhlokbpbiijaa

/- FI4:
  FnIdentities: the second function. -/
namespace Go.Proofs.Ytbdhlokbpbiijaa
open Go.RowKit
set_option linter.unusedVariables false
set_option linter.unusedSimpArgs false

noncomputable def idnR8 : Go.Code := ((Try.f5.body.bind (regAt 8)).getD .skip)
noncomputable def idnC9 : Go.Code := ((Try.f5.body.bind (fromReg 9)).getD .skip)
set_option maxRecDepth 100000 in
set_option maxHeartbeats 64000000 in
theorem fi4 {a : Option Addr} {len cap : Nat} {w W : World} (hl : len ≤ 1048576) {bF : Nat} {n1 x1 k1 c1 : Int} {r1 : Bool} (CA : KOf n1 x1 r1 c1)
    (st : LawSt w a len [(bF, n1, x1)] [] W)
    {K1 : Act → World → Prop} (h1 : ∀ aa ww, Code.wp Try.prog idnC9 (bodyPost Try.prog Try.f5 (fun e w' => e = .returned (.bool true) ∧ Below w.heap.size w w')) aa ww → K1 aa ww)
    (u2 u7 u8 u9 u10 u11 u12 u13 u14 u15 u16 u17 u18 u19 u20 u21 u22 u23 u24 u25 u26 u27 u28 u29 u30 u31 u32 u33 u34 u35 u36 u37 u38 u39 u40 u41 u42 u43 u44 u45 u46 u47 u48 u49 u50 u51 u52 u53 u54 u55 u56 u57 u58 u59 u60 u61 u62 u63 u64 u65 u66 u67 u68 u69 u70 u71 u72 u73 u74 u75 u76 u77 u78 u79 u80 u81 u82 u83 u84 u85 u86 u87 u88 u89 u90 u91 u92 u93 u94 u95 u96 u97 u98 u99 u100 u101 u102 u103 u104 u105 u106 u107 u108 u109 u110 u111 u112 u113 u114 u115 u116 u117 u118 u119 u120 u121 u122 u123 u124 u125 u126 u127 u128 u129 u130 u131 u132 u133 u134 u135 u136 u137 u138 u139 u140 u141 u142 u143 u144 u145 u146 u147 u148 u149 u150 u151 u152 u153 u154 u155 u156 u157 u158 u159 u160 u161 u162 u163 u164 u165 u166 u167 u168 u169 u170 u171 u172 u173 u174 u175 u176 u177 u178 u179 u180 u181 u182 u183 u184 u185 u186 u187 u188 u189 u190 u191 u192 u193 u194 u195 u196 u197 u198 u199 u200 u201 u202 u203 u204 u205 u206 u207 u208 u209 u210 u211 u212 u213 u214 u215 u216 u217 u218 u219 u220 u221 u222 u223 u224 u225 u226 u227 u228 u229 u230 u231 u232 u233 u234 u235 u236 u237 u238 u239 u240 u241 : Value) :
    Code.wp Try.prog idnR8 (Exit.then K1 (bodyPost Try.prog Try.f5 (fun e w' => e = .returned (.bool true) ∧ Below w.heap.size w w'))) ⟨#[.slice a len cap, undef, u2, .pointer (some ⟨bF, 0, none⟩), .int .i64 k1, .bool r1, .int .i64 c1, u7, u8, u9, u10, u11, u12, u13, u14, u15, u16, u17, u18, u19, u20, u21, u22, u23, u24, u25, u26, u27, u28, u29, u30, u31, u32, u33, u34, u35, u36, u37, u38, u39, u40, u41, u42, u43, u44, u45, u46, u47, u48, u49, u50, u51, u52, u53, u54, u55, u56, u57, u58, u59, u60, u61, u62, u63, u64, u65, u66, u67, u68, u69, u70, u71, u72, u73, u74, u75, u76, u77, u78, u79, u80, u81, u82, u83, u84, u85, u86, u87, u88, u89, u90, u91, u92, u93, u94, u95, u96, u97, u98, u99, u100, u101, u102, u103, u104, u105, u106, u107, u108, u109, u110, u111, u112, u113, u114, u115, u116, u117, u118, u119, u120, u121, u122, u123, u124, u125, u126, u127, u128, u129, u130, u131, u132, u133, u134, u135, u136, u137, u138, u139, u140, u141, u142, u143, u144, u145, u146, u147, u148, u149, u150, u151, u152, u153, u154, u155, u156, u157, u158, u159, u160, u161, u162, u163, u164, u165, u166, u167, u168, u169, u170, u171, u172, u173, u174, u175, u176, u177, u178, u179, u180, u181, u182, u183, u184, u185, u186, u187, u188, u189, u190, u191, u192, u193, u194, u195, u196, u197, u198, u199, u200, u201, u202, u203, u204, u205, u206, u207, u208, u209, u210, u211, u212, u213, u214, u215, u216, u217, u218, u219, u220, u221, u222, u223, u224, u225, u226, u227, u228, u229, u230, u231, u232, u233, u234, u235, u236, u237, u238, u239, u240, u241], []⟩ W := by
  conv => arg 2; whnf
  dsimp only
  conv at h1 => enter [aa, ww, 1, 2]; whnf
  have st0 := Lib.hid st
  clear st
  have HCA := Lib.hid CA
  clear CA
  have DR := Lib.hid (drawIsIdempotent_ok (cap := cap) hl W st0.out.C)
  go_wp2_with fail
  refine DR.out.mono ?_
  rintro e w1 ⟨n2, x2, rfl, hn, hx, hb1⟩
  have st1 := Lib.hid (st0.out.below hb1)
  clear hb1 DR st0
  clear hn hx
  obtain ⟨W2, hW2⟩ : ∃ W2, w1.alloc (.cells #[.int .i64 n2, .int .i64 x2] 25) = W2 := ⟨_, rfl⟩
  have st2 := Lib.hid (show LawSt w a len [(w1.heap.size, n2, x2), (bF, n1, x1)] [] W2 by rw [← hW2]; exact st1.out.box n2 x2 25)
  clear st1
  obtain ⟨rI, rS, rL, rN, c2, ⟨a1, b1⟩, ⟨a2, b2⟩, ⟨a3, b3⟩, ⟨a4, b4⟩, hg⟩ := gF n2 x2
  have A1 := Lib.hid a1
  have B1 := Lib.hid b1
  clear a1 b1
  have A2 := Lib.hid a2
  have B2 := Lib.hid b2
  clear a2 b2
  have A3 := Lib.hid a3
  have B3 := Lib.hid b3
  clear a3 b3
  have A4 := Lib.hid a4
  have B4 := Lib.hid b4
  clear a4 b4
  have HCB := Lib.hid hg
  clear hg
  have p0 := (st2.out.B (w1.heap.size, n2, x2) (by simp)).1
  have p1 := (st2.out.B (w1.heap.size, n2, x2) (by simp)).2
  go_wp2_with fail
  clear hW2
  refine (B1.out _).mono ?_
  rintro e w3 ⟨rfl, hb3⟩
  have st3 := Lib.hid (st2.out.below hb3)
  clear hb3 st2 B1
  clear p0 p1
  have p0 := (st3.out.B (w1.heap.size, n2, x2) (by simp)).1
  have p1 := (st3.out.B (w1.heap.size, n2, x2) (by simp)).2
  go_wp2_with fail
  refine (A1.out _).mono ?_
  rintro e w4 ⟨rfl, hb4⟩
  have st4 := Lib.hid (st3.out.below hb4)
  clear hb4 st3 A1
  clear p0 p1
  have p0 := (st4.out.B (w1.heap.size, n2, x2) (by simp)).1
  have p1 := (st4.out.B (w1.heap.size, n2, x2) (by simp)).2
  go_wp2_with fail
  refine (B2.out _).mono ?_
  rintro e w5 ⟨rfl, hb5⟩
  have st5 := Lib.hid (st4.out.below hb5)
  clear hb5 st4 B2
  clear p0 p1
  have p0 := (st5.out.B (w1.heap.size, n2, x2) (by simp)).1
  have p1 := (st5.out.B (w1.heap.size, n2, x2) (by simp)).2
  go_wp2_with fail
  refine (A2.out _).mono ?_
  rintro e w6 ⟨rfl, hb6⟩
  have st6 := Lib.hid (st5.out.below hb6)
  clear hb6 st5 A2
  clear p0 p1
  have p0 := (st6.out.B (w1.heap.size, n2, x2) (by simp)).1
  have p1 := (st6.out.B (w1.heap.size, n2, x2) (by simp)).2
  go_wp2_with fail
  refine (B3.out _).mono ?_
  rintro e w7 ⟨rfl, hb7⟩
  have st7 := Lib.hid (st6.out.below hb7)
  clear hb7 st6 B3
  clear p0 p1
  have p0 := (st7.out.B (w1.heap.size, n2, x2) (by simp)).1
  have p1 := (st7.out.B (w1.heap.size, n2, x2) (by simp)).2
  go_wp2_with fail
  refine (A3.out _).mono ?_
  rintro e w8 ⟨rfl, hb8⟩
  have st8 := Lib.hid (st7.out.below hb8)
  clear hb8 st7 A3
  clear p0 p1
  have p0 := (st8.out.B (w1.heap.size, n2, x2) (by simp)).1
  have p1 := (st8.out.B (w1.heap.size, n2, x2) (by simp)).2
  go_wp2_with fail
  refine (B4.out _).mono ?_
  rintro e w9 ⟨rfl, hb9⟩
  have st9 := Lib.hid (st8.out.below hb9)
  clear hb9 st8 B4
  clear p0 p1
  have p0 := (st9.out.B (w1.heap.size, n2, x2) (by simp)).1
  have p1 := (st9.out.B (w1.heap.size, n2, x2) (by simp)).2
  go_wp2_with fail
  refine (A4.out _).mono ?_
  rintro e w10 ⟨rfl, hb10⟩
  have st10 := Lib.hid (st9.out.below hb10)
  clear hb10 st9 A4
  clear p0 p1
  go_upto_region 25 with fail
  exact fi3 hl (HCA.out) (HCB.out) (st10.out.less (fun t ht => by simp only [List.mem_cons, List.not_mem_nil, or_false] at ht ⊢; rcases ht with h | h <;> simp [h]) (fun t ht => by simp at ht)) (by assumption) _ _ _ _ _ _ _ _ _ _ _ _ _ _ _ _ _ _ _ _ _ _ _ _ _ _ _ _ _ _ _ _ _ _ _ _ _ _ _ _ _ _ _ _ _ _ _ _ _ _ _ _ _ _ _ _ _ _ _ _ _ _ _ _ _ _ _ _ _ _ _ _ _ _ _ _ _ _ _ _ _ _ _ _ _ _ _ _ _ _ _ _ _ _ _ _ _ _ _ _ _ _ _ _ _ _ _ _ _ _ _ _ _ _ _ _ _ _ _ _ _ _ _ _ _ _ _ _ _ _ _ _ _ _ _ _ _ _ _ _ _ _ _ _ _ _ _ _ _ _ _ _ _ _ _ _ _ _ _ _ _ _ _ _ _ _ _ _ _ _ _ _ _ _ _ _ _ _ _ _ _ _ _ _ _ _ _ _ _ _ _ _ _ _ _ _ _ _ _ _ _ _ _ _ _ _ _ _ _ _ _ _ _ _ _ _ _ _ _ _ _ _ _ _ _ _ _ _ _ _
end Go.Proofs.Ytbdhlokbpbiijaa

/- FFnIdentities:
  The walk of FnIdentities. -/
namespace Go.Proofs.Ytbdhlokbpbiijaa
open Go.RowKit
set_option linter.unusedVariables false
set_option linter.unusedSimpArgs false

set_option maxRecDepth 100000 in
set_option maxHeartbeats 64000000 in
theorem fnIdentities_walk {a : Option Addr} {len cap : Nat} (w : World) (C : Code w a len) :
    Calls Try.prog 5 #[.slice a len cap] w fun e w' => e = .returned (.bool true) ∧ Below w.heap.size w w' := by
  by_cases hbig : 4096 < len
  · have hq : decide (4096 < len) = true := by simpa using hbig
    go_enter Try.func5, Try.ntmps5
    go_wp2_with (go_at_call 10; refine (big_ok _).mono ?_; rintro e w' ⟨rfl, rfl⟩)
    go_ret
    exact ⟨rfl, Below.refl _ _⟩
  · have hq : decide (4096 < len) = false := by simpa using hbig
    have hl : len ≤ 1048576 := by omega
    have st0 := Lib.hid (LawSt.start C)
    have DR := Lib.hid (drawIsOfKind_ok (cap := cap) hl w C)
    clear C
    go_enter Try.func5, Try.ntmps5
    go_wp2_with (go_at_call 10; refine (big_ok _).mono ?_; rintro e w' ⟨rfl, rfl⟩)
    refine DR.out.mono ?_
    rintro e w1 ⟨n, x, k, rfl, hn, hk, hb1⟩
    have st1 := Lib.hid (st0.out.below hb1)
    clear hb1 DR st0 hn hk
    obtain ⟨r1, c1, cs, ci, hc⟩ := kindF n x k
    have CS := Lib.hid cs
    have CI := Lib.hid ci
    have HCA := Lib.hid hc
    clear cs ci hc
    obtain ⟨W2, hW2⟩ : ∃ W2, w1.alloc (.cells #[.int .i64 n, .int .i64 x] 25) = W2 := ⟨_, rfl⟩
    have st2 := Lib.hid (show LawSt w a len [(w1.heap.size, n, x)] [] W2 by rw [← hW2]; exact st1.out.box n x 25)
    clear st1
    have p0 := (st2.out.B (w1.heap.size, n, x) (by simp)).1
    have p1 := (st2.out.B (w1.heap.size, n, x) (by simp)).2
    go_wp2_with fail
    clear hW2
    refine (CI.out _).mono ?_
    rintro e w3 ⟨rfl, hb3⟩
    have st3 := Lib.hid (st2.out.below hb3)
    clear hb3 st2 CI
    clear p0 p1
    have p0 := (st3.out.B (w1.heap.size, n, x) (by simp)).1
    have p1 := (st3.out.B (w1.heap.size, n, x) (by simp)).2
    go_wp2_with fail
    refine (CS.out _).mono ?_
    rintro e w4 ⟨rfl, hb4⟩
    have st4 := Lib.hid (st3.out.below hb4)
    clear hb4 st3 CS
    clear p0 p1
    go_upto_region 8 with fail
    exact fi4 hl (HCA.out) (st4.out.less (fun t ht => by simp only [List.mem_cons, List.not_mem_nil, or_false] at ht ⊢; first | (subst ht; simp) | simp [ht]) (fun t ht => by simp at ht)) (by assumption) _ _ _ _ _ _ _ _ _ _ _ _ _ _ _ _ _ _ _ _ _ _ _ _ _ _ _ _ _ _ _ _ _ _ _ _ _ _ _ _ _ _ _ _ _ _ _ _ _ _ _ _ _ _ _ _ _ _ _ _ _ _ _ _ _ _ _ _ _ _ _ _ _ _ _ _ _ _ _ _ _ _ _ _ _ _ _ _ _ _ _ _ _ _ _ _ _ _ _ _ _ _ _ _ _ _ _ _ _ _ _ _ _ _ _ _ _ _ _ _ _ _ _ _ _ _ _ _ _ _ _ _ _ _ _ _ _ _ _ _ _ _ _ _ _ _ _ _ _ _ _ _ _ _ _ _ _ _ _ _ _ _ _ _ _ _ _ _ _ _ _ _ _ _ _ _ _ _ _ _ _ _ _ _ _ _ _ _ _ _ _ _ _ _ _ _ _ _ _ _ _ _ _ _ _ _ _ _ _ _ _ _ _ _ _ _ _ _ _ _ _ _ _ _ _ _ _ _ _ _ _ _ _ _ _ _
end Go.Proofs.Ytbdhlokbpbiijaa
