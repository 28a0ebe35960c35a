/-
  The texts CM4, AB3, CC3, KSh, KCo, CE1, CC4, NR1, NR2 in one.
-/
import Derived.Test.YtdgpjpcdifpllaaMPCentraliserOf5

/- CM4:
  l10Commute of the model by contract. -/
namespace Go.Proofs.Ytdgpjpcdifpllaa
open Go.RowKit Go.Shelf
set_option linter.unusedVariables false
set_option linter.unusedSimpArgs false

/-- The model's memory while it looks at tables: both functions' boxes. -/
structure ComM (w : World) (m x P y : Nat) (W : World) : Prop where
  f0 : W.cell? ⟨w.heap.size, 0, none⟩ = some (.int .i64 (m : Int))
  f1 : W.cell? ⟨w.heap.size, 1, none⟩ = some (.int .i64 (x : Int))
  g0 : W.cell? ⟨w.heap.size + 1, 0, none⟩ = some (.int .i64 (P : Int))
  g1 : W.cell? ⟨w.heap.size + 1, 1, none⟩ = some (.int .i64 (y : Int))
  b : Below w.heap.size w W
theorem ComM.below {w W W' : World} {m x P y : Nat} (h : ComM w m x P y W) (hb : Below W.heap.size W W') : ComM w m x P y W' := ⟨kc hb h.f0, kc hb h.f1, kc hb h.g0, kc hb h.g1, bthen h.b hb⟩
theorem ComM.drew {w W : World} {m x P y : Nat} (h : ComM w m x P y W) : ComM w m x P y W.drew := h.below (Below.refl _ _).drew

set_option maxHeartbeats 1000000 in
theorem l01Rows_pow (k T : Nat) (hk : k ≤ 40) (hT : T = 2 ^ k) (w : World) :
    Calls Try.prog 106 #[.int .i64 (k : Int)] w fun e w' => e = .returned (.int .i64 (T : Int)) ∧ w = w' := by
  have hu : IntKind.u64.wrap (k : Int) = (k : Int) := by simp [IntKind.wrap, IntKind.bits, IntKind.signed]; omega
  have hlt : T < 2 ^ 62 := by rw [hT]; exact Nat.pow_lt_pow_right (by decide) (by omega)
  have e : (2 : Int) ^ k = (T : Int) := by rw [hT]; push_cast; rfl
  have hv : wrap64 ((2 : Int) ^ k) = (T : Int) := by rw [e, w64]; exact wrap64_small (by omega) (by omega)
  have hv2 : IntKind.i64.wrap ((2 : Int) ^ k) = (T : Int) := by rw [e]; exact wrap64_small (by omega) (by omega)
  clear hlt e hT
  go_enter Try.func106, Try.ntmps106
  go_wp2
  go_ret
  exact ⟨by first | rfl | (rw [← hv]; rfl) | (rw [← hv2]; rfl), rfl⟩

theorem row_and (t s P q : Nat) (ht : t < 2 ^ 62) (hq : q = 2 ^ P - 1) (hP : P ≤ 4) : bits .and .i64 ((t : Int) / 2 ^ s) (q : Int) = ((t / 2 ^ s % 2 ^ P : Nat) : Int) := by
  have h16 : 2 ^ P ≤ 2 ^ 4 := Nat.pow_le_pow_right (by decide) hP
  rw [shr_nat, bits_and_i64 _ _ (Nat.lt_of_le_of_lt (Nat.div_le_self _ _) ht) (by omega), hq, Nat.and_two_pow_sub_one_eq_mod]

set_option maxRecDepth 100000 in
set_option maxHeartbeats 8000000 in
theorem l10Commute_any {x R m : Nat} (ok : FOk (m : Int) x R) (m4 : m ≤ 4) {y Q P : Nat} (okg : FOk (P : Int) y Q) (w : World) :
    Calls Try.prog 86 #[.agg #[.int .i64 m, .int .i64 x], .agg #[.int .i64 P, .int .i64 y]] w fun e w' => e = .returned (.bool (comB x y m P Q)) ∧ Below w.heap.size w w' := by
  have hQ : Q = 2 ^ P := by have := okg.he; simpa using this
  have P4 : P ≤ 4 := by have := okg.h4; omega
  have e0 : comB x y m P Q = commTo x y m P (2 ^ (m * P)) := by rw [hQ]; exact comB_is x y m P
  rw [e0]
  clear e0
  obtain ⟨T, hT⟩ : ∃ T, T = 2 ^ (m * P) := ⟨_, rfl⟩
  have hMP : m * P ≤ 16 := Nat.mul_le_mul m4 P4
  have T16 : T ≤ 65536 := by rw [hT]; exact Nat.pow_le_pow_right (by decide) hMP
  rw [← hT]
  obtain ⟨q, hq⟩ : ∃ q, q = 2 ^ P - 1 := ⟨_, rfl⟩
  have hQ0 := okg.r0
  have hQ16 := okg.r16
  have hqw : IntKind.i64.wrap ((Q : Int) - 1) = (q : Int) := by rw [show (Q : Int) - 1 = (q : Int) by omega]; exact wrap64_small (by omega) (by omega)
  have hmp : IntKind.i64.wrap ((m : Int) * (P : Int)) = ((m * P : Nat) : Int) := by rw [show (m : Int) * (P : Int) = ((m * P : Nat) : Int) by push_cast; rfl]; exact wrap64_small (by omega) (by omega)
  have RT := Lib.hid (fun W => l01Rows_pow (m * P) T (by omega) hT W)
  have RQ := Lib.hid (fun W => l01Rows_is okg.h0 okg.h4 okg.hR W)
  have HQ := Lib.hid hq
  have hox := ok.hx
  have hoy := okg.hx
  have HIP := Lib.hid (fun (i : Nat) (hi : i < m) => (show i * P + P ≤ 16 by
    have h1 : (i + 1) * P ≤ m * P := Nat.mul_le_mul_right P hi
    rw [Nat.add_mul, Nat.one_mul] at h1; omega))
  generalize m * P = M at hmp RT hMP
  clear hT hq hQ
  obtain ⟨W1, hW1⟩ : ∃ W1, (w.alloc (.cells #[.int .i64 m, .int .i64 x] 23)).alloc (.cells #[.int .i64 P, .int .i64 y] 23) = W1 := ⟨_, rfl⟩
  have hM : ComM w m x P y W1 := by
    rw [← hW1]
    exact ⟨by simp [go_sem], by simp [go_sem], by simp [go_sem], by simp [go_sem], balloc (bnew _ _) _⟩
  have a0 := hM.f0
  have a1 := hM.f1
  have b0 := hM.g0
  have b1 := hM.g1
  go_enter Try.func86, Try.ntmps86
  go_wp2
  go_quiet (fail)
  go_wp2
  clear a0 a1 b0 b1 hW1
  have hM2 : ComM w m x P y (W1.drewN nq) := hM.below (below_drewN (Below.refl _ _) _)
  clear hM
  go_loopw [7] (fun t' wr => ∃ t : Nat, t ≤ T ∧ t' = .int .i64 t ∧ Hid (commTo x y m P t = true) ∧ ComM w m x P y wr) (fun t' _ => T - (intOf t').toNat)
  case atStart => exact ⟨0, by omega, rfl, Lib.hid rfl, hM2⟩
  case round =>
    clear hM2
    obtain ⟨t, ht, rfl, hcm, hM⟩ := hrel
    obtain ⟨wo, rfl⟩ : ∃ wo : World, wo = wr := ⟨_, rfl⟩
    by_cases hlt : t < T
    · have HN := fun (h : comT x y m P t = true) => Lib.hid (show commTo x y m P (t + 1) = true by rw [commTo_succ, hcm.out, h]; rfl)
      have HF := fun (h : comT x y m P t = false) => Lib.hid (show commTo x y m P T = false by
        cases hc : commTo x y m P T
        · rfl
        · have := allLt_iff.1 hc t hlt
          rw [h] at this
          cases this)
      have HN2 := Lib.hid HN
      have HF2 := Lib.hid HF
      clear HN HF
      have ht62 : t < 2 ^ 62 := by omega
      go_wp2_with (go_at_call 106; with_reducible refine (RT.out _).mono ?_; rintro e w' ⟨rfl, rfl⟩)
      go_loopw [8, 10] (fun s' i' wr => ∃ i : Nat, i ≤ m ∧ i' = .int .i64 i ∧ s' = .int .i64 (sumN (fun i => bitN y (rowT t P i)) i : Int) ∧ ComM w m x P y wr) (fun _ i' _ => m - (intOf i').toNat)
      case atStart => exact ⟨0, by omega, rfl, rfl, hM⟩
      case round =>
        clear hM
        obtain ⟨i, hi, rfl, rfl, hM⟩ := hrel
        by_cases hli : i < m
        · have hs16 := HIP.out i hli
          have hip : IntKind.i64.wrap ((i : Int) * (P : Int)) = ((i * P : Nat) : Int) := by rw [show (i : Int) * (P : Int) = ((i * P : Nat) : Int) by push_cast; rfl]; exact wrap64_small (by omega) (by omega)
          have HR := row_and t (i * P) P q ht62 HQ.out P4
          have hrl := rowT_lt t P i
          have hr16 : rowT t P i < 62 := Nat.lt_of_lt_of_le hrl (Nat.le_trans (Nat.pow_le_pow_right (by decide) P4) (by decide))
          have OS := Lib.hid (or_sum (fun i => bitN y (rowT t P i)) i (by omega) (fun r _ => bitN_le _ _))
          have AT := Lib.hid (fun W => l01At_any (P : Int) y (rowT t P i) hoy hr16 W)
          have hu : IntKind.u64.wrap ((i * P : Nat) : Int) = ((i * P : Nat) : Int) := by simp only [IntKind.wrap, IntKind.bits, IntKind.signed]; simp; omega
          have hui : IntKind.u64.wrap (i : Int) = (i : Int) := by simp [IntKind.wrap, IntKind.bits, IntKind.signed]; omega
          change bits .and .i64 ((t : Int) / 2 ^ (i * P)) (q : Int) = (rowT t P i : Int) at HR
          have b0 := hM.g0
          have b1 := hM.g1
          have hbl := bitN_le y (rowT t P i)
          have HM := Lib.hid hM
          clear hrl hM
          generalize i * P = s at hip HR hu hs16
          generalize bitN y (rowT t P i) = vb at AT OS hbl
          generalize rowT t P i = rr at HR AT hr16
          go_wp2_with (first
            | (go_at_call 106; with_reducible refine (RQ.out _).mono ?_; rintro e w' ⟨rfl, rfl⟩)
            | (go_at_call 107; with_reducible refine (AT.out _).mono ?_; rintro e w2 ⟨rfl, hb2⟩; have hM2 := HM.out.below hb2))
          go_roundw
          case rel => exact ⟨i + 1, by omega, by go_num, by rw [← OS.out], hM2⟩
          case measure => simp [intOf]; omega
        · obtain rfl : i = m := by omega
          obtain ⟨F, hF⟩ : ∃ F, F = fstT y t P i := ⟨_, rfl⟩
          have hF2 : sumN (fun j => bitN y (rowT t P j)) i = F := by rw [hF]; rfl
          rw [hF2]
          have hFl : F < 16 := by
            rw [hF]
            exact Nat.lt_of_lt_of_le (sumN_lt _ _ (fun _ _ => bitN_le _ _)) (by exact Nat.pow_le_pow_right (by decide) m4)
          have HFD := Lib.hid hF
          clear hF hF2
          go_wp2
          obtain ⟨wi, rfl⟩ : ∃ wi : World, wi = wr := ⟨_, rfl⟩
          go_loopw [9, 12] (fun s' k' wr => ∃ k : Nat, k ≤ P ∧ k' = .int .i64 k ∧ s' = .int .i64 (sumN (fun k => bitN x (colT t P i k)) k : Int) ∧ ComM w i x P y wr) (fun _ k' _ => P - (intOf k').toNat)
          case atStart => exact ⟨0, by omega, rfl, rfl, hM⟩
          case round =>
            clear hM
            obtain ⟨k, hk, rfl, rfl, hM⟩ := hrel
            by_cases hlk : k < P
            · go_wp2
              go_loopw [13, 14] (fun c' j' wq => wq = wr ∧ ∃ j : Nat, j ≤ i ∧ j' = .int .i64 j ∧ c' = .int .i64 (sumN (fun j => bitN t (j * P + k)) j : Int)) (fun _ j' _ => i - (intOf j').toNat)
              case atStart => exact ⟨rfl, 0, by omega, rfl, rfl⟩
              case round =>
                obtain ⟨rfl, j, hj, rfl, rfl⟩ := hrel
                by_cases hlj : j < i
                · have hs16 := HIP.out j hlj
                  have hjp : IntKind.i64.wrap ((j : Int) * (P : Int)) = ((j * P : Nat) : Int) := by rw [show (j : Int) * (P : Int) = ((j * P : Nat) : Int) by push_cast; rfl]; exact wrap64_small (by omega) (by omega)
                  have hjk : IntKind.i64.wrap (((j * P : Nat) : Int) + (k : Int)) = ((j * P + k : Nat) : Int) := by rw [show ((j * P : Nat) : Int) + (k : Int) = ((j * P + k : Nat) : Int) by push_cast; rfl]; exact wrap64_small (by omega) (by omega)
                  have hu : IntKind.u64.wrap ((j * P + k : Nat) : Int) = ((j * P + k : Nat) : Int) := by simp only [IntKind.wrap, IntKind.bits, IntKind.signed]; simp; omega
                  have huj : IntKind.u64.wrap (j : Int) = (j : Int) := by simp [IntKind.wrap, IntKind.bits, IntKind.signed]; omega
                  have hs62 : j * P + k < 62 := by omega
                  have HD := digit_eq t (j * P + k) ht62
                  have OS := Lib.hid (or_sum (fun j => bitN t (j * P + k)) j (by omega) (fun r _ => bitN_le _ _))
                  have hbl := bitN_le t (j * P + k)
                  clear hs16
                  generalize bitN t (j * P + k) = vb at HD OS hbl
                  generalize j * P + k = s2 at hjk HD hu hs62
                  generalize j * P = s1 at hjp hjk
                  go_wp2
                  go_roundw
                  case rel => exact ⟨(by first | trivial | rfl), j + 1, by omega, by go_num, by rw [← OS.out]⟩
                  case measure => simp [intOf]; omega
                · obtain rfl : j = i := by omega
                  have hcl : sumN (fun i => bitN t (i * P + k)) j < 16 := Nat.lt_of_lt_of_le (sumN_lt _ _ (fun _ _ => bitN_le _ _)) (by exact Nat.pow_le_pow_right (by decide) m4)
                  have AT := Lib.hid (fun W => l01At_any (j : Int) x (sumN (fun i => bitN t (i * P + k)) j) hox (by omega) W)
                  have OS := Lib.hid (or_sum (fun k => bitN x (colT t P j k)) k (by omega) (fun r _ => bitN_le _ _))
                  have OE : Hid (bitN x (sumN (fun i => bitN t (i * P + k)) j) = bitN x (colT t P j k)) := Lib.hid rfl
                  have huk : IntKind.u64.wrap (k : Int) = (k : Int) := by simp [IntKind.wrap, IntKind.bits, IntKind.signed]; omega
                  have hbl := bitN_le x (sumN (fun i => bitN t (i * P + k)) j)
                  have a0 := hM.f0
                  have a1 := hM.f1
                  have HM := Lib.hid hM
                  rw [← OE.out] at OS
                  clear hM OE
                  generalize bitN x (sumN (fun i => bitN t (i * P + k)) j) = vb at AT OS hbl
                  generalize sumN (fun i => bitN t (i * P + k)) j = cc at AT hcl ⊢
                  go_wp2_with (go_at_call 107; with_reducible refine (AT.out _).mono ?_; rintro e w2 ⟨rfl, hb2⟩; have hM2 := HM.out.below hb2)
                  go_roundw
                  case rel => exact ⟨k + 1, by omega, by go_num, by rw [← OS.out], hM2⟩
                  case measure => simp [intOf]; omega
            · obtain rfl : k = P := by omega
              obtain ⟨S, hS⟩ : ∃ S, S = sndT x t k i := ⟨_, rfl⟩
              have hS2 : sumN (fun j => bitN x (colT t k i j)) k = S := by rw [hS]; rfl
              rw [hS2]
              have hSl : S < 16 := by
                rw [hS]
                exact Nat.lt_of_lt_of_le (sumN_lt _ _ (fun _ _ => bitN_le _ _)) (by exact Nat.pow_le_pow_right (by decide) P4)
              have AF := Lib.hid (fun W => l01At_any (i : Int) x F hox (by omega) W)
              have AG := Lib.hid (fun W => l01At_any (k : Int) y S hoy (by omega) W)
              have HC : Hid (comT x y i k t = (bitN x F == bitN y S)) := Lib.hid (by unfold comT; rw [← HFD.out, ← hS])
              clear hS hS2
              generalize bitN x F = v1 at AF HC
              generalize bitN y S = v2 at AG HC
              have a0 := hM.f0
              have a1 := hM.f1
              have b0 := hM.g0
              have b1 := hM.g1
              by_cases hv : v1 = v2
              · have hne : ((v1 : Int) != (v2 : Int)) = false := by simp [hv]
                have HX := HN2.out (by rw [HC.out]; simp [hv])
                clear hv HC
                go_wp2
                go_region_held3 (fun w' => (((w'.cell? ⟨w.heap.size, 0, none⟩ = some (.int .i64 i) ∧ w'.cell? ⟨w.heap.size, 1, none⟩ = some (.int .i64 x)) ∧ (w'.cell? ⟨w.heap.size + 1, 0, none⟩ = some (.int .i64 k) ∧ w'.cell? ⟨w.heap.size + 1, 1, none⟩ = some (.int .i64 y))) ∧ Below w.heap.size w w')) (first | exact ⟨⟨⟨a0, a1⟩, ⟨b0, b1⟩⟩, hM.b.drew⟩ | assumption | exact step_heldF hb1 (by assumption))
                  (first
                    | (go_at_call 107; with_reducible refine (AG.out _).mono ?_; rintro e w' ⟨rfl, hb1⟩)
                    | (go_at_call 107; with_reducible refine (AF.out _).mono ?_; rintro e w' ⟨rfl, hb1⟩))
                obtain ⟨⟨⟨y0, y1⟩, ⟨z0, z1⟩⟩, hB9⟩ := (‹((_ ∧ _) ∧ (_ ∧ _)) ∧ Below _ _ _›)
                go_wp2
                go_roundw
                case rel => exact ⟨t + 1, by omega, by go_num, HX, ⟨y0, y1, z0, z1, hB9⟩⟩
                case measure => simp [intOf]; omega
              · have hne : ((v1 : Int) != (v2 : Int)) = true := by simp; omega
                have HX := HF2.out (by rw [HC.out]; simp [hv])
                clear hv HC
                go_wp2
                go_region_held3 (fun w' => (((w'.cell? ⟨w.heap.size, 0, none⟩ = some (.int .i64 i) ∧ w'.cell? ⟨w.heap.size, 1, none⟩ = some (.int .i64 x)) ∧ (w'.cell? ⟨w.heap.size + 1, 0, none⟩ = some (.int .i64 k) ∧ w'.cell? ⟨w.heap.size + 1, 1, none⟩ = some (.int .i64 y))) ∧ Below w.heap.size w w')) (first | exact ⟨⟨⟨a0, a1⟩, ⟨b0, b1⟩⟩, hM.b.drew⟩ | assumption | exact step_heldF hb1 (by assumption))
                  (first
                    | (go_at_call 107; with_reducible refine (AG.out _).mono ?_; rintro e w' ⟨rfl, hb1⟩)
                    | (go_at_call 107; with_reducible refine (AF.out _).mono ?_; rintro e w' ⟨rfl, hb1⟩))
                obtain ⟨⟨⟨y0, y1⟩, ⟨z0, z1⟩⟩, hB9⟩ := (‹((_ ∧ _) ∧ (_ ∧ _)) ∧ Below _ _ _›)
                go_wp2
                go_ret
                exact ⟨by rw [HX.out]; rfl, hB9⟩
    · obtain rfl : t = T := by omega
      have H1 := hcm.out
      go_wp2_with (go_at_call 106; with_reducible refine (RT.out _).mono ?_; rintro e w' ⟨rfl, rfl⟩)
      go_ret
      exact ⟨by rw [H1]; rfl, hM.b⟩
end Go.Proofs.Ytdgpjpcdifpllaa

/- AB3:
  IsAbelian in both packages. -/
namespace Go.Proofs.Ytdgpjpcdifpllaa
open Go.RowKit Go.Shelf
set_option linter.unusedVariables false
set_option linter.unusedSimpArgs false

/- commuting goes both ways -/
/-- The columns of a list of rows. -/
def colsL (p : List Nat) (P : Nat) : List Nat := (List.range P).map fun k => rowP p k
theorem colsL_len (p : List Nat) (P : Nat) : (colsL p P).length = P := by simp [colsL]
theorem colsL_get (p : List Nat) {P k : Nat} (h : k < P) : (colsL p P)[k]?.getD 0 = rowP p k := by simp [colsL, h]
theorem rowS_cols (x : Nat) (p : List Nat) (P : Nat) : rowS x (colsL p P) = tupV x p P := by
  unfold rowS tupV
  rw [colsL_len]
  exact sumN_congr _ fun k hk => by rw [colsL_get p hk]
theorem rowP_bit (p : List Nat) (k i : Nat) (h : i < p.length) : bitN (rowP p k) i = bitN (p[i]?.getD 0) k := by
  rw [rowP_sum]
  exact bitN_sum _ _ (fun _ _ => bitN_le _ _) i h
theorem rowP_cols {p : List Nat} {P i : Nat} (h : i < p.length) (hb : p[i]?.getD 0 < 2 ^ P) : rowP (colsL p P) i = p[i]?.getD 0 := by
  rw [rowP_sum, colsL_len]
  rw [sumN_congr (v := fun k => bitN ((colsL p P)[k]?.getD 0) i) (u := bitN (p[i]?.getD 0)) P fun k hk => by rw [colsL_get p hk]; exact rowP_bit p k i h]
  rw [sumN_bits, Nat.mod_eq_of_lt hb]
theorem tupV_cols (y : Nat) {p : List Nat} {P : Nat} (hb : ∀ a ∈ p, a < 2 ^ P) : tupV y (colsL p P) p.length = rowS y p := by
  unfold tupV rowS
  exact sumN_congr _ fun i hi => by rw [rowP_cols hi (by rw [List.getElem?_eq_getElem hi]; exact hb _ (List.getElem_mem hi))]
theorem com_half {x y m P : Nat} (h : comB y x P m (2 ^ m) = true) : comB x y m P (2 ^ P) = true := by
  unfold comB at h ⊢
  rw [List.all_eq_true] at h ⊢
  intro l hl
  obtain ⟨p, hp, rfl⟩ := List.mem_map.1 hl
  obtain ⟨h1, h2⟩ := allP_mem.1 hp
  have hb : ∀ a ∈ p, a < 2 ^ P := fun a ha => List.mem_range.1 (h2 a ha)
  have hq : colsL p P ∈ allP (List.range (2 ^ m)) P := allP_mem.2 ⟨colsL_len p P, fun a ha => by
    simp only [colsL, List.mem_map] at ha
    obtain ⟨k, _, rfl⟩ := ha
    rw [← h1]
    exact List.mem_range.2 (rowP_lt p k)⟩
  have := h _ (List.mem_map.2 ⟨_, hq, rfl⟩)
  unfold agL at this ⊢
  dsimp only at this ⊢
  rw [rowS_cols, ← h1, tupV_cols y hb] at this
  rw [Bool.eq_iff_iff] at this ⊢
  simp only [beq_iff_eq, iff_true] at this ⊢
  exact this.symm
theorem comP_symm (p q : Int × Int) : comP p q = comP q p := by
  unfold comP
  rw [Bool.eq_iff_iff]
  exact ⟨com_half, com_half⟩

/-- All functions of a list commute. -/
def abIn (xs : List (Int × Int)) (i k : Nat) : Bool := allLt k fun j => comP (fget xs i) (fget xs j)
def abB (xs : List (Int × Int)) (L : Nat) : Bool := allLt L fun i => abIn xs i (i + 1)
theorem abIn_succ (xs : List (Int × Int)) (i k : Nat) : abIn xs i (k + 1) = (abIn xs i k && comP (fget xs i) (fget xs k)) := allLt_succ _ _
theorem abB_succ (xs : List (Int × Int)) (L : Nat) : abB xs (L + 1) = (abB xs L && abIn xs L (L + 1)) := allLt_succ _ _
theorem abB_iff {xs : List (Int × Int)} {L : Nat} : abB xs L = true ↔ ∀ i, i < L → ∀ k, k < L → comP (fget xs i) (fget xs k) = true := by
  unfold abB abIn
  rw [allLt_iff]
  constructor
  · intro h i hi k hk
    rcases Nat.lt_or_ge i k with c | c
    · rw [comP_symm]
      exact allLt_iff.1 (h k hk) i (by omega)
    · exact allLt_iff.1 (h i hi) k (by omega)
  · intro h i hi
    rw [allLt_iff]
    exact fun k hk => h i hi k (by omega)
theorem abB_no {xs : List (Int × Int)} {i k L : Nat} (hi : i < L) (hk : k ≤ i) (h : comP (fget xs i) (fget xs k) = false) : abB xs L = false := by
  cases hc : abB xs L
  · rfl
  · have := abB_iff.1 hc i hi k (by omega)
    rw [h] at this
    cases this
theorem rowsUp_all {L : Nat} (x : Row L) : x ∈ rowsUp L L := by
  unfold rowsUp
  rw [List.mem_filterMap]
  exact ⟨x.1, List.mem_range.2 x.2, by simp [x.2]⟩
theorem abF_is (xs : List (Int × Int)) (L : Nat) : decide ((abF xs L (rowsUp L L)).length = L) = abB xs L := by
  rw [Bool.eq_iff_iff, decide_eq_true_iff, abB_iff]
  unfold abF
  rw [List.length_map]
  have hl := rowsUp_len (Nat.le_refl L)
  constructor
  · intro h i hi k hk
    have h2 := List.filter_eq_self.1 (List.filter_sublist.eq_of_length (h.trans hl.symm)) ⟨k, hk⟩ (rowsUp_all _)
    exact allLt_iff.1 h2 i hi
  · intro h
    have e : (rowsUp L L).filter (fun x => abTo2 xs (fget xs x.1) L) = rowsUp L L := List.filter_eq_self.2 fun x _ => allLt_iff.2 fun i hi => h i hi x.1 x.2
    rw [e]
    exact hl

theorem codeL_two {xs : List (Int × Int)} (h : codeL xs = 0) : (∀ j, j < xs.length → isF (fget xs j).1 (fget xs j).2 = true) ∧ xs.length ≤ 8 := by
  unfold codeL at h
  cases hA : allTo xs xs.length
  · rw [hA] at h; cases h
  · rw [hA, if_pos rfl] at h
    refine ⟨fun j hj => allTo_get hA j hj, ?_⟩
    apply Decidable.byContradiction
    intro h8
    rw [if_pos (by omega)] at h
    cases h
theorem cellsV_of {base : Nat} {W : World} {s : Value} {xs : List (Int × Int)} (h : OwnsF W base s xs) : ∃ a cap, s = .slice a xs.length cap ∧ Hid (CellsV a xs.length xs W) := by
  obtain ⟨a, cap, rfl, hrow⟩ := h.cells
  refine ⟨a, cap, rfl, Lib.hid fun j hj => ?_⟩
  rcases hrow with h0 | ⟨g, e, hg, hc⟩
  · omega
  · obtain ⟨c0, c1⟩ := hc.out j hj
    exact ⟨g, e, c0, c1⟩

theorem l10Commute_p {p q : Int × Int} (hp : isF p.1 p.2 = true) (hq : isF q.1 q.2 = true) (w : World) :
    Calls Try.prog 86 #[.agg #[.int .i64 p.1, .int .i64 p.2], .agg #[.int .i64 q.1, .int .i64 q.2]] w fun e w' => e = .returned (.bool (comP p q)) ∧ Below w.heap.size w w' := by
  obtain ⟨n, b⟩ := p
  obtain ⟨n2, b2⟩ := q
  obtain ⟨x, R, rfl, ok⟩ := fok hp
  obtain ⟨y, Q, rfl, okg⟩ := fok hq
  obtain ⟨m, rfl⟩ : ∃ m : Nat, n = (m : Int) := Int.eq_ofNat_of_zero_le ok.h0
  obtain ⟨P, rfl⟩ : ∃ P : Nat, n2 = (P : Int) := Int.eq_ofNat_of_zero_le okg.h0
  have h := l10Commute_any ok (by have := ok.h4; omega) okg w
  have hQ : Q = 2 ^ P := by have := okg.he; simpa using this
  rw [hQ] at h
  exact h

end Go.Proofs.Ytdgpjpcdifpllaa

/- CC3:
  columnTable.commutesWith of the program: all lines of a table are held against a function. -/
namespace Go.Proofs.Ytdgpjpcdifpllaa
open Go.RowKit Go.Shelf
attribute [local go_sem] Oper.semAt_some
set_option linter.unusedVariables false
set_option linter.unusedSimpArgs false

/-- A line of a list of lines. -/
def lnG (ls : List (List Nat × Nat)) (c : Nat) : List Nat × Nat := ls[c]?.getD ([], 0)
/-- The lines of a table in memory: each m numbers and one, from U, o on. -/
structure LnC (U o m : Nat) (ls : List (List Nat × Nat)) (W : World) : Prop where
  len : ∀ c, c < ls.length → (lnG ls c).1.length = m
  sm : ∀ c, c < ls.length → (∀ a ∈ (lnG ls c).1, a < 62) ∧ (lnG ls c).2 < 62
  row : ∀ c, c < ls.length → ∀ j, j < m → W.cell? ⟨U, o + c * (m + 1) + j, none⟩ = some (.int .i64 ((lnG ls c).1[j]?.getD 0 : Nat))
  col : ∀ c, c < ls.length → W.cell? ⟨U, o + c * (m + 1) + m, none⟩ = some (.int .i64 ((lnG ls c).2 : Nat))
theorem LnC.below {U o m : Nat} {ls : List (List Nat × Nat)} {w W : World} (h : LnC U o m ls w) (hb : Below w.heap.size w W) : LnC U o m ls W :=
  ⟨h.len, h.sm, fun c hc j hj => kc hb (h.row c hc j hj), fun c hc => kc hb (h.col c hc)⟩
theorem ln_all {ls : List (List Nat × Nat)} {p : List Nat × Nat → Bool} (h : ∀ c, c < ls.length → p (lnG ls c) = true) : ls.all p = true := by
  rw [List.all_eq_true]
  intro t ht
  obtain ⟨c, hc, rfl⟩ := List.mem_iff_getElem.1 ht
  have := h c hc
  unfold lnG at this
  rwa [List.getElem?_eq_getElem hc] at this
theorem ln_not {ls : List (List Nat × Nat)} {p : List Nat × Nat → Bool} {c : Nat} (hc : c < ls.length) (h : p (lnG ls c) = false) : ls.all p = false := by
  cases ha : ls.all p
  · rfl
  · have := List.all_eq_true.1 ha ls[c] (List.getElem_mem hc)
    unfold lnG at h
    rw [List.getElem?_eq_getElem hc] at h
    rw [show p ls[c] = false from h] at this
    cases this
/-- What commutesWith keeps: its two boxes. -/
structure CTB (B G U o len cap : Nat) (m x n y : Int) (W : World) : Prop where
  a0 : W.cell? ⟨B, 0, none⟩ = some (.int .i64 m)
  a1 : W.cell? ⟨B, 1, none⟩ = some (.int .i64 x)
  a2 : W.cell? ⟨B, 2, none⟩ = some (.slice (some ⟨U, o, none⟩) len cap)
  b0 : W.cell? ⟨G, 0, none⟩ = some (.int .i64 n)
  b1 : W.cell? ⟨G, 1, none⟩ = some (.int .i64 y)
theorem CTB.kept {B G U o len cap : Nat} {m x n y : Int} {W W' : World} {row : Option Nat} (h : CTB B G U o len cap m x n y W) (hg : W.grownBy W' row) (hr : ∀ r, row = some r → ∃ o : Obj, W.heap[r]? = some o ∧ o.isCells = false) : CTB B G U o len cap m x n y W' :=
  ⟨cell_kept h.a0 hg hr, cell_kept h.a1 hg hr, cell_kept h.a2 hg hr, cell_kept h.b0 hg hr, cell_kept h.b1 hg hr⟩
theorem CTB.below {B G U o len cap : Nat} {m x n y : Int} {W W' : World} (h : CTB B G U o len cap m x n y W) (hb : Below W.heap.size W W') : CTB B G U o len cap m x n y W' :=
  ⟨kc hb h.a0, kc hb h.a1, kc hb h.a2, kc hb h.b0, kc hb h.b1⟩
theorem step_heldCT {W w' W0 : World} {a b c d e f : Addr} {u v z t r s : Value} (hb : Below W.heap.size W w') (h : ((((W.cell? a = some u ∧ W.cell? b = some v) ∧ W.cell? c = some z) ∧ (W.cell? d = some t ∧ W.cell? e = some r)) ∧ W.cell? f = some s) ∧ Below W0.heap.size W0 W) :
    ((((w'.cell? a = some u ∧ w'.cell? b = some v) ∧ w'.cell? c = some z) ∧ (w'.cell? d = some t ∧ w'.cell? e = some r)) ∧ w'.cell? f = some s) ∧ Below W0.heap.size W0 w' :=
  ⟨⟨⟨⟨⟨kc hb h.1.1.1.1.1, kc hb h.1.1.1.1.2⟩, kc hb h.1.1.1.2⟩, ⟨kc hb h.1.1.2.1, kc hb h.1.1.2.2⟩⟩, kc hb h.1.2⟩, bthen h.2 hb⟩

theorem keepC_set {Bs Bn n₀ C : Nat} (W : World) (h1 : C ≠ Bs) (h2 : C ≠ Bn) (hn : n₀ ≤ C) (v : Value) : KeepC Bs Bn n₀ W (W.setCell ⟨C, 0, none⟩ v) :=
  ⟨(Below.refl _ _).setCell (p := ⟨C, 0, none⟩) hn v, fun u hu => by simp [go_sem, hu, h1], fun u hu => by simp [go_sem, hu, h2]⟩

set_option maxRecDepth 100000 in
set_option maxHeartbeats 8000000 in
theorem commutesWith_any {x R m : Nat} (ok : FOk (m : Int) x R) (m4 : m ≤ 4) {n : Int} {y : Nat} (hy : y < 2 ^ 62) {U o len cap : Nat} {ls : List (List Nat × Nat)} (hlen : len = ls.length * (m + 1)) (hm : ls.length * (m + 1) ≤ 1000000) (hcap : len ≤ cap) (w : World) (HC : Hid (LnC U o m ls w)) :
    Calls Try.prog 90 #[.agg #[.int .i64 m, .int .i64 x, .slice (some ⟨U, o, none⟩) len cap], .agg #[.int .i64 n, .int .i64 y]] w fun e w' => e = .returned (.bool (ls.all (agL x y))) ∧ Below w.heap.size w w' := by
  have hmx : Try.prog.follows .mixedOrders = true := by kernel_rfl
  obtain ⟨k, hk⟩ : ∃ k, k = m + 1 := ⟨_, rfl⟩
  rw [← hk] at hlen hm
  have HK := Lib.hid hk
  clear hk
  have HLEN := Lib.hid hlen
  have HM := Lib.hid hm
  have hl6 : len ≤ 1000000 := by omega
  clear hlen hm
  have YES := Lib.hid (fun h => ln_all (ls := ls) (p := agL x y) h)
  have NO := Lib.hid (fun c hc h => ln_not (ls := ls) (p := agL x y) (c := c) hc h)
  refine (callsIn_wide (n := 3)).1 ?_
  refine callsIn_of_wp_marks Try.func90 rfl trivial ?_ rfl
  simp only [Try.ntmps90, List.size_toArray, List.length_cons, List.length_nil, Nat.reduceAdd, Nat.reduceSub, Array.replicate_succ, Array.replicate_zero, List.push_toArray, List.append_toArray, List.nil_append, List.cons_append]
  gi_wp2_with (refine ⟨trivial, ?_⟩; gi_at_call 149; rw [show (m : Int) + 1 = (k : Int) from by have := HK.out; omega]; refine (callsIn_wide.2 (Chunk_any _ _ _ k (by have := HK.out; omega) _)).mono ?_; rintro e w' ⟨rfl, rfl⟩)
  obtain ⟨W0, hW0⟩ : ∃ W0, ((((w.alloc (.cells #[.int .i64 m, .int .i64 x, .slice (some ⟨U, o, none⟩) len cap] 115)).alloc (.cells #[.int .i64 n, .int .i64 y] 23)).alloc (.cells #[.bool false] 4)).alloc (.cells #[.slice (some ⟨U, o, none⟩) len cap] 55)).alloc (.cells #[.int .i64 (k : Int)] 3) = W0 := ⟨_, rfl⟩
  have sz : W0.heap.size = w.heap.size + 5 := by rw [← hW0]; simp
  have hB0 : Below w.heap.size w W0 := by rw [← hW0]; exact balloc (balloc (balloc (balloc (bnew _ _) _) _) _) _
  have hct : CTB w.heap.size (w.heap.size + 1) U o len cap m x n y W0 := by rw [← hW0]; exact ⟨by simp [go_sem], by simp [go_sem], by simp [go_sem], by simp [go_sem], by simp [go_sem]⟩
  have s0 : W0.cell? ⟨w.heap.size + 1 + 1 + 1, 0, none⟩ = some (.slice (some ⟨U, o, none⟩) len cap) := by rw [← hW0]; simp [go_sem]
  have n0 : W0.cell? ⟨w.heap.size + 1 + 1 + 1 + 1, 0, none⟩ = some (.int .i64 (k : Int)) := by rw [← hW0]; simp [go_sem]
  have hbg : Boxed W0 (w.heap.size + 1 + 1) 4 (.bool false) := by
    rw [← hW0]
    refine Boxed.alloc (Boxed.alloc ?_ _) _
    have := Boxed.new ((w.alloc (.cells #[.int .i64 m, .int .i64 x, .slice (some ⟨U, o, none⟩) len cap] 115)).alloc (.cells #[.int .i64 n, .int .i64 y] 23)) 4 (.bool false)
    simpa using this
  try rw [hW0]
  clear hW0
  refine wpIn_rangeFunc_ownH (α := Row ls.length) rfl (by omega) (gf := 195) (lb := #[.pointer (some ⟨w.heap.size + 1 + 1 + 1, 0, none⟩), .pointer (some ⟨w.heap.size + 1 + 1 + 1 + 1, 0, none⟩)]) rfl trivial (enters_of Try.func195 (by kernel_rfl) rfl)
    (chunk_stops (3 - 1) (by omega) (w.heap.size + 1 + 1 + 1) (w.heap.size + 1 + 1 + 1 + 1) w.heap.size U o k ls.length len cap (by have := HK.out; omega) HLEN.out HM.out hcap W0 s0 n0) keepC_t (keepC_b (by omega)) (Below.refl _ _) (fun _ => rfl)
    (fun pre W => (∀ r, r ∈ pre → agL x y (lnG ls r.1) = true) ∧ (CTB w.heap.size (w.heap.size + 1) U o len cap m x n y W ∧ (Boxed W (w.heap.size + 1 + 1) 4 (.bool false) ∧ Below w.heap.size w W)))
    (fun c pre W => (c = .ret ∧ ∃ k, k < ls.length ∧ agL x y (lnG ls k) = false) ∧ (Boxed W (w.heap.size + 1 + 1) 4 (.bool false) ∧ Below w.heap.size w W))
    (OwnFrom.and (Own.from (fun s A B row hs hg hr => hs) _) (OwnFrom.and (Own.from (fun s A B row hs hg hr => hs.kept hg hr) _) (OwnFrom.and ((boxed_own (w.heap.size + 1 + 1) 4 (fun _ => .bool false)).from _) (ownFrom_below (Nat.le_refl _) (by omega)))))
    (fun c => OwnFrom.and (Own.from (fun s A B row hs hg hr => hs) _) (OwnFrom.and ((boxed_own (w.heap.size + 1 + 1) 4 (fun _ => .bool false)).from _) (ownFrom_below (Nat.le_refl _) (by omega))))
    ⟨fun r h => by simp at h, hct, hbg, hB0⟩
    (fun z a' W => a' = { tmps := #[.agg #[.int .i64 m, .int .i64 x, .slice (some ⟨U, o, none⟩) len cap], .agg #[.int .i64 n, .int .i64 y], .pointer (some ⟨w.heap.size, 0, none⟩), .pointer (some ⟨w.heap.size + 1, 0, none⟩), .pointer (some ⟨w.heap.size + 1 + 1, 0, none⟩), .slice (some ⟨U, o + z.1 * k, none⟩) k k, .pointer (some ⟨w.heap.size, 2, none⟩), .slice (some ⟨U, o, none⟩) len cap, .pointer (some ⟨w.heap.size, 0, none⟩), .pointer (some ⟨w.heap.size, 0, none⟩), .int .i64 m, .int .i64 (k : Int), .func (.func 195) #[] #[.pointer (some ⟨w.heap.size + 1 + 1 + 1, 0, none⟩), .pointer (some ⟨w.heap.size + 1 + 1 + 1 + 1, 0, none⟩)], .slice (some ⟨U, o + z.1 * k, none⟩) k k, undef, undef, undef, undef, undef, undef, undef, undef, undef, undef, undef, undef, undef, undef, undef, undef], defers := [] })
    (fun z a' _ A B row e hg hr => e)
    ?assign ?body ?done ?stop
  case assign =>
    rintro l pre z W K ⟨hall, hct, hb, hB⟩ hK
    unfold encC
    gi_wp2
    refine hK _ _ ((kotb (Below.refl _ _)).from _) (keepC_below (by have := hB.size; omega) (Below.refl _ _)) ⟨hall, hct, hb, hB⟩ rfl
  case body =>
    clear hct hbg s0 n0
    rintro l pre z a' W hl hrec ⟨hall, hct, hb, hB⟩ rfl hlen2
    clear hrec
    have hsz := hB.size
    have hmk : m < k := by have := HK.out; omega
    have hmk2 : m ≤ k := Nat.le_of_lt hmk
    have hmi : (m : Int) < (k : Int) := by omega
    have hmi2 : (0 : Int) ≤ (m : Int) := by omega
    obtain ⟨lnl, lns, lnr, lnc⟩ := HC.out.below hB
    rw [← HK.out] at lnr lnc
    have l1 := lnl z.1 z.2
    have l2 := lns z.1 z.2
    have l3 := lnr z.1 z.2
    have l4 := lnc z.1 z.2
    have HNO := Lib.hid (fun (h : agL x y (lnG ls z.1) = false) => (⟨z.1, z.2, h⟩ : ∃ k, k < ls.length ∧ agL x y (lnG ls k) = false))
    have HYE := Lib.hid (fun (h : agL x y (lnG ls z.1) = true) => (fun r hr => by
      rcases List.mem_append.1 hr with hr | hr
      · exact hall r hr
      · simp at hr; rw [hr]; exact h : ∀ r, r ∈ pre ++ [z] → agL x y (lnG ls r.1) = true))
    clear lnl lns lnr lnc hall
    generalize o + z.1 * k = zo at l3 l4 ⊢
    have AG0 := fun W2 (hW2 : Below W.heap.size W W2) => agreeAt_at ok m4 (n := n) (y := y) hy (U := U) (o := zo) (cap := k) l1 l2.1 (lnG ls z.1).2 l2.2 W2 (Lib.hid fun j hj => kc hW2 (l3 j hj))
    change ∀ W2 (hW2 : Below W.heap.size W W2), Calls _ _ _ _ (fun e w' => e = .returned (.bool (agL x y (lnG ls z.1))) ∧ _) at AG0
    have lt2 := l2.2
    generalize (lnG ls z.1).2 = t2 at l4 AG0 lt2
    generalize agL x y (lnG ls z.1) = ag at AG0 HNO HYE
    have AG := Lib.hid AG0
    have HCT := Lib.hid hct
    obtain ⟨a0, a1, a2, b0, b1⟩ := hct
    have HBX := Lib.hid hb
    clear AG0 l1 l2 l3 hb
    gi_wp2
    refine region_round (l := l) (fun W9 => ((((W9.cell? ⟨w.heap.size, 0, none⟩ = some (.int .i64 m) ∧ W9.cell? ⟨w.heap.size, 1, none⟩ = some (.int .i64 x)) ∧ W9.cell? ⟨w.heap.size, 2, none⟩ = some (.slice (some ⟨U, o, none⟩) len cap)) ∧ (W9.cell? ⟨w.heap.size + 1, 0, none⟩ = some (.int .i64 n) ∧ W9.cell? ⟨w.heap.size + 1, 1, none⟩ = some (.int .i64 y))) ∧ W9.cell? ⟨U, zo + m, none⟩ = some (.int .i64 (t2 : Int))) ∧ Below W.heap.size W W9) hmx (by kernel_rfl) (by omega) (by rintro ⟨_, _, h⟩; exact h) ?_
    have hHeld : ((((W.drew.cell? ⟨w.heap.size, 0, none⟩ = some (.int .i64 m) ∧ W.drew.cell? ⟨w.heap.size, 1, none⟩ = some (.int .i64 x)) ∧ W.drew.cell? ⟨w.heap.size, 2, none⟩ = some (.slice (some ⟨U, o, none⟩) len cap)) ∧ (W.drew.cell? ⟨w.heap.size + 1, 0, none⟩ = some (.int .i64 n) ∧ W.drew.cell? ⟨w.heap.size + 1, 1, none⟩ = some (.int .i64 y))) ∧ W.drew.cell? ⟨U, zo + m, none⟩ = some (.int .i64 (t2 : Int))) ∧ Below W.heap.size W W.drew := ⟨⟨⟨⟨⟨a0, a1⟩, a2⟩, ⟨b0, b1⟩⟩, l4⟩, (Below.refl _ _).drew⟩
    change wpAnyH _ _ _ _ _ _ _ _ (World.drew _)
    refine wpAnyH_take (i := 0) (v := ?_) rfl (by kernel_rfl) (by kernel_rfl) (by kernel_rfl) (fun _ _ _ h => h) (Or.inl ⟨by rfl, by intro w hSw; (try dsimp only at hSw); go_simp; try (with_reducible rfl)⟩) (by assumption) ?_
    try simp only [Act.put, List.setIfInBounds_toArray, List.set_cons_zero, List.set_cons_succ, List.getElem_toArray, List.getElem_cons_zero, List.getElem_cons_succ]
    refine wpAnyH_take (i := 1) (v := ?_) rfl (by kernel_rfl) (by kernel_rfl) (by kernel_rfl) (fun _ _ _ h => h) (Or.inl ⟨by rfl, by intro w hSw; (try dsimp only at hSw); go_simp; try (with_reducible rfl)⟩) (by assumption) ?_
    try simp only [Act.put, List.setIfInBounds_toArray, List.set_cons_zero, List.set_cons_succ, List.getElem_toArray, List.getElem_cons_zero, List.getElem_cons_succ]
    refine wpAnyH_take (i := 2) (v := ?_) rfl (by kernel_rfl) (by kernel_rfl) (by kernel_rfl) (fun _ _ _ h => h) (Or.inl ⟨by rfl, by intro w hSw; (try dsimp only at hSw); go_simp; try (with_reducible rfl)⟩) (by assumption) ?_
    try simp only [Act.put, List.setIfInBounds_toArray, List.set_cons_zero, List.set_cons_succ, List.getElem_toArray, List.getElem_cons_zero, List.getElem_cons_succ]
    refine wpAnyH_take (i := 3) (v := ?_) rfl (by kernel_rfl) (by kernel_rfl) (by kernel_rfl) (fun _ _ _ h => h) (Or.inl ⟨by rfl, by intro w hSw; (try dsimp only at hSw); go_simp; try (with_reducible rfl)⟩) (by assumption) ?_
    try simp only [Act.put, List.setIfInBounds_toArray, List.set_cons_zero, List.set_cons_succ, List.getElem_toArray, List.getElem_cons_zero, List.getElem_cons_succ]
    refine wpAnyH_take (i := 4) (v := ?_) rfl (by kernel_rfl) (by kernel_rfl) (by kernel_rfl) (fun _ _ _ h => h) (Or.inl ⟨by rfl, by intro w hSw; (try dsimp only at hSw); go_simp; try (with_reducible rfl)⟩) (by assumption) ?_
    try simp only [Act.put, List.setIfInBounds_toArray, List.set_cons_zero, List.set_cons_succ, List.getElem_toArray, List.getElem_cons_zero, List.getElem_cons_succ]
    refine wpAnyH_take (i := 5) (v := ?_) rfl (by kernel_rfl) (by kernel_rfl) (by kernel_rfl) (fun _ _ _ h => h) (Or.inl ⟨by rfl, by intro w hSw; (try dsimp only at hSw); go_simp; try (with_reducible rfl)⟩) (by assumption) ?_
    try simp only [Act.put, List.setIfInBounds_toArray, List.set_cons_zero, List.set_cons_succ, List.getElem_toArray, List.getElem_cons_zero, List.getElem_cons_succ]
    refine wpAnyH_take (i := 6) (v := ?_) rfl (by kernel_rfl) (by kernel_rfl) (by kernel_rfl) (fun _ _ _ h => h) (Or.inl ⟨by rfl, by intro w hSw; (try dsimp only at hSw); go_simp; try (with_reducible rfl)⟩) (by assumption) ?_
    try simp only [Act.put, List.setIfInBounds_toArray, List.set_cons_zero, List.set_cons_succ, List.getElem_toArray, List.getElem_cons_zero, List.getElem_cons_succ]
    refine wpAnyH_take (i := 7) (v := ?_) rfl (by kernel_rfl) (by kernel_rfl) (by kernel_rfl) (fun _ _ _ h => h) (Or.inl ⟨by rfl, by intro w hSw; (try dsimp only at hSw); go_simp; try (with_reducible rfl)⟩) (by assumption) ?_
    try simp only [Act.put, List.setIfInBounds_toArray, List.set_cons_zero, List.set_cons_succ, List.getElem_toArray, List.getElem_cons_zero, List.getElem_cons_succ]
    refine wpAnyH_take (i := 8) (v := ?_) rfl (by kernel_rfl) (by kernel_rfl) (by kernel_rfl) (fun _ _ _ h => h) (Or.inl ⟨by rfl, by intro w hSw; (try dsimp only at hSw); go_simp; try (with_reducible rfl)⟩) (by assumption) ?_
    try simp only [Act.put, List.setIfInBounds_toArray, List.set_cons_zero, List.set_cons_succ, List.getElem_toArray, List.getElem_cons_zero, List.getElem_cons_succ]
    refine wpAnyH_take (i := 9) (v := ?_) rfl (by kernel_rfl) (by kernel_rfl) (by kernel_rfl) (fun _ _ _ h => h) (Or.inl ⟨by rfl, by intro w hSw; (try dsimp only at hSw); go_simp; try (with_reducible rfl)⟩) (by assumption) ?_
    try simp only [Act.put, List.setIfInBounds_toArray, List.set_cons_zero, List.set_cons_succ, List.getElem_toArray, List.getElem_cons_zero, List.getElem_cons_succ]
    refine wpAnyH_take (i := 10) (v := ?_) rfl (by kernel_rfl) (by kernel_rfl) (by kernel_rfl) (fun _ _ _ h => h) (Or.inl ⟨by rfl, by intro w hSw; (try dsimp only at hSw); go_simp; try (with_reducible rfl)⟩) (by assumption) ?_
    try simp only [Act.put, List.setIfInBounds_toArray, List.set_cons_zero, List.set_cons_succ, List.getElem_toArray, List.getElem_cons_zero, List.getElem_cons_succ]
    refine wpAnyH_take (i := 11) (v := ?_) rfl (by kernel_rfl) (by kernel_rfl) (by kernel_rfl) (fun _ _ _ h => h) (Or.inl ⟨by rfl, by intro w hSw; (try dsimp only at hSw); go_simp; try (with_reducible rfl)⟩) (by assumption) ?_
    try simp only [Act.put, List.setIfInBounds_toArray, List.set_cons_zero, List.set_cons_succ, List.getElem_toArray, List.getElem_cons_zero, List.getElem_cons_succ]
    refine wpAnyH_take (i := 12) (v := ?_) rfl (by kernel_rfl) (by kernel_rfl) (by kernel_rfl) (fun _ _ _ h => h) (Or.inl ⟨by rfl, by intro w hSw; (try dsimp only at hSw); go_simp; try (with_reducible rfl)⟩) (by assumption) ?_
    try simp only [Act.put, List.setIfInBounds_toArray, List.set_cons_zero, List.set_cons_succ, List.getElem_toArray, List.getElem_cons_zero, List.getElem_cons_succ]
    refine wpAnyH_take (i := 13) (v := ?_) rfl (by kernel_rfl) (by kernel_rfl) (by kernel_rfl) (fun _ _ _ h => h) (Or.inl ⟨by rfl, by intro w hSw; (try dsimp only at hSw); go_simp; try (with_reducible rfl)⟩) (by assumption) ?_
    try simp only [Act.put, List.setIfInBounds_toArray, List.set_cons_zero, List.set_cons_succ, List.getElem_toArray, List.getElem_cons_zero, List.getElem_cons_succ]
    refine wpAnyH_ready (rs := [14]) (by kernel_rfl) (by simp) ?_
    refine AllReadyH.cons rfl (fun K hK => ?_) AllReadyH.nil
    go_simp
    refine (AG.out _ (Below.refl _ _).drew).mono ?_
    rintro e w2 ⟨rfl, hb2⟩
    refine hK _ _ (step_heldCT hb2 hHeld) (fun hHeld => ?_)
    clear hK K
    try simp only [Act.put, List.setIfInBounds_toArray, List.set_cons_zero, List.set_cons_succ, List.getElem_toArray, List.getElem_cons_zero, List.getElem_cons_succ]
    refine wpAnyH_take (i := 15) (v := ?_) rfl (by kernel_rfl) (by kernel_rfl) (by kernel_rfl) (fun _ _ _ h => h) (Or.inl ⟨by rfl, by intro w hSw; (try dsimp only at hSw); go_simp; try (with_reducible rfl)⟩) (by assumption) ?_
    try simp only [Act.put, List.setIfInBounds_toArray, List.set_cons_zero, List.set_cons_succ, List.getElem_toArray, List.getElem_cons_zero, List.getElem_cons_succ]
    refine wpAnyH_done (by kernel_rfl) ?_ _
    clear a0 a1 a2 b0 b1 l4
    obtain ⟨_, hbw⟩ := hHeld
    have HBW := Lib.hid hbw
    have hbx2 : Boxed w2 (w.heap.size + 1 + 1) 4 (.bool false) := (hbw.block _ HBX.out.lt).trans HBX.out
    have g0 := hbx2.cell
    have g1 := hbx2.frozen
    have HB2 := Lib.hid hbx2
    clear hbx2 hbw
    cases ag
    · gi_wp2
      refine ⟨((kotb HBW.out).trans (KeepsOthers.setCell _ _ _)).from _, ⟨rfl, HNO.out (by trivial)⟩, Boxed.set (.bool false) HB2.out, (bthen hB HBW.out).setCell (p := ⟨w.heap.size + 1 + 1, 0, none⟩) (by show w.heap.size ≤ w.heap.size + 1 + 1; omega) _⟩
    · gi_wp2
      refine ⟨(kotb HBW.out).from _, keepC_below (by omega) HBW.out, fun a b hab => HYE.out (by trivial) ⟨a, b⟩ hab, HCT.out.below HBW.out, HB2.out, bthen hB HBW.out⟩
  case done =>
    clear hct hbg s0 n0
    rintro D ys W hD rfl ⟨hall, _, hb, hB⟩ hKd
    have hk := YES.out (fun c hc => hall ⟨c, hc⟩ (rowsUp_all _))
    have HKK := Lib.hid hk
    have g0 := hb.cell
    have g1 := hb.frozen
    have h1 := Boxed.cell (Boxed.set (.bool true) hb)
    have hKd' := (KeepsOthers.setCell W ⟨w.heap.size + 1 + 1, 0, none⟩ (.bool true)).same D _ hKd rfl
    have h2 := cell_kept h1 (grownBy_putObj' _ D (.deferred none)) (fun r e => by cases e; exact ⟨_, hKd', rfl⟩)
    clear hk hall hb h1
    gi_wp2
    refine ⟨by simp, .inl ⟨_, _, rfl, run_takeDeferred hKd', ?_⟩⟩
    refine ⟨.bool true, by simp [results, Try.results90, go_sem, h2], by rw [HKK.out], ?_⟩
    exact (hB.setCell (p := ⟨w.heap.size + 1 + 1, 0, none⟩) (by show w.heap.size ≤ w.heap.size + 1 + 1; omega) _).trans (belowK_b (w := w) (Nat.le_refl _) _ D _ _ (by omega) hKd' rfl rfl)
  case stop =>
    clear hct hbg s0 n0
    rintro D c pre W hD hpre ⟨⟨rfl, t, ht, hf⟩, hb, hB⟩ hKd
    have HKK := Lib.hid (NO.out t ht hf)
    have h1 := hb.cell
    have h2 := cell_kept h1 (grownBy_putObj' _ D (.deferred none)) (fun r e => by cases e; exact ⟨_, hKd, rfl⟩)
    clear hb
    gi_wp2
    refine ⟨by simp, .inl ⟨_, _, rfl, run_takeDeferred hKd, ?_⟩⟩
    refine ⟨.bool false, by simp [results, Try.results90, go_sem, h2], by rw [HKK.out], ?_⟩
    exact hB.trans (belowK_b (w := w) (Nat.le_refl _) _ D _ _ (by omega) hKd rfl rfl)
end Go.Proofs.Ytdgpjpcdifpllaa

/- KSh:
  IsSheffer in both packages. -/
namespace Go.Proofs.Ytdgpjpcdifpllaa
open Go.RowKit

theorem sum_none (v : Nat → Nat) (k : Nat) : sumN v k = 0 ↔ ∀ r, r < k → v r = 0 := by
  induction k with
  | zero => simp [sumN]
  | succ k ih =>
    have hp : 0 < 2 ^ k := Nat.two_pow_pos k
    simp only [sumN]
    constructor
    · intro h r hr
      have h1 : sumN v k = 0 := by omega
      have h2 : v k * 2 ^ k = 0 := by omega
      by_cases e : r = k
      · subst e
        rcases Nat.mul_eq_zero.1 h2 with h3 | h3
        · exact h3
        · omega
      · exact ih.1 h1 r (by omega)
    · intro h
      rw [ih.2 (fun r hr => h r (by omega)), h k (by omega)]
      omega

theorem partTo_one (p : Int × Int) (k : Nat) : partTo [p] 1 k 1 = clsP p k := by
  rw [partTo_succ]
  have : (bitN 1 0 == 0) = false := by decide
  rw [this, Bool.false_or]
  rfl

theorem owns_one (W : World) (n x : Int) (g : Nat) (hg : g = W.heap.size) : OwnsF (W.alloc (.cells #[.int .i64 n, .int .i64 x] 23)) 0 (.slice (some ⟨g, 0, none⟩) 1 1) [(n, x)] := by
  subst hg
  exact World.ownsRow_lit W _ 1 (Nat.zero_le _) (by unfold maxLen; omega) rfl

theorem part_none {n : Int} {x R : Nat} (ok : FOk n x R) : ((partN [(n, (x : Int))] 1 : Int) == 0) = noneTo n.toNat x R 5 := by
  rw [Bool.eq_iff_iff]
  have h1 : ((partN [(n, (x : Int))] 1 : Int) == 0) = true ↔ partN [(n, (x : Int))] 1 = 0 := by simp
  rw [h1, partN, sum_none, noneTo, allLt_iff]
  have h2 : ∀ r, partV [(n, (x : Int))] 1 r = (clsN n.toNat x R r).toNat := fun r => by
    show (partTo [(n, (x : Int))] 1 r 1).toNat = _
    rw [partTo_one, clsP, ok.he]
    rfl
  constructor
  · intro h r hr
    have := h r hr
    rw [h2] at this
    cases hc : clsN n.toNat x R r
    · rfl
    · rw [hc] at this; cases this
  · intro h r hr
    rw [h2]
    have := h r hr
    cases hc : clsN n.toNat x R r
    · rfl
    · rw [hc] at this; cases this

theorem l02Classes_one {base : Nat} {s : Value} {p : Int × Int} (hx : isF p.1 p.2 = true) (w : World) (h : OwnsF w base s [p]) :
    Calls Try.prog 176 #[s, .int .i64 1] w fun e w' => e = .returned (.int .i64 (partN [p] 1 : Int)) ∧ Below w.heap.size w w' :=
  l02Classes_any (xs := [p]) (by simp) (fun j hj => by obtain rfl : j = 0 := by simpa using hj
                                                       exact hx) 1 (by decide) (by simp) w h

end Go.Proofs.Ytdgpjpcdifpllaa

/- KCo:
  CountInClass and CountSheffer in both packages. -/
namespace Go.Proofs.Ytdgpjpcdifpllaa
open Go.RowKit

/-- The functions of an arity: their rows, their number. -/
theorem arity_nums {n : Int} (h0 : 0 ≤ n) (h4 : n ≤ 4) : ∃ R T : Nat, 0 < R ∧ R ≤ 16 ∧ Hid (rowsN n = (R : Int)) ∧ Hid (T = 2 ^ R) ∧ 0 < T ∧ T ≤ 65536 ∧ Hid (allN n = (T : Int) - 1) ∧ ∀ x, x < T → FOk n x R := by
  obtain ⟨R, hR, r0, r16, he⟩ := rowsN_eq h0 h4
  have h16 : (2 : Nat) ^ R ≤ 2 ^ 16 := Nat.pow_le_pow_right (by decide) r16
  have hp : 0 < 2 ^ R := Nat.two_pow_pos R
  refine ⟨R, 2 ^ R, r0, r16, Lib.hid hR, Lib.hid rfl, hp, h16, Lib.hid ?_, fun x hx => ⟨h0, h4, r0, r16, Lib.hid hR, by omega, he, hx⟩⟩
  rw [allN_rows he]
  omega

theorem l01All_top {n : Int} {T : Nat} (h0 : 0 ≤ n) (h4 : n ≤ 4) (hA : Hid (allN n = (T : Int) - 1)) (w : World) :
    Calls Try.prog 85 #[.int .i64 n] w fun e w' => e = .returned (.int .i64 ((T : Int) - 1)) ∧ w = w' := hA.out ▸ l01All_any n h0 h4 w

end Go.Proofs.Ytdgpjpcdifpllaa

/- CE1:
  CentraliserOf of the model. -/
namespace Go.Proofs.Ytdgpjpcdifpllaa
open Go.RowKit Go.Shelf
attribute [local go_sem] Oper.semAt_some
set_option linter.unusedVariables false
set_option linter.unusedSimpArgs false

/-- The functions below k of an arity that commute with all of a list. -/
def cenL (n : Int) (xs : List (Int × Int)) (k : Nat) : List (Int × Int) := ((List.range k).filter fun (x : Nat) => abTo2 xs (n, (x : Int)) xs.length).map fun (x : Nat) => (n, (x : Int))
theorem cenL_yes (n : Int) (xs : List (Int × Int)) (k : Nat) (h : abTo2 xs (n, (k : Int)) xs.length = true) : cenL n xs (k + 1) = cenL n xs k ++ [(n, (k : Int))] := by simp [cenL, List.range_succ, h]
theorem cenL_no (n : Int) (xs : List (Int × Int)) (k : Nat) (h : abTo2 xs (n, (k : Int)) xs.length = false) : cenL n xs (k + 1) = cenL n xs k := by simp [cenL, List.range_succ, h]
theorem cenL_len (n : Int) (xs : List (Int × Int)) (k : Nat) : (cenL n xs k).length ≤ k := by
  unfold cenL
  rw [List.length_map]
  exact Nat.le_trans (List.length_filter_le _ _) (by simp)

theorem owns_belowF {W W' : World} {base : Nat} {e : TypeId} {size : Nat} {v : Value} {n : Nat} {xs : List Value} (h : W.ownsRow base e size v n xs) (hb : Below W.heap.size W W') : W'.ownsRow base e size v n xs := by
  obtain ⟨h1, h2 | ⟨g, cap, cur, e1, e2, e3, r⟩⟩ := h
  · exact ⟨h1, .inl h2⟩
  · exact ⟨h1, .inr ⟨g, cap, cur, e1, e2, (hb.block g (Array.getElem?_eq_some_iff.1 e3).1).trans e3, r⟩⟩

set_option maxRecDepth 100000 in
set_option maxHeartbeats 4000000 in
theorem specCentraliserOf_yes {base : Nat} {s : Value} {xs : List (Int × Int)} (hc : codeL xs = 0) (n : Int) (h : inB n 0 3 = true) (h0 : 0 ≤ n) (h4 : n ≤ 4) {R T : Nat} (hT0 : 0 < T) (hT16 : T ≤ 65536) (hA : Hid (allN n = (T : Int) - 1)) (ok : ∀ x, x < T → FOk n x R) (w : World) (hs : OwnsF w base s xs) :
    Calls Try.prog 22 #[s, .int .i64 n] w (FListCodePost w.heap.size (cenL n xs T) 0 w) := by
  obtain ⟨i0, hi, hz0, hz1, hz2⟩ := info_parts infoF
  obtain ⟨hx, h8⟩ := codeL_two hc
  have LC := Lib.hid (l02Code_any (by omega) w hs hc)
  obtain ⟨a, cap, rfl, hC⟩ := cellsV_of hs
  have HY := Lib.hid (fun k => cenL_yes n xs k)
  have HN := Lib.hid (fun k => cenL_no n xs k)
  have HL := Lib.hid (fun k => cenL_len n xs k)
  clear hs hc
  generalize xs.length = L at LC hC hx h8 HY HN ⊢
  have HX := Lib.hid hx
  have HOK := Lib.hid (fun x (hx : x < T) => (ok x hx).is)
  clear hx ok
  go_enter Try.func22, Try.ntmps22
  go_wp2_with (first
    | (go_at_call 78; refine LC.out.mono ?_; rintro e w2 ⟨rfl, hb2⟩)
    | (go_at_call 84; refine (l01In_is h _).mono ?_; rintro e w' ⟨rfl, rfl⟩))
  have hs2 := hb2.size
  go_loopw [7, 8] (fun s b' wr => ∃ b : Nat, b ≤ T ∧ b' = .int .i64 b ∧ OwnsF wr w.heap.size s (cenL n xs b) ∧ Below w.heap.size w wr)
    (fun _ b' _ => T - (intOf b').toNat)
  case atStart => exact ⟨0, by omega, rfl, World.ownsRow_lit w2 #[] 0 hs2 (by decide) rfl, balloc hb2 _⟩
  case round =>
    obtain ⟨b, hb, rfl, hown, hN⟩ := hrel
    have hle := HL.out b
    have hsz := hN.size
    obtain ⟨wo, rfl⟩ : ∃ wo : World, wo = wr := ⟨_, rfl⟩
    by_cases hlt : b < T
    · have HF := Lib.hid (HOK.out b hlt)
      go_wp2_with (go_at_call 85; refine (l01All_top h0 h4 hA _).mono ?_; rintro e w' ⟨rfl, rfl⟩)
      obtain ⟨W1, hW1⟩ : ∃ W1, wo.alloc (.cells #[.int .i64 n, .int .i64 (b : Int)] 23) = W1 := ⟨_, rfl⟩
      have p0 : W1.cell? ⟨wo.heap.size, 0, none⟩ = some (.int .i64 n) := by rw [← hW1]; simp [go_sem]
      have p1 : W1.cell? ⟨wo.heap.size, 1, none⟩ = some (.int .i64 (b : Int)) := by rw [← hW1]; simp [go_sem]
      have hB1 : Below wo.heap.size wo W1 := by rw [← hW1]; exact bnew _ _
      rw [hW1]
      clear hW1
      rw [show decide ((b : Int) ≤ (T : Int) - 1) = true from decide_eq_true (by omega)]
      have HOW := Lib.hid (owns_belowF hown hB1)
      replace hN := bthen hN hB1
      clear hown hB1
      generalize wo.heap.size = BF at p0 p1 ⊢
      go_loopw [10, 11] (fun al' i' wr => ∃ i : Nat, i ≤ L ∧ i' = .int .i64 i ∧ al' = .bool (abTo2 xs (n, (b : Int)) i) ∧ Hid (abTo2 xs (n, (b : Int)) i = false → abTo2 xs (n, (b : Int)) L = false) ∧ Below W1.heap.size W1 wr) (fun _ i' _ => L - (intOf i').toNat)
      case atStart => exact ⟨0, Nat.zero_le _, rfl, rfl, Lib.hid (fun h => by cases h), Below.refl _ _⟩
      case round =>
        obtain ⟨i, hi', rfl, rfl, hno, hM⟩ := hrel
        have d0 := kc hM p0
        have d1 := kc hM p1
        have lBF : BF < wr.heap.size := cell_lt d0
        cases hal : abTo2 xs (n, (b : Int)) i
        · have HNO := Lib.hid (HN.out b (hno.out hal))
          have HO2 := Lib.hid (owns_belowF HOW.out hM)
          have hN2 := bthen hN hM
          clear hno hal p0 p1
          by_cases hil : i < L
          · go_wp2
            go_roundw
            case rel => exact ⟨b + 1, by omega, by go_num, by rw [HNO.out]; exact HO2.out, hN2⟩
            case measure => simp [intOf]; omega
          · go_wp2
            go_roundw
            case rel => exact ⟨b + 1, by omega, by go_num, by rw [HNO.out]; exact HO2.out, hN2⟩
            case measure => simp [intOf]; omega
        · by_cases hil : i < L
          · obtain ⟨g, rfl, u0, u1⟩ := hC.out i hil
            have hNM := bthen hN hM
            have e0 := (hNM.cell (p := ⟨g, i * 2, none⟩) (cell_lt u0)).trans u0
            have e1 := (hNM.cell (p := ⟨g, i * 2 + 1, none⟩) (cell_lt u1)).trans u1
            have KP := Lib.hid (fun W => l10Commute_p (p := (n, (b : Int))) HF.out (HX.out i hil) W)
            have HNX := Lib.hid (show abTo2 xs (n, (b : Int)) (i + 1) = comP (n, (b : Int)) (fget xs i) by rw [abTo2_succ, hal, comP_symm]; rfl)
            have HNL := Lib.hid (show comP (n, (b : Int)) (fget xs i) = false → abTo2 xs (n, (b : Int)) L = false from fun h => abTo2_no hil (by rw [comP_symm]; exact h))
            clear u0 u1 hno hal p0 p1
            generalize fget xs i = pi at e0 e1 KP HNX HNL
            go_wp2
            go_region_held3 (fun w' => (((w'.cell? ⟨BF, 0, none⟩ = some (.int .i64 n) ∧ w'.cell? ⟨BF, 1, none⟩ = some (.int .i64 (b : Int))) ∧ (w'.cell? ⟨g, i * 2, none⟩ = some (.int .i64 pi.1) ∧ w'.cell? ⟨g, i * 2 + 1, none⟩ = some (.int .i64 pi.2))) ∧ Below W1.heap.size W1 w')) (first | exact ⟨⟨⟨d0, d1⟩, ⟨e0, e1⟩⟩, hM.drew⟩ | assumption | exact step_heldF hb1 (by assumption))
              (first
                | (go_at_call 86; refine (KP.out _).mono ?_; rintro e w' ⟨rfl, hb1⟩))
            go_wp2
            go_roundw
            case rel => exact ⟨i + 1, by omega, by go_num, by rw [HNX.out], Lib.hid (by rw [HNX.out]; exact HNL.out), (‹_ ∧ Below _ _ _›).2⟩
            case measure => simp [intOf]; omega
          · have HIL : Hid (i = L) := Lib.hid (by omega)
            have HYE := Lib.hid (HY.out b (by rw [← HIL.out]; exact hal))
            have hown5 : World.ownsRow _ _ _ _ _ _ _ := owns_belowF HOW.out hM
            have hN5 := bthen hN hM
            have hs5 := hN5.size
            clear hno hal p0 p1
            go_wp2_with (first
              | (at_builtin; refine wpList_append_own _ rfl _ _ 24 rfl w.heap.size 23 i0 (.agg #[.int .i64 0, .int .i64 0]) 2 16 Try.underlying24 hi hz0 hz1 hz2 rfl (by decide) _ _ _ rfl (hown5.alloc _) ⟨wr.heap.size, 0, none⟩ 1 1 [.int .i64 n, .int .i64 (b : Int)] rfl rfl (cell_two_new _ _ _ _) (one_cell_two _ _) (by unfold maxLen; omega) (by omega) (by simp; omega) ?_))
            intro v' w1 hown' hgrow _
            have hN' := (balloc hN5 (.cells #[.int .i64 n, .int .i64 (b : Int)] 23)).grown hgrow (by simp; omega) (fun j e => (hown5.lt j e).1)
            clear hgrow hown5 hN5 d0 d1
            go_wp2
            go_roundw
            case rel => exact ⟨b + 1, by omega, by go_num, by rw [HYE.out]; exact OwnsF.snoc hown', hN'⟩
            case measure => simp [intOf]; omega
    · obtain rfl : b = T := by omega
      have ho := Lib.hid hown
      clear hown
      go_wp2_with (go_at_call 85; refine (l01All_top h0 h4 hA _).mono ?_; rintro e w' ⟨rfl, rfl⟩)
      go_ret2
      exact ⟨_, rfl, ho.out, hN⟩
end Go.Proofs.Ytdgpjpcdifpllaa

/- CC4:
  centraliserAmong of the program, at tables. -/
namespace Go.Proofs.Ytdgpjpcdifpllaa
open Go.RowKit Go.Shelf
attribute [local go_sem] Oper.semAt_some
set_option linter.unusedVariables false
set_option linter.unusedSimpArgs false

/-- The cells of a list of tables. -/
def CellsT (a : Option Addr) (m : Nat) (xs : List (Int × Int)) (sv : Nat → Option Addr × Nat × Nat) (W : World) : Prop := ∀ j, j < m → ∃ g, a = some ⟨g, 0, none⟩ ∧ W.cell? ⟨g, j * 3, none⟩ = some (.int .i64 (fget xs j).1) ∧ W.cell? ⟨g, j * 3 + 1, none⟩ = some (.int .i64 (fget xs j).2) ∧ W.cell? ⟨g, j * 3 + 2, none⟩ = some (.slice (sv j).1 (sv j).2.1 (sv j).2.2)
theorem CellsT.below {a : Option Addr} {m : Nat} {xs : List (Int × Int)} {sv : Nat → Option Addr × Nat × Nat} {W W' : World} (h : CellsT a m xs sv W) (hb : Below W.heap.size W W') : CellsT a m xs sv W' := fun j hj => by
  obtain ⟨g, e, h0, h1, h2⟩ := h j hj
  exact ⟨g, e, kc hb h0, kc hb h1, kc hb h2⟩
theorem stays_of {B n₀ : Nat} {W W' : World} (hb : Below n₀ W W') (h : B < n₀) : Stays B n₀ W W' := ⟨hb, fun v hv => (hb.cell (p := ⟨B, 0, none⟩) h).trans hv⟩
/-- .. that commute with all, of those handed out so far. -/
def cenF {T : Nat} (n : Int) (xs : List (Int × Int)) (L : Nat) (pre : List (Row T)) : List (Int × Int) := (pre.filter fun x => abTo2 xs (n, (x.1 : Int)) L).map fun x => (n, (x.1 : Int))
theorem cenF_yes {T : Nat} (n : Int) (xs : List (Int × Int)) (L : Nat) (pre : List (Row T)) (x : Row T) (h : abTo2 xs (n, (x.1 : Int)) L = true) : cenF n xs L (pre ++ [x]) = cenF n xs L pre ++ [(n, (x.1 : Int))] := by simp [cenF, h]
theorem cenF_no {T : Nat} (n : Int) (xs : List (Int × Int)) (L : Nat) (pre : List (Row T)) (x : Row T) (h : abTo2 xs (n, (x.1 : Int)) L = false) : cenF n xs L (pre ++ [x]) = cenF n xs L pre := by simp [cenF, h]
theorem cenF_len {T : Nat} (n : Int) (xs : List (Int × Int)) (L : Nat) (pre : List (Row T)) : (cenF n xs L pre).length ≤ pre.length := by
  unfold cenF
  rw [List.length_map]
  exact List.length_filter_le _ _
theorem cenF_upto {T : Nat} (hT : 0 < T) (n : Int) (xs : List (Int × Int)) (k : Nat) (hk : k ≤ T) : cenF n xs xs.length (upto hT k) = cenL n xs k := by
  induction k with
  | zero => rfl
  | succ k ih =>
    have hv := rowAt_val hT (k := k) (by omega)
    cases h : abTo2 xs (n, (k : Int)) xs.length
    · rw [upto_succ, cenF_no _ _ _ _ _ (by rw [hv]; exact h), ih (by omega), cenL_no _ _ _ h]
    · rw [upto_succ, cenF_yes _ _ _ _ _ (by rw [hv]; exact h), ih (by omega), cenL_yes _ _ _ h, hv]

set_option maxRecDepth 100000 in
set_option maxHeartbeats 8000000 in
theorem centraliserAmongC_any {xs : List (Int × Int)} {L : Nat} (hl : L ≤ 8) (n : Int) (h0 : 0 ≤ n) (h4 : n ≤ 4) {R T : Nat} (r0 : 0 < R) (r16 : R ≤ 16) (hR : Hid (rowsN n = (R : Int))) (hT : Hid (T = 2 ^ R)) (hT0 : 0 < T) (hT16 : T ≤ 65536) (Bs cap : Nat) (a : Option Addr) (sv : Nat → Option Addr × Nat × Nat) (w : World) (hs : w.cell? ⟨Bs, 0, none⟩ = some (.int .i64 n)) (hC : Hid (CellsT a L xs sv w))
    (HCC : Hid (∀ j, j < L → ∀ y, y < T → ∀ W, Below w.heap.size w W → Calls Try.prog 90 #[.agg #[.int .i64 (fget xs j).1, .int .i64 (fget xs j).2, .slice (sv j).1 (sv j).2.1 (sv j).2.2], .agg #[.int .i64 n, .int .i64 (y : Int)]] W fun e W' => e = .returned (.bool (comP (fget xs j) (n, (y : Int)))) ∧ Below W.heap.size W W')) :
    Calls Try.prog 87 #[.func (.func 147) #[] #[.pointer (some ⟨Bs, 0, none⟩)], .slice a L cap, .func (.func 90) #[] #[]] w fun e w' => ∃ s, e = .returned s ∧ OwnsF w' w.heap.size s (cenF n xs L (upto hT0 T)) ∧ Below w.heap.size w w' := by
  obtain ⟨i0, hi, hz0, hz1, hz2⟩ := info_parts infoF
  have lBs := cell_lt hs
  refine (callsIn_wide (n := 3)).1 ?_
  refine callsIn_of_wp_marks Try.func87 rfl trivial ?_ rfl
  simp only [Try.ntmps87, List.size_toArray, List.length_cons, List.length_nil, Nat.reduceAdd, Nat.reduceSub, Array.replicate_succ, Array.replicate_zero, List.push_toArray, List.append_toArray, List.nil_append, List.cons_append]
  gi_wp2_with fail
  rw [wpIn_wide]
  apply wp_scope_straight
  rw [← wpIn_wide (n := 3)]
  gi_wp2
  refine wpIn_label ?_
  gi_wp2
  obtain ⟨W0, hW0⟩ : ∃ W0, ((w.alloc (.cells #[.slice a L cap] 119)).alloc (.cells #[.func (.func 90) #[] #[]] 121)).alloc (.cells #[.slice none 0 0] 24) = W0 := ⟨_, rfl⟩
  have e1 : (w.alloc (.cells #[.slice a L cap] 119)).heap.size = w.heap.size + 1 := by simp
  have e2 : ((w.alloc (.cells #[.slice a L cap] 119)).alloc (.cells #[.func (.func 90) #[] #[]] 121)).heap.size = w.heap.size + 1 + 1 := by simp
  have hb4 : Boxed W0 w.heap.size 119 (.slice a L cap) := by rw [← hW0]; exact ((Boxed.new _ _ _).alloc _).alloc _
  have hb5 : Boxed W0 (w.heap.size + 1) 121 (.func (.func 90) #[] #[]) := by rw [← hW0, ← e1]; exact (Boxed.new _ _ _).alloc _
  have hbx : Boxed W0 (w.heap.size + 1 + 1) 24 (.slice none 0 0) := by rw [← hW0, ← e2]; exact Boxed.new _ _ _
  have hs0 : W0.cell? ⟨Bs, 0, none⟩ = some (.int .i64 n) := by rw [← hW0]; exact kc (bnew _ _) (kc (bnew _ _) (kc (bnew _ _) hs))
  have hsz : W0.heap.size = w.heap.size + 3 := by rw [← hW0]; simp [go_sem]
  have hB0 : Below w.heap.size w W0 := by rw [← hW0]; exact balloc (balloc (bnew _ _) _) _
  have hC0 : Hid (CellsT a L xs sv W0) := Lib.hid (hC.out.below hB0)
  try rw [hW0]
  clear hW0 e1 e2
  refine wpIn_rangeFunc_ownH (α := Row T) rfl (by omega) (gf := 147) (lb := #[.pointer (some ⟨Bs, 0, none⟩)]) rfl trivial (enters_of Try.func147 (by kernel_rfl) rfl)
    (funcs_stops (3 - 1) (by omega) Bs w.heap.size n R T h0 h4 r0 r16 hR hT.out hT0 hT16 W0 hs0) stays_t (stays_b (by omega)) (Below.refl _ _) (fun _ => rfl)
    (fun pre W => (∃ v, Boxed W (w.heap.size + 1 + 1) 24 v ∧ W.ownsRow (w.heap.size + 1 + 1) 23 2 v (cenF n xs L pre).length (fcells (cenF n xs L pre)) ∧ True) ∧ (Boxed W w.heap.size 119 (.slice a L cap) ∧ (Boxed W (w.heap.size + 1) 121 (.func (.func 90) #[] #[]) ∧ Below w.heap.size w W)))
    (fun _ _ _ => False)
    (OwnFrom.and (Own.from (holdsRow_own (w.heap.size + 1 + 1) (w.heap.size + 1 + 1) 24 23 2 (fun pre => (cenF n xs L pre).length) (fun pre => fcells (cenF n xs L pre)) (fun _ _ => True)) _) (OwnFrom.and ((boxed_own w.heap.size 119 (fun _ => .slice a L cap)).from _) (OwnFrom.and ((boxed_own (w.heap.size + 1) 121 (fun _ => .func (.func 90) #[] #[])).from _) (ownFrom_below (Nat.le_refl _) (by omega)))))
    (fun _ _ _ _ _ hs _ _ => hs)
    ⟨⟨_, hbx, World.ownsRow_nil _ _ _ _, trivial⟩, hb4, hb5, hB0⟩
    (fun x a' W => ∃ BX, a' = { tmps := #[.func (.func 147) #[] #[.pointer (some ⟨Bs, 0, none⟩)], .slice a L cap, .func (.func 90) #[] #[], undef, .pointer (some ⟨w.heap.size, 0, none⟩), .pointer (some ⟨w.heap.size + 1, 0, none⟩), .slice none 0 0, .pointer (some ⟨w.heap.size + 1 + 1, 0, none⟩), .pointer (some ⟨BX, 0, none⟩), undef, undef, .func (.func 147) #[] #[.pointer (some ⟨Bs, 0, none⟩)], .agg #[.int .i64 n, .int .i64 (x.1 : Int)], undef, undef, undef, undef, undef, undef, undef, undef, undef, undef, undef, undef, undef, undef, undef, undef, undef], defers := [] } ∧ (W.cell? ⟨BX, 0, none⟩ = some (.int .i64 n) ∧ W.cell? ⟨BX, 1, none⟩ = some (.int .i64 (x.1 : Int))))
    (fun x a' W A B row ⟨BX, e, hb⟩ hg hr => ⟨BX, e, ⟨cell_kept hb.1 hg (fun r er => (hr r er).2), cell_kept hb.2 hg (fun r er => (hr r er).2)⟩⟩)
    ?assign ?body ?done ?stop
  case assign =>
    rintro l pre x W K ⟨⟨v, hv, hrow, _⟩, hm4, hm5, hB⟩ hK
    unfold encFunc
    gi_wp2
    refine hK _ _ ((KeepsOthers.alloc W _).from _) (stays_below (by have := hB.size; omega) (bnew _ _)) ⟨⟨v, hv.alloc _, hrow.alloc _, trivial⟩, hm4.alloc _, hm5.alloc _, balloc hB _⟩ ⟨W.heap.size, rfl, ⟨by simp [go_sem], by simp [go_sem]⟩⟩
  case body =>
    clear hbx hb4 hb5 hs0 hC0
    rintro l pre x _ W hl hrec ⟨⟨v, hv, hrow, _⟩, hm4, hm5, hB⟩ ⟨BX, rfl, c0, c1⟩ hlen
    clear hrec
    have hle := cenF_len n xs L pre
    have HM4 := Lib.hid hm4
    have HM5 := Lib.hid hm5
    have d4 := hm4.cell
    have d5 := hm5.cell
    have HV := Lib.hid hv
    have HR := Lib.hid hrow
    clear hv hrow hm4 hm5
    have HYES := Lib.hid (cenF_yes n xs L pre x)
    have HNOX := Lib.hid (cenF_no n xs L pre x)
    have hs2 := hB.size
    obtain ⟨pg, hpg⟩ : ∃ pg : Int × Int, pg = (n, (x.1 : Int)) := ⟨_, rfl⟩
    have hcx : ∀ j, j < L → ∀ W, Below w.heap.size w W → Calls Try.prog 90 #[.agg #[.int .i64 (fget xs j).1, .int .i64 (fget xs j).2, .slice (sv j).1 (sv j).2.1 (sv j).2.2], .agg #[.int .i64 pg.1, .int .i64 pg.2]] W fun e W' => e = .returned (.bool (comP (fget xs j) pg)) ∧ Below W.heap.size W W' := by
      intro j hj W hW
      rw [hpg]
      exact HCC.out j hj x.1 x.2 W hW
    have HCX := Lib.hid hcx
    have c0' : W.cell? ⟨BX, 0, none⟩ = some (.int .i64 pg.1) := by rw [hpg]; exact c0
    have c1' : W.cell? ⟨BX, 1, none⟩ = some (.int .i64 pg.2) := by rw [hpg]; exact c1
    rw [← hpg] at HYES HNOX
    clear hpg c0 c1 hcx
    have c0 := c0'
    have c1 := c1'
    clear c0' c1'
    gi_wp2
    gi_loopw [15] (fun i' wr => ∃ i : Nat, i ≤ L ∧ i' = .int .i64 i ∧ Hid (abTo2 xs pg i = true) ∧ Below W.heap.size W wr) (fun i' _ => L - (intOf i').toNat)
    case atStart => exact ⟨0, Nat.zero_le _, rfl, Lib.hid rfl, Below.refl _ _⟩
    case round =>
      clear d4
      obtain ⟨i, hi', rfl, hkp, hM⟩ := hrel
      have d0 := kc hM c0
      have d1 := kc hM c1
      have d6 := kc hM d5
      by_cases hil : i < L
      · obtain ⟨g, rfl, h0', h1', h2'⟩ := hC.out i hil
        have e0 := kc hM ((hB.cell (p := ⟨g, i * 3, none⟩) (cell_lt h0')).trans h0')
        have e1 := kc hM ((hB.cell (p := ⟨g, i * 3 + 1, none⟩) (cell_lt h1')).trans h1')
        have e2 := kc hM ((hB.cell (p := ⟨g, i * 3 + 2, none⟩) (cell_lt h2')).trans h2')
        have lBX : BX < wr.heap.size := cell_lt d0
        have l5 : w.heap.size + 1 < wr.heap.size := cell_lt d6
        have KP := Lib.hid (fun W hW => HCX.out i hil W hW)
        have HBM := Lib.hid (bthen hB hM)
        clear h0' h1' h2'
        generalize (sv i).1 = sa at e2 KP
        generalize (sv i).2.1 = sl at e2 KP
        generalize (sv i).2.2 = sc at e2 KP
        cases hkr : comP (fget xs i) pg
        · rw [hkr] at KP
          have HNO := Lib.hid (HNOX.out (abTo2_no hil hkr))
          generalize fget xs i = pr at e0 e1 KP
          clear hkr hkp
          gi_wp2_with (refine ⟨trivial, ?_⟩; gi_at_call 90; refine (callsIn_wide.2 (KP.out _ (balloc HBM.out _))).mono ?_; rintro e w5 ⟨rfl, hb5⟩)
          have hb' : Below W.heap.size W w5 := bthen (bthen hM (bnew _ _)) hb5
          refine ⟨(kotb hb').from _, stays_of (hb'.mono hs2) lBs, ⟨v, ?_, ?_, trivial⟩, (hb'.block _ HM4.out.lt).trans HM4.out, (hb'.block _ HM5.out.lt).trans HM5.out, bthen hB hb'⟩
          · exact (hb'.block _ HV.out.lt).trans HV.out
          · rw [HNO.out]; exact OwnsF.below HR.out hb'
        · rw [hkr] at KP
          have HK2 : Hid (abTo2 xs pg (i + 1) = true) := Lib.hid (by rw [abTo2_succ, hkp.out, hkr]; rfl)
          generalize fget xs i = pr at e0 e1 KP
          clear hkr hkp
          gi_wp2_with (refine ⟨trivial, ?_⟩; gi_at_call 90; refine (callsIn_wide.2 (KP.out _ (balloc HBM.out _))).mono ?_; rintro e w5 ⟨rfl, hb5⟩)
          go_roundw
          case rel => exact ⟨i + 1, by omega, by go_num, HK2, bthen (bthen hM (bnew _ _)) hb5⟩
          case measure => simp [intOf]; omega
      · have HIL : Hid (i = L) := Lib.hid (by omega)
        have HC : Hid (cenF n xs L (pre ++ [x]) = cenF n xs L pre ++ [pg]) := Lib.hid (HYES.out (by rw [← HIL.out]; exact hkp.out))
        have hv5 : Boxed wr (w.heap.size + 1 + 1) 24 v := (hM.block _ HV.out.lt).trans HV.out
        have HV5 := Lib.hid hv5
        have dv := hv5.cell
        have hrow5 : World.ownsRow _ _ _ _ _ _ _ := OwnsF.below HR.out hM
        have HM44 := Lib.hid (show Boxed wr w.heap.size 119 (.slice a L cap) from (hM.block _ HM4.out.lt).trans HM4.out)
        have HM55 := Lib.hid (show Boxed wr (w.heap.size + 1) 121 (.func (.func 90) #[] #[]) from (hM.block _ HM5.out.lt).trans HM5.out)
        have hB5 := bthen hB hM
        have hs5 : w.heap.size + 1 + 1 ≤ wr.heap.size := Nat.le_of_lt hv5.lt
        clear hv5 hkp
        generalize hlk : (cenF n xs L pre).length = q at hle hrow5
        have HLK := Lib.hid hlk
        clear hlk
        gi_wp2_with (gi_at_builtin; refine wpListIn_append_own _ rfl _ _ 24 rfl (w.heap.size + 1 + 1) 23 i0 (.agg #[.int .i64 0, .int .i64 0]) 2 16 Try.underlying24 hi hz0 hz1 hz2 rfl (by decide) _ _ _ rfl (hrow5.alloc _) ⟨wr.heap.size, 0, none⟩ 1 1 [.int .i64 pg.1, .int .i64 pg.2] rfl rfl (cell_two_new _ _ _ _) (one_cell_two _ _) (by unfold maxLen; omega) (by omega) (by simp; omega) ?_; intro v' w1 hown' hgrow _; have HAP := Lib.hid (Boxed.appended HV5.out (by decide) hrow5 hs5 (Nat.le_refl _) hown' hgrow); obtain ⟨g5, cap5, rfl⟩ := ownsRow_succ hown'; have HN4 := Lib.hid ((HM44.out.alloc _).kept hgrow (HM44.out.not_row (by decide) hrow5)); have HN5 := Lib.hid ((HM55.out.alloc _).kept hgrow (HM55.out.not_row (by decide) hrow5)); have e5 := HAP.out.1.cell; have z5 := HAP.out.1.frozen; clear hgrow)
        obtain ⟨a1, a2, a3, a4, a5⟩ := HAP.out
        have hm6 := HN4.out.other (B' := w.heap.size + 1 + 1) (by omega) (.slice (some ⟨g5, 0, none⟩) (q + 1) cap5)
        have hm7 := HN5.out.other (B' := w.heap.size + 1 + 1) (by omega) (.slice (some ⟨g5, 0, none⟩) (q + 1) cap5)
        refine ⟨((kotb hM).trans a4).from _, stays_of ((hM.mono hs2).trans (a5.mono (by omega))) lBs, ⟨_, a2, ?_, trivial⟩, hm6, hm7, hB5.trans (a5.mono (by omega))⟩
        rw [HC.out, fcells_snoc, List.length_append, HLK.out]
        exact a3
  case done =>
    clear hbx hb4 hb5 hs0 hC0
    rintro D ys W hD rfl ⟨⟨v, hv, hrow, _⟩, _, _, hB⟩ hK
    have dv := hv.cell
    have HR := Lib.hid hrow
    clear hrow hv
    gi_wp2
    rw [Exit.noGoto_ret]
    refine ⟨by simp, .inl ⟨_, _, rfl, run_takeDeferred hK, ?_⟩⟩
    refine ⟨v, by simp [results, Try.results87, go_sem], v, rfl, ?_, hB.trans (belowK_b (w := w) (Nat.le_refl _) W D _ _ (by omega) hK rfl rfl)⟩
    exact OwnsF.mono (ownsRow_putObj HR.out _ hK rfl) (by omega)
  case stop =>
    rintro D c pre W _ _ h _
    exact h.elim
end Go.Proofs.Ytdgpjpcdifpllaa

/- NR1:
  A range over a function whose iterator keeps cells of its own, as NX2, where a round may write numbers in blocks of its own that lie above (a list that is appended to while it is ranged):
  the caller's word J H is kept under writes to the blocks in [K, H); a round keeps the blocks of T H, and above K all that are no numbers. -/
namespace Go.Proofs.Ytdgpjpcdifpllaa
open Go Go.RowKit

set_option linter.unusedVariables false

/-- Something else than cells of int64. -/
def Other (o : Option Obj) : Prop := ∃ o', o = some o' ∧ ∀ cs z, o' ≠ .cells cs 2 z
/-- What lay in the blocks of S lies as it lay; above K all that are no numbers. -/
structure AboveI (K : Nat) (S : Nat → Prop) (W W' : World) : Prop where
  size : W.heap.size ≤ W'.heap.size
  same : ∀ k, (S k ∨ (K ≤ k ∧ Other W.heap[k]?)) → k < W.heap.size → W'.heap[k]? = W.heap[k]?
theorem AboveI.refl (K : Nat) (S : Nat → Prop) (W : World) : AboveI K S W W := ⟨Nat.le_refl _, fun _ _ _ => rfl⟩
theorem AboveI.trans {K : Nat} {S : Nat → Prop} {A B C : World} (h : AboveI K S A B) (k : AboveI K S B C) : AboveI K S A C :=
  ⟨Nat.le_trans h.size k.size, fun i h1 h2 => (k.same i (by
    rcases h1 with h1 | ⟨h1, h3⟩
    · exact .inl h1
    · exact .inr ⟨h1, by rw [h.same i (.inr ⟨h1, h3⟩) h2]; exact h3⟩) (Nat.lt_of_lt_of_le h2 h.size)).trans (h.same i h1 h2)⟩
theorem AboveI.mono {K : Nat} {S S' : Nat → Prop} {A B : World} (h : AboveI K S A B) (hk : ∀ k, S' k → S k) : AboveI K S' A B := ⟨h.size, fun i h1 h2 => h.same i (h1.imp_left (hk i)) h2⟩
theorem AboveI.grown {K : Nat} {S : Nat → Prop} {A B : World} {row : Option Nat} (hg : A.grownBy B row) (hr : ∀ r, row = some r → ¬ S r ∧ (r < K ∨ ¬ Other A.heap[r]?)) : AboveI K S A B :=
  ⟨hg.size, fun i h1 h2 => hg.block i h2 (fun e => by
    obtain ⟨h3, h4⟩ := hr i e.symm
    rcases h1 with h1 | ⟨h1, h5⟩
    · exact h3 h1
    · rcases h4 with h4 | h4
      · omega
      · exact h4 h5)⟩
theorem AboveI.below {K : Nat} {S : Nat → Prop} {A B : World} (h : Below A.heap.size A B) : AboveI K S A B := ⟨h.size, fun i _ h2 => h.block i h2⟩
theorem AboveI.put {K : Nat} {S : Nat → Prop} (W : World) (l : Nat) (o : Obj) (hl : ¬ S l) (hk : l < K) : AboveI K S W (W.putObj l o) := AboveI.grown (grownBy_putObj' W l o) (fun r e => by cases e; exact ⟨hl, .inl hk⟩)

/-- What is kept under writes to the blocks in [K, H), and under growth. -/
def FirmB {β : Type} (K H : Nat) (J : β → World → Prop) : Prop :=
  ∀ s W W' row, J s W → W.grownBy W' row → (∀ r, row = some r → K ≤ r ∧ r < H) → J s W'
theorem FirmB.mono {β : Type} {K K' H : Nat} {J : β → World → Prop} (h : FirmB K H J) (hk : K ≤ K') : FirmB K' H J := fun s W W' row hs hg hr => h s W W' row hs hg (fun r e => ⟨Nat.le_trans hk (hr r e).1, (hr r e).2⟩)
theorem FirmB.and {β : Type} {K H : Nat} {I I' : β → World → Prop} (h : FirmB K H I) (h' : FirmB K H I') : FirmB K H (fun s W => I s W ∧ I' s W) :=
  fun s W W' row hs hg hr => ⟨h s W W' row hs.1 hg hr, h' s W W' row hs.2 hg hr⟩
theorem FirmB.put {β : Type} {K H : Nat} {J : β → World → Prop} (h : FirmB K H J) {s : β} {W : World} (l : Nat) (o : Obj) (hs : J s W) (hl : K ≤ l) (hH : l < H) : J s (W.putObj l o) :=
  h s W _ (some l) hs (grownBy_putObj' W l o) (fun r e => by cases e; exact ⟨hl, hH⟩)
theorem FirmB.alloc {β : Type} {K H : Nat} {J : β → World → Prop} (h : FirmB K H J) {s : β} {W : World} (o : Obj) (hs : J s W) : J s (W.alloc o) :=
  h s W _ none hs (World.grownBy_alloc W o none) (fun r e => by cases e)
theorem FirmB.drew {β : Type} {K H : Nat} {J : β → World → Prop} (h : FirmB K H J) {s : β} {W : World} (hs : J s W) : J s W.drew :=
  h s W W.drew none hs ⟨rfl, rfl, rfl, Nat.le_refl _, fun _ _ _ => rfl⟩ (fun r e => by cases e)
theorem Firm.toB {β : Type} {K : Nat} {J : β → World → Prop} (h : Firm K J) (H : Nat) : FirmB K H J := fun s W W' row hs hg hr => h s W W' row hs hg (fun r e => (hr r e).1)

/-- How a round may be left. -/
def postXB {α : Type} (B K : Nat) (T : Nat → Prop) (I : List α → World → Prop) (Ix : Code → List α → World → Prop) (xs : List α) (W : World) : Exit → Act → World → Prop
  | .normal, _, W' => (KeepsFrom B W W' ∧ AboveI K T W W') ∧ I xs W'
  | .ret, _, W' => (KeepsFrom B W W' ∧ AboveI K T W W') ∧ Ix .ret xs W'
  | .exit id, _, W' => (KeepsFrom B W W' ∧ AboveI K T W W') ∧ Ix (.exit id) xs W'
  | .goto t, _, W' => (KeepsFrom B W W' ∧ AboveI K T W W') ∧ Ix (.goto t) xs W'
  | .panic _, _, _ => False
  | .outgrown, _, _ => False

/-- **The contract.** -/
def SeqXB {α : Type} (F : Fence) (n : Nat) (P : Program) (g : Nat) (lb : Array Value) (encs : α → Array Value) (S Sp : List α → Prop) (N K : Nat) (T : Nat → Nat → Prop) (Vis : Nat → α → World → Prop) (w : World) : Prop :=
  ∀ (l : Nat) (J Jx : Nat → List α → World → Prop) (W : World), Below w.heap.size w W → K ≤ W.heap.size → (∀ H, FirmB K H (J H)) → (∀ H, FirmB K H (Jx H)) →
    (∀ H pre x W1, J H pre W1 → W.heap.size ≤ H → H ≤ W1.heap.size → pre.length < N → Vis K x W1 → YieldAt F (n - 1) P l (encs x) W1 fun e W' =>
      AboveI K (T H) W1 W' ∧ ((e = .returned (.bool true) ∧ J H (pre ++ [x]) W') ∨ (e = .returned (.bool false) ∧ Jx H (pre ++ [x]) W'))) →
    (∀ H, W.heap.size ≤ H → J H [] W) →
    CallsIn F n P g (#[.func (.yield l) #[] #[]] ++ lb) W fun e W' => (∃ v, e = .returned v) ∧ ((∃ xs H, W.heap.size ≤ H ∧ S xs ∧ J H xs W') ∨ (∃ pre H, W.heap.size ≤ H ∧ Sp pre ∧ Jx H pre W'))

variable {F : Fence} {n : Nat} {P : Program}

/-- **The law of who ranges over it.** -/
theorem wpIn_rangeFunc_XB {α : Type} {g : Operand} {ps : Array Tmp} {assign body : Code} {Q : Exit → Act → World → Prop} {a : Act} {w : World}
    (hro : F.round = none) (h1 : 1 ≤ n) {gf : Nat} {lb : Array Value} (hg : a.eval g = .func (.func gf) #[] lb) (hFg : F.fn gf) (eg : ∀ args w, (callFunc gf args).run P w = .ok (.enter gf args) w)
    {encs : α → Array Value} {S Sp : List α → Prop} {N : Nat} {T : Nat → Nat → Prop} {Vis : Nat → α → World → Prop} {w0 : World} (hT : ∀ H, ¬ T H (w.heap.size + 1)) (hseq : SeqXB F (n - 1) P gf lb encs S Sp N (w.heap.size + 2) T Vis w0)
    (hVs : ∀ x W W' row, Vis (w.heap.size + 2) x W → W.grownBy W' row → (∀ r, row = some r → r < w.heap.size + 2) → Vis (w.heap.size + 2) x W')
    (hb0 : Below w0.heap.size w0 w) (hps : ∀ x, (encs x).size = ps.size)
    (I : Nat → List α → World → Prop) (Ix : Nat → Code → List α → World → Prop) (hI : ∀ H, FirmB w.heap.size H (I H)) (hIx : ∀ H c, FirmB w.heap.size H (Ix H c)) (h0 : ∀ H, w.heap.size + 2 ≤ H → I H [] w) (a₁ : α → Act)
    (hassign : ∀ (l : Nat) (x : α) (W : World) (K : Act → World → Prop), K (a₁ x) W →
      assign.wpIn (F.inRound l) (n - 1 - 1) P (Exit.then K (fun _ _ _ => False)) { tmps := (ps.zip (encs x)).foldl (fun t (p, v) => t.setIfInBounds p v) a.tmps, defers := [] } W)
    (hbody : ∀ (l H : Nat) (pre : List α) (x : α) (W : World), I H pre W → w.heap.size + 2 ≤ H → H ≤ W.heap.size → pre.length < N → Vis (w.heap.size + 2) x W → body.wpIn (F.inRound l) (n - 1 - 1) P (postXB w.heap.size (w.heap.size + 2) (T H) (I H) (Ix H) (pre ++ [x]) W) (a₁ x) W)
    (hdone : ∀ (D H : Nat) (xs : List α) (W : World), w.heap.size ≤ D → D < w.heap.size + 2 → w.heap.size + 2 ≤ H → S xs → I H xs W → W.heap[D]? = some (.deferred (some [])) → Q .normal { a with defers := { target := .collected D, args := #[] } :: a.defers } W)
    (hstop : ∀ (D H : Nat) (c : Code) (pre : List α) (W : World), w.heap.size ≤ D → D < w.heap.size + 2 → w.heap.size + 2 ≤ H → Sp pre → Ix H c pre W → W.heap[D]? = some (.deferred (some [])) → c.wpIn F n P Q { a with defers := { target := .collected D, args := #[] } :: a.defers } W) :
    (Code.rangeFunc g ps assign body).wpIn F n P Q a w := by
  refine wpIn_rangeFunc fun fn hfn => ?_
  rw [hro]
  -- the loop's record, as a function of its state and its pending jump; the world with both blocks of book-keeping
  let D := w.heap.size
  let L := w.heap.size + 1
  let rec' : LoopState → Option Code → Obj := fun st pe => .loop { state := st, pending := pe, fn, tmps := a.tmps, params := ps, assign, body, defers := D }
  obtain ⟨V, hV⟩ : ∃ V, (w.alloc (.deferred (some []))).alloc (rec' .ready none) = V := ⟨_, rfl⟩
  have sV : V.heap.size = w.heap.size + 2 := by rw [← hV]; simp
  have hL : V.heap[L]? = some (rec' .ready none) := by
    rw [← hV]; have := World.alloc_heap_new (w.alloc (.deferred (some []))) (rec' .ready none); rwa [World.size_alloc] at this
  have hD : V.heap[D]? = some (.deferred (some [])) := by
    rw [← hV]; exact (Below.heap_alloc _ _ _ (by simp [D])).trans (World.alloc_heap_new w _)
  have hIV : ∀ H, w.heap.size + 2 ≤ H → I H [] V := fun H hH => by rw [← hV]; exact (hI H).alloc _ ((hI H).alloc _ (h0 H hH))
  have hBV : Below w0.heap.size w0 V := by
    rw [← hV]; exact (hb0.alloc hb0.size _).alloc (by simp; have := hb0.size; omega) _
  refine ⟨L, [{ target := .collected D, args := #[] }], V, { target := .fn (.func gf) lb, args := #[.func (.yield L) #[] #[]] }, V, gf, #[.func (.yield L) #[] #[]] ++ lb, V, ?_, ?_, ?_, ?_, fun _ => h1, ?_⟩
  · rw [← hV]; exact run_enterLoop_outer _ _ _ _ _
  · simp only [resolve, hg]; simp [go_sem]
  · intro f' hf'; simp [Target.leads] at hf'; subst hf'; exact hFg
  · simp [invoke, go_sem, eg]
  have fL : ∀ o, Firm (w.heap.size + 2) (fun (_ : List α) W => W.heap[L]? = some o) := fun o => firm_block (by simp [L]) o
  have fD : Firm (w.heap.size + 2) (fun (_ : List α) W => W.heap[D]? = some (.deferred (some []))) := firm_block (by simp [D]) _
  have fI : ∀ H, FirmB (w.heap.size + 2) H (I H) := fun H => (hI H).mono (by omega)
  refine (hseq L (fun H pre W => I H pre W ∧ (W.heap[L]? = some (rec' .ready none) ∧ W.heap[D]? = some (.deferred (some []))))
    (fun H pre W => ∃ c, Ix H c pre W ∧ (W.heap[L]? = some (rec' .done (some c)) ∧ W.heap[D]? = some (.deferred (some []))))
    V hBV (by omega) (fun H => (fI H).and (((fL _).and fD).toB H))
    (fun H s A B row hs hg' hr => by
      obtain ⟨c, hc, hk⟩ := hs
      exact ⟨c, (hIx H c).mono (Nat.le_add_right _ 2) s A B row hc hg' hr, (((fL _).and fD).toB H) s A B row hk hg' hr⟩)
    ?_ (fun H hH => ⟨hIV H (by omega), hL, hD⟩)).mono ?_
  · -- one round
    rintro H pre x W ⟨hi, hl, hd⟩ hH1 hH2 hlen hvis
    have hH : w.heap.size + 2 ≤ H := by omega
    have hlt : L < W.heap.size := (Array.getElem?_eq_some_iff.1 hl).1
    refine ⟨fn, _, assign, body, run_yield (P := P) (args := encs x) hl (hps x), roundIn_of_wpIn hfn (hassign _ x W _ ⟨_, run_beginRound hl rfl, ?_⟩)⟩
    obtain ⟨Wb, hWb⟩ : ∃ Wb, W.putObj L (rec' .busy none) = Wb := ⟨_, rfl⟩
    have hlb : Wb.heap[L]? = some (rec' .busy none) := by rw [← hWb]; exact World.putObj_heap_same hlt
    have hdb : Wb.heap[D]? = some (.deferred (some [])) := by rw [← hWb]; exact (World.putObj_heap_other (by simp [D, L])).trans hd
    have hib : I H pre Wb := by rw [← hWb]; exact (hI H).put _ _ hi (by simp [L]) (by simp [L]; omega)
    have hab : AboveI (w.heap.size + 2) (T H) W Wb := by rw [← hWb]; exact AboveI.put _ _ _ (hT H) (by simp [L])
    change body.wpIn _ _ _ _ _ (W.putObj L (rec' .busy none))
    rw [hWb]
    have hvb : Vis (w.heap.size + 2) x Wb := by rw [← hWb]; exact hVs x W _ (some L) hvis (grownBy_putObj' W L _) (fun r e => by cases e; simp [L])
    have hsb : H ≤ Wb.heap.size := Nat.le_trans hH2 hab.size
    refine wpIn_mono (hbody L H pre x Wb hib hH hsb hlen hvb) ?_
    -- the round's end: the record and the block behind it lie as they lay
    have fin : ∀ (jump : Option Code) (W3 : World), KeepsFrom w.heap.size Wb W3 → AboveI (w.heap.size + 2) (T H) Wb W3 →
        ∃ W4, (Instr.endRound L jump).run P W3 = .ok (.bool jump.isNone) W4 ∧ W4.heap[L]? = some (rec' (if jump.isNone then .ready else .done) jump) ∧ W4.heap[D]? = some (.deferred (some [])) ∧ AboveI (w.heap.size + 2) (T H) W W4 ∧
          (∀ (J : List α → World → Prop), FirmB w.heap.size H J → ∀ ys, J ys W3 → J ys W4) := fun jump W3 hk ha => by
      have hl3 := hk.same L _ (by simp [L]) hlb rfl
      have hd3 := hk.same D _ (Nat.le_refl _) hdb rfl
      refine ⟨_, run_endRound (P := P) jump hl3, World.putObj_heap_same (Array.getElem?_eq_some_iff.1 hl3).1, (World.putObj_heap_other (by simp [D, L])).trans hd3, (hab.trans ha).trans (AboveI.put _ _ _ (hT H) (by simp [L])), fun J hJ ys h => hJ.put _ _ h (by simp [L]) (by simp [L]; omega)⟩
    rintro e a3 W3 hp
    cases e with
    | normal =>
      obtain ⟨⟨hk, ha⟩, hi3⟩ := hp
      obtain ⟨W4, hr, hl4, hd4, ha4, hj⟩ := fin none W3 hk ha
      exact ⟨_, _, hr, ha4, .inl ⟨rfl, hj (I H) (hI H) _ hi3, hl4, hd4⟩⟩
    | ret =>
      obtain ⟨⟨hk, ha⟩, hi3⟩ := hp
      obtain ⟨W4, hr, hl4, hd4, ha4, hj⟩ := fin (some .ret) W3 hk ha
      exact ⟨_, _, hr, ha4, .inr ⟨rfl, .ret, hj _ (hIx H _) _ hi3, hl4, hd4⟩⟩
    | exit id =>
      obtain ⟨⟨hk, ha⟩, hi3⟩ := hp
      obtain ⟨W4, hr, hl4, hd4, ha4, hj⟩ := fin (some (.exit id)) W3 hk ha
      exact ⟨_, _, hr, ha4, .inr ⟨rfl, .exit id, hj _ (hIx H _) _ hi3, hl4, hd4⟩⟩
    | goto t =>
      obtain ⟨⟨hk, ha⟩, hi3⟩ := hp
      obtain ⟨W4, hr, hl4, hd4, ha4, hj⟩ := fin (some (.goto t)) W3 hk ha
      exact ⟨_, _, hr, ha4, .inr ⟨rfl, .goto t, hj _ (hIx H _) _ hi3, hl4, hd4⟩⟩
    | panic ch => exact hp.elim
    | outgrown => exact hp.elim
  · -- behind the iterator
    rintro e W2 ⟨⟨v, rfl⟩, (⟨xs, H, hH, hS, hi, hl, hd⟩ | ⟨pre, H, hH, hSp, c, hi, hl, hd⟩)⟩
    · exact ⟨none, _, run_endLoop (P := P) hl (by simp), hdone D H xs _ (Nat.le_refl _) (by simp [D]) (by omega) hS ((hI H).put _ _ hi (by simp [L]) (by simp [L]; omega)) ((World.putObj_heap_other (by simp [D, L])).trans hd)⟩
    · exact ⟨some c, _, run_endLoop (P := P) hl (by simp), hstop D H c pre _ (Nat.le_refl _) (by simp [D]) (by omega) hSp ((hIx H c).put _ _ hi (by simp [L]) (by simp [L]; omega)) ((World.putObj_heap_other (by simp [D, L])).trans hd)⟩
end Go.Proofs.Ytdgpjpcdifpllaa

/- NR2:
  putFrom by contract, where a round may write numbers of its own: nothing left to put in. -/
namespace Go.Proofs.Ytdgpjpcdifpllaa
open Go.RowKit Go.Shelf
set_option linter.unusedVariables false
set_option linter.unusedSimpArgs false

set_option maxRecDepth 100000 in
set_option maxHeartbeats 4000000 in
theorem putFrom_zeroR {v : Nat → Nat} (hv : ∀ q, v q < 2 ^ 4) (l T U K m N L : Nat) (S : Nat → Prop) (sg : Value) (J Jx : List OutV → World → Prop) (H : Nat) (hJ : FirmB K H J)
    (hL : L = 2 ^ (m + 1))
    (hY : ∀ pre x W, J pre W → H ≤ W.heap.size → pre.length < N → Vis m K x W → YieldAt Fence.wide 1 Try.prog l (encSV x) W fun e W' =>
      AboveI K S W W' ∧ ((e = .returned (.bool true) ∧ J (pre ++ [x]) W') ∨ (e = .returned (.bool false) ∧ Jx (pre ++ [x]) W')))
    (n : Nat) (p : List Nat) (hp : p.length = m) (pre : List OutV) (tr pu : List Int) (W : World) (kU : K ≤ U) (hpu : pu.take p.length = nI p) (hpb : ∀ a, a ∈ p → a < 16) (hm : SMemV T U L m tr pu W) (hlev : ∀ q, q < 2 ^ 0 → tr[2 ^ 0 + q]? = some ((levF v p q : Nat) : Int)) (hj : J pre W) (hN : pre.length < N) (hHW : H ≤ W.heap.size) (hT : T < W.heap.size) (hU : U < W.heap.size) (hK : K ≤ W.heap.size) :
    CallsIn Fence.wide n Try.prog 246 #[.agg #[.slice (some ⟨T, 0, none⟩) L L, .slice (some ⟨U, 0, none⟩) m m, sg], .int .i64 (m : Int), .func (.yield l) #[] #[]] W fun e W' =>
      (e = .returned (.bool true) ∧ AboveI K S W W' ∧ J (pre ++ [outOfV (.slice (some ⟨U, 0, none⟩) m m) hv p]) W') ∨ (e = .returned (.bool false) ∧ Jx (pre ++ [outOfV (.slice (some ⟨U, 0, none⟩) m m) hv p]) W') := by
  have hb := bnew W (.cells #[.slice (some ⟨T, 0, none⟩) L L, .slice (some ⟨U, 0, none⟩) m m, sg] 269)
  obtain ⟨W1, hW1⟩ : ∃ W1, W.alloc (.cells #[.slice (some ⟨T, 0, none⟩) L L, .slice (some ⟨U, 0, none⟩) m m, sg] 269) = W1 := ⟨_, rfl⟩
  have p0 : W1.cell? ⟨W.heap.size, 0, none⟩ = some (.slice (some ⟨T, 0, none⟩) L L) := by rw [← hW1]; simp [go_sem]
  have p1 : W1.cell? ⟨W.heap.size, 1, none⟩ = some (.slice (some ⟨U, 0, none⟩) m m) := by rw [← hW1]; simp [go_sem]
  have hL2 : 2 ≤ L := by rw [hL, Nat.pow_succ]; have := Nat.two_pow_pos m; omega
  have c1 : W1.cell? ⟨T, 1, none⟩ = some (.int .i64 (levF v p 0 : Int)) := by
    rw [hW1] at hb
    refine kc hb (cell_of_owns hm.ot (by rw [hm.lt]) 1 _ ?_)
    simpa using hlev 0 (by decide)
  have hj0 : J pre W1 := by rw [← hW1]; exact hJ.alloc _ hj
  have hj1 : J pre W1.drew := hJ _ W1 W1.drew none hj0 ⟨rfl, rfl, rfl, Nat.le_refl _, fun _ _ _ => rfl⟩ (fun r e => by cases e)
  have hL3 : (1 : Int) < (L : Int) := by omega
  rw [hW1] at hb
  have hvis : Vis m K (outOfV (.slice (some ⟨U, 0, none⟩) m m) hv p) W1.drew := by
    have e : pu = nI p := by rw [← hpu, List.take_of_length_le (by rw [hp, hm.lu]; exact Nat.le_refl _)]
    refine ⟨?_, hp, hpb⟩
    show Owns W1.drew K _ (nI p)
    rw [← e]
    exact (hm.ou.below hb.drew).mono kU
  obtain ⟨fn, tmps, assign, body, hy, hR⟩ := YieldAt.mono (R' := fun e W' => ∃ b, e = .returned (.bool b) ∧ AboveI K S W1.drew W' ∧ (b = true → J (pre ++ [outOfV (.slice (some ⟨U, 0, none⟩) m m) hv p]) W') ∧ (b = false → Jx (pre ++ [outOfV (.slice (some ⟨U, 0, none⟩) m m) hv p]) W'))
    (YieldAt.anyDV (n - 1) (hY pre (outOfV (.slice (some ⟨U, 0, none⟩) m m) hv p) W1.drew hj1 (Nat.le_trans hHW hb.size) hN hvis))
    (fun e W' h => by rcases h with ⟨ha, ⟨rfl, h2⟩ | ⟨rfl, h2⟩⟩ <;> exact ⟨_, rfl, ha, by simp [h2], by simp [h2]⟩)
  have FIN := Lib.hid (fun (b : Bool) (W2 : World) (h2 : AboveI K S W1.drew W2 ∧ (b = true → J (pre ++ [outOfV (.slice (some ⟨U, 0, none⟩) m m) hv p]) W2) ∧ (b = false → Jx (pre ++ [outOfV (.slice (some ⟨U, 0, none⟩) m m) hv p]) W2)) =>
    show ((Ending.returned (.bool b) = .returned (.bool true) ∧ AboveI K S W W2 ∧ J (pre ++ [outOfV (.slice (some ⟨U, 0, none⟩) m m) hv p]) W2) ∨ (Ending.returned (.bool b) = .returned (.bool false) ∧ Jx (pre ++ [outOfV (.slice (some ⟨U, 0, none⟩) m m) hv p]) W2)) by
      have hA : AboveI K S W W1.drew := AboveI.below hb.drew
      cases b
      · exact .inr ⟨rfl, h2.2.2 rfl⟩
      · exact .inl ⟨rfl, hA.trans h2.1, h2.2.1 rfl⟩)
  unfold encSV outOfV at hy
  dsimp only at hy
  clear hL hlev hY hJ hj hj1 hvis hpu hpb kU
  refine callsIn_of_wp Try.func246 rfl trivial ?_ rfl
  simp only [Try.ntmps246, List.size_toArray, List.length_cons, List.length_nil, Nat.reduceAdd, Nat.reduceSub, Array.replicate_succ, Array.replicate_zero, List.push_toArray, List.append_toArray, List.nil_append, List.cons_append]
  have hmx : Try.prog.follows .mixedOrders = true := by kernel_rfl
  gi_wp2
  clear hW1
  refine wpIn_region_any hmx ?_
  change wpAnyIn _ _ _ _ _ _ _ _ _ (World.drew _)
  refine wpAnyIn_take (i := 0) (v := ?_) rfl rfl (by kernel_rfl) (by kernel_rfl) (by kernel_rfl) (fun _ _ _ h => h) ⟨Or.inl ⟨by rfl, by intro w; go_simp; try (with_reducible rfl)⟩, fun _ => rfl⟩ ?_
  refine wpAnyIn_take (i := 1) (v := ?_) rfl rfl (by kernel_rfl) (by kernel_rfl) (by kernel_rfl) (fun _ _ _ h => h) ⟨Or.inl ⟨by rfl, by intro w; go_simp; try (with_reducible rfl)⟩, fun _ => rfl⟩ ?_
  refine wpAnyIn_take (i := 3) (v := ?_) rfl rfl (by kernel_rfl) (by kernel_rfl) (by kernel_rfl) (fun _ _ _ h => h) ⟨Or.inl ⟨by rfl, by intro w; go_simp; try (with_reducible rfl)⟩, fun _ => rfl⟩ ?_
  refine wpAnyIn_ready (rs := [2, 4]) (by kernel_rfl) (by simp) ?_
  refine AllReadyIn.cons rfl (fun K hK => ?_) ?_
  · go_simp
    refine hK _ _ ?_
    clear hK K
    refine wpAnyIn_ready (rs := [4]) (by kernel_rfl) (by simp) ?_
    refine AllReadyIn.cons rfl (fun K hK => ?_) ?_
    · go_simp
      refine hK _ _ ?_
      clear hK K
      refine wpAnyIn_ready (rs := [5]) (by kernel_rfl) (by simp) ?_
      refine AllReadyIn.cons rfl (fun K hK => ?_) ?_
      · go_simp
        refine hK _ _ ?_
        clear hK K
        refine wpAnyIn_ready (rs := [6]) (by kernel_rfl) (by simp) ?_
        refine AllReadyIn.cons rfl (fun K hK => ?_) ?_
        · go_simp
          refine hK _ _ ?_
          clear hK K
          refine wpAnyIn_ready (rs := [7]) (by kernel_rfl) (by simp) ?_
          refine AllReadyIn.cons rfl (fun K hK => ?_) ?_
          · go_simp
            refine ⟨fun h => (by cases h), ?_⟩
            refine hR.mono ?_
            rintro e W2 ⟨b, rfl, h2⟩
            dsimp only
            refine hK _ _ ?_
            clear hK K
            refine wpAnyIn_ready (rs := [8]) (by kernel_rfl) (by simp) ?_
            refine AllReadyIn.cons rfl (fun K hK => ?_) ?_
            · go_simp
              refine hK _ _ ?_
              clear hK K
              refine wpAnyIn_done (by kernel_rfl) ?_ _
              gi_wp2
              go_ret
              exact FIN.out b W2 h2
            exact AllReadyIn.nil
          exact AllReadyIn.nil
        exact AllReadyIn.nil
      exact AllReadyIn.nil
    exact AllReadyIn.nil
  refine AllReadyIn.cons rfl (fun K hK => ?_) ?_
  · go_simp
    refine hK _ _ ?_
    clear hK K
    refine wpAnyIn_ready (rs := [2, 5]) (by kernel_rfl) (by simp) ?_
    refine AllReadyIn.cons rfl (fun K hK => ?_) ?_
    · go_simp
      refine hK _ _ ?_
      clear hK K
      refine wpAnyIn_ready (rs := [5]) (by kernel_rfl) (by simp) ?_
      refine AllReadyIn.cons rfl (fun K hK => ?_) ?_
      · go_simp
        refine hK _ _ ?_
        clear hK K
        refine wpAnyIn_ready (rs := [6]) (by kernel_rfl) (by simp) ?_
        refine AllReadyIn.cons rfl (fun K hK => ?_) ?_
        · go_simp
          refine hK _ _ ?_
          clear hK K
          refine wpAnyIn_ready (rs := [7]) (by kernel_rfl) (by simp) ?_
          refine AllReadyIn.cons rfl (fun K hK => ?_) ?_
          · go_simp
            refine ⟨fun h => (by cases h), ?_⟩
            refine hR.mono ?_
            rintro e W2 ⟨b, rfl, h2⟩
            dsimp only
            refine hK _ _ ?_
            clear hK K
            refine wpAnyIn_ready (rs := [8]) (by kernel_rfl) (by simp) ?_
            refine AllReadyIn.cons rfl (fun K hK => ?_) ?_
            · go_simp
              refine hK _ _ ?_
              clear hK K
              refine wpAnyIn_done (by kernel_rfl) ?_ _
              gi_wp2
              go_ret
              exact FIN.out b W2 h2
            exact AllReadyIn.nil
          exact AllReadyIn.nil
        exact AllReadyIn.nil
      exact AllReadyIn.nil
    refine AllReadyIn.cons rfl (fun K hK => ?_) ?_
    · go_simp
      refine hK _ _ ?_
      clear hK K
      refine wpAnyIn_ready (rs := [2, 6]) (by kernel_rfl) (by simp) ?_
      refine AllReadyIn.cons rfl (fun K hK => ?_) ?_
      · go_simp
        refine hK _ _ ?_
        clear hK K
        refine wpAnyIn_ready (rs := [6]) (by kernel_rfl) (by simp) ?_
        refine AllReadyIn.cons rfl (fun K hK => ?_) ?_
        · go_simp
          refine hK _ _ ?_
          clear hK K
          refine wpAnyIn_ready (rs := [7]) (by kernel_rfl) (by simp) ?_
          refine AllReadyIn.cons rfl (fun K hK => ?_) ?_
          · go_simp
            refine ⟨fun h => (by cases h), ?_⟩
            refine hR.mono ?_
            rintro e W2 ⟨b, rfl, h2⟩
            dsimp only
            refine hK _ _ ?_
            clear hK K
            refine wpAnyIn_ready (rs := [8]) (by kernel_rfl) (by simp) ?_
            refine AllReadyIn.cons rfl (fun K hK => ?_) ?_
            · go_simp
              refine hK _ _ ?_
              clear hK K
              refine wpAnyIn_done (by kernel_rfl) ?_ _
              gi_wp2
              go_ret
              exact FIN.out b W2 h2
            exact AllReadyIn.nil
          exact AllReadyIn.nil
        exact AllReadyIn.nil
      refine AllReadyIn.cons rfl (fun K hK => ?_) ?_
      · go_simp
        refine hK _ _ ?_
        clear hK K
        refine wpAnyIn_ready (rs := [2]) (by kernel_rfl) (by simp) ?_
        refine AllReadyIn.cons rfl (fun K hK => ?_) ?_
        · go_simp
          refine hK _ _ ?_
          clear hK K
          refine wpAnyIn_ready (rs := [7]) (by kernel_rfl) (by simp) ?_
          refine AllReadyIn.cons rfl (fun K hK => ?_) ?_
          · go_simp
            refine ⟨fun h => (by cases h), ?_⟩
            refine hR.mono ?_
            rintro e W2 ⟨b, rfl, h2⟩
            dsimp only
            refine hK _ _ ?_
            clear hK K
            refine wpAnyIn_ready (rs := [8]) (by kernel_rfl) (by simp) ?_
            refine AllReadyIn.cons rfl (fun K hK => ?_) ?_
            · go_simp
              refine hK _ _ ?_
              clear hK K
              refine wpAnyIn_done (by kernel_rfl) ?_ _
              gi_wp2
              go_ret
              exact FIN.out b W2 h2
            exact AllReadyIn.nil
          exact AllReadyIn.nil
        exact AllReadyIn.nil
      exact AllReadyIn.nil
    exact AllReadyIn.nil
  exact AllReadyIn.nil
end Go.Proofs.Ytdgpjpcdifpllaa
