/-
  The texts CN33, CN34, CN19, MO12, CN4, CN9, CN10, I1, I2, J1, J0, CN20, CN21, CN35, CN37, FGeneratorsOf, DN in one.
-/
import Derived.Test.YthkmapflbopdpaaDoorMPGeneratorsOf5
import Derived.Deep.QuietTactic
import Derived.Lib.LaidTab
import Derived.Below
import Derived.RowKitTokens
import Derived.LaidLaws
import Derived.LaidHandle
import Derived.MakeChecks
import Derived.Stop.LaidErr

/- CN33:
  l08Generators of the model: names with a degree (two). -/
namespace Go.Proofs.YthkmapflbopdpaaDoor
open Go.RowKit Go.Shelf
set_option linter.unusedVariables false
set_option linter.unusedSimpArgs false

def wtN (i k : Nat) : Nat := sizeN (i % 2 ^ k)
theorem wtN_step : ∀ i < 16, ∀ k < 4, wtN i (k + 1) = wtN i k + bitN i k := by decide +kernel
theorem wtN_le (i k : Nat) : wtN i k ≤ 4 := sizeN_le _
theorem wtN_zero (i : Nat) : wtN i 0 = 0 := by unfold wtN; rw [Nat.pow_zero, Nat.mod_one]; rfl
theorem wtN_all {i n : Nat} (h : i < 2 ^ n) : wtN i n = sizeN i := by unfold wtN; rw [Nat.mod_eq_of_lt h]
def lvN (lo r : Nat) : Nat := (decide (lo ≤ sizeN r)).toNat
theorem lvN_le (lo r : Nat) : lvN lo r ≤ 1 := by unfold lvN; cases decide (lo ≤ sizeN r) <;> decide
theorem lvN_set {lo k : Nat} (hk : k < 16) (h : lo ≤ sizeN k) : bits .or .i64 (sumN (lvN lo) k : Int) (wrap64 (2 ^ k)) = (sumN (lvN lo) (k + 1) : Int) := set_step (lvN lo) k hk (fun r _ => lvN_le lo r) (by simp [lvN, h])
theorem lvN_no {lo k : Nat} (h : ¬ lo ≤ sizeN k) : sumN (lvN lo) (k + 1) = sumN (lvN lo) k := by simp [sumN, lvN, h]
theorem gen_list {j d : Nat} (hd : d = 2 ∨ d = 3) {lo : Nat} (hlo : (if lnK j = 0 then 2 else d) = lo) : gnL (j, d) = gsL j ++ [(((d + 1 : Nat) : Int), (sumN (lvN lo) (2 ^ (d + 1)) : Int))] := by
  unfold gnL
  rw [if_neg (by show ¬ d = 9; omega)]
  unfold gdP gdN lvN
  subst hlo
  rfl

set_option maxRecDepth 100000 in
set_option maxHeartbeats 8000000 in
theorem gen_yes20 (s : ByteArray) {m : Nat} (hsz : s.size = m + 2) (hm : 2 ≤ m) (hb : s.size ≤ 1048576) (h94 : bt s m = 94) {j : Nat} (hj : bsFind (s.extract 0 m) = some j) (h0 : bt s 0 = 83) (hc : bt s (m + 1) = 50) (h1 : bt s 1 ≠ 49) (w : World) : Calls Tryd.prog 9 #[.string s] w (GenPost s w) := by
  obtain ⟨i0, hi, hz0, hz1, hz2⟩ := info_parts infoF
  obtain ⟨GI, hlk⟩ := gen_is (d := 2) hsz hm h94 hj h0 (by decide) hc
  have hgl : gnL (j, 2) = gsL j ++ [(3, (sumN (lvN 2) 8 : Int))] := gen_list (by decide) (by rw [if_pos (by omega)])
  have hgs : (gsL j).length ≤ 4 := by
    have := fld_small j (bsFind_mem hj).1
    unfold gsL; rw [List.length_map]; exact this.2.2.1
  have BA := Lib.hid (fun W => base_any (s.extract 0 m) W)
  have RWS := Lib.hid (fun W => l01Rows_is (n := 3) (by decide) (by decide) (R := 8) (Lib.hid rfl) W)
  rw [show (((8 : Nat)) : Int) = 8 from rfl] at RWS
  have hms : m < s.size := by omega
  have hm1 : m + 1 < s.size := by omega
  have h0s : 0 < s.size := by omega
  have h1s : 1 < s.size := by omega
  have hbm := bt_eq hms
  have hb1 := bt_eq hm1
  have hb0 := bt_eq h0s
  have hb2 := bt_eq h1s
  have hne : ((bt s m : Int) != 94) = false := by simp [h94]
  have hn0 : ((bt s 0 : Int) != 83) = false := by simp [h0]
  have hn1 : ((bt s (m + 1) : Int) != 50) = false := by simp [hc]
  have hn2 : ((bt s (m + 1) : Int) != 51) = true := by simp [hc]
  have hn3 : ((bt s (m + 1) : Int) == 51) = false := by simp [hc]
  have hn4 : ((bt s 1 : Int) == 49) = false := by simp ; omega
  have HJ := Lib.hid hj
  have HG := Lib.hid GI
  have HGL := Lib.hid hgl
  clear h94 h0 hc h1 hlk hj GI hgl
  go_enter Tryd.func9, Tryd.ntmps9
  go_wp2_with (go_at_call 13; refine (BA.out _).mono ?_; rintro e w3 ⟨hb3, ⟨j', v, hj, rfl, hO⟩ | ⟨hj, rfl⟩⟩; rotate_left; (rw [HJ.out] at hj; cases hj); (obtain rfl : j = j' := by rw [HJ.out] at hj; exact Option.some.inj hj); clear hj; have HO := Lib.hid hO; clear hO)
  clear hne hn0 hn1 hn2 hn3 hn4 hbm hb1 hb0 hb2 BA
  go_loopw [9, 10] (fun g' i' wr => ∃ i : Nat, i ≤ 8 ∧ i' = .int .i64 i ∧ g' = .int .i64 (sumN (lvN 2) i : Int) ∧ w3 = wr) (fun _ i' _ => 8 - (intOf i').toNat)
  case atStart => exact ⟨0, Nat.zero_le _, rfl, rfl, rfl⟩
  case round =>
    obtain ⟨i, hi2, rfl, rfl, rfl⟩ := hrel
    by_cases hlt : i < 8
    · go_wp2_with (go_at_call 14; refine (RWS.out _).mono ?_; rintro e w' ⟨rfl, rfl⟩)
      obtain ⟨wo, rfl⟩ : ∃ wo : World, wo = w3 := ⟨_, rfl⟩
      go_loopw [11, 12] (fun c v' wr => ∃ k : Nat, k ≤ 3 ∧ v' = .int .i64 k ∧ c = .int .i64 (wtN i k : Int) ∧ wo = wr) (fun _ v' _ => 3 - (intOf v').toNat)
      case atStart => exact ⟨0, Nat.zero_le _, rfl, by rw [wtN_zero]; rfl, rfl⟩
      case round =>
        obtain ⟨k, hk, rfl, rfl, rfl⟩ := hrel
        by_cases hk2 : k < 3
        · have HS := Lib.hid (wtN_step i (by omega) k (by omega))
          have HD := digit_eq i k (by omega)
          have hwl := wtN_le i k
          have hbl := bitN_le i k
          have eu : IntKind.u64.wrap (k : Int) = (k : Int) := by simp [IntKind.wrap, IntKind.bits, IntKind.signed]; omega
          generalize wtN i k = wk at HS hwl
          generalize bitN i k = bk at HS HD hbl
          go_wp2
          go_roundw
          case rel => exact ⟨k + 1, by omega, by go_num, by rw [HS.out]; go_num, by first | exact True.intro | rfl⟩
          case measure => simp [intOf]; omega
        · obtain rfl : k = 3 := by omega
          have HW := wtN_all (i := i) (n := 3) (by omega)
          have hwl := wtN_le i 3
          by_cases hq : 2 ≤ sizeN i
          · have HB := lvN_set (lo := 2) (k := i) (by omega) hq
            have hg : decide ((2 : Int) ≤ (wtN i 3 : Int)) = true := by rw [HW]; simp; omega
            clear HW hq
            generalize wtN i 3 = wk at hwl hg
            go_wp2
            go_roundw
            case rel => exact ⟨i + 1, by omega, by go_num, by rw [← HB], by first | exact True.intro | rfl⟩
            case measure => simp [intOf]; omega
          · have HB := Lib.hid (lvN_no hq)
            have hg : decide ((2 : Int) ≤ (wtN i 3 : Int)) = false := by rw [HW]; simp; omega
            clear HW hq
            generalize wtN i 3 = wk at hwl hg
            go_wp2
            go_roundw
            case rel => exact ⟨i + 1, by omega, by go_num, by rw [HB.out], by first | exact True.intro | rfl⟩
            case measure => simp [intOf]; omega
    · obtain rfl : i = 8 := by omega
      have HSN : Hid (∀ W v k, (gsL j).length = k → W.ownsRow w.heap.size 40 2 v (k + 1) (fcells (gsL j) ++ [.int .i64 3, .int .i64 (sumN (lvN 2) 8 : Int)]) → OwnsF W w.heap.size v (gnL (j, 2))) := Lib.hid fun W v k hk h => by
        rw [HGL.out]
        refine OwnsF.snoc ?_
        rw [hk]; exact h
      have hO5 : World.ownsRow _ _ _ _ _ _ _ := HO.out
      generalize hgk : (gsL j).length = gk at hO5 hgs
      generalize (sumN (lvN 2) 8 : Int) = gb at HSN ⊢
      go_wp2_with (first
        | (go_at_call 14; refine (RWS.out _).mono ?_; rintro e w' ⟨rfl, rfl⟩)
        | (at_builtin; refine wpList_append_own _ rfl _ _ 22 rfl w.heap.size 40 i0 (.agg #[.int .i64 0, .int .i64 0]) 2 16 Tryd.underlying22 hi hz0 hz1 hz2 rfl (by decide) _ _ _ rfl (hO5.alloc _) ⟨_, 0, none⟩ 1 1 [.int .i64 3, .int .i64 gb] rfl rfl (cell_two_new _ _ _ _) (one_cell_two _ _) (by unfold maxLen; omega) (by omega) (by have := hb3.size; simp; omega) ?_; intro v6 w6 hown6 hgrow6 _))
      go_wp2
      refine bodyPost_ret (v := .tuple #[v6, .bool true]) (by simp [results, Tryd.results9, go_sem]) rfl ?_
      exact ⟨(balloc hb3 _).grown hgrow6 (by have := hb3.size; simp; omega) (fun j e => (hO5.lt j e).1), .inl ⟨(j, 2), v6, HG.out, rfl, HSN.out _ _ _ hgk hown6⟩⟩

set_option maxRecDepth 100000 in
set_option maxHeartbeats 8000000 in
theorem gen_yes21 (s : ByteArray) {m : Nat} (hsz : s.size = m + 2) (hm : 2 ≤ m) (hb : s.size ≤ 1048576) (h94 : bt s m = 94) {j : Nat} (hj : bsFind (s.extract 0 m) = some j) (h0 : bt s 0 = 83) (hc : bt s (m + 1) = 50) (h1 : bt s 1 = 49) (w : World) : Calls Tryd.prog 9 #[.string s] w (GenPost s w) := by
  obtain ⟨i0, hi, hz0, hz1, hz2⟩ := info_parts infoF
  obtain ⟨GI, hlk⟩ := gen_is (d := 2) hsz hm h94 hj h0 (by decide) hc
  have hgl : gnL (j, 2) = gsL j ++ [(3, (sumN (lvN 2) 8 : Int))] := gen_list (by decide) (by rw [if_neg (by omega)])
  have hgs : (gsL j).length ≤ 4 := by
    have := fld_small j (bsFind_mem hj).1
    unfold gsL; rw [List.length_map]; exact this.2.2.1
  have BA := Lib.hid (fun W => base_any (s.extract 0 m) W)
  have RWS := Lib.hid (fun W => l01Rows_is (n := 3) (by decide) (by decide) (R := 8) (Lib.hid rfl) W)
  rw [show (((8 : Nat)) : Int) = 8 from rfl] at RWS
  have hms : m < s.size := by omega
  have hm1 : m + 1 < s.size := by omega
  have h0s : 0 < s.size := by omega
  have h1s : 1 < s.size := by omega
  have hbm := bt_eq hms
  have hb1 := bt_eq hm1
  have hb0 := bt_eq h0s
  have hb2 := bt_eq h1s
  have hne : ((bt s m : Int) != 94) = false := by simp [h94]
  have hn0 : ((bt s 0 : Int) != 83) = false := by simp [h0]
  have hn1 : ((bt s (m + 1) : Int) != 50) = false := by simp [hc]
  have hn2 : ((bt s (m + 1) : Int) != 51) = true := by simp [hc]
  have hn3 : ((bt s (m + 1) : Int) == 51) = false := by simp [hc]
  have hn4 : ((bt s 1 : Int) == 49) = true := by simp [h1]
  have HJ := Lib.hid hj
  have HG := Lib.hid GI
  have HGL := Lib.hid hgl
  clear h94 h0 hc h1 hlk hj GI hgl
  go_enter Tryd.func9, Tryd.ntmps9
  go_wp2_with (go_at_call 13; refine (BA.out _).mono ?_; rintro e w3 ⟨hb3, ⟨j', v, hj, rfl, hO⟩ | ⟨hj, rfl⟩⟩; rotate_left; (rw [HJ.out] at hj; cases hj); (obtain rfl : j = j' := by rw [HJ.out] at hj; exact Option.some.inj hj); clear hj; have HO := Lib.hid hO; clear hO)
  clear hne hn0 hn1 hn2 hn3 hn4 hbm hb1 hb0 hb2 BA
  go_loopw [9, 10] (fun g' i' wr => ∃ i : Nat, i ≤ 8 ∧ i' = .int .i64 i ∧ g' = .int .i64 (sumN (lvN 2) i : Int) ∧ w3 = wr) (fun _ i' _ => 8 - (intOf i').toNat)
  case atStart => exact ⟨0, Nat.zero_le _, rfl, rfl, rfl⟩
  case round =>
    obtain ⟨i, hi2, rfl, rfl, rfl⟩ := hrel
    by_cases hlt : i < 8
    · go_wp2_with (go_at_call 14; refine (RWS.out _).mono ?_; rintro e w' ⟨rfl, rfl⟩)
      obtain ⟨wo, rfl⟩ : ∃ wo : World, wo = w3 := ⟨_, rfl⟩
      go_loopw [11, 12] (fun c v' wr => ∃ k : Nat, k ≤ 3 ∧ v' = .int .i64 k ∧ c = .int .i64 (wtN i k : Int) ∧ wo = wr) (fun _ v' _ => 3 - (intOf v').toNat)
      case atStart => exact ⟨0, Nat.zero_le _, rfl, by rw [wtN_zero]; rfl, rfl⟩
      case round =>
        obtain ⟨k, hk, rfl, rfl, rfl⟩ := hrel
        by_cases hk2 : k < 3
        · have HS := Lib.hid (wtN_step i (by omega) k (by omega))
          have HD := digit_eq i k (by omega)
          have hwl := wtN_le i k
          have hbl := bitN_le i k
          have eu : IntKind.u64.wrap (k : Int) = (k : Int) := by simp [IntKind.wrap, IntKind.bits, IntKind.signed]; omega
          generalize wtN i k = wk at HS hwl
          generalize bitN i k = bk at HS HD hbl
          go_wp2
          go_roundw
          case rel => exact ⟨k + 1, by omega, by go_num, by rw [HS.out]; go_num, by first | exact True.intro | rfl⟩
          case measure => simp [intOf]; omega
        · obtain rfl : k = 3 := by omega
          have HW := wtN_all (i := i) (n := 3) (by omega)
          have hwl := wtN_le i 3
          by_cases hq : 2 ≤ sizeN i
          · have HB := lvN_set (lo := 2) (k := i) (by omega) hq
            have hg : decide ((2 : Int) ≤ (wtN i 3 : Int)) = true := by rw [HW]; simp; omega
            clear HW hq
            generalize wtN i 3 = wk at hwl hg
            go_wp2
            go_roundw
            case rel => exact ⟨i + 1, by omega, by go_num, by rw [← HB], by first | exact True.intro | rfl⟩
            case measure => simp [intOf]; omega
          · have HB := Lib.hid (lvN_no hq)
            have hg : decide ((2 : Int) ≤ (wtN i 3 : Int)) = false := by rw [HW]; simp; omega
            clear HW hq
            generalize wtN i 3 = wk at hwl hg
            go_wp2
            go_roundw
            case rel => exact ⟨i + 1, by omega, by go_num, by rw [HB.out], by first | exact True.intro | rfl⟩
            case measure => simp [intOf]; omega
    · obtain rfl : i = 8 := by omega
      have HSN : Hid (∀ W v k, (gsL j).length = k → W.ownsRow w.heap.size 40 2 v (k + 1) (fcells (gsL j) ++ [.int .i64 3, .int .i64 (sumN (lvN 2) 8 : Int)]) → OwnsF W w.heap.size v (gnL (j, 2))) := Lib.hid fun W v k hk h => by
        rw [HGL.out]
        refine OwnsF.snoc ?_
        rw [hk]; exact h
      have hO5 : World.ownsRow _ _ _ _ _ _ _ := HO.out
      generalize hgk : (gsL j).length = gk at hO5 hgs
      generalize (sumN (lvN 2) 8 : Int) = gb at HSN ⊢
      go_wp2_with (first
        | (go_at_call 14; refine (RWS.out _).mono ?_; rintro e w' ⟨rfl, rfl⟩)
        | (at_builtin; refine wpList_append_own _ rfl _ _ 22 rfl w.heap.size 40 i0 (.agg #[.int .i64 0, .int .i64 0]) 2 16 Tryd.underlying22 hi hz0 hz1 hz2 rfl (by decide) _ _ _ rfl (hO5.alloc _) ⟨_, 0, none⟩ 1 1 [.int .i64 3, .int .i64 gb] rfl rfl (cell_two_new _ _ _ _) (one_cell_two _ _) (by unfold maxLen; omega) (by omega) (by have := hb3.size; simp; omega) ?_; intro v6 w6 hown6 hgrow6 _))
      go_wp2
      refine bodyPost_ret (v := .tuple #[v6, .bool true]) (by simp [results, Tryd.results9, go_sem]) rfl ?_
      exact ⟨(balloc hb3 _).grown hgrow6 (by have := hb3.size; simp; omega) (fun j e => (hO5.lt j e).1), .inl ⟨(j, 2), v6, HG.out, rfl, HSN.out _ _ _ hgk hown6⟩⟩
end Go.Proofs.YthkmapflbopdpaaDoor

/- CN34:
  l08Generators of the model: names with a degree (three). -/
namespace Go.Proofs.YthkmapflbopdpaaDoor
open Go.RowKit Go.Shelf
set_option linter.unusedVariables false
set_option linter.unusedSimpArgs false

set_option maxRecDepth 100000 in
set_option maxHeartbeats 8000000 in
theorem gen_yes30 (s : ByteArray) {m : Nat} (hsz : s.size = m + 2) (hm : 2 ≤ m) (hb : s.size ≤ 1048576) (h94 : bt s m = 94) {j : Nat} (hj : bsFind (s.extract 0 m) = some j) (h0 : bt s 0 = 83) (hc : bt s (m + 1) = 51) (h1 : bt s 1 ≠ 49) (w : World) : Calls Tryd.prog 9 #[.string s] w (GenPost s w) := by
  obtain ⟨i0, hi, hz0, hz1, hz2⟩ := info_parts infoF
  obtain ⟨GI, hlk⟩ := gen_is (d := 3) hsz hm h94 hj h0 (by decide) hc
  have hgl : gnL (j, 3) = gsL j ++ [(4, (sumN (lvN 2) 16 : Int))] := gen_list (by decide) (by rw [if_pos (by omega)])
  have hgs : (gsL j).length ≤ 4 := by
    have := fld_small j (bsFind_mem hj).1
    unfold gsL; rw [List.length_map]; exact this.2.2.1
  have BA := Lib.hid (fun W => base_any (s.extract 0 m) W)
  have RWS := Lib.hid (fun W => l01Rows_is (n := 4) (by decide) (by decide) (R := 16) (Lib.hid rfl) W)
  rw [show (((16 : Nat)) : Int) = 16 from rfl] at RWS
  have hms : m < s.size := by omega
  have hm1 : m + 1 < s.size := by omega
  have h0s : 0 < s.size := by omega
  have h1s : 1 < s.size := by omega
  have hbm := bt_eq hms
  have hb1 := bt_eq hm1
  have hb0 := bt_eq h0s
  have hb2 := bt_eq h1s
  have hne : ((bt s m : Int) != 94) = false := by simp [h94]
  have hn0 : ((bt s 0 : Int) != 83) = false := by simp [h0]
  have hn1 : ((bt s (m + 1) : Int) != 50) = true := by simp [hc]
  have hn2 : ((bt s (m + 1) : Int) != 51) = false := by simp [hc]
  have hn3 : ((bt s (m + 1) : Int) == 51) = true := by simp [hc]
  have hn4 : ((bt s 1 : Int) == 49) = false := by simp ; omega
  have HJ := Lib.hid hj
  have HG := Lib.hid GI
  have HGL := Lib.hid hgl
  clear h94 h0 hc h1 hlk hj GI hgl
  go_enter Tryd.func9, Tryd.ntmps9
  go_wp2_with (go_at_call 13; refine (BA.out _).mono ?_; rintro e w3 ⟨hb3, ⟨j', v, hj, rfl, hO⟩ | ⟨hj, rfl⟩⟩; rotate_left; (rw [HJ.out] at hj; cases hj); (obtain rfl : j = j' := by rw [HJ.out] at hj; exact Option.some.inj hj); clear hj; have HO := Lib.hid hO; clear hO)
  clear hne hn0 hn1 hn2 hn3 hn4 hbm hb1 hb0 hb2 BA
  go_loopw [9, 10] (fun g' i' wr => ∃ i : Nat, i ≤ 16 ∧ i' = .int .i64 i ∧ g' = .int .i64 (sumN (lvN 2) i : Int) ∧ w3 = wr) (fun _ i' _ => 16 - (intOf i').toNat)
  case atStart => exact ⟨0, Nat.zero_le _, rfl, rfl, rfl⟩
  case round =>
    obtain ⟨i, hi2, rfl, rfl, rfl⟩ := hrel
    by_cases hlt : i < 16
    · go_wp2_with (go_at_call 14; refine (RWS.out _).mono ?_; rintro e w' ⟨rfl, rfl⟩)
      obtain ⟨wo, rfl⟩ : ∃ wo : World, wo = w3 := ⟨_, rfl⟩
      go_loopw [11, 12] (fun c v' wr => ∃ k : Nat, k ≤ 4 ∧ v' = .int .i64 k ∧ c = .int .i64 (wtN i k : Int) ∧ wo = wr) (fun _ v' _ => 4 - (intOf v').toNat)
      case atStart => exact ⟨0, Nat.zero_le _, rfl, by rw [wtN_zero]; rfl, rfl⟩
      case round =>
        obtain ⟨k, hk, rfl, rfl, rfl⟩ := hrel
        by_cases hk2 : k < 4
        · have HS := Lib.hid (wtN_step i (by omega) k (by omega))
          have HD := digit_eq i k (by omega)
          have hwl := wtN_le i k
          have hbl := bitN_le i k
          have eu : IntKind.u64.wrap (k : Int) = (k : Int) := by simp [IntKind.wrap, IntKind.bits, IntKind.signed]; omega
          generalize wtN i k = wk at HS hwl
          generalize bitN i k = bk at HS HD hbl
          go_wp2
          go_roundw
          case rel => exact ⟨k + 1, by omega, by go_num, by rw [HS.out]; go_num, by first | exact True.intro | rfl⟩
          case measure => simp [intOf]; omega
        · obtain rfl : k = 4 := by omega
          have HW := wtN_all (i := i) (n := 4) (by omega)
          have hwl := wtN_le i 4
          by_cases hq : 2 ≤ sizeN i
          · have HB := lvN_set (lo := 2) (k := i) (by omega) hq
            have hg : decide ((2 : Int) ≤ (wtN i 4 : Int)) = true := by rw [HW]; simp; omega
            clear HW hq
            generalize wtN i 4 = wk at hwl hg
            go_wp2
            go_roundw
            case rel => exact ⟨i + 1, by omega, by go_num, by rw [← HB], by first | exact True.intro | rfl⟩
            case measure => simp [intOf]; omega
          · have HB := Lib.hid (lvN_no hq)
            have hg : decide ((2 : Int) ≤ (wtN i 4 : Int)) = false := by rw [HW]; simp; omega
            clear HW hq
            generalize wtN i 4 = wk at hwl hg
            go_wp2
            go_roundw
            case rel => exact ⟨i + 1, by omega, by go_num, by rw [HB.out], by first | exact True.intro | rfl⟩
            case measure => simp [intOf]; omega
    · obtain rfl : i = 16 := by omega
      have HSN : Hid (∀ W v k, (gsL j).length = k → W.ownsRow w.heap.size 40 2 v (k + 1) (fcells (gsL j) ++ [.int .i64 4, .int .i64 (sumN (lvN 2) 16 : Int)]) → OwnsF W w.heap.size v (gnL (j, 3))) := Lib.hid fun W v k hk h => by
        rw [HGL.out]
        refine OwnsF.snoc ?_
        rw [hk]; exact h
      have hO5 : World.ownsRow _ _ _ _ _ _ _ := HO.out
      generalize hgk : (gsL j).length = gk at hO5 hgs
      generalize (sumN (lvN 2) 16 : Int) = gb at HSN ⊢
      go_wp2_with (first
        | (go_at_call 14; refine (RWS.out _).mono ?_; rintro e w' ⟨rfl, rfl⟩)
        | (at_builtin; refine wpList_append_own _ rfl _ _ 22 rfl w.heap.size 40 i0 (.agg #[.int .i64 0, .int .i64 0]) 2 16 Tryd.underlying22 hi hz0 hz1 hz2 rfl (by decide) _ _ _ rfl (hO5.alloc _) ⟨_, 0, none⟩ 1 1 [.int .i64 4, .int .i64 gb] rfl rfl (cell_two_new _ _ _ _) (one_cell_two _ _) (by unfold maxLen; omega) (by omega) (by have := hb3.size; simp; omega) ?_; intro v6 w6 hown6 hgrow6 _))
      go_wp2
      refine bodyPost_ret (v := .tuple #[v6, .bool true]) (by simp [results, Tryd.results9, go_sem]) rfl ?_
      exact ⟨(balloc hb3 _).grown hgrow6 (by have := hb3.size; simp; omega) (fun j e => (hO5.lt j e).1), .inl ⟨(j, 3), v6, HG.out, rfl, HSN.out _ _ _ hgk hown6⟩⟩

set_option maxRecDepth 100000 in
set_option maxHeartbeats 8000000 in
theorem gen_yes31 (s : ByteArray) {m : Nat} (hsz : s.size = m + 2) (hm : 2 ≤ m) (hb : s.size ≤ 1048576) (h94 : bt s m = 94) {j : Nat} (hj : bsFind (s.extract 0 m) = some j) (h0 : bt s 0 = 83) (hc : bt s (m + 1) = 51) (h1 : bt s 1 = 49) (w : World) : Calls Tryd.prog 9 #[.string s] w (GenPost s w) := by
  obtain ⟨i0, hi, hz0, hz1, hz2⟩ := info_parts infoF
  obtain ⟨GI, hlk⟩ := gen_is (d := 3) hsz hm h94 hj h0 (by decide) hc
  have hgl : gnL (j, 3) = gsL j ++ [(4, (sumN (lvN 3) 16 : Int))] := gen_list (by decide) (by rw [if_neg (by omega)])
  have hgs : (gsL j).length ≤ 4 := by
    have := fld_small j (bsFind_mem hj).1
    unfold gsL; rw [List.length_map]; exact this.2.2.1
  have BA := Lib.hid (fun W => base_any (s.extract 0 m) W)
  have RWS := Lib.hid (fun W => l01Rows_is (n := 4) (by decide) (by decide) (R := 16) (Lib.hid rfl) W)
  rw [show (((16 : Nat)) : Int) = 16 from rfl] at RWS
  have hms : m < s.size := by omega
  have hm1 : m + 1 < s.size := by omega
  have h0s : 0 < s.size := by omega
  have h1s : 1 < s.size := by omega
  have hbm := bt_eq hms
  have hb1 := bt_eq hm1
  have hb0 := bt_eq h0s
  have hb2 := bt_eq h1s
  have hne : ((bt s m : Int) != 94) = false := by simp [h94]
  have hn0 : ((bt s 0 : Int) != 83) = false := by simp [h0]
  have hn1 : ((bt s (m + 1) : Int) != 50) = true := by simp [hc]
  have hn2 : ((bt s (m + 1) : Int) != 51) = false := by simp [hc]
  have hn3 : ((bt s (m + 1) : Int) == 51) = true := by simp [hc]
  have hn4 : ((bt s 1 : Int) == 49) = true := by simp [h1]
  have HJ := Lib.hid hj
  have HG := Lib.hid GI
  have HGL := Lib.hid hgl
  clear h94 h0 hc h1 hlk hj GI hgl
  go_enter Tryd.func9, Tryd.ntmps9
  go_wp2_with (go_at_call 13; refine (BA.out _).mono ?_; rintro e w3 ⟨hb3, ⟨j', v, hj, rfl, hO⟩ | ⟨hj, rfl⟩⟩; rotate_left; (rw [HJ.out] at hj; cases hj); (obtain rfl : j = j' := by rw [HJ.out] at hj; exact Option.some.inj hj); clear hj; have HO := Lib.hid hO; clear hO)
  clear hne hn0 hn1 hn2 hn3 hn4 hbm hb1 hb0 hb2 BA
  go_loopw [9, 10] (fun g' i' wr => ∃ i : Nat, i ≤ 16 ∧ i' = .int .i64 i ∧ g' = .int .i64 (sumN (lvN 3) i : Int) ∧ w3 = wr) (fun _ i' _ => 16 - (intOf i').toNat)
  case atStart => exact ⟨0, Nat.zero_le _, rfl, rfl, rfl⟩
  case round =>
    obtain ⟨i, hi2, rfl, rfl, rfl⟩ := hrel
    by_cases hlt : i < 16
    · go_wp2_with (go_at_call 14; refine (RWS.out _).mono ?_; rintro e w' ⟨rfl, rfl⟩)
      obtain ⟨wo, rfl⟩ : ∃ wo : World, wo = w3 := ⟨_, rfl⟩
      go_loopw [11, 12] (fun c v' wr => ∃ k : Nat, k ≤ 4 ∧ v' = .int .i64 k ∧ c = .int .i64 (wtN i k : Int) ∧ wo = wr) (fun _ v' _ => 4 - (intOf v').toNat)
      case atStart => exact ⟨0, Nat.zero_le _, rfl, by rw [wtN_zero]; rfl, rfl⟩
      case round =>
        obtain ⟨k, hk, rfl, rfl, rfl⟩ := hrel
        by_cases hk2 : k < 4
        · have HS := Lib.hid (wtN_step i (by omega) k (by omega))
          have HD := digit_eq i k (by omega)
          have hwl := wtN_le i k
          have hbl := bitN_le i k
          have eu : IntKind.u64.wrap (k : Int) = (k : Int) := by simp [IntKind.wrap, IntKind.bits, IntKind.signed]; omega
          generalize wtN i k = wk at HS hwl
          generalize bitN i k = bk at HS HD hbl
          go_wp2
          go_roundw
          case rel => exact ⟨k + 1, by omega, by go_num, by rw [HS.out]; go_num, by first | exact True.intro | rfl⟩
          case measure => simp [intOf]; omega
        · obtain rfl : k = 4 := by omega
          have HW := wtN_all (i := i) (n := 4) (by omega)
          have hwl := wtN_le i 4
          by_cases hq : 3 ≤ sizeN i
          · have HB := lvN_set (lo := 3) (k := i) (by omega) hq
            have hg : decide ((3 : Int) ≤ (wtN i 4 : Int)) = true := by rw [HW]; simp; omega
            clear HW hq
            generalize wtN i 4 = wk at hwl hg
            go_wp2
            go_roundw
            case rel => exact ⟨i + 1, by omega, by go_num, by rw [← HB], by first | exact True.intro | rfl⟩
            case measure => simp [intOf]; omega
          · have HB := Lib.hid (lvN_no hq)
            have hg : decide ((3 : Int) ≤ (wtN i 4 : Int)) = false := by rw [HW]; simp; omega
            clear HW hq
            generalize wtN i 4 = wk at hwl hg
            go_wp2
            go_roundw
            case rel => exact ⟨i + 1, by omega, by go_num, by rw [HB.out], by first | exact True.intro | rfl⟩
            case measure => simp [intOf]; omega
    · obtain rfl : i = 16 := by omega
      have HSN : Hid (∀ W v k, (gsL j).length = k → W.ownsRow w.heap.size 40 2 v (k + 1) (fcells (gsL j) ++ [.int .i64 4, .int .i64 (sumN (lvN 3) 16 : Int)]) → OwnsF W w.heap.size v (gnL (j, 3))) := Lib.hid fun W v k hk h => by
        rw [HGL.out]
        refine OwnsF.snoc ?_
        rw [hk]; exact h
      have hO5 : World.ownsRow _ _ _ _ _ _ _ := HO.out
      generalize hgk : (gsL j).length = gk at hO5 hgs
      generalize (sumN (lvN 3) 16 : Int) = gb at HSN ⊢
      go_wp2_with (first
        | (go_at_call 14; refine (RWS.out _).mono ?_; rintro e w' ⟨rfl, rfl⟩)
        | (at_builtin; refine wpList_append_own _ rfl _ _ 22 rfl w.heap.size 40 i0 (.agg #[.int .i64 0, .int .i64 0]) 2 16 Tryd.underlying22 hi hz0 hz1 hz2 rfl (by decide) _ _ _ rfl (hO5.alloc _) ⟨_, 0, none⟩ 1 1 [.int .i64 4, .int .i64 gb] rfl rfl (cell_two_new _ _ _ _) (one_cell_two _ _) (by unfold maxLen; omega) (by omega) (by have := hb3.size; simp; omega) ?_; intro v6 w6 hown6 hgrow6 _))
      go_wp2
      refine bodyPost_ret (v := .tuple #[v6, .bool true]) (by simp [results, Tryd.results9, go_sem]) rfl ?_
      exact ⟨(balloc hb3 _).grown hgrow6 (by have := hb3.size; simp; omega) (fun j e => (hO5.lt j e).1), .inl ⟨(j, 3), v6, HG.out, rfl, HSN.out _ _ _ hgk hown6⟩⟩
end Go.Proofs.YthkmapflbopdpaaDoor

/- CN19:
  Names of lists: the model's helpers, and the mathematics of both. -/
namespace Go.Proofs.YthkmapflbopdpaaDoor
open Go.RowKit Go.Shelf
set_option linter.unusedVariables false
set_option linter.unusedSimpArgs false

def fourN (cl : Nat) (a b c d : ByteArray) : ByteArray := if cl % 4 = 3 then a else if cl % 4 = 1 then b else if cl % 4 = 2 then c else d
def kindN (k m : Bool) (a b c d : ByteArray) : ByteArray := if (k && m) = true then a else if m = true then b else if k = true then c else d
theorem and_three (c : Nat) (hc : c < 2 ^ 62) : bits .and .i64 (c : Int) 3 = ((c % 4 : Nat) : Int) := by
  have := and_int c 3 hc (by decide)
  rw [show ((3 : Nat) : Int) = 3 from rfl] at this
  rw [this, show (3 : Nat) = 2 ^ 2 - 1 from rfl, Nat.and_two_pow_sub_one_eq_mod]

/-- The name, as the model tells it: of the classes, of what all functions are, of both degrees. -/
def nmS (cl : Nat) (u d c : Bool) (z o : Nat) : ByteArray :=
  if (u && bitN cl 3 == 1) = true then fourN cl ⟨#[73, 50]⟩ ⟨#[73, 48]⟩ ⟨#[73, 49]⟩ ⟨#[73]⟩
  else if (u && bitN cl 2 == 1) = true then ⟨#[78, 50]⟩
  else if u = true then ⟨#[78]⟩
  else if d = true then fourN cl ⟨#[86, 50]⟩ ⟨#[86, 48]⟩ ⟨#[86, 49]⟩ ⟨#[86]⟩
  else if c = true then fourN cl ⟨#[69, 50]⟩ ⟨#[69, 48]⟩ ⟨#[69, 49]⟩ ⟨#[69]⟩
  else if (bitN cl 4 == 1 && decide (cl % 4 = 3)) = true then ⟨#[76, 50]⟩
  else if (bitN cl 4 == 1 && bitN cl 2 == 1) = true then ⟨#[76, 51]⟩
  else if (bitN cl 4 == 1) = true then fourN cl ⟨#[76, 50]⟩ ⟨#[76, 48]⟩ ⟨#[76, 49]⟩ ⟨#[76]⟩
  else if (bitN cl 2 == 1 && bitN cl 3 == 1) = true then ⟨#[68, 50]⟩
  else if (bitN cl 2 == 1 && bitN cl 0 == 1) = true then ⟨#[68, 49]⟩
  else if (bitN cl 2 == 1) = true then ⟨#[68]⟩
  else if 2 ≤ z then nmB (kindN (bitN cl 0 == 1) (bitN cl 3 == 1) ⟨#[83, 48, 48]⟩ ⟨#[83, 48, 49]⟩ ⟨#[83, 48, 50]⟩ ⟨#[83, 48]⟩) z
  else if 2 ≤ o then nmB (kindN (bitN cl 1 == 1) (bitN cl 3 == 1) ⟨#[83, 49, 48]⟩ ⟨#[83, 49, 49]⟩ ⟨#[83, 49, 50]⟩ ⟨#[83, 49]⟩) o
  else if (bitN cl 3 == 1) = true then fourN cl ⟨#[77, 50]⟩ ⟨#[77, 48]⟩ ⟨#[77, 49]⟩ ⟨#[77]⟩
  else fourN cl ⟨#[82, 50]⟩ ⟨#[82, 48]⟩ ⟨#[82, 49]⟩ ⟨#[66, 70]⟩
def nmSame (cl : Nat) (u d c : Bool) (z o : Nat) : Bool := (nmS cl u d c z o).data.toList == (nmC (cl + 32 * u.toNat + 64 * d.toNat + 128 * c.toNat) z o).data.toList
theorem nm_all : ∀ cl < 32, ∀ u d c : Bool, ∀ z ∈ [0, 1, 2, 3, 9], ∀ o ∈ [0, 1, 2, 3, 9], nmSame cl u d c z o = true := by decide +kernel
theorem nm_same {cl : Nat} (hc : cl < 32) (u d c : Bool) {z o : Nat} (hz : degOk z) (ho : degOk o) : nmS cl u d c z o = nmC (cl + 32 * u.toNat + 64 * d.toNat + 128 * c.toNat) z o := by
  have h := nm_all cl hc u d c z (by unfold degOk at hz; simp; omega) o (by unfold degOk at ho; simp; omega)
  unfold nmSame at h
  have h2 := eq_of_beq h
  apply ByteArray.ext
  exact Array.toList_inj.1 h2
end Go.Proofs.YthkmapflbopdpaaDoor

/- MO12:
  FuncOfRows in both packages. -/
namespace Go.Proofs.YthkmapflbopdpaaDoor
open Go.RowKit
set_option linter.unusedVariables false
set_option linter.unusedSimpArgs false

theorem rows_nat {R : Nat} {xs : List Int} (h : rowsB R xs = true) : ∃ l : List Nat, xs = nL l ∧ ∀ o ∈ l, o < R := by
  unfold rowsB at h
  rw [List.all_eq_true] at h
  have hb : ∀ v ∈ xs, 0 ≤ v ∧ v ≤ (R : Int) - 1 := fun v hv => by simpa [inB] using h v hv
  refine ⟨xs.map Int.toNat, ?_, fun o ho => ?_⟩
  · unfold nL
    rw [List.map_map]
    conv => lhs; rw [← List.map_id xs]
    refine List.map_congr_left fun v hv => ?_
    have := (hb v hv).1
    simp; omega
  · obtain ⟨v, hv, rfl⟩ := List.mem_map.1 ho
    have := hb v hv
    omega

theorem abTo_nat {r : Nat} {l : List Nat} {i : Nat} (hi : i < l.length) {b : Bool} (hb : inR r (l[i]?.getD 0) = b) : ((abTo r l (i + 1)).toNat : Int) = if b = true then 1 else ((abTo r l i).toNat : Int) := by
  rw [abTo_succ hi, hb]
  cases b <;> simp

/-- The boxes of the program's FuncOfRows: the list, the answer. -/
theorem forBox (s : Value) (w : World) : ∃ W1, (w.alloc (.cells #[s] 62)).alloc (.cells #[.int .i64 0, .int .i64 0] 40) = W1 ∧ W1.cell? ⟨w.heap.size, 0, none⟩ = some s ∧
    (W1.cell? ⟨w.heap.size + 1, 0, none⟩ = some (.int .i64 0) ∧ W1.cell? ⟨w.heap.size + 1, 1, none⟩ = some (.int .i64 0)) ∧ (W1.frozen? ⟨w.heap.size + 1, 0, none⟩ = false ∧ W1.frozen? ⟨w.heap.size + 1, 1, none⟩ = false) ∧ Below w.heap.size w W1 :=
  ⟨_, rfl, by simp [go_sem], ⟨by simp [go_sem], by simp [go_sem]⟩, ⟨by simp [go_sem], by simp [go_sem]⟩, balloc (bnew _ _) _⟩

end Go.Proofs.YthkmapflbopdpaaDoor

/- CN4:
  Disjunctions, conjunctions, unary functions of the model. -/
namespace Go.Proofs.YthkmapflbopdpaaDoor
open Go.RowKit Go.Shelf
set_option linter.unusedVariables false
set_option linter.unusedSimpArgs false

/-- How many of the first k places have the digit 1. -/
def hitN (pl : List Nat) (i k : Nat) : Nat := ((pl.take k).filter fun p => bitN i p == 1).length
theorem hitN_yes {pl : List Nat} {i k : Nat} (hk : k < pl.length) (h : bitN i (pl[k]?.getD 0) = 1) : hitN pl i (k + 1) = hitN pl i k + 1 := by
  unfold hitN
  rw [List.getElem?_eq_getElem hk] at h
  rw [List.take_succ_eq_append_getElem hk, List.filter_append, List.length_append]
  simp at h
  simp [h]
theorem hitN_no {pl : List Nat} {i k : Nat} (hk : k < pl.length) (h : bitN i (pl[k]?.getD 0) ≠ 1) : hitN pl i (k + 1) = hitN pl i k := by
  unfold hitN
  rw [List.getElem?_eq_getElem hk] at h
  rw [List.take_succ_eq_append_getElem hk, List.filter_append, List.length_append]
  simp at h
  simp [h]
theorem hitN_le (pl : List Nat) (i k : Nat) : hitN pl i k ≤ k := by
  unfold hitN
  exact Nat.le_trans (List.length_filter_le _ _) (by rw [List.length_take]; omega)
theorem places_lt {E n p : Nat} (h : p ∈ placesN E n) : p < n := by
  unfold placesN at h
  exact List.mem_range.1 (List.mem_filter.1 h).1


end Go.Proofs.YthkmapflbopdpaaDoor

/- CN9:
  Degrees of the model. -/
namespace Go.Proofs.YthkmapflbopdpaaDoor
open Go.RowKit Go.Shelf
set_option linter.unusedVariables false
set_option linter.unusedSimpArgs false

/-- What stands for a row: for 0 the row of the other arguments. -/
def ownR (c R r : Nat) : Nat := if c = 0 then R - 1 - r else r
theorem ownR_lt {c R r : Nat} (h : r < R) : ownR c R r < R := by unfold ownR; split <;> omega
def valL (x R c : Nat) : List Nat := (List.range R).filter fun r => bitN x r == c
theorem mem_valL {x R c r : Nat} : r ∈ valL x R c ↔ r < R ∧ bitN x r = c := by simp [valL]
theorem dgN_val {x R c : Nat} (hc : c ≤ 1) : dgN x R c = degT ((valL x R c).map (ownR c R)) (R - 1) := by
  unfold dgN
  apply degT_mem
  intro r
  rw [mem_truL, List.mem_map]
  rcases (by omega : c = 0 ∨ c = 1) with rfl | rfl
  · constructor
    · rintro ⟨h1, h2⟩
      rw [if_pos rfl, dualX_bit h1] at h2
      have := bitN_le x (R - 1 - r)
      exact ⟨R - 1 - r, mem_valL.2 ⟨by omega, by omega⟩, by unfold ownR; rw [if_pos rfl]; omega⟩
    · rintro ⟨q, hq, rfl⟩
      obtain ⟨h1, h2⟩ := mem_valL.1 hq
      unfold ownR
      rw [if_pos rfl]
      refine ⟨by omega, ?_⟩
      rw [if_pos rfl, dualX_bit (by omega), show R - 1 - (R - 1 - q) = q by omega, h2]
  · constructor
    · rintro ⟨h1, h2⟩
      rw [if_neg (by decide)] at h2
      exact ⟨r, mem_valL.2 ⟨h1, h2⟩, by unfold ownR; rw [if_neg (by decide)]⟩
    · rintro ⟨q, hq, rfl⟩
      obtain ⟨h1, h2⟩ := mem_valL.1 hq
      unfold ownR
      rw [if_neg (by decide)]
      exact ⟨h1, by rw [if_neg (by decide)]; exact h2⟩

theorem apt_step {l : List Nat} {c R i k m : Nat} (hi : i < l.length) : aptL ((l.map (ownR c R)).drop i) (k + 1) m = (aptL ((l.map (ownR c R)).drop (i + 1)) k (m &&& ownR c R (l[i]?.getD 0)) && aptL ((l.map (ownR c R)).drop (i + 1)) (k + 1) m) := by
  have h : i < (l.map (ownR c R)).length := by rw [List.length_map]; exact hi
  rw [List.drop_eq_getElem_cons h, aptL, List.getElem_map, List.getElem?_eq_getElem hi]
  rfl

end Go.Proofs.YthkmapflbopdpaaDoor

/- CN10:
  SeparatingDegree in both packages. -/
namespace Go.Proofs.YthkmapflbopdpaaDoor
open Go.RowKit Go.Shelf
set_option linter.unusedVariables false
set_option linter.unusedSimpArgs false

theorem valL_yes {x c k : Nat} (h : bitN x k = c) : valL x (k + 1) c = valL x k c ++ [k] := by simp [valL, List.range_succ, h]
theorem valL_no {x c k : Nat} (h : bitN x k ≠ c) : valL x (k + 1) c = valL x k c := by simp [valL, List.range_succ, h]
theorem valL_len (x c k : Nat) : (valL x k c).length ≤ k := Nat.le_trans (List.length_filter_le _ _) (by simp)

end Go.Proofs.YthkmapflbopdpaaDoor

/- I1:
  The two closures of PermuteFunc. -/
namespace Go.Proofs.YthkmapflbopdpaaDoor
open Go.RowKit
set_option linter.unusedVariables false

/-- What a permutation of the variables says, number by number: within 0..3. -/
def permI (xs : List Int) (i : Nat) : Nat := (xs[i]?.getD 0).toNat

end Go.Proofs.YthkmapflbopdpaaDoor

/- I2:
  isPermutation. -/
namespace Go.Proofs.YthkmapflbopdpaaDoor
open Go.RowKit
set_option linter.unusedVariables false

/-- The first j numbers of a list are variables of n, each once. -/
def PermTo (n : Int) (xs : List Int) (j : Nat) : Prop := ∀ i, i < j → (0 ≤ xs[i]?.getD 0 ∧ xs[i]?.getD 0 ≤ n - 1) ∧ ∀ k, k < i → xs[k]?.getD 0 ≠ xs[i]?.getD 0

theorem PermTo.step {n : Int} {xs : List Int} {j : Nat} (h : PermTo n xs j) (h1 : 0 ≤ xs[j]?.getD 0 ∧ xs[j]?.getD 0 ≤ n - 1) (h2 : ¬ ∃ i, i < j ∧ xs[i]?.getD 0 = xs[j]?.getD 0) : PermTo n xs (j + 1) := by
  intro i hi
  by_cases e : i = j
  · subst e
    exact ⟨h1, fun k hk he => h2 ⟨k, hk, he⟩⟩
  · exact h i (by omega)

theorem PermTo.not_in {n : Int} {xs : List Int} {j l : Nat} (hj : j < l) (h1 : ¬ (0 ≤ xs[j]?.getD 0 ∧ xs[j]?.getD 0 ≤ n - 1)) : ¬ PermTo n xs l := fun h => h1 (h j hj).1
theorem PermTo.not_twice {n : Int} {xs : List Int} {j l : Nat} (hj : j < l) (h1 : ∃ i, i < j ∧ xs[i]?.getD 0 = xs[j]?.getD 0) : ¬ PermTo n xs l := fun h => by
  obtain ⟨i, hi, e⟩ := h1
  exact (h j hj).2 i hi e

/-- What a row of marks says: which numbers stand among the first j. -/
def seenB (xs : List Int) (j k : Nat) : Bool := (List.range j).any fun i => xs[i]?.getD 0 == (k : Int)
theorem seenB_true {xs : List Int} {j k : Nat} : seenB xs j k = true ↔ ∃ i, i < j ∧ xs[i]?.getD 0 = (k : Int) := by simp [seenB]
theorem seenB_zero (xs : List Int) (k : Nat) : seenB xs 0 k = false := by simp [seenB]
theorem seenB_same {xs : List Int} {j k : Nat} (h : xs[j]?.getD 0 = (k : Int)) : seenB xs (j + 1) k = true := seenB_true.2 ⟨j, by omega, h⟩
theorem seenB_other {xs : List Int} {j k : Nat} (h : xs[j]?.getD 0 ≠ (k : Int)) : seenB xs (j + 1) k = seenB xs j k := by
  apply Bool.eq_iff_iff.2
  rw [seenB_true, seenB_true]
  constructor
  · rintro ⟨i, hi, e⟩
    by_cases hij : i = j
    · exact absurd (hij ▸ e) h
    · exact ⟨i, by omega, e⟩
  · rintro ⟨i, hi, e⟩
    exact ⟨i, by omega, e⟩

end Go.Proofs.YthkmapflbopdpaaDoor

/- J1:
  l01Order of the model. -/
namespace Go.Proofs.YthkmapflbopdpaaDoor
open Go.RowKit

theorem infoB : (Tryd.prog.info? 4).map (fun i => (i.zero, i.size, i.bytes)) = some (some (.bool false), 1, 1) := by kernel_rfl

/-- The row of marks. -/
def seenV (xs : List Int) (j m : Nat) : List Value := (List.range m).map fun k => .bool (seenB xs j k)
theorem seenV_zero (xs : List Int) (m : Nat) : seenV xs 0 m = List.replicate m (.bool false) := by
  unfold seenV
  apply List.ext_getElem
  · simp
  · intro i h1 h2
    simp [seenB_zero]
theorem seenV_len (xs : List Int) (j m : Nat) : (seenV xs j m).length = m := by simp [seenV]
theorem seenV_get (xs : List Int) (j m k : Nat) (h : k < m) : (seenV xs j m)[k]? = some (.bool (seenB xs j k)) := by simp [seenV, h]
theorem seenV_set (xs : List Int) (j m q : Nat) (h : xs[j]?.getD 0 = (q : Int)) : (seenV xs j m).set q (.bool true) = seenV xs (j + 1) m := by
  unfold seenV
  apply List.ext_getElem
  · simp
  · intro i h1 h2
    simp only [List.length_set, List.length_map, List.length_range] at h1
    rw [List.getElem_set]
    by_cases e : q = i
    · subst e
      simp [seenB_same h]
    · simp only [e, if_false, List.getElem_map, List.getElem_range]
      rw [seenB_other (by rw [h]; omega)]

end Go.Proofs.YthkmapflbopdpaaDoor

/- J0:
  areDifferentBelow, and isPermutation by it. -/
namespace Go.Proofs.YthkmapflbopdpaaDoor
open Go.RowKit
set_option linter.unusedVariables false
set_option linter.unusedSimpArgs false

theorem owns_form {W : World} {base : Nat} {s : Value} {xs : List Int} {m : Nat} (h : Owns W base s xs) (hx : xs.length = m) : ∃ a cap, s = .slice a m cap := by
  rcases h.shape with ⟨e, a, cap, rfl⟩ | ⟨hn, g, cap, rfl, _⟩
  · rw [e] at hx; simp at hx; subst hx; exact ⟨_, _, rfl⟩
  · rw [hx]; exact ⟨_, _, rfl⟩

end Go.Proofs.YthkmapflbopdpaaDoor

/- CN20:
  l08Name of the model. -/
namespace Go.Proofs.YthkmapflbopdpaaDoor
open Go.RowKit Go.Shelf
set_option linter.unusedVariables false
set_option linter.unusedSimpArgs false

/-- What all of the first functions are. -/
def unP (p : Int × Int) : Bool := unB p.1 p.2.toNat
def djP (p : Int × Int) : Bool := jnD p.1 p.2.toNat (2 ^ p.1.toNat)
def cjP (p : Int × Int) : Bool := jnC p.1 p.2.toNat (2 ^ p.1.toNat)
def unT (xs : List (Int × Int)) : Nat → Bool
  | 0 => true
  | k + 1 => unT xs k && unP (fget xs k)
def djT (xs : List (Int × Int)) : Nat → Bool
  | 0 => true
  | k + 1 => djT xs k && djP (fget xs k)
def cjT (xs : List (Int × Int)) : Nat → Bool
  | 0 => true
  | k + 1 => cjT xs k && cjP (fget xs k)
theorem add_bits : ∀ s < 32, ∀ u d c : Bool, ((s ||| u.toNat <<< 5) ||| d.toNat <<< 6) ||| c.toNat <<< 7 = s + 32 * u.toNat + 64 * d.toNat + 128 * c.toNat := by decide +kernel
theorem and_bits : ∀ s < 32, ∀ t < 32, ∀ u d c u' d' c' : Bool, (s + 32 * u.toNat + 64 * d.toNat + 128 * c.toNat) &&& (t + 32 * u'.toNat + 64 * d'.toNat + 128 * c'.toNat) = (s &&& t) + 32 * (u && u').toNat + 64 * (d && d').toNat + 128 * (c && c').toNat := by decide +kernel
theorem cmT_parts (xs : List (Int × Int)) (k : Nat) : cmT xs k = comTo xs k + 32 * (unT xs k).toNat + 64 * (djT xs k).toNat + 128 * (cjT xs k).toNat := by
  induction k with
  | zero => rfl
  | succ k ih =>
    have h1 : tsP (fget xs k) = setP (fget xs k) + 32 * (unP (fget xs k)).toNat + 64 * (djP (fget xs k)).toNat + 128 * (cjP (fget xs k)).toNat := add_bits _ (setP_lt _) _ _ _
    rw [cmT, ih, h1, and_bits _ (comTo_lt xs k) _ (setP_lt _)]
    rfl
theorem nmL_is (xs : List (Int × Int)) : nmL xs = nmS (comTo xs xs.length) (unT xs xs.length) (djT xs xs.length) (cjT xs xs.length) (dgT xs 0 xs.length) (dgT xs 1 xs.length) := by
  rw [nm_same (comTo_lt xs _) _ _ _ (dgT_ok xs 0 _) (dgT_ok xs 1 _), ← cmT_parts]
  rfl
end Go.Proofs.YthkmapflbopdpaaDoor

/- CN21:
  l08Name of the model: the walk. -/
namespace Go.Proofs.YthkmapflbopdpaaDoor
open Go.RowKit Go.Shelf
set_option linter.unusedVariables false
set_option linter.unusedSimpArgs false

theorem cl_bits : ∀ cl < 32, (((cl &&& 4 : Nat) : Int) != 0) = (bitN cl 2 == 1) ∧ (((cl &&& 8 : Nat) : Int) != 0) = (bitN cl 3 == 1) ∧ (((cl &&& 16 : Nat) : Int) != 0) = (bitN cl 4 == 1) ∧ (((cl &&& 1 : Nat) : Int) != 0) = (bitN cl 0 == 1) ∧ (((cl &&& 2 : Nat) : Int) != 0) = (bitN cl 1 == 1) ∧ (((cl &&& 3 : Nat) : Int) == 3) = decide (cl % 4 = 3) := by decide
theorem kindN_size (k m : Bool) (a b c d : ByteArray) (ha : a.size ≤ 100) (hb : b.size ≤ 100) (hc : c.size ≤ 100) (hd : d.size ≤ 100) : (kindN k m a b c d).size ≤ 100 := by
  unfold kindN
  split
  · exact ha
  · split
    · exact hb
    · split
      · exact hc
      · exact hd

end Go.Proofs.YthkmapflbopdpaaDoor

/- CN35:
  IsInNamed, GeneratorsOf of the model. -/
namespace Go.Proofs.YthkmapflbopdpaaDoor
open Go.RowKit Go.Shelf
set_option linter.unusedVariables false
set_option linter.unusedSimpArgs false

theorem gen_any (s : ByteArray) (hb : s.size ≤ 1048576) (w : World) : Calls Tryd.prog 9 #[.string s] w (GenPost s w) := by
  by_cases h4 : s.size < 4
  · exact gen_short s h4 hb w
  obtain ⟨m, hsz⟩ : ∃ m, s.size = m + 2 := ⟨s.size - 2, by omega⟩
  have hm : 2 ≤ m := by omega
  by_cases h94 : bt s m = 94
  · cases hj : bsFind (s.extract 0 m) with
    | none => exact gen_none1 s hsz hm hb h94 hj w
    | some j =>
      by_cases h0 : bt s 0 = 83
      · by_cases h2 : bt s (m + 1) = 50
        · by_cases h1 : bt s 1 = 49
          · exact gen_yes21 s hsz hm hb h94 hj h0 h2 h1 w
          · exact gen_yes20 s hsz hm hb h94 hj h0 h2 h1 w
        by_cases h3 : bt s (m + 1) = 51
        · by_cases h1 : bt s 1 = 49
          · exact gen_yes31 s hsz hm hb h94 hj h0 h3 h1 w
          · exact gen_yes30 s hsz hm hb h94 hj h0 h3 h1 w
        exact gen_none3 s hsz hm hb h94 hj h0 ⟨h2, h3⟩ w
      · exact gen_none2 s hsz hm hb h94 hj h0 w
  · exact gen_plain s hsz hm hb h94 w
theorem gens_some {s : ByteArray} (hb : s.size ≤ 1048576) {p : Nat × Nat} (hs : clFind s = some p) (w : World) : Calls Tryd.prog 9 #[.string s] w fun e w' => ∃ v, e = .returned (.tuple #[v, .bool true]) ∧ OwnsF w' w.heap.size v (gnL p) ∧ Below w.heap.size w w' := by
  refine (gen_any s hb w).mono ?_
  rintro e w' ⟨hB, ⟨q, v, hq, he, hO⟩ | ⟨hn, _⟩⟩
  · obtain rfl : p = q := by rw [hs] at hq; exact Option.some.inj hq
    exact ⟨v, he, hO, hB⟩
  · rw [hs] at hn; cases hn
theorem gens_none {s : ByteArray} (hb : s.size ≤ 1048576) (hs : clFind s = none) (w : World) : Calls Tryd.prog 9 #[.string s] w fun e w' => e = .returned (.tuple #[.slice none 0 0, .bool false]) ∧ Below w.heap.size w w' := by
  refine (gen_any s hb w).mono ?_
  rintro e w' ⟨hB, ⟨q, v, hq, he, hO⟩ | ⟨_, he⟩⟩
  · rw [hs] at hq; cases hq
  · exact ⟨he, hB⟩

end Go.Proofs.YthkmapflbopdpaaDoor

/- CN37:
  GeneratorsOf in both packages. -/
namespace Go.Proofs.YthkmapflbopdpaaDoor
open Go.RowKit Go.Shelf
set_option linter.unusedVariables false
set_option linter.unusedSimpArgs false

set_option maxHeartbeats 2000000 in
theorem specGeneratorsOf_syn {s : ByteArray} (hb : s.size ≤ 1048576) (hs : clFind s = none) (w : World) :
    Calls Tryd.prog 4 #[.string s] w fun e w' => e = .returned (.tuple #[.slice none 0 0, .int .i64 6]) ∧ Below w.heap.size w w' := by
  have GEN := Lib.hid (fun W => gens_none hb hs W)
  go_enter Tryd.func4, Tryd.ntmps4
  go_wp2_with (go_at_call 9; refine (GEN.out _).mono ?_; rintro e w3 ⟨rfl, hb3⟩)
  exact bodyPost_ret (v := .tuple #[.slice none 0 0, .int .i64 6]) (by simp [results, Tryd.results4, go_sem]) rfl ⟨rfl, hb3⟩
set_option maxHeartbeats 2000000 in
theorem specGeneratorsOf_yes {s : ByteArray} (hb : s.size ≤ 1048576) {p : Nat × Nat} (hs : clFind s = some p) (w : World) :
    Calls Tryd.prog 4 #[.string s] w fun e w' => ∃ v, e = .returned (.tuple #[v, .int .i64 0]) ∧ OwnsF w' w.heap.size v (gnL p) ∧ Below w.heap.size w w' := by
  have GEN := Lib.hid (fun W => gens_some hb hs W)
  generalize gnL p = gs at GEN ⊢
  go_enter Tryd.func4, Tryd.ntmps4
  go_wp2_with (go_at_call 9; refine (GEN.out _).mono ?_; rintro e w3 ⟨v, rfl, hO, hb3⟩; have HO := Lib.hid hO; clear hO)
  exact bodyPost_ret (v := .tuple #[v, .int .i64 0]) (by simp [results, Tryd.results4, go_sem]) rfl ⟨v, rfl, HO.out, hb3⟩
theorem bothGeneratorsOf (s : ByteArray) (hb : s.size ≤ 1048576) : ∃ (xs : List (Int × Int)) (c : Int), xs.length ≤ 5 ∧
    (∀ w, Calls Tryd.prog 4 #[.string s] w fun e w' => ∃ v, e = .returned (.tuple #[v, .int .i64 c]) ∧ OwnsF w' w.heap.size v xs ∧ Below w.heap.size w w') ∧
    (∀ w a, ErrN w a → TabN w → Calls Tryd.prog 5 #[.string s] w fun e w' => ∃ v, e = .returned (.tuple #[v, .int .i64 c]) ∧ OwnsF w' w.heap.size v xs ∧ Below w.heap.size w w') := by
  cases hs : clFind s with
  | none => exact ⟨[], 6, by decide, fun w => (specGeneratorsOf_syn hb hs w).mono (by rintro e w' ⟨rfl, h⟩; exact ⟨_, rfl, OwnsF.nil _ _, h⟩), fun w a hE hT => (implGeneratorsOf_syn hs w hE).mono (by rintro e w' ⟨rfl, h⟩; exact ⟨_, rfl, OwnsF.nil _ _, h⟩)⟩
  | some p => exact ⟨gnL p, 0, (gn_ok p (clFind_mem hs)).1, fun w => specGeneratorsOf_yes hb hs w, fun w a hE hT => implGeneratorsOf_yes hs w hE hT⟩
end Go.Proofs.YthkmapflbopdpaaDoor

/- FGeneratorsOf:
  The walk of the law on GeneratorsOf: both packages answer alike, and each answer has memory of its own. -/
namespace Go.Proofs.YthkmapflbopdpaaDoor
open Go.RowKit Go.Shelf
set_option linter.unusedVariables false
set_option linter.unusedSimpArgs false

theorem below_markedF {B : Nat} {W0 W W' : World} {b : Nat} {s : Value} {xs : List (Int × Int)} (hN : Below B W0 W) (h : OwnsF W b s xs) (hg : W.grownBy W' s.ownBlock) (hB : B ≤ b) (hs : B ≤ W.heap.size) : Below B W0 W' :=
  hN.grown hg hs (fun j e => Nat.le_trans hB (h.ge j e))
theorem OwnsF.other {W W' : World} {b1 b2 : Nat} {s1 s2 : Value} {xs ys : List (Int × Int)} (h : OwnsF W b1 s1 xs) (hg : W.grownBy W' s2.ownBlock) (h2 : OwnsF W b2 s2 ys) (hlt : ∀ k, s1.ownBlock = some k → k < b2) : OwnsF W' b1 s1 xs :=
  h.keep hg fun k hk he => by
    have h3 := hlt k hk
    have h4 := h2.ge k he.symm
    omega

set_option maxRecDepth 100000 in
set_option maxHeartbeats 4000000 in
theorem fnExactGeneratorsOf_walk (s0 : ByteArray) (w : World) (_ : s0.size ≤ 140737488351232) (ad : Addr) (hE : ErrN w ad) (hT : TabN w) :
    Calls Tryd.prog 3 #[.string s0] w fun e w' => e = .returned (.bool true) ∧ Below w.heap.size w w' := by
  by_cases hs0 : s0.size ≤ 1048576
  · obtain ⟨xs, rc, hlen, c1, c2⟩ := bothGeneratorsOf s0 hs0
    have C1 := Lib.hid c1
    have C2 := Lib.hid c2
    have HE := Lib.hid hE
    have HT := Lib.hid hT
    have hd0 : decide (1048576 < (s0.size : Int)) = false := by simp; omega
    clear c1 c2 hE hT hs0
    go_enter Tryd.func3, Tryd.ntmps3
    go_wp2_with fail
    refine (C1.out _).mono ?_
    rintro e w3 ⟨q0, rfl, o0, hN3⟩
    have O0 := Lib.hid o0
    clear o0
    go_wp2_with fail
    have hs3 := hN3.size
    refine (C2.out _ _ (HE.out.below hN3) (HT.out.below hN3)).mono ?_
    rintro e w5 ⟨s1, rfl, o1, hb⟩
    have hN5 := bthen hN3 hb
    have lt0 := Lib.hid O0.out.lt
    replace O0 := Lib.hid (O0.out.below hb)
    have O1 := Lib.hid o1
    clear hb hN3 o1
    go_wp2_with fail
    refine (eqFuncS_same (by omega) _ O1.out O0.out).mono ?_
    rintro e w6 ⟨rfl, hb⟩
    have hN6 := bthen hN5 hb
    replace O0 := Lib.hid (O0.out.below hb)
    replace O1 := Lib.hid (O1.out.below hb)
    clear hb hN5
    go_wp2_with fail
    refine (markFuncS_any (by omega) 1 (by omega) (by omega) _ O1.out).mono ?_
    rintro e w7 ⟨rfl, o1, hg⟩
    have hN7 := below_markedF hN6 O1.out hg hs3 hN6.size
    replace O0 := Lib.hid (O0.out.other hg O1.out lt0.out)
    have M1 := Lib.hid o1
    clear O1 o1 hg hN6
    go_wp2_with fail
    refine (heldFuncS_any (by omega) 1 (by omega) (by omega) _ M1.out).mono ?_
    rintro e w8 ⟨rfl, rfl⟩
    go_wp2_with fail
    refine (C2.out _ _ (HE.out.below hN7) (HT.out.below hN7)).mono ?_
    rintro e w10 ⟨s2, rfl, o2, hb⟩
    have hN10 := bthen hN7 hb
    replace O0 := Lib.hid (O0.out.below hb)
    replace M1 := Lib.hid (M1.out.below hb)
    have O2 := Lib.hid o2
    clear hb hN7 o2
    go_wp2_with fail
    refine (eqFuncS_same (by omega) _ O2.out O0.out).mono ?_
    rintro e w11 ⟨rfl, hb⟩
    have hN11 := bthen hN10 hb
    replace M1 := Lib.hid (M1.out.below hb)
    clear hb hN10
    go_wp2_with fail
    refine (heldFuncS_any (by omega) 1 (by omega) (by omega) _ M1.out).mono ?_
    rintro e w12 ⟨rfl, rfl⟩
    go_wp2
    go_ret
    exact ⟨rfl, hN11⟩
  · have hd0 : decide (1048576 < (s0.size : Int)) = true := by simp; omega
    go_enter Tryd.func3, Tryd.ntmps3
    go_wp2_with fail
    go_ret
    exact ⟨rfl, Below.refl _ _⟩
end Go.Proofs.YthkmapflbopdpaaDoor

/- DN:
  The variable of the missing name: what the row's condition gives of it. -/
namespace Go.Proofs.YthkmapflbopdpaaDoor
open Go.RowKit Go.ChangeShapes
theorem gErr : Tryd.prog.globalNamed "loop.example/g01323/impl.errNoName" = some 0 := by kernel_rfl
theorem gErrType : (Tryd.prog.globals[0]?).map (·.type) = some 52 := by kernel_rfl
theorem starErr : "*" ++ "errors.errorString" = "*errors.errorString" := by decide
theorem rowErr (u : TypeId) (h : Tryd.prog.typeName? 3 u = some "*errors.errorString") : u = 112 :=
  typeName_ptr_named (nm := "errors.errorString") (by rw [starErr]; kernel_rfl) (by kernel_rfl) (by decide) u (by rw [starErr]; exact h)
theorem cellsErr : Tryd.prog.cellsOf 129 = 1 := by kernel_rfl
theorem cellsStr : Tryd.prog.cellsOf 9 = 1 := by kernel_rfl
theorem gTab : Tryd.prog.globalNamed "strings.asciiSpace" = some 1 := by kernel_rfl
theorem gTabType : (Tryd.prog.globals[1]?).map (·.type) = some 57 := by kernel_rfl
theorem cellsU8 : Tryd.prog.cellsOf 5 = 1 := by kernel_rfl
theorem cellsTab : Tryd.prog.cellsOf 57 = 256 := by kernel_rfl
theorem tabData_eq : (Rows.laid_strings_asciiSpace : DataW Unit) = Lib.tabData .u8 Lib.asciiSpaceTab := by kernel_rfl
theorem err_of_laid {W : World} (h : laidMetH Tryd.prog [("unicode.White_Space", Rows.laid_unicode_White_Space), ("strings.asciiSpace", Rows.laid_strings_asciiSpace), ("loop.example/g01323/impl.errNoName", Rows.laid_loop_example_g01323_impl_errNoName)] W) : ∃ a, W.var? Tryd.prog "loop.example/g01323/impl.errNoName" = some #[errV a] ∧ ErrN W a ∧ TabN W := by
  rw [MakeChecks.laidMetH_plain _ _ _ (by kernel_rfl)] at h
  have h2 := laidMet.tail h
  have hT : TabN W := by
    rw [tabData_eq] at h2
    exact Lib.tabIs_of_head gTab gTabType Tryd.underlying57 Tryd.underlying5 cellsU8 cellsTab h2
  obtain ⟨a, s, hv, _, _, _⟩ := laid_sentinel (laidMet.tail h2) gErr gErrType Tryd.underlying52 rowErr Tryd.underlying112 Tryd.underlying129 rfl rfl Tryd.underlying9 cellsErr cellsStr
  exact ⟨a, hv, by unfold ErrN errV; simpa using World.var?_cell gErr hv 0, hT⟩
theorem var?_below {P : Program} {W W' : World} {n : String} {cs : Array Value} (h : W.var? P n = some cs) (hb : Below W.heap.size W W') : W'.var? P n = some cs := by
  unfold World.var? at h ⊢
  cases hg : P.globalNamed n with
  | none => simp [hg] at h
  | some g =>
    simp only [hg, Option.bind_some] at h ⊢
    have hlt : g < W.heap.size := by
      rcases Nat.lt_or_ge g W.heap.size with h' | h'
      · exact h'
      · simp [Array.getElem?_eq_none h'] at h
    rw [hb.block g hlt]
    exact h
end Go.Proofs.YthkmapflbopdpaaDoor
