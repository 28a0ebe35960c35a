/-
  The texts CN34, CN19, MO12, CN4, CN9, CN10, I1, I2, J1, J0, CN20, CN21, CN35 in one.
-/
import Derived.Test.YthjgkgknlecjlaaGreatDoorMPIsInNamed7
import Derived.Deep.QuietTactic

/- CN34:
  l08Generators of the model: names with a degree (three). -/
namespace Go.Proofs.YthjgkgknlecjlaaGreatDoor
open Go.RowKit Go.Shelf
set_option linter.unusedVariables false
set_option linter.unusedSimpArgs false

set_option maxRecDepth 100000 in
set_option maxHeartbeats 8000000 in
theorem gen_yes30 (s : ByteArray) {m : Nat} (hsz : s.size = m + 2) (hm : 2 ≤ m) (hb : s.size ≤ 1048576) (h94 : bt s m = 94) {j : Nat} (hj : bsFind (s.extract 0 m) = some j) (h0 : bt s 0 = 83) (hc : bt s (m + 1) = 51) (h1 : bt s 1 ≠ 49) (w : World) : Calls Tryz.prog 14 #[.string s] w (GenPost s w) := by
  obtain ⟨i0, hi, hz0, hz1, hz2⟩ := info_parts infoF
  obtain ⟨GI, hlk⟩ := gen_is (d := 3) hsz hm h94 hj h0 (by decide) hc
  have hgl : gnL (j, 3) = gsL j ++ [(4, (sumN (lvN 2) 16 : Int))] := gen_list (by decide) (by rw [if_pos (by omega)])
  have hgs : (gsL j).length ≤ 4 := by
    have := fld_small j (bsFind_mem hj).1
    unfold gsL; rw [List.length_map]; exact this.2.2.1
  have BA := Lib.hid (fun W => base_any (s.extract 0 m) W)
  have RWS := Lib.hid (fun W => l01Rows_is (n := 4) (by decide) (by decide) (R := 16) (Lib.hid rfl) W)
  rw [show (((16 : Nat)) : Int) = 16 from rfl] at RWS
  have hms : m < s.size := by omega
  have hm1 : m + 1 < s.size := by omega
  have h0s : 0 < s.size := by omega
  have h1s : 1 < s.size := by omega
  have hbm := bt_eq hms
  have hb1 := bt_eq hm1
  have hb0 := bt_eq h0s
  have hb2 := bt_eq h1s
  have hne : ((bt s m : Int) != 94) = false := by simp [h94]
  have hn0 : ((bt s 0 : Int) != 83) = false := by simp [h0]
  have hn1 : ((bt s (m + 1) : Int) != 50) = true := by simp [hc]
  have hn2 : ((bt s (m + 1) : Int) != 51) = false := by simp [hc]
  have hn3 : ((bt s (m + 1) : Int) == 51) = true := by simp [hc]
  have hn4 : ((bt s 1 : Int) == 49) = false := by simp ; omega
  have HJ := Lib.hid hj
  have HG := Lib.hid GI
  have HGL := Lib.hid hgl
  clear h94 h0 hc h1 hlk hj GI hgl
  go_enter Tryz.func14, Tryz.ntmps14
  go_wp2_with (go_at_call 26; refine (BA.out _).mono ?_; rintro e w3 ⟨hb3, ⟨j', v, hj, rfl, hO⟩ | ⟨hj, rfl⟩⟩; rotate_left; (rw [HJ.out] at hj; cases hj); (obtain rfl : j = j' := by rw [HJ.out] at hj; exact Option.some.inj hj); clear hj; have HO := Lib.hid hO; clear hO)
  clear hne hn0 hn1 hn2 hn3 hn4 hbm hb1 hb0 hb2 BA
  go_loopw [9, 10] (fun g' i' wr => ∃ i : Nat, i ≤ 16 ∧ i' = .int .i64 i ∧ g' = .int .i64 (sumN (lvN 2) i : Int) ∧ w3 = wr) (fun _ i' _ => 16 - (intOf i').toNat)
  case atStart => exact ⟨0, Nat.zero_le _, rfl, rfl, rfl⟩
  case round =>
    obtain ⟨i, hi2, rfl, rfl, rfl⟩ := hrel
    by_cases hlt : i < 16
    · go_wp2_with (go_at_call 27; refine (RWS.out _).mono ?_; rintro e w' ⟨rfl, rfl⟩)
      obtain ⟨wo, rfl⟩ : ∃ wo : World, wo = w3 := ⟨_, rfl⟩
      go_loopw [11, 12] (fun c v' wr => ∃ k : Nat, k ≤ 4 ∧ v' = .int .i64 k ∧ c = .int .i64 (wtN i k : Int) ∧ wo = wr) (fun _ v' _ => 4 - (intOf v').toNat)
      case atStart => exact ⟨0, Nat.zero_le _, rfl, by rw [wtN_zero]; rfl, rfl⟩
      case round =>
        obtain ⟨k, hk, rfl, rfl, rfl⟩ := hrel
        by_cases hk2 : k < 4
        · have HS := Lib.hid (wtN_step i (by omega) k (by omega))
          have HD := digit_eq i k (by omega)
          have hwl := wtN_le i k
          have hbl := bitN_le i k
          have eu : IntKind.u64.wrap (k : Int) = (k : Int) := by simp [IntKind.wrap, IntKind.bits, IntKind.signed]; omega
          generalize wtN i k = wk at HS hwl
          generalize bitN i k = bk at HS HD hbl
          go_wp2
          go_roundw
          case rel => exact ⟨k + 1, by omega, by go_num, by rw [HS.out]; go_num, by first | exact True.intro | rfl⟩
          case measure => simp [intOf]; omega
        · obtain rfl : k = 4 := by omega
          have HW := wtN_all (i := i) (n := 4) (by omega)
          have hwl := wtN_le i 4
          by_cases hq : 2 ≤ sizeN i
          · have HB := lvN_set (lo := 2) (k := i) (by omega) hq
            have hg : decide ((2 : Int) ≤ (wtN i 4 : Int)) = true := by rw [HW]; simp; omega
            clear HW hq
            generalize wtN i 4 = wk at hwl hg
            go_wp2
            go_roundw
            case rel => exact ⟨i + 1, by omega, by go_num, by rw [← HB], by first | exact True.intro | rfl⟩
            case measure => simp [intOf]; omega
          · have HB := Lib.hid (lvN_no hq)
            have hg : decide ((2 : Int) ≤ (wtN i 4 : Int)) = false := by rw [HW]; simp; omega
            clear HW hq
            generalize wtN i 4 = wk at hwl hg
            go_wp2
            go_roundw
            case rel => exact ⟨i + 1, by omega, by go_num, by rw [HB.out], by first | exact True.intro | rfl⟩
            case measure => simp [intOf]; omega
    · obtain rfl : i = 16 := by omega
      have HSN : Hid (∀ W v k, (gsL j).length = k → W.ownsRow w.heap.size 26 2 v (k + 1) (fcells (gsL j) ++ [.int .i64 4, .int .i64 (sumN (lvN 2) 16 : Int)]) → OwnsF W w.heap.size v (gnL (j, 3))) := Lib.hid fun W v k hk h => by
        rw [HGL.out]
        refine OwnsF.snoc ?_
        rw [hk]; exact h
      have hO5 : World.ownsRow _ _ _ _ _ _ _ := HO.out
      generalize hgk : (gsL j).length = gk at hO5 hgs
      generalize (sumN (lvN 2) 16 : Int) = gb at HSN ⊢
      go_wp2_with (first
        | (go_at_call 27; refine (RWS.out _).mono ?_; rintro e w' ⟨rfl, rfl⟩)
        | (at_builtin; refine wpList_append_own _ rfl _ _ 35 rfl w.heap.size 26 i0 (.agg #[.int .i64 0, .int .i64 0]) 2 16 Tryz.underlying35 hi hz0 hz1 hz2 rfl (by decide) _ _ _ rfl (hO5.alloc _) ⟨_, 0, none⟩ 1 1 [.int .i64 4, .int .i64 gb] rfl rfl (cell_two_new _ _ _ _) (one_cell_two _ _) (by unfold maxLen; omega) (by omega) (by have := hb3.size; simp; omega) ?_; intro v6 w6 hown6 hgrow6 _))
      go_wp2
      refine bodyPost_ret (v := .tuple #[v6, .bool true]) (by simp [results, Tryz.results14, go_sem]) rfl ?_
      exact ⟨(balloc hb3 _).grown hgrow6 (by have := hb3.size; simp; omega) (fun j e => (hO5.lt j e).1), .inl ⟨(j, 3), v6, HG.out, rfl, HSN.out _ _ _ hgk hown6⟩⟩

set_option maxRecDepth 100000 in
set_option maxHeartbeats 8000000 in
theorem gen_yes31 (s : ByteArray) {m : Nat} (hsz : s.size = m + 2) (hm : 2 ≤ m) (hb : s.size ≤ 1048576) (h94 : bt s m = 94) {j : Nat} (hj : bsFind (s.extract 0 m) = some j) (h0 : bt s 0 = 83) (hc : bt s (m + 1) = 51) (h1 : bt s 1 = 49) (w : World) : Calls Tryz.prog 14 #[.string s] w (GenPost s w) := by
  obtain ⟨i0, hi, hz0, hz1, hz2⟩ := info_parts infoF
  obtain ⟨GI, hlk⟩ := gen_is (d := 3) hsz hm h94 hj h0 (by decide) hc
  have hgl : gnL (j, 3) = gsL j ++ [(4, (sumN (lvN 3) 16 : Int))] := gen_list (by decide) (by rw [if_neg (by omega)])
  have hgs : (gsL j).length ≤ 4 := by
    have := fld_small j (bsFind_mem hj).1
    unfold gsL; rw [List.length_map]; exact this.2.2.1
  have BA := Lib.hid (fun W => base_any (s.extract 0 m) W)
  have RWS := Lib.hid (fun W => l01Rows_is (n := 4) (by decide) (by decide) (R := 16) (Lib.hid rfl) W)
  rw [show (((16 : Nat)) : Int) = 16 from rfl] at RWS
  have hms : m < s.size := by omega
  have hm1 : m + 1 < s.size := by omega
  have h0s : 0 < s.size := by omega
  have h1s : 1 < s.size := by omega
  have hbm := bt_eq hms
  have hb1 := bt_eq hm1
  have hb0 := bt_eq h0s
  have hb2 := bt_eq h1s
  have hne : ((bt s m : Int) != 94) = false := by simp [h94]
  have hn0 : ((bt s 0 : Int) != 83) = false := by simp [h0]
  have hn1 : ((bt s (m + 1) : Int) != 50) = true := by simp [hc]
  have hn2 : ((bt s (m + 1) : Int) != 51) = false := by simp [hc]
  have hn3 : ((bt s (m + 1) : Int) == 51) = true := by simp [hc]
  have hn4 : ((bt s 1 : Int) == 49) = true := by simp [h1]
  have HJ := Lib.hid hj
  have HG := Lib.hid GI
  have HGL := Lib.hid hgl
  clear h94 h0 hc h1 hlk hj GI hgl
  go_enter Tryz.func14, Tryz.ntmps14
  go_wp2_with (go_at_call 26; refine (BA.out _).mono ?_; rintro e w3 ⟨hb3, ⟨j', v, hj, rfl, hO⟩ | ⟨hj, rfl⟩⟩; rotate_left; (rw [HJ.out] at hj; cases hj); (obtain rfl : j = j' := by rw [HJ.out] at hj; exact Option.some.inj hj); clear hj; have HO := Lib.hid hO; clear hO)
  clear hne hn0 hn1 hn2 hn3 hn4 hbm hb1 hb0 hb2 BA
  go_loopw [9, 10] (fun g' i' wr => ∃ i : Nat, i ≤ 16 ∧ i' = .int .i64 i ∧ g' = .int .i64 (sumN (lvN 3) i : Int) ∧ w3 = wr) (fun _ i' _ => 16 - (intOf i').toNat)
  case atStart => exact ⟨0, Nat.zero_le _, rfl, rfl, rfl⟩
  case round =>
    obtain ⟨i, hi2, rfl, rfl, rfl⟩ := hrel
    by_cases hlt : i < 16
    · go_wp2_with (go_at_call 27; refine (RWS.out _).mono ?_; rintro e w' ⟨rfl, rfl⟩)
      obtain ⟨wo, rfl⟩ : ∃ wo : World, wo = w3 := ⟨_, rfl⟩
      go_loopw [11, 12] (fun c v' wr => ∃ k : Nat, k ≤ 4 ∧ v' = .int .i64 k ∧ c = .int .i64 (wtN i k : Int) ∧ wo = wr) (fun _ v' _ => 4 - (intOf v').toNat)
      case atStart => exact ⟨0, Nat.zero_le _, rfl, by rw [wtN_zero]; rfl, rfl⟩
      case round =>
        obtain ⟨k, hk, rfl, rfl, rfl⟩ := hrel
        by_cases hk2 : k < 4
        · have HS := Lib.hid (wtN_step i (by omega) k (by omega))
          have HD := digit_eq i k (by omega)
          have hwl := wtN_le i k
          have hbl := bitN_le i k
          have eu : IntKind.u64.wrap (k : Int) = (k : Int) := by simp [IntKind.wrap, IntKind.bits, IntKind.signed]; omega
          generalize wtN i k = wk at HS hwl
          generalize bitN i k = bk at HS HD hbl
          go_wp2
          go_roundw
          case rel => exact ⟨k + 1, by omega, by go_num, by rw [HS.out]; go_num, by first | exact True.intro | rfl⟩
          case measure => simp [intOf]; omega
        · obtain rfl : k = 4 := by omega
          have HW := wtN_all (i := i) (n := 4) (by omega)
          have hwl := wtN_le i 4
          by_cases hq : 3 ≤ sizeN i
          · have HB := lvN_set (lo := 3) (k := i) (by omega) hq
            have hg : decide ((3 : Int) ≤ (wtN i 4 : Int)) = true := by rw [HW]; simp; omega
            clear HW hq
            generalize wtN i 4 = wk at hwl hg
            go_wp2
            go_roundw
            case rel => exact ⟨i + 1, by omega, by go_num, by rw [← HB], by first | exact True.intro | rfl⟩
            case measure => simp [intOf]; omega
          · have HB := Lib.hid (lvN_no hq)
            have hg : decide ((3 : Int) ≤ (wtN i 4 : Int)) = false := by rw [HW]; simp; omega
            clear HW hq
            generalize wtN i 4 = wk at hwl hg
            go_wp2
            go_roundw
            case rel => exact ⟨i + 1, by omega, by go_num, by rw [HB.out], by first | exact True.intro | rfl⟩
            case measure => simp [intOf]; omega
    · obtain rfl : i = 16 := by omega
      have HSN : Hid (∀ W v k, (gsL j).length = k → W.ownsRow w.heap.size 26 2 v (k + 1) (fcells (gsL j) ++ [.int .i64 4, .int .i64 (sumN (lvN 3) 16 : Int)]) → OwnsF W w.heap.size v (gnL (j, 3))) := Lib.hid fun W v k hk h => by
        rw [HGL.out]
        refine OwnsF.snoc ?_
        rw [hk]; exact h
      have hO5 : World.ownsRow _ _ _ _ _ _ _ := HO.out
      generalize hgk : (gsL j).length = gk at hO5 hgs
      generalize (sumN (lvN 3) 16 : Int) = gb at HSN ⊢
      go_wp2_with (first
        | (go_at_call 27; refine (RWS.out _).mono ?_; rintro e w' ⟨rfl, rfl⟩)
        | (at_builtin; refine wpList_append_own _ rfl _ _ 35 rfl w.heap.size 26 i0 (.agg #[.int .i64 0, .int .i64 0]) 2 16 Tryz.underlying35 hi hz0 hz1 hz2 rfl (by decide) _ _ _ rfl (hO5.alloc _) ⟨_, 0, none⟩ 1 1 [.int .i64 4, .int .i64 gb] rfl rfl (cell_two_new _ _ _ _) (one_cell_two _ _) (by unfold maxLen; omega) (by omega) (by have := hb3.size; simp; omega) ?_; intro v6 w6 hown6 hgrow6 _))
      go_wp2
      refine bodyPost_ret (v := .tuple #[v6, .bool true]) (by simp [results, Tryz.results14, go_sem]) rfl ?_
      exact ⟨(balloc hb3 _).grown hgrow6 (by have := hb3.size; simp; omega) (fun j e => (hO5.lt j e).1), .inl ⟨(j, 3), v6, HG.out, rfl, HSN.out _ _ _ hgk hown6⟩⟩
end Go.Proofs.YthjgkgknlecjlaaGreatDoor

/- CN19:
  Names of lists: the model's helpers, and the mathematics of both. -/
namespace Go.Proofs.YthjgkgknlecjlaaGreatDoor
open Go.RowKit Go.Shelf
set_option linter.unusedVariables false
set_option linter.unusedSimpArgs false

def fourN (cl : Nat) (a b c d : ByteArray) : ByteArray := if cl % 4 = 3 then a else if cl % 4 = 1 then b else if cl % 4 = 2 then c else d
def kindN (k m : Bool) (a b c d : ByteArray) : ByteArray := if (k && m) = true then a else if m = true then b else if k = true then c else d
theorem and_three (c : Nat) (hc : c < 2 ^ 62) : bits .and .i64 (c : Int) 3 = ((c % 4 : Nat) : Int) := by
  have := and_int c 3 hc (by decide)
  rw [show ((3 : Nat) : Int) = 3 from rfl] at this
  rw [this, show (3 : Nat) = 2 ^ 2 - 1 from rfl, Nat.and_two_pow_sub_one_eq_mod]

set_option maxHeartbeats 2000000 in
theorem l08Four_any (c : Nat) (hc : c < 1000) (s3 s1 s2 s0 : ByteArray) (w : World) :
    Calls Tryz.prog 44 #[.int .i64 (c : Int), .string s3, .string s1, .string s2, .string s0] w fun e w' => e = .returned (.string (fourN c s3 s1 s2 s0)) ∧ w = w' := by
  have ha := and_three c (by omega)
  unfold fourN
  generalize (c : Int) = ci at ha ⊢
  rcases (by omega : c % 4 = 0 ∨ c % 4 = 1 ∨ c % 4 = 2 ∨ c % 4 = 3) with h | h | h | h
  · rw [h] at ha ⊢
    rw [show (((0 : Nat)) : Int) = 0 from rfl] at ha
    clear h hc
    go_enter Tryz.func44, Tryz.ntmps44
    go_wp2
    go_ret
    exact ⟨rfl, rfl⟩
  · rw [h] at ha ⊢
    rw [show (((1 : Nat)) : Int) = 1 from rfl] at ha
    clear h hc
    go_enter Tryz.func44, Tryz.ntmps44
    go_wp2
    go_ret
    exact ⟨rfl, rfl⟩
  · rw [h] at ha ⊢
    rw [show (((2 : Nat)) : Int) = 2 from rfl] at ha
    clear h hc
    go_enter Tryz.func44, Tryz.ntmps44
    go_wp2
    go_ret
    exact ⟨rfl, rfl⟩
  · rw [h] at ha ⊢
    rw [show (((3 : Nat)) : Int) = 3 from rfl] at ha
    clear h hc
    go_enter Tryz.func44, Tryz.ntmps44
    go_wp2
    go_ret
    exact ⟨rfl, rfl⟩

set_option maxHeartbeats 2000000 in
theorem l08Kind_any (k m : Bool) (s3 s1 s2 s0 : ByteArray) (w : World) :
    Calls Tryz.prog 46 #[.bool k, .bool m, .string s3, .string s1, .string s2, .string s0] w fun e w' => e = .returned (.string (kindN k m s3 s1 s2 s0)) ∧ w = w' := by
  cases k <;> cases m
  all_goals
    go_enter Tryz.func46, Tryz.ntmps46
    go_wp2
    go_ret
    exact ⟨rfl, rfl⟩

set_option maxHeartbeats 2000000 in
theorem l08Degrees9_any (b : ByteArray) (w : World) :
    Calls Tryz.prog 45 #[.string b, .int .i64 9] w fun e w' => e = .returned (.string b) ∧ Below w.heap.size w w' := by
  go_enter Tryz.func45, Tryz.ntmps45
  go_wp2
  go_ret
  exact ⟨rfl, Below.refl _ _⟩
set_option maxHeartbeats 2000000 in
theorem l08Degrees2_any (b : ByteArray) (hb : b.size ≤ 100) (w : World) :
    Calls Tryz.prog 45 #[.string b, .int .i64 2] w fun e w' => e = .returned (.string (nmB b 2)) ∧ Below w.heap.size w w' := by
  have s1 : ¬ 9223372036854775807 < b.size + 1 := by omega
  have s2 : ¬ 9223372036854775807 < b.size + 1 + 1 := by omega
  have DC := Lib.hid (fun W => l01Dec_any 2 (by decide) W)
  have hdg : dgB 2 = 50 := rfl
  rw [hdg] at DC
  rw [show (((2 : Nat)) : Int) = 2 from rfl] at DC
  clear hb hdg
  go_enter Tryz.func45, Tryz.ntmps45
  go_wp2_with (go_at_call 69; refine (DC.out _).mono ?_; rintro e w1 ⟨rfl, hb1⟩)
  go_ret
  exact ⟨rfl, hb1⟩
set_option maxHeartbeats 2000000 in
theorem l08Degrees3_any (b : ByteArray) (hb : b.size ≤ 100) (w : World) :
    Calls Tryz.prog 45 #[.string b, .int .i64 3] w fun e w' => e = .returned (.string (nmB b 3)) ∧ Below w.heap.size w w' := by
  have s1 : ¬ 9223372036854775807 < b.size + 1 := by omega
  have s2 : ¬ 9223372036854775807 < b.size + 1 + 1 := by omega
  have DC := Lib.hid (fun W => l01Dec_any 3 (by decide) W)
  have hdg : dgB 3 = 51 := rfl
  rw [hdg] at DC
  rw [show (((3 : Nat)) : Int) = 3 from rfl] at DC
  clear hb hdg
  go_enter Tryz.func45, Tryz.ntmps45
  go_wp2_with (go_at_call 69; refine (DC.out _).mono ?_; rintro e w1 ⟨rfl, hb1⟩)
  go_ret
  exact ⟨rfl, hb1⟩
theorem l08Degrees_any (b : ByteArray) (hb : b.size ≤ 100) (d : Nat) (hd : d = 2 ∨ d = 3 ∨ d = 9) (w : World) :
    Calls Tryz.prog 45 #[.string b, .int .i64 (d : Int)] w fun e w' => e = .returned (.string (nmB b d)) ∧ Below w.heap.size w w' := by
  rcases hd with rfl | rfl | rfl
  · exact l08Degrees2_any b hb w
  · exact l08Degrees3_any b hb w
  · exact l08Degrees9_any b w

/-- The name, as the model tells it: of the classes, of what all functions are, of both degrees. -/
def nmS (cl : Nat) (u d c : Bool) (z o : Nat) : ByteArray :=
  if (u && bitN cl 3 == 1) = true then fourN cl ⟨#[73, 50]⟩ ⟨#[73, 48]⟩ ⟨#[73, 49]⟩ ⟨#[73]⟩
  else if (u && bitN cl 2 == 1) = true then ⟨#[78, 50]⟩
  else if u = true then ⟨#[78]⟩
  else if d = true then fourN cl ⟨#[86, 50]⟩ ⟨#[86, 48]⟩ ⟨#[86, 49]⟩ ⟨#[86]⟩
  else if c = true then fourN cl ⟨#[69, 50]⟩ ⟨#[69, 48]⟩ ⟨#[69, 49]⟩ ⟨#[69]⟩
  else if (bitN cl 4 == 1 && decide (cl % 4 = 3)) = true then ⟨#[76, 50]⟩
  else if (bitN cl 4 == 1 && bitN cl 2 == 1) = true then ⟨#[76, 51]⟩
  else if (bitN cl 4 == 1) = true then fourN cl ⟨#[76, 50]⟩ ⟨#[76, 48]⟩ ⟨#[76, 49]⟩ ⟨#[76]⟩
  else if (bitN cl 2 == 1 && bitN cl 3 == 1) = true then ⟨#[68, 50]⟩
  else if (bitN cl 2 == 1 && bitN cl 0 == 1) = true then ⟨#[68, 49]⟩
  else if (bitN cl 2 == 1) = true then ⟨#[68]⟩
  else if 2 ≤ z then nmB (kindN (bitN cl 0 == 1) (bitN cl 3 == 1) ⟨#[83, 48, 48]⟩ ⟨#[83, 48, 49]⟩ ⟨#[83, 48, 50]⟩ ⟨#[83, 48]⟩) z
  else if 2 ≤ o then nmB (kindN (bitN cl 1 == 1) (bitN cl 3 == 1) ⟨#[83, 49, 48]⟩ ⟨#[83, 49, 49]⟩ ⟨#[83, 49, 50]⟩ ⟨#[83, 49]⟩) o
  else if (bitN cl 3 == 1) = true then fourN cl ⟨#[77, 50]⟩ ⟨#[77, 48]⟩ ⟨#[77, 49]⟩ ⟨#[77]⟩
  else fourN cl ⟨#[82, 50]⟩ ⟨#[82, 48]⟩ ⟨#[82, 49]⟩ ⟨#[66, 70]⟩
def nmSame (cl : Nat) (u d c : Bool) (z o : Nat) : Bool := (nmS cl u d c z o).data.toList == (nmC (cl + 32 * u.toNat + 64 * d.toNat + 128 * c.toNat) z o).data.toList
theorem nm_all : ∀ cl < 32, ∀ u d c : Bool, ∀ z ∈ [0, 1, 2, 3, 9], ∀ o ∈ [0, 1, 2, 3, 9], nmSame cl u d c z o = true := by decide +kernel
theorem nm_same {cl : Nat} (hc : cl < 32) (u d c : Bool) {z o : Nat} (hz : degOk z) (ho : degOk o) : nmS cl u d c z o = nmC (cl + 32 * u.toNat + 64 * d.toNat + 128 * c.toNat) z o := by
  have h := nm_all cl hc u d c z (by unfold degOk at hz; simp; omega) o (by unfold degOk at ho; simp; omega)
  unfold nmSame at h
  have h2 := eq_of_beq h
  apply ByteArray.ext
  exact Array.toList_inj.1 h2
end Go.Proofs.YthjgkgknlecjlaaGreatDoor

/- MO12:
  FuncOfRows in both packages. -/
namespace Go.Proofs.YthjgkgknlecjlaaGreatDoor
open Go.RowKit
set_option linter.unusedVariables false
set_option linter.unusedSimpArgs false

theorem rows_nat {R : Nat} {xs : List Int} (h : rowsB R xs = true) : ∃ l : List Nat, xs = nL l ∧ ∀ o ∈ l, o < R := by
  unfold rowsB at h
  rw [List.all_eq_true] at h
  have hb : ∀ v ∈ xs, 0 ≤ v ∧ v ≤ (R : Int) - 1 := fun v hv => by simpa [inB] using h v hv
  refine ⟨xs.map Int.toNat, ?_, fun o ho => ?_⟩
  · unfold nL
    rw [List.map_map]
    conv => lhs; rw [← List.map_id xs]
    refine List.map_congr_left fun v hv => ?_
    have := (hb v hv).1
    simp; omega
  · obtain ⟨v, hv, rfl⟩ := List.mem_map.1 ho
    have := hb v hv
    omega

theorem abTo_nat {r : Nat} {l : List Nat} {i : Nat} (hi : i < l.length) {b : Bool} (hb : inR r (l[i]?.getD 0) = b) : ((abTo r l (i + 1)).toNat : Int) = if b = true then 1 else ((abTo r l i).toNat : Int) := by
  rw [abTo_succ hi, hb]
  cases b <;> simp

/-- The boxes of the program's FuncOfRows: the list, the answer. -/
theorem forBox (s : Value) (w : World) : ∃ W1, (w.alloc (.cells #[s] 62)).alloc (.cells #[.int .i64 0, .int .i64 0] 26) = W1 ∧ W1.cell? ⟨w.heap.size, 0, none⟩ = some s ∧
    (W1.cell? ⟨w.heap.size + 1, 0, none⟩ = some (.int .i64 0) ∧ W1.cell? ⟨w.heap.size + 1, 1, none⟩ = some (.int .i64 0)) ∧ (W1.frozen? ⟨w.heap.size + 1, 0, none⟩ = false ∧ W1.frozen? ⟨w.heap.size + 1, 1, none⟩ = false) ∧ Below w.heap.size w W1 :=
  ⟨_, rfl, by simp [go_sem], ⟨by simp [go_sem], by simp [go_sem]⟩, ⟨by simp [go_sem], by simp [go_sem]⟩, balloc (bnew _ _) _⟩

end Go.Proofs.YthjgkgknlecjlaaGreatDoor

/- CN4:
  Disjunctions, conjunctions, unary functions of the model. -/
namespace Go.Proofs.YthjgkgknlecjlaaGreatDoor
open Go.RowKit Go.Shelf
set_option linter.unusedVariables false
set_option linter.unusedSimpArgs false

/-- How many of the first k places have the digit 1. -/
def hitN (pl : List Nat) (i k : Nat) : Nat := ((pl.take k).filter fun p => bitN i p == 1).length
theorem hitN_yes {pl : List Nat} {i k : Nat} (hk : k < pl.length) (h : bitN i (pl[k]?.getD 0) = 1) : hitN pl i (k + 1) = hitN pl i k + 1 := by
  unfold hitN
  rw [List.getElem?_eq_getElem hk] at h
  rw [List.take_succ_eq_append_getElem hk, List.filter_append, List.length_append]
  simp at h
  simp [h]
theorem hitN_no {pl : List Nat} {i k : Nat} (hk : k < pl.length) (h : bitN i (pl[k]?.getD 0) ≠ 1) : hitN pl i (k + 1) = hitN pl i k := by
  unfold hitN
  rw [List.getElem?_eq_getElem hk] at h
  rw [List.take_succ_eq_append_getElem hk, List.filter_append, List.length_append]
  simp at h
  simp [h]
theorem hitN_le (pl : List Nat) (i k : Nat) : hitN pl i k ≤ k := by
  unfold hitN
  exact Nat.le_trans (List.length_filter_le _ _) (by rw [List.length_take]; omega)
theorem places_lt {E n p : Nat} (h : p ∈ placesN E n) : p < n := by
  unfold placesN at h
  exact List.mem_range.1 (List.mem_filter.1 h).1


set_option maxRecDepth 100000 in
set_option maxHeartbeats 4000000 in
theorem l08Joined_false {n : Int} {x R : Nat} (ok : FOk n x R) (w : World) :
    Calls Tryz.prog 42 #[.agg #[.int .i64 n, .int .i64 (x : Int)], .bool false] w fun e w' => e = .returned (.bool (jnD n x R)) ∧ Below w.heap.size w w' := by
  have n0 := ok.h0
  have n4 := ok.h4
  have r16 := ok.r16
  have hx := ok.hx
  have ALL := Lib.hid (fun W => l01All_is ok.h0 ok.h4 ok.he W)
  have HC := Lib.hid (esN_const ok)
  have ha := allN_rows ok.he
  obtain ⟨W1, hW1⟩ : ∃ W1, w.alloc (.cells #[.int .i64 n, .int .i64 (x : Int)] 26) = W1 := ⟨_, rfl⟩
  have p0 : W1.cell? ⟨w.heap.size, 0, none⟩ = some (.int .i64 n) := by rw [← hW1]; simp [go_sem]
  have p1 : W1.cell? ⟨w.heap.size, 1, none⟩ = some (.int .i64 (x : Int)) := by rw [← hW1]; simp [go_sem]
  have hB : Below w.heap.size w W1 := by rw [← hW1]; exact bnew _ _
  by_cases hx0 : x = 0
  · have hj : jnD n x R = true := by unfold jnD; rw [HC.out.2 (.inl hx0)]; rfl
    rw [hj]
    have g0 : ((x : Int) == 0) = true := by simp [hx0]
    clear hj hx0 ha hx
    go_enter Tryz.func42, Tryz.ntmps42
    go_wp2
    clear hW1
    go_quiet (fail)
    go_wp2
    go_ret
    exact ⟨rfl, below_drewN hB _⟩
  have g0 : ((x : Int) == 0) = false := by simp only [beq_eq_false_iff_ne, ne_eq]; omega
  by_cases hxa : x = 2 ^ R - 1
  · have hj : jnD n x R = true := by unfold jnD; rw [HC.out.2 (.inr (by rw [ha, hxa]))]; rfl
    rw [hj]
    have g1 : ((x : Int) == ((2 ^ R - 1 : Nat) : Int)) = true := by simp [hxa]
    clear hj hx0 ha hx hxa
    generalize ((2 ^ R - 1 : Nat) : Int) = top at ALL g1
    go_enter Tryz.func42, Tryz.ntmps42
    go_wp2
    clear hW1
    go_quiet (first | (go_at_call 25; exact quiet_eq (ALL.out _)))
    go_wp2
    go_ret
    exact ⟨rfl, below_drewN hB _⟩
  have g1 : ((x : Int) == ((2 ^ R - 1 : Nat) : Int)) = false := by simp only [beq_eq_false_iff_ne, ne_eq]; omega
  have hE0 : esN n x ≠ 0 := fun h => by
    rcases HC.out.1 h with h | h
    · exact hx0 h
    · rw [ha] at h; exact hxa (by omega)
  have hj : jnD n x R = allLt R fun r => bitN x r == (r &&& esN n x != 0).toNat := by
    unfold jnD
    rw [show (esN n x == 0) = false by simp [hE0]]
    rfl
  rw [hj]
  have hEl := esN_lt n x
  have RWS := Lib.hid (fun W => l01Rows_is ok.h0 ok.h4 ok.hR W)
  have AT := Lib.hid (fun i (hi : i < R) W => l01At_any n x i ok.hx (by omega) W)
  have ESS := Lib.hid (fun W => l01Essential_any ok W)
  rw [essK_places] at ESS
  have HIT : Hid (∀ i, i < R → decide ((0 : Int) < (hitN (placesN (esN n x) n.toNat) i (placesN (esN n x) n.toNat).length : Int)) = (i &&& esN n x != 0)) := Lib.hid fun i hi => by
    have h1 := places_hit n.toNat (by omega) (esN n x) hEl i (by rw [← ok.he]; exact hi)
    have h2 := places_some n.toNat (by omega) (esN n x) hEl i (by rw [← ok.he]; exact hi)
    have h3 := places_len n.toNat (by omega) (esN n x) hEl
    have e : hitN (placesN (esN n x) n.toNat) i (placesN (esN n x) n.toNat).length = sizeN (i &&& esN n x) := by unfold hitN; rw [List.take_length]; exact h1
    rw [e, ← h2.1]; simp only [decide_eq_decide]; omega
  have HPL : Hid (∀ p ∈ placesN (esN n x) n.toNat, p < 4) := Lib.hid fun p hp => by have := places_lt hp; omega
  have hLl : (placesN (esN n x) n.toNat).length ≤ 4 := by
    rw [places_len n.toNat (by omega) (esN n x) hEl]; exact sizeN_le _
  generalize placesN (esN n x) n.toNat = pl at ESS HIT HPL hLl
  generalize ((2 ^ R - 1 : Nat) : Int) = top at ALL g1
  generalize esN n x = E at HIT ⊢
  obtain ⟨L, hL⟩ : ∃ L, pl.length = L := ⟨_, rfl⟩
  have HY : Hid (∀ i k, k < L → bitN i (pl[k]?.getD 0) = 1 → hitN pl i (k + 1) = hitN pl i k + 1) := Lib.hid fun i k hk h => hitN_yes (by omega) h
  have HNo : Hid (∀ i k, k < L → bitN i (pl[k]?.getD 0) ≠ 1 → hitN pl i (k + 1) = hitN pl i k) := Lib.hid fun i k hk h => hitN_no (by omega) h
  have HP4 : Hid (∀ k, k < L → pl[k]?.getD 0 < 4) := Lib.hid fun k hk => HPL.out _ (by rw [List.getElem?_eq_getElem (by omega)]; exact List.getElem_mem _)
  have HLL := Lib.hid hL
  rw [hL] at HIT hLl
  clear HC ha hx0 hxa hE0 hj hEl hx hL HPL
  go_enter Tryz.func42, Tryz.ntmps42
  go_wp2
  clear hW1
  go_quiet (first | (go_at_call 25; exact quiet_eq (ALL.out _)))
  go_wp2_with (go_at_call 41; refine (ESS.out _).mono ?_; rintro e w5 ⟨s, rfl, hown, hb1⟩; obtain ⟨a, cap, rfl, HL⟩ := owns_open hown; rw [HLL.out] at HL ⊢; clear hown)
  have hN5 : Below W1.heap.size W1 w5 := bthen (below_drewN (Below.refl _ _) nq) hb1
  have d0 := kc hN5 p0
  have d1 := kc hN5 p1
  have hB5 := bthen hB hN5
  clear hb1 hN5 p0 p1 hB g0 g1 ALL ESS
  go_loopw [6] (fun i' wr => ∃ i : Nat, i ≤ R ∧ i' = .int .i64 i ∧ Hid (∀ r, r < i → (bitN x r == (r &&& E != 0).toNat) = true) ∧ Below w5.heap.size w5 wr) (fun i' _ => R - (intOf i').toNat)
  case atStart => exact ⟨0, Nat.zero_le _, rfl, Lib.hid (fun r hr => absurd hr (Nat.not_lt_zero _)), Below.refl _ _⟩
  case round =>
    obtain ⟨i, hi, rfl, HI, hN⟩ := hrel
    by_cases hlt : i < R
    · obtain ⟨wo, rfl⟩ : ∃ wo : World, wo = wr := ⟨_, rfl⟩
      have q0 := kc hN d0
      have q1 := kc hN d1
      have HA := Lib.hid (AT.out i hlt)
      have HH := Lib.hid (HIT.out i hlt)
      go_wp2_with (go_at_call 27; refine (RWS.out _).mono ?_; rintro e w' ⟨rfl, rfl⟩)
      go_loopw [7, 8] (fun c k' wr => ∃ k : Nat, k ≤ L ∧ k' = .int .i64 k ∧ c = .int .i64 (hitN pl i k) ∧ wo = wr) (fun _ k' _ => L - (intOf k').toNat)
      case atStart => exact ⟨0, Nat.zero_le _, rfl, rfl, rfl⟩
      case round =>
        obtain ⟨k, hk, rfl, rfl, rfl⟩ := hrel
        by_cases hk2 : k < L
        · obtain ⟨g, rfl, hg, hc⟩ := HL.out k hk2
          have hu := kc hN hc
          have hp := HP4.out k hk2
          have HYk := Lib.hid (HY.out i k hk2)
          have HNk := Lib.hid (HNo.out i k hk2)
          have hle := hitN_le pl i k
          generalize pl[k]?.getD 0 = p at hu hp HYk HNk
          have eu : IntKind.u64.wrap (p : Int) = (p : Int) := by simp [IntKind.wrap, IntKind.bits, IntKind.signed]; omega
          have HD := Lib.hid (digit_eq i p (by omega))
          clear hc
          by_cases hb1 : bitN i p = 1
          · have HYq := Lib.hid (HYk.out hb1)
            have hd : (bits .and .i64 ((i : Int) / 2 ^ p) 1 == 1) = true := by rw [HD.out, hb1]; rfl
            clear hb1 HYk HNk
            go_wp2
            go_roundw
            case rel => exact ⟨k + 1, by omega, by go_num, by rw [HYq.out]; go_num, by first | exact True.intro | rfl⟩
            case measure => simp [intOf]; omega
          · have HNq := Lib.hid (HNk.out hb1)
            have hd : (bits .and .i64 ((i : Int) / 2 ^ p) 1 == 1) = false := by
              rw [HD.out]
              have := bitN_le i p
              simp only [beq_eq_false_iff_ne, ne_eq]; omega
            clear hb1 HYk HNk
            go_wp2
            go_roundw
            case rel => exact ⟨k + 1, by omega, by go_num, by rw [HNq.out], by first | exact True.intro | rfl⟩
            case measure => simp [intOf]; omega
        · obtain rfl : k = L := by omega
          have hbl := bitN_le x i
          generalize ((hitN pl i k : Nat) : Int) = ci at HH ⊢
          have HHQ := HH.out
          cases hq : (i &&& E != 0)
          · rw [hq] at HHQ
            rcases (by omega : bitN x i = 0 ∨ bitN x i = 1) with hz | hz
            · have HIS : Hid (∀ r, r < i + 1 → (bitN x r == (r &&& E != 0).toNat) = true) := Lib.hid fun r hr => by
                by_cases e : r = i
                · rw [e, hq, hz]; rfl
                · exact HI.out r (by omega)
              have HA2 := Lib.hid (fun W => by have := HA.out W; rw [hz] at this; exact this)
              clear hz hq HA hbl
              go_wp2_with (go_at_call 37; refine (HA2.out _).mono ?_; rintro e w6 ⟨rfl, hb6⟩)
              go_roundw
              case rel => exact ⟨i + 1, by omega, by go_num, HIS, bthen hN hb6⟩
              case measure => simp [intOf]; omega
            · have HA2 := Lib.hid (fun W => by have := HA.out W; rw [hz] at this; exact this)
              have HF : Hid (allLt R (fun r => bitN x r == (r &&& E != 0).toNat) = false) := Lib.hid (by
                rw [← Bool.not_eq_true, allLt_iff]
                intro h
                have := h i hlt
                rw [hq, hz] at this
                cases this)
              clear hz hq HA hbl
              go_wp2_with (go_at_call 37; refine (HA2.out _).mono ?_; rintro e w6 ⟨rfl, hb6⟩)
              go_ret
              exact ⟨by rw [HF.out]; rfl, bthen (bthen hB5 hN) hb6⟩
          · rw [hq] at HHQ
            rcases (by omega : bitN x i = 0 ∨ bitN x i = 1) with hz | hz
            · have HA2 := Lib.hid (fun W => by have := HA.out W; rw [hz] at this; exact this)
              have HF : Hid (allLt R (fun r => bitN x r == (r &&& E != 0).toNat) = false) := Lib.hid (by
                rw [← Bool.not_eq_true, allLt_iff]
                intro h
                have := h i hlt
                rw [hq, hz] at this
                cases this)
              clear hz hq HA hbl
              go_wp2_with (go_at_call 37; refine (HA2.out _).mono ?_; rintro e w6 ⟨rfl, hb6⟩)
              go_ret
              exact ⟨by rw [HF.out]; rfl, bthen (bthen hB5 hN) hb6⟩
            · have HIS : Hid (∀ r, r < i + 1 → (bitN x r == (r &&& E != 0).toNat) = true) := Lib.hid fun r hr => by
                by_cases e : r = i
                · rw [e, hq, hz]; rfl
                · exact HI.out r (by omega)
              have HA2 := Lib.hid (fun W => by have := HA.out W; rw [hz] at this; exact this)
              clear hz hq HA hbl
              go_wp2_with (go_at_call 37; refine (HA2.out _).mono ?_; rintro e w6 ⟨rfl, hb6⟩)
              go_roundw
              case rel => exact ⟨i + 1, by omega, by go_num, HIS, bthen hN hb6⟩
              case measure => simp [intOf]; omega
    · obtain rfl : i = R := by omega
      have q0 := kc hN d0
      have q1 := kc hN d1
      have HF : Hid (allLt i (fun r => bitN x r == (r &&& E != 0).toNat) = true) := Lib.hid (by rw [allLt_iff]; exact HI.out)
      go_wp2_with (go_at_call 27; refine (RWS.out _).mono ?_; rintro e w' ⟨rfl, rfl⟩)
      go_ret
      exact ⟨by rw [HF.out]; rfl, bthen hB5 hN⟩

set_option maxRecDepth 100000 in
set_option maxHeartbeats 4000000 in
theorem l08Joined_true {n : Int} {x R : Nat} (ok : FOk n x R) (w : World) :
    Calls Tryz.prog 42 #[.agg #[.int .i64 n, .int .i64 (x : Int)], .bool true] w fun e w' => e = .returned (.bool (jnC n x R)) ∧ Below w.heap.size w w' := by
  have n0 := ok.h0
  have n4 := ok.h4
  have r16 := ok.r16
  have hx := ok.hx
  have ALL := Lib.hid (fun W => l01All_is ok.h0 ok.h4 ok.he W)
  have HC := Lib.hid (esN_const ok)
  have ha := allN_rows ok.he
  obtain ⟨W1, hW1⟩ : ∃ W1, w.alloc (.cells #[.int .i64 n, .int .i64 (x : Int)] 26) = W1 := ⟨_, rfl⟩
  have p0 : W1.cell? ⟨w.heap.size, 0, none⟩ = some (.int .i64 n) := by rw [← hW1]; simp [go_sem]
  have p1 : W1.cell? ⟨w.heap.size, 1, none⟩ = some (.int .i64 (x : Int)) := by rw [← hW1]; simp [go_sem]
  have hB : Below w.heap.size w W1 := by rw [← hW1]; exact bnew _ _
  by_cases hx0 : x = 0
  · have hj : jnC n x R = true := by unfold jnC; rw [HC.out.2 (.inl hx0)]; rfl
    rw [hj]
    have g0 : ((x : Int) == 0) = true := by simp [hx0]
    clear hj hx0 ha hx
    go_enter Tryz.func42, Tryz.ntmps42
    go_wp2
    clear hW1
    go_quiet (fail)
    go_wp2
    go_ret
    exact ⟨rfl, below_drewN hB _⟩
  have g0 : ((x : Int) == 0) = false := by simp only [beq_eq_false_iff_ne, ne_eq]; omega
  by_cases hxa : x = 2 ^ R - 1
  · have hj : jnC n x R = true := by unfold jnC; rw [HC.out.2 (.inr (by rw [ha, hxa]))]; rfl
    rw [hj]
    have g1 : ((x : Int) == ((2 ^ R - 1 : Nat) : Int)) = true := by simp [hxa]
    clear hj hx0 ha hx hxa
    generalize ((2 ^ R - 1 : Nat) : Int) = top at ALL g1
    go_enter Tryz.func42, Tryz.ntmps42
    go_wp2
    clear hW1
    go_quiet (first | (go_at_call 25; exact quiet_eq (ALL.out _)))
    go_wp2
    go_ret
    exact ⟨rfl, below_drewN hB _⟩
  have g1 : ((x : Int) == ((2 ^ R - 1 : Nat) : Int)) = false := by simp only [beq_eq_false_iff_ne, ne_eq]; omega
  have hE0 : esN n x ≠ 0 := fun h => by
    rcases HC.out.1 h with h | h
    · exact hx0 h
    · rw [ha] at h; exact hxa (by omega)
  have hj : jnC n x R = allLt R fun r => bitN x r == (r &&& esN n x == esN n x).toNat := by
    unfold jnC
    rw [show (esN n x == 0) = false by simp [hE0]]
    rfl
  rw [hj]
  have hEl := esN_lt n x
  have RWS := Lib.hid (fun W => l01Rows_is ok.h0 ok.h4 ok.hR W)
  have AT := Lib.hid (fun i (hi : i < R) W => l01At_any n x i ok.hx (by omega) W)
  have ESS := Lib.hid (fun W => l01Essential_any ok W)
  rw [essK_places] at ESS
  have HIT : Hid (∀ i, i < R → ((hitN (placesN (esN n x) n.toNat) i (placesN (esN n x) n.toNat).length : Int) == ((placesN (esN n x) n.toNat).length : Int)) = (i &&& esN n x == esN n x)) := Lib.hid fun i hi => by
    have h1 := places_hit n.toNat (by omega) (esN n x) hEl i (by rw [← ok.he]; exact hi)
    have h2 := places_some n.toNat (by omega) (esN n x) hEl i (by rw [← ok.he]; exact hi)
    have h3 := places_len n.toNat (by omega) (esN n x) hEl
    have e : hitN (placesN (esN n x) n.toNat) i (placesN (esN n x) n.toNat).length = sizeN (i &&& esN n x) := by unfold hitN; rw [List.take_length]; exact h1
    rw [e, ← h2.2, h3]; rw [Bool.eq_iff_iff, beq_iff_eq, beq_iff_eq]; omega
  have HPL : Hid (∀ p ∈ placesN (esN n x) n.toNat, p < 4) := Lib.hid fun p hp => by have := places_lt hp; omega
  have hLl : (placesN (esN n x) n.toNat).length ≤ 4 := by
    rw [places_len n.toNat (by omega) (esN n x) hEl]; exact sizeN_le _
  generalize placesN (esN n x) n.toNat = pl at ESS HIT HPL hLl
  generalize ((2 ^ R - 1 : Nat) : Int) = top at ALL g1
  generalize esN n x = E at HIT ⊢
  obtain ⟨L, hL⟩ : ∃ L, pl.length = L := ⟨_, rfl⟩
  have HY : Hid (∀ i k, k < L → bitN i (pl[k]?.getD 0) = 1 → hitN pl i (k + 1) = hitN pl i k + 1) := Lib.hid fun i k hk h => hitN_yes (by omega) h
  have HNo : Hid (∀ i k, k < L → bitN i (pl[k]?.getD 0) ≠ 1 → hitN pl i (k + 1) = hitN pl i k) := Lib.hid fun i k hk h => hitN_no (by omega) h
  have HP4 : Hid (∀ k, k < L → pl[k]?.getD 0 < 4) := Lib.hid fun k hk => HPL.out _ (by rw [List.getElem?_eq_getElem (by omega)]; exact List.getElem_mem _)
  have HLL := Lib.hid hL
  rw [hL] at HIT hLl
  clear HC ha hx0 hxa hE0 hj hEl hx hL HPL
  go_enter Tryz.func42, Tryz.ntmps42
  go_wp2
  clear hW1
  go_quiet (first | (go_at_call 25; exact quiet_eq (ALL.out _)))
  go_wp2_with (go_at_call 41; refine (ESS.out _).mono ?_; rintro e w5 ⟨s, rfl, hown, hb1⟩; obtain ⟨a, cap, rfl, HL⟩ := owns_open hown; rw [HLL.out] at HL ⊢; clear hown)
  have hN5 : Below W1.heap.size W1 w5 := bthen (below_drewN (Below.refl _ _) nq) hb1
  have d0 := kc hN5 p0
  have d1 := kc hN5 p1
  have hB5 := bthen hB hN5
  clear hb1 hN5 p0 p1 hB g0 g1 ALL ESS
  go_loopw [6] (fun i' wr => ∃ i : Nat, i ≤ R ∧ i' = .int .i64 i ∧ Hid (∀ r, r < i → (bitN x r == (r &&& E == E).toNat) = true) ∧ Below w5.heap.size w5 wr) (fun i' _ => R - (intOf i').toNat)
  case atStart => exact ⟨0, Nat.zero_le _, rfl, Lib.hid (fun r hr => absurd hr (Nat.not_lt_zero _)), Below.refl _ _⟩
  case round =>
    obtain ⟨i, hi, rfl, HI, hN⟩ := hrel
    by_cases hlt : i < R
    · obtain ⟨wo, rfl⟩ : ∃ wo : World, wo = wr := ⟨_, rfl⟩
      have q0 := kc hN d0
      have q1 := kc hN d1
      have HA := Lib.hid (AT.out i hlt)
      have HH := Lib.hid (HIT.out i hlt)
      go_wp2_with (go_at_call 27; refine (RWS.out _).mono ?_; rintro e w' ⟨rfl, rfl⟩)
      go_loopw [7, 8] (fun c k' wr => ∃ k : Nat, k ≤ L ∧ k' = .int .i64 k ∧ c = .int .i64 (hitN pl i k) ∧ wo = wr) (fun _ k' _ => L - (intOf k').toNat)
      case atStart => exact ⟨0, Nat.zero_le _, rfl, rfl, rfl⟩
      case round =>
        obtain ⟨k, hk, rfl, rfl, rfl⟩ := hrel
        by_cases hk2 : k < L
        · obtain ⟨g, rfl, hg, hc⟩ := HL.out k hk2
          have hu := kc hN hc
          have hp := HP4.out k hk2
          have HYk := Lib.hid (HY.out i k hk2)
          have HNk := Lib.hid (HNo.out i k hk2)
          have hle := hitN_le pl i k
          generalize pl[k]?.getD 0 = p at hu hp HYk HNk
          have eu : IntKind.u64.wrap (p : Int) = (p : Int) := by simp [IntKind.wrap, IntKind.bits, IntKind.signed]; omega
          have HD := Lib.hid (digit_eq i p (by omega))
          clear hc
          by_cases hb1 : bitN i p = 1
          · have HYq := Lib.hid (HYk.out hb1)
            have hd : (bits .and .i64 ((i : Int) / 2 ^ p) 1 == 1) = true := by rw [HD.out, hb1]; rfl
            clear hb1 HYk HNk
            go_wp2
            go_roundw
            case rel => exact ⟨k + 1, by omega, by go_num, by rw [HYq.out]; go_num, by first | exact True.intro | rfl⟩
            case measure => simp [intOf]; omega
          · have HNq := Lib.hid (HNk.out hb1)
            have hd : (bits .and .i64 ((i : Int) / 2 ^ p) 1 == 1) = false := by
              rw [HD.out]
              have := bitN_le i p
              simp only [beq_eq_false_iff_ne, ne_eq]; omega
            clear hb1 HYk HNk
            go_wp2
            go_roundw
            case rel => exact ⟨k + 1, by omega, by go_num, by rw [HNq.out], by first | exact True.intro | rfl⟩
            case measure => simp [intOf]; omega
        · obtain rfl : k = L := by omega
          have hbl := bitN_le x i
          generalize ((hitN pl i k : Nat) : Int) = ci at HH ⊢
          have HHQ := HH.out
          cases hq : (i &&& E == E)
          · rw [hq] at HHQ
            rcases (by omega : bitN x i = 0 ∨ bitN x i = 1) with hz | hz
            · have HIS : Hid (∀ r, r < i + 1 → (bitN x r == (r &&& E == E).toNat) = true) := Lib.hid fun r hr => by
                by_cases e : r = i
                · rw [e, hq, hz]; rfl
                · exact HI.out r (by omega)
              have HA2 := Lib.hid (fun W => by have := HA.out W; rw [hz] at this; exact this)
              clear hz hq HA hbl
              go_wp2_with (go_at_call 37; refine (HA2.out _).mono ?_; rintro e w6 ⟨rfl, hb6⟩)
              go_roundw
              case rel => exact ⟨i + 1, by omega, by go_num, HIS, bthen hN hb6⟩
              case measure => simp [intOf]; omega
            · have HA2 := Lib.hid (fun W => by have := HA.out W; rw [hz] at this; exact this)
              have HF : Hid (allLt R (fun r => bitN x r == (r &&& E == E).toNat) = false) := Lib.hid (by
                rw [← Bool.not_eq_true, allLt_iff]
                intro h
                have := h i hlt
                rw [hq, hz] at this
                cases this)
              clear hz hq HA hbl
              go_wp2_with (go_at_call 37; refine (HA2.out _).mono ?_; rintro e w6 ⟨rfl, hb6⟩)
              go_ret
              exact ⟨by rw [HF.out]; rfl, bthen (bthen hB5 hN) hb6⟩
          · rw [hq] at HHQ
            rcases (by omega : bitN x i = 0 ∨ bitN x i = 1) with hz | hz
            · have HA2 := Lib.hid (fun W => by have := HA.out W; rw [hz] at this; exact this)
              have HF : Hid (allLt R (fun r => bitN x r == (r &&& E == E).toNat) = false) := Lib.hid (by
                rw [← Bool.not_eq_true, allLt_iff]
                intro h
                have := h i hlt
                rw [hq, hz] at this
                cases this)
              clear hz hq HA hbl
              go_wp2_with (go_at_call 37; refine (HA2.out _).mono ?_; rintro e w6 ⟨rfl, hb6⟩)
              go_ret
              exact ⟨by rw [HF.out]; rfl, bthen (bthen hB5 hN) hb6⟩
            · have HIS : Hid (∀ r, r < i + 1 → (bitN x r == (r &&& E == E).toNat) = true) := Lib.hid fun r hr => by
                by_cases e : r = i
                · rw [e, hq, hz]; rfl
                · exact HI.out r (by omega)
              have HA2 := Lib.hid (fun W => by have := HA.out W; rw [hz] at this; exact this)
              clear hz hq HA hbl
              go_wp2_with (go_at_call 37; refine (HA2.out _).mono ?_; rintro e w6 ⟨rfl, hb6⟩)
              go_roundw
              case rel => exact ⟨i + 1, by omega, by go_num, HIS, bthen hN hb6⟩
              case measure => simp [intOf]; omega
    · obtain rfl : i = R := by omega
      have q0 := kc hN d0
      have q1 := kc hN d1
      have HF : Hid (allLt i (fun r => bitN x r == (r &&& E == E).toNat) = true) := Lib.hid (by rw [allLt_iff]; exact HI.out)
      go_wp2_with (go_at_call 27; refine (RWS.out _).mono ?_; rintro e w' ⟨rfl, rfl⟩)
      go_ret
      exact ⟨by rw [HF.out]; rfl, bthen hB5 hN⟩

end Go.Proofs.YthjgkgknlecjlaaGreatDoor

/- CN9:
  Degrees of the model. -/
namespace Go.Proofs.YthjgkgknlecjlaaGreatDoor
open Go.RowKit Go.Shelf
set_option linter.unusedVariables false
set_option linter.unusedSimpArgs false

/-- What stands for a row: for 0 the row of the other arguments. -/
def ownR (c R r : Nat) : Nat := if c = 0 then R - 1 - r else r
theorem ownR_lt {c R r : Nat} (h : r < R) : ownR c R r < R := by unfold ownR; split <;> omega
def valL (x R c : Nat) : List Nat := (List.range R).filter fun r => bitN x r == c
theorem mem_valL {x R c r : Nat} : r ∈ valL x R c ↔ r < R ∧ bitN x r = c := by simp [valL]
theorem dgN_val {x R c : Nat} (hc : c ≤ 1) : dgN x R c = degT ((valL x R c).map (ownR c R)) (R - 1) := by
  unfold dgN
  apply degT_mem
  intro r
  rw [mem_truL, List.mem_map]
  rcases (by omega : c = 0 ∨ c = 1) with rfl | rfl
  · constructor
    · rintro ⟨h1, h2⟩
      rw [if_pos rfl, dualX_bit h1] at h2
      have := bitN_le x (R - 1 - r)
      exact ⟨R - 1 - r, mem_valL.2 ⟨by omega, by omega⟩, by unfold ownR; rw [if_pos rfl]; omega⟩
    · rintro ⟨q, hq, rfl⟩
      obtain ⟨h1, h2⟩ := mem_valL.1 hq
      unfold ownR
      rw [if_pos rfl]
      refine ⟨by omega, ?_⟩
      rw [if_pos rfl, dualX_bit (by omega), show R - 1 - (R - 1 - q) = q by omega, h2]
  · constructor
    · rintro ⟨h1, h2⟩
      rw [if_neg (by decide)] at h2
      exact ⟨r, mem_valL.2 ⟨h1, h2⟩, by unfold ownR; rw [if_neg (by decide)]⟩
    · rintro ⟨q, hq, rfl⟩
      obtain ⟨h1, h2⟩ := mem_valL.1 hq
      unfold ownR
      rw [if_neg (by decide)]
      exact ⟨h1, by rw [if_neg (by decide)]; exact h2⟩

theorem apt_step {l : List Nat} {c R i k m : Nat} (hi : i < l.length) : aptL ((l.map (ownR c R)).drop i) (k + 1) m = (aptL ((l.map (ownR c R)).drop (i + 1)) k (m &&& ownR c R (l[i]?.getD 0)) && aptL ((l.map (ownR c R)).drop (i + 1)) (k + 1) m) := by
  have h : i < (l.map (ownR c R)).length := by rw [List.length_map]; exact hi
  rw [List.drop_eq_getElem_cons h, aptL, List.getElem_map, List.getElem?_eq_getElem hi]
  rfl

def AptSaid (n : Int) (R : Nat) (s : Value) (l : List Nat) (c k : Nat) : Prop := ∀ (base fr m : Nat) (w : World), fr ≤ l.length → m < 16 → Owns w base s (nL l) →
  Calls Tryz.prog 68 #[s, .int .i64 n, .int .i64 (c : Int), .int .i64 (k : Int), .int .i64 (fr : Int), .int .i64 (m : Int)] w fun e w' => e = .returned (.bool (aptL ((l.map (ownR c R)).drop fr) k m)) ∧ w = w'

set_option maxHeartbeats 1000000 in
theorem apart_zero (n : Int) (R : Nat) (s : Value) (l : List Nat) (c : Nat) : AptSaid n R s l c 0 := by
  intro base fr m w hfr hm ho
  obtain ⟨a, cap, rfl, _⟩ := owns_open ho
  have e : aptL ((l.map (ownR c R)).drop fr) 0 m = (m != 0) := by
    cases (l.map (ownR c R)).drop fr <;> rfl
  rw [e]
  generalize l.length = L
  by_cases h0 : m = 0
  · have hd : ((m : Int) != 0) = false := by simp [h0]
    rw [show (m != 0) = false by simp [h0]]
    clear h0 ho e hm hfr
    generalize (m : Int) = mi at hd ⊢
    go_enter Tryz.func68, Tryz.ntmps68
    go_wp2
    go_ret
    exact ⟨by rw [← hd]; rfl, rfl⟩
  · have hd : ((m : Int) != 0) = true := by simp only [bne_iff_ne, ne_eq]; omega
    rw [show (m != 0) = true by simp [h0]]
    clear h0 ho e hm hfr
    generalize (m : Int) = mi at hd ⊢
    go_enter Tryz.func68, Tryz.ntmps68
    go_wp2
    go_ret
    exact ⟨by rw [← hd]; rfl, rfl⟩

set_option maxRecDepth 100000 in
set_option maxHeartbeats 4000000 in
theorem apart_step0 {n : Int} {R : Nat} (h0 : 0 ≤ n) (h4 : n ≤ 4) (r0 : 0 < R) (r16 : R ≤ 16) (hR : Hid (rowsN n = (R : Int))) {s : Value} {l : List Nat} (hl : l.length ≤ 16) (hlt : ∀ r ∈ l, r < R) (k : Nat) (hk : k < 4) (ih : AptSaid n R s l 0 k) : AptSaid n R s l 0 (k + 1) := by
  intro base fr m w hfr hm ho
  have RWS := Lib.hid (fun W => l01Rows_is h0 h4 hR W)
  have IH := Lib.hid (fun fr m h1 h2 => ih base fr m w h1 h2 ho)
  obtain ⟨a, cap, rfl, HL⟩ := owns_open ho
  have HS : Hid (∀ i, i < l.length → aptL ((l.map (ownR 0 R)).drop i) (k + 1) m = (aptL ((l.map (ownR 0 R)).drop (i + 1)) k (m &&& ownR 0 R (l[i]?.getD 0)) && aptL ((l.map (ownR 0 R)).drop (i + 1)) (k + 1) m)) := Lib.hid fun i hi => apt_step hi
  have HM : Hid (∀ i, i < l.length → l[i]?.getD 0 < R) := Lib.hid fun i hi => hlt _ (by rw [List.getElem?_eq_getElem hi]; exact List.getElem_mem _)
  have HE : Hid (aptL ((l.map (ownR 0 R)).drop l.length) (k + 1) m = true) := Lib.hid (by rw [List.drop_eq_nil_of_le (by rw [List.length_map]; exact Nat.le_refl _)]; rfl)
  have HG := Lib.hid (rfl : aptL ((l.map (ownR 0 R)).drop fr) (k + 1) m = aptL ((l.map (ownR 0 R)).drop fr) (k + 1) m)
  generalize l.map (ownR 0 R) = q at HS HE IH HG ⊢
  generalize hres : aptL (q.drop fr) (k + 1) m = res
  have HRES := Lib.hid hres
  clear hres HG ho ih
  obtain ⟨L, hL⟩ : ∃ L, l.length = L := ⟨_, rfl⟩
  rw [hL] at HL HS HM HE IH hl hfr ⊢
  clear hL hlt
  have e1 : IntKind.i64.wrap ((k : Int) + 1 - 1) = (k : Int) := by rw [show (k : Int) + 1 - 1 = (k : Int) by omega]; exact wrap64_small (x := (k : Int)) (by omega) (by omega)
  have ek : (((k + 1 : Nat) : Int)) = (k : Int) + 1 := by omega
  rw [ek, show (((0 : Nat)) : Int) = 0 from rfl]
  clear ek
  have e3 : (((k : Int) + 1) == 0) = false := by simp only [beq_eq_false_iff_ne, ne_eq]; omega
  go_enter Tryz.func68, Tryz.ntmps68
  go_wp2
  go_loopw [13] (fun i' wr => ∃ i : Nat, i ≤ L ∧ fr ≤ i ∧ i' = .int .i64 i ∧ Hid (aptL (q.drop i) (k + 1) m = res) ∧ w = wr) (fun i' _ => L - (intOf i').toNat)
  case atStart => exact ⟨fr, hfr, Nat.le_refl _, rfl, HRES, rfl⟩
  case round =>
    obtain ⟨i, hi, hfi, rfl, HI, rfl⟩ := hrel
    by_cases hlt : i < L
    · obtain ⟨g, rfl, hg, hc⟩ := HL.out i hlt
      have hm1 := HM.out i hlt
      have HSi := Lib.hid (HS.out i hlt)
      generalize l[i]?.getD 0 = r at hc hm1 HSi
      have er := wrap64_small (x := (R : Int) - 1 - (r : Int)) (by omega) (by omega)
      have er2 := wrap64_small (x := (R : Int) - 1) (by omega) (by omega)
      have eo : (ownR 0 R r : Nat) = R - 1 - r := by unfold ownR; simp
      have hle : m &&& ownR 0 R r < 16 := Nat.lt_of_le_of_lt Nat.and_le_left hm
      have IHi := Lib.hid (IH.out (i + 1) (m &&& ownR 0 R r) (by omega) hle)
      have ha := and_int m (ownR 0 R r) (by omega) (by have := ownR_lt (c := 0) hm1; omega)
      have ec : ((ownR 0 R r : Nat) : Int) = (R : Int) - 1 - (r : Int) := by first | (rw [eo]; done) | (rw [eo]; omega)
      rw [ec] at ha
      generalize m &&& ownR 0 R r = u at IHi HSi ha
      have ei : (((i + 1 : Nat) : Int)) = (i : Int) + 1 := by omega
      rw [ei] at IHi
      clear hle eo ec ei
      cases hap : aptL (q.drop (i + 1)) k u
      · have HF : Hid (res = false) := Lib.hid (by rw [← HI.out, HSi.out, hap]; rfl)
        rw [hap] at IHi
        clear hap
        go_wp2_with (first
          | (go_at_call 27; refine (RWS.out _).mono ?_; rintro e w' ⟨rfl, rfl⟩)
          | (go_at_call 68; refine IHi.out.mono ?_; rintro e w' ⟨rfl, rfl⟩))
        go_ret
        exact ⟨by rw [HF.out]; rfl, rfl⟩
      · have HI2 : Hid (aptL (q.drop (i + 1)) (k + 1) m = res) := Lib.hid (by rw [← HI.out, HSi.out, hap]; rfl)
        rw [hap] at IHi
        clear hap
        go_wp2_with (first
          | (go_at_call 27; refine (RWS.out _).mono ?_; rintro e w' ⟨rfl, rfl⟩)
          | (go_at_call 68; refine IHi.out.mono ?_; rintro e w' ⟨rfl, rfl⟩))
        go_roundw
        case rel => exact ⟨i + 1, by omega, by omega, by go_num, HI2, by first | exact True.intro | rfl⟩
        case measure => simp [intOf]; omega
    · obtain rfl : i = L := by omega
      have HT : Hid (res = true) := Lib.hid (by rw [← HI.out, HE.out])
      go_wp2
      go_ret
      exact ⟨by rw [HT.out]; rfl, rfl⟩

theorem apart0 {n : Int} {R : Nat} (h0 : 0 ≤ n) (h4 : n ≤ 4) (r0 : 0 < R) (r16 : R ≤ 16) (hR : Hid (rowsN n = (R : Int))) {s : Value} {l : List Nat} (hl : l.length ≤ 16) (hlt : ∀ r ∈ l, r < R) : ∀ k, k ≤ 4 → AptSaid n R s l 0 k
  | 0, _ => apart_zero n R s l 0
  | k + 1, h => apart_step0 h0 h4 r0 r16 hR hl hlt k (by omega) (apart0 h0 h4 r0 r16 hR hl hlt k (by omega))


set_option maxRecDepth 100000 in
set_option maxHeartbeats 4000000 in
theorem apart_step1 {n : Int} {R : Nat} (h0 : 0 ≤ n) (h4 : n ≤ 4) (r0 : 0 < R) (r16 : R ≤ 16) (hR : Hid (rowsN n = (R : Int))) {s : Value} {l : List Nat} (hl : l.length ≤ 16) (hlt : ∀ r ∈ l, r < R) (k : Nat) (hk : k < 4) (ih : AptSaid n R s l 1 k) : AptSaid n R s l 1 (k + 1) := by
  intro base fr m w hfr hm ho
  have RWS := Lib.hid (fun W => l01Rows_is h0 h4 hR W)
  have IH := Lib.hid (fun fr m h1 h2 => ih base fr m w h1 h2 ho)
  obtain ⟨a, cap, rfl, HL⟩ := owns_open ho
  have HS : Hid (∀ i, i < l.length → aptL ((l.map (ownR 1 R)).drop i) (k + 1) m = (aptL ((l.map (ownR 1 R)).drop (i + 1)) k (m &&& ownR 1 R (l[i]?.getD 0)) && aptL ((l.map (ownR 1 R)).drop (i + 1)) (k + 1) m)) := Lib.hid fun i hi => apt_step hi
  have HM : Hid (∀ i, i < l.length → l[i]?.getD 0 < R) := Lib.hid fun i hi => hlt _ (by rw [List.getElem?_eq_getElem hi]; exact List.getElem_mem _)
  have HE : Hid (aptL ((l.map (ownR 1 R)).drop l.length) (k + 1) m = true) := Lib.hid (by rw [List.drop_eq_nil_of_le (by rw [List.length_map]; exact Nat.le_refl _)]; rfl)
  have HG := Lib.hid (rfl : aptL ((l.map (ownR 1 R)).drop fr) (k + 1) m = aptL ((l.map (ownR 1 R)).drop fr) (k + 1) m)
  generalize l.map (ownR 1 R) = q at HS HE IH HG ⊢
  generalize hres : aptL (q.drop fr) (k + 1) m = res
  have HRES := Lib.hid hres
  clear hres HG ho ih
  obtain ⟨L, hL⟩ : ∃ L, l.length = L := ⟨_, rfl⟩
  rw [hL] at HL HS HM HE IH hl hfr ⊢
  clear hL hlt
  have e1 : IntKind.i64.wrap ((k : Int) + 1 - 1) = (k : Int) := by rw [show (k : Int) + 1 - 1 = (k : Int) by omega]; exact wrap64_small (x := (k : Int)) (by omega) (by omega)
  have ek : (((k + 1 : Nat) : Int)) = (k : Int) + 1 := by omega
  rw [ek, show (((1 : Nat)) : Int) = 1 from rfl]
  clear ek
  have e3 : (((k : Int) + 1) == 0) = false := by simp only [beq_eq_false_iff_ne, ne_eq]; omega
  go_enter Tryz.func68, Tryz.ntmps68
  go_wp2
  go_loopw [13] (fun i' wr => ∃ i : Nat, i ≤ L ∧ fr ≤ i ∧ i' = .int .i64 i ∧ Hid (aptL (q.drop i) (k + 1) m = res) ∧ w = wr) (fun i' _ => L - (intOf i').toNat)
  case atStart => exact ⟨fr, hfr, Nat.le_refl _, rfl, HRES, rfl⟩
  case round =>
    obtain ⟨i, hi, hfi, rfl, HI, rfl⟩ := hrel
    by_cases hlt : i < L
    · obtain ⟨g, rfl, hg, hc⟩ := HL.out i hlt
      have hm1 := HM.out i hlt
      have HSi := Lib.hid (HS.out i hlt)
      generalize l[i]?.getD 0 = r at hc hm1 HSi
      have er := wrap64_small (x := (R : Int) - 1 - (r : Int)) (by omega) (by omega)
      have er2 := wrap64_small (x := (R : Int) - 1) (by omega) (by omega)
      have eo : (ownR 1 R r : Nat) = r := by unfold ownR; simp
      have hle : m &&& ownR 1 R r < 16 := Nat.lt_of_le_of_lt Nat.and_le_left hm
      have IHi := Lib.hid (IH.out (i + 1) (m &&& ownR 1 R r) (by omega) hle)
      have ha := and_int m (ownR 1 R r) (by omega) (by have := ownR_lt (c := 1) hm1; omega)
      have ec : ((ownR 1 R r : Nat) : Int) = (r : Int) := by first | (rw [eo]; done) | (rw [eo]; omega)
      rw [ec] at ha
      generalize m &&& ownR 1 R r = u at IHi HSi ha
      have ei : (((i + 1 : Nat) : Int)) = (i : Int) + 1 := by omega
      rw [ei] at IHi
      clear hle eo ec ei
      cases hap : aptL (q.drop (i + 1)) k u
      · have HF : Hid (res = false) := Lib.hid (by rw [← HI.out, HSi.out, hap]; rfl)
        rw [hap] at IHi
        clear hap
        go_wp2_with (first
          | (go_at_call 27; refine (RWS.out _).mono ?_; rintro e w' ⟨rfl, rfl⟩)
          | (go_at_call 68; refine IHi.out.mono ?_; rintro e w' ⟨rfl, rfl⟩))
        go_ret
        exact ⟨by rw [HF.out]; rfl, rfl⟩
      · have HI2 : Hid (aptL (q.drop (i + 1)) (k + 1) m = res) := Lib.hid (by rw [← HI.out, HSi.out, hap]; rfl)
        rw [hap] at IHi
        clear hap
        go_wp2_with (first
          | (go_at_call 27; refine (RWS.out _).mono ?_; rintro e w' ⟨rfl, rfl⟩)
          | (go_at_call 68; refine IHi.out.mono ?_; rintro e w' ⟨rfl, rfl⟩))
        go_roundw
        case rel => exact ⟨i + 1, by omega, by omega, by go_num, HI2, by first | exact True.intro | rfl⟩
        case measure => simp [intOf]; omega
    · obtain rfl : i = L := by omega
      have HT : Hid (res = true) := Lib.hid (by rw [← HI.out, HE.out])
      go_wp2
      go_ret
      exact ⟨by rw [HT.out]; rfl, rfl⟩

theorem apart1 {n : Int} {R : Nat} (h0 : 0 ≤ n) (h4 : n ≤ 4) (r0 : 0 < R) (r16 : R ≤ 16) (hR : Hid (rowsN n = (R : Int))) {s : Value} {l : List Nat} (hl : l.length ≤ 16) (hlt : ∀ r ∈ l, r < R) : ∀ k, k ≤ 4 → AptSaid n R s l 1 k
  | 0, _ => apart_zero n R s l 1
  | k + 1, h => apart_step1 h0 h4 r0 r16 hR hl hlt k (by omega) (apart1 h0 h4 r0 r16 hR hl hlt k (by omega))


end Go.Proofs.YthjgkgknlecjlaaGreatDoor

/- CN10:
  SeparatingDegree in both packages. -/
namespace Go.Proofs.YthjgkgknlecjlaaGreatDoor
open Go.RowKit Go.Shelf
set_option linter.unusedVariables false
set_option linter.unusedSimpArgs false

theorem apart_any {n : Int} {R : Nat} (h0 : 0 ≤ n) (h4 : n ≤ 4) (r0 : 0 < R) (r16 : R ≤ 16) (hR : Hid (rowsN n = (R : Int))) {s : Value} {l : List Nat} (hl : l.length ≤ 16) (hlt : ∀ r ∈ l, r < R) (c : Nat) (hc : c ≤ 1) (k : Nat) (hk : k ≤ 4) : AptSaid n R s l c k := by
  rcases (by omega : c = 0 ∨ c = 1) with rfl | rfl
  · exact apart0 h0 h4 r0 r16 hR hl hlt k hk
  · exact apart1 h0 h4 r0 r16 hR hl hlt k hk
theorem valL_yes {x c k : Nat} (h : bitN x k = c) : valL x (k + 1) c = valL x k c ++ [k] := by simp [valL, List.range_succ, h]
theorem valL_no {x c k : Nat} (h : bitN x k ≠ c) : valL x (k + 1) c = valL x k c := by simp [valL, List.range_succ, h]
theorem valL_len (x c k : Nat) : (valL x k c).length ≤ k := Nat.le_trans (List.length_filter_le _ _) (by simp)

set_option maxRecDepth 100000 in
set_option maxHeartbeats 4000000 in
theorem l08Degree_any {n : Int} {x R : Nat} (ok : FOk n x R) (c : Nat) (hc1 : c ≤ 1) (w : World) :
    Calls Tryz.prog 43 #[.agg #[.int .i64 n, .int .i64 (x : Int)], .int .i64 (c : Int)] w fun e w' => e = .returned (.int .i64 (dgN x R c : Int)) ∧ Below w.heap.size w w' := by
  obtain ⟨i0, hi, hz0, hz1, hz2⟩ := info_parts infoI
  have r0 := ok.r0
  have r16 := ok.r16
  have RWS := Lib.hid (fun W => l01Rows_is ok.h0 ok.h4 ok.hR W)
  have AT := Lib.hid (fun i (hi : i < R) W => l01At_any n x i ok.hx (by omega) W)
  have hlen16 : (valL x R c).length ≤ 16 := Nat.le_trans (valL_len x c R) r16
  have APT : Hid (∀ (s : Value) (base k : Nat) (W : World), k ≤ 4 → Owns W base s (nL (valL x R c)) → Calls Tryz.prog 68 #[s, .int .i64 n, .int .i64 (c : Int), .int .i64 (k : Int), .int .i64 0, .int .i64 ((R : Int) - 1)] W fun e w' => e = .returned (.bool (aptL ((valL x R c).map (ownR c R)) k (R - 1))) ∧ W = w') := Lib.hid fun s base k W hk ho => by
    have := apart_any ok.h0 ok.h4 ok.r0 ok.r16 ok.hR (s := s) hlen16 (fun r hr => (mem_valL.1 hr).1) c hc1 k hk base 0 (R - 1) W (Nat.zero_le _) (by omega) ho
    rw [show ((R - 1 : Nat) : Int) = (R : Int) - 1 by omega] at this
    exact this
  have DF : Hid (∀ k, k < 4 → (∀ j, 1 ≤ j → j ≤ k → aptL ((valL x R c).map (ownR c R)) j (R - 1) = true) → aptL ((valL x R c).map (ownR c R)) (k + 1) (R - 1) = false → dgN x R c = k) := Lib.hid fun k hk hb h => by rw [dgN_val hc1]; exact degT_found hk hb h
  have DN : Hid ((∀ j, 1 ≤ j → j ≤ min (valL x R c).length 4 → aptL ((valL x R c).map (ownR c R)) j (R - 1) = true) → dgN x R c = 9) := Lib.hid fun hb => by rw [dgN_val hc1]; exact degT_none (by rw [List.length_map]; exact hb)
  have VY : Hid (∀ k, bitN x k = c → valL x (k + 1) c = valL x k c ++ [k]) := Lib.hid fun k h => valL_yes h
  have VN : Hid (∀ k, bitN x k ≠ c → valL x (k + 1) c = valL x k c) := Lib.hid fun k h => valL_no h
  have VL := Lib.hid (fun k => valL_len x c k)
  have V0 : Hid (valL x 0 c = []) := Lib.hid rfl
  generalize dgN x R c = dg at DF DN ⊢
  generalize (valL x R c).map (ownR c R) = q at APT DF DN
  have erw := wrap64_small (x := (R : Int) - 1) (by omega) (by omega)
  obtain ⟨W1, hW1⟩ : ∃ W1, w.alloc (.cells #[.int .i64 n, .int .i64 (x : Int)] 26) = W1 := ⟨_, rfl⟩
  have p0 : W1.cell? ⟨w.heap.size, 0, none⟩ = some (.int .i64 n) := by rw [← hW1]; simp [go_sem]
  have p1 : W1.cell? ⟨w.heap.size, 1, none⟩ = some (.int .i64 (x : Int)) := by rw [← hW1]; simp [go_sem]
  have hB : Below w.heap.size w W1 := by rw [← hW1]; exact bnew _ _
  have l0 : w.heap.size < W1.heap.size := cell_lt p0
  go_enter Tryz.func43, Tryz.ntmps43
  go_wp2
  clear hW1
  go_loopw [5, 6] (fun s i' wr => ∃ k : Nat, k ≤ R ∧ i' = .int .i64 k ∧ Owns wr W1.heap.size s (nL (valL x k c)) ∧ Below W1.heap.size W1 wr)
    (fun _ i' _ => R - (intOf i').toNat)
  case atStart => exact ⟨0, Nat.zero_le _, rfl, by rw [V0.out]; exact World.ownsRow_lit W1 #[] 0 (Nat.le_refl _) (by decide) rfl, bnew _ _⟩
  case round =>
    obtain ⟨k, hk, rfl, hown, hN⟩ := hrel
    have hsz := hN.size
    have q0 := kc hN p0
    have q1 := kc hN p1
    by_cases hlt : k < R
    · have hlen := VL.out k
      have lz := cell_lt q0
      dsimp only at lz
      have HA := Lib.hid (AT.out k hlt)
      by_cases he : bitN x k = c
      · have hes : ((bitN x k : Int) == (c : Int)) = true := by simp [he]
        have HS := Lib.hid (VY.out k he)
        clear he
        generalize bitN x k = b at HA hes
        obtain ⟨K, hK⟩ : ∃ K, (nL (valL x k c)).length = K := ⟨_, rfl⟩
        have hKl : K ≤ 16 := by rw [← hK, nL_length]; omega
        have hrow : World.ownsRow wr W1.heap.size 2 1 u5 K (ints (nL (valL x k c))) := by rw [← hK]; exact hown
        have HO := Lib.hid hrow
        have HK := Lib.hid hK
        clear hK hown hrow
        go_wp2_with (first
          | (go_at_call 27; refine (RWS.out _).mono ?_; rintro e w' ⟨rfl, rfl⟩)
          | (go_at_call 37; refine (HA.out _).mono ?_; rintro e w5 ⟨rfl, hb5⟩; have hrow5 : World.ownsRow _ _ _ _ _ _ _ := owns_below HO.out hb5; have hN5 := bthen hN hb5; have hs5 := hN5.size)
          | (at_builtin; refine wpList_append_own _ rfl _ _ 62 rfl W1.heap.size 2 i0 (.int .i64 0) 1 8 Tryz.underlying62 hi hz0 hz1 hz2 rfl (by decide) _ _ _ rfl (hrow5.alloc _) ⟨w5.heap.size, 0, none⟩ 1 1 [.int .i64 (k : Int)] rfl rfl (cell_one_new _ _ _) (one_cell_int _) (by unfold maxLen; omega) (by omega) (by simp; omega) ?_))
        intro v' w1 hown' hgrow _
        have hN' := (balloc hN5 (.cells #[.int .i64 (k : Int)] 2)).grown hgrow (by simp; omega) (fun j e => (hrow5.lt j e).1)
        clear hgrow hrow5 hN5 q0 q1
        go_wp2
        go_roundw
        case rel => exact ⟨k + 1, by omega, by go_num, by rw [HS.out, nL_snoc]; unfold Owns; rw [ints_snoc, List.length_append, HK.out]; exact hown', hN'⟩
        case measure => simp [intOf]; omega
      · have hes : ((bitN x k : Int) == (c : Int)) = false := by simp only [beq_eq_false_iff_ne, ne_eq]; omega
        have HS := Lib.hid (VN.out k he)
        clear he
        generalize bitN x k = b at HA hes
        have HO := Lib.hid hown
        clear hown
        go_wp2_with (first
          | (go_at_call 27; refine (RWS.out _).mono ?_; rintro e w' ⟨rfl, rfl⟩)
          | (go_at_call 37; refine (HA.out _).mono ?_; rintro e w5 ⟨rfl, hb5⟩))
        go_roundw
        case rel => exact ⟨k + 1, by omega, by go_num, by rw [HS.out]; exact HO.out.below hb5, bthen hN hb5⟩
        case measure => simp [intOf]; omega
    · obtain rfl : k = R := by omega
      have HO := Lib.hid hown
      obtain ⟨a, cap, rfl, _⟩ := owns_open hown
      have hBN := bthen hB hN
      clear hown
      have AP := Lib.hid (fun d W hd (h : Below wr.heap.size wr W) => APT.out _ _ d W hd (HO.out.below h))
      obtain ⟨L, hL⟩ : ∃ L, (valL x k c).length = L := ⟨_, rfl⟩
      rw [hL] at DN AP hlen16
      rw [hL]
      clear hL APT VY VN VL V0 AT
      have hM : (if (4 : Int) < (L : Int) then (4 : Int) else (L : Int)) = ((min L 4 : Nat) : Int) := by split <;> omega
      have hM4 : min L 4 ≤ 4 := by omega
      generalize min L 4 = M at hM hM4 DN
      go_wp2_with (go_at_call 27; refine (RWS.out _).mono ?_; rintro e w' ⟨rfl, rfl⟩)
      obtain ⟨w0, rfl⟩ : ∃ w0 : World, w0 = wr := ⟨_, rfl⟩
      go_loopw [7] (fun i' wr => ∃ d : Nat, d ≤ M ∧ i' = .int .i64 ((d : Int) + 1) ∧ Hid (∀ j, 1 ≤ j → j ≤ d → aptL q j (k - 1) = true) ∧ Below w0.heap.size w0 wr) (fun i' _ => 5 - (intOf i').toNat)
      case atStart => exact ⟨0, Nat.zero_le _, rfl, Lib.hid (fun j h1 h2 => by omega), Below.refl _ _⟩
      case round =>
        clear q0 q1
        obtain ⟨d, hd, rfl, HJ, hN2⟩ := hrel
        have q0 := kc hN2 (kc hN p0)
        have q1 := kc hN2 (kc hN p1)
        have AD := Lib.hid (fun W hd h => AP.out (d + 1) W hd (bthen hN2 h))
        have ed : (((d + 1 : Nat) : Int)) = (d : Int) + 1 := by omega
        rw [ed] at AD
        clear ed
        have HBW := Lib.hid (fun nq => below_drewN hN2 nq)
        by_cases hdM : d < M
        · have hg : decide ((d : Int) + 1 ≤ (M : Int)) = true := by simp; omega
          have AD2 := Lib.hid (fun W h => AD.out W (by omega) h)
          have ew : IntKind.i64.wrap ((d : Int) + 1 - 1) = (d : Int) := by rw [show (d : Int) + 1 - 1 = (d : Int) by omega]; exact wrap64_small (x := (d : Int)) (by omega) (by omega)
          cases hap : aptL q (d + 1) (k - 1)
          · have DG := Lib.hid (DF.out d (by omega) HJ.out hap)
            rw [hap] at AD2
            clear hap AD
            go_wp2
            go_quiet (first | (go_at_call 27; exact quiet_eq (RWS.out _)) | (go_at_call 68; exact quiet_eq (AD2.out _ (below_drewN (Below.refl _ _) _))))
            go_wp2
            go_ret
            exact ⟨by rw [DG.out]; rfl, bthen hBN (below_drewN hN2 _)⟩
          · have HJ2 : Hid (∀ j, 1 ≤ j → j ≤ d + 1 → aptL q j (k - 1) = true) := Lib.hid fun j h1 h2 => by
              by_cases e : j = d + 1
              · rw [e]; exact hap
              · exact HJ.out j h1 (by omega)
            rw [hap] at AD2
            clear hap AD
            go_wp2
            go_quiet (first | (go_at_call 27; exact quiet_eq (RWS.out _)) | (go_at_call 68; exact quiet_eq (AD2.out _ (below_drewN (Below.refl _ _) _))))
            go_wp2
            go_roundw
            case rel => exact ⟨d + 1, by omega, by go_num, HJ2, below_drewN hN2 _⟩
            case measure => simp [intOf]; omega
        · obtain rfl : d = M := by omega
          have hg : decide ((d : Int) + 1 ≤ (d : Int)) = false := by simp; omega
          have DG := Lib.hid (DN.out HJ.out)
          go_wp2
          go_ret
          exact ⟨by rw [DG.out]; rfl, bthen hBN hN2⟩
end Go.Proofs.YthjgkgknlecjlaaGreatDoor

/- I1:
  The two closures of PermuteFunc. -/
namespace Go.Proofs.YthjgkgknlecjlaaGreatDoor
open Go.RowKit
set_option linter.unusedVariables false

/-- What a permutation of the variables says, number by number: within 0..3. -/
def permI (xs : List Int) (i : Nat) : Nat := (xs[i]?.getD 0).toNat

end Go.Proofs.YthjgkgknlecjlaaGreatDoor

/- I2:
  isPermutation. -/
namespace Go.Proofs.YthjgkgknlecjlaaGreatDoor
open Go.RowKit
set_option linter.unusedVariables false

/-- The first j numbers of a list are variables of n, each once. -/
def PermTo (n : Int) (xs : List Int) (j : Nat) : Prop := ∀ i, i < j → (0 ≤ xs[i]?.getD 0 ∧ xs[i]?.getD 0 ≤ n - 1) ∧ ∀ k, k < i → xs[k]?.getD 0 ≠ xs[i]?.getD 0

theorem PermTo.step {n : Int} {xs : List Int} {j : Nat} (h : PermTo n xs j) (h1 : 0 ≤ xs[j]?.getD 0 ∧ xs[j]?.getD 0 ≤ n - 1) (h2 : ¬ ∃ i, i < j ∧ xs[i]?.getD 0 = xs[j]?.getD 0) : PermTo n xs (j + 1) := by
  intro i hi
  by_cases e : i = j
  · subst e
    exact ⟨h1, fun k hk he => h2 ⟨k, hk, he⟩⟩
  · exact h i (by omega)

theorem PermTo.not_in {n : Int} {xs : List Int} {j l : Nat} (hj : j < l) (h1 : ¬ (0 ≤ xs[j]?.getD 0 ∧ xs[j]?.getD 0 ≤ n - 1)) : ¬ PermTo n xs l := fun h => h1 (h j hj).1
theorem PermTo.not_twice {n : Int} {xs : List Int} {j l : Nat} (hj : j < l) (h1 : ∃ i, i < j ∧ xs[i]?.getD 0 = xs[j]?.getD 0) : ¬ PermTo n xs l := fun h => by
  obtain ⟨i, hi, e⟩ := h1
  exact (h j hj).2 i hi e

/-- What a row of marks says: which numbers stand among the first j. -/
def seenB (xs : List Int) (j k : Nat) : Bool := (List.range j).any fun i => xs[i]?.getD 0 == (k : Int)
theorem seenB_true {xs : List Int} {j k : Nat} : seenB xs j k = true ↔ ∃ i, i < j ∧ xs[i]?.getD 0 = (k : Int) := by simp [seenB]
theorem seenB_zero (xs : List Int) (k : Nat) : seenB xs 0 k = false := by simp [seenB]
theorem seenB_same {xs : List Int} {j k : Nat} (h : xs[j]?.getD 0 = (k : Int)) : seenB xs (j + 1) k = true := seenB_true.2 ⟨j, by omega, h⟩
theorem seenB_other {xs : List Int} {j k : Nat} (h : xs[j]?.getD 0 ≠ (k : Int)) : seenB xs (j + 1) k = seenB xs j k := by
  apply Bool.eq_iff_iff.2
  rw [seenB_true, seenB_true]
  constructor
  · rintro ⟨i, hi, e⟩
    by_cases hij : i = j
    · exact absurd (hij ▸ e) h
    · exact ⟨i, by omega, e⟩
  · rintro ⟨i, hi, e⟩
    exact ⟨i, by omega, e⟩

end Go.Proofs.YthjgkgknlecjlaaGreatDoor

/- J1:
  l01Order of the model. -/
namespace Go.Proofs.YthjgkgknlecjlaaGreatDoor
open Go.RowKit

theorem infoB : (Tryz.prog.info? 4).map (fun i => (i.zero, i.size, i.bytes)) = some (some (.bool false), 1, 1) := by kernel_rfl

/-- The row of marks. -/
def seenV (xs : List Int) (j m : Nat) : List Value := (List.range m).map fun k => .bool (seenB xs j k)
theorem seenV_zero (xs : List Int) (m : Nat) : seenV xs 0 m = List.replicate m (.bool false) := by
  unfold seenV
  apply List.ext_getElem
  · simp
  · intro i h1 h2
    simp [seenB_zero]
theorem seenV_len (xs : List Int) (j m : Nat) : (seenV xs j m).length = m := by simp [seenV]
theorem seenV_get (xs : List Int) (j m k : Nat) (h : k < m) : (seenV xs j m)[k]? = some (.bool (seenB xs j k)) := by simp [seenV, h]
theorem seenV_set (xs : List Int) (j m q : Nat) (h : xs[j]?.getD 0 = (q : Int)) : (seenV xs j m).set q (.bool true) = seenV xs (j + 1) m := by
  unfold seenV
  apply List.ext_getElem
  · simp
  · intro i h1 h2
    simp only [List.length_set, List.length_map, List.length_range] at h1
    rw [List.getElem_set]
    by_cases e : q = i
    · subst e
      simp [seenB_same h]
    · simp only [e, if_false, List.getElem_map, List.getElem_range]
      rw [seenB_other (by rw [h]; omega)]

end Go.Proofs.YthjgkgknlecjlaaGreatDoor

/- J0:
  areDifferentBelow, and isPermutation by it. -/
namespace Go.Proofs.YthjgkgknlecjlaaGreatDoor
open Go.RowKit
set_option linter.unusedVariables false
set_option linter.unusedSimpArgs false

theorem owns_form {W : World} {base : Nat} {s : Value} {xs : List Int} {m : Nat} (h : Owns W base s xs) (hx : xs.length = m) : ∃ a cap, s = .slice a m cap := by
  rcases h.shape with ⟨e, a, cap, rfl⟩ | ⟨hn, g, cap, rfl, _⟩
  · rw [e] at hx; simp at hx; subst hx; exact ⟨_, _, rfl⟩
  · rw [hx]; exact ⟨_, _, rfl⟩

end Go.Proofs.YthjgkgknlecjlaaGreatDoor

/- CN20:
  l08Name of the model. -/
namespace Go.Proofs.YthjgkgknlecjlaaGreatDoor
open Go.RowKit Go.Shelf
set_option linter.unusedVariables false
set_option linter.unusedSimpArgs false

/-- What all of the first functions are. -/
def unP (p : Int × Int) : Bool := unB p.1 p.2.toNat
def djP (p : Int × Int) : Bool := jnD p.1 p.2.toNat (2 ^ p.1.toNat)
def cjP (p : Int × Int) : Bool := jnC p.1 p.2.toNat (2 ^ p.1.toNat)
def unT (xs : List (Int × Int)) : Nat → Bool
  | 0 => true
  | k + 1 => unT xs k && unP (fget xs k)
def djT (xs : List (Int × Int)) : Nat → Bool
  | 0 => true
  | k + 1 => djT xs k && djP (fget xs k)
def cjT (xs : List (Int × Int)) : Nat → Bool
  | 0 => true
  | k + 1 => cjT xs k && cjP (fget xs k)
theorem add_bits : ∀ s < 32, ∀ u d c : Bool, ((s ||| u.toNat <<< 5) ||| d.toNat <<< 6) ||| c.toNat <<< 7 = s + 32 * u.toNat + 64 * d.toNat + 128 * c.toNat := by decide +kernel
theorem and_bits : ∀ s < 32, ∀ t < 32, ∀ u d c u' d' c' : Bool, (s + 32 * u.toNat + 64 * d.toNat + 128 * c.toNat) &&& (t + 32 * u'.toNat + 64 * d'.toNat + 128 * c'.toNat) = (s &&& t) + 32 * (u && u').toNat + 64 * (d && d').toNat + 128 * (c && c').toNat := by decide +kernel
theorem cmT_parts (xs : List (Int × Int)) (k : Nat) : cmT xs k = comTo xs k + 32 * (unT xs k).toNat + 64 * (djT xs k).toNat + 128 * (cjT xs k).toNat := by
  induction k with
  | zero => rfl
  | succ k ih =>
    have h1 : tsP (fget xs k) = setP (fget xs k) + 32 * (unP (fget xs k)).toNat + 64 * (djP (fget xs k)).toNat + 128 * (cjP (fget xs k)).toNat := add_bits _ (setP_lt _) _ _ _
    rw [cmT, ih, h1, and_bits _ (comTo_lt xs k) _ (setP_lt _)]
    rfl
theorem nmL_is (xs : List (Int × Int)) : nmL xs = nmS (comTo xs xs.length) (unT xs xs.length) (djT xs xs.length) (cjT xs xs.length) (dgT xs 0 xs.length) (dgT xs 1 xs.length) := by
  rw [nm_same (comTo_lt xs _) _ _ _ (dgT_ok xs 0 _) (dgT_ok xs 1 _), ← cmT_parts]
  rfl
theorem ess_p {p : Int × Int} (h : isF p.1 p.2 = true) (w : World) :
    Calls Tryz.prog 41 #[.agg #[.int .i64 p.1, .int .i64 p.2]] w fun e w' => ∃ a L cap, e = .returned (.slice a L cap) ∧ decide ((L : Int) ≤ 1) = unP p ∧ Below w.heap.size w w' := by
  obtain ⟨ok, e⟩ := fok_p h
  have hs := essK_size ok.h0 ok.h4 p.2.toNat
  have := l01Essential_any ok w
  rw [e] at this
  refine this.mono ?_
  rintro e w' ⟨s, rfl, hown, hb⟩
  obtain ⟨a, cap, rfl⟩ := owns_form hown rfl
  refine ⟨a, _, cap, rfl, ?_, hb⟩
  unfold unP unB
  rw [hs]
  simp only [decide_eq_decide]
  omega
theorem dj_p {p : Int × Int} (h : isF p.1 p.2 = true) (w : World) :
    Calls Tryz.prog 42 #[.agg #[.int .i64 p.1, .int .i64 p.2], .bool false] w fun e w' => e = .returned (.bool (djP p)) ∧ Below w.heap.size w w' := by
  obtain ⟨ok, e⟩ := fok_p h
  have := l08Joined_false ok w
  rw [e] at this
  exact this
theorem cj_p {p : Int × Int} (h : isF p.1 p.2 = true) (w : World) :
    Calls Tryz.prog 42 #[.agg #[.int .i64 p.1, .int .i64 p.2], .bool true] w fun e w' => e = .returned (.bool (cjP p)) ∧ Below w.heap.size w w' := by
  obtain ⟨ok, e⟩ := fok_p h
  have := l08Joined_true ok w
  rw [e] at this
  exact this
theorem sdeg_p {p : Int × Int} (h : isF p.1 p.2 = true) (c : Nat) (hc : c ≤ 1) (w : World) :
    Calls Tryz.prog 43 #[.agg #[.int .i64 p.1, .int .i64 p.2], .int .i64 (c : Int)] w fun e w' => e = .returned (.int .i64 (dgP p c : Int)) ∧ Below w.heap.size w w' := by
  obtain ⟨ok, e⟩ := fok_p h
  have := l08Degree_any ok c hc w
  rw [e] at this
  exact this
end Go.Proofs.YthjgkgknlecjlaaGreatDoor

/- CN21:
  l08Name of the model: the walk. -/
namespace Go.Proofs.YthjgkgknlecjlaaGreatDoor
open Go.RowKit Go.Shelf
set_option linter.unusedVariables false
set_option linter.unusedSimpArgs false

theorem cl_bits : ∀ cl < 32, (((cl &&& 4 : Nat) : Int) != 0) = (bitN cl 2 == 1) ∧ (((cl &&& 8 : Nat) : Int) != 0) = (bitN cl 3 == 1) ∧ (((cl &&& 16 : Nat) : Int) != 0) = (bitN cl 4 == 1) ∧ (((cl &&& 1 : Nat) : Int) != 0) = (bitN cl 0 == 1) ∧ (((cl &&& 2 : Nat) : Int) != 0) = (bitN cl 1 == 1) ∧ (((cl &&& 3 : Nat) : Int) == 3) = decide (cl % 4 = 3) := by decide
theorem kindN_size (k m : Bool) (a b c d : ByteArray) (ha : a.size ≤ 100) (hb : b.size ≤ 100) (hc : c.size ≤ 100) (hd : d.size ≤ 100) : (kindN k m a b c d).size ≤ 100 := by
  unfold kindN
  split
  · exact ha
  · split
    · exact hb
    · split
      · exact hc
      · exact hd

set_option maxRecDepth 100000 in
set_option maxHeartbeats 16000000 in
theorem l08Name_any {base : Nat} {s : Value} {xs : List (Int × Int)} (h8 : xs.length ≤ 8) (hx : AreF xs) (w : World) (h : OwnsF w base s xs) :
    Calls Tryz.prog 21 #[s] w fun e w' => e = .returned (.string (nmL xs)) ∧ Below w.heap.size w w' := by
  have hl : xs.length ≤ 1048576 := by omega
  have CLS := Lib.hid (l02Classes_whole hl hx h8 w h)
  obtain ⟨a, cap, rfl, hrow⟩ := h.cells
  have HROW := Lib.hid hrow
  have HX : Hid (∀ j, j < xs.length → isF (fget xs j).1 (fget xs j).2 = true) := Lib.hid hx
  have hcl := comTo_lt xs xs.length
  have HR := Lib.hid (nmL_is xs)
  have HD0 := Lib.hid (dgT_ok xs 0 xs.length)
  have HD1 := Lib.hid (dgT_ok xs 1 xs.length)
  generalize nmL xs = R at HR ⊢
  clear h hrow hx
  generalize comTo xs xs.length = cl at CLS hcl HR
  generalize xs.length = L at hl h8 HROW HX CLS HR HD0 HD1 ⊢
  have WH := Lib.hid (fun W => l02Whole_any a L cap h8 W)
  generalize wholeN L = wn at WH CLS
  go_enter Tryz.func21, Tryz.ntmps21
  go_wp2_with (first
    | (go_at_call 40; refine (WH.out _).mono ?_; rintro e w' ⟨rfl, rfl⟩)
    | (go_at_call 39; refine CLS.out.mono ?_; rintro e w1 ⟨rfl, hb1⟩))
  go_loopw [4, 5, 6, 7, 8, 9] (fun u' d' c' z' o' i' wr => ∃ i : Nat, i ≤ L ∧ i' = .int .i64 i ∧ u' = .bool (unT xs i) ∧ d' = .bool (djT xs i) ∧ c' = .bool (cjT xs i) ∧ z' = .int .i64 (dgT xs 0 i : Int) ∧ o' = .int .i64 (dgT xs 1 i : Int) ∧ Below w.heap.size w wr) (fun _ _ _ _ _ i' _ => L - (intOf i').toNat)
  case atStart => exact ⟨0, Nat.zero_le _, rfl, rfl, rfl, rfl, rfl, rfl, hb1⟩
  case round =>
    obtain ⟨i, hi, rfl, rfl, rfl, rfl, rfl, rfl, hN0⟩ := hrel
    by_cases hlt : i < L
    · obtain ⟨g, rfl, hg, hc⟩ : ∃ g, a = some ⟨g, 0, none⟩ ∧ g < w.heap.size ∧ Hid (∀ j, j < L → w.cell? ⟨g, j * 2, none⟩ = some (.int .i64 (fget xs j).1) ∧ w.cell? ⟨g, j * 2 + 1, none⟩ = some (.int .i64 (fget xs j).2)) := by
        rcases HROW.out with h0 | h1
        · omega
        · exact h1
      obtain ⟨e0, e1⟩ := hc.out i hlt
      have d00 := (hN0.cell (p := ⟨g, i * 2, none⟩) hg).trans e0
      have d10 := (hN0.cell (p := ⟨g, i * 2 + 1, none⟩) hg).trans e1
      clear e0 e1
      have hp := HX.out i hlt
      have ES := Lib.hid (fun W => ess_p hp W)
      have DJ := Lib.hid (fun W => dj_p hp W)
      have CJ := Lib.hid (fun W => cj_p hp W)
      have SD0 := Lib.hid (fun W => sdeg_p hp 0 (by decide) W)
      have SD1 := Lib.hid (fun W => sdeg_p hp 1 (by decide) W)
      rw [show (((0 : Nat)) : Int) = 0 from rfl] at SD0
      rw [show (((1 : Nat)) : Int) = 1 from rfl] at SD1
      have HU : Hid (unT xs (i + 1) = (unT xs i && unP (fget xs i))) := Lib.hid rfl
      have HD : Hid (djT xs (i + 1) = (djT xs i && djP (fget xs i))) := Lib.hid rfl
      have HC : Hid (cjT xs (i + 1) = (cjT xs i && cjP (fget xs i))) := Lib.hid rfl
      have H0 : Hid (dgT xs 0 (i + 1) = min (dgT xs 0 i) (dgP (fget xs i) 0)) := Lib.hid rfl
      have H1 : Hid (dgT xs 1 (i + 1) = min (dgT xs 1 i) (dgP (fget xs i) 1)) := Lib.hid rfl
      clear hp
      generalize unT xs i = U at HU ⊢
      generalize djT xs i = D at HD ⊢
      generalize cjT xs i = C at HC ⊢
      generalize dgT xs 0 i = z0 at H0 ⊢
      generalize dgT xs 1 i = z1 at H1 ⊢
      generalize unP (fget xs i) = un at ES HU
      generalize djP (fget xs i) = dj at DJ HD
      generalize cjP (fget xs i) = cj at CJ HC
      generalize dgP (fget xs i) 0 = q0 at SD0 H0
      generalize dgP (fget xs i) 1 = q1 at SD1 H1
      generalize (fget xs i).1 = n at d00 ES DJ CJ SD0 SD1
      generalize (fget xs i).2 = b at d10 ES DJ CJ SD0 SD1
      have hm0 : (if q0 < z0 then (q0 : Int) else (z0 : Int)) = ((min z0 q0 : Nat) : Int) := by split <;> omega
      have hm1 : (if q1 < z1 then (q1 : Int) else (z1 : Int)) = ((min z1 q1 : Nat) : Int) := by split <;> omega
      cases U <;> cases D <;> cases C
      · go_wp2_with (first
          | (go_at_call 43; with_reducible refine (SD1.out _).mono ?_; rintro e w12 ⟨rfl, hb12⟩; have hN2 := bthen hN1 hb12; have d02 := kc hb12 d01; have d12 := kc hb12 d11)
          | (go_at_call 43; with_reducible refine (SD0.out _).mono ?_; rintro e w11 ⟨rfl, hb11⟩; have hN1 := bthen hN0 hb11; have d01 := kc hb11 d00; have d11 := kc hb11 d10))
        go_roundw
        case rel => exact ⟨i + 1, by omega, by go_num, by rw [HU.out] <;> first | rfl | (rw [hle2]; rfl) | simp [hle, hle2], by rw [HD.out] <;> rfl, by rw [HC.out] <;> rfl, by rw [H0.out] <;> first | rfl | (rw [hm0]) | (congr 1; omega), by rw [H1.out] <;> first | rfl | (rw [hm1]) | (congr 1; omega), hN2⟩
        case measure => simp [intOf]; omega
      · go_wp2_with (first
          | (go_at_call 43; with_reducible refine (SD1.out _).mono ?_; rintro e w13 ⟨rfl, hb13⟩; have hN3 := bthen hN2 hb13; have d03 := kc hb13 d02; have d13 := kc hb13 d12)
          | (go_at_call 43; with_reducible refine (SD0.out _).mono ?_; rintro e w12 ⟨rfl, hb12⟩; have hN2 := bthen hN1 hb12; have d02 := kc hb12 d01; have d12 := kc hb12 d11)
          | (go_at_call 42; with_reducible refine (CJ.out _).mono ?_; rintro e w11 ⟨rfl, hb11⟩; have hN1 := bthen hN0 hb11; have d01 := kc hb11 d00; have d11 := kc hb11 d10))
        go_roundw
        case rel => exact ⟨i + 1, by omega, by go_num, by rw [HU.out] <;> first | rfl | (rw [hle2]; rfl) | simp [hle, hle2], by rw [HD.out] <;> rfl, by rw [HC.out] <;> rfl, by rw [H0.out] <;> first | rfl | (rw [hm0]) | (congr 1; omega), by rw [H1.out] <;> first | rfl | (rw [hm1]) | (congr 1; omega), hN3⟩
        case measure => simp [intOf]; omega
      · go_wp2_with (first
          | (go_at_call 43; with_reducible refine (SD1.out _).mono ?_; rintro e w13 ⟨rfl, hb13⟩; have hN3 := bthen hN2 hb13; have d03 := kc hb13 d02; have d13 := kc hb13 d12)
          | (go_at_call 43; with_reducible refine (SD0.out _).mono ?_; rintro e w12 ⟨rfl, hb12⟩; have hN2 := bthen hN1 hb12; have d02 := kc hb12 d01; have d12 := kc hb12 d11)
          | (go_at_call 42; with_reducible refine (DJ.out _).mono ?_; rintro e w11 ⟨rfl, hb11⟩; have hN1 := bthen hN0 hb11; have d01 := kc hb11 d00; have d11 := kc hb11 d10))
        go_roundw
        case rel => exact ⟨i + 1, by omega, by go_num, by rw [HU.out] <;> first | rfl | (rw [hle2]; rfl) | simp [hle, hle2], by rw [HD.out] <;> rfl, by rw [HC.out] <;> rfl, by rw [H0.out] <;> first | rfl | (rw [hm0]) | (congr 1; omega), by rw [H1.out] <;> first | rfl | (rw [hm1]) | (congr 1; omega), hN3⟩
        case measure => simp [intOf]; omega
      · go_wp2_with (first
          | (go_at_call 43; with_reducible refine (SD1.out _).mono ?_; rintro e w14 ⟨rfl, hb14⟩; have hN4 := bthen hN3 hb14; have d04 := kc hb14 d03; have d14 := kc hb14 d13)
          | (go_at_call 43; with_reducible refine (SD0.out _).mono ?_; rintro e w13 ⟨rfl, hb13⟩; have hN3 := bthen hN2 hb13; have d03 := kc hb13 d02; have d13 := kc hb13 d12)
          | (go_at_call 42; with_reducible refine (CJ.out _).mono ?_; rintro e w12 ⟨rfl, hb12⟩; have hN2 := bthen hN1 hb12; have d02 := kc hb12 d01; have d12 := kc hb12 d11)
          | (go_at_call 42; with_reducible refine (DJ.out _).mono ?_; rintro e w11 ⟨rfl, hb11⟩; have hN1 := bthen hN0 hb11; have d01 := kc hb11 d00; have d11 := kc hb11 d10))
        go_roundw
        case rel => exact ⟨i + 1, by omega, by go_num, by rw [HU.out] <;> first | rfl | (rw [hle2]; rfl) | simp [hle, hle2], by rw [HD.out] <;> rfl, by rw [HC.out] <;> rfl, by rw [H0.out] <;> first | rfl | (rw [hm0]) | (congr 1; omega), by rw [H1.out] <;> first | rfl | (rw [hm1]) | (congr 1; omega), hN4⟩
        case measure => simp [intOf]; omega
      · go_wp2_with (first
          | (go_at_call 43; with_reducible refine (SD1.out _).mono ?_; rintro e w13 ⟨rfl, hb13⟩; have hN3 := bthen hN2 hb13; have d03 := kc hb13 d02; have d13 := kc hb13 d12)
          | (go_at_call 43; with_reducible refine (SD0.out _).mono ?_; rintro e w12 ⟨rfl, hb12⟩; have hN2 := bthen hN1 hb12; have d02 := kc hb12 d01; have d12 := kc hb12 d11)
          | (go_at_call 41; with_reducible refine (ES.out _).mono ?_; rintro e w11 ⟨a1, L1, c1, rfl, hle, hb11⟩; have hN1 := bthen hN0 hb11; have d01 := kc hb11 d00; have d11 := kc hb11 d10; have hle2 : decide (L1 ≤ 1) = un := by rw [← hle]; simp only [decide_eq_decide]; omega))
        go_roundw
        case rel => exact ⟨i + 1, by omega, by go_num, by rw [HU.out] <;> first | rfl | (rw [hle2]; rfl) | simp [hle, hle2], by rw [HD.out] <;> rfl, by rw [HC.out] <;> rfl, by rw [H0.out] <;> first | rfl | (rw [hm0]) | (congr 1; omega), by rw [H1.out] <;> first | rfl | (rw [hm1]) | (congr 1; omega), hN3⟩
        case measure => simp [intOf]; omega
      · go_wp2_with (first
          | (go_at_call 43; with_reducible refine (SD1.out _).mono ?_; rintro e w14 ⟨rfl, hb14⟩; have hN4 := bthen hN3 hb14; have d04 := kc hb14 d03; have d14 := kc hb14 d13)
          | (go_at_call 43; with_reducible refine (SD0.out _).mono ?_; rintro e w13 ⟨rfl, hb13⟩; have hN3 := bthen hN2 hb13; have d03 := kc hb13 d02; have d13 := kc hb13 d12)
          | (go_at_call 42; with_reducible refine (CJ.out _).mono ?_; rintro e w12 ⟨rfl, hb12⟩; have hN2 := bthen hN1 hb12; have d02 := kc hb12 d01; have d12 := kc hb12 d11)
          | (go_at_call 41; with_reducible refine (ES.out _).mono ?_; rintro e w11 ⟨a1, L1, c1, rfl, hle, hb11⟩; have hN1 := bthen hN0 hb11; have d01 := kc hb11 d00; have d11 := kc hb11 d10; have hle2 : decide (L1 ≤ 1) = un := by rw [← hle]; simp only [decide_eq_decide]; omega))
        go_roundw
        case rel => exact ⟨i + 1, by omega, by go_num, by rw [HU.out] <;> first | rfl | (rw [hle2]; rfl) | simp [hle, hle2], by rw [HD.out] <;> rfl, by rw [HC.out] <;> rfl, by rw [H0.out] <;> first | rfl | (rw [hm0]) | (congr 1; omega), by rw [H1.out] <;> first | rfl | (rw [hm1]) | (congr 1; omega), hN4⟩
        case measure => simp [intOf]; omega
      · go_wp2_with (first
          | (go_at_call 43; with_reducible refine (SD1.out _).mono ?_; rintro e w14 ⟨rfl, hb14⟩; have hN4 := bthen hN3 hb14; have d04 := kc hb14 d03; have d14 := kc hb14 d13)
          | (go_at_call 43; with_reducible refine (SD0.out _).mono ?_; rintro e w13 ⟨rfl, hb13⟩; have hN3 := bthen hN2 hb13; have d03 := kc hb13 d02; have d13 := kc hb13 d12)
          | (go_at_call 42; with_reducible refine (DJ.out _).mono ?_; rintro e w12 ⟨rfl, hb12⟩; have hN2 := bthen hN1 hb12; have d02 := kc hb12 d01; have d12 := kc hb12 d11)
          | (go_at_call 41; with_reducible refine (ES.out _).mono ?_; rintro e w11 ⟨a1, L1, c1, rfl, hle, hb11⟩; have hN1 := bthen hN0 hb11; have d01 := kc hb11 d00; have d11 := kc hb11 d10; have hle2 : decide (L1 ≤ 1) = un := by rw [← hle]; simp only [decide_eq_decide]; omega))
        go_roundw
        case rel => exact ⟨i + 1, by omega, by go_num, by rw [HU.out] <;> first | rfl | (rw [hle2]; rfl) | simp [hle, hle2], by rw [HD.out] <;> rfl, by rw [HC.out] <;> rfl, by rw [H0.out] <;> first | rfl | (rw [hm0]) | (congr 1; omega), by rw [H1.out] <;> first | rfl | (rw [hm1]) | (congr 1; omega), hN4⟩
        case measure => simp [intOf]; omega
      · go_wp2_with (first
          | (go_at_call 43; with_reducible refine (SD1.out _).mono ?_; rintro e w15 ⟨rfl, hb15⟩; have hN5 := bthen hN4 hb15; have d05 := kc hb15 d04; have d15 := kc hb15 d14)
          | (go_at_call 43; with_reducible refine (SD0.out _).mono ?_; rintro e w14 ⟨rfl, hb14⟩; have hN4 := bthen hN3 hb14; have d04 := kc hb14 d03; have d14 := kc hb14 d13)
          | (go_at_call 42; with_reducible refine (CJ.out _).mono ?_; rintro e w13 ⟨rfl, hb13⟩; have hN3 := bthen hN2 hb13; have d03 := kc hb13 d02; have d13 := kc hb13 d12)
          | (go_at_call 42; with_reducible refine (DJ.out _).mono ?_; rintro e w12 ⟨rfl, hb12⟩; have hN2 := bthen hN1 hb12; have d02 := kc hb12 d01; have d12 := kc hb12 d11)
          | (go_at_call 41; with_reducible refine (ES.out _).mono ?_; rintro e w11 ⟨a1, L1, c1, rfl, hle, hb11⟩; have hN1 := bthen hN0 hb11; have d01 := kc hb11 d00; have d11 := kc hb11 d10; have hle2 : decide (L1 ≤ 1) = un := by rw [← hle]; simp only [decide_eq_decide]; omega))
        go_roundw
        case rel => exact ⟨i + 1, by omega, by go_num, by rw [HU.out] <;> first | rfl | (rw [hle2]; rfl) | simp [hle, hle2], by rw [HD.out] <;> rfl, by rw [HC.out] <;> rfl, by rw [H0.out] <;> first | rfl | (rw [hm0]) | (congr 1; omega), by rw [H1.out] <;> first | rfl | (rw [hm1]) | (congr 1; omega), hN5⟩
        case measure => simp [intOf]; omega
    · obtain rfl : i = L := by omega
      obtain ⟨b2, b3, b4, b0, b1, b33⟩ := cl_bits cl hcl
      have A4 := and_int cl 4 (by omega) (by decide)
      have A8 := and_int cl 8 (by omega) (by decide)
      have A16 := and_int cl 16 (by omega) (by decide)
      have A1 := and_int cl 1 (by omega) (by decide)
      have A2 := and_int cl 2 (by omega) (by decide)
      have A3 := and_int cl 3 (by omega) (by decide)
      rw [show (((4 : Nat)) : Int) = 4 from rfl] at A4
      rw [show (((8 : Nat)) : Int) = 8 from rfl] at A8
      rw [show (((16 : Nat)) : Int) = 16 from rfl] at A16
      rw [show (((1 : Nat)) : Int) = 1 from rfl] at A1
      rw [show (((2 : Nat)) : Int) = 2 from rfl] at A2
      rw [show (((3 : Nat)) : Int) = 3 from rfl] at A3
      rw [← A4] at b2
      rw [← A8] at b3
      rw [← A16] at b4
      rw [← A1] at b0
      rw [← A2] at b1
      rw [← A3] at b33
      clear A4 A8 A16 A1 A2 A3
      have FOUR := Lib.hid (fun (s3 s1 s2 s0 : ByteArray) W => l08Four_any cl (by omega) s3 s1 s2 s0 W)
      have HZ := HD0.out
      have HO := HD1.out
      unfold nmS at HR
      generalize unT xs i = U at HR ⊢
      generalize djT xs i = D at HR ⊢
      generalize cjT xs i = C at HR ⊢
      generalize dgT xs 0 i = z at HR HZ ⊢
      generalize dgT xs 1 i = o at HR HO ⊢
      generalize (bitN cl 2 == 1) = dual at HR b2
      generalize (bitN cl 3 == 1) = mono at HR b3
      generalize (bitN cl 4 == 1) = affine at HR b4
      generalize (bitN cl 0 == 1) = k0 at HR b0
      generalize (bitN cl 1 == 1) = k1 at HR b1
      generalize decide (cl % 4 = 3) = k3 at HR b33
      clear HROW HX CLS WH HD0 HD1
      cases U with
      | true =>
        cases mono with
        | true =>
          go_wp2_with (first | (go_at_call 44; with_reducible refine (FOUR.out _ _ _ _ _).mono ?_; rintro e w5 ⟨rfl, rfl⟩))
          go_ret
          exact ⟨by rw [HR.out]; first | rfl | simp, hN0⟩
        | false =>
          cases dual with
          | true =>
            go_wp2_with (first | (go_at_call 44; with_reducible refine (FOUR.out _ _ _ _ _).mono ?_; rintro e w5 ⟨rfl, rfl⟩))
            go_ret
            exact ⟨by rw [HR.out]; first | rfl | simp, hN0⟩
          | false =>
            go_wp2_with (first | (go_at_call 44; with_reducible refine (FOUR.out _ _ _ _ _).mono ?_; rintro e w5 ⟨rfl, rfl⟩))
            go_ret
            exact ⟨by rw [HR.out]; first | rfl | simp, hN0⟩
      | false =>
      cases D with
      | true =>
        go_wp2_with (first | (go_at_call 44; with_reducible refine (FOUR.out _ _ _ _ _).mono ?_; rintro e w5 ⟨rfl, rfl⟩))
        go_ret
        exact ⟨by rw [HR.out]; first | rfl | simp, hN0⟩
      | false =>
      cases C with
      | true =>
        go_wp2_with (first | (go_at_call 44; with_reducible refine (FOUR.out _ _ _ _ _).mono ?_; rintro e w5 ⟨rfl, rfl⟩))
        go_ret
        exact ⟨by rw [HR.out]; first | rfl | simp, hN0⟩
      | false =>
      cases affine with
      | true =>
        cases k3 with
        | true =>
          go_wp2_with (first | (go_at_call 44; with_reducible refine (FOUR.out _ _ _ _ _).mono ?_; rintro e w5 ⟨rfl, rfl⟩))
          go_ret
          exact ⟨by rw [HR.out]; first | rfl | simp, hN0⟩
        | false =>
          cases dual with
          | true =>
            go_wp2_with (first | (go_at_call 44; with_reducible refine (FOUR.out _ _ _ _ _).mono ?_; rintro e w5 ⟨rfl, rfl⟩))
            go_ret
            exact ⟨by rw [HR.out]; first | rfl | simp, hN0⟩
          | false =>
            go_wp2_with (first | (go_at_call 44; with_reducible refine (FOUR.out _ _ _ _ _).mono ?_; rintro e w5 ⟨rfl, rfl⟩))
            go_ret
            exact ⟨by rw [HR.out]; first | rfl | simp, hN0⟩
      | false =>
      cases dual with
      | true =>
        cases mono with
        | true =>
          go_wp2_with (first | (go_at_call 44; with_reducible refine (FOUR.out _ _ _ _ _).mono ?_; rintro e w5 ⟨rfl, rfl⟩))
          go_ret
          exact ⟨by rw [HR.out]; first | rfl | simp, hN0⟩
        | false =>
          cases k0 with
          | true =>
            go_wp2_with (first | (go_at_call 44; with_reducible refine (FOUR.out _ _ _ _ _).mono ?_; rintro e w5 ⟨rfl, rfl⟩))
            go_ret
            exact ⟨by rw [HR.out]; first | rfl | simp, hN0⟩
          | false =>
            go_wp2_with (first | (go_at_call 44; with_reducible refine (FOUR.out _ _ _ _ _).mono ?_; rintro e w5 ⟨rfl, rfl⟩))
            go_ret
            exact ⟨by rw [HR.out]; first | rfl | simp, hN0⟩
      | false =>
      by_cases hz2 : 2 ≤ z
      · have DG := Lib.hid (fun W => l08Degrees_any (kindN k0 mono ⟨#[83, 48, 48]⟩ ⟨#[83, 48, 49]⟩ ⟨#[83, 48, 50]⟩ ⟨#[83, 48]⟩) (kindN_size _ _ _ _ _ _ (by decide) (by decide) (by decide) (by decide)) z (by unfold degOk at HZ; omega) W)
        have hgz : decide ((2 : Int) ≤ (z : Int)) = true := by simp; omega
        have HZ2 := Lib.hid hz2
        clear HZ HO hz2
        generalize (z : Int) = zi at hgz DG ⊢
        go_wp2_with (first | (go_at_call 46; with_reducible refine (l08Kind_any k0 mono _ _ _ _ _).mono ?_; rintro e w5 ⟨rfl, rfl⟩) | (go_at_call 45; with_reducible refine (DG.out _).mono ?_; rintro e w6 ⟨rfl, hb6⟩))
        go_ret
        exact ⟨by rw [HR.out]; first | rfl | simp [HZ2.out], bthen hN0 hb6⟩
      · have hgz : decide ((2 : Int) ≤ (z : Int)) = false := by simp; omega
        have HZ2 := Lib.hid hz2
        by_cases ho2 : 2 ≤ o
        · have DG := Lib.hid (fun W => l08Degrees_any (kindN k1 mono ⟨#[83, 49, 48]⟩ ⟨#[83, 49, 49]⟩ ⟨#[83, 49, 50]⟩ ⟨#[83, 49]⟩) (kindN_size _ _ _ _ _ _ (by decide) (by decide) (by decide) (by decide)) o (by unfold degOk at HO; omega) W)
          have hgo : decide ((2 : Int) ≤ (o : Int)) = true := by simp; omega
          have HO2 := Lib.hid ho2
          clear HZ HO hz2 ho2
          generalize (z : Int) = zi at hgz ⊢
          generalize (o : Int) = oi at hgo DG ⊢
          go_wp2_with (first | (go_at_call 46; with_reducible refine (l08Kind_any k1 mono _ _ _ _ _).mono ?_; rintro e w5 ⟨rfl, rfl⟩) | (go_at_call 45; with_reducible refine (DG.out _).mono ?_; rintro e w6 ⟨rfl, hb6⟩))
          go_ret
          exact ⟨by rw [HR.out]; first | rfl | simp [HZ2.out, HO2.out], bthen hN0 hb6⟩
        · have hgo : decide ((2 : Int) ≤ (o : Int)) = false := by simp; omega
          have HO2 := Lib.hid ho2
          clear HZ HO hz2 ho2
          generalize (z : Int) = zi at hgz ⊢
          generalize (o : Int) = oi at hgo ⊢
          cases mono with
          | true =>
            go_wp2_with (first | (go_at_call 44; with_reducible refine (FOUR.out _ _ _ _ _).mono ?_; rintro e w5 ⟨rfl, rfl⟩))
            go_ret
            exact ⟨by rw [HR.out]; first | rfl | simp [HZ2.out, HO2.out], hN0⟩
          | false =>
            go_wp2_with (first | (go_at_call 44; with_reducible refine (FOUR.out _ _ _ _ _).mono ?_; rintro e w5 ⟨rfl, rfl⟩))
            go_ret
            exact ⟨by rw [HR.out]; first | rfl | simp [HZ2.out, HO2.out], hN0⟩
end Go.Proofs.YthjgkgknlecjlaaGreatDoor

/- CN35:
  IsInNamed, GeneratorsOf of the model. -/
namespace Go.Proofs.YthjgkgknlecjlaaGreatDoor
open Go.RowKit Go.Shelf
set_option linter.unusedVariables false
set_option linter.unusedSimpArgs false

theorem gen_any (s : ByteArray) (hb : s.size ≤ 1048576) (w : World) : Calls Tryz.prog 14 #[.string s] w (GenPost s w) := by
  by_cases h4 : s.size < 4
  · exact gen_short s h4 hb w
  obtain ⟨m, hsz⟩ : ∃ m, s.size = m + 2 := ⟨s.size - 2, by omega⟩
  have hm : 2 ≤ m := by omega
  by_cases h94 : bt s m = 94
  · cases hj : bsFind (s.extract 0 m) with
    | none => exact gen_none1 s hsz hm hb h94 hj w
    | some j =>
      by_cases h0 : bt s 0 = 83
      · by_cases h2 : bt s (m + 1) = 50
        · by_cases h1 : bt s 1 = 49
          · exact gen_yes21 s hsz hm hb h94 hj h0 h2 h1 w
          · exact gen_yes20 s hsz hm hb h94 hj h0 h2 h1 w
        by_cases h3 : bt s (m + 1) = 51
        · by_cases h1 : bt s 1 = 49
          · exact gen_yes31 s hsz hm hb h94 hj h0 h3 h1 w
          · exact gen_yes30 s hsz hm hb h94 hj h0 h3 h1 w
        exact gen_none3 s hsz hm hb h94 hj h0 ⟨h2, h3⟩ w
      · exact gen_none2 s hsz hm hb h94 hj h0 w
  · exact gen_plain s hsz hm hb h94 w
theorem gens_some {s : ByteArray} (hb : s.size ≤ 1048576) {p : Nat × Nat} (hs : clFind s = some p) (w : World) : Calls Tryz.prog 14 #[.string s] w fun e w' => ∃ v, e = .returned (.tuple #[v, .bool true]) ∧ OwnsF w' w.heap.size v (gnL p) ∧ Below w.heap.size w w' := by
  refine (gen_any s hb w).mono ?_
  rintro e w' ⟨hB, ⟨q, v, hq, he, hO⟩ | ⟨hn, _⟩⟩
  · obtain rfl : p = q := by rw [hs] at hq; exact Option.some.inj hq
    exact ⟨v, he, hO, hB⟩
  · rw [hs] at hn; cases hn
theorem gens_none {s : ByteArray} (hb : s.size ≤ 1048576) (hs : clFind s = none) (w : World) : Calls Tryz.prog 14 #[.string s] w fun e w' => e = .returned (.tuple #[.slice none 0 0, .bool false]) ∧ Below w.heap.size w w' := by
  refine (gen_any s hb w).mono ?_
  rintro e w' ⟨hB, ⟨q, v, hq, he, hO⟩ | ⟨_, he⟩⟩
  · rw [hs] at hq; cases hq
  · exact ⟨he, hB⟩

set_option maxRecDepth 100000 in
set_option maxHeartbeats 4000000 in
theorem l08In_any {s : ByteArray} (hb : s.size ≤ 1048576) {p : Nat × Nat} (hs : clFind s = some p) {n b : Int} (hf : isF n b = true) (w : World) :
    Calls Tryz.prog 15 #[.agg #[.int .i64 n, .int .i64 b], .string s] w fun e w' => e = .returned (.bool (inNm p n b)) ∧ Below w.heap.size w w' := by
  obtain ⟨i0, hi, hz0, hz1, hz2⟩ := info_parts infoF
  have hp := clFind_mem hs
  have hgl := (gn_ok p hp).1
  have GEN := Lib.hid (fun W => gens_some hb hs W)
  have L8 := Lib.hid (fun base v W (h : OwnsF W base v (gnL p ++ [(n, b)])) => l08Name_any (by rw [List.length_append]; show (gnL p).length + 1 ≤ _; omega) (gn_snoc hp hf) W h)
  have hq := str_eq (nmL (gnL p ++ [(n, b)])) s
  rw [← clFind_name hs, show decide (nmL (gnL p ++ [(n, b)]) = clName p) = inNm p n b from rfl, clFind_name hs] at hq
  have HSN : Hid (∀ B W v k, (gnL p).length = k → W.ownsRow B 26 2 v (k + 1) (fcells (gnL p) ++ [.int .i64 n, .int .i64 b]) → OwnsF W B v (gnL p ++ [(n, b)])) := Lib.hid fun B W v k hk h => by
    refine OwnsF.snoc ?_
    rw [hk]; exact h
  generalize inNm p n b = res at hq ⊢
  generalize nmL (gnL p ++ [(n, b)]) = nm at L8 hq
  obtain ⟨W1, hW1⟩ : ∃ W1, w.alloc (.cells #[.int .i64 n, .int .i64 b] 26) = W1 := ⟨_, rfl⟩
  have p0 : W1.cell? ⟨w.heap.size, 0, none⟩ = some (.int .i64 n) := by rw [← hW1]; simp [go_sem]
  have p1 : W1.cell? ⟨w.heap.size, 1, none⟩ = some (.int .i64 b) := by rw [← hW1]; simp [go_sem]
  have hB : Below w.heap.size w W1 := by rw [← hW1]; exact bnew _ _
  generalize hgk : (gnL p).length = k at hgl
  generalize gnL p ++ [(n, b)] = gnew at L8 HSN
  have HGK := Lib.hid hgk
  clear hgk hp hs
  go_enter Tryz.func15, Tryz.ntmps15
  go_wp2_with (first
    | (go_at_call 14; refine (GEN.out _).mono ?_; rintro e w3 ⟨v, rfl, hO, hb3⟩; have q0 := kc hb3 p0; have q1 := kc hb3 p1; have hO5 : World.ownsRow _ _ _ _ _ _ _ := hO; clear hO; rw [HGK.out] at hO5; have hs3 := hb3.size)
    | (at_builtin; refine wpList_append_own _ rfl _ _ 35 rfl W1.heap.size 26 i0 (.agg #[.int .i64 0, .int .i64 0]) 2 16 Tryz.underlying35 hi hz0 hz1 hz2 rfl (by decide) _ _ _ rfl (hO5.alloc _) ⟨_, 0, none⟩ 1 1 [.int .i64 n, .int .i64 b] rfl rfl (cell_two_new _ _ _ _) (one_cell_two _ _) (by unfold maxLen; omega) (by omega) (by simp; omega) ?_; intro v6 w6 hown6 hgrow6 _; have hO6 := HSN.out _ _ _ _ HGK.out hown6; have hb6 := (balloc hb3 (.cells #[.int .i64 n, .int .i64 b] 26)).grown hgrow6 (by simp; omega) (fun j e => (hO5.lt j e).1))
    | (go_at_call 21; refine (L8.out _ _ _ hO6).mono ?_; rintro e w7 ⟨rfl, hb7⟩))
  go_wp2
  go_ret
  exact ⟨rfl, bthen hB (bthen hb6 hb7)⟩
end Go.Proofs.YthjgkgknlecjlaaGreatDoor
