/-
  ValueAt in both packages.
-/
import Derived.Test.YtjecemeccbfldaaL4
namespace Go.Proofs.Ytjecemeccbfldaa
open Go.RowKit
set_option linter.unusedVariables false

theorem Owns.slice {W : World} {base : Nat} {s : Value} {xs : List Int} (h : Owns W base s xs) : ∃ a cap, s = .slice a xs.length cap := by
  rcases h.shape with ⟨rfl, a, cap, rfl⟩ | ⟨_, g, cap, rfl, _⟩
  · exact ⟨_, _, rfl⟩
  · exact ⟨_, _, rfl⟩

set_option maxRecDepth 100000 in
set_option maxHeartbeats 1000000 in
theorem ValueAt1_any {base : Nat} {s : Value} {xs : List Int} (hl : xs.length ≤ 4) (hd : (xs.all fun v => inB v 0 1) = true) (b i : Nat) (hi : i < xs.length) (w : World) (h : Owns w base s xs) (hc : w.cell? ⟨b, 0, none⟩ = some s) :
    Calls Try.prog 167 #[.int .i64 (i : Int), .pointer (some ⟨b, 0, none⟩)] w fun e w' => e = .returned (.int .i64 (dig xs i : Int)) ∧ Below w.heap.size w w' := by
  have hdi := (dig_ok hd i hi).2
  rcases h.shape with ⟨rfl, _⟩ | ⟨hn, g, cap, rfl, hbg, hg, hcc, hf⟩
  · simp at hi
  · have hu := hcc.out i hi
    rw [hdi] at hu
    clear h hf hcc hdi hd
    generalize xs.length = n at hl hi hn hc
    go_enter Try.func167, Try.ntmps167
    go_wp2
    go_ret
    exact ⟨rfl, Below.refl _ _⟩

/-- The boxes of ValueAt. -/
theorem valueBoxes (n b : Int) (a : Option Addr) (len cap : Nat) (w : World) : ∃ W1, (w.alloc (.cells #[.int .i64 n, .int .i64 b] 27)).alloc (.cells #[.slice a len cap] 24) = W1 ∧ W1.cell? ⟨w.heap.size, 0, none⟩ = some (.int .i64 n) ∧ W1.cell? ⟨w.heap.size, 1, none⟩ = some (.int .i64 b) ∧
    W1.cell? ⟨w.heap.size + 1, 0, none⟩ = some (.slice a len cap) ∧ Below w.heap.size w W1 :=
  ⟨_, rfl, by simp [go_sem], by simp [go_sem], by simp [go_sem], balloc (bnew _ _) _⟩

set_option maxRecDepth 100000 in
set_option maxHeartbeats 1000000 in
theorem implValueAt_no {base : Nat} {s : Value} {xs : List Int} (hl : xs.length ≤ 1048576) {n b : Int} (h : isF n b = false) (w : World) (ho : Owns w base s xs) :
    Calls Try.prog 83 #[.agg #[.int .i64 n, .int .i64 b], s] w fun e w' => e = .returned (.tuple #[.int .i64 0, .int .i64 1]) ∧ Below w.heap.size w w' := by
  obtain ⟨a, cap, rfl⟩ := ho.slice
  obtain ⟨W1, hW1, p0, p1, p2, hB⟩ := valueBoxes n b a xs.length cap w
  have O1 := Lib.hid (ho.below hB)
  have hL := Lib.hid (rfl : xs.length = xs.length)
  go_enter Try.func83, Try.ntmps83
  go_wp2_with (first
    | (go_at_call 35; refine (IsFunc_is h _).mono ?_; rintro e w2 ⟨rfl, hb2⟩; have q0 := kc hb2 p0; have q1 := kc hb2 p1; have q2 := kc hb2 p2; have O2 := Lib.hid (O1.out.below hb2); have hB2 := bthen hB hb2; clear p0 p1 p2))
  go_ret2
  exact ⟨rfl, hB2⟩

set_option maxRecDepth 100000 in
set_option maxHeartbeats 1000000 in
theorem implValueAt_len {base : Nat} {s : Value} {xs : List Int} (hl : xs.length ≤ 1048576) {n : Int} {x R : Nat} (ok : FOk n x R) (hne : ((xs.length : Int) != n) = true) (w : World) (ho : Owns w base s xs) :
    Calls Try.prog 83 #[.agg #[.int .i64 n, .int .i64 (x : Int)], s] w fun e w' => e = .returned (.tuple #[.int .i64 0, .int .i64 2]) ∧ Below w.heap.size w w' := by
  have h := ok.is
  obtain ⟨a, cap, rfl⟩ := ho.slice
  obtain ⟨W1, hW1, p0, p1, p2, hB⟩ := valueBoxes n (x : Int) a xs.length cap w
  have O1 := Lib.hid (ho.below hB)
  have hL := Lib.hid (rfl : xs.length = xs.length)
  go_enter Try.func83, Try.ntmps83
  go_wp2_with (first
    | (go_at_call 35; refine (IsFunc_is h _).mono ?_; rintro e w2 ⟨rfl, hb2⟩; have q0 := kc hb2 p0; have q1 := kc hb2 p1; have q2 := kc hb2 p2; have O2 := Lib.hid (O1.out.below hb2); have hB2 := bthen hB hb2; clear p0 p1 p2))
  go_ret2
  exact ⟨rfl, hB2⟩

set_option maxRecDepth 100000 in
set_option maxHeartbeats 1000000 in
theorem implValueAt_dig {base : Nat} {s : Value} {xs : List Int} (hl : xs.length ≤ 1048576) {n : Int} {x R : Nat} (ok : FOk n x R) (hne : ((xs.length : Int) != n) = false) (hd : (xs.all fun v => inB v 0 1) = false) (w : World) (ho : Owns w base s xs) :
    Calls Try.prog 83 #[.agg #[.int .i64 n, .int .i64 (x : Int)], s] w fun e w' => e = .returned (.tuple #[.int .i64 0, .int .i64 2]) ∧ Below w.heap.size w w' := by
  have h := ok.is
  obtain ⟨a, cap, rfl⟩ := ho.slice
  obtain ⟨W1, hW1, p0, p1, p2, hB⟩ := valueBoxes n (x : Int) a xs.length cap w
  have O1 := Lib.hid (ho.below hB)
  have hL := Lib.hid (rfl : xs.length = xs.length)
  go_enter Try.func83, Try.ntmps83
  go_wp2_with (first
    | (go_at_call 35; refine (IsFunc_is h _).mono ?_; rintro e w2 ⟨rfl, hb2⟩; have q0 := kc hb2 p0; have q1 := kc hb2 p1; have q2 := kc hb2 p2; have O2 := Lib.hid (O1.out.below hb2); have hB2 := bthen hB hb2; clear p0 p1 p2)
    | (go_at_call 166; refine (areDigits_any hl _ O2.out).mono ?_; rintro e w' ⟨rfl, rfl⟩))
  go_ret2
  exact ⟨rfl, hB2⟩

theorem rowOfArgs {base : Nat} {s : Value} {xs : List Int} (hl : xs.length ≤ 4) (hd : (xs.all fun v => inB v 0 1) = true) (b : Nat) (w : World) (h : Owns w base s xs) (hc : w.cell? ⟨b, 0, none⟩ = some s) :
    Calls Try.prog 152 #[.int .i64 (xs.length : Int), .func (.func 167) #[] #[.pointer (some ⟨b, 0, none⟩)]] w fun e w' => e = .returned (.int .i64 (sumN (dig xs) xs.length : Int)) ∧ Below w.heap.size w w' :=
  rowWith_any xs.length hl 167 #[.pointer (some ⟨b, 0, none⟩)] (enters_of Try.func167 (by kernel_rfl) rfl) (dig xs) (fun i hi => (dig_ok hd i hi).1) w
    (Lib.hid fun W hW i hi => ValueAt1_any hl hd b i hi W (h.below hW) (kc hW hc))

set_option maxRecDepth 100000 in
set_option maxHeartbeats 1000000 in
theorem implValueAt_yes {base : Nat} {s : Value} {xs : List Int} (hl : xs.length ≤ 1048576) {x R : Nat} (ok : FOk (xs.length : Int) x R) (hd : (xs.all fun v => inB v 0 1) = true) (w : World) (ho : Owns w base s xs) :
    Calls Try.prog 83 #[.agg #[.int .i64 (xs.length : Int), .int .i64 (x : Int)], s] w fun e w' => e = .returned (.tuple #[.int .i64 (bitN x (sumN (dig xs) xs.length) : Int), .int .i64 0]) ∧ Below w.heap.size w w' := by
  have h := ok.is
  have h4 : xs.length ≤ 4 := by have := ok.h4; omega
  have hx := ok.hx
  have hrow : sumN (dig xs) xs.length < 62 := by
    have h1 := sumN_lt (dig xs) xs.length (fun i hi => (dig_ok hd i hi).1)
    have h2 : (2 : Nat) ^ xs.length ≤ 2 ^ 4 := Nat.pow_le_pow_right (by decide) h4
    omega
  obtain ⟨a, cap, rfl⟩ := ho.slice
  obtain ⟨W1, hW1, p0, p1, p2, hB⟩ := valueBoxes (xs.length : Int) (x : Int) a xs.length cap w
  have O1 := Lib.hid (ho.below hB)
  go_enter Try.func83, Try.ntmps83
  go_wp2_with (first
    | (go_at_call 35; refine (IsFunc_is h _).mono ?_; rintro e w2 ⟨rfl, hb2⟩; have q0 := kc hb2 p0; have q1 := kc hb2 p1; have q2 := kc hb2 p2; have O2 := Lib.hid (O1.out.below hb2); have hB2 := bthen hB hb2; clear p0 p1 p2)
    | (go_at_call 166; refine (areDigits_any hl _ O2.out).mono ?_; rintro e w' ⟨rfl, rfl⟩)
    | (go_at_call 152; refine (rowOfArgs h4 hd _ _ O2.out q2).mono ?_; rintro e w3 ⟨rfl, hb3⟩; have r0 := kc hb3 q0; have r1 := kc hb3 q1; have hB3 := bthen hB2 hb3)
    | (go_at_call 106; refine (valueInRow_any _ _ _ hx hrow _).mono ?_; rintro e w4 ⟨rfl, hb4⟩; have hB4 := bthen hB3 hb4))
  go_ret2
  exact ⟨rfl, hB4⟩

/-- The box of the model's ValueAt. -/
theorem valueBox (n b : Int) (w : World) : ∃ W1, w.alloc (.cells #[.int .i64 n, .int .i64 b] 27) = W1 ∧ W1.cell? ⟨w.heap.size, 0, none⟩ = some (.int .i64 n) ∧ W1.cell? ⟨w.heap.size, 1, none⟩ = some (.int .i64 b) ∧ Below w.heap.size w W1 :=
  ⟨_, rfl, by simp [go_sem], by simp [go_sem], bnew _ _⟩

set_option maxRecDepth 100000 in
set_option maxHeartbeats 1000000 in
theorem specValueAt_no {base : Nat} {s : Value} {xs : List Int} (hl : xs.length ≤ 1048576) {n b : Int} (h : isF n b = false) (w : World) (ho : Owns w base s xs) :
    Calls Try.prog 84 #[.agg #[.int .i64 n, .int .i64 b], s] w fun e w' => e = .returned (.tuple #[.int .i64 0, .int .i64 1]) ∧ Below w.heap.size w w' := by
  obtain ⟨a, cap, rfl⟩ := ho.slice
  obtain ⟨W1, hW1, p0, p1, hB⟩ := valueBox n b w
  have O1 := Lib.hid (ho.below hB)
  go_enter Try.func84, Try.ntmps84
  go_wp2_with (first
    | (go_at_call 95; refine (l01Is_is h _).mono ?_; rintro e w2 ⟨rfl, hb2⟩; have q0 := kc hb2 p0; have q1 := kc hb2 p1; have O2 := Lib.hid (O1.out.below hb2); have hB2 := bthen hB hb2; clear p0 p1))
  go_ret2
  exact ⟨rfl, hB2⟩

set_option maxRecDepth 100000 in
set_option maxHeartbeats 1000000 in
theorem specValueAt_len {base : Nat} {s : Value} {xs : List Int} (hl : xs.length ≤ 1048576) {n : Int} {x R : Nat} (ok : FOk n x R) (hne : ((xs.length : Int) != n) = true) (w : World) (ho : Owns w base s xs) :
    Calls Try.prog 84 #[.agg #[.int .i64 n, .int .i64 (x : Int)], s] w fun e w' => e = .returned (.tuple #[.int .i64 0, .int .i64 2]) ∧ Below w.heap.size w w' := by
  have h := ok.is
  obtain ⟨a, cap, rfl⟩ := ho.slice
  obtain ⟨W1, hW1, p0, p1, hB⟩ := valueBox n (x : Int) w
  have O1 := Lib.hid (ho.below hB)
  go_enter Try.func84, Try.ntmps84
  go_wp2_with (first
    | (go_at_call 95; refine (l01Is_is h _).mono ?_; rintro e w2 ⟨rfl, hb2⟩; have q0 := kc hb2 p0; have q1 := kc hb2 p1; have O2 := Lib.hid (O1.out.below hb2); have hB2 := bthen hB hb2; clear p0 p1))
  go_ret2
  exact ⟨rfl, hB2⟩

set_option maxRecDepth 100000 in
set_option maxHeartbeats 1000000 in
theorem specValueAt_dig {base : Nat} {s : Value} {xs : List Int} (hl : xs.length ≤ 1048576) {n : Int} {x R : Nat} (ok : FOk n x R) (hne : ((xs.length : Int) != n) = false) (hd : (xs.all fun v => inB v 0 1) = false) (w : World) (ho : Owns w base s xs) :
    Calls Try.prog 84 #[.agg #[.int .i64 n, .int .i64 (x : Int)], s] w fun e w' => e = .returned (.tuple #[.int .i64 0, .int .i64 2]) ∧ Below w.heap.size w w' := by
  have h := ok.is
  obtain ⟨a, cap, rfl⟩ := ho.slice
  obtain ⟨W1, hW1, p0, p1, hB⟩ := valueBox n (x : Int) w
  have O1 := Lib.hid (ho.below hB)
  go_enter Try.func84, Try.ntmps84
  go_wp2_with (first
    | (go_at_call 95; refine (l01Is_is h _).mono ?_; rintro e w2 ⟨rfl, hb2⟩; have q0 := kc hb2 p0; have q1 := kc hb2 p1; have O2 := Lib.hid (O1.out.below hb2); have hB2 := bthen hB hb2; clear p0 p1)
    | (go_at_call 101; refine (l01Bits_any hl _ O2.out).mono ?_; rintro e w' ⟨rfl, rfl⟩))
  go_ret2
  exact ⟨rfl, hB2⟩

set_option maxRecDepth 100000 in
set_option maxHeartbeats 1000000 in
theorem specValueAt_yes {base : Nat} {s : Value} {xs : List Int} (hl : xs.length ≤ 1048576) {x R : Nat} (ok : FOk (xs.length : Int) x R) (hd : (xs.all fun v => inB v 0 1) = true) (w : World) (ho : Owns w base s xs) :
    Calls Try.prog 84 #[.agg #[.int .i64 (xs.length : Int), .int .i64 (x : Int)], s] w fun e w' => e = .returned (.tuple #[.int .i64 (bitN x (sumN (dig xs) xs.length) : Int), .int .i64 0]) ∧ Below w.heap.size w w' := by
  have h := ok.is
  have h4 : xs.length ≤ 4 := by have := ok.h4; omega
  have hx := ok.hx
  have hrow : sumN (dig xs) xs.length < 62 := by
    have h1 := sumN_lt (dig xs) xs.length (fun i hi => (dig_ok hd i hi).1)
    have h2 : (2 : Nat) ^ xs.length ≤ 2 ^ 4 := Nat.pow_le_pow_right (by decide) h4
    omega
  obtain ⟨a, cap, rfl⟩ := ho.slice
  obtain ⟨W1, hW1, p0, p1, hB⟩ := valueBox (xs.length : Int) (x : Int) w
  have O1 := Lib.hid (ho.below hB)
  go_enter Try.func84, Try.ntmps84
  go_wp2_with (first
    | (go_at_call 95; refine (l01Is_is h _).mono ?_; rintro e w2 ⟨rfl, hb2⟩; have q0 := kc hb2 p0; have q1 := kc hb2 p1; have O2 := Lib.hid (O1.out.below hb2); have hB2 := bthen hB hb2; clear p0 p1)
    | (go_at_call 101; refine (l01Bits_any hl _ O2.out).mono ?_; rintro e w' ⟨rfl, rfl⟩))
  have OD := Lib.hid (O2.out.below (Below.refl _ _).drew)
  go_region_held3 (fun w' => (w'.cell? ⟨w.heap.size, 0, none⟩ = some (.int .i64 (xs.length : Int)) ∧ w'.cell? ⟨w.heap.size, 1, none⟩ = some (.int .i64 (x : Int))) ∧ Below w2.heap.size w2 w')
    (first | exact ⟨⟨q0, q1⟩, (Below.refl _ _).drew⟩ | exact step_heldW hb5 (by assumption))
    (first
      | (go_at_call 168; refine (l01Row_any h4 hd _ OD.out).mono ?_; rintro e w' ⟨rfl, rfl⟩)
      | (go_at_call 112; refine (l01At_any _ _ _ hx hrow _).mono ?_; rintro e w5 ⟨rfl, hb5⟩))
  have hB3 := bthen hB2 (‹(_ ∧ _) ∧ Below w2.heap.size w2 _›).2
  go_wp2
  go_ret2
  exact ⟨rfl, hB3⟩

theorem bothValueAt {xs : List Int} (hl : xs.length ≤ 1048576) (n b : Int) : ∃ ra rc : Int,
    (∀ (base : Nat) (s : Value) (w : World), Owns w base s xs → Calls Try.prog 84 #[.agg #[.int .i64 n, .int .i64 b], s] w fun e w' => e = .returned (.tuple #[.int .i64 ra, .int .i64 rc]) ∧ Below w.heap.size w w') ∧
    (∀ (base : Nat) (s : Value) (w : World), Owns w base s xs → Calls Try.prog 83 #[.agg #[.int .i64 n, .int .i64 b], s] w fun e w' => e = .returned (.tuple #[.int .i64 ra, .int .i64 rc]) ∧ Below w.heap.size w w') := by
  cases h : isF n b
  · exact ⟨_, _, fun _ _ w ho => specValueAt_no hl h w ho, fun _ _ w ho => implValueAt_no hl h w ho⟩
  · obtain ⟨x, R, rfl, ok⟩ := fok h
    cases hne : ((xs.length : Int) != n)
    · cases hd : (xs.all fun v => inB v 0 1)
      · exact ⟨_, _, fun _ _ w ho => specValueAt_dig hl ok hne hd w ho, fun _ _ w ho => implValueAt_dig hl ok hne hd w ho⟩
      · obtain rfl : (xs.length : Int) = n := by simpa using hne
        exact ⟨_, _, fun _ _ w ho => specValueAt_yes hl ok hd w ho, fun _ _ w ho => implValueAt_yes hl ok hd w ho⟩
    · exact ⟨_, _, fun _ _ w ho => specValueAt_len hl ok hne w ho, fun _ _ w ho => implValueAt_len hl ok hne w ho⟩
end Go.Proofs.Ytjecemeccbfldaa
