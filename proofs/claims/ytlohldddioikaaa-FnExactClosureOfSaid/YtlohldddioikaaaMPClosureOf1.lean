/-
  The texts NM2, NC1, NC2, FClosureOf in one.
-/
import Derived.Test.YtlohldddioikaaaMPRelationsKept5
import Derived.WalkMore
import Derived.Deep.RegionHeld3

/- NM2:
  Closures of sets of digits under steps, as plain words. -/
namespace Go.Proofs.Ytlohldddioikaaa

/-- The digits of y are digits of z. -/
def subN (y z : Nat) : Prop := ∀ k, y.testBit k = true → z.testBit k = true
theorem subN.refl (y : Nat) : subN y y := fun _ h => h
theorem subN.trans {a b c : Nat} (h : subN a b) (k : subN b c) : subN a c := fun i hi => k i (h i hi)
theorem subN.anti {a b : Nat} (h : subN a b) (k : subN b a) : a = b := Nat.eq_of_testBit_eq fun i => by
  rw [Bool.eq_iff_iff]; exact ⟨h i, k i⟩
theorem subN_left (a b : Nat) : subN a (a ||| b) := fun i hi => by rw [Nat.testBit_or, hi]; rfl
theorem subN_or {a b c : Nat} (h : subN a c) (k : subN b c) : subN (a ||| b) c := fun i hi => by
  rw [Nat.testBit_or, Bool.or_eq_true] at hi
  rcases hi with hi | hi
  · exact h i hi
  · exact k i hi
theorem or_of_sub {a b : Nat} (h : subN b a) : a ||| b = a := subN.anti (subN_or (subN.refl a) h) (subN_left a b)
theorem sub_of_or {a b : Nat} (h : a ||| b = a) : subN b a := fun i hi => by rw [← h, Nat.testBit_or, hi, Bool.or_true]
theorem lt_of_or {a b : Nat} (h : a ||| b ≠ a) : a < a ||| b := Nat.lt_of_le_of_ne Nat.left_le_or (fun e => h e.symm)

/-- c is the least set with the digits of y that the steps lead into itself. -/
structure IsCl (L : Nat) (md : Nat → Nat → Nat) (y c : Nat) : Prop where
  has : subN y c
  closed : ∀ i, i < L → subN (md i c) c
  least : ∀ z, subN y z → (∀ i, i < L → subN (md i z) z) → subN c z
theorem IsCl.between {L : Nat} {md : Nat → Nat → Nat} {y y' c : Nat} (h : IsCl L md y c) (h1 : subN y y') (h2 : subN y' c) : IsCl L md y' c :=
  ⟨h2, h.closed, fun z hz hc => h.least z (h1.trans hz) hc⟩
theorem IsCl.step {L : Nat} {md : Nat → Nat → Nat} (mono : ∀ i y z, subN y z → subN (md i y) (md i z)) {y c i : Nat} (h : IsCl L md y c) (hi : i < L) : subN (md i y) c := (mono i y c h.has).trans (h.closed i hi)
theorem IsCl.done {L : Nat} {md : Nat → Nat → Nat} {y c : Nat} (h : IsCl L md y c) (hc : ∀ i, i < L → subN (md i y) y) : y = c := subN.anti h.has (h.least y (subN.refl y) hc)
theorem cl_exists {L : Nat} {md : Nat → Nat → Nat} (mono : ∀ i y z, subN y z → subN (md i y) (md i z)) {Q : Nat} (hb : ∀ i y, md i y < 2 ^ Q) (n : Nat) : ∀ y, y < 2 ^ Q → 2 ^ Q - y ≤ n → ∃ c, c < 2 ^ Q ∧ IsCl L md y c := by
  induction n with
  | zero => intro y hy hn; omega
  | succ n ih =>
    intro y hy hn
    by_cases hc : ∀ i, i < L → subN (md i y) y
    · exact ⟨y, hy, subN.refl y, hc, fun z hz _ => hz⟩
    · obtain ⟨i, hi⟩ := Classical.not_forall.1 hc
      obtain ⟨hi, hs⟩ := Classical.not_imp.1 hi
      have hne : y ||| md i y ≠ y := fun e => hs (sub_of_or e)
      have hlt := lt_of_or hne
      obtain ⟨c, hcQ, h⟩ := ih (y ||| md i y) (Nat.or_lt_two_pow hy (hb i y)) (by omega)
      exact ⟨c, hcQ, (subN_left _ _).trans h.has, h.closed, fun z hz hcl => h.least z (subN_or hz ((mono i y z hz).trans (hcl i hi))) hcl⟩

/-- What the function with the Bits x makes of the tuples y, as digits. -/
def mdN (x P Q m y : Nat) : Nat := orL 0 (madeL x P (tupsL y Q) [] m)
theorem mdN_lt {x P Q m y : Nat} (hQ : Q = 2 ^ P) : mdN x P Q m y < 2 ^ Q := orL_lt (Nat.two_pow_pos Q) (fun t ht => by rw [hQ]; exact madeL_lt ht)
theorem mdN_mono (x P Q m : Nat) {y z : Nat} (h : subN y z) : subN (mdN x P Q m y) (mdN x P Q m z) := fun k hk => by
  unfold mdN at *
  rw [orL_bit, Nat.zero_testBit, Bool.false_or] at *
  have hk' : k ∈ madeL x P (tupsL y Q) [] m := by simpa using hk
  have : k ∈ madeL x P (tupsL z Q) [] m := by
    simp only [madeL, List.mem_map] at *
    obtain ⟨p, hp, e⟩ := hk'
    refine ⟨p, allP_mem.2 ⟨(allP_mem.1 hp).1, fun a ha => ?_⟩, e⟩
    have h1 := tupsL_mem.1 ((allP_mem.1 hp).2 a ha)
    refine tupsL_mem.2 ⟨h1.1, ?_⟩
    have h2 : y.testBit a = true := by
      have := h1.2; rw [bitN_testBit] at this
      cases hy : y.testBit a
      · rw [hy] at this; cases this
      · rfl
    rw [bitN_testBit, h a h2]; rfl
  simpa using this
theorem orL_md (x P Q m y : Nat) : orL y (madeL x P (tupsL y Q) [] m) = y ||| mdN x P Q m y := orL_or _ _
end Go.Proofs.Ytlohldddioikaaa

/- NC1:
  ClosureOf of the program. -/
namespace Go.Proofs.Ytlohldddioikaaa
open Go.RowKit
set_option linter.unusedVariables false
set_option linter.unusedSimpArgs false

theorem allTo_atc {xs : List (Int × Int)} {L i : Nat} (h : allTo xs L = true) (hi : i < L) : isF (fget xs i).1 (fget xs i).2 = true := by
  cases hf : isF (fget xs i).1 (fget xs i).2
  · have := allTo_false hi hf
    rw [h] at this; cases this
  · rfl
/-- The steps of a list of functions. -/
def mdL (xs : List (Int × Int)) (P Q : Nat) (i y : Nat) : Nat := mdN (fget xs i).2.toNat P Q (fget xs i).1.toNat y
theorem mdL_mono (xs : List (Int × Int)) (P Q : Nat) : ∀ i y z, subN y z → subN (mdL xs P Q i y) (mdL xs P Q i z) := fun i y z h => mdN_mono _ _ _ _ h
theorem mdL_lt (xs : List (Int × Int)) {P Q : Nat} (hQ : Q = 2 ^ P) : ∀ i y, mdL xs P Q i y < 2 ^ Q := fun i y => mdN_lt hQ
theorem withMade_p {p : Int × Int} (h : isF p.1 p.2 = true) {P y Q : Nat} (okr : ROk (P : Int) y Q) {z : Nat} (hz : y ||| mdN p.2.toNat P Q p.1.toNat y = z) (w : World) :
    Calls Try.prog 70 #[.agg #[.int .i64 p.1, .int .i64 p.2], .agg #[.int .i64 P, .int .i64 y]] w fun e w' => e = .returned (.agg #[.int .i64 P, .int .i64 (z : Int)]) ∧ Below w.heap.size w w' := by
  obtain ⟨k, x, R, e1, e2, k4, ok⟩ := fok_nat h
  rw [← hz, ← orL_md, e1, e2, Int.toNat_natCast, Int.toNat_natCast]
  exact withMade_any ok k4 okr w
theorem ROk.with {n : Int} {y z Q : Nat} (ok : ROk n y Q) (hz : z < 2 ^ Q) : ROk n z Q :=
  { ok with hB := hz, hx := Nat.lt_of_lt_of_le hz (Nat.le_trans (Nat.pow_le_pow_right (by decide) ok.r16) (by decide : 2 ^ 16 ≤ 2 ^ 62)) }

/-- The memory of the search: the set at block B, the answer's box at block C. -/
structure ClM (w0 : World) (B C P y : Nat) (W : World) : Prop where
  b0 : W.cell? ⟨B, 0, none⟩ = some (.int .i64 (P : Int))
  b1 : W.cell? ⟨B, 1, none⟩ = some (.int .i64 (y : Int))
  k0 : W.frozen? ⟨B, 0, none⟩ = false
  k1 : W.frozen? ⟨B, 1, none⟩ = false
  c0 : W.cell? ⟨C, 0, none⟩ = some (.int .i64 0)
  c1 : W.cell? ⟨C, 1, none⟩ = some (.int .i64 0)
  f0 : W.frozen? ⟨C, 0, none⟩ = false
  f1 : W.frozen? ⟨C, 1, none⟩ = false
  old : Below w0.heap.size w0 W
theorem ClM.below {w0 : World} {B C P y : Nat} {W W' : World} (h : ClM w0 B C P y W) (hb : Below W.heap.size W W') : ClM w0 B C P y W' :=
  ⟨kc hb h.b0, kc hb h.b1, kf hb h.b0 h.k0, kf hb h.b1 h.k1, kc hb h.c0, kc hb h.c1, kf hb h.c0 h.f0, kf hb h.c1 h.f1, bthen h.old hb⟩
theorem ClM.set {w0 : World} {B C P y : Nat} {W : World} (h : ClM w0 B C P y W) (hne : C ≠ B) (hB : w0.heap.size ≤ B) (z : Nat) : ClM w0 B C P z ((W.setCell ⟨B, 0, none⟩ (.int .i64 (P : Int))).setCell ⟨B, 1, none⟩ (.int .i64 (z : Int))) :=
  ⟨by simp [go_sem, h.b0, h.b1], by simp [go_sem, h.b0, h.b1], by simp [go_sem, h.k0], by simp [go_sem, h.k1], by simp [go_sem, h.c0, hne], by simp [go_sem, h.c1, hne], by simp [go_sem, h.f0], by simp [go_sem, h.f1], (h.old.setCell (p := ⟨B, 0, none⟩) (by simpa using hB) _).setCell (p := ⟨B, 1, none⟩) (by simpa using hB) _⟩
/-- The number in the second cell of block B. -/
def bitsAt (W : World) (B : Nat) : Nat := match W.cell? ⟨B, 1, none⟩ with
  | some (.int _ n) => n.toNat
  | _ => 0
theorem ClM.bits {w0 : World} {B C P y : Nat} {W : World} (h : ClM w0 B C P y W) : bitsAt W B = y := by
  unfold bitsAt; rw [h.b1]; simp

set_option maxRecDepth 100000 in
set_option maxHeartbeats 8000000 in
theorem implClosureOf_inv {n b : Int} (h : isR n b = false) (s : Value) (w : World) :
    Calls Try.prog 38 #[s, .agg #[.int .i64 n, .int .i64 b]] w fun e w' => e = .returned (.tuple #[.agg #[.int .i64 0, .int .i64 0], .int .i64 1]) ∧ Below w.heap.size w w' := by
  obtain ⟨W1, hW1⟩ : ∃ W1, (w.alloc (.cells #[.int .i64 n, .int .i64 b] 25)).alloc (.cells #[.int .i64 0, .int .i64 0] 25) = W1 := ⟨_, rfl⟩
  have p0 : W1.cell? ⟨w.heap.size, 0, none⟩ = some (.int .i64 n) := by rw [← hW1]; simp [go_sem]
  have p1 : W1.cell? ⟨w.heap.size, 1, none⟩ = some (.int .i64 b) := by rw [← hW1]; simp [go_sem]
  have c0 : W1.cell? ⟨w.heap.size + 1, 0, none⟩ = some (.int .i64 0) := by rw [← hW1]; simp [go_sem]
  have c1 : W1.cell? ⟨w.heap.size + 1, 1, none⟩ = some (.int .i64 0) := by rw [← hW1]; simp [go_sem]
  have f0 : W1.frozen? ⟨w.heap.size + 1, 0, none⟩ = false := by rw [← hW1]; simp [go_sem]
  have f1 : W1.frozen? ⟨w.heap.size + 1, 1, none⟩ = false := by rw [← hW1]; simp [go_sem]
  have hB : Below w.heap.size w W1 := by rw [← hW1]; exact balloc (bnew _ _) _
  go_enter Try.func38, Try.ntmps38
  go_wp2
  clear hW1
  go_step3
  go_wp2_with (first
    | (go_at_call 17; refine (IsRelation_is h _).mono ?_; rintro e w2 ⟨rfl, hb2⟩; have qp0 := kc hb2 p0; have qp1 := kc hb2 p1; have qc0 := kc hb2 c0; have qc1 := kc hb2 c1; have qf0 := kf hb2 c0 f0; have qf1 := kf hb2 c1 f1; have hB2 := bthen hB hb2; clear p0 p1 c0 c1 f0 f1 hB))
  rw [Exit.noGoto_ret]
  exact bodyPost_ret (v := .tuple #[.agg #[.int .i64 0, .int .i64 0], .int .i64 1]) (by simp [results, Try.results38, go_sem, qc0, qc1]) rfl ⟨rfl, (hB2.setCell (p := ⟨w.heap.size + 1, 0, none⟩) (by simp) _).setCell (p := ⟨w.heap.size + 1, 1, none⟩) (by simp) _⟩

set_option maxRecDepth 100000 in
set_option maxHeartbeats 8000000 in
theorem implClosureOf_code {n b : Int} (h : isR n b = true) {base : Nat} {s : Value} {xs : List (Int × Int)} (hl : xs.length ≤ 1048576) {c : Int} (hc : codeL xs = c) (hz : (c != 0) = true) (w : World) (ho : OwnsF w base s xs) :
    Calls Try.prog 38 #[s, .agg #[.int .i64 n, .int .i64 b]] w fun e w' => e = .returned (.tuple #[.agg #[.int .i64 0, .int .i64 0], .int .i64 c]) ∧ Below w.heap.size w w' := by
  obtain ⟨W1, hW1⟩ : ∃ W1, (w.alloc (.cells #[.int .i64 n, .int .i64 b] 25)).alloc (.cells #[.int .i64 0, .int .i64 0] 25) = W1 := ⟨_, rfl⟩
  have p0 : W1.cell? ⟨w.heap.size, 0, none⟩ = some (.int .i64 n) := by rw [← hW1]; simp [go_sem]
  have p1 : W1.cell? ⟨w.heap.size, 1, none⟩ = some (.int .i64 b) := by rw [← hW1]; simp [go_sem]
  have c0 : W1.cell? ⟨w.heap.size + 1, 0, none⟩ = some (.int .i64 0) := by rw [← hW1]; simp [go_sem]
  have c1 : W1.cell? ⟨w.heap.size + 1, 1, none⟩ = some (.int .i64 0) := by rw [← hW1]; simp [go_sem]
  have f0 : W1.frozen? ⟨w.heap.size + 1, 0, none⟩ = false := by rw [← hW1]; simp [go_sem]
  have f1 : W1.frozen? ⟨w.heap.size + 1, 1, none⟩ = false := by rw [← hW1]; simp [go_sem]
  have hB : Below w.heap.size w W1 := by rw [← hW1]; exact balloc (bnew _ _) _
  go_enter Try.func38, Try.ntmps38
  go_wp2
  clear hW1
  go_step3
  go_wp2_with (first
    | (go_at_call 17; refine (IsRelation_is h _).mono ?_; rintro e w2 ⟨rfl, hb2⟩; have qp0 := kc hb2 p0; have qp1 := kc hb2 p1; have qc0 := kc hb2 c0; have qc1 := kc hb2 c1; have qf0 := kf hb2 c0 f0; have qf1 := kf hb2 c1 f1; have hB2 := bthen hB hb2; clear p0 p1 c0 c1 f0 f1 hB)
    | (go_at_call 68; refine (listCode_any hl _ (ho.below hB2) hc).mono ?_; rintro e w3 ⟨rfl, hb3⟩; have sp0 := kc hb3 qp0; have sp1 := kc hb3 qp1; have sc0 := kc hb3 qc0; have sc1 := kc hb3 qc1; have sf0 := kf hb3 qc0 qf0; have sf1 := kf hb3 qc1 qf1; have hB3 := bthen hB2 hb3; clear qp0 qp1 qc0 qc1 qf0 qf1 hB2))
  rw [Exit.noGoto_ret]
  exact bodyPost_ret (v := .tuple #[.agg #[.int .i64 0, .int .i64 0], .int .i64 c]) (by simp [results, Try.results38, go_sem, sc0, sc1]) rfl ⟨rfl, (hB3.setCell (p := ⟨w.heap.size + 1, 0, none⟩) (by simp) _).setCell (p := ⟨w.heap.size + 1, 1, none⟩) (by simp) _⟩

set_option maxRecDepth 100000 in
set_option maxHeartbeats 8000000 in
theorem implClosureOf_yes {P y Q : Nat} (okr : ROk (P : Int) y Q) {base : Nat} {s : Value} {xs : List (Int × Int)} (hl : xs.length ≤ 1048576) (hc : codeL xs = 0) (hall : allTo xs xs.length = true) {cl : Nat} (hcl : IsCl xs.length (mdL xs P Q) y cl) (hcQ : cl < 2 ^ Q) (w : World) (ho : OwnsF w base s xs) :
    Calls Try.prog 38 #[s, .agg #[.int .i64 P, .int .i64 y]] w fun e w' => e = .returned (.tuple #[.agg #[.int .i64 P, .int .i64 (cl : Int)], .int .i64 0]) ∧ Below w.heap.size w w' := by
  obtain ⟨W1, hW1⟩ : ∃ W1, (w.alloc (.cells #[.int .i64 (P : Int), .int .i64 (y : Int)] 25)).alloc (.cells #[.int .i64 0, .int .i64 0] 25) = W1 := ⟨_, rfl⟩
  have p0 : W1.cell? ⟨w.heap.size, 0, none⟩ = some (.int .i64 (P : Int)) := by rw [← hW1]; simp [go_sem]
  have p1 : W1.cell? ⟨w.heap.size, 1, none⟩ = some (.int .i64 (y : Int)) := by rw [← hW1]; simp [go_sem]
  have c0 : W1.cell? ⟨w.heap.size + 1, 0, none⟩ = some (.int .i64 0) := by rw [← hW1]; simp [go_sem]
  have c1 : W1.cell? ⟨w.heap.size + 1, 1, none⟩ = some (.int .i64 0) := by rw [← hW1]; simp [go_sem]
  have f0 : W1.frozen? ⟨w.heap.size + 1, 0, none⟩ = false := by rw [← hW1]; simp [go_sem]
  have f1 : W1.frozen? ⟨w.heap.size + 1, 1, none⟩ = false := by rw [← hW1]; simp [go_sem]
  have hB : Below w.heap.size w W1 := by rw [← hW1]; exact balloc (bnew _ _) _
  have hQ : Q = 2 ^ P := by have := okr.he; simpa using this
  have LC := Lib.hid (fun W hb => listCode_any hl W (ho.below (W' := W) hb) hc)
  have hir := okr.is
  obtain ⟨a, cap, rfl, hrow⟩ := ho.cells
  have HROW := Lib.hid hrow
  have HFA : Hid (∀ i z, xs.length > i → ∀ z2, ROk (P : Int) z Q → z ||| mdL xs P Q i z = z2 → ∀ W, Calls Try.prog 70 #[.agg #[.int .i64 (fget xs i).1, .int .i64 (fget xs i).2], .agg #[.int .i64 P, .int .i64 z]] W fun e w' => e = .returned (.agg #[.int .i64 P, .int .i64 (z2 : Int)]) ∧ Below W.heap.size W w') :=
    Lib.hid fun i z hi z2 ok hz W => withMade_p (allTo_atc hall hi) ok hz W
  have MD := Lib.hid (mdL_mono xs P Q)
  obtain ⟨M, HOR, HROK, MDL, hyM⟩ : ∃ M, Hid (∀ a b, a < M → b < M → a ||| b < M) ∧ Hid (∀ z, z < M → ROk (P : Int) z Q) ∧ Hid (∀ i z, mdL xs P Q i z < M) ∧ y < M :=
    ⟨2 ^ Q, Lib.hid fun a b => Nat.or_lt_two_pow, Lib.hid fun z hz => okr.with hz, Lib.hid (mdL_lt xs hQ), okr.hB⟩
  have HCL := Lib.hid hcl
  clear ho hrow hall hc hcl hQ hcQ okr
  generalize mdL xs P Q = md at HFA MD MDL HCL
  generalize hL : xs.length = L at hl HROW LC HCL HFA ⊢
  clear hL
  go_enter Try.func38, Try.ntmps38
  go_wp2
  clear hW1
  go_step3
  go_wp2_with (first
    | (go_at_call 17; refine (IsRelation_is hir _).mono ?_; rintro e w2 ⟨rfl, hb2⟩; have qp0 := kc hb2 p0; have qp1 := kc hb2 p1; have qc0 := kc hb2 c0; have qc1 := kc hb2 c1; have qf0 := kf hb2 c0 f0; have qf1 := kf hb2 c1 f1; have hB2 := bthen hB hb2; clear p0 p1 c0 c1 f0 f1 hB)
    | (go_at_call 68; refine (LC.out _ hB2).mono ?_; rintro e w3 ⟨rfl, hb3⟩; have sp0 := kc hb3 qp0; have sp1 := kc hb3 qp1; have sc0 := kc hb3 qc0; have sc1 := kc hb3 qc1; have sf0 := kf hb3 qc0 qf0; have sf1 := kf hb3 qc1 qf1; have hB3 := bthen hB2 hb3; clear qp0 qp1 qc0 qc1 qf0 qf1 hB2))
  obtain ⟨W4, hW4⟩ : ∃ W4, w3.alloc (.cells #[.int .i64 (P : Int), .int .i64 (y : Int)] 25) = W4 := ⟨_, rfl⟩
  have g0 : W4.cell? ⟨w3.heap.size, 0, none⟩ = some (.int .i64 (P : Int)) := by rw [← hW4]; simp [go_sem]
  have g1 : W4.cell? ⟨w3.heap.size, 1, none⟩ = some (.int .i64 (y : Int)) := by rw [← hW4]; simp [go_sem]
  have k0 : W4.frozen? ⟨w3.heap.size, 0, none⟩ = false := by rw [← hW4]; simp [go_sem]
  have k1 : W4.frozen? ⟨w3.heap.size, 1, none⟩ = false := by rw [← hW4]; simp [go_sem]
  have hb4 : Below w3.heap.size w3 W4 := by rw [← hW4]; exact bnew _ _
  have tp0 := kc hb4 sp0
  have tp1 := kc hb4 sp1
  have tc0 := kc hb4 sc0
  have tc1 := kc hb4 sc1
  have tf0 := kf hb4 sc0 sf0
  have tf1 := kf hb4 sc1 sf1
  have hB4 := bthen hB3 hb4
  have lC := cell_lt sc0
  have hC : w.heap.size + 1 < w3.heap.size := lC
  have hM0 : ClM w w3.heap.size (w.heap.size + 1) P y W4 := ⟨g0, g1, k0, k1, tc0, tc1, tf0, tf1, hB4⟩
  clear g0 g1 k0 k1 tc0 tc1 tf0 tf1 tp0 tp1 sp0 sp1 sc0 sc1 sf0 sf1 lC hb4 hb3 hb2
  obtain ⟨C, hCe⟩ : ∃ C, C = w.heap.size + 1 := ⟨_, rfl⟩
  obtain ⟨B, hBe⟩ : ∃ B, B = w3.heap.size := ⟨_, rfl⟩
  rw [← hBe, ← hCe] at hM0 hC
  have hne : C ≠ B := by omega
  have hCw : w.heap.size ≤ C := by omega
  have hBw : w.heap.size ≤ B := by have h1 := hB3.size; rw [← hBe] at h1; exact h1
  go_step3
  go_wp2_with fail
  try rw [hW4]
  try rw [← hBe]
  try rw [← hCe]
  clear hW4 hBe hCe hB3 hB4
  go_loopw [] (fun wr => ∃ y' : Nat, y' < M ∧ Hid (IsCl L md y' cl) ∧ ClM w B C P y' wr) (fun wr => M - bitsAt wr B)
  case atStart => exact ⟨y, hyM, HCL, hM0⟩
  case round =>
    obtain ⟨y', hyl, hcl, hM⟩ := hrel
    go_wp2_with fail
    go_loopw [24] (fun i' wr => ∃ i : Nat, i ≤ L ∧ i' = .int .i64 i ∧ Hid (∀ j, j < i → subN (md j y') y') ∧ ClM w B C P y' wr) (fun i' _ => L - (intOf i').toNat)
    case atStart => exact ⟨0, Nat.zero_le _, rfl, Lib.hid (fun j hj => by omega), hM⟩
    case round =>
      have BO := hM.bits
      clear hM
      obtain ⟨i, hi', rfl, hst, hM⟩ := hrel
      by_cases hil : i < L
      · obtain ⟨g, rfl, hg, hc⟩ : ∃ g, a = some ⟨g, 0, none⟩ ∧ g < w.heap.size ∧ Hid (∀ j, j < L → w.cell? ⟨g, j * 2, none⟩ = some (.int .i64 (fget xs j).1) ∧ w.cell? ⟨g, j * 2 + 1, none⟩ = some (.int .i64 (fget xs j).2)) := by
          rcases HROW.out with h0 | h1
          · omega
          · exact h1
        obtain ⟨x0, x1⟩ := hc.out i hil
        have e0 := (hM.old.cell (p := ⟨g, i * 2, none⟩) hg).trans x0
        have e1 := (hM.old.cell (p := ⟨g, i * 2 + 1, none⟩) hg).trans x1
        clear x0 x1
        obtain ⟨d0, d1, k0, k1, -, -, -, -, -⟩ := id hM
        have lB := cell_lt d0
        have lB' : B < wr.heap.size := lB
        obtain ⟨z, hz⟩ : ∃ z, y' ||| md i y' = z := ⟨_, rfl⟩
        have WM := Lib.hid (HFA.out i y' hil z (HROK.out y' hyl) hz)
        generalize fget xs i = p at e0 e1 WM
        have HM := Lib.hid hM
        clear hM lB
        by_cases hzy : z = y'
        · have HS : Hid (∀ j, j < i + 1 → subN (md j y') y') := Lib.hid fun j hj => by
            by_cases hji : j = i
            · subst hji; exact sub_of_or (by rw [hz, hzy])
            · exact hst.out j (by omega)
          clear hz hst
          subst hzy
          go_wp2_with (go_at_call 70; refine (WM.out _).mono ?_; rintro e w5 ⟨rfl, hb5⟩; have HM5 := Lib.hid ((HM.out.below (bnew _ _)).below hb5); have s0 := HM5.out.b0; have s1 := HM5.out.b1; have lB5 : B < w5.heap.size := cell_lt s0)
          go_roundw
          case rel => exact ⟨i + 1, by omega, by go_num, HS, HM5.out.below (bnew _ _)⟩
          case measure => simp [intOf]; omega
        · have hzi : decide ((z : Int) = (y' : Int)) = false := by simp; omega
          have hzj : ¬ (z : Int) = (y' : Int) := by omega
          have hzM : z < M := by rw [← hz]; exact HOR.out _ _ hyl (MDL.out i y')
          have hgt : y' < z := by rw [← hz]; exact lt_of_or (by rw [hz]; exact hzy)
          have HZ := Lib.hid (hcl.out.between (by rw [← hz]; exact subN_left _ _ : subN y' z) (by rw [← hz]; exact subN_or hcl.out.has (hcl.out.step MD.out hil)))
          clear hz hst
          go_wp2_with (go_at_call 70; refine (WM.out _).mono ?_; rintro e w5 ⟨rfl, hb5⟩; have HM5 := Lib.hid ((HM.out.below (bnew _ _)).below hb5); have s0 := HM5.out.b0; have s1 := HM5.out.b1; have s2 := HM5.out.k0; have s3 := HM5.out.k1; have lB5 : B < w5.heap.size := cell_lt s0)
          have HM6 := (HM5.out.set hne hBw z).below (bnew _ (.cells #[.int .i64 (P : Int), .int .i64 (z : Int)] 25))
          go_roundw
          case rel => exact ⟨z, hzM, HZ, HM6⟩
          case measure => rw [HM6.bits, BO]; omega
      · obtain rfl : i = L := by omega
        obtain rfl := hcl.out.done hst.out
        obtain ⟨d0, d1, k0, k1, c0, c1, f0, f1, hold⟩ := hM
        have lB := cell_lt d0
        go_wp2
        exact bodyPost_ret (v := .tuple #[.agg #[.int .i64 (P : Int), .int .i64 (y' : Int)], .int .i64 0]) (by simp [results, Try.results38, go_sem, c0, c1]) rfl ⟨rfl, (hold.setCell (p := ⟨C, 0, none⟩) (by simp; omega) _).setCell (p := ⟨C, 1, none⟩) (by simp; omega) _⟩
end Go.Proofs.Ytlohldddioikaaa

/- NC2:
  ClosureOf of the model. -/
namespace Go.Proofs.Ytlohldddioikaaa
open Go.RowKit
set_option linter.unusedVariables false
set_option linter.unusedSimpArgs false

theorem ClM.set1 {w0 : World} {B C P y : Nat} {W : World} (h : ClM w0 B C P y W) (hne : C ≠ B) (hB : w0.heap.size ≤ B) (z : Nat) : ClM w0 B C P z (W.setCell ⟨B, 1, none⟩ (.int .i64 (z : Int))) :=
  ⟨by simp [go_sem, h.b0], by simp [go_sem, h.b1], by simp [go_sem, h.k0], by simp [go_sem, h.k1], by simp [go_sem, h.c0, hne], by simp [go_sem, h.c1, hne], by simp [go_sem, h.f0], by simp [go_sem, h.f1], h.old.setCell (p := ⟨B, 1, none⟩) (by simpa using hB) _⟩
theorem l06Made_p {p : Int × Int} (h : isF p.1 p.2 = true) {P y Q : Nat} (okr : ROk (P : Int) y Q) (W : World) (s : Value) (g : Nat) (ho : Owns W 0 s (nI (tupsL y Q))) :
    Calls Try.prog 69 #[.agg #[.int .i64 p.1, .int .i64 p.2], .agg #[.int .i64 P, .int .i64 (y : Int)], s, .slice (some ⟨g, 0, none⟩) 0 0] W fun e w' => e = .returned (.int .i64 (mdN p.2.toNat P Q p.1.toNat y : Int)) ∧ Below W.heap.size W w' := by
  obtain ⟨k, x, R, e1, e2, k4, ok⟩ := fok_nat h
  have htl := tupsL_len y Q
  have hQ16 := okr.r16
  have hQ : Q = 2 ^ P := by have := okr.he; simpa using this
  unfold mdN
  rw [e1, e2, Int.toNat_natCast, Int.toNat_natCast]
  exact l06Made_any ok k4 okr (tupsL y Q) (by omega) (fun a ha => by have := (tupsL_mem.1 ha).1; omega) k [] g 0 s W (by simp) (fun a ha => by simp at ha) ho (Lib.hid fun j hj => by simp at hj)

set_option maxRecDepth 100000 in
set_option maxHeartbeats 8000000 in
theorem specClosureOf_no1 {n b : Int} {base : Nat} {s : Value} {xs : List (Int × Int)} (hl : xs.length ≤ 1048576) (hc : codeL xs = 1) (w : World) (ho : OwnsF w base s xs) :
    Calls Try.prog 37 #[s, .agg #[.int .i64 n, .int .i64 b]] w fun e w' => e = .returned (.tuple #[.agg #[.int .i64 0, .int .i64 0], .int .i64 1]) ∧ Below w.heap.size w w' := by
  obtain ⟨W1, hW1⟩ : ∃ W1, (w.alloc (.cells #[.int .i64 n, .int .i64 b] 25)).alloc (.cells #[.int .i64 0, .int .i64 0] 25) = W1 := ⟨_, rfl⟩
  have c0 : W1.cell? ⟨w.heap.size + 1, 0, none⟩ = some (.int .i64 0) := by rw [← hW1]; simp [go_sem]
  have c1 : W1.cell? ⟨w.heap.size + 1, 1, none⟩ = some (.int .i64 0) := by rw [← hW1]; simp [go_sem]
  have f0 : W1.frozen? ⟨w.heap.size + 1, 0, none⟩ = false := by rw [← hW1]; simp [go_sem]
  have f1 : W1.frozen? ⟨w.heap.size + 1, 1, none⟩ = false := by rw [← hW1]; simp [go_sem]
  have hB : Below w.heap.size w W1 := by rw [← hW1]; exact balloc (bnew _ _) _
  go_enter Try.func37, Try.ntmps37
  go_wp2_with fail
  clear hW1
  refine (l02Code_any hl _ (ho.below hB) hc).mono ?_
  rintro e w2 ⟨rfl, hb2⟩
  have qc0 := kc hb2 c0
  have qc1 := kc hb2 c1
  have qf0 := kf hb2 c0 f0
  have qf1 := kf hb2 c1 f1
  clear c0 c1 f0 f1
  have hB2 := bthen hB hb2
  go_wp2
  exact bodyPost_ret (v := .tuple #[.agg #[.int .i64 0, .int .i64 0], .int .i64 1]) (by simp [results, Try.results37, go_sem, qc0, qc1]) rfl ⟨rfl, (hB2.setCell (p := ⟨w.heap.size + 1, 0, none⟩) (by simp) _).setCell (p := ⟨w.heap.size + 1, 1, none⟩) (by simp) _⟩

set_option maxRecDepth 100000 in
set_option maxHeartbeats 8000000 in
theorem specClosureOf_no2 {n b : Int} (h : isR n b = false) {base : Nat} {s : Value} {xs : List (Int × Int)} (hl : xs.length ≤ 1048576) {c : Int} (hc : codeL xs = c) (hc1 : (c == 1) = false) (w : World) (ho : OwnsF w base s xs) :
    Calls Try.prog 37 #[s, .agg #[.int .i64 n, .int .i64 b]] w fun e w' => e = .returned (.tuple #[.agg #[.int .i64 0, .int .i64 0], .int .i64 1]) ∧ Below w.heap.size w w' := by
  obtain ⟨W1, hW1⟩ : ∃ W1, (w.alloc (.cells #[.int .i64 n, .int .i64 b] 25)).alloc (.cells #[.int .i64 0, .int .i64 0] 25) = W1 := ⟨_, rfl⟩
  have p0 : W1.cell? ⟨w.heap.size, 0, none⟩ = some (.int .i64 n) := by rw [← hW1]; simp [go_sem]
  have p1 : W1.cell? ⟨w.heap.size, 1, none⟩ = some (.int .i64 b) := by rw [← hW1]; simp [go_sem]
  have c0 : W1.cell? ⟨w.heap.size + 1, 0, none⟩ = some (.int .i64 0) := by rw [← hW1]; simp [go_sem]
  have c1 : W1.cell? ⟨w.heap.size + 1, 1, none⟩ = some (.int .i64 0) := by rw [← hW1]; simp [go_sem]
  have f0 : W1.frozen? ⟨w.heap.size + 1, 0, none⟩ = false := by rw [← hW1]; simp [go_sem]
  have f1 : W1.frozen? ⟨w.heap.size + 1, 1, none⟩ = false := by rw [← hW1]; simp [go_sem]
  have hB : Below w.heap.size w W1 := by rw [← hW1]; exact balloc (bnew _ _) _
  go_enter Try.func37, Try.ntmps37
  go_wp2_with fail
  clear hW1
  refine (l02Code_any hl _ (ho.below hB) hc).mono ?_
  rintro e w2 ⟨rfl, hb2⟩
  have qp0 := kc hb2 p0
  have qp1 := kc hb2 p1
  have qc0 := kc hb2 c0
  have qc1 := kc hb2 c1
  have qf0 := kf hb2 c0 f0
  have qf1 := kf hb2 c1 f1
  clear p0 p1 c0 c1 f0 f1
  have hB2 := bthen hB hb2
  go_wp2_with fail
  refine (l06Is_is h _).mono ?_
  rintro e w3 ⟨rfl, hb3⟩
  have sc0 := kc hb3 qc0
  have sc1 := kc hb3 qc1
  have sf0 := kf hb3 qc0 qf0
  have sf1 := kf hb3 qc1 qf1
  clear qp0 qp1 qc0 qc1 qf0 qf1
  have hB3 := bthen hB2 hb3
  go_wp2
  exact bodyPost_ret (v := .tuple #[.agg #[.int .i64 0, .int .i64 0], .int .i64 1]) (by simp [results, Try.results37, go_sem, sc0, sc1]) rfl ⟨rfl, (hB3.setCell (p := ⟨w.heap.size + 1, 0, none⟩) (by simp) _).setCell (p := ⟨w.heap.size + 1, 1, none⟩) (by simp) _⟩

set_option maxRecDepth 100000 in
set_option maxHeartbeats 8000000 in
theorem specClosureOf_no3 {n b : Int} (h : isR n b = true) {base : Nat} {s : Value} {xs : List (Int × Int)} (hl : xs.length ≤ 1048576) {c : Int} (hc : codeL xs = c) (hc1 : (c == 1) = false) (hz : (c != 0) = true) (w : World) (ho : OwnsF w base s xs) :
    Calls Try.prog 37 #[s, .agg #[.int .i64 n, .int .i64 b]] w fun e w' => e = .returned (.tuple #[.agg #[.int .i64 0, .int .i64 0], .int .i64 c]) ∧ Below w.heap.size w w' := by
  obtain ⟨W1, hW1⟩ : ∃ W1, (w.alloc (.cells #[.int .i64 n, .int .i64 b] 25)).alloc (.cells #[.int .i64 0, .int .i64 0] 25) = W1 := ⟨_, rfl⟩
  have p0 : W1.cell? ⟨w.heap.size, 0, none⟩ = some (.int .i64 n) := by rw [← hW1]; simp [go_sem]
  have p1 : W1.cell? ⟨w.heap.size, 1, none⟩ = some (.int .i64 b) := by rw [← hW1]; simp [go_sem]
  have c0 : W1.cell? ⟨w.heap.size + 1, 0, none⟩ = some (.int .i64 0) := by rw [← hW1]; simp [go_sem]
  have c1 : W1.cell? ⟨w.heap.size + 1, 1, none⟩ = some (.int .i64 0) := by rw [← hW1]; simp [go_sem]
  have f0 : W1.frozen? ⟨w.heap.size + 1, 0, none⟩ = false := by rw [← hW1]; simp [go_sem]
  have f1 : W1.frozen? ⟨w.heap.size + 1, 1, none⟩ = false := by rw [← hW1]; simp [go_sem]
  have hB : Below w.heap.size w W1 := by rw [← hW1]; exact balloc (bnew _ _) _
  go_enter Try.func37, Try.ntmps37
  go_wp2_with fail
  clear hW1
  refine (l02Code_any hl _ (ho.below hB) hc).mono ?_
  rintro e w2 ⟨rfl, hb2⟩
  have qp0 := kc hb2 p0
  have qp1 := kc hb2 p1
  have qc0 := kc hb2 c0
  have qc1 := kc hb2 c1
  have qf0 := kf hb2 c0 f0
  have qf1 := kf hb2 c1 f1
  clear p0 p1 c0 c1 f0 f1
  have hB2 := bthen hB hb2
  go_wp2_with fail
  refine (l06Is_is h _).mono ?_
  rintro e w3 ⟨rfl, hb3⟩
  have sc0 := kc hb3 qc0
  have sc1 := kc hb3 qc1
  have sf0 := kf hb3 qc0 qf0
  have sf1 := kf hb3 qc1 qf1
  clear qp0 qp1 qc0 qc1 qf0 qf1
  have hB3 := bthen hB2 hb3
  go_wp2
  exact bodyPost_ret (v := .tuple #[.agg #[.int .i64 0, .int .i64 0], .int .i64 c]) (by simp [results, Try.results37, go_sem, sc0, sc1]) rfl ⟨rfl, (hB3.setCell (p := ⟨w.heap.size + 1, 0, none⟩) (by simp) _).setCell (p := ⟨w.heap.size + 1, 1, none⟩) (by simp) _⟩

set_option maxRecDepth 100000 in
set_option maxHeartbeats 8000000 in
theorem specClosureOf_yes {P y Q : Nat} (okr : ROk (P : Int) y Q) {base : Nat} {s : Value} {xs : List (Int × Int)} (hl : xs.length ≤ 1048576) (hc : codeL xs = 0) (hall : allTo xs xs.length = true) {cl : Nat} (hcl : IsCl xs.length (mdL xs P Q) y cl) (w : World) (ho : OwnsF w base s xs) :
    Calls Try.prog 37 #[s, .agg #[.int .i64 P, .int .i64 y]] w fun e w' => e = .returned (.tuple #[.agg #[.int .i64 P, .int .i64 (cl : Int)], .int .i64 0]) ∧ Below w.heap.size w w' := by
  obtain ⟨W1, hW1⟩ : ∃ W1, (w.alloc (.cells #[.int .i64 (P : Int), .int .i64 (y : Int)] 25)).alloc (.cells #[.int .i64 0, .int .i64 0] 25) = W1 := ⟨_, rfl⟩
  have hM1 : ClM w w.heap.size (w.heap.size + 1) P y W1 := by
    rw [← hW1]
    exact ⟨by simp [go_sem], by simp [go_sem], by simp [go_sem], by simp [go_sem], by simp [go_sem], by simp [go_sem], by simp [go_sem], by simp [go_sem], balloc (bnew _ _) _⟩
  have p0 := hM1.b0
  have p1 := hM1.b1
  have hQ : Q = 2 ^ P := by have := okr.he; simpa using this
  have hQ16 := okr.r16
  have LC := Lib.hid (fun W hb => l02Code_any hl W (ho.below (W' := W) hb) hc)
  have hir := okr.is
  obtain ⟨a, cap, rfl, hrow⟩ := ho.cells
  have HROW := Lib.hid hrow
  have HFA : Hid (∀ i z, xs.length > i → ROk (P : Int) z Q → ∀ W s g, Owns W 0 s (nI (tupsL z Q)) → Calls Try.prog 69 #[.agg #[.int .i64 (fget xs i).1, .int .i64 (fget xs i).2], .agg #[.int .i64 P, .int .i64 (z : Int)], s, .slice (some ⟨g, 0, none⟩) 0 0] W fun e w' => e = .returned (.int .i64 (mdL xs P Q i z : Int)) ∧ Below W.heap.size W w') :=
    Lib.hid fun i z hi ok W s g o => l06Made_p (allTo_atc hall hi) ok W s g o
  have LST : Hid (∀ z, ROk (P : Int) z Q → ∀ W, Calls Try.prog 57 #[.agg #[.int .i64 P, .int .i64 (z : Int)]] W fun e w' => ∃ s, e = .returned s ∧ Owns w' W.heap.size s (nI (tupsL z Q)) ∧ Below W.heap.size W w') := Lib.hid fun z ok W => l06List_any ok.toFOk W
  have MD := Lib.hid (mdL_mono xs P Q)
  obtain ⟨M, HOR, HROK, MDL, hyM, HOI⟩ : ∃ M, Hid (∀ a b, a < M → b < M → a ||| b < M) ∧ Hid (∀ z, z < M → ROk (P : Int) z Q) ∧ Hid (∀ i z, mdL xs P Q i z < M) ∧ y < M ∧ Hid (∀ a b : Nat, a < M → b < M → bits .or .i64 (a : Int) (b : Int) = ((a ||| b : Nat) : Int)) :=
    ⟨2 ^ Q, Lib.hid fun a b => Nat.or_lt_two_pow, Lib.hid fun z hz => okr.with hz, Lib.hid (mdL_lt xs hQ), okr.hB, Lib.hid fun a b ha hb => by
      have h1 : 2 ^ Q ≤ 2 ^ 16 := Nat.pow_le_pow_right (by decide) hQ16
      exact bits_or_nat a b (Nat.lt_of_lt_of_le ha (Nat.le_trans h1 (by decide))) (Nat.lt_of_lt_of_le hb (Nat.le_trans h1 (by decide)))⟩
  have HCL := Lib.hid hcl
  clear ho hrow hall hc hcl hQ hQ16 okr
  generalize mdL xs P Q = md at HFA MD MDL HCL
  generalize hL : xs.length = L at hl HROW LC HCL HFA ⊢
  clear hL
  obtain ⟨C, hCe⟩ : ∃ C, C = w.heap.size + 1 := ⟨_, rfl⟩
  go_enter Try.func37, Try.ntmps37
  go_wp2_with fail
  clear hW1
  refine (LC.out _ hM1.old).mono ?_
  rintro e w2 ⟨rfl, hb2⟩
  have hM2 := hM1.below hb2
  clear hM1 p0 p1
  have p0 := hM2.b0
  have p1 := hM2.b1
  go_wp2_with fail
  refine (l06Is_is hir _).mono ?_
  rintro e w3 ⟨rfl, hb3⟩
  have hM3 := hM2.below hb3
  clear hM2 p0 p1
  have hne : C ≠ w.heap.size := by omega
  have hCw : w.heap.size ≤ C := by omega
  rw [← hCe] at hM3
  go_wp2
  try rw [← hCe]
  clear hCe
  obtain ⟨B, hBe⟩ : ∃ B, B = w.heap.size := ⟨_, rfl⟩
  have hBw : w.heap.size ≤ B := by omega
  rw [← hBe] at hM3 hne
  try rw [← hBe]
  clear hBe
  go_loopw [] (fun wr => ∃ y' : Nat, y' < M ∧ Hid (IsCl L md y' cl) ∧ ClM w B C P y' wr) (fun wr => M - bitsAt wr B)
  case atStart => exact ⟨y, hyM, HCL, hM3⟩
  case round =>
    clear hM3
    obtain ⟨y', hyl, hcl, hM⟩ := hrel
    have BO := hM.bits
    obtain ⟨d0, d1, k0, k1, c0, c1, f0, f1, hold⟩ := id hM
    have HM := Lib.hid hM
    clear hM
    go_wp2_with fail
    go_loopw [7, 8] (fun a' i' wr => ∃ i : Nat, i ≤ L ∧ i' = .int .i64 i ∧ (∃ A : Nat, a' = .int .i64 A ∧ A < M ∧ y' ≤ A ∧ Hid (subN y' A) ∧ Hid (subN A cl) ∧ Hid (∀ j, j < i → subN (md j y') A)) ∧ ClM w B C P y' wr) (fun _ i' _ => L - (intOf i').toNat)
    case atStart => exact ⟨0, Nat.zero_le _, rfl, ⟨y', rfl, hyl, Nat.le_refl _, Lib.hid (subN.refl _), Lib.hid hcl.out.has, Lib.hid (fun j hj => by omega)⟩, HM.out⟩
    case round =>
      clear d0 d1 k0 k1 c0 c1 f0 f1 hold HM
      obtain ⟨i, hi', rfl, ⟨A, rfl, hAM, hyA, hs1, hs2, hs3⟩, hM⟩ := hrel
      obtain ⟨d0, d1, k0, k1, c0, c1, f0, f1, hold⟩ := id hM
      have HM := Lib.hid hM
      clear hM
      by_cases hil : i < L
      · obtain ⟨g, rfl, hg, hc⟩ : ∃ g, a = some ⟨g, 0, none⟩ ∧ g < w.heap.size ∧ Hid (∀ j, j < L → w.cell? ⟨g, j * 2, none⟩ = some (.int .i64 (fget xs j).1) ∧ w.cell? ⟨g, j * 2 + 1, none⟩ = some (.int .i64 (fget xs j).2)) := by
          rcases HROW.out with h0 | h1
          · omega
          · exact h1
        obtain ⟨x0, x1⟩ := hc.out i hil
        have e0 := (hold.cell (p := ⟨g, i * 2, none⟩) hg).trans x0
        have e1 := (hold.cell (p := ⟨g, i * 2 + 1, none⟩) hg).trans x1
        clear x0 x1 c0 c1 f0 f1 k0 k1 hold
        have okr := HROK.out y' hyl
        have LSTY := Lib.hid (LST.out y' okr)
        have MADE := Lib.hid (HFA.out i y' hil okr)
        have hmM := MDL.out i y'
        have HOA := Lib.hid (HOI.out A (md i y') hAM hmM)
        have hA2 := HOR.out A (md i y') hAM hmM
        have t1 : subN y' (A ||| md i y') := hs1.out.trans (subN_left _ _)
        have t2 : subN (A ||| md i y') cl := subN_or hs2.out (hcl.out.step MD.out hil)
        have t3 : ∀ j, j < i + 1 → subN (md j y') (A ||| md i y') := fun j hj => by
          by_cases hji : j = i
          · subst hji; intro k hk; rw [Nat.testBit_or, hk, Bool.or_true]
          · exact (hs3.out j (by omega)).trans (subN_left _ _)
        have t4 : y' ≤ A ||| md i y' := Nat.le_trans hyA Nat.left_le_or
        have hs4 := Lib.hid t1
        have hs5 := Lib.hid t2
        have hs6 := Lib.hid t3
        clear t1 t2 t3 hs1 hs2 hs3 okr hmM
        generalize A ||| md i y' = A2 at HOA hA2 hs4 hs5 hs6 t4
        generalize md i y' = mm at HOA MADE
        obtain ⟨p1, hp1⟩ : ∃ p1, (fget xs i).1 = p1 := ⟨_, rfl⟩
        obtain ⟨p2, hp2⟩ : ∃ p2, (fget xs i).2 = p2 := ⟨_, rfl⟩
        rw [hp1] at e0 MADE
        rw [hp2] at e1 MADE
        clear hp1 hp2
        have MK : Hid (∀ W : World, Below wr.heap.size wr W → (((W.cell? ⟨B, 0, none⟩ = some (.int .i64 (P : Int)) ∧ W.cell? ⟨B, 1, none⟩ = some (.int .i64 (y' : Int))) ∧ (W.cell? ⟨g, i * 2, none⟩ = some (.int .i64 p1) ∧ W.cell? ⟨g, i * 2 + 1, none⟩ = some (.int .i64 p2))) ∧ Below wr.heap.size wr W)) := Lib.hid fun W h => ⟨⟨⟨kc h d0, kc h d1⟩, ⟨kc h e0, kc h e1⟩⟩, h⟩
        have STH : Hid (∀ W W' : World, Below W.heap.size W W' → (((W.cell? ⟨B, 0, none⟩ = some (.int .i64 (P : Int)) ∧ W.cell? ⟨B, 1, none⟩ = some (.int .i64 (y' : Int))) ∧ (W.cell? ⟨g, i * 2, none⟩ = some (.int .i64 p1) ∧ W.cell? ⟨g, i * 2 + 1, none⟩ = some (.int .i64 p2))) ∧ Below wr.heap.size wr W) → (((W'.cell? ⟨B, 0, none⟩ = some (.int .i64 (P : Int)) ∧ W'.cell? ⟨B, 1, none⟩ = some (.int .i64 (y' : Int))) ∧ (W'.cell? ⟨g, i * 2, none⟩ = some (.int .i64 p1) ∧ W'.cell? ⟨g, i * 2 + 1, none⟩ = some (.int .i64 p2))) ∧ Below wr.heap.size wr W')) := Lib.hid fun W W' h hs => MK.out W' (bthen hs.2 h)
        go_wp2
        go_region_held3 (fun W => ((W.cell? ⟨B, 0, none⟩ = some (.int .i64 (P : Int)) ∧ W.cell? ⟨B, 1, none⟩ = some (.int .i64 (y' : Int))) ∧ (W.cell? ⟨g, i * 2, none⟩ = some (.int .i64 p1) ∧ W.cell? ⟨g, i * 2 + 1, none⟩ = some (.int .i64 p2))) ∧ Below wr.heap.size wr W)
          (first | with_reducible exact MK.out _ (Below.refl _ _).drew | with_reducible exact MK.out _ (bnew _ _).drew | (with_reducible refine STH.out _ _ hb5 ?_; with_reducible assumption) | (with_reducible refine STH.out _ _ (bnew _ _) ?_; with_reducible assumption) | with_reducible assumption)
          (first
            | (go_at_call 57; refine (LSTY.out _).mono ?_; rintro e w5 ⟨s5, rfl, O5, hb5⟩; have T5 := STH.out _ _ hb5 (by with_reducible assumption); have O6 := Owns.mono O5 (Nat.zero_le _))
            | (go_at_call 69; refine (MADE.out _ _ _ (by first | exact O6 | exact O6.below (bnew _ _))).mono ?_; rintro e w8 ⟨rfl, hb5⟩; have T8 := STH.out _ _ hb5 (by with_reducible assumption)))
        all_goals
          have HM9 := Lib.hid (HM.out.below T8.2)
          have HOA' := HOA.out
          clear T8 O5 O6
          go_wp2
          go_roundw
          case rel => exact ⟨i + 1, by omega, by go_num, ⟨A2, by rw [HOA'], hA2, t4, hs4, hs5, hs6⟩, HM9.out⟩
          case measure => simp [intOf]; omega
      · obtain rfl : i = L := by omega
        have lB := cell_lt d0
        by_cases he : A = y'
        · obtain rfl := hcl.out.done (fun j hj => by have := hs3.out j hj; rwa [he] at this)
          clear hs1 hs2 hs3 hyA
          subst he
          go_wp2
          exact bodyPost_ret (v := .tuple #[.agg #[.int .i64 (P : Int), .int .i64 (A : Int)], .int .i64 0]) (by simp [results, Try.results37, go_sem, c0, c1]) rfl ⟨rfl, (hold.setCell (p := ⟨C, 0, none⟩) (by simp; omega) _).setCell (p := ⟨C, 1, none⟩) (by simp; omega) _⟩
        · have hzi : decide ((A : Int) = (y' : Int)) = false := by simp; omega
          have hzj : ¬ (A : Int) = (y' : Int) := by omega
          have hzk : ((A : Int) == (y' : Int)) = false := by simp; omega
          have hgt : y' < A := by omega
          have HZ := Lib.hid (hcl.out.between hs1.out hs2.out)
          go_wp2
          have HM6 := HM.out.set1 hne hBw A
          go_roundw
          case rel => exact ⟨A, hAM, HZ, HM6⟩
          case measure => rw [HM6.bits, BO]; omega

theorem bothClosureOf {xs : List (Int × Int)} (hl : xs.length ≤ 1048576) (n b : Int) : ∃ (rn rb rc : Int),
    (∀ base s w, OwnsF w base s xs → Calls Try.prog 37 #[s, .agg #[.int .i64 n, .int .i64 b]] w fun e w' => e = .returned (.tuple #[.agg #[.int .i64 rn, .int .i64 rb], .int .i64 rc]) ∧ Below w.heap.size w w') ∧
    (∀ base s w, OwnsF w base s xs → Calls Try.prog 38 #[s, .agg #[.int .i64 n, .int .i64 b]] w fun e w' => e = .returned (.tuple #[.agg #[.int .i64 rn, .int .i64 rb], .int .i64 rc]) ∧ Below w.heap.size w w') := by
  by_cases h1 : codeL xs = 1
  · refine ⟨0, 0, 1, fun base s w ho => specClosureOf_no1 hl h1 w ho, fun base s w ho => ?_⟩
    cases hr : isR n b
    · exact implClosureOf_inv hr s w
    · exact implClosureOf_code hr hl h1 (by decide) w ho
  · have hc1 : (codeL xs == 1) = false := by simpa using h1
    cases hr : isR n b
    · exact ⟨0, 0, 1, fun base s w ho => specClosureOf_no2 hr hl rfl hc1 w ho, fun base s w ho => implClosureOf_inv hr s w⟩
    · by_cases hc : codeL xs = 0
      · have hall : allTo xs xs.length = true := by
          unfold codeL at hc
          cases h : allTo xs xs.length
          · rw [h] at hc; simp at hc
          · rfl
        obtain ⟨P, y, Q, e1, e2, -, okr⟩ := rok_nat hr
        subst e1 e2
        have hQ : Q = 2 ^ P := by have := okr.he; simpa using this
        obtain ⟨cl, hclQ, hcl⟩ := cl_exists (L := xs.length) (mdL_mono xs P Q) (mdL_lt xs hQ) (2 ^ Q) y okr.hB (Nat.sub_le _ _)
        exact ⟨P, cl, 0, fun base s w ho => specClosureOf_yes okr hl hc hall hcl w ho, fun base s w ho => implClosureOf_yes okr hl hc hall hcl hclQ w ho⟩
      · have hz : (codeL xs != 0) = true := by simpa using hc
        exact ⟨0, 0, codeL xs, fun base s w ho => specClosureOf_no3 hr hl rfl hc1 hz w ho, fun base s w ho => implClosureOf_code hr hl rfl hz w ho⟩
end Go.Proofs.Ytlohldddioikaaa

/- FClosureOf:
  The walk of the law on ClosureOf: both packages answer alike, and the list that came in is as it was. -/
namespace Go.Proofs.Ytlohldddioikaaa
open Go.RowKit
set_option linter.unusedVariables false
set_option linter.unusedSimpArgs false

/-- A box of two cells. -/
structure BoxCl (X : Nat) (u v : Int) (W : World) : Prop where
  z0 : W.cell? ⟨X, 0, none⟩ = some (.int .i64 u)
  z1 : W.cell? ⟨X, 1, none⟩ = some (.int .i64 v)
  y0 : W.frozen? ⟨X, 0, none⟩ = false
  y1 : W.frozen? ⟨X, 1, none⟩ = false
theorem BoxCl.below {X : Nat} {u v : Int} {W W' : World} (h : BoxCl X u v W) (hb : Below W.heap.size W W') : BoxCl X u v W' := ⟨kc hb h.z0, kc hb h.z1, kf hb h.z0 h.y0, kf hb h.z1 h.y1⟩
theorem BoxCl.new {u v : Int} {W : World} {T : TypeId} : BoxCl W.heap.size u v (W.alloc (.cells #[.int .i64 u, .int .i64 v] T)) := ⟨by simp [go_sem], by simp [go_sem], by simp [go_sem], by simp [go_sem]⟩
theorem BoxCl.newB {u v : Int} {W W' : World} {T : TypeId} (hb : Below (W.alloc (.cells #[.int .i64 u, .int .i64 v] T)).heap.size (W.alloc (.cells #[.int .i64 u, .int .i64 v] T)) W') : BoxCl W.heap.size u v W' := BoxCl.new.below hb
theorem BoxCl.newBd {u v : Int} {W W' : World} {T : TypeId} (hb : Below (W.alloc (.cells #[.int .i64 u, .int .i64 v] T)).drew.heap.size (W.alloc (.cells #[.int .i64 u, .int .i64 v] T)).drew W') : BoxCl W.heap.size u v W' := (BoxCl.new.below (Below.refl _ _).drew).below hb
theorem BoxCl.set {X : Nat} {u v u2 v2 : Int} {W : World} (h : BoxCl X u v W) : BoxCl X u2 v2 ((W.setCell ⟨X, 0, none⟩ (.int .i64 u2)).setCell ⟨X, 1, none⟩ (.int .i64 v2)) := by
  obtain ⟨z0, z1, y0, y1⟩ := h
  exact ⟨by simp [go_sem, z0, z1], by simp [go_sem, z0, z1], by simp [go_sem, y0], by simp [go_sem, y1]⟩

theorem stSCl {B : Nat} {n0 b0 : Int} {W0 W W' : World} (hb : Below W.heap.size W W') (h : ((W.cell? ⟨B, 0, none⟩ = some (.int .i64 n0) ∧ W.cell? ⟨B, 1, none⟩ = some (.int .i64 b0)) ∧ (Below W0.heap.size W0 W ∧ B < W.heap.size))) : ((W'.cell? ⟨B, 0, none⟩ = some (.int .i64 n0) ∧ W'.cell? ⟨B, 1, none⟩ = some (.int .i64 b0)) ∧ (Below W0.heap.size W0 W' ∧ B < W'.heap.size)) :=
  ⟨⟨kc hb h.1.1, kc hb h.1.2⟩, bthen h.2.1 hb, Nat.lt_of_lt_of_le h.2.2 hb.size⟩
theorem stSetCl {B X : Nat} {n0 b0 : Int} {W0 W : World} {u v : Value} (hX : B < X) (hW : W0.heap.size ≤ B) (h : ((W.cell? ⟨B, 0, none⟩ = some (.int .i64 n0) ∧ W.cell? ⟨B, 1, none⟩ = some (.int .i64 b0)) ∧ (Below W0.heap.size W0 W ∧ B < W.heap.size))) : ((((W.setCell ⟨X, 0, none⟩ u).setCell ⟨X, 1, none⟩ v).cell? ⟨B, 0, none⟩ = some (.int .i64 n0) ∧ ((W.setCell ⟨X, 0, none⟩ u).setCell ⟨X, 1, none⟩ v).cell? ⟨B, 1, none⟩ = some (.int .i64 b0)) ∧ (Below W0.heap.size W0 ((W.setCell ⟨X, 0, none⟩ u).setCell ⟨X, 1, none⟩ v) ∧ B < ((W.setCell ⟨X, 0, none⟩ u).setCell ⟨X, 1, none⟩ v).heap.size)) := by
  obtain ⟨⟨p0, p1⟩, hB, l0⟩ := h
  have e0 : ¬ X = B := by omega
  exact ⟨⟨by simp [go_sem, p0, e0], by simp [go_sem, p1, e0]⟩, (hB.setCell (p := ⟨X, 0, none⟩) (by show W0.heap.size ≤ X; omega) _).setCell (p := ⟨X, 1, none⟩) (by show W0.heap.size ≤ X; omega) _, by simpa [go_sem] using l0⟩

set_option maxRecDepth 100000 in
set_option maxHeartbeats 4000000 in
theorem fnExactClosureOf_walk (a0 : Option Addr) (len0 cap0 : Nat) (z0 : List (Int × Int)) (n1 b1 : Int) (w : World) (hr0 : IsRowF w a0 len0 z0) (_ : (Lit.int .i64 n1).wf = true) (_ : (Lit.int .i64 b1).wf = true) :
    Calls Try.prog 8 #[.slice a0 len0 cap0, .agg #[.int .i64 n1, .int .i64 b1]] w fun e w' => e = .returned (.bool true) ∧ Below w.heap.size w w' := by
  by_cases hle : len0 ≤ 1048576
  · have hxl : z0.length ≤ 1048576 := by rw [hr0.1]; exact hle
    obtain ⟨rn, rb, rc, c1, c2⟩ := bothClosureOf hxl n1 b1
    have C1 := Lib.hid c1
    have C2 := Lib.hid c2
    have HR := Lib.hid hr0
    have HX := Lib.hid hxl
    clear c1 c2 hr0 hxl
    obtain ⟨W1, hW1⟩ : ∃ W1, (w.alloc (.cells #[.int .i64 n1, .int .i64 b1] 23)) = W1 := ⟨_, rfl⟩
    have p00 : W1.cell? ⟨w.heap.size, 0, none⟩ = some (.int .i64 n1) := by rw [← hW1]; simp [go_sem]
    have p01 : W1.cell? ⟨w.heap.size, 1, none⟩ = some (.int .i64 b1) := by rw [← hW1]; simp [go_sem]
    have hN : Below w.heap.size w W1 := by rw [← hW1]; exact balloc (Below.refl _ _) _
    go_enter Try.func8, Try.ntmps8
    go_wp2_with fail
    clear hW1
    refine (szFuncS_ok a0 len0 cap0 hle _).mono ?_
    rintro e w' ⟨rfl, rfl⟩
    go_wp2_with fail
    have hs_O1 := hN.size
    have HT0 : Hid ((W1.cell? ⟨w.heap.size, 0, none⟩ = some (.int .i64 n1) ∧ W1.cell? ⟨w.heap.size, 1, none⟩ = some (.int .i64 b1)) ∧ (Below w.heap.size w W1 ∧ w.heap.size < W1.heap.size)) := Lib.hid ⟨⟨p00, p01⟩, hN, cell_lt p00⟩
    have hl1 := HT0.out.2.2
    clear p00 p01 hN
    refine Code.wp_mono (Q := fun e a w' => e = .normal ∧ ∃ bx s1, a = { tmps := #[.slice a0 len0 cap0, .agg #[.int .i64 n1, .int .i64 b1], undef, .pointer (some ⟨w.heap.size, 0, none⟩), .bool false, .int .i64 (1048576 - (len0 : Int)), .pointer (some ⟨bx, 0, none⟩), .int .i64 rc, undef, undef, undef, .slice a0 len0 cap0, .int .i64 1048576, .int .i64 (1048576 - (len0 : Int)), .int .i64 (1048576 - (len0 : Int)), .bool (decide (1048576 - (len0 : Int) < 0)), .tuple #[.agg #[.int .i64 rn, .int .i64 rb], .int .i64 rc], .slice a0 len0 cap0, s1, .agg #[.int .i64 n1, .int .i64 b1], .agg #[.int .i64 n1, .int .i64 b1], .tuple #[.agg #[.int .i64 rn, .int .i64 rb], .int .i64 rc], .agg #[.int .i64 rn, .int .i64 rb], .int .i64 rc, undef, undef, undef, undef, undef, undef, undef, undef, undef, undef, undef, undef, undef, undef, undef, undef, undef, undef, undef, undef, undef, undef, undef], defers := [] } ∧ ((w'.cell? ⟨w.heap.size, 0, none⟩ = some (.int .i64 n1) ∧ w'.cell? ⟨w.heap.size, 1, none⟩ = some (.int .i64 b1)) ∧ (Below w.heap.size w w' ∧ w.heap.size < w'.heap.size)) ∧ BoxCl bx rn rb w' ∧ w.heap.size < bx) ?rest1 ?reg1
    case reg1 =>
      go_region_held3 (fun W => ((W.cell? ⟨w.heap.size, 0, none⟩ = some (.int .i64 n1) ∧ W.cell? ⟨w.heap.size, 1, none⟩ = some (.int .i64 b1)) ∧ (Below w.heap.size w W ∧ w.heap.size < W.heap.size)))
        (first | with_reducible exact stSCl (Below.refl _ _).drew HT0.out | with_reducible exact stSCl (Below.refl _ _).drew (stSCl (bnew _ _) HT0.out) | (with_reducible refine stSCl hb5 ?_; with_reducible assumption) | (with_reducible refine stSCl (bnew _ _) ?_; with_reducible assumption) | (with_reducible exact stSCl (bnew _ _) T6) | (with_reducible refine stSetCl ?_ (Nat.le_refl _) T6; omega) | with_reducible assumption)
        (first
          | (go_at_call 34; refine (toFuncS_any HR.out hle _ (And.left (And.right (by with_reducible assumption)))).mono ?_; rintro e w5 ⟨s1, rfl, O5, hb5⟩; have T6 := stSCl hb5 (by with_reducible assumption); have L6 := T6.2.2; (first | (with_reducible have Z5 := BoxCl.newB hb5) | (with_reducible have Z5 := BoxCl.newBd hb5) | (with_reducible have Z5 := Z5.below hb5) | skip); (try (have z0 := Z5.z0; have z1 := Z5.z1; have y0 := Z5.y0; have y1 := Z5.y1)); have O6 := Lib.hid O5; clear O5)
          | (go_at_call 16; refine (toRelation_any n1 b1 _).mono ?_; rintro e w6 ⟨rfl, hb5⟩; have T6 := stSCl hb5 (by with_reducible assumption); have L6 := T6.2.2; (first | (with_reducible have Z5 := BoxCl.newB hb5) | (with_reducible have Z5 := BoxCl.newBd hb5) | (with_reducible have Z5 := Z5.below hb5) | skip); (try (have z0 := Z5.z0; have z1 := Z5.z1; have y0 := Z5.y0; have y1 := Z5.y1)); (first | (with_reducible replace O6 := Lib.hid (O6.out.below hb5)) | (with_reducible replace O6 := Lib.hid ((O6.out.below (bnew _ _)).below hb5))))
          | (go_at_call 37; refine (C1.out _ _ _ (by first | exact O6.out | exact O6.out.below (bnew _ _))).mono ?_; rintro e w8 ⟨rfl, hb5⟩; have T6 := stSCl hb5 (by with_reducible assumption); have L6 := T6.2.2; (first | (with_reducible have Z5 := BoxCl.newB hb5) | (with_reducible have Z5 := BoxCl.newBd hb5) | (with_reducible have Z5 := Z5.below hb5) | skip); (try (have z0 := Z5.z0; have z1 := Z5.z1; have y0 := Z5.y0; have y1 := Z5.y1))))
      all_goals first
        | with_reducible exact ⟨rfl, _, _, rfl, stSCl (bnew _ _) T6, BoxCl.new, L6⟩
        | exact ⟨rfl, _, _, rfl, stSetCl (by omega) (Nat.le_refl _) T6, Z5.set, by omega⟩
    case rest1 =>
    rintro e a w2 ⟨rfl, bx, s1, rfl, ⟨⟨q4_0, q4_1⟩, hN, hlx⟩, ⟨r4_0, r4_1, -, -⟩, hbx⟩
    dsimp only
    go_wp2_with fail
    have hs_O2 := hN.size
    go_wp2_with fail
    refine (toFuncS_any HR.out hle _ hN).mono ?_
    rintro e w6 ⟨s2, rfl, o, hb⟩
    have O2 := Lib.hid o
    clear o
    replace hN := bthen hN hb
    have q5_0 := kc hb q4_0; have q5_1 := kc hb q4_1
    have q6_0 := kc hb r4_0; have q6_1 := kc hb r4_1
    clear hb q4_0 q4_1 r4_0 r4_1
    go_wp2_with fail
    refine (toRelation_any n1 b1 _).mono ?_
    rintro e w7 ⟨rfl, hb⟩
    replace hN := bthen hN hb
    have q7_0 := kc hb q5_0; have q7_1 := kc hb q5_1
    have q8_0 := kc hb q6_0; have q8_1 := kc hb q6_1
    replace O2 := Lib.hid (O2.out.below hb)
    clear hb q5_0 q5_1 q6_0 q6_1
    go_wp2_with fail
    refine (C2.out _ _ _ O2.out).mono ?_
    rintro e w8 ⟨rfl, hb⟩
    replace hN := bthen hN hb
    have q9_0 := kc hb q7_0; have q9_1 := kc hb q7_1
    have q10_0 := kc hb q8_0; have q10_1 := kc hb q8_1
    replace O2 := Lib.hid (O2.out.below hb)
    clear hb q7_0 q7_1 q8_0 q8_1
    obtain ⟨W108, hW, r8_0, r8_1, hb⟩ := ansBoxR rn rb w8
    replace hN := bthen hN hb
    have q11_0 := kc hb q9_0; have q11_1 := kc hb q9_1
    have q12_0 := kc hb q10_0; have q12_1 := kc hb q10_1
    replace O2 := Lib.hid (O2.out.below hb)
    clear hb q9_0 q9_1 q10_0 q10_1
    go_wp2_with fail
    clear hW
    go_wp2_with fail
    refine (eqRelation_same _ _ _).mono ?_
    rintro e w10 ⟨rfl, hb⟩
    replace hN := bthen hN hb
    have q13_0 := kc hb q11_0; have q13_1 := kc hb q11_1
    have q14_0 := kc hb q12_0; have q14_1 := kc hb q12_1
    have q15_0 := kc hb r8_0; have q15_1 := kc hb r8_1
    replace O2 := Lib.hid (O2.out.below hb)
    clear hb q11_0 q11_1 q12_0 q12_1 r8_0 r8_1
    go_wp2_with fail
    have lt_O2_O3 := Lib.hid O2.out.lt
    have hs_O3 := hN.size
    go_wp2_with fail
    refine (toFuncS_any HR.out hle _ hN).mono ?_
    rintro e w11 ⟨s3, rfl, o, hb⟩
    have O3 := Lib.hid o
    clear o
    replace hN := bthen hN hb
    have q16_0 := kc hb q13_0; have q16_1 := kc hb q13_1
    have q17_0 := kc hb q14_0; have q17_1 := kc hb q14_1
    have q18_0 := kc hb q15_0; have q18_1 := kc hb q15_1
    replace O2 := Lib.hid (O2.out.below hb)
    clear hb q13_0 q13_1 q14_0 q14_1 q15_0 q15_1
    go_wp2_with fail
    refine (eqFuncS_same (by have := HX.out; omega) _ O2.out O3.out).mono ?_
    rintro e w12 ⟨rfl, hb⟩
    replace hN := bthen hN hb
    have q19_0 := kc hb q16_0; have q19_1 := kc hb q16_1
    have q20_0 := kc hb q17_0; have q20_1 := kc hb q17_1
    have q21_0 := kc hb q18_0; have q21_1 := kc hb q18_1
    replace O2 := Lib.hid (O2.out.below hb)
    replace O3 := Lib.hid (O3.out.below hb)
    clear hb q16_0 q16_1 q17_0 q17_1 q18_0 q18_1
    clear O3
    go_wp2
    go_ret
    exact ⟨rfl, hN⟩
  · have hlim := hr0.2.1
    clear hr0
    obtain ⟨W1, hW1⟩ : ∃ W1, (w.alloc (.cells #[.int .i64 n1, .int .i64 b1] 23)) = W1 := ⟨_, rfl⟩
    have p00 : W1.cell? ⟨w.heap.size, 0, none⟩ = some (.int .i64 n1) := by rw [← hW1]; simp [go_sem]
    have p01 : W1.cell? ⟨w.heap.size, 1, none⟩ = some (.int .i64 b1) := by rw [← hW1]; simp [go_sem]
    have hN : Below w.heap.size w W1 := by rw [← hW1]; exact balloc (Below.refl _ _) _
    go_enter Try.func8, Try.ntmps8
    go_wp2_with (go_at_call 32; refine (szFuncS_over a0 len0 cap0 (by omega) hlim _).mono ?_; rintro e w' ⟨rfl, rfl⟩)
    go_ret
    exact ⟨rfl, hN⟩
end Go.Proofs.Ytlohldddioikaaa
