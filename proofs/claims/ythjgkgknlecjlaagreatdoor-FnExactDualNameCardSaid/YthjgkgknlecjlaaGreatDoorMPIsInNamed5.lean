/-
  The texts CN13, CN14, CN15, CN16, U1, U2, U3, CN17, Q4, CN18, CN23 in one.
-/
import Derived.Test.YthjgkgknlecjlaaGreatDoorMPIsInNamed4
import Derived.Great.BuildSlice
import Derived.Laws.IdiomStrings
import Derived.Laws.Concat
import Derived.OwnWalkIn
import Derived.Deep.AppendLies

/- CN13:
  traitSetOf and traitsOf of the program. -/
namespace Go.Proofs.YthjgkgknlecjlaaGreatDoor
open Go.RowKit Go.Shelf
set_option linter.unusedVariables false
set_option linter.unusedSimpArgs false

/-- The traits of a function. -/
def tsN (n : Int) (x R : Nat) : Nat := ((setN n.toNat x R ||| (unB n x).toNat <<< 5) ||| (jnD n x R).toNat <<< 6) ||| (jnC n x R).toNat <<< 7
theorem or_bit (a : Nat) (ha : a < 1048576) (b : Bool) (k m : Nat) (hm : m = 2 ^ k) (hk : k ≤ 7) : bits .or .i64 (a : Int) (IntKind.i64.wrap ((b.toNat : Int) * (m : Int))) = ((a ||| b.toNat <<< k : Nat) : Int) := by
  have hb : b.toNat ≤ 1 := by cases b <;> decide
  have hp : (2 : Nat) ^ k ≤ 2 ^ 7 := Nat.pow_le_pow_right (by decide) hk
  have h2 : b.toNat * m ≤ 1 * 128 := Nat.mul_le_mul hb (by omega)
  have e : (b.toNat : Int) * (m : Int) = ((b.toNat * m : Nat) : Int) := by push_cast; rfl
  rw [e, wrap64_small (by omega) (by omega), bits_or_nat _ _ (by omega) (by omega), hm, Nat.shiftLeft_eq]
theorem or_three (s : Nat) (hs : s < 32) (u d c : Bool) : bits BinOp.or IntKind.i64 (bits BinOp.or IntKind.i64 (bits BinOp.or IntKind.i64 (s : Int) (IntKind.i64.wrap ((u.toNat : Int) * 32))) (IntKind.i64.wrap ((d.toNat : Int) * 64))) (IntKind.i64.wrap ((c.toNat : Int) * 128)) = ((((s ||| u.toNat <<< 5) ||| d.toNat <<< 6) ||| c.toNat <<< 7 : Nat) : Int) := by
  have h1 : s ||| u.toNat <<< 5 < 64 := Nat.or_lt_two_pow (n := 6) (by omega) (by cases u <;> decide)
  have h2 : (s ||| u.toNat <<< 5) ||| d.toNat <<< 6 < 128 := Nat.or_lt_two_pow (n := 7) (by omega) (by cases d <;> decide)
  have e1 := or_bit s (by omega) u 5 32 rfl (by decide)
  have e2 := or_bit _ (by omega : s ||| u.toNat <<< 5 < 1048576) d 6 64 rfl (by decide)
  have e3 := or_bit _ (by omega : (s ||| u.toNat <<< 5) ||| d.toNat <<< 6 < 1048576) c 7 128 rfl (by decide)
  rw [show ((32 : Nat) : Int) = 32 from rfl] at e1
  rw [show ((64 : Nat) : Int) = 64 from rfl] at e2
  rw [show ((128 : Nat) : Int) = 128 from rfl] at e3
  rw [e1, e2, e3]
theorem setN_lt (n x R : Nat) : setN n x R < 32 := sumN_lt _ 5 (fun k _ => clsV_le n x R k)

set_option maxRecDepth 100000 in
set_option maxHeartbeats 2000000 in
theorem traitSetOf_any {n : Int} {x R : Nat} (ok : FOk n x R) (w : World) :
    Calls Tryz.prog 72 #[.agg #[.int .i64 n, .int .i64 (x : Int)]] w fun e w' => e = .returned (.int .i64 (tsN n x R : Int)) ∧ Below w.heap.size w w' := by
  obtain ⟨W1, hW1⟩ : ∃ W1, w.alloc (.cells #[.int .i64 n, .int .i64 (x : Int)] 26) = W1 := ⟨_, rfl⟩
  have p0 : W1.cell? ⟨w.heap.size, 0, none⟩ = some (.int .i64 n) := by rw [← hW1]; simp [go_sem]
  have p1 : W1.cell? ⟨w.heap.size, 1, none⟩ = some (.int .i64 (x : Int)) := by rw [← hW1]; simp [go_sem]
  have hB : Below w.heap.size w W1 := by rw [← hW1]; exact bnew _ _
  have CS := Lib.hid (fun W => classSetOf_any ok W)
  have UN := Lib.hid (fun W => isUnary_any ok W)
  have DI := Lib.hid (fun W => isDisjunction_any ok W)
  have CO := Lib.hid (fun W => isConjunction_any ok W)
  have hs := setN_lt n.toNat x R
  unfold tsN
  generalize setN n.toNat x R = s at CS hs ⊢
  generalize unB n x = u at UN ⊢
  generalize jnD n x R = d at DI ⊢
  generalize jnC n x R = c at CO ⊢
  go_enter Tryz.func72, Tryz.ntmps72
  go_wp2
  clear hW1
  go_region_held3 (fun w' => (w'.cell? ⟨w.heap.size, 0, none⟩ = some (.int .i64 n) ∧ w'.cell? ⟨w.heap.size, 1, none⟩ = some (.int .i64 (x : Int))) ∧ Below w.heap.size w w') (first | exact ⟨⟨p0, p1⟩, hB.drew⟩ | exact step_held hb1 (by assumption) | assumption)
    (first
      | (go_at_call 64; refine (digitIf_any _ _).mono ?_; rintro e w' ⟨rfl, rfl⟩)
      | (go_at_call 89; refine (CS.out _).mono ?_; rintro e w' ⟨rfl, hb1⟩)
      | (go_at_call 90; refine (UN.out _).mono ?_; rintro e w' ⟨rfl, hb1⟩)
      | (go_at_call 91; refine (DI.out _).mono ?_; rintro e w' ⟨rfl, hb1⟩)
      | (go_at_call 92; refine (CO.out _).mono ?_; rintro e w' ⟨rfl, hb1⟩))
  go_wp2
  go_ret
  exact ⟨by rw [← or_three s hs u d c]; rfl, (‹(_ ∧ _) ∧ Below _ _ _›).2⟩

/-- Traits in memory, with the answer's box below them. -/
structure TrM (w : World) (T cm d0 d1 : Nat) (W : World) : Prop where
  c0 : W.cell? ⟨T, 0, none⟩ = some (.int .i64 (cm : Int))
  c1 : W.cell? ⟨T, 1, none⟩ = some (.int .i64 (d0 : Int))
  c2 : W.cell? ⟨T, 2, none⟩ = some (.int .i64 (d1 : Int))
  c3 : W.cell? ⟨T, 3, none⟩ = some (.int .i64 9)
  f0 : W.frozen? ⟨T, 0, none⟩ = false
  f1 : W.frozen? ⟨T, 1, none⟩ = false
  f2 : W.frozen? ⟨T, 2, none⟩ = false
  r0 : W.cell? ⟨w.heap.size, 0, none⟩ = some (.int .i64 0)
  r1 : W.cell? ⟨w.heap.size, 1, none⟩ = some (.int .i64 0)
  r2 : W.cell? ⟨w.heap.size, 2, none⟩ = some (.int .i64 0)
  r3 : W.cell? ⟨w.heap.size, 3, none⟩ = some (.int .i64 0)
  g0 : W.frozen? ⟨w.heap.size, 0, none⟩ = false
  g1 : W.frozen? ⟨w.heap.size, 1, none⟩ = false
  g2 : W.frozen? ⟨w.heap.size, 2, none⟩ = false
  g3 : W.frozen? ⟨w.heap.size, 3, none⟩ = false
  hold : Below w.heap.size w W
theorem TrM.below {w : World} {T cm d0 d1 : Nat} {W W' : World} (h : TrM w T cm d0 d1 W) (hb : Below W.heap.size W W') : TrM w T cm d0 d1 W' :=
  ⟨kc hb h.c0, kc hb h.c1, kc hb h.c2, kc hb h.c3, kf hb h.c0 h.f0, kf hb h.c1 h.f1, kf hb h.c2 h.f2, kc hb h.r0, kc hb h.r1, kc hb h.r2, kc hb h.r3, kf hb h.r0 h.g0, kf hb h.r1 h.g1, kf hb h.r2 h.g2, kf hb h.r3 h.g3, bthen h.hold hb⟩
theorem TrM.set0 {w : World} {T cm d0 d1 : Nat} {W : World} (h : TrM w T cm d0 d1 W) (hne : ¬ T = w.heap.size) (hle : w.heap.size ≤ T) (v : Nat) : TrM w T v d0 d1 (W.setCell ⟨T, 0, none⟩ (.int .i64 (v : Int))) := by
  obtain ⟨c0, c1, c2, c3, f0, f1, f2, r0, r1, r2, r3, g0, g1, g2, g3, ho⟩ := h
  constructor <;> first | exact ho.setCell (p := ⟨T, 0, none⟩) hle _ | simp [go_sem, c0, c1, c2, c3, f0, f1, f2, r0, r1, r2, r3, g0, g1, g2, g3, hne]
theorem TrM.set1 {w : World} {T cm d0 d1 : Nat} {W : World} (h : TrM w T cm d0 d1 W) (hne : ¬ T = w.heap.size) (hle : w.heap.size ≤ T) (v : Nat) : TrM w T cm v d1 (W.setCell ⟨T, 1, none⟩ (.int .i64 (v : Int))) := by
  obtain ⟨c0, c1, c2, c3, f0, f1, f2, r0, r1, r2, r3, g0, g1, g2, g3, ho⟩ := h
  constructor <;> first | exact ho.setCell (p := ⟨T, 1, none⟩) hle _ | simp [go_sem, c0, c1, c2, c3, f0, f1, f2, r0, r1, r2, r3, g0, g1, g2, g3, hne]
theorem TrM.set2 {w : World} {T cm d0 d1 : Nat} {W : World} (h : TrM w T cm d0 d1 W) (hne : ¬ T = w.heap.size) (hle : w.heap.size ≤ T) (v : Nat) : TrM w T cm d0 v (W.setCell ⟨T, 2, none⟩ (.int .i64 (v : Int))) := by
  obtain ⟨c0, c1, c2, c3, f0, f1, f2, r0, r1, r2, r3, g0, g1, g2, g3, ho⟩ := h
  constructor <;> first | exact ho.setCell (p := ⟨T, 2, none⟩) hle _ | simp [go_sem, c0, c1, c2, c3, f0, f1, f2, r0, r1, r2, r3, g0, g1, g2, g3, hne]

/-- The traits of the first functions of a list. -/
def tsP (p : Int × Int) : Nat := tsN p.1 p.2.toNat (2 ^ p.1.toNat)
def dgP (p : Int × Int) (c : Nat) : Nat := dgN p.2.toNat (2 ^ p.1.toNat) c
def cmT (xs : List (Int × Int)) : Nat → Nat
  | 0 => 255
  | k + 1 => cmT xs k &&& tsP (fget xs k)
def dgT (xs : List (Int × Int)) (c : Nat) : Nat → Nat
  | 0 => 9
  | k + 1 => min (dgT xs c k) (dgP (fget xs k) c)
theorem cmT_lt (xs : List (Int × Int)) (k : Nat) : cmT xs k < 256 := by
  induction k with
  | zero => exact (by decide : (255 : Nat) < 256)
  | succ k ih => exact Nat.lt_of_le_of_lt Nat.and_le_left ih
theorem dgT_le (xs : List (Int × Int)) (c k : Nat) : dgT xs c k ≤ 9 := by
  induction k with
  | zero => exact Nat.le_refl _
  | succ k ih => exact Nat.le_trans (Nat.min_le_left _ _) ih
theorem tsN_lt (n : Int) (x R : Nat) : tsN n x R < 256 := by
  have hs := setN_lt n.toNat x R
  unfold tsN
  refine Nat.or_lt_two_pow (n := 8) (Nat.or_lt_two_pow (n := 8) (Nat.or_lt_two_pow (n := 8) (by omega) ?_) ?_) ?_
  · cases unB n x <;> decide
  · cases jnD n x R <;> decide
  · cases jnC n x R <;> decide
theorem fok_p {p : Int × Int} (h : isF p.1 p.2 = true) : FOk p.1 p.2.toNat (2 ^ p.1.toNat) ∧ ((p.2.toNat : Nat) : Int) = p.2 := by
  obtain ⟨x, R, e, ok⟩ := fok h
  have e2 : p.2.toNat = x := by omega
  rw [e2, ← ok.he]
  exact ⟨ok, e.symm⟩
theorem traitSetOf_p {p : Int × Int} (h : isF p.1 p.2 = true) (w : World) :
    Calls Tryz.prog 72 #[.agg #[.int .i64 p.1, .int .i64 p.2]] w fun e w' => e = .returned (.int .i64 (tsP p : Int)) ∧ Below w.heap.size w w' := by
  obtain ⟨ok, e⟩ := fok_p h
  have := traitSetOf_any ok w
  rw [e] at this
  exact this
theorem separatingDegree_p {p : Int × Int} (h : isF p.1 p.2 = true) (c : Nat) (hc : c ≤ 1) (w : World) :
    Calls Tryz.prog 73 #[.agg #[.int .i64 p.1, .int .i64 p.2], .int .i64 (c : Int)] w fun e w' => e = .returned (.int .i64 (dgP p c : Int)) ∧ Below w.heap.size w w' := by
  obtain ⟨ok, e⟩ := fok_p h
  have := separatingDegree_any ok c hc w
  rw [e] at this
  exact this

set_option maxRecDepth 100000 in
set_option maxHeartbeats 8000000 in
theorem traitsOf_any {base : Nat} {s : Value} {xs : List (Int × Int)} (hl : xs.length ≤ 1048576) (hx : AreF xs) (w : World) (h : OwnsF w base s xs) :
    Calls Tryz.prog 51 #[s] w fun e w' => e = .returned (trV (cmT xs xs.length) (dgT xs 0 xs.length) (dgT xs 1 xs.length) 9) ∧ Below w.heap.size w w' := by
  obtain ⟨a, cap, rfl, hrow⟩ := h.cells
  have HROW := Lib.hid hrow
  have HX : Hid (∀ j, j < xs.length → isF (fget xs j).1 (fget xs j).2 = true) := Lib.hid hx
  clear h hrow hx
  generalize xs.length = L at hl HROW HX ⊢
  unfold trV
  go_enter Tryz.func51, Tryz.ntmps51
  go_wp2
  obtain ⟨W1, hW1⟩ : ∃ W1, (w.alloc (.cells #[.int .i64 0, .int .i64 0, .int .i64 0, .int .i64 0] 75)).alloc (.cells #[.int .i64 255, .int .i64 9, .int .i64 9, .int .i64 9] 75) = W1 := ⟨_, rfl⟩
  have hM0 : TrM w (w.heap.size + 1) 255 9 9 W1 := by
    rw [← hW1]
    constructor <;> first | exact balloc (bnew _ _) _ | simp [go_sem]
  rw [hW1]
  clear hW1
  obtain ⟨T, hT⟩ : ∃ T, T = w.heap.size + 1 := ⟨_, rfl⟩
  rw [← hT] at hM0 ⊢
  have hTn : ¬ T = w.heap.size := by omega
  have hTl : w.heap.size ≤ T := by omega
  clear hT
  go_loopw [11] (fun i' wr => ∃ i : Nat, i ≤ L ∧ i' = .int .i64 i ∧ TrM w T (cmT xs i) (dgT xs 0 i) (dgT xs 1 i) wr) (fun i' _ => L - (intOf i').toNat)
  case atStart => exact ⟨0, Nat.zero_le _, rfl, hM0⟩
  case round =>
    clear hM0
    obtain ⟨i, hi, rfl, hM⟩ := hrel
    obtain ⟨wo, rfl⟩ : ∃ wo : World, wo = wr := ⟨_, rfl⟩
    by_cases hlt : i < L
    · obtain ⟨g, rfl, hg, hc⟩ : ∃ g, a = some ⟨g, 0, none⟩ ∧ g < w.heap.size ∧ Hid (∀ j, j < L → w.cell? ⟨g, j * 2, none⟩ = some (.int .i64 (fget xs j).1) ∧ w.cell? ⟨g, j * 2 + 1, none⟩ = some (.int .i64 (fget xs j).2)) := by
        rcases HROW.out with h0 | h1
        · omega
        · exact h1
      obtain ⟨e0, e1⟩ := hc.out i hlt
      have d0 := (hM.hold.cell (p := ⟨g, i * 2, none⟩) hg).trans e0
      have d1 := (hM.hold.cell (p := ⟨g, i * 2 + 1, none⟩) hg).trans e1
      clear e0 e1
      have hp := HX.out i hlt
      have TS := Lib.hid (fun W => traitSetOf_p hp W)
      have SD0 := Lib.hid (fun W => separatingDegree_p hp 0 (by decide) W)
      have SD1 := Lib.hid (fun W => separatingDegree_p hp 1 (by decide) W)
      have HC : Hid (cmT xs (i + 1) = cmT xs i &&& tsP (fget xs i)) := Lib.hid rfl
      have H0 : Hid (dgT xs 0 (i + 1) = min (dgT xs 0 i) (dgP (fget xs i) 0)) := Lib.hid rfl
      have H1 : Hid (dgT xs 1 (i + 1) = min (dgT xs 1 i) (dgP (fget xs i) 1)) := Lib.hid rfl
      have hcm := cmT_lt xs i
      have hts : tsP (fget xs i) < 256 := tsN_lt _ _ _
      clear hp
      generalize cmT xs i = cm at hM HC hcm
      generalize dgT xs 0 i = e0 at hM H0
      generalize dgT xs 1 i = e1 at hM H1
      generalize tsP (fget xs i) = ts at TS HC hts
      generalize dgP (fget xs i) 0 = q0 at SD0 H0
      generalize dgP (fget xs i) 1 = q1 at SD1 H1
      generalize (fget xs i).1 = n at d0 TS SD0 SD1
      generalize (fget xs i).2 = b at d1 TS SD0 SD1
      have HA := Lib.hid (and_int cm ts (by omega) (by omega))
      rw [show (((0 : Nat)) : Int) = 0 from rfl] at SD0
      rw [show (((1 : Nat)) : Int) = 1 from rfl] at SD1
      go_wp2
      obtain ⟨W2, hW2⟩ : ∃ W2, wo.alloc (.cells #[.int .i64 n, .int .i64 b] 26) = W2 := ⟨_, rfl⟩
      have pf0 : W2.cell? ⟨wo.heap.size, 0, none⟩ = some (.int .i64 n) := by rw [← hW2]; simp [go_sem]
      have pf1 : W2.cell? ⟨wo.heap.size, 1, none⟩ = some (.int .i64 b) := by rw [← hW2]; simp [go_sem]
      have hM2 : TrM w T cm e0 e1 W2 := by rw [← hW2]; exact hM.below (bnew _ _)
      have hTB : T < wo.heap.size := cell_lt hM.c0
      rw [hW2]
      clear hW2 d0 d1 hM
      have hBT : ¬ T = wo.heap.size := by omega
      have hBw : ¬ wo.heap.size = T := by omega
      obtain ⟨B, hB⟩ : ∃ B, B = wo.heap.size := ⟨_, rfl⟩
      rw [← hB] at pf0 pf1 hTB hBT hBw ⊢
      clear hB
      have HM2 := Lib.hid hM2
      have c0 := hM2.c0
      clear hM2
      refine Code.wp_mono (Q := fun x a w9 => match x with | Exit.normal => (a = ⟨#[.slice (some ⟨g, 0, none⟩) L cap, undef, .pointer (some ⟨w.heap.size, 0, none⟩), .pointer (some ⟨T, 0, none⟩), undef, .pointer (some ⟨B, 0, none⟩), u6, .agg #[.int .i64 9, .int .i64 9, .int .i64 9], .agg #[.int .i64 255, .int .i64 9, .int .i64 9, .int .i64 9], .slice (some ⟨g, 0, none⟩) L cap, .int .i64 L, .int .i64 i, .bool true, .pointer (some ⟨g, i * 2, none⟩), .agg #[.int .i64 n, .int .i64 b], .pointer (some ⟨T, 0, none⟩), .int .i64 cm, .agg #[.int .i64 n, .int .i64 b], .int .i64 ts, .int .i64 ((cm &&& ts : Nat) : Int), .pointer (some ⟨T, 0, none⟩), u21, u22, u23, u24, u25, u26, u27, u28, u29, u30, u31, u32, u33, u34, u35, u36, undef], []⟩ ∧ TrM w T (cm &&& ts) e0 e1 w9 ∧ w9.cell? ⟨B, 0, none⟩ = some (.int .i64 n) ∧ w9.cell? ⟨B, 1, none⟩ = some (.int .i64 b)) | _ => False) ?rest ?reg
      case reg =>
        go_region_with (go_at_call 72; refine (TS.out _).mono ?_; rintro e w5 ⟨rfl, hb5⟩; have HM5 := Lib.hid ((HM2.out.below (Below.refl _ _).drew).below hb5); have s0 := HM5.out.c0; have s1 := HM5.out.f0; have u0 : w5.cell? ⟨B, 0, none⟩ = some (.int .i64 n) := kc hb5 pf0; have u1 : w5.cell? ⟨B, 1, none⟩ = some (.int .i64 b) := kc hb5 pf1)
        all_goals
          have HM9 := Lib.hid (HM5.out.set0 hTn hTl (cm &&& ts))
          have v0 : (w5.setCell ⟨T, 0, none⟩ (.int .i64 ((cm &&& ts : Nat) : Int))).cell? ⟨B, 0, none⟩ = some (.int .i64 n) := by simp [go_sem, u0, hBT, hBw]
          have v1 : (w5.setCell ⟨T, 0, none⟩ (.int .i64 ((cm &&& ts : Nat) : Int))).cell? ⟨B, 1, none⟩ = some (.int .i64 b) := by simp [go_sem, u1, hBT, hBw]
          rw [HA.out]
          exact ⟨rfl, HM9.out, v0, v1⟩
      case rest =>
        intro x a' w9 hq
        clear pf0 pf1 c0 HM2
        cases x <;> first | exact hq.elim | skip
        obtain ⟨rfl, hM9, v0, v1⟩ := hq
        generalize cm &&& ts = cm2 at HC hM9 ⊢
        have HM9 := Lib.hid hM9
        clear hM9
        go_wp2
        go_loopw [21] (fun c' wi => ∃ c : Nat, c ≤ 2 ∧ c' = .int .i64 c ∧ TrM w T cm2 (if 1 ≤ c then min e0 q0 else e0) (if 2 ≤ c then min e1 q1 else e1) wi ∧ wi.cell? ⟨B, 0, none⟩ = some (.int .i64 n) ∧ wi.cell? ⟨B, 1, none⟩ = some (.int .i64 b)) (fun c' _ => 2 - (intOf c').toNat)
        case atStart => exact ⟨0, by omega, rfl, HM9.out, v0, v1⟩
        case round =>
          clear v0 v1 HM9
          obtain ⟨c, hc, rfl, hM, pf0, pf1⟩ := hrel
          rcases (by omega : c = 0 ∨ c = 1 ∨ c = 2) with rfl | rfl | rfl
          all_goals simp only [Nat.reduceLeDiff, if_true, if_false, Nat.le_refl, Nat.zero_le, Nat.not_succ_le_zero] at hM
          · -- c = 0
            have HM := Lib.hid hM
            have k1 := hM.c1
            have hmin : (if q0 < e0 then (q0 : Int) else (e0 : Int)) = ((min e0 q0 : Nat) : Int) := by split <;> omega
            clear hM
            go_wp2
            refine Code.wp_mono (Q := fun x a w9 => match x with | Exit.normal => (a = ⟨#[.slice (some ⟨g, 0, none⟩) L cap, undef, .pointer (some ⟨w.heap.size, 0, none⟩), .pointer (some ⟨T, 0, none⟩), undef, .pointer (some ⟨B, 0, none⟩), .int .i64 0, .agg #[.int .i64 9, .int .i64 9, .int .i64 9], .agg #[.int .i64 255, .int .i64 9, .int .i64 9, .int .i64 9], .slice (some ⟨g, 0, none⟩) L cap, .int .i64 L, .int .i64 i, .bool true, .pointer (some ⟨g, i * 2, none⟩), .agg #[.int .i64 n, .int .i64 b], .pointer (some ⟨T, 0, none⟩), .int .i64 cm, .agg #[.int .i64 n, .int .i64 b], .int .i64 ts, .int .i64 (cm2 : Int), .pointer (some ⟨T, 0, none⟩), .int .i64 0, .bool true, .int .i64 0, .int .i64 0, .int .i64 0, .pointer (some ⟨T, 1, none⟩), .pointer (some ⟨T, 1, none⟩), .int .i64 (e0 : Int), .agg #[.int .i64 n, .int .i64 b], .int .i64 0, .int .i64 (q0 : Int), .int .i64 ((min e0 q0 : Nat) : Int), .pointer (some ⟨T, 1, none⟩), .pointer (some ⟨T, 1, none⟩), u35, u36, undef], []⟩ ∧ TrM w T cm2 (min e0 q0) e1 w9 ∧ w9.cell? ⟨B, 0, none⟩ = some (.int .i64 n) ∧ w9.cell? ⟨B, 1, none⟩ = some (.int .i64 b)) | _ => False) ?rest ?reg
            case reg =>
              go_region_with (go_at_call 73; refine (SD0.out _).mono ?_; rintro e w7 ⟨rfl, hb7⟩; have HM7 := Lib.hid ((HM.out.below (Below.refl _ _).drew).below hb7); have s0 := HM7.out.c1; have s1 := HM7.out.f1; have u0 : w7.cell? ⟨B, 0, none⟩ = some (.int .i64 n) := kc hb7 pf0; have u1 : w7.cell? ⟨B, 1, none⟩ = some (.int .i64 b) := kc hb7 pf1)
              all_goals
                have HM9 := Lib.hid (HM7.out.set1 hTn hTl (min e0 q0))
                have v0 : (w7.setCell ⟨T, 1, none⟩ (.int .i64 ((min e0 q0 : Nat) : Int))).cell? ⟨B, 0, none⟩ = some (.int .i64 n) := by simp [go_sem, u0, hBT, hBw]
                have v1 : (w7.setCell ⟨T, 1, none⟩ (.int .i64 ((min e0 q0 : Nat) : Int))).cell? ⟨B, 1, none⟩ = some (.int .i64 b) := by simp [go_sem, u1, hBT, hBw]
                try simp only [hmin]
                exact ⟨by first | exact True.intro | rfl, HM9.out, v0, v1⟩
            case rest =>
              intro x a' w9 hq
              cases x <;> first | exact hq.elim | skip
              obtain ⟨rfl, hM9, v0, v1⟩ := hq
              have HM9 := Lib.hid hM9
              have HV := Lib.hid (And.intro v0 v1)
              clear hM9 v0 v1 pf0 pf1 k1 HM hmin
              go_wp2
              go_roundw
              case rel => exact ⟨1, by omega, rfl, by first | exact HM9.out | simpa using HM9.out, HV.out⟩
              case measure => simp [intOf]
          · -- c = 1
            have HM := Lib.hid hM
            have k2 := hM.c2
            have hmin : (if q1 < e1 then (q1 : Int) else (e1 : Int)) = ((min e1 q1 : Nat) : Int) := by split <;> omega
            clear hM
            go_wp2
            refine Code.wp_mono (Q := fun x a w9 => match x with | Exit.normal => (a = ⟨#[.slice (some ⟨g, 0, none⟩) L cap, undef, .pointer (some ⟨w.heap.size, 0, none⟩), .pointer (some ⟨T, 0, none⟩), undef, .pointer (some ⟨B, 0, none⟩), .int .i64 1, .agg #[.int .i64 9, .int .i64 9, .int .i64 9], .agg #[.int .i64 255, .int .i64 9, .int .i64 9, .int .i64 9], .slice (some ⟨g, 0, none⟩) L cap, .int .i64 L, .int .i64 i, .bool true, .pointer (some ⟨g, i * 2, none⟩), .agg #[.int .i64 n, .int .i64 b], .pointer (some ⟨T, 0, none⟩), .int .i64 cm, .agg #[.int .i64 n, .int .i64 b], .int .i64 ts, .int .i64 (cm2 : Int), .pointer (some ⟨T, 0, none⟩), .int .i64 1, .bool true, .int .i64 1, .int .i64 1, .int .i64 1, .pointer (some ⟨T, 1, none⟩), .pointer (some ⟨T, 2, none⟩), .int .i64 (e1 : Int), .agg #[.int .i64 n, .int .i64 b], .int .i64 1, .int .i64 (q1 : Int), .int .i64 ((min e1 q1 : Nat) : Int), .pointer (some ⟨T, 1, none⟩), .pointer (some ⟨T, 2, none⟩), u35, u36, undef], []⟩ ∧ TrM w T cm2 (min e0 q0) (min e1 q1) w9 ∧ w9.cell? ⟨B, 0, none⟩ = some (.int .i64 n) ∧ w9.cell? ⟨B, 1, none⟩ = some (.int .i64 b)) | _ => False) ?rest ?reg
            case reg =>
              go_region_with (go_at_call 73; refine (SD1.out _).mono ?_; rintro e w7 ⟨rfl, hb7⟩; have HM7 := Lib.hid ((HM.out.below (Below.refl _ _).drew).below hb7); have s0 := HM7.out.c2; have s1 := HM7.out.f2; have u0 : w7.cell? ⟨B, 0, none⟩ = some (.int .i64 n) := kc hb7 pf0; have u1 : w7.cell? ⟨B, 1, none⟩ = some (.int .i64 b) := kc hb7 pf1)
              all_goals
                have HM9 := Lib.hid (HM7.out.set2 hTn hTl (min e1 q1))
                have v0 : (w7.setCell ⟨T, 2, none⟩ (.int .i64 ((min e1 q1 : Nat) : Int))).cell? ⟨B, 0, none⟩ = some (.int .i64 n) := by simp [go_sem, u0, hBT, hBw]
                have v1 : (w7.setCell ⟨T, 2, none⟩ (.int .i64 ((min e1 q1 : Nat) : Int))).cell? ⟨B, 1, none⟩ = some (.int .i64 b) := by simp [go_sem, u1, hBT, hBw]
                try simp only [hmin]
                exact ⟨by first | exact True.intro | rfl, HM9.out, v0, v1⟩
            case rest =>
              intro x a' w9 hq
              cases x <;> first | exact hq.elim | skip
              obtain ⟨rfl, hM9, v0, v1⟩ := hq
              have HM9 := Lib.hid hM9
              have HV := Lib.hid (And.intro v0 v1)
              clear hM9 v0 v1 pf0 pf1 k2 HM hmin
              go_wp2
              go_roundw
              case rel => exact ⟨2, by omega, rfl, by first | exact HM9.out | simpa using HM9.out, HV.out⟩
              case measure => simp [intOf]
          · have HM := Lib.hid hM
            clear hM
            go_wp2
            go_roundw
            case rel => exact ⟨i + 1, by omega, by go_num, by rw [HC.out, H0.out, H1.out]; exact HM.out⟩
            case measure => simp [intOf]; omega
    · obtain rfl : i = L := by omega
      obtain ⟨c0, c1, c2, c3, f0, f1, f2, r0, r1, r2, r3, g0, g1, g2, g3, ho⟩ := hM
      have hsz : w.heap.size < wo.heap.size := cell_lt r0
      go_wp2
      exact bodyPost_ret (v := .agg #[.int .i64 (cmT xs i : Int), .int .i64 (dgT xs 0 i : Int), .int .i64 (dgT xs 1 i : Int), .int .i64 9]) (by simp [results, Tryz.results51, go_sem, r0, r1, r2, r3, g0, g1, g2, g3]) rfl
        ⟨rfl, (((ho.setCell (p := ⟨w.heap.size, 0, none⟩) (by simp) _).setCell (p := ⟨w.heap.size, 1, none⟩) (by simp) _).setCell (p := ⟨w.heap.size, 2, none⟩) (by simp) _).setCell (p := ⟨w.heap.size, 3, none⟩) (by simp) _⟩
end Go.Proofs.YthjgkgknlecjlaaGreatDoor

/- CN14:
  nameLines of the program: the table of names in memory. -/
namespace Go.Proofs.YthjgkgknlecjlaaGreatDoor
open Go.RowKit Go.Shelf
set_option linter.unusedVariables false
set_option linter.unusedSimpArgs false

/-- The table: names, kinds of degrees, tests, texts of generators. -/
def lnBs : List (List UInt8) := [[73, 50], [73, 48], [73, 49], [73], [78, 50], [78], [86, 50], [86, 48], [86, 49], [86], [69, 50], [69, 48], [69, 49], [69], [76, 50], [76, 51], [76, 48], [76, 49], [76], [68, 50], [68, 49], [68], [83, 48, 48], [83, 48, 49], [83, 48, 50], [83, 48], [83, 49, 48], [83, 49, 49], [83, 49, 50], [83, 49], [77, 50], [77, 48], [77, 49], [77], [82, 50], [82, 48], [82, 49], [66, 70]]
def lnKs : List Nat := [2, 2, 2, 2, 2, 2, 2, 2, 2, 2, 2, 2, 2, 2, 2, 2, 2, 2, 2, 2, 2, 2, 0, 0, 0, 0, 1, 1, 1, 1, 2, 2, 2, 2, 2, 2, 2, 2]
def lnTs : List (List Nat) := [[5, 3, 0, 1], [5, 3, 0], [5, 3, 1], [5, 3], [5, 2], [5], [6, 0, 1], [6, 0], [6, 1], [6], [7, 0, 1], [7, 0], [7, 1], [7], [4, 0, 1], [4, 2], [4, 0], [4, 1], [4], [2, 3], [2, 0], [2], [3, 0], [3], [0], [], [3, 1], [3], [1], [], [3, 0, 1], [3, 0], [3, 1], [3], [0, 1], [0], [1], []]
def lnGs : List (List UInt8) := [[49, 58, 48, 49], [49, 58, 48, 49, 32, 48, 58, 48], [49, 58, 48, 49, 32, 48, 58, 49], [49, 58, 48, 49, 32, 48, 58, 48, 32, 48, 58, 49], [49, 58, 49, 48], [49, 58, 49, 48, 32, 48, 58, 49], [50, 58, 48, 49, 49, 49], [50, 58, 48, 49, 49, 49, 32, 48, 58, 48], [50, 58, 48, 49, 49, 49, 32, 48, 58, 49], [50, 58, 48, 49, 49, 49, 32, 48, 58, 48, 32, 48, 58, 49], [50, 58, 48, 48, 48, 49], [50, 58, 48, 48, 48, 49, 32, 48, 58, 48], [50, 58, 48, 48, 48, 49, 32, 48, 58, 49], [50, 58, 48, 48, 48, 49, 32, 48, 58, 48, 32, 48, 58, 49], [51, 58, 48, 49, 49, 48, 49, 48, 48, 49], [51, 58, 49, 48, 48, 49, 48, 49, 49, 48], [50, 58, 48, 49, 49, 48], [50, 58, 49, 48, 48, 49], [50, 58, 48, 49, 49, 48, 32, 48, 58, 49], [51, 58, 48, 48, 48, 49, 48, 49, 49, 49], [51, 58, 48, 49, 49, 49, 48, 48, 48, 49], [51, 58, 49, 49, 48, 49, 48, 49, 48, 48], [51, 58, 48, 49, 48, 49, 48, 49, 49, 49], [51, 58, 48, 49, 48, 49, 48, 49, 49, 49, 32, 48, 58, 49], [51, 58, 48, 49, 49, 49, 48, 49, 48, 49], [50, 58, 49, 48, 49, 49], [51, 58, 48, 48, 48, 49, 48, 49, 48, 49], [51, 58, 48, 48, 48, 49, 48, 49, 48, 49, 32, 48, 58, 48], [51, 58, 48, 49, 48, 49, 48, 48, 48, 49], [50, 58, 48, 49, 48, 48], [50, 58, 48, 49, 49, 49, 32, 50, 58, 48, 48, 48, 49], [50, 58, 48, 49, 49, 49, 32, 50, 58, 48, 48, 48, 49, 32, 48, 58, 48], [50, 58, 48, 49, 49, 49, 32, 50, 58, 48, 48, 48, 49, 32, 48, 58, 49], [50, 58, 48, 49, 49, 49, 32, 50, 58, 48, 48, 48, 49, 32, 48, 58, 48, 32, 48, 58, 49], [50, 58, 48, 49, 49, 49, 32, 51, 58, 48, 49, 48, 48, 48, 48, 48, 49], [50, 58, 48, 48, 48, 49, 32, 50, 58, 48, 49, 49, 48], [50, 58, 48, 49, 49, 49, 32, 50, 58, 49, 48, 48, 49], [50, 58, 48, 48, 48, 49, 32, 49, 58, 49, 48]]
def bsOf (l : List UInt8) : ByteArray := ⟨l.toArray⟩
def lnB (j : Nat) : ByteArray := bsOf (lnBs[j]?.getD [])
def lnK (j : Nat) : Nat := lnKs[j]?.getD 0
def lnT (j : Nat) : List Nat := lnTs[j]?.getD []
def lnG (j : Nat) : ByteArray := bsOf (lnGs[j]?.getD [])
def testF (t : Nat) : Nat := [76, 77, 78, 75, 81, 74, 79, 80][t]?.getD 0
def testV (t : Nat) : Value := .func (.func (testF t)) #[] #[]
def lnFull : List (List Nat) := lnTs.filter fun l => !l.isEmpty
/-- Which block has a line's tests. -/
def lnI (j : Nat) : Nat := ((lnTs.take j).filter fun l => !l.isEmpty).length
def lnV (N j : Nat) : Value := if (lnT j).isEmpty then .slice none 0 0 else .slice (some ⟨N + lnI j, 0, none⟩) (lnT j).length (lnT j).length
def lnA (N j : Nat) : Value := .agg #[.string (lnB j), .int .i64 (lnK j : Int), lnV N j, .string (lnG j)]
theorem lnI_full : ∀ j < 38, lnT j ≠ [] → lnFull[lnI j]? = some (lnT j) := by decide
theorem lnI_lt : ∀ j < 38, lnT j ≠ [] → lnI j < 35 := by decide
def allocs (w : World) (os : List Obj) : World := os.foldl World.alloc w
theorem allocs_size (w : World) (os : List Obj) : (allocs w os).heap.size = w.heap.size + os.length := by
  induction os generalizing w with
  | nil => rfl
  | cons o os ih =>
    show (allocs (w.alloc o) os).heap.size = _
    rw [ih, List.length_cons]
    simp [go_sem]
    omega
theorem allocs_below (w : World) (os : List Obj) : Below w.heap.size w (allocs w os) := by
  induction os generalizing w with
  | nil => exact Below.refl _ _
  | cons o os ih => exact bthen (bnew w o) (ih (w.alloc o))
theorem allocs_get (w : World) (os : List Obj) (k : Nat) (o : Obj) (h : os[k]? = some o) : (allocs w os).heap[w.heap.size + k]? = some o := by
  induction os generalizing w k with
  | nil => cases h
  | cons q os ih =>
    show (allocs (w.alloc q) os).heap[w.heap.size + k]? = some o
    cases k with
    | zero =>
      have hq : q = o := by simpa using h
      subst hq
      have hs : w.heap.size < (w.alloc q).heap.size := by simp [go_sem]
      exact ((allocs_below (w.alloc q) os).block w.heap.size hs).trans (World.alloc_heap_new w q)
    | succ k =>
      have := ih (w.alloc q) k (by simpa using h)
      rw [show (w.alloc q).heap.size = w.heap.size + 1 by simp [go_sem]] at this
      rw [show w.heap.size + (k + 1) = w.heap.size + 1 + k by omega]
      exact this
/-- Tests in memory. -/
def TestsM (W : World) (tv : Value) (ts : List Nat) : Prop := ∃ a cap, tv = .slice a ts.length cap ∧ ∀ i, i < ts.length → ∃ g, a = some ⟨g, 0, none⟩ ∧ g < W.heap.size ∧ W.cell? ⟨g, i, none⟩ = some (testV (ts[i]?.getD 0))
theorem TestsM.below {W W' : World} {tv : Value} {ts : List Nat} (h : TestsM W tv ts) (hb : Below W.heap.size W W') : TestsM W' tv ts := by
  obtain ⟨a, cap, e, h⟩ := h
  refine ⟨a, cap, e, fun i hi => ?_⟩
  obtain ⟨g, e2, hg, hc⟩ := h i hi
  exact ⟨g, e2, Nat.lt_of_lt_of_le hg hb.size, kc hb hc⟩
/-- The table in memory. -/
def LinesM (W : World) (B : Nat) : Prop := B < W.heap.size ∧ ∀ j, j < 38 → ∃ tv, W.cell? ⟨B, j * 4, none⟩ = some (.string (lnB j)) ∧ W.cell? ⟨B, j * 4 + 1, none⟩ = some (.int .i64 (lnK j : Int)) ∧ W.cell? ⟨B, j * 4 + 2, none⟩ = some tv ∧ W.cell? ⟨B, j * 4 + 3, none⟩ = some (.string (lnG j)) ∧ TestsM W tv (lnT j)
theorem LinesM.below {W W' : World} {B : Nat} (h : LinesM W B) (hb : Below W.heap.size W W') : LinesM W' B := by
  refine ⟨Nat.lt_of_lt_of_le h.1 hb.size, fun j hj => ?_⟩
  obtain ⟨tv, h0, h1, h2, h3, h4⟩ := h.2 j hj
  exact ⟨tv, kc hb h0, kc hb h1, kc hb h2, kc hb h3, h4.below hb⟩
def lnVs (N : Nat) : List Value := (List.range 38).map (lnA N)
def lnCells (N : Nat) : Array Value := ((lnVs N).flatMap fun v => v.cells.toList).toArray
theorem lnVs_size (N : Nat) : ∀ v ∈ lnVs N, v.cells.size = 4 := by
  intro v hv
  obtain ⟨j, _, rfl⟩ := List.mem_map.1 hv
  rfl
theorem lnCells_get (N j i : Nat) (hj : j < 38) (hi : i < 4) : (lnCells N)[j * 4 + i]? = (lnA N j).cells[i]? := by
  unfold lnCells
  rw [List.getElem?_toArray, Great.flat_get (s := 4) (by decide) _ (lnVs_size N)]
  rw [show (j * 4 + i) / 4 = j by omega, show (j * 4 + i) % 4 = i by omega]
  unfold lnVs
  rw [List.getElem?_map, List.getElem?_range hj]
  rfl
theorem lines_made (w : World) : LinesM ((allocs w (lnFull.map fun l => .cells (l.map testV).toArray 106)).alloc (.cells (lnCells w.heap.size) 41)) (w.heap.size + 35) ∧ Below w.heap.size w ((allocs w (lnFull.map fun l => .cells (l.map testV).toArray 106)).alloc (.cells (lnCells w.heap.size) 41)) := by
  have hlen : (lnFull.map fun l => Obj.cells (l.map testV).toArray 106).length = 35 := by rw [List.length_map]; decide
  have hB := allocs_below w (lnFull.map fun l => .cells (l.map testV).toArray 106)
  have hS := allocs_size w (lnFull.map fun l => .cells (l.map testV).toArray 106)
  have hG := allocs_get w (lnFull.map fun l => .cells (l.map testV).toArray 106)
  rw [hlen] at hS
  have hF : ∀ k l, lnFull[k]? = some l → (allocs w (lnFull.map fun l => .cells (l.map testV).toArray 106)).heap[w.heap.size + k]? = some (.cells (l.map testV).toArray 106) := fun k l h => hG k _ (by rw [List.getElem?_map, h]; rfl)
  generalize allocs w (lnFull.map fun l => .cells (l.map testV).toArray 106) = W at hB hS hG hF ⊢
  clear hG hlen
  have hnew := World.alloc_heap_new W (.cells (lnCells w.heap.size) 41)
  rw [hS] at hnew
  refine ⟨⟨by simp [go_sem, hS], fun j hj => ⟨lnV w.heap.size j, ?_, ?_, ?_, ?_, ?_⟩⟩, balloc hB _⟩
  · have := lnCells_get w.heap.size j 0 hj (by decide)
    simp only [World.cell?, hnew, Option.isSome_none, Bool.false_eq_true, if_false]
    exact this
  · have := lnCells_get w.heap.size j 1 hj (by decide)
    simp only [World.cell?, hnew, Option.isSome_none, Bool.false_eq_true, if_false]
    exact this
  · have := lnCells_get w.heap.size j 2 hj (by decide)
    simp only [World.cell?, hnew, Option.isSome_none, Bool.false_eq_true, if_false]
    exact this
  · have := lnCells_get w.heap.size j 3 hj (by decide)
    simp only [World.cell?, hnew, Option.isSome_none, Bool.false_eq_true, if_false]
    exact this
  · by_cases he : lnT j = []
    · exact ⟨none, 0, by unfold lnV; rw [he]; rfl, fun i hi => by rw [he] at hi; cases hi⟩
    · refine ⟨some ⟨w.heap.size + lnI j, 0, none⟩, (lnT j).length, by unfold lnV; rw [if_neg (by simpa using he)], fun i hi => ⟨_, rfl, ?_, ?_⟩⟩
      · have := lnI_lt j hj he
        simp [go_sem, hS]
        omega
      · have hlt := lnI_lt j hj he
        have h1 := hF _ _ (lnI_full j hj he)
        refine kc (bnew W _) ?_
        simp only [World.cell?, h1, Option.isSome_none, Bool.false_eq_true, if_false]
        rw [List.getElem?_toArray, List.getElem?_map, List.getElem?_eq_getElem hi]
        rfl
theorem wpList_gen {P : Program} {ops : Array Oper} {Q : Exit → Act → World → Prop} {rest : List Oper} {act : Act} {W : World} (R : World → Prop) (h1 : R W) (h2 : ∀ W', R W' → wpList P ops Q rest act W') : wpList P ops Q rest act W := h2 W h1
theorem infoL : (Tryz.prog.info? 41).map (fun i => (i.zero, i.size, i.bytes)) = some (some (.agg #[.string ⟨#[]⟩, .int .i64 0, .slice none 0 0, .string ⟨#[]⟩]), 4, 64) := by kernel_rfl

set_option maxRecDepth 100000 in
set_option maxHeartbeats 8000000 in
theorem nameLines_any (w : World) :
    Calls Tryz.prog 52 #[] w fun e w' => ∃ B, e = .returned (.slice (some ⟨B, 0, none⟩) 38 38) ∧ LinesM w' B ∧ w.heap.size ≤ B ∧ Below w.heap.size w w' := by
  obtain ⟨ie, hi, hz0, hz1, hz2⟩ := info_parts infoL
  have HLM := Lib.hid (lines_made w)
  go_enter Tryz.func52, Tryz.ntmps52
  go_wp2
  refine wp_buildSlice 77 41 38 _ rfl (lnCells w.heap.size) ie _ Tryz.underlying77 hi hz0 (by rw [hz1]; decide) (by rw [hz1]; decide) ?hf ?_
  case hf =>
    rw [hz1]
    refine (congrArg (Instr.fill _ _) ?_).trans (Great.fill_whole (s := 4) (by decide) (lnVs w.heap.size) _ (lnVs_size _) (by simp [lnVs]))
    rw [Array.toList_map]
    rfl
  refine (‹∀ (a : Act) (w : World), wpList _ _ _ _ a w → _› : _) _ _ ?_
  refine wpList_gen (fun W' => LinesM W' (w.heap.size + 35) ∧ Below w.heap.size w W') (HLM.out) ?_
  rintro W' ⟨hL, hB⟩
  have HL := Lib.hid hL
  have HB := Lib.hid hB
  clear hL hB
  go_wp2
  go_ret
  exact ⟨_, rfl, HL.out, by omega, HB.out⟩
end Go.Proofs.YthjgkgknlecjlaaGreatDoor

/- CN15:
  The first line that fits. -/
namespace Go.Proofs.YthjgkgknlecjlaaGreatDoor
open Go.RowKit Go.Shelf
set_option linter.unusedVariables false
set_option linter.unusedSimpArgs false

/-- The degree that a line asks for. -/
def degK (d0 d1 k : Nat) : Nat := if k = 0 then d0 else if k = 1 then d1 else 9
def fitB (cm d0 d1 k : Nat) (ts : List Nat) : Bool := decide (2 ≤ degK d0 d1 k) && ts.all fun t => bitN cm t == 1
theorem test_calls {t : Nat} (ht : t < 8) : (∀ args w, (callFunc (testF t) args).run Tryz.prog w = .ok (.enter (testF t) args) w) ∧
    ∀ (cm d0 d1 d2 : Nat), cm < 256 → ∀ w, Calls Tryz.prog (testF t) #[trV cm d0 d1 d2] w fun e w' => e = .returned (.bool (bitN cm t == 1)) ∧ Below w.heap.size w w' := by
  rcases (by omega : t = 0 ∨ t = 1 ∨ t = 2 ∨ t = 3 ∨ t = 4 ∨ t = 5 ∨ t = 6 ∨ t = 7) with rfl | rfl | rfl | rfl | rfl | rfl | rfl | rfl
  · exact ⟨enters_of Tryz.func76 (by kernel_rfl) rfl, fun cm d0 d1 d2 h w => keepZero_any cm d0 d1 d2 h w⟩
  · exact ⟨enters_of Tryz.func77 (by kernel_rfl) rfl, fun cm d0 d1 d2 h w => keepOne_any cm d0 d1 d2 h w⟩
  · exact ⟨enters_of Tryz.func78 (by kernel_rfl) rfl, fun cm d0 d1 d2 h w => areSelfDual_any cm d0 d1 d2 h w⟩
  · exact ⟨enters_of Tryz.func75 (by kernel_rfl) rfl, fun cm d0 d1 d2 h w => areMonotone_any cm d0 d1 d2 h w⟩
  · exact ⟨enters_of Tryz.func81 (by kernel_rfl) rfl, fun cm d0 d1 d2 h w => areAffine_any cm d0 d1 d2 h w⟩
  · exact ⟨enters_of Tryz.func74 (by kernel_rfl) rfl, fun cm d0 d1 d2 h w => areUnary_any cm d0 d1 d2 h w⟩
  · exact ⟨enters_of Tryz.func79 (by kernel_rfl) rfl, fun cm d0 d1 d2 h w => areDisjunctions_any cm d0 d1 d2 h w⟩
  · exact ⟨enters_of Tryz.func80 (by kernel_rfl) rfl, fun cm d0 d1 d2 h w => areConjunctions_any cm d0 d1 d2 h w⟩

set_option maxRecDepth 100000 in
set_option maxHeartbeats 4000000 in
theorem fit_any (cm d0 d1 : Nat) (hcm : cm < 256) (h0 : d0 ≤ 9) (h1 : d1 ≤ 9) (b g : ByteArray) (k : Nat) (hk : k ≤ 2) (tv : Value) (ts : List Nat) (hts : ∀ t ∈ ts, t < 8) (hlen : ts.length ≤ 1000) (w : World) (hT : TestsM w tv ts) :
    Calls Tryz.prog 54 #[trV cm d0 d1 9, .agg #[.string b, .int .i64 (k : Int), tv, .string g]] w fun e w' => e = .returned (.bool (fitB cm d0 d1 k ts)) ∧ Below w.heap.size w w' := by
  have HTC : Hid (∀ i, i < ts.length → (∀ args w, (callFunc (testF (ts[i]?.getD 0)) args).run Tryz.prog w = .ok (.enter (testF (ts[i]?.getD 0)) args) w) ∧ ∀ w, Calls Tryz.prog (testF (ts[i]?.getD 0)) #[trV cm d0 d1 9] w fun e w' => e = .returned (.bool (bitN cm (ts[i]?.getD 0) == 1)) ∧ Below w.heap.size w w') := Lib.hid fun i hi => by
    have := test_calls (t := ts[i]?.getD 0) (hts _ (by rw [List.getElem?_eq_getElem hi]; exact List.getElem_mem _))
    exact ⟨this.1, fun w => this.2 cm d0 d1 9 hcm w⟩
  obtain ⟨a, cap, rfl, hT⟩ := hT
  have HT := Lib.hid hT
  have HALL : Hid ((∀ i, i < ts.length → (bitN cm (ts[i]?.getD 0) == 1) = true) → ts.all (fun t => bitN cm t == 1) = true) := Lib.hid fun h => by
    rw [List.all_eq_true]
    intro t ht
    obtain ⟨i, hi, rfl⟩ := List.mem_iff_getElem.1 ht
    have := h i hi
    rwa [List.getElem?_eq_getElem hi] at this
  have HNOT : Hid (∀ i, i < ts.length → (bitN cm (ts[i]?.getD 0) == 1) = false → ts.all (fun t => bitN cm t == 1) = false) := Lib.hid fun i hi h => by
    rw [List.all_eq_false]
    exact ⟨ts[i], List.getElem_mem hi, by rw [List.getElem?_eq_getElem hi] at h; simpa using h⟩
  unfold fitB
  generalize ts.all (fun t => bitN cm t == 1) = al at HALL HNOT ⊢
  clear hT hts
  obtain ⟨L, hL⟩ : ∃ L, ts.length = L := ⟨_, rfl⟩
  rw [hL] at HTC HT HALL HNOT hlen ⊢
  clear hL
  unfold trV at HTC ⊢
  rw [show (((9 : Nat)) : Int) = 9 from rfl] at HTC ⊢
  have hdk : degK d0 d1 k ≤ 9 := by unfold degK; split <;> (try split) <;> omega
  by_cases hd : 2 ≤ degK d0 d1 k
  · rw [show decide (2 ≤ degK d0 d1 k) = true by simp [hd], Bool.true_and]
    rcases (by omega : k = 0 ∨ k = 1 ∨ k = 2) with rfl | rfl | rfl
    · have hdd : degK d0 d1 0 = d0 := rfl
      rw [hdd] at hd
      clear hdd
      have hlt : decide ((d0 : Int) < 2) = false := by simp; omega
      clear hd hdk h0 h1 hk
      generalize (cm : Int) = c at HTC ⊢
      generalize (d0 : Int) = e0 at HTC hlt ⊢
      generalize (d1 : Int) = e1 at HTC ⊢
      rw [show (((0 : Nat)) : Int) = 0 from rfl]
      obtain ⟨W1, hW1⟩ : ∃ W1, (w.alloc (.cells #[.int .i64 c, .int .i64 e0, .int .i64 e1, .int .i64 9] 75)).alloc (.cells #[.string b, .int .i64 0, .slice a L cap, .string g] 41) = W1 := ⟨_, rfl⟩
      have p0 : W1.cell? ⟨w.heap.size, 0, none⟩ = some (.int .i64 c) := by rw [← hW1]; simp [go_sem]
      have p1 : W1.cell? ⟨w.heap.size, 1, none⟩ = some (.int .i64 e0) := by rw [← hW1]; simp [go_sem]
      have p2 : W1.cell? ⟨w.heap.size, 2, none⟩ = some (.int .i64 e1) := by rw [← hW1]; simp [go_sem]
      have p3 : W1.cell? ⟨w.heap.size, 3, none⟩ = some (.int .i64 9) := by rw [← hW1]; simp [go_sem]
      have l1 : W1.cell? ⟨w.heap.size + 1, 1, none⟩ = some (.int .i64 0) := by rw [← hW1]; simp [go_sem]
      have l2 : W1.cell? ⟨w.heap.size + 1, 2, none⟩ = some (.slice a L cap) := by rw [← hW1]; simp [go_sem]
      have hB : Below w.heap.size w W1 := by rw [← hW1]; exact balloc (bnew _ _) _
      go_enter Tryz.func54, Tryz.ntmps54
      go_wp2
      clear hW1
      go_loopw [16] (fun i' wr => ∃ i : Nat, i ≤ L ∧ i' = .int .i64 i ∧ Hid (∀ j, j < i → (bitN cm (ts[j]?.getD 0) == 1) = true) ∧ Below W1.heap.size W1 wr) (fun i' _ => L - (intOf i').toNat)
      case atStart => exact ⟨0, Nat.zero_le _, rfl, Lib.hid (fun j hj => absurd hj (Nat.not_lt_zero _)), Below.refl _ _⟩
      case round =>
        obtain ⟨i, hi, rfl, HI, hN⟩ := hrel
        have hBN := bthen hB hN
        by_cases hlt2 : i < L
        · obtain ⟨gb, rfl, hgl, hcell⟩ := HT.out i hlt2
          have q0 := kc hN p0
          have q1 := kc hN p1
          have q2 := kc hN p2
          have q3 := kc hN p3
          have hu := kc hBN hcell
          obtain ⟨eg, hcalls⟩ := HTC.out i hlt2
          have HCL := Lib.hid hcalls
          have HNi := Lib.hid (HNOT.out i hlt2)
          clear hcell hcalls
          unfold testV at hu
          generalize testF (ts[i]?.getD 0) = F at eg hu HCL
          cases hq : (bitN cm (ts[i]?.getD 0) == 1)
          · have HF := Lib.hid (HNi.out hq)
            rw [hq] at HCL
            clear hq HNi
            go_wp2_with fail
            refine (HCL.out _).mono ?_
            rintro e w4 ⟨rfl, hb4⟩
            go_wp2
            go_ret
            exact ⟨by rw [HF.out]; rfl, bthen hBN hb4⟩
          · have HI2 : Hid (∀ j, j < i + 1 → (bitN cm (ts[j]?.getD 0) == 1) = true) := Lib.hid fun j hj => by
              by_cases e : j = i
              · rw [e]; exact hq
              · exact HI.out j (by omega)
            rw [hq] at HCL
            clear hq HNi
            go_wp2_with fail
            refine (HCL.out _).mono ?_
            rintro e w4 ⟨rfl, hb4⟩
            go_wp2
            go_roundw
            case rel => exact ⟨i + 1, by omega, by go_num, HI2, bthen hN hb4⟩
            case measure => simp [intOf]; omega
        · obtain rfl : i = L := by omega
          have HF := Lib.hid (HALL.out HI.out)
          go_wp2
          go_ret
          exact ⟨by rw [HF.out]; rfl, hBN⟩
    · have hdd : degK d0 d1 1 = d1 := rfl
      rw [hdd] at hd
      clear hdd
      have hlt : decide ((d1 : Int) < 2) = false := by simp; omega
      clear hd hdk h0 h1 hk
      generalize (cm : Int) = c at HTC ⊢
      generalize (d0 : Int) = e0 at HTC ⊢
      generalize (d1 : Int) = e1 at HTC hlt ⊢
      rw [show (((1 : Nat)) : Int) = 1 from rfl]
      obtain ⟨W1, hW1⟩ : ∃ W1, (w.alloc (.cells #[.int .i64 c, .int .i64 e0, .int .i64 e1, .int .i64 9] 75)).alloc (.cells #[.string b, .int .i64 1, .slice a L cap, .string g] 41) = W1 := ⟨_, rfl⟩
      have p0 : W1.cell? ⟨w.heap.size, 0, none⟩ = some (.int .i64 c) := by rw [← hW1]; simp [go_sem]
      have p1 : W1.cell? ⟨w.heap.size, 1, none⟩ = some (.int .i64 e0) := by rw [← hW1]; simp [go_sem]
      have p2 : W1.cell? ⟨w.heap.size, 2, none⟩ = some (.int .i64 e1) := by rw [← hW1]; simp [go_sem]
      have p3 : W1.cell? ⟨w.heap.size, 3, none⟩ = some (.int .i64 9) := by rw [← hW1]; simp [go_sem]
      have l1 : W1.cell? ⟨w.heap.size + 1, 1, none⟩ = some (.int .i64 1) := by rw [← hW1]; simp [go_sem]
      have l2 : W1.cell? ⟨w.heap.size + 1, 2, none⟩ = some (.slice a L cap) := by rw [← hW1]; simp [go_sem]
      have hB : Below w.heap.size w W1 := by rw [← hW1]; exact balloc (bnew _ _) _
      go_enter Tryz.func54, Tryz.ntmps54
      go_wp2
      clear hW1
      go_loopw [16] (fun i' wr => ∃ i : Nat, i ≤ L ∧ i' = .int .i64 i ∧ Hid (∀ j, j < i → (bitN cm (ts[j]?.getD 0) == 1) = true) ∧ Below W1.heap.size W1 wr) (fun i' _ => L - (intOf i').toNat)
      case atStart => exact ⟨0, Nat.zero_le _, rfl, Lib.hid (fun j hj => absurd hj (Nat.not_lt_zero _)), Below.refl _ _⟩
      case round =>
        obtain ⟨i, hi, rfl, HI, hN⟩ := hrel
        have hBN := bthen hB hN
        by_cases hlt2 : i < L
        · obtain ⟨gb, rfl, hgl, hcell⟩ := HT.out i hlt2
          have q0 := kc hN p0
          have q1 := kc hN p1
          have q2 := kc hN p2
          have q3 := kc hN p3
          have hu := kc hBN hcell
          obtain ⟨eg, hcalls⟩ := HTC.out i hlt2
          have HCL := Lib.hid hcalls
          have HNi := Lib.hid (HNOT.out i hlt2)
          clear hcell hcalls
          unfold testV at hu
          generalize testF (ts[i]?.getD 0) = F at eg hu HCL
          cases hq : (bitN cm (ts[i]?.getD 0) == 1)
          · have HF := Lib.hid (HNi.out hq)
            rw [hq] at HCL
            clear hq HNi
            go_wp2_with fail
            refine (HCL.out _).mono ?_
            rintro e w4 ⟨rfl, hb4⟩
            go_wp2
            go_ret
            exact ⟨by rw [HF.out]; rfl, bthen hBN hb4⟩
          · have HI2 : Hid (∀ j, j < i + 1 → (bitN cm (ts[j]?.getD 0) == 1) = true) := Lib.hid fun j hj => by
              by_cases e : j = i
              · rw [e]; exact hq
              · exact HI.out j (by omega)
            rw [hq] at HCL
            clear hq HNi
            go_wp2_with fail
            refine (HCL.out _).mono ?_
            rintro e w4 ⟨rfl, hb4⟩
            go_wp2
            go_roundw
            case rel => exact ⟨i + 1, by omega, by go_num, HI2, bthen hN hb4⟩
            case measure => simp [intOf]; omega
        · obtain rfl : i = L := by omega
          have HF := Lib.hid (HALL.out HI.out)
          go_wp2
          go_ret
          exact ⟨by rw [HF.out]; rfl, hBN⟩
    · have hdd : degK d0 d1 2 = 9 := rfl
      rw [hdd] at hd
      clear hdd
      clear hd hdk h0 h1 hk
      generalize (cm : Int) = c at HTC ⊢
      generalize (d0 : Int) = e0 at HTC ⊢
      generalize (d1 : Int) = e1 at HTC ⊢
      rw [show (((2 : Nat)) : Int) = 2 from rfl]
      obtain ⟨W1, hW1⟩ : ∃ W1, (w.alloc (.cells #[.int .i64 c, .int .i64 e0, .int .i64 e1, .int .i64 9] 75)).alloc (.cells #[.string b, .int .i64 2, .slice a L cap, .string g] 41) = W1 := ⟨_, rfl⟩
      have p0 : W1.cell? ⟨w.heap.size, 0, none⟩ = some (.int .i64 c) := by rw [← hW1]; simp [go_sem]
      have p1 : W1.cell? ⟨w.heap.size, 1, none⟩ = some (.int .i64 e0) := by rw [← hW1]; simp [go_sem]
      have p2 : W1.cell? ⟨w.heap.size, 2, none⟩ = some (.int .i64 e1) := by rw [← hW1]; simp [go_sem]
      have p3 : W1.cell? ⟨w.heap.size, 3, none⟩ = some (.int .i64 9) := by rw [← hW1]; simp [go_sem]
      have l1 : W1.cell? ⟨w.heap.size + 1, 1, none⟩ = some (.int .i64 2) := by rw [← hW1]; simp [go_sem]
      have l2 : W1.cell? ⟨w.heap.size + 1, 2, none⟩ = some (.slice a L cap) := by rw [← hW1]; simp [go_sem]
      have hB : Below w.heap.size w W1 := by rw [← hW1]; exact balloc (bnew _ _) _
      go_enter Tryz.func54, Tryz.ntmps54
      go_wp2
      clear hW1
      go_loopw [16] (fun i' wr => ∃ i : Nat, i ≤ L ∧ i' = .int .i64 i ∧ Hid (∀ j, j < i → (bitN cm (ts[j]?.getD 0) == 1) = true) ∧ Below W1.heap.size W1 wr) (fun i' _ => L - (intOf i').toNat)
      case atStart => exact ⟨0, Nat.zero_le _, rfl, Lib.hid (fun j hj => absurd hj (Nat.not_lt_zero _)), Below.refl _ _⟩
      case round =>
        obtain ⟨i, hi, rfl, HI, hN⟩ := hrel
        have hBN := bthen hB hN
        by_cases hlt2 : i < L
        · obtain ⟨gb, rfl, hgl, hcell⟩ := HT.out i hlt2
          have q0 := kc hN p0
          have q1 := kc hN p1
          have q2 := kc hN p2
          have q3 := kc hN p3
          have hu := kc hBN hcell
          obtain ⟨eg, hcalls⟩ := HTC.out i hlt2
          have HCL := Lib.hid hcalls
          have HNi := Lib.hid (HNOT.out i hlt2)
          clear hcell hcalls
          unfold testV at hu
          generalize testF (ts[i]?.getD 0) = F at eg hu HCL
          cases hq : (bitN cm (ts[i]?.getD 0) == 1)
          · have HF := Lib.hid (HNi.out hq)
            rw [hq] at HCL
            clear hq HNi
            go_wp2_with fail
            refine (HCL.out _).mono ?_
            rintro e w4 ⟨rfl, hb4⟩
            go_wp2
            go_ret
            exact ⟨by rw [HF.out]; rfl, bthen hBN hb4⟩
          · have HI2 : Hid (∀ j, j < i + 1 → (bitN cm (ts[j]?.getD 0) == 1) = true) := Lib.hid fun j hj => by
              by_cases e : j = i
              · rw [e]; exact hq
              · exact HI.out j (by omega)
            rw [hq] at HCL
            clear hq HNi
            go_wp2_with fail
            refine (HCL.out _).mono ?_
            rintro e w4 ⟨rfl, hb4⟩
            go_wp2
            go_roundw
            case rel => exact ⟨i + 1, by omega, by go_num, HI2, bthen hN hb4⟩
            case measure => simp [intOf]; omega
        · obtain rfl : i = L := by omega
          have HF := Lib.hid (HALL.out HI.out)
          go_wp2
          go_ret
          exact ⟨by rw [HF.out]; rfl, hBN⟩
  · rw [show decide (2 ≤ degK d0 d1 k) = false by simp [hd], Bool.false_and]
    rcases (by omega : k = 0 ∨ k = 1 ∨ k = 2) with rfl | rfl | rfl
    · have hdd : degK d0 d1 0 = d0 := rfl
      rw [hdd] at hd
      clear hdd
      have hlt : decide ((d0 : Int) < 2) = true := by simp; omega
      clear hd hdk h0 h1 hk
      generalize (cm : Int) = c at HTC ⊢
      generalize (d0 : Int) = e0 at HTC hlt ⊢
      generalize (d1 : Int) = e1 at HTC ⊢
      rw [show (((0 : Nat)) : Int) = 0 from rfl]
      obtain ⟨W1, hW1⟩ : ∃ W1, (w.alloc (.cells #[.int .i64 c, .int .i64 e0, .int .i64 e1, .int .i64 9] 75)).alloc (.cells #[.string b, .int .i64 0, .slice a L cap, .string g] 41) = W1 := ⟨_, rfl⟩
      have p0 : W1.cell? ⟨w.heap.size, 0, none⟩ = some (.int .i64 c) := by rw [← hW1]; simp [go_sem]
      have p1 : W1.cell? ⟨w.heap.size, 1, none⟩ = some (.int .i64 e0) := by rw [← hW1]; simp [go_sem]
      have p2 : W1.cell? ⟨w.heap.size, 2, none⟩ = some (.int .i64 e1) := by rw [← hW1]; simp [go_sem]
      have p3 : W1.cell? ⟨w.heap.size, 3, none⟩ = some (.int .i64 9) := by rw [← hW1]; simp [go_sem]
      have l1 : W1.cell? ⟨w.heap.size + 1, 1, none⟩ = some (.int .i64 0) := by rw [← hW1]; simp [go_sem]
      have l2 : W1.cell? ⟨w.heap.size + 1, 2, none⟩ = some (.slice a L cap) := by rw [← hW1]; simp [go_sem]
      have hB : Below w.heap.size w W1 := by rw [← hW1]; exact balloc (bnew _ _) _
      go_enter Tryz.func54, Tryz.ntmps54
      go_wp2
      go_ret
      exact ⟨rfl, hB⟩
    · have hdd : degK d0 d1 1 = d1 := rfl
      rw [hdd] at hd
      clear hdd
      have hlt : decide ((d1 : Int) < 2) = true := by simp; omega
      clear hd hdk h0 h1 hk
      generalize (cm : Int) = c at HTC ⊢
      generalize (d0 : Int) = e0 at HTC ⊢
      generalize (d1 : Int) = e1 at HTC hlt ⊢
      rw [show (((1 : Nat)) : Int) = 1 from rfl]
      obtain ⟨W1, hW1⟩ : ∃ W1, (w.alloc (.cells #[.int .i64 c, .int .i64 e0, .int .i64 e1, .int .i64 9] 75)).alloc (.cells #[.string b, .int .i64 1, .slice a L cap, .string g] 41) = W1 := ⟨_, rfl⟩
      have p0 : W1.cell? ⟨w.heap.size, 0, none⟩ = some (.int .i64 c) := by rw [← hW1]; simp [go_sem]
      have p1 : W1.cell? ⟨w.heap.size, 1, none⟩ = some (.int .i64 e0) := by rw [← hW1]; simp [go_sem]
      have p2 : W1.cell? ⟨w.heap.size, 2, none⟩ = some (.int .i64 e1) := by rw [← hW1]; simp [go_sem]
      have p3 : W1.cell? ⟨w.heap.size, 3, none⟩ = some (.int .i64 9) := by rw [← hW1]; simp [go_sem]
      have l1 : W1.cell? ⟨w.heap.size + 1, 1, none⟩ = some (.int .i64 1) := by rw [← hW1]; simp [go_sem]
      have l2 : W1.cell? ⟨w.heap.size + 1, 2, none⟩ = some (.slice a L cap) := by rw [← hW1]; simp [go_sem]
      have hB : Below w.heap.size w W1 := by rw [← hW1]; exact balloc (bnew _ _) _
      go_enter Tryz.func54, Tryz.ntmps54
      go_wp2
      go_ret
      exact ⟨rfl, hB⟩
    · have hdd : degK d0 d1 2 = 9 := rfl
      rw [hdd] at hd
      clear hdd
      exact absurd (by decide) hd
end Go.Proofs.YthjgkgknlecjlaaGreatDoor

/- CN16:
  The first line that fits a list with given traits. -/
namespace Go.Proofs.YthjgkgknlecjlaaGreatDoor
open Go.RowKit Go.Shelf
set_option linter.unusedVariables false
set_option linter.unusedSimpArgs false

def fitJ (cm d0 d1 j : Nat) : Bool := fitB cm d0 d1 (lnK j) (lnT j)
def ixN (cm d0 d1 : Nat) : Nat := ((List.range 38).find? (fitJ cm d0 d1)).getD 37
theorem fit_last (cm d0 d1 : Nat) : fitJ cm d0 d1 37 = true := rfl
theorem ln_small : ∀ j < 38, lnK j ≤ 2 ∧ (∀ t ∈ lnT j, t < 8) ∧ (lnT j).length ≤ 1000 := by decide
theorem ix_at {cm d0 d1 i : Nat} (hi : i < 38) (hb : ∀ j, j < i → fitJ cm d0 d1 j = false) (h : fitJ cm d0 d1 i = true) : ixN cm d0 d1 = i := by
  have : (List.range 38).find? (fitJ cm d0 d1) = some i := by
    rw [List.find?_range_eq_some]
    exact ⟨h, List.mem_range.2 hi, fun j hj => by rw [hb j hj]; rfl⟩
  unfold ixN
  rw [this]
  rfl
theorem ix_spec (cm d0 d1 : Nat) : ixN cm d0 d1 < 38 ∧ fitJ cm d0 d1 (ixN cm d0 d1) = true ∧ ∀ j, j < ixN cm d0 d1 → fitJ cm d0 d1 j = false := by
  unfold ixN
  cases hf : (List.range 38).find? (fitJ cm d0 d1) with
  | none =>
    rw [List.find?_eq_none] at hf
    exact absurd (fit_last cm d0 d1) (hf 37 (by decide))
  | some i =>
    rw [List.find?_range_eq_some] at hf
    obtain ⟨h1, h2, h3⟩ := hf
    exact ⟨List.mem_range.1 h2, h1, fun j hj => by simpa using h3 j hj⟩

set_option maxRecDepth 100000 in
set_option maxHeartbeats 4000000 in
theorem indexLine_any (cm d0 d1 : Nat) (hcm : cm < 256) (h0 : d0 ≤ 9) (h1 : d1 ≤ 9) (B : Nat) (w : World) (hL : LinesM w B) :
    Calls Tryz.prog 53 #[.slice (some ⟨B, 0, none⟩) 38 38, .func (.func 54) #[trV cm d0 d1 9] #[]] w fun e w' => e = .returned (.int .i64 (ixN cm d0 d1 : Int)) ∧ Below w.heap.size w w' := by
  have HF := Lib.hid (fun j (hj : j < 38) (b g : ByteArray) tv W (hT : TestsM W tv (lnT j)) => fit_any cm d0 d1 hcm h0 h1 b g (lnK j) (ln_small j hj).1 tv (lnT j) (ln_small j hj).2.1 (ln_small j hj).2.2 W hT)
  have HX : Hid (∀ i, i < 38 → (∀ j, j < i → fitJ cm d0 d1 j = false) → fitJ cm d0 d1 i = true → ixN cm d0 d1 = i) := Lib.hid fun i hi hb h => ix_at hi hb h
  have HLAST := Lib.hid (fit_last cm d0 d1)
  have HL := Lib.hid hL
  have eg := enters_of Tryz.func54 (by kernel_rfl) rfl
  generalize ixN cm d0 d1 = ix at HX ⊢
  unfold trV at HF ⊢
  rw [show (((9 : Nat)) : Int) = 9 from rfl] at HF ⊢
  go_enter Tryz.func53, Tryz.ntmps53
  go_wp2
  go_loopw [8] (fun i' wr => ∃ i : Nat, i ≤ 38 ∧ i' = .int .i64 i ∧ Hid (∀ j, j < i → fitJ cm d0 d1 j = false) ∧ Below w.heap.size w wr) (fun i' _ => 38 - (intOf i').toNat)
  case atStart => exact ⟨0, Nat.zero_le _, rfl, Lib.hid (fun j hj => absurd hj (Nat.not_lt_zero _)), Below.refl _ _⟩
  case round =>
    obtain ⟨i, hi, rfl, HI, hN⟩ := hrel
    by_cases hlt : i < 38
    · obtain ⟨tv, c0, c1, c2, c3, hT⟩ := HL.out.2 i hlt
      have q0 := kc hN c0
      have q1 := kc hN c1
      have q2 := kc hN c2
      have q3 := kc hN c3
      have hq := HF.out i hlt (lnB i) (lnG i) tv wr (hT.below hN)
      rw [show fitB cm d0 d1 (lnK i) (lnT i) = fitJ cm d0 d1 i from rfl] at hq
      have HC := Lib.hid hq
      clear hq hT c0 c1 c2 c3
      generalize lnB i = b at q0 HC
      generalize lnG i = g at q3 HC
      generalize lnK i = k at q1 HC
      cases hfj : fitJ cm d0 d1 i
      · have HI2 : Hid (∀ j, j < i + 1 → fitJ cm d0 d1 j = false) := Lib.hid fun j hj => by
          by_cases e : j = i
          · rw [e]; exact hfj
          · exact HI.out j (by omega)
        rw [hfj] at HC
        clear hfj
        go_wp2_with (go_at_call 54; refine HC.out.mono ?_; rintro e w4 ⟨rfl, hb4⟩)
        go_roundw
        case rel => exact ⟨i + 1, by omega, by go_num, HI2, bthen hN hb4⟩
        case measure => simp [intOf]; omega
      · have HE := Lib.hid (HX.out i hlt HI.out hfj)
        rw [hfj] at HC
        clear hfj
        go_wp2_with (go_at_call 54; refine HC.out.mono ?_; rintro e w4 ⟨rfl, hb4⟩)
        go_ret
        exact ⟨by rw [HE.out]; rfl, bthen hN hb4⟩
    · have := HI.out 37 (by omega)
      rw [HLAST.out] at this
      cases this
end Go.Proofs.YthjgkgknlecjlaaGreatDoor

/- U1:
  Digits as texts. -/
namespace Go.Proofs.YthjgkgknlecjlaaGreatDoor
open Go.RowKit
set_option linter.unusedVariables false

/-- The byte of a digit. -/
def dgB (d : Nat) : UInt8 := UInt8.ofNat (48 + d)

theorem dgB_nat (d : Nat) (hd : d < 200) : (dgB d).toNat = 48 + d := by
  unfold dgB
  rw [UInt8.toNat_ofNat']
  exact Nat.mod_eq_of_lt (by omega)

set_option maxRecDepth 100000 in
set_option maxHeartbeats 2000000 in
theorem l01Dec_any (d : Nat) (hd : d < 10) (w : World) :
    Calls Tryz.prog 69 #[.int .i64 (d : Int)] w fun e w' => e = .returned (.string ⟨#[dgB d]⟩) ∧ Below w.heap.size w w' := by
  have hcv := run_convert_bytes_back (P := Tryz.prog) (w.alloc (.cells #[.int .u8 (48 + (d : Int))] 5)) 118 9 5 ⟨w.heap.size, 0, none⟩ 1 [dgB d] Tryz.underlying118 Tryz.underlying5 Tryz.underlying9 (fun j hj => by
    obtain rfl : j = 0 := by simpa using hj
    have := dgB_nat d (by omega)
    simp [go_sem, Addr.add, this])
  simp only [List.length_cons, List.length_nil, Nat.zero_add] at hcv
  go_enter Tryz.func69, Tryz.ntmps69
  go_wp2_with fail
  go_ret
  exact ⟨rfl, bnew _ _⟩
end Go.Proofs.YthjgkgknlecjlaaGreatDoor

/- U2:
  The texts of functions in the model. -/
namespace Go.Proofs.YthjgkgknlecjlaaGreatDoor
open Go.RowKit
set_option linter.unusedVariables false

/-- The bytes of a text, with the values of the first k rows. -/
def txtL (n x k : Nat) : List UInt8 := dgB n :: 58 :: (List.range k).map fun r => dgB (bitN x r)
theorem txtL_succ (n x k : Nat) : txtL n x (k + 1) = txtL n x k ++ [dgB (bitN x k)] := by simp [txtL, List.range_succ]
theorem txtL_len (n x k : Nat) : (txtL n x k).length = k + 2 := by simp [txtL]
def txtS (n x k : Nat) : ByteArray := ⟨(txtL n x k).toArray⟩
theorem txtS_size (n x k : Nat) : (txtS n x k).size = k + 2 := by show ((txtL n x k).toArray).size = _; rw [List.size_toArray, txtL_len]
theorem txtS_zero (n x : Nat) : ((⟨#[dgB n]⟩ : ByteArray) ++ ⟨#[58]⟩) = txtS n x 0 := by rw [ByteArray.mk_append_mk]; rfl
theorem txtS_app (n x k : Nat) : (txtS n x k ++ (⟨#[dgB (bitN x k)]⟩ : ByteArray)) = txtS n x (k + 1) := by unfold txtS; rw [ByteArray.mk_append_mk, txtL_succ]
theorem txtS_succ (n x k : Nat) : (⟨(txtS n x k).data ++ #[dgB (bitN x k)]⟩ : ByteArray) = txtS n x (k + 1) := by
  unfold txtS
  rw [txtL_succ]
  simp

end Go.Proofs.YthjgkgknlecjlaaGreatDoor

/- U3:
  FuncText in both packages. -/
namespace Go.Proofs.YthjgkgknlecjlaaGreatDoor
open Go.RowKit Go.Shelf
set_option linter.unusedVariables false
attribute [local go_sem] Oper.semAt_some

theorem infoU8 : (Tryz.prog.info? 5).map (fun i => (i.zero, i.size, i.bytes)) = some (some (.int .u8 0), 1, 1) := by kernel_rfl

/-- .. of the rows handed out. -/
def txtF {R : Nat} (n x : Nat) (pre : List (Row R)) : List UInt8 := dgB n :: 58 :: pre.map fun r => dgB (bitN x r.1)
def bvals (l : List UInt8) : List Value := l.map fun b => .int .u8 (b.toNat : Int)
theorem bvals_snoc (l : List UInt8) (b : UInt8) : bvals (l ++ [b]) = bvals l ++ [.int .u8 (b.toNat : Int)] := by simp [bvals]
theorem txtF_snoc {R : Nat} (n x : Nat) (pre : List (Row R)) (r : Row R) : txtF n x (pre ++ [r]) = txtF n x pre ++ [dgB (bitN x r.1)] := by simp [txtF]
theorem txtF_len {R : Nat} (n x : Nat) (pre : List (Row R)) : (txtF n x pre).length = pre.length + 2 := by simp [txtF]
theorem txtF_upto {R : Nat} (hR : 0 < R) (n x k : Nat) (hk : k ≤ R) : txtF n x (upto hR k) = txtL n x k := by
  induction k with
  | zero => rfl
  | succ k ih => rw [upto_succ, txtF_snoc, ih (by omega), txtL_succ, rowAt_val hR (k := k) (by omega)]

theorem owns_below' {W W' : World} {base : Nat} {e : TypeId} {size : Nat} {v : Value} {n : Nat} {xs : List Value} (h : W.ownsRow base e size v n xs) (hb : Below W.heap.size W W') : W'.ownsRow base e size v n xs := owns_below h hb

/-- An append to a list of one's own, within a region that draws. -/
theorem stepIn_append_own {F : Fence} {n : Nat} {P : Program} (w : World) {ops : Array Oper} {o : Oper} {a : Act} {K : Act → World → Prop} {Q : Exit → Act → World → Prop} {E : Prop}
    (hg : o.guard = none) (s x : Operand) (t : TypeId) (hop : o.op = Op.call { callee := Callee.builtin Builtin.append, args := #[s, x], argTypes := #[t, t] })
    (base : Nat) (e : TypeId) (i : TypeInfo) (z : Value) (size bytes : Nat) (h1 : P.underlying t = some (.slice e)) (h2 : P.info? e = some i) (h3 : i.zero = some z) (h4 : i.size = size) (h5 : i.bytes = bytes) (h6 : z.cells.size = size) (h7 : 0 < size)
    (v : Value) (k : Nat) (xs : List Value) (hs : a.eval s = v) (hown : w.ownsRow base e size v k xs) (ad : Addr) (m c : Nat) (news : List Value) (hx : a.eval x = .slice (some ad) m c) (hn : news.length = m * size)
    (hc : ∀ j u, news[j]? = some u → w.cell? (ad.add j) = some u) (h1c : ∀ u ∈ news, u.oneCell' = true) (b1 : k + m ≤ maxLen) (b2 : (k + m) * bytes ≤ 140737488355328) (b3 : base ≤ w.heap.size)
    (hK : ∀ v' w', w'.ownsRow base e size v' (k + m) (xs ++ news) → w.grownBy w' v.ownBlock → K (a.put o.dst v') w') :
    if Region.wanted o (yielded ops a.tmps) = true then Oper.wpIn F n P o a w K Q else E := by
  rw [if_pos (by simp [Region.wanted, hg])]
  obtain ⟨v', w', hrun, r1, r2, _⟩ := run_append_own (P := P) w base t o.type e i z size bytes h1 h2 h3 h4 h5 h6 h7 v k xs hown ad m c news hn hc h1c b1 b2 b3
  unfold Oper.wpIn
  refine ⟨by simp [Oper.about, hop, resolve, Target.leads, Sem.run_pure], ?_⟩
  rw [Oper.semAt_plain F _ _ (by rw [hop]; intro c hc'; cases hc')]
  simp [execOp, hop, resolve, invoke, builtin, hs, hx, hrun, Result.andThen]
  exact hK _ _ r1 r2

theorem digitByte_any (d : Nat) (hd : d < 10) (w : World) :
    Calls Tryz.prog 57 #[.int .i64 (d : Int)] w fun e w' => e = .returned (.int .u8 ((dgB d).toNat : Int)) ∧ w = w' := by
  have hv := dgB_nat d (by omega)
  go_enter Tryz.func57, Tryz.ntmps57
  go_wp2
  go_ret
  exact ⟨by rw [hv]; push_cast; rfl, rfl⟩

end Go.Proofs.YthjgkgknlecjlaaGreatDoor

/- CN17:
  Names of lists: the program. -/
namespace Go.Proofs.YthjgkgknlecjlaaGreatDoor
open Go.RowKit Go.Shelf
set_option linter.unusedVariables false
set_option linter.unusedSimpArgs false

/-- A name with its degree. -/
def nmB (b : ByteArray) (d : Nat) : ByteArray := if d = 9 then b else (b ++ ⟨#[94]⟩) ++ ⟨#[UInt8.ofNat (48 + d)]⟩

set_option maxRecDepth 100000 in
set_option maxHeartbeats 2000000 in
theorem cloneName9_any (b g : ByteArray) (k : Int) (tv : Value) (hv : tv.oneCell' = true) (w : World) :
    Calls Tryz.prog 33 #[.agg #[.string b, .int .i64 k, tv, .string g, .int .i64 9]] w fun e w' => e = .returned (.string b) ∧ Below w.heap.size w w' := by
  go_enter Tryz.func33, Tryz.ntmps33
  go_wp2
  go_ret
  exact ⟨rfl, bnew _ _⟩
set_option maxRecDepth 100000 in
set_option maxHeartbeats 2000000 in
theorem cloneName2_any (b g : ByteArray) (hb : b.size ≤ 100) (k : Int) (tv : Value) (hv : tv.oneCell' = true) (w : World) :
    Calls Tryz.prog 33 #[.agg #[.string b, .int .i64 k, tv, .string g, .int .i64 2]] w fun e w' => e = .returned (.string (nmB b 2)) ∧ Below w.heap.size w w' := by
  obtain ⟨W1, hW1⟩ : ∃ W1, w.alloc (.cells #[.string b, .int .i64 k, tv, .string g, .int .i64 2] 43) = W1 := ⟨_, rfl⟩
  have p0 : W1.cell? ⟨w.heap.size, 0, none⟩ = some (.string b) := by rw [← hW1]; simp [go_sem]
  have p4 : W1.cell? ⟨w.heap.size, 4, none⟩ = some (.int .i64 2) := by rw [← hW1]; simp [go_sem]
  have hB : Below w.heap.size w W1 := by rw [← hW1]; exact bnew _ _
  have DB := Lib.hid (fun W => digitByte_any 2 (by decide) W)
  have s1 : ¬ 9223372036854775807 < b.size + 1 := by omega
  have s2 : ¬ 9223372036854775807 < b.size + 1 + 1 := by omega
  have hcv : ∀ (n : Int) W, (convert 5 9 (.int .u8 n)).run Tryz.prog W = .ok (.string (Utf8.encode n)) W := fun n W => run_convert_int_string W _ _ _ _ (by kernel_rfl) Tryz.underlying9
  have he : Utf8.encode 50 = ⟨#[50]⟩ := by rfl
  have hdg : (((dgB 2).toNat : Nat) : Int) = 50 := rfl
  rw [hdg] at DB
  clear hb
  go_enter Tryz.func33, Tryz.ntmps33
  go_wp2
  clear hW1
  go_quiet (first | (go_at_call 57; exact quiet_eq (DB.out _)))
  go_wp2
  go_ret
  exact ⟨rfl, below_drewN hB _⟩
set_option maxRecDepth 100000 in
set_option maxHeartbeats 2000000 in
theorem cloneName3_any (b g : ByteArray) (hb : b.size ≤ 100) (k : Int) (tv : Value) (hv : tv.oneCell' = true) (w : World) :
    Calls Tryz.prog 33 #[.agg #[.string b, .int .i64 k, tv, .string g, .int .i64 3]] w fun e w' => e = .returned (.string (nmB b 3)) ∧ Below w.heap.size w w' := by
  obtain ⟨W1, hW1⟩ : ∃ W1, w.alloc (.cells #[.string b, .int .i64 k, tv, .string g, .int .i64 3] 43) = W1 := ⟨_, rfl⟩
  have p0 : W1.cell? ⟨w.heap.size, 0, none⟩ = some (.string b) := by rw [← hW1]; simp [go_sem]
  have p4 : W1.cell? ⟨w.heap.size, 4, none⟩ = some (.int .i64 3) := by rw [← hW1]; simp [go_sem]
  have hB : Below w.heap.size w W1 := by rw [← hW1]; exact bnew _ _
  have DB := Lib.hid (fun W => digitByte_any 3 (by decide) W)
  have s1 : ¬ 9223372036854775807 < b.size + 1 := by omega
  have s2 : ¬ 9223372036854775807 < b.size + 1 + 1 := by omega
  have hcv : ∀ (n : Int) W, (convert 5 9 (.int .u8 n)).run Tryz.prog W = .ok (.string (Utf8.encode n)) W := fun n W => run_convert_int_string W _ _ _ _ (by kernel_rfl) Tryz.underlying9
  have he : Utf8.encode 51 = ⟨#[51]⟩ := by rfl
  have hdg : (((dgB 3).toNat : Nat) : Int) = 51 := rfl
  rw [hdg] at DB
  clear hb
  go_enter Tryz.func33, Tryz.ntmps33
  go_wp2
  clear hW1
  go_quiet (first | (go_at_call 57; exact quiet_eq (DB.out _)))
  go_wp2
  go_ret
  exact ⟨rfl, below_drewN hB _⟩
end Go.Proofs.YthjgkgknlecjlaaGreatDoor

/- Q4:
  ClassesOf and IsComplete in both packages. -/
namespace Go.Proofs.YthjgkgknlecjlaaGreatDoor
open Go.RowKit

/-- The classes below k in which a list is. -/
def clsL (xs : List (Int × Int)) (k : Nat) : List Int := ((List.range k).filter fun j => bitN (comTo xs xs.length) j == 1).map fun (j : Nat) => (j : Int)
theorem clsL_yes (xs : List (Int × Int)) (k : Nat) (h : (bitN (comTo xs xs.length) k == 1) = true) : clsL xs (k + 1) = clsL xs k ++ [(k : Int)] := by simp only [clsL, List.range_succ, List.filter_append, List.map_append]; simp [h]
theorem clsL_no (xs : List (Int × Int)) (k : Nat) (h : (bitN (comTo xs xs.length) k == 1) = false) : clsL xs (k + 1) = clsL xs k := by simp only [clsL, List.range_succ, List.filter_append, List.map_append]; simp [h]
theorem clsL_len (xs : List (Int × Int)) (k : Nat) : (clsL xs k).length ≤ k := by
  unfold clsL
  rw [List.length_map]
  exact Nat.le_trans (List.length_filter_le _ _) (by simp)

theorem codeL_ok {xs : List (Int × Int)} (h : codeL xs = 0) : AreF xs ∧ xs.length ≤ 8 := by
  unfold codeL at h
  cases hA : allTo xs xs.length
  · rw [hA] at h; cases h
  · rw [hA, if_pos rfl] at h
    refine ⟨fun j hj => allTo_get hA j hj, ?_⟩
    apply Decidable.byContradiction
    intro h8
    rw [if_pos (by omega)] at h
    cases h
theorem codeL_ne {xs : List (Int × Int)} (h : codeL xs ≠ 0) : (codeL xs != 0) = true := by simpa using h

theorem l02Classes_whole {base : Nat} {s : Value} {xs : List (Int × Int)} (hl : xs.length ≤ 1048576) (hx : AreF xs) (h8 : xs.length ≤ 8) (w : World) (h : OwnsF w base s xs) :
    Calls Tryz.prog 39 #[s, .int .i64 (wholeN xs.length : Int)] w fun e w' => e = .returned (.int .i64 (comTo xs xs.length : Int)) ∧ Below w.heap.size w w' := by
  have := l02Classes_any hl hx (wholeN xs.length) (whole_int _ (by omega)).2.2 (by omega) w h
  rwa [part_whole xs h8] at this

end Go.Proofs.YthjgkgknlecjlaaGreatDoor

/- CN18:
  cloneNameOf and CloneName of the program. -/
namespace Go.Proofs.YthjgkgknlecjlaaGreatDoor
open Go.RowKit Go.Shelf
set_option linter.unusedVariables false
set_option linter.unusedSimpArgs false

def degOk (d : Nat) : Prop := d = 0 ∨ d = 1 ∨ d = 2 ∨ d = 3 ∨ d = 9
theorem dgT_ok (xs : List (Int × Int)) (c k : Nat) : degOk (dgT xs c k) := by
  induction k with
  | zero => exact .inr (.inr (.inr (.inr rfl)))
  | succ k ih =>
    have h2 : degOk (dgP (fget xs k) c) := degT_cases _ _
    unfold degOk at *
    rw [dgT]
    omega
/-- The name of a list with given traits. -/
def nmC (cm d0 d1 : Nat) : ByteArray := nmB (lnB (ixN cm d0 d1)) (degK d0 d1 (lnK (ixN cm d0 d1)))
def nmL (xs : List (Int × Int)) : ByteArray := nmC (cmT xs xs.length) (dgT xs 0 xs.length) (dgT xs 1 xs.length)
theorem lnB_size : ∀ j < 38, (lnB j).size ≤ 100 := by decide
theorem cloneName_any (b g : ByteArray) (hb : b.size ≤ 100) (k : Int) (tv : Value) (hv : tv.oneCell' = true) (d : Nat) (hd : d = 2 ∨ d = 3 ∨ d = 9) (w : World) :
    Calls Tryz.prog 33 #[.agg #[.string b, .int .i64 k, tv, .string g, .int .i64 (d : Int)]] w fun e w' => e = .returned (.string (nmB b d)) ∧ Below w.heap.size w w' := by
  rcases hd with rfl | rfl | rfl
  · exact cloneName2_any b g hb k tv hv w
  · exact cloneName3_any b g hb k tv hv w
  · exact cloneName9_any b g k tv hv w
theorem TestsM.one {W : World} {tv : Value} {ts : List Nat} (h : TestsM W tv ts) : tv.oneCell' = true := by
  obtain ⟨a, cap, rfl, _⟩ := h
  rfl

theorem step8 {W w' w : World} {a0 a1 a2 a3 a4 a5 a6 a7 : Addr} {v0 v1 v2 v3 v4 v5 v6 v7 : Value} (hb : Below W.heap.size W w') (h : (((W.cell? a0 = some v0 ∧ W.cell? a1 = some v1) ∧ (W.cell? a2 = some v2 ∧ W.cell? a3 = some v3)) ∧ ((W.cell? a4 = some v4 ∧ W.cell? a5 = some v5) ∧ (W.cell? a6 = some v6 ∧ W.cell? a7 = some v7))) ∧ Below w.heap.size w W) :
    (((w'.cell? a0 = some v0 ∧ w'.cell? a1 = some v1) ∧ (w'.cell? a2 = some v2 ∧ w'.cell? a3 = some v3)) ∧ ((w'.cell? a4 = some v4 ∧ w'.cell? a5 = some v5) ∧ (w'.cell? a6 = some v6 ∧ w'.cell? a7 = some v7))) ∧ Below w.heap.size w w' :=
  ⟨⟨⟨⟨kc hb h.1.1.1.1, kc hb h.1.1.1.2⟩, ⟨kc hb h.1.1.2.1, kc hb h.1.1.2.2⟩⟩, ⟨⟨kc hb h.1.2.1.1, kc hb h.1.2.1.2⟩, ⟨kc hb h.1.2.2.1, kc hb h.1.2.2.2⟩⟩⟩, bthen h.2 hb⟩

set_option maxRecDepth 100000 in
set_option maxHeartbeats 8000000 in
theorem cloneNameOf_any {base : Nat} {s : Value} {xs : List (Int × Int)} (hl : xs.length ≤ 1048576) (hx : AreF xs) (w : World) (h : OwnsF w base s xs) :
    Calls Tryz.prog 23 #[s] w fun e w' => e = .returned (.string (nmL xs)) ∧ Below w.heap.size w w' := by
  have TR := Lib.hid (traitsOf_any hl hx w h)
  obtain ⟨a, cap, rfl, _⟩ := h.cells
  have hcm := cmT_lt xs xs.length
  have h0 := dgT_ok xs 0 xs.length
  have h1 := dgT_ok xs 1 xs.length
  unfold nmL
  generalize cmT xs xs.length = cm at TR hcm ⊢
  generalize dgT xs 0 xs.length = d0 at TR h0 ⊢
  generalize dgT xs 1 xs.length = d1 at TR h1 ⊢
  clear h hx
  generalize xs.length = L at TR hl ⊢
  have hd0 : d0 ≤ 9 := by unfold degOk at h0; omega
  have hd1 : d1 ≤ 9 := by unfold degOk at h1; omega
  have IL := Lib.hid (fun B W hL => indexLine_any cm d0 d1 hcm hd0 hd1 B W hL)
  have eg := enters_of Tryz.func54 (by kernel_rfl) rfl
  obtain ⟨hix, hfit, _⟩ := ix_spec cm d0 d1
  unfold nmC
  generalize ixN cm d0 d1 = ix at IL hix hfit ⊢
  have hk2 := (ln_small ix hix).1
  have hdk : degK d0 d1 (lnK ix) = 2 ∨ degK d0 d1 (lnK ix) = 3 ∨ degK d0 d1 (lnK ix) = 9 := by
    have h2 : 2 ≤ degK d0 d1 (lnK ix) := by
      unfold fitJ fitB at hfit
      rw [Bool.and_eq_true, decide_eq_true_eq] at hfit
      exact hfit.1
    unfold degOk at h0 h1
    unfold degK at h2 ⊢
    split
    · rename_i hk; rw [if_pos hk] at h2; omega
    · rename_i hk; rw [if_neg hk] at h2
      split
      · rename_i hk'; rw [if_pos hk'] at h2; omega
      · omega
  have hbs := lnB_size ix hix
  have NM := Lib.hid (fun (g : ByteArray) (k : Int) tv (hv : tv.oneCell' = true) W => cloneName_any (lnB ix) g hbs k tv hv _ hdk W)
  clear hfit h0 h1 hd0 hd1 hbs
  have hmf : ∀ (fn : Fn) (first cap : Array Value) (w : World), (Instr.makeFunc fn first cap).run Tryz.prog w = .ok (.func fn first cap) w := fun _ _ _ _ => rfl
  have NL := Lib.hid (fun W => nameLines_any W)
  have hin : decide ((ix : Int) < 38) = true := by simp; omega
  have hin2 : (ix : Int) < 38 := by omega
  unfold trV at TR IL
  rw [show (((9 : Nat)) : Int) = 9 from rfl] at TR IL
  have hkk : lnK ix = 0 ∨ lnK ix = 1 ∨ lnK ix = 2 := by omega
  rcases hkk with hk | hk | hk
  · -- degree kind 0
    rw [hk] at NM ⊢
    have hdv : degK d0 d1 0 = d0 := rfl
    rw [hdv] at NM ⊢
    generalize (cm : Int) = c at TR IL
    go_enter Tryz.func23, Tryz.ntmps23
    go_wp2_with (first
      | (go_at_call 51; refine TR.out.mono ?_; rintro e w1 ⟨rfl, hb1⟩)
      | (go_at_call 52; refine (NL.out _).mono ?_; rintro e w2 ⟨B, rfl, hL, hBl, hb2⟩; have t0 : w2.cell? ⟨w1.heap.size, 0, none⟩ = some (.int .i64 c) := kc hb2 (by simp [go_sem]); have t1 : w2.cell? ⟨w1.heap.size, 1, none⟩ = some (.int .i64 (d0 : Int)) := kc hb2 (by simp [go_sem]); have t2 : w2.cell? ⟨w1.heap.size, 2, none⟩ = some (.int .i64 (d1 : Int)) := kc hb2 (by simp [go_sem]); have t3 : w2.cell? ⟨w1.heap.size, 3, none⟩ = some (.int .i64 9) := kc hb2 (by simp [go_sem]))
      | (go_at_call 53; refine (IL.out B _ hL).mono ?_; rintro e w3 ⟨rfl, hb3⟩; have r0 := kc hb3 t0; have r1 := kc hb3 t1; have r2 := kc hb3 t2; have r3 := kc hb3 t3; clear t0 t1 t2 t3; have hL3 := hL.below hb3; obtain ⟨tv, c0, c1, c2, c3, hT⟩ := hL3.2 ix hix; obtain ⟨ta, tc, rfl, hTT⟩ := hT; clear hTT; rw [hk] at c1; generalize (lnT ix).length = Lt at c2; have HL3 := Lib.hid hL3; clear hL3))
    have hBB : Below w.heap.size w w3 := bthen (bthen (balloc hb1 _) hb2) hb3
    have NG := Lib.hid (fun W => NM.out (lnG ix) 0 (.slice ta Lt tc) rfl W)
    clear hL hb1 hb2 hb3 TR IL NL NM
    generalize hlb : lnB ix = b at c0 NG
    have HLB := Lib.hid hlb
    clear hlb
    generalize lnG ix = g at c3 NG
    obtain ⟨W4, hW4⟩ : ∃ W4, w3.alloc (.cells #[.string b, .int .i64 0, .slice ta Lt tc, .string g] 41) = W4 := ⟨_, rfl⟩
    have e0 : W4.cell? ⟨w3.heap.size, 0, none⟩ = some (.string b) := by rw [← hW4]; simp [go_sem]
    have e1 : W4.cell? ⟨w3.heap.size, 1, none⟩ = some (.int .i64 0) := by rw [← hW4]; simp [go_sem]
    have e2 : W4.cell? ⟨w3.heap.size, 2, none⟩ = some (.slice ta Lt tc) := by rw [← hW4]; simp [go_sem]
    have e3 : W4.cell? ⟨w3.heap.size, 3, none⟩ = some (.string g) := by rw [← hW4]; simp [go_sem]
    have b4 : Below w3.heap.size w3 W4 := by rw [← hW4]; exact bnew _ _
    have s0 := kc b4 r0
    have s1 := kc b4 r1
    have s2 := kc b4 r2
    have s3 := kc b4 r3
    have hB4 := bthen hBB b4
    rw [hW4]
    clear hW4 c0 c1 c2 c3 r0 r1 r2 r3 b4
    go_region_held3 (fun W => ((((W.cell? ⟨w3.heap.size, 0, none⟩ = some (.string b) ∧ W.cell? ⟨w3.heap.size, 1, none⟩ = some (.int .i64 0)) ∧ (W.cell? ⟨w3.heap.size, 2, none⟩ = some (.slice ta Lt tc) ∧ W.cell? ⟨w3.heap.size, 3, none⟩ = some (.string g))) ∧ ((W.cell? ⟨w1.heap.size, 0, none⟩ = some (.int .i64 c) ∧ W.cell? ⟨w1.heap.size, 1, none⟩ = some (.int .i64 (d0 : Int))) ∧ (W.cell? ⟨w1.heap.size, 2, none⟩ = some (.int .i64 (d1 : Int)) ∧ W.cell? ⟨w1.heap.size, 3, none⟩ = some (.int .i64 9)))) ∧ Below w.heap.size w W))
      (first | exact ⟨⟨⟨⟨e0, e1⟩, ⟨e2, e3⟩⟩, ⟨⟨s0, s1⟩, ⟨s2, s3⟩⟩⟩, hB4.drew⟩ | exact step8 hb5 (by assumption))
      (first
        | (go_at_call 33; refine (NG.out _).mono ?_; rintro e w5 ⟨rfl, hb5⟩))
    go_wp2
    go_ret
    exact ⟨by rw [HLB.out]; rfl, (‹_ ∧ Below _ _ _›).2⟩
  · -- degree kind 1
    rw [hk] at NM ⊢
    have hdv : degK d0 d1 1 = d1 := rfl
    rw [hdv] at NM ⊢
    generalize (cm : Int) = c at TR IL
    go_enter Tryz.func23, Tryz.ntmps23
    go_wp2_with (first
      | (go_at_call 51; refine TR.out.mono ?_; rintro e w1 ⟨rfl, hb1⟩)
      | (go_at_call 52; refine (NL.out _).mono ?_; rintro e w2 ⟨B, rfl, hL, hBl, hb2⟩; have t0 : w2.cell? ⟨w1.heap.size, 0, none⟩ = some (.int .i64 c) := kc hb2 (by simp [go_sem]); have t1 : w2.cell? ⟨w1.heap.size, 1, none⟩ = some (.int .i64 (d0 : Int)) := kc hb2 (by simp [go_sem]); have t2 : w2.cell? ⟨w1.heap.size, 2, none⟩ = some (.int .i64 (d1 : Int)) := kc hb2 (by simp [go_sem]); have t3 : w2.cell? ⟨w1.heap.size, 3, none⟩ = some (.int .i64 9) := kc hb2 (by simp [go_sem]))
      | (go_at_call 53; refine (IL.out B _ hL).mono ?_; rintro e w3 ⟨rfl, hb3⟩; have r0 := kc hb3 t0; have r1 := kc hb3 t1; have r2 := kc hb3 t2; have r3 := kc hb3 t3; clear t0 t1 t2 t3; have hL3 := hL.below hb3; obtain ⟨tv, c0, c1, c2, c3, hT⟩ := hL3.2 ix hix; obtain ⟨ta, tc, rfl, hTT⟩ := hT; clear hTT; rw [hk] at c1; generalize (lnT ix).length = Lt at c2; have HL3 := Lib.hid hL3; clear hL3))
    have hBB : Below w.heap.size w w3 := bthen (bthen (balloc hb1 _) hb2) hb3
    have NG := Lib.hid (fun W => NM.out (lnG ix) 1 (.slice ta Lt tc) rfl W)
    clear hL hb1 hb2 hb3 TR IL NL NM
    generalize hlb : lnB ix = b at c0 NG
    have HLB := Lib.hid hlb
    clear hlb
    generalize lnG ix = g at c3 NG
    obtain ⟨W4, hW4⟩ : ∃ W4, w3.alloc (.cells #[.string b, .int .i64 1, .slice ta Lt tc, .string g] 41) = W4 := ⟨_, rfl⟩
    have e0 : W4.cell? ⟨w3.heap.size, 0, none⟩ = some (.string b) := by rw [← hW4]; simp [go_sem]
    have e1 : W4.cell? ⟨w3.heap.size, 1, none⟩ = some (.int .i64 1) := by rw [← hW4]; simp [go_sem]
    have e2 : W4.cell? ⟨w3.heap.size, 2, none⟩ = some (.slice ta Lt tc) := by rw [← hW4]; simp [go_sem]
    have e3 : W4.cell? ⟨w3.heap.size, 3, none⟩ = some (.string g) := by rw [← hW4]; simp [go_sem]
    have b4 : Below w3.heap.size w3 W4 := by rw [← hW4]; exact bnew _ _
    have s0 := kc b4 r0
    have s1 := kc b4 r1
    have s2 := kc b4 r2
    have s3 := kc b4 r3
    have hB4 := bthen hBB b4
    rw [hW4]
    clear hW4 c0 c1 c2 c3 r0 r1 r2 r3 b4
    go_region_held3 (fun W => ((((W.cell? ⟨w3.heap.size, 0, none⟩ = some (.string b) ∧ W.cell? ⟨w3.heap.size, 1, none⟩ = some (.int .i64 1)) ∧ (W.cell? ⟨w3.heap.size, 2, none⟩ = some (.slice ta Lt tc) ∧ W.cell? ⟨w3.heap.size, 3, none⟩ = some (.string g))) ∧ ((W.cell? ⟨w1.heap.size, 0, none⟩ = some (.int .i64 c) ∧ W.cell? ⟨w1.heap.size, 1, none⟩ = some (.int .i64 (d0 : Int))) ∧ (W.cell? ⟨w1.heap.size, 2, none⟩ = some (.int .i64 (d1 : Int)) ∧ W.cell? ⟨w1.heap.size, 3, none⟩ = some (.int .i64 9)))) ∧ Below w.heap.size w W))
      (first | exact ⟨⟨⟨⟨e0, e1⟩, ⟨e2, e3⟩⟩, ⟨⟨s0, s1⟩, ⟨s2, s3⟩⟩⟩, hB4.drew⟩ | exact step8 hb5 (by assumption))
      (first
        | (go_at_call 33; refine (NG.out _).mono ?_; rintro e w5 ⟨rfl, hb5⟩))
    go_wp2
    go_ret
    exact ⟨by rw [HLB.out]; rfl, (‹_ ∧ Below _ _ _›).2⟩
  · -- degree kind 2
    rw [hk] at NM ⊢
    have hdv : degK d0 d1 2 = 9 := rfl
    rw [hdv] at NM ⊢
    generalize (cm : Int) = c at TR IL
    go_enter Tryz.func23, Tryz.ntmps23
    go_wp2_with (first
      | (go_at_call 51; refine TR.out.mono ?_; rintro e w1 ⟨rfl, hb1⟩)
      | (go_at_call 52; refine (NL.out _).mono ?_; rintro e w2 ⟨B, rfl, hL, hBl, hb2⟩; have t0 : w2.cell? ⟨w1.heap.size, 0, none⟩ = some (.int .i64 c) := kc hb2 (by simp [go_sem]); have t1 : w2.cell? ⟨w1.heap.size, 1, none⟩ = some (.int .i64 (d0 : Int)) := kc hb2 (by simp [go_sem]); have t2 : w2.cell? ⟨w1.heap.size, 2, none⟩ = some (.int .i64 (d1 : Int)) := kc hb2 (by simp [go_sem]); have t3 : w2.cell? ⟨w1.heap.size, 3, none⟩ = some (.int .i64 9) := kc hb2 (by simp [go_sem]))
      | (go_at_call 53; refine (IL.out B _ hL).mono ?_; rintro e w3 ⟨rfl, hb3⟩; have r0 := kc hb3 t0; have r1 := kc hb3 t1; have r2 := kc hb3 t2; have r3 := kc hb3 t3; clear t0 t1 t2 t3; have hL3 := hL.below hb3; obtain ⟨tv, c0, c1, c2, c3, hT⟩ := hL3.2 ix hix; obtain ⟨ta, tc, rfl, hTT⟩ := hT; clear hTT; rw [hk] at c1; generalize (lnT ix).length = Lt at c2; have HL3 := Lib.hid hL3; clear hL3))
    have hBB : Below w.heap.size w w3 := bthen (bthen (balloc hb1 _) hb2) hb3
    have NG := Lib.hid (fun W => NM.out (lnG ix) 2 (.slice ta Lt tc) rfl W)
    clear hL hb1 hb2 hb3 TR IL NL NM
    generalize hlb : lnB ix = b at c0 NG
    have HLB := Lib.hid hlb
    clear hlb
    generalize lnG ix = g at c3 NG
    obtain ⟨W4, hW4⟩ : ∃ W4, w3.alloc (.cells #[.string b, .int .i64 2, .slice ta Lt tc, .string g] 41) = W4 := ⟨_, rfl⟩
    have e0 : W4.cell? ⟨w3.heap.size, 0, none⟩ = some (.string b) := by rw [← hW4]; simp [go_sem]
    have e1 : W4.cell? ⟨w3.heap.size, 1, none⟩ = some (.int .i64 2) := by rw [← hW4]; simp [go_sem]
    have e2 : W4.cell? ⟨w3.heap.size, 2, none⟩ = some (.slice ta Lt tc) := by rw [← hW4]; simp [go_sem]
    have e3 : W4.cell? ⟨w3.heap.size, 3, none⟩ = some (.string g) := by rw [← hW4]; simp [go_sem]
    have b4 : Below w3.heap.size w3 W4 := by rw [← hW4]; exact bnew _ _
    have s0 := kc b4 r0
    have s1 := kc b4 r1
    have s2 := kc b4 r2
    have s3 := kc b4 r3
    have hB4 := bthen hBB b4
    rw [hW4]
    clear hW4 c0 c1 c2 c3 r0 r1 r2 r3 b4
    go_region_held3 (fun W => ((((W.cell? ⟨w3.heap.size, 0, none⟩ = some (.string b) ∧ W.cell? ⟨w3.heap.size, 1, none⟩ = some (.int .i64 2)) ∧ (W.cell? ⟨w3.heap.size, 2, none⟩ = some (.slice ta Lt tc) ∧ W.cell? ⟨w3.heap.size, 3, none⟩ = some (.string g))) ∧ ((W.cell? ⟨w1.heap.size, 0, none⟩ = some (.int .i64 c) ∧ W.cell? ⟨w1.heap.size, 1, none⟩ = some (.int .i64 (d0 : Int))) ∧ (W.cell? ⟨w1.heap.size, 2, none⟩ = some (.int .i64 (d1 : Int)) ∧ W.cell? ⟨w1.heap.size, 3, none⟩ = some (.int .i64 9)))) ∧ Below w.heap.size w W))
      (first | exact ⟨⟨⟨⟨e0, e1⟩, ⟨e2, e3⟩⟩, ⟨⟨s0, s1⟩, ⟨s2, s3⟩⟩⟩, hB4.drew⟩ | exact step8 hb5 (by assumption))
      (first
        | (go_at_call 33; refine (NG.out _).mono ?_; rintro e w5 ⟨rfl, hb5⟩))
    go_wp2
    go_ret
    exact ⟨by rw [HLB.out]; rfl, (‹_ ∧ Below _ _ _›).2⟩
end Go.Proofs.YthjgkgknlecjlaaGreatDoor

/- CN23:
  namedClones of the program: all names in memory. -/
namespace Go.Proofs.YthjgkgknlecjlaaGreatDoor
open Go.RowKit Go.Shelf
set_option linter.unusedVariables false
set_option linter.unusedSimpArgs false

/-- The table in memory, with the tests' slices by a name. -/
def LinesT (W : World) (B : Nat) (TV : Nat → Value) : Prop := B < W.heap.size ∧ ∀ j, j < 38 → W.cell? ⟨B, j * 4, none⟩ = some (.string (lnB j)) ∧ W.cell? ⟨B, j * 4 + 1, none⟩ = some (.int .i64 (lnK j : Int)) ∧ W.cell? ⟨B, j * 4 + 2, none⟩ = some (TV j) ∧ W.cell? ⟨B, j * 4 + 3, none⟩ = some (.string (lnG j)) ∧ TestsM W (TV j) (lnT j)
theorem LinesM.named {W : World} {B : Nat} (h : LinesM W B) : ∃ TV, LinesT W B TV := by
  refine ⟨fun j => (W.cell? ⟨B, j * 4 + 2, none⟩).getD undef, h.1, fun j hj => ?_⟩
  obtain ⟨tv, h0, h1, h2, h3, h4⟩ := h.2 j hj
  have e : (W.cell? ⟨B, j * 4 + 2, none⟩).getD undef = tv := by rw [h2]; rfl
  refine ⟨h0, h1, ?_, h3, ?_⟩
  · dsimp only; rw [e]; exact h2
  · dsimp only; rw [e]; exact h4
/-- One named clone as cells: a line, and a degree. -/
def clV (TV : Nat → Value) (p : Nat × Nat) : List Value := [.string (lnB p.1), .int .i64 (lnK p.1 : Int), TV p.1, .string (lnG p.1), .int .i64 (p.2 : Int)]
def clC (TV : Nat → Value) (l : List (Nat × Nat)) : List Value := l.flatMap (clV TV)
theorem clC_snoc (TV : Nat → Value) (l : List (Nat × Nat)) (p : Nat × Nat) : clC TV (l ++ [p]) = clC TV l ++ clV TV p := by simp [clC, List.flatMap_append]
def clOf (j : Nat) : List (Nat × Nat) := if lnK j = 2 then [(j, 9)] else [(j, 9), (j, 2), (j, 3)]
def clTo (k : Nat) : List (Nat × Nat) := (List.range k).flatMap clOf
theorem clTo_succ (k : Nat) : clTo (k + 1) = clTo k ++ clOf k := by simp [clTo, List.range_succ, List.flatMap_append]
theorem clTo_len : ∀ k < 39, (clTo k).length ≤ 54 := by decide
theorem clTo_all : (clTo 38).length = 54 := by decide
theorem infoC : (Tryz.prog.info? 43).map (fun i => (i.zero, i.size, i.bytes)) = some (some (.agg #[.string ⟨#[]⟩, .int .i64 0, .slice none 0 0, .string ⟨#[]⟩, .int .i64 0]), 5, 72) := by kernel_rfl
theorem five_new (W : World) (a b c d e : Value) (t : TypeId) : ∀ j u, [a, b, c, d, e][j]? = some u → (W.alloc (.cells #[a, b, c, d, e] t)).cell? ((⟨W.heap.size, 0, none⟩ : Addr).add j) = some u := by
  intro j u h
  have hj : j < 5 := by
    obtain ⟨hlt, _⟩ := List.getElem?_eq_some_iff.1 h
    simpa using hlt
  rcases (by omega : j = 0 ∨ j = 1 ∨ j = 2 ∨ j = 3 ∨ j = 4) with rfl | rfl | rfl | rfl | rfl <;>
    (simp at h; subst h; simp [go_sem, Addr.add])

theorem five_new' (W : World) {N : Nat} (hN : N = W.heap.size) (a b c d e : Value) (t : TypeId) : ∀ j u, [a, b, c, d, e][j]? = some u → (W.alloc (.cells #[a, b, c, d, e] t)).cell? ((⟨N, 0, none⟩ : Addr).add j) = some u := by
  subst hN
  exact five_new W a b c d e t

theorem row_not {W : World} {base : Nat} {e : TypeId} {size : Nat} {v : Value} {n : Nat} {xs : List Value} {X : Nat} {cs : Array Value} {t : TypeId} (h : W.ownsRow base e size v n xs) (hX : W.heap[X]? = some (.cells cs t)) (ht : t ≠ e) : some X ≠ v.ownBlock := by
  rcases h.2 with ⟨rfl, _⟩ | ⟨g, cap, cur, rfl, _, hg, _⟩
  · intro h; cases h
  · intro h
    have e2 : X = g := by
      have : some X = some g := h
      exact Option.some.inj this
    subst e2
    rw [hX] at hg
    have := Option.some.inj hg
    injection this with _ h2
    exact ht h2
theorem cell_of_obj {W : World} {X o : Nat} {cs : Array Value} {t : TypeId} {u : Value} (hX : W.heap[X]? = some (.cells cs t)) (hu : cs[o]? = some u) : W.cell? ⟨X, o, none⟩ = some u := by
  simp only [World.cell?, hX, Option.isSome_none, Bool.false_eq_true, if_false]
  exact hu
theorem obj_lt {W : World} {X : Nat} {o : Obj} (h : W.heap[X]? = some o) : X < W.heap.size := (Array.getElem?_eq_some_iff.1 h).1
theorem row_mono {W : World} {b1 b2 : Nat} {e : TypeId} {size : Nat} {v : Value} {n : Nat} {xs : List Value} (h : W.ownsRow b1 e size v n xs) (hb : b2 ≤ b1) : W.ownsRow b2 e size v n xs := by
  rcases h with ⟨h1, h | ⟨g, cap, cur, e1, hg, r⟩⟩
  · exact ⟨h1, .inl h⟩
  · exact ⟨h1, .inr ⟨g, cap, cur, e1, Nat.le_trans hb hg, r⟩⟩

set_option maxRecDepth 100000 in
set_option maxHeartbeats 8000000 in
theorem namedClones_any (w : World) :
    Calls Tryz.prog 56 #[] w fun e w' => ∃ (v : Value) (TV : Nat → Value), e = .returned v ∧ w'.ownsRow w.heap.size 43 5 v 54 (clC TV (clTo 38)) ∧ (∀ j, j < 38 → ∃ a n c, TV j = .slice a n c) ∧ Below w.heap.size w w' := by
  obtain ⟨i0, hi, hz0, hz1, hz2⟩ := info_parts infoC
  have NL := Lib.hid (fun W => nameLines_any W)
  have HS := Lib.hid clTo_succ
  have HLN := Lib.hid clTo_len
  go_enter Tryz.func56, Tryz.ntmps56
  go_wp2_with (go_at_call 52; refine (NL.out _).mono ?_; rintro e w1 ⟨B, rfl, hL, hBl, hb1⟩)
  obtain ⟨TV, hT⟩ := hL.named
  have HT := Lib.hid hT
  clear hL hT
  go_loopw [1, 7] (fun v i' wr => ∃ i : Nat, i ≤ 38 ∧ i' = .int .i64 i ∧ wr.ownsRow w1.heap.size 43 5 v (clTo i).length (clC TV (clTo i)) ∧ Below w1.heap.size w1 wr) (fun _ i' _ => 38 - (intOf i').toNat)
  case atStart => exact ⟨0, Nat.zero_le _, rfl, World.ownsRow_nil _ _ _ _, Below.refl _ _⟩
  case round =>
    obtain ⟨i, hi38, rfl, hrow, hN⟩ := hrel
    obtain ⟨wo, rfl⟩ : ∃ wo : World, wo = wr := ⟨_, rfl⟩
    by_cases hlt : i < 38
    · obtain ⟨c0, c1, c2, c3, hts⟩ := HT.out.2 i hlt
      obtain ⟨ta, tc, htv, _⟩ := hts
      have q0 := kc hN c0
      have q1 := kc hN c1
      have q2 := kc hN c2
      have q3 := kc hN c3
      have hsz := hN.size
      have hlen := HLN.out i (by omega)
      have HCV : Hid (∀ d : Nat, clV TV (i, d) = [.string (lnB i), .int .i64 (lnK i : Int), .slice ta (lnT i).length tc, .string (lnG i), .int .i64 (d : Int)]) := Lib.hid fun d => by unfold clV; rw [htv]
      have HOF : Hid (clTo (i + 1) = clTo i ++ if lnK i = 2 then [(i, 9)] else [(i, 9), (i, 2), (i, 3)]) := Lib.hid (HS.out i)
      rw [htv] at q2
      clear c0 c1 c2 c3 htv
      generalize lnB i = b at q0 HCV
      generalize lnG i = g at q3 HCV
      generalize (lnT i).length = Lt at q2 HCV
      generalize lnK i = k at q1 HCV HOF
      generalize clTo i = cl at hrow hlen HOF
      obtain ⟨K, hK⟩ : ∃ K, cl.length = K := ⟨_, rfl⟩
      rw [hK] at hrow hlen
      have HK := Lib.hid hK
      clear hK
      by_cases hk : k = 2
      · have hg : ((k : Int) == 2) = true := by simp [hk]
        rw [if_pos hk] at HOF
        clear hk
        go_wp2_with (first
          | (at_builtin; refine wpList_append_own _ rfl _ _ 84 rfl w1.heap.size 43 i0 _ 5 72 Tryz.underlying84 hi hz0 hz1 hz2 rfl (by decide) _ _ _ rfl ((hrow.alloc _).alloc _) ⟨wo.heap.size + 1, 0, none⟩ 1 1 [.string b, .int .i64 (k : Int), .slice ta Lt tc, .string g, .int .i64 9] rfl rfl ?hn (by simp [Value.oneCell']) (by unfold maxLen; omega) (by omega) (by simp; omega) ?_))
        case hn => exact five_new' _ (by simp [go_sem]) _ _ _ _ _ _
        intro v' w2 hown' hgrow hne
        have hN' := (balloc (balloc hN _) _).grown hgrow (by simp; omega) (fun j e => (hrow.lt j e).1)
        have k1 : w2.cell? ⟨wo.heap.size, 1, none⟩ = some (.int .i64 (k : Int)) := (World.cell?_of_block (a := ⟨wo.heap.size, 1, none⟩) (hgrow.block wo.heap.size (by simp; omega) (fun e => by have := (hrow.lt _ e.symm).2; omega))).trans (by simp [go_sem])
        clear hgrow hne hrow hN q0 q1 q2 q3
        go_wp2
        go_roundw
        case rel => exact ⟨i + 1, by omega, by go_num, by rw [HOF.out, clC_snoc, HCV.out, List.length_append, HK.out]; exact hown', hN'⟩
        case measure => simp [intOf]; omega
      · have hg : ((k : Int) == 2) = false := by simp only [beq_eq_false_iff_ne, ne_eq]; omega
        rw [if_neg hk] at HOF
        clear hk
        go_wp2_with (first
          | (at_builtin; refine wpList_append_own _ rfl _ _ 84 rfl w1.heap.size 43 i0 _ 5 72 Tryz.underlying84 hi hz0 hz1 hz2 rfl (by decide) _ _ _ rfl ((hrow.alloc _).alloc _) ⟨wo.heap.size + 1, 0, none⟩ 1 1 [.string b, .int .i64 (k : Int), .slice ta Lt tc, .string g, .int .i64 9] rfl rfl ?hn (by simp [Value.oneCell']) (by unfold maxLen; omega) (by omega) (by simp; omega) ?_))
        case hn => exact five_new' _ (by simp [go_sem]) _ _ _ _ _ _
        intro v' w2 hown' hgrow hne
        have hN' := (balloc (balloc hN _) _).grown hgrow (by simp; omega) (fun j e => (hrow.lt j e).1)
        have hXa : ((wo.alloc (.cells #[.string b, .int .i64 (k : Int), .slice ta Lt tc, .string g] 41)).alloc (.cells #[.string b, .int .i64 (k : Int), .slice ta Lt tc, .string g, .int .i64 9] 43)).heap[wo.heap.size]? = some (.cells #[.string b, .int .i64 (k : Int), .slice ta Lt tc, .string g] 41) := (Below.heap_alloc _ _ _ (by simp)).trans (World.alloc_heap_new wo _)
        have hX2 : w2.heap[wo.heap.size]? = some (.cells #[.string b, .int .i64 (k : Int), .slice ta Lt tc, .string g] 41) := (hgrow.block wo.heap.size (by simp; omega) (fun e => by have := (hrow.lt _ e.symm).2; omega)).trans hXa
        have hr2 : w2.ownsRow w1.heap.size 43 5 v' (K + 1) (clC TV (cl ++ [(i, 9)])) := by
          rw [clC_snoc, HCV.out]
          exact hown'
        have hXl : wo.heap.size < w2.heap.size := by
          have := hgrow.size
          simp at this
          omega
        have HXX := Lib.hid hX2
        have HRR := Lib.hid hr2
        clear hXa hX2 hr2 hown' hgrow hne hrow hN q0 q1 q2 q3
        obtain ⟨X, hXe⟩ : ∃ X, X = wo.heap.size := ⟨_, rfl⟩
        rw [← hXe] at HXX hXl ⊢
        clear hXe
        have z1 := cell_of_obj HXX.out (o := 1) rfl
        go_wp2
        go_loopw [1, 4] (fun v d' wr => ∃ d : Nat, 2 ≤ d ∧ d ≤ 4 ∧ d' = .int .i64 d ∧ wr.ownsRow w1.heap.size 43 5 v (K + (d - 1)) (clC TV (if d = 2 then cl ++ [(i, 9)] else if d = 3 then (cl ++ [(i, 9)]) ++ [(i, 2)] else ((cl ++ [(i, 9)]) ++ [(i, 2)]) ++ [(i, 3)])) ∧ wr.heap[X]? = some (.cells #[.string b, .int .i64 (k : Int), .slice ta Lt tc, .string g] 41) ∧ X < wr.heap.size ∧ Below w1.heap.size w1 wr) (fun _ d' _ => 5 - (intOf d').toNat)
        case atStart => exact ⟨2, by omega, by omega, rfl, HRR.out, HXX.out, hXl, hN'⟩
        case round =>
          clear z1
          obtain ⟨d, hd2, hd4, rfl, hr, hX, hXl4, hN4⟩ := hrel
          rcases (by omega : d = 2 ∨ d = 3 ∨ d = 4) with rfl | rfl | rfl
          all_goals simp only [Nat.reduceEqDiff, if_true, if_false, Nat.reduceSub] at hr
          · -- d = 2
            have k0 := cell_of_obj hX (o := 0) rfl
            have k1 := cell_of_obj hX (o := 1) rfl
            have k2 := cell_of_obj hX (o := 2) rfl
            have k3 := cell_of_obj hX (o := 3) rfl
            have hs4 := hN4.size
            have HX4 := Lib.hid hX
            obtain ⟨cq, hcq⟩ : ∃ cq, clC TV (cl ++ [(i, 9)]) = cq := ⟨_, rfl⟩
            have hr4 : wr.ownsRow w1.heap.size 43 5 u1 (K + 1) cq := by rw [← hcq]; exact hr
            have HCQ := Lib.hid hcq
            clear hcq hX hr
            go_wp2_with (first
              | (at_builtin; refine wpList_append_own _ rfl _ _ 84 rfl w1.heap.size 43 i0 _ 5 72 Tryz.underlying84 hi hz0 hz1 hz2 rfl (by decide) _ _ _ rfl (hr4.alloc _) ⟨wr.heap.size, 0, none⟩ 1 1 [.string b, .int .i64 (k : Int), .slice ta Lt tc, .string g, .int .i64 2] rfl rfl ?hn (by simp [Value.oneCell']) (by unfold maxLen; omega) (by omega) (by simp; omega) ?_))
            case hn => exact five_new' _ (by simp [go_sem]) _ _ _ _ _ _
            intro v'' w5 hown5 hgrow5 hne5
            have hN5 := (balloc hN4 _).grown hgrow5 (by simp; omega) (fun j e => (hr4.lt j e).1)
            have hX5 : w5.heap[X]? = some (.cells #[.string b, .int .i64 (k : Int), .slice ta Lt tc, .string g] 41) := (hgrow5.block X (by simp; omega) (row_not hr4 HX4.out (by decide))).trans ((bnew wr _).block X (by omega) |>.trans HX4.out)
            have hr5 : w5.ownsRow w1.heap.size 43 5 v'' (K + 2) (clC TV ((cl ++ [(i, 9)]) ++ [(i, 2)])) := by
              rw [clC_snoc, HCV.out, HCQ.out]
              exact hown5
            have HX5 := Lib.hid hX5
            have HR5 := Lib.hid hr5
            clear hgrow5 hne5 hown5 hr4 hX5 hr5 k0 k1 k2 k3
            go_wp2
            go_roundw
            case rel => exact ⟨3, by omega, by omega, rfl, HR5.out, HX5.out, obj_lt HX5.out, hN5⟩
            case measure => simp [intOf]
          · -- d = 3
            have k0 := cell_of_obj hX (o := 0) rfl
            have k1 := cell_of_obj hX (o := 1) rfl
            have k2 := cell_of_obj hX (o := 2) rfl
            have k3 := cell_of_obj hX (o := 3) rfl
            have hs4 := hN4.size
            have HX4 := Lib.hid hX
            obtain ⟨cq, hcq⟩ : ∃ cq, clC TV ((cl ++ [(i, 9)]) ++ [(i, 2)]) = cq := ⟨_, rfl⟩
            have hr4 : wr.ownsRow w1.heap.size 43 5 u1 (K + 2) cq := by rw [← hcq]; exact hr
            have HCQ := Lib.hid hcq
            clear hcq hX hr
            go_wp2_with (first
              | (at_builtin; refine wpList_append_own _ rfl _ _ 84 rfl w1.heap.size 43 i0 _ 5 72 Tryz.underlying84 hi hz0 hz1 hz2 rfl (by decide) _ _ _ rfl (hr4.alloc _) ⟨wr.heap.size, 0, none⟩ 1 1 [.string b, .int .i64 (k : Int), .slice ta Lt tc, .string g, .int .i64 3] rfl rfl ?hn (by simp [Value.oneCell']) (by unfold maxLen; omega) (by omega) (by simp; omega) ?_))
            case hn => exact five_new' _ (by simp [go_sem]) _ _ _ _ _ _
            intro v'' w5 hown5 hgrow5 hne5
            have hN5 := (balloc hN4 _).grown hgrow5 (by simp; omega) (fun j e => (hr4.lt j e).1)
            have hX5 : w5.heap[X]? = some (.cells #[.string b, .int .i64 (k : Int), .slice ta Lt tc, .string g] 41) := (hgrow5.block X (by simp; omega) (row_not hr4 HX4.out (by decide))).trans ((bnew wr _).block X (by omega) |>.trans HX4.out)
            have hr5 : w5.ownsRow w1.heap.size 43 5 v'' (K + 3) (clC TV (((cl ++ [(i, 9)]) ++ [(i, 2)]) ++ [(i, 3)])) := by
              rw [clC_snoc, HCV.out, HCQ.out]
              exact hown5
            have HX5 := Lib.hid hX5
            have HR5 := Lib.hid hr5
            clear hgrow5 hne5 hown5 hr4 hX5 hr5 k0 k1 k2 k3
            go_wp2
            go_roundw
            case rel => exact ⟨4, by omega, by omega, rfl, HR5.out, HX5.out, obj_lt HX5.out, hN5⟩
            case measure => simp [intOf]
          · have HR6 := Lib.hid hr
            clear hr hX
            go_wp2
            go_roundw
            case rel =>
              refine ⟨i + 1, by omega, by go_num, ?_, hN4⟩
              rw [HOF.out, List.length_append, HK.out]
              have := HR6.out
              rw [List.append_assoc, List.append_assoc] at this
              exact this
            case measure => simp [intOf]; omega
    · obtain rfl : i = 38 := by omega
      have HRW := Lib.hid hrow
      have hBB := bthen hb1 hN
      have hs1 := hb1.size
      clear hrow hN
      go_wp2
      go_ret
      refine ⟨_, TV, rfl, ?_, fun j hj => ?_, hBB⟩
      · exact row_mono HRW.out hs1
      · obtain ⟨_, _, _, _, a, c, h, _⟩ := HT.out.2 j hj
        exact ⟨a, _, c, h⟩
end Go.Proofs.YthjgkgknlecjlaaGreatDoor
