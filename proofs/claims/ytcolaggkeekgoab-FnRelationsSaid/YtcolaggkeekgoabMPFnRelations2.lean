/-
  The texts FR0, Y1, Y2, Y3, Y4, D2, T1, V1, H1, H2, H3, V2, V3, V4, W1, W2, W3 in one.
-/
import Derived.Test.YtcolaggkeekgoabMPFnRelations1
import Derived.Lib.BufferOwn
import Derived.Deep.AppendLies
import Derived.Lib.Bytealg
import Derived.Lib.IndexLaws
import Derived.Laws.CopyOwn
import Derived.WalkLawsBesides
import Derived.Maps.OwnSet
import Derived.Maps.Views
import Derived.StringKeys

/- FR0:
  Facts for the law on relations: what closures, kept relations and functions that keep have in common in both packages, and what holds of them. -/
namespace Go.Proofs.Ytcolaggkeekgoab
open Go.RowKit
set_option linter.unusedVariables false
set_option linter.unusedSimpArgs false

theorem cl_again {L : Nat} {md : Nat → Nat → Nat} {y c : Nat} (h : IsCl L md y c) : IsCl L md c c := ⟨subN.refl _, h.closed, fun z hz _ => hz⟩
theorem cl_of_closed {L : Nat} {md : Nat → Nat → Nat} {c : Nat} (h : ∀ i, i < L → subN (md i c) c) : IsCl L md c c := ⟨subN.refl _, h, fun z hz _ => hz⟩
theorem keeps_of_closed {x P Q m c : Nat} (hQ : Q = 2 ^ P) (h : subN (mdN x P Q m c) c) : keepsN x c m P = true := by
  unfold keepsN
  rw [List.all_eq_true]
  intro t ht
  have h1 := h t (by unfold mdN; rw [orL_bit, hQ]; simpa using ht)
  rw [bitN_testBit, h1]; rfl
theorem closed_of_keeps {x P Q m c : Nat} (hQ : Q = 2 ^ P) (h : keepsN x c m P = true) : subN (mdN x P Q m c) c := by
  intro t ht
  unfold mdN at ht
  rw [orL_bit, hQ, Nat.zero_testBit, Bool.false_or] at ht
  unfold keepsN at h
  have h1 := List.all_eq_true.1 h t (by simpa using ht)
  rw [beq_iff_eq, bitN_testBit] at h1
  cases hc : c.testBit t
  · rw [hc] at h1; cases h1
  · rfl
theorem subN_and_left (a b : Nat) : subN (a &&& b) a := fun i hi => by rw [Nat.testBit_and, Bool.and_eq_true] at hi; exact hi.1
theorem subN_and_right (a b : Nat) : subN (a &&& b) b := fun i hi => by rw [Nat.testBit_and, Bool.and_eq_true] at hi; exact hi.2
theorem subN_and {a b c : Nat} (h : subN c a) (k : subN c b) : subN c (a &&& b) := fun i hi => by rw [Nat.testBit_and, h i hi, k i hi]; rfl
theorem and_of_sub {a b : Nat} (h : subN b a) : a &&& b = b := subN.anti (subN_and_right a b) (subN_and h (subN.refl b))

theorem fget_mem {xs : List (Int × Int)} {i : Nat} (h : i < xs.length) : fget xs i ∈ xs := by
  rw [fget, List.getElem?_eq_getElem h]; exact List.getElem_mem h
theorem keepsR_yes {p : Int × Int} (h : isF p.1 p.2 = true) {P c Q : Nat} (okr : ROk (P : Int) c Q) (hk : keepsN p.2.toNat c p.1.toNat P = true) (w : World) :
    Calls Try.prog 66 #[.agg #[.int .i64 p.1, .int .i64 p.2], .agg #[.int .i64 P, .int .i64 c]] w fun e w' => e = .returned (.tuple #[.bool true, .int .i64 0]) ∧ Below w.heap.size w w' := by
  obtain ⟨k, x, R, e1, e2, k4, ok⟩ := fok_nat h
  rw [e1, e2, Int.toNat_natCast, Int.toNat_natCast] at hk
  rw [e1, e2]
  have := implKeeps_c ok k4 okr w
  rwa [hk] at this

theorem closF {xs : List (Int × Int)} (hl : xs.length ≤ 1048576) (n b : Int) : ∃ (rn rb rc : Int),
    (∀ base s w, OwnsF w base s xs → Calls Try.prog 62 #[s, .agg #[.int .i64 n, .int .i64 b]] w fun e w' => e = .returned (.tuple #[.agg #[.int .i64 rn, .int .i64 rb], .int .i64 rc]) ∧ Below w.heap.size w w') ∧
    (∀ base s w, OwnsF w base s xs → Calls Try.prog 61 #[s, .agg #[.int .i64 n, .int .i64 b]] w fun e w' => e = .returned (.tuple #[.agg #[.int .i64 rn, .int .i64 rb], .int .i64 rc]) ∧ Below w.heap.size w w') ∧
    ((rc ≠ 0 ∧ rn = 0 ∧ rb = 0) ∨ (rc = 0 ∧
      (∀ base s w, OwnsF w base s xs → Calls Try.prog 61 #[s, .agg #[.int .i64 rn, .int .i64 rb]] w fun e w' => e = .returned (.tuple #[.agg #[.int .i64 rn, .int .i64 rb], .int .i64 0]) ∧ Below w.heap.size w w') ∧
      bits .and .i64 rb b = b ∧
      (∀ i, i < xs.length → ∀ w, Calls Try.prog 66 #[.agg #[.int .i64 (fget xs i).1, .int .i64 (fget xs i).2], .agg #[.int .i64 rn, .int .i64 rb]] w fun e w' => e = .returned (.tuple #[.bool true, .int .i64 0]) ∧ Below w.heap.size w w'))) := by
  by_cases h1 : codeL xs = 1
  · refine ⟨0, 0, 1, fun base s w ho => specClosureOf_no1 hl h1 w ho, fun base s w ho => ?_, .inl ⟨by decide, rfl, rfl⟩⟩
    cases hr : isR n b
    · exact implClosureOf_inv hr s w
    · exact implClosureOf_code hr hl h1 (by decide) w ho
  · have hc1 : (codeL xs == 1) = false := by simpa using h1
    cases hr : isR n b
    · exact ⟨0, 0, 1, fun base s w ho => specClosureOf_no2 hr hl rfl hc1 w ho, fun base s w ho => implClosureOf_inv hr s w, .inl ⟨by decide, rfl, rfl⟩⟩
    · by_cases hc : codeL xs = 0
      · have hall : allTo xs xs.length = true := by
          unfold codeL at hc
          cases h : allTo xs xs.length
          · rw [h] at hc; simp at hc
          · rfl
        obtain ⟨P, y, Q, e1, e2, P4, okr⟩ := rok_nat hr
        subst e1 e2
        have hQ : Q = 2 ^ P := by have := okr.he; simpa using this
        obtain ⟨cl, hclQ, hcl⟩ := cl_exists (L := xs.length) (mdL_mono xs P Q) (mdL_lt xs hQ) (2 ^ Q) y okr.hB (Nat.sub_le _ _)
        have hcl62 : cl < 2 ^ 62 := by
          have h16 : (2 : Nat) ^ Q ≤ 2 ^ 16 := Nat.pow_le_pow_right (by decide) okr.r16
          omega
        have okc : ROk (P : Int) cl Q := { okr with hx := hcl62, hB := hclQ }
        refine ⟨P, cl, 0, fun base s w ho => specClosureOf_yes okr hl hc hall hcl w ho, fun base s w ho => implClosureOf_yes okr hl hc hall hcl hclQ w ho, .inr ⟨rfl, fun base s w ho => implClosureOf_yes okc hl hc hall (cl_again hcl) hclQ w ho, ?_, fun i hi w => ?_⟩⟩
        · rw [bits_and_nat _ _ hcl62 okr.hx, and_of_sub hcl.has]
        · exact keepsR_yes (allTo_atc hall hi) okc (keeps_of_closed hQ (hcl.closed i hi)) w
      · have hz : (codeL xs != 0) = true := by simpa using hc
        exact ⟨0, 0, codeL xs, fun base s w ho => specClosureOf_no3 hr hl rfl hc1 hz w ho, fun base s w ho => implClosureOf_code hr hl rfl hz w ho, .inl ⟨hc, rfl, rfl⟩⟩

theorem rkL_mem {n : Int} {xs : List (Int × Int)} {P L T : Nat} {p : Int × Int} (h : p ∈ rkL n xs P L T) : ∃ y : Nat, y < T ∧ p = (n, (y : Int)) ∧ keepTo xs y P L = true := by
  unfold rkL at h
  obtain ⟨y, hy, rfl⟩ := List.mem_map.1 h
  obtain ⟨h1, h2⟩ := List.mem_filter.1 hy
  exact ⟨y, by simpa using h1, rfl, by simpa using h2⟩
theorem keepTo_at {xs : List (Int × Int)} {y P L i : Nat} (h : keepTo xs y P L = true) (hi : i < L) : keepsP (fget xs i) y P = true := allLt_iff.1 h i hi

theorem relF {xs : List (Int × Int)} (hl : xs.length ≤ 1048576) (n : Int) : ∃ (ys : List (Int × Int)) (rc : Int), ys.length ≤ 100000 ∧
    (∀ base s w, OwnsF w base s xs → Calls Try.prog 72 #[s, .int .i64 n] w (RListCodePost w.heap.size ys rc w)) ∧
    (∀ base s w, OwnsF w base s xs → Calls Try.prog 71 #[s, .int .i64 n] w (RListCodePost w.heap.size ys rc w)) ∧
    (∀ i j, i < ys.length → j < ys.length → ∃ mn mb : Int, (∀ w, Calls Try.prog 77 #[.agg #[.int .i64 (fget ys i).1, .int .i64 (fget ys i).2], .agg #[.int .i64 (fget ys j).1, .int .i64 (fget ys j).2]] w fun e w' => e = .returned (.tuple #[.agg #[.int .i64 mn, .int .i64 mb], .int .i64 0]) ∧ Below w.heap.size w w') ∧
      (∀ base s w, OwnsF w base s xs → Calls Try.prog 61 #[s, .agg #[.int .i64 mn, .int .i64 mb]] w fun e w' => e = .returned (.tuple #[.agg #[.int .i64 mn, .int .i64 mb], .int .i64 0]) ∧ Below w.heap.size w w')) := by
  by_cases hc : codeL xs = 0
  · have hall : allTo xs xs.length = true := by
      unfold codeL at hc
      cases h : allTo xs xs.length
      · rw [h] at hc; simp at hc
      · rfl
    by_cases h1 : n < 1
    · exact ⟨[], 2, by simp, fun base s w ho => specRelationsKept_lo hl hc h1 w ho, fun base s w ho => implRelationsKept_lo hl hc h1 w ho, fun i j hi => by simp at hi⟩
    · by_cases h3 : 3 < n
      · exact ⟨[], 2, by simp, fun base s w ho => specRelationsKept_hi hl hc h3 w ho, fun base s w ho => implRelationsKept_hi hl hc h3 w ho, fun i j hi => by simp at hi⟩
      · obtain ⟨R, T, r0, r16, hR, hT, hT0, hT16, hA, ok⟩ := arity_nums (n := n) (by omega) (by omega)
        have okr : ∀ y, y < T → ROk n y R := fun y hy => { ok y hy with h1 := by omega }
        obtain ⟨P, hnP⟩ : ∃ P : Nat, n = (P : Int) := ⟨n.toNat, by omega⟩
        subst hnP
        refine ⟨rkL P xs P xs.length T, 0, by have := rkL_len P xs P xs.length T; omega, fun base s w ho => ?_, fun base s w ho => ?_, fun i j hi hj => ?_⟩
        · exact specRelationsKept_yes hl hc hall rfl (by omega) (by omega) hA hT0 hT16 okr w ho
        · exact implRelationsKept_yes hl hc hall rfl (by omega) (by omega) hA hT0 hT16 okr w ho
        · obtain ⟨y1, hy1, e1, k1⟩ := rkL_mem (fget_mem hi)
          obtain ⟨y2, hy2, e2, k2⟩ := rkL_mem (fget_mem hj)
          rw [e1, e2]
          have o1 := okr y1 hy1
          have o2 := okr y2 hy2
          have hQ : R = 2 ^ P := by have := o1.he; simpa using this
          have hm : y1 &&& y2 ≤ y1 := Nat.and_le_left
          have okm := okr (y1 &&& y2) (by omega)
          refine ⟨P, ((y1 &&& y2 : Nat) : Int), fun w => ?_, fun base s w ho => implClosureOf_yes okm hl hc hall (cl_of_closed fun i hi => ?_) okm.hB w ho⟩
          · have := implMeetOf_d (n0 := (P : Int)) (b0 := (y1 : Int)) (n1 := (P : Int)) (b1 := (y2 : Int)) o1.is o2.is rfl w
            rwa [bits_and_nat _ _ o1.hx o2.hx] at this
          · have a1 := closed_of_keeps (x := (fget xs i).2.toNat) (m := (fget xs i).1.toNat) hQ (keepTo_at k1 hi)
            have a2 := closed_of_keeps (x := (fget xs i).2.toNat) (m := (fget xs i).1.toNat) hQ (keepTo_at k2 hi)
            exact subN_and ((mdL_mono xs P R i _ _ (subN_and_left y1 y2)).trans a1) ((mdL_mono xs P R i _ _ (subN_and_right y1 y2)).trans a2)
  · have hz : (codeL xs != 0) = true := by simpa using hc
    have hz2 : (codeL xs == 0) = false := by simpa using hc
    exact ⟨[], codeL xs, by simp, fun base s w ho => specRelationsKept_code hl rfl hz hz2 n w ho, fun base s w ho => implRelationsKept_code hl rfl hz hz2 n w ho, fun i j hi => by simp at hi⟩

theorem fkL_mem {n : Int} {xs : List (Int × Int)} {k L T : Nat} {p : Int × Int} (h : p ∈ fkL n xs k L T) : ∃ x : Nat, x < T ∧ p = (n, (x : Int)) ∧ kpTo xs x k L = true := by
  unfold fkL at h
  obtain ⟨y, hy, rfl⟩ := List.mem_map.1 h
  obtain ⟨h1, h2⟩ := List.mem_filter.1 hy
  exact ⟨y, by simpa using h1, rfl, by simpa using h2⟩

theorem funF {xs : List (Int × Int)} (hl : xs.length ≤ 1048576) (n : Int) : ∃ (ys : List (Int × Int)) (rc : Int), ys.length ≤ 100000 ∧
    (∀ base s w, OwnsR w base s xs → Calls Try.prog 11 #[s, .int .i64 n] w (FListCodePost w.heap.size ys rc w)) ∧
    (∀ base s w, OwnsR w base s xs → Calls Try.prog 13 #[s, .int .i64 n] w (FListCodePost w.heap.size ys rc w)) ∧
    (∀ i j, i < ys.length → j < xs.length → ∀ w, Calls Try.prog 66 #[.agg #[.int .i64 (fget ys i).1, .int .i64 (fget ys i).2], .agg #[.int .i64 (fget xs j).1, .int .i64 (fget xs j).2]] w fun e w' => e = .returned (.tuple #[.bool true, .int .i64 0]) ∧ Below w.heap.size w w') := by
  cases hall : codeRL xs
  · exact ⟨[], 1, by simp, fun base s w ho => specFunctionsKeeping_no hl (.inl ⟨hall, rfl⟩) w ho, fun base s w ho => implFunctionsKeeping_a hl hall w ho, fun i j hi => by simp at hi⟩
  · by_cases h6 : 6 < xs.length
    · exact ⟨[], 2, by simp, fun base s w ho => specFunctionsKeeping_no hl (.inr ⟨hall, .inl h6, rfl⟩) w ho, fun base s w ho => implFunctionsKeeping_b hl hall h6 w ho, fun i j hi => by simp at hi⟩
    · cases hin : inB n 0 3
      · have hn : n < 0 ∨ 3 < n := by
          have : ¬ (0 ≤ n ∧ n ≤ 3) := by simpa [inB] using hin
          omega
        by_cases h0 : n < 0
        · exact ⟨[], 2, by simp, fun base s w ho => specFunctionsKeeping_no hl (.inr ⟨hall, .inr hin, rfl⟩) w ho, fun base s w ho => implFunctionsKeeping_c hl hall (by omega) h0 w ho, fun i j hi => by simp at hi⟩
        · exact ⟨[], 2, by simp, fun base s w ho => specFunctionsKeeping_no hl (.inr ⟨hall, .inr hin, rfl⟩) w ho, fun base s w ho => implFunctionsKeeping_d hl hall (by omega) (by omega) (by omega) w ho, fun i j hi => by simp at hi⟩
      · have hn2 : 0 ≤ n ∧ n ≤ 3 := by simpa [inB] using hin
        obtain ⟨R, T, r0, r16, hR, hT, hT0, hT16, hA, ok⟩ := arity_nums (n := n) hn2.1 (by omega)
        obtain ⟨k, hnk⟩ : ∃ k : Nat, n = (k : Int) := ⟨n.toNat, by omega⟩
        refine ⟨fkL n xs k xs.length T, 0, by have := fkL_len n xs k xs.length T; omega, fun base s w ho => specFunctionsKeeping_yes (by omega) hall hnk hin hn2.1 (by omega) hA hT0 hT16 ok w ho, fun base s w ho => implFunctionsKeeping_yes (by omega) hall hnk hn2.1 hn2.2 r0 r16 hR hT hT0 hT16 ok w ho, fun i j hi hj w => ?_⟩
        obtain ⟨x, hx, e1, k1⟩ := fkL_mem (fget_mem hi)
        rw [e1]
        subst hnk
        have okf := ok x hx
        obtain ⟨P, y, Q, e2, e3, _, okr⟩ := rok_nat (allRTo_at hall hj)
        have hk := allLt_iff.1 k1 j hj
        unfold kpR at hk
        rw [e2, e3, Int.toNat_natCast, Int.toNat_natCast] at hk
        rw [e2, e3]
        have := implKeeps_c okf (by omega) okr w
        rwa [hk] at this
end Go.Proofs.Ytcolaggkeekgoab

/- Y1:
  Draws: the next number of a source. -/
namespace Go.Proofs.Ytcolaggkeekgoab
open Go.RowKit
set_option linter.unusedVariables false
set_option linter.unusedSimpArgs false

/-- The bytes that a source reads. -/
def Bytes (W : World) (a : Option Addr) (len : Nat) : Prop := len = 0 ∨ ∃ g off, a = some ⟨g, off, none⟩ ∧ ∀ j, j < len → ∃ v : Nat, v < 256 ∧ W.cell? ⟨g, off + j, none⟩ = some (.int .u8 (v : Int))
/-- A source of draws. -/
structure Src (b : Nat) (a : Option Addr) (len cap at' : Nat) (h : Int) (W : World) : Prop where
  c0 : W.cell? ⟨b, 0, none⟩ = some (.slice a len cap)
  c1 : W.cell? ⟨b, 1, none⟩ = some (.int .i64 (at' : Int))
  c2 : W.cell? ⟨b, 2, none⟩ = some (.int .u64 h)
  f1 : W.frozen? ⟨b, 1, none⟩ = false
  f2 : W.frozen? ⟨b, 2, none⟩ = false

theorem and_small (y : Int) : 0 ≤ bits .and .u64 y 16777215 ∧ bits .and .u64 y 16777215 < 16777216 := by
  have e : bits .and .u64 y 16777215 = IntKind.u64.wrap (((BitVec.ofInt 64 y &&& BitVec.ofInt 64 16777215).toNat : Nat) : Int) := rfl
  have h1 : (BitVec.ofInt 64 y &&& BitVec.ofInt 64 16777215).toNat ≤ 16777215 := by
    rw [BitVec.toNat_and]
    exact Nat.and_le_right
  rw [e]
  have h2 : IntKind.u64.wrap (((BitVec.ofInt 64 y &&& BitVec.ofInt 64 16777215).toNat : Nat) : Int) = (((BitVec.ofInt 64 y &&& BitVec.ofInt 64 16777215).toNat : Nat) : Int) := by
    unfold IntKind.wrap
    simp only [IntKind.bits, IntKind.signed]
    generalize (BitVec.ofInt 64 y &&& BitVec.ofInt 64 16777215).toNat = t at h1 ⊢
    simp
    omega
  rw [h2]
  omega

theorem wrap_24 {x : Int} (h0 : 0 ≤ x) (h1 : x < 16777216) : wrap64 x = x := by unfold wrap64; omega
theorem gset {w w' : World} {b : Nat} (h : w.grownBy w' (some b)) (i : Nat) (v : Value) : w.grownBy (w'.setCell ⟨b, i, none⟩ v) (some b) := Lib.grownBy_setB h i v
theorem gdrew {w w' : World} {row : Option Nat} (h : w.grownBy w' row) : w.grownBy w'.drew row := ⟨h.os, h.tape, h.output, h.size, h.block⟩

/-- What the next draw leaves. -/
def NextPost (b : Nat) (a : Option Addr) (len cap : Nat) (n : Int) (w : World) (e : Ending) (w' : World) : Prop :=
  ∃ (x : Int) (at2 : Nat) (h2 : Int), e = .returned (.int .i64 x) ∧ 0 ≤ x ∧ x < n ∧ at2 < 2 ^ 62 ∧ Src b a len cap at2 h2 w' ∧ w.grownBy w' (some b)

set_option maxRecDepth 100000 in
set_option maxHeartbeats 4000000 in
theorem l01Next_end (b : Nat) (a : Option Addr) (len cap at' : Nat) (h : Int) (hat : len ≤ at') (hat2 : at' < 2 ^ 62) (n : Int) (hn : 1 ≤ n) (hn2 : n < 2 ^ 62) (w : World) (S : Src b a len cap at' h w) :
    Calls Try.prog 138 #[.pointer (some ⟨b, 0, none⟩), .int .i64 n] w (NextPost b a len cap n w) := by
  obtain ⟨c0, c1, c2, f1, f2⟩ := S
  have hd : decide (n < 1) = false := by simp; omega
  obtain ⟨h', eh⟩ : ∃ h', IntKind.u64.wrap (IntKind.u64.wrap (h * 6364136223846793005) + 1442695040888963407) = h' := ⟨_, rfl⟩
  obtain ⟨v, ev⟩ : ∃ v, bits .and .u64 (h' / 8589934592) 16777215 = v := ⟨_, rfl⟩
  have hv := and_small (h' / 8589934592)
  rw [ev] at hv
  obtain ⟨v0, v1⟩ := hv
  have hw := wrap_24 v0 v1
  have hle : decide ((at' : Int) < (len : Int)) = false := by simp; omega
  have hne : (n == 0) = false := by simp; omega
  go_enter Try.func138, Try.ntmps138
  go_wp2_with fail
  go_region
  go_wp2
  go_ret
  refine ⟨v % n, at', h', rfl, Int.emod_nonneg _ (by omega), Int.emod_lt_of_pos _ (by omega), hat2, ⟨by simp [go_sem, c0], by simp [go_sem, c1], by simp [go_sem, c2], by simpa [go_sem] using f1, by simpa [go_sem] using f2⟩, gdrew (Lib.grownBy_setCell w b 2 _)⟩

set_option maxRecDepth 100000 in
set_option maxHeartbeats 4000000 in
theorem l01Next_more (b g off len cap at' vb : Nat) (h : Int) (hat : at' < len) (hat2 : len < 2 ^ 62) (hgb : ¬ g = b) (hvb : vb < 256) (n : Int) (hn : 1 ≤ n) (hn2 : n < 2 ^ 62) (w : World) (S : Src b (some ⟨g, off, none⟩) len cap at' h w) (hc : w.cell? ⟨g, off + at', none⟩ = some (.int .u8 (vb : Int))) :
    Calls Try.prog 138 #[.pointer (some ⟨b, 0, none⟩), .int .i64 n] w (NextPost b (some ⟨g, off, none⟩) len cap n w) := by
  obtain ⟨c0, c1, c2, f1, f2⟩ := S
  have hd : decide (n < 1) = false := by simp; omega
  obtain ⟨h', eh⟩ : ∃ h', IntKind.u64.wrap (IntKind.u64.wrap (h * 6364136223846793005) + 1442695040888963407) = h' := ⟨_, rfl⟩
  obtain ⟨v, ev⟩ : ∃ v, bits .and .u64 (h' / 8589934592) 16777215 = v := ⟨_, rfl⟩
  have hv := and_small (h' / 8589934592)
  rw [ev] at hv
  obtain ⟨v0, v1⟩ := hv
  have hw := wrap_24 v0 v1
  have hle : decide ((at' : Int) < (len : Int)) = true := by simp; omega
  have i0 : (0 : Int) ≤ (at' : Int) := by omega
  have i1 : (at' : Int) < (len : Int) := by omega
  have hne : (n == 0) = false := by simp; omega
  have hx : IntKind.i64.wrap (v + (vb : Int)) = v + (vb : Int) := wrap64_small (by omega) (by omega)
  go_enter Try.func138, Try.ntmps138
  go_wp2_with fail
  go_region
  go_wp2_with fail
  go_region
  go_wp2
  go_ret
  refine ⟨(v + (vb : Int)) % n, at' + 1, h', rfl, Int.emod_nonneg _ (by omega), Int.emod_lt_of_pos _ (by omega), by omega, ⟨by simp [go_sem, c0], by simp [go_sem, c1], by simp [go_sem, c2], by simpa [go_sem] using f1, by simpa [go_sem] using f2⟩, gdrew (gdrew (gset (Lib.grownBy_setCell w b 2 _) 1 _))⟩

/-- The next draw, wherever the source stands. -/
theorem l01Next_any (b : Nat) (a : Option Addr) (len cap at' : Nat) (h : Int) (hat : at' < 2 ^ 62) (hlen : len < 2 ^ 62) {w0 : World} (hB : Bytes w0 a len) (n : Int) (hn : 1 ≤ n) (hn2 : n < 2 ^ 62) (w : World)
    (hk : 0 < len → ∀ g off, a = some ⟨g, off, none⟩ → ¬ g = b ∧ ∀ j u, w0.cell? ⟨g, off + j, none⟩ = some u → w.cell? ⟨g, off + j, none⟩ = some u) (S : Src b a len cap at' h w) :
    Calls Try.prog 138 #[.pointer (some ⟨b, 0, none⟩), .int .i64 n] w (NextPost b a len cap n w) := by
  by_cases hlt : at' < len
  · rcases hB with h0 | ⟨g, off, rfl, hc⟩
    · omega
    · obtain ⟨vb, hvb, hcell⟩ := hc at' hlt
      obtain ⟨hgb, hcs⟩ := hk (by omega) g off rfl
      exact l01Next_more b g off len cap at' vb h hlt hlen hgb hvb n hn hn2 w S (hcs at' _ hcell)
  · exact l01Next_end b a len cap at' h (by omega) hat n hn hn2 w S
end Go.Proofs.Ytcolaggkeekgoab

/- Y2:
  Draws: a source made of bytes. -/
namespace Go.Proofs.Ytcolaggkeekgoab
open Go.RowKit
set_option linter.unusedVariables false
set_option linter.unusedSimpArgs false

theorem Src.drew {b : Nat} {a : Option Addr} {len cap at' : Nat} {h : Int} {W : World} (S : Src b a len cap at' h W) : Src b a len cap at' h W.drew := ⟨S.c0, S.c1, S.c2, S.f1, S.f2⟩

/-- A new source. -/
def FromPost (a : Option Addr) (len cap : Nat) (w : World) (e : Ending) (w' : World) : Prop :=
  ∃ h : Int, e = .returned (.pointer (some ⟨w.heap.size, 0, none⟩)) ∧ Src w.heap.size a len cap 0 h w' ∧ Below w.heap.size w w'

set_option maxRecDepth 100000 in
set_option maxHeartbeats 4000000 in
theorem l01From_any (a : Option Addr) (len cap : Nat) (hl : len ≤ 1048576) (w : World) (hB : Bytes w a len) :
    Calls Try.prog 113 #[.slice a len cap] w (FromPost a len cap w) := by
  obtain ⟨W1, hW1⟩ : ∃ W1, w.alloc (.cells #[.slice a len cap, .int .i64 0, .int .u64 (13231 + (len : Int))] 162) = W1 := ⟨_, rfl⟩
  have S1 : Src w.heap.size a len cap 0 (13231 + (len : Int)) W1 := by
    rw [← hW1]
    exact ⟨by simp [go_sem], by simp [go_sem], by simp [go_sem], by simp [go_sem], by simp [go_sem]⟩
  have hB1 : Below w.heap.size w W1 := by rw [← hW1]; exact bnew _ _
  go_enter Try.func113, Try.ntmps113
  go_wp2_with fail
  clear hW1
  go_loopw [4] (fun i' wr => ∃ (i : Nat) (h : Int), i ≤ len ∧ i' = .int .i64 i ∧ Src w.heap.size a len cap 0 h wr ∧ Below w.heap.size w wr) (fun i' _ => len - (intOf i').toNat)
  case atStart => exact ⟨0, _, Nat.zero_le _, rfl, S1, hB1⟩
  case round =>
    clear S1 hB1
    obtain ⟨i, h, hi, rfl, S, hN⟩ := hrel
    by_cases hlt : i < len
    · have i0 : (0 : Int) ≤ (i : Int) := by omega
      have i1 : (i : Int) < (len : Int) := by omega
      rcases hB with h0 | ⟨g, off, rfl, hc⟩
      · omega
      obtain ⟨vb, hvb, hcell0⟩ := hc i hlt
      have hcell := kc hN hcell0
      have hg := cell_lt hcell0
      have hgb : ¬ g = w.heap.size := by
        have : g < w.heap.size := hg
        omega
      clear hcell0 hg hc
      obtain ⟨c0, c1, c2, f1, f2⟩ := S
      by_cases h4 : i < 4096
      · have hd1 : decide ((i : Int) < 4096) = true := by simp; omega
        have hd2 : decide ((i : Int) < (len : Int)) = true := by simp; omega
        obtain ⟨h', eh⟩ : ∃ h', IntKind.u64.wrap (IntKind.u64.wrap (IntKind.u64.wrap (h * 1099511628211) + (vb : Int)) + 149) = h' := ⟨_, rfl⟩
        go_wp2_with fail
        go_region
        go_wp2
        go_roundw
        case rel => exact ⟨i + 1, h', by omega, by go_num, ⟨by simp [go_sem, c0], by simp [go_sem, c1], by simp [go_sem, c2], by simpa [go_sem] using f1, by simpa [go_sem] using f2⟩, (hN.setCell (p := ⟨w.heap.size, 2, none⟩) (Nat.le_refl _) _).drew⟩
        case measure => simp [intOf]; omega
      · have hd1 : decide ((i : Int) < 4096) = false := by simp; omega
        have hd2 : decide ((i : Int) < (len : Int)) = true := by simp; omega
        go_wp2
        go_ret
        exact ⟨h, rfl, ⟨c0, c1, c2, f1, f2⟩, hN⟩
    · have hd2 : decide ((i : Int) < (len : Int)) = false := by simp; omega
      go_wp2
      go_ret
      exact ⟨h, rfl, S, hN⟩
end Go.Proofs.Ytcolaggkeekgoab

/- Y3:
  Draws: a source with all that a draw asks for. -/
namespace Go.Proofs.Ytcolaggkeekgoab
open Go.RowKit
set_option linter.unusedVariables false
set_option linter.unusedSimpArgs false

/-- A source, and the bytes that it reads. -/
def SrcOk (b : Nat) (a : Option Addr) (len cap : Nat) (W : World) : Prop :=
  len < 2 ^ 62 ∧ Bytes W a len ∧ (0 < len → ∀ g off, a = some ⟨g, off, none⟩ → ¬ g = b) ∧ ∃ (at' : Nat) (h : Int), at' < 2 ^ 62 ∧ Src b a len cap at' h W

theorem cell_grown {W W' : World} {b : Nat} {p : Addr} {u : Value} (hg : W.grownBy W' (some b)) (hp : ¬ p.block = b) (h : W.cell? p = some u) : W'.cell? p = some u := by
  rw [hg.cell_far p (cell_lt h) (by intro e; cases e; exact hp rfl)]
  exact h

theorem Bytes.grown {W W' : World} {a : Option Addr} {len b : Nat} (h : Bytes W a len) (hg : W.grownBy W' (some b)) (hb : 0 < len → ∀ g off, a = some ⟨g, off, none⟩ → ¬ g = b) : Bytes W' a len := by
  rcases h with h0 | ⟨g, off, rfl, hc⟩
  · exact .inl h0
  · refine .inr ⟨g, off, rfl, fun j hj => ?_⟩
    obtain ⟨v, hv, hcell⟩ := hc j hj
    exact ⟨v, hv, cell_grown hg (hb (by omega) g off rfl) hcell⟩

theorem next_ok {b : Nat} {a : Option Addr} {len cap : Nat} (n : Int) (hn : 1 ≤ n) (hn2 : n < 2 ^ 62) (w : World) (S : SrcOk b a len cap w) :
    Calls Try.prog 138 #[.pointer (some ⟨b, 0, none⟩), .int .i64 n] w fun e w' => ∃ x : Int, e = .returned (.int .i64 x) ∧ 0 ≤ x ∧ x < n ∧ SrcOk b a len cap w' ∧ w.grownBy w' (some b) := by
  obtain ⟨hl, hB, hb, at', h, hat, hS⟩ := S
  refine (l01Next_any b a len cap at' h hat hl hB n hn hn2 w (fun h0 g off e => ⟨hb h0 g off e, fun j u hu => hu⟩) hS).mono ?_
  rintro e w' ⟨x, at2, h2, rfl, x0, x1, hat2, hS2, hg⟩
  exact ⟨x, rfl, x0, x1, ⟨hl, hB.grown hg hb, hb, at2, h2, hat2, hS2⟩, hg⟩

theorem from_ok {a : Option Addr} {len cap : Nat} (hl : len ≤ 1048576) (w : World) (hB : Bytes w a len) (hlt : 0 < len → ∀ g off, a = some ⟨g, off, none⟩ → g < w.heap.size) :
    Calls Try.prog 113 #[.slice a len cap] w fun e w' => e = .returned (.pointer (some ⟨w.heap.size, 0, none⟩)) ∧ SrcOk w.heap.size a len cap w' ∧ Below w.heap.size w w' := by
  refine (l01From_any a len cap hl w hB).mono ?_
  rintro e w' ⟨h, rfl, hS, hb⟩
  refine ⟨rfl, ⟨by omega, ?_, fun h0 g off e => by have := hlt h0 g off e; omega, 0, h, by decide, hS⟩, hb⟩
  rcases hB with h0 | ⟨g, off, rfl, hc⟩
  · exact .inl h0
  · refine .inr ⟨g, off, rfl, fun j hj => ?_⟩
    obtain ⟨v, hv, hcell⟩ := hc j hj
    exact ⟨v, hv, kc hb hcell⟩
end Go.Proofs.Ytcolaggkeekgoab

/- Y4:
  Draws: one of some numbers, a number near a range. -/
namespace Go.Proofs.Ytcolaggkeekgoab
open Go.RowKit
set_option linter.unusedVariables false
set_option linter.unusedSimpArgs false

theorem gOf {W W' : World} (hb : Below W.heap.size W W') (b : Nat) : W.grownBy W' (some b) := ⟨hb.os, hb.tape, hb.output, hb.size, fun k hk _ => hb.block k hk⟩
theorem gGo {a b c : World} {row : Option Nat} (h : a.grownBy b row) (k : b.grownBy c row) : a.grownBy c row :=
  ⟨k.os.trans h.os, k.tape.trans h.tape, k.output.trans h.output, Nat.le_trans h.size k.size, fun j hj hr => (k.block j (Nat.lt_of_lt_of_le hj h.size) hr).trans (h.block j hj hr)⟩
theorem gSet {W W' : World} {b : Nat} (h : W.grownBy W' (some b)) {p : Addr} (hp : W.heap.size ≤ p.block) (u : Value) : W.grownBy (W'.setCell p u) (some b) :=
  ⟨h.os, h.tape, h.output, by simpa using h.size, fun k hk hr => (Below.heap_setCell _ _ _ k (by omega)).trans (h.block k hk hr)⟩
theorem kcg {W W' : World} {b : Nat} {p : Addr} {u : Value} (hg : W.grownBy W' (some b)) (hp : ¬ p.block = b) (h : W.cell? p = some u) : W'.cell? p = some u := cell_grown hg hp h
theorem kfg {W W' : World} {b : Nat} {p : Addr} {u : Value} (hg : W.grownBy W' (some b)) (hp : ¬ p.block = b) (h : W.cell? p = some u) (hf : W.frozen? p = false) : W'.frozen? p = false := by
  rw [World.frozen?_of_block (w := W) (a := p) (hg.block p.block (cell_lt h) (by intro e; cases e; exact hp rfl))]
  exact hf

theorem SrcOk.lt {b : Nat} {a : Option Addr} {len cap : Nat} {W : World} (S : SrcOk b a len cap W) : b < W.heap.size := by
  obtain ⟨_, _, _, at', h, _, hS⟩ := S
  exact cell_lt hS.c1
theorem SrcOk.below {b : Nat} {a : Option Addr} {len cap : Nat} {W W' : World} (S : SrcOk b a len cap W) (hb : Below W.heap.size W W') : SrcOk b a len cap W' := by
  obtain ⟨hl, hB, hne, at', h, hat, hS⟩ := S
  refine ⟨hl, ?_, hne, at', h, hat, ⟨kc hb hS.c0, kc hb hS.c1, kc hb hS.c2, kf hb hS.c1 hS.f1, kf hb hS.c2 hS.f2⟩⟩
  rcases hB with h0 | ⟨g, off, rfl, hc⟩
  · exact .inl h0
  · refine .inr ⟨g, off, rfl, fun j hj => ?_⟩
    obtain ⟨v, hv, hcell⟩ := hc j hj
    exact ⟨v, hv, kc hb hcell⟩
theorem SrcOk.set {b : Nat} {a : Option Addr} {len cap : Nat} {W : World} (S : SrcOk b a len cap W) {p : Addr} {W0 : World} (hb : 0 < len → ∀ g off, a = some ⟨g, off, none⟩ → g < W0.heap.size) (hb2 : b < W0.heap.size) (hp : W0.heap.size ≤ p.block) (u : Value) : SrcOk b a len cap (W.setCell p u) := by
  obtain ⟨hl, hB, hne, at', h, hat, hS⟩ := S
  have e1 : ¬ p.block = b := by omega
  have key : ∀ (q : Addr), ¬ p.block = q.block → (W.setCell p u).cell? q = W.cell? q := fun q hq => World.cell?_of_block (w := W) (Below.heap_setCell W p u q.block (fun e => hq e.symm))
  refine ⟨hl, ?_, hne, at', h, hat, ⟨(key _ e1).trans hS.c0, (key _ e1).trans hS.c1, (key _ e1).trans hS.c2, by rw [World.frozen?_setCell]; exact hS.f1, by rw [World.frozen?_setCell]; exact hS.f2⟩⟩
  rcases hB with h0 | ⟨g, off, rfl, hc⟩
  · exact .inl h0
  · refine .inr ⟨g, off, rfl, fun j hj => ?_⟩
    have hgl := hb (by omega) g off rfl
    obtain ⟨v, hv, hcell⟩ := hc j hj
    exact ⟨v, hv, (key ⟨g, off + j, none⟩ (by show ¬ p.block = g; omega)).trans hcell⟩

set_option maxRecDepth 100000 in
set_option maxHeartbeats 2000000 in
theorem pick_ok {b : Nat} {a : Option Addr} {len cap : Nat} (n c : Nat) (hn : 1 ≤ n) (hn2 : n ≤ 1000) (g : Nat) (v : Nat → Int) (w : World) (S : SrcOk b a len cap w) (hg : ¬ g = b) (hc : Hid (∀ j, j < n → w.cell? ⟨g, j, none⟩ = some (.int .i64 (v j)))) :
    Calls Try.prog 139 #[.pointer (some ⟨b, 0, none⟩), .slice (some ⟨g, 0, none⟩) n c] w fun e w' => ∃ i, i < n ∧ e = .returned (.int .i64 (v i)) ∧ SrcOk b a len cap w' ∧ w.grownBy w' (some b) := by
  have hS := Lib.hid S
  clear S
  go_enter Try.func139, Try.ntmps139
  go_wp2_with fail
  refine (next_ok (n : Int) (by omega) (by omega) _ hS.out).mono ?_
  rintro e w2 ⟨x, rfl, x0, x1, S2, hg2⟩
  obtain ⟨i, rfl⟩ := Int.eq_ofNat_of_zero_le x0
  have hi : i < n := by omega
  have hci := kcg hg2 (p := ⟨g, i, none⟩) hg (hc.out i hi)
  have HS2 := Lib.hid S2
  have HG2 := Lib.hid hg2
  clear S2 hg2
  go_wp2
  go_ret
  exact ⟨i, hi, rfl, HS2.out, HG2.out⟩

/-- What a draw of a number hands out: some int64. -/
def NumPost (b : Nat) (a : Option Addr) (len cap : Nat) (lo hi : Int) (w : World) (e : Ending) (w' : World) : Prop :=
  ∃ x : Int, e = .returned (.int .i64 x) ∧ lo ≤ x ∧ x ≤ hi ∧ SrcOk b a len cap w' ∧ w.grownBy w' (some b)

set_option maxRecDepth 100000 in
set_option maxHeartbeats 2000000 in
theorem near_ok {b : Nat} {a : Option Addr} {len cap : Nat} (most : Int) (h0 : 0 ≤ most) (h1 : most ≤ 100000) (w : World) (S : SrcOk b a len cap w) :
    Calls Try.prog 115 #[.pointer (some ⟨b, 0, none⟩), .int .i64 most] w (NumPost b a len cap (-4611686018427387904) 1099511627776 w) := by
  have hS := Lib.hid S
  clear S
  go_enter Try.func115, Try.ntmps115
  go_wp2_with fail
  refine (next_ok 14 (by omega) (by omega) _ hS.out).mono ?_
  rintro e w2 ⟨x, rfl, x0, x1, S2, hg2⟩
  have HS2 := Lib.hid S2
  have HG2 := Lib.hid hg2
  clear S2 hg2
  by_cases hx : x = 0
  · subst hx
    obtain ⟨W3, hW3⟩ : ∃ W3, w2.alloc (.cells #[.int .i64 (-1), .int .i64 (most + 1), .int .i64 1099511627776, .int .i64 (-4611686018427387904)] 2) = W3 := ⟨_, rfl⟩
    have d0 : W3.cell? ⟨w2.heap.size, 0, none⟩ = some (.int .i64 (-1)) := by rw [← hW3]; simp [go_sem]
    have d1 : W3.cell? ⟨w2.heap.size, 1, none⟩ = some (.int .i64 (most + 1)) := by rw [← hW3]; simp [go_sem]
    have d2 : W3.cell? ⟨w2.heap.size, 2, none⟩ = some (.int .i64 1099511627776) := by rw [← hW3]; simp [go_sem]
    have d3 : W3.cell? ⟨w2.heap.size, 3, none⟩ = some (.int .i64 (-4611686018427387904)) := by rw [← hW3]; simp [go_sem]
    have hb3 : Below w2.heap.size w2 W3 := by rw [← hW3]; exact bnew _ _
    have hne : ¬ w2.heap.size = b := by have := HS2.out.lt; omega
    have PK := Lib.hid (pick_ok 4 4 (by omega) (by omega) w2.heap.size (fun j => if j = 0 then -1 else if j = 1 then most + 1 else if j = 2 then 1099511627776 else -4611686018427387904) W3 (HS2.out.below hb3) hne (Lib.hid fun j hj => by
      rcases (show j = 0 ∨ j = 1 ∨ j = 2 ∨ j = 3 by omega) with rfl | rfl | rfl | rfl
      · exact d0
      · exact d1
      · exact d2
      · exact d3))
    clear d0 d1 d2 d3
    go_wp2_with fail
    refine PK.out.mono ?_
    rintro e w4 ⟨i, hi, rfl, S4, hg4⟩
    have HS4 := Lib.hid S4
    have HG4 := Lib.hid (gGo HG2.out (gGo (gOf hb3 b) hg4))
    clear S4 hg4
    obtain ⟨v, hv⟩ : ∃ v : Int, v = (if i = 0 then -1 else if i = 1 then most + 1 else if i = 2 then 1099511627776 else -4611686018427387904 : Int) := ⟨_, rfl⟩
    have hvb : -4611686018427387904 ≤ v ∧ v ≤ 1099511627776 := by
      rw [hv]
      rcases (show i = 0 ∨ i = 1 ∨ i = 2 ∨ i = 3 by omega) with rfl | rfl | rfl | rfl <;> simp <;> omega
    dsimp only
    rw [← hv]
    clear hv
    go_wp2
    go_ret
    exact ⟨v, rfl, hvb.1, hvb.2, HS4.out, HG4.out⟩
  · have hq : (x == 0) = false := by simp [hx]
    go_wp2_with fail
    refine (next_ok (most + 1) (by omega) (by omega) _ HS2.out).mono ?_
    rintro e w4 ⟨y, rfl, y0, y1, S4, hg4⟩
    have HS4 := Lib.hid S4
    have HG4 := Lib.hid (gGo HG2.out hg4)
    clear S4 hg4
    go_wp2
    go_ret
    exact ⟨y, rfl, by omega, by omega, HS4.out, HG4.out⟩
end Go.Proofs.Ytcolaggkeekgoab

/- D2:
  A variable fixed: the model's loop; FixVariable in both packages. -/
namespace Go.Proofs.Ytcolaggkeekgoab
open Go.RowKit

/-- The rows below k in which the variable i is v. -/
def fixL (i v k : Nat) : List Nat := (List.range k).filter fun r => bitN r i == v
theorem fixL_succ_yes (i v k : Nat) (h : bitN k i = v) : fixL i v (k + 1) = fixL i v k ++ [k] := by simp [fixL, List.range_succ, h]
theorem fixL_succ_no (i v k : Nat) (h : bitN k i ≠ v) : fixL i v (k + 1) = fixL i v k := by simp [fixL, List.range_succ, h]
theorem fixL_len (i v k : Nat) : (fixL i v k).length ≤ k := by
  unfold fixL
  exact Nat.le_trans (List.length_filter_le _ _) (by simp)
theorem fixL_all : ∀ n < 5, ∀ i < n, ∀ v < 2, fixL i v (2 ^ n) = (List.range (2 ^ (n - 1))).map (insN i v) := by decide +kernel

def bitVals (x : Nat) (l : List Nat) : List Value := l.map fun r => .int .i64 (bitN x r : Int)
theorem bitVals_snoc (x : Nat) (l : List Nat) (k : Nat) : bitVals x (l ++ [k]) = bitVals x l ++ [.int .i64 (bitN x k : Int)] := by simp [bitVals]

theorem FOk.fixVals {n : Int} {x R : Nat} (ok : FOk n x R) (i v : Nat) (hi : (i : Int) < n) (hv : v ≤ 1) :
    (fixL i v R).length = 2 ^ (n.toNat - 1) ∧ bitVals x (fixL i v R) = valsN (fun r => bitN x (insN i v r)) (2 ^ (n.toNat - 1)) := by
  have h4 := ok.h4
  have e := fixL_all n.toNat (by omega) i (by omega) v (by omega)
  rw [← ok.he] at e
  rw [e]
  exact ⟨by simp, by simp [bitVals, valsN, List.map_map, Function.comp_def]⟩

theorem l01At_is {n : Int} {x R : Nat} (ok : FOk n x R) (k : Nat) (hk : k < 62) (w : World) :
    Calls Try.prog 122 #[.agg #[.int .i64 n, .int .i64 (x : Int)], .int .i64 (k : Int)] w fun e w' => e = .returned (.int .i64 (bitN x k : Int)) ∧ Below w.heap.size w w' := l01At_any n x k ok.hx hk w

set_option maxRecDepth 100000 in
set_option maxHeartbeats 2000000 in
theorem l01Fix_any {n : Int} {x R : Nat} (ok : FOk n x R) (i v : Nat) (hin : (i : Int) < n) (hv : v ≤ 1) (w : World) :
    Calls Try.prog 175 #[.agg #[.int .i64 n, .int .i64 (x : Int)], .int .i64 (i : Int), .int .i64 (v : Int)] w fun e w' => e = .returned (.agg #[.int .i64 (n - 1), .int .i64 (fixN n x i v : Int)]) ∧ Below w.heap.size w w' := by
  obtain ⟨i0, hi, hz0, hz1, hz2⟩ := info_parts infoI
  have r0 := ok.r0
  have r16 := ok.r16
  have h4 := ok.h4
  have hi16 : i < 16 := by omega
  obtain ⟨W1, hW1⟩ : ∃ W1, (w.alloc (.cells #[.int .i64 n, .int .i64 (x : Int)] 61)).alloc (.cells #[.int .i64 0, .int .i64 0] 61) = W1 := ⟨_, rfl⟩
  have p0 : W1.cell? ⟨w.heap.size, 0, none⟩ = some (.int .i64 n) := by rw [← hW1]; simp [go_sem]
  have p1 : W1.cell? ⟨w.heap.size, 1, none⟩ = some (.int .i64 (x : Int)) := by rw [← hW1]; simp [go_sem]
  have c0 : W1.cell? ⟨w.heap.size + 1, 0, none⟩ = some (.int .i64 0) := by rw [← hW1]; simp [go_sem]
  have c1 : W1.cell? ⟨w.heap.size + 1, 1, none⟩ = some (.int .i64 0) := by rw [← hW1]; simp [go_sem]
  have f0 : W1.frozen? ⟨w.heap.size + 1, 0, none⟩ = false := by rw [← hW1]; simp [go_sem]
  have f1 : W1.frozen? ⟨w.heap.size + 1, 1, none⟩ = false := by rw [← hW1]; simp [go_sem]
  have hB : Below w.heap.size w W1 := by rw [← hW1]; exact balloc (bnew _ _) _
  have l0 : w.heap.size < W1.heap.size := cell_lt p0
  have l1 : w.heap.size + 1 < W1.heap.size := cell_lt c0
  go_enter Try.func175, Try.ntmps175
  go_wp2
  clear hW1
  go_loopw [7, 8] (fun s i' wr => ∃ k : Nat, k ≤ R ∧ i' = .int .i64 k ∧ wr.ownsRow W1.heap.size 2 1 s (fixL i v k).length (bitVals x (fixL i v k)) ∧ Below W1.heap.size W1 wr)
    (fun _ i' _ => R - (intOf i').toNat)
  case atStart => exact ⟨0, Nat.zero_le _, rfl, World.ownsRow_lit W1 #[] 0 (Nat.le_refl _) (by decide) rfl, bnew _ _⟩
  case round =>
    obtain ⟨k, hk, rfl, hown, hN⟩ := hrel
    have hsz := hN.size
    have q0 := kc hN p0
    have q1 := kc hN p1
    by_cases hlt : k < R
    · have E := digit_eq k i (by omega)
      have hlen := fixL_len i v k
      by_cases hb : bitN k i = v
      · have HS := Lib.hid (fixL_succ_yes i v k hb)
        have ht : ((bitN k i : Int) == (v : Int)) = true := by simp [hb]
        clear hb
        go_wp2_with (first
          | (go_at_call 116; refine (l01Rows_is ok.h0 ok.h4 ok.hR _).mono ?_; rintro e w' ⟨rfl, rfl⟩)
          | (go_at_call 122; refine (l01At_is ok k (by omega) _).mono ?_; rintro e w2 ⟨rfl, hb2⟩; have hown2 := owns_below hown hb2; have hN2 := bthen hN hb2; have hsz2 := hb2.size)
          | (at_builtin; refine wpList_append_own _ rfl _ _ 42 rfl W1.heap.size 2 i0 (.int .i64 0) 1 8 Try.underlying42 hi hz0 hz1 hz2 rfl (by decide) _ _ _ rfl (hown2.alloc _) ⟨w2.heap.size, 0, none⟩ 1 1 [.int .i64 (bitN x k : Int)] rfl rfl (cell_one_new _ _ _) (one_cell_int _) (by unfold maxLen; omega) (by omega) (by simp; omega) ?_))
        intro v' w1 hown' hgrow _
        have hN' := (balloc hN2 (.cells #[.int .i64 (bitN x k : Int)] 2)).grown hgrow (by simp; omega) (fun j e => (hown2.lt j e).1)
        clear hgrow hown hN hown2 hN2 E
        go_wp2
        go_roundw
        case rel => exact ⟨k + 1, by omega, by go_num, by rw [HS.out, bitVals_snoc, List.length_append]; exact hown', hN'⟩
        case measure => simp [intOf]; omega
      · have HS := Lib.hid (fixL_succ_no i v k hb)
        have ht : ((bitN k i : Int) == (v : Int)) = false := by simp; omega
        clear hb
        go_wp2_with (first
          | (go_at_call 116; refine (l01Rows_is ok.h0 ok.h4 ok.hR _).mono ?_; rintro e w' ⟨rfl, rfl⟩))
        go_roundw
        case rel => exact ⟨k + 1, by omega, by go_num, by rw [HS.out]; exact hown, hN⟩
        case measure => simp [intOf]; omega
    · obtain rfl : k = R := by omega
      obtain ⟨z0, z8, zR⟩ := ok.lesser (by omega)
      obtain ⟨L1, L2⟩ := ok.fixVals i v hin hv
      rw [L1, L2] at hown
      obtain ⟨g, cap, rfl, hg, hc⟩ := owned_slice z0 hown
      have d00 := kc hN c0
      have d01 := kc hN c1
      have g00 := kf hN c0 f0
      have g01 := kf hN c1 f1
      have hB2 := bthen hB hN
      have OF := Lib.hid (l01Of_any (n := n - 1) (by omega) (by omega) z0 (by omega) zR g cap (fun r => bitN x (insN i v r)) (fun r _ => bitN_le _ _) wr hg hc)
      clear hown hN p0 p1 c0 c1 f0 f1 hB L1 L2 hc hg
      have hfix : fixN n x i v = sumN (fun r => bitN x (insN i v r)) (2 ^ (n.toNat - 1)) := rfl
      generalize 2 ^ (n.toNat - 1) = Z at OF z0 z8 zR hfix
      have HF := Lib.hid hfix
      clear hfix
      go_wp2_with (first
        | (go_at_call 116; refine (l01Rows_is ok.h0 ok.h4 ok.hR _).mono ?_; rintro e w' ⟨rfl, rfl⟩)
        | (go_at_call 123; refine OF.out.mono ?_; rintro e w3 ⟨rfl, hb3⟩; have e00 := kc hb3 d00; have e01 := kc hb3 d01; have k00 := kf hb3 d00 g00; have k01 := kf hb3 d01 g01; have hB3 := bthen hB2 hb3))
      exact bodyPost_ret (v := .agg #[.int .i64 (n - 1), .int .i64 (fixN n x i v : Int)]) (by rw [HF.out]; simp [results, Try.results175, go_sem, e00, e01]) rfl ⟨rfl, (hB3.setCell (p := ⟨w.heap.size + 1, 0, none⟩) (by simp) _).setCell (p := ⟨w.heap.size + 1, 1, none⟩) (by simp) _⟩
end Go.Proofs.Ytcolaggkeekgoab

/- T1:
  Texts of functions, read by the model: l01Read. -/
namespace Go.Proofs.Ytcolaggkeekgoab
open Go.RowKit
set_option linter.unusedVariables false

/-- The byte at a place. -/
def bt (s : ByteArray) (k : Nat) : Nat := if h : k < s.size then s[k].toNat else 0
theorem bt_eq {s : ByteArray} {k : Nat} (h : k < s.size) : (s[k].toNat : Int) = (bt s k : Int) := by simp [bt, h]
theorem bt_lt (s : ByteArray) (k : Nat) : bt s k < 256 := by
  unfold bt
  split
  · exact UInt8.toNat_lt _
  · decide

/-- The values that a text tells, the first j of them. -/
def xsTo (s : ByteArray) (j : Nat) : List Int := (List.range j).map fun r => (bt s (r + 2) : Int) - 48
theorem xsTo_succ (s : ByteArray) (j : Nat) : xsTo s (j + 1) = xsTo s j ++ [(bt s (j + 2) : Int) - 48] := by simp [xsTo, List.range_succ]
theorem xsTo_len (s : ByteArray) (j : Nat) : (xsTo s j).length = j := by simp [xsTo]
/-- The arity that a text tells. -/
def txN (s : ByteArray) : Int := (bt s 0 : Int) - 48

set_option maxRecDepth 100000 in
set_option maxHeartbeats 2000000 in
theorem l01Read_short (s : ByteArray) (hs : s.size ≤ 1048576) (h : s.size < 3 ∨ (3 ≤ s.size ∧ bt s 1 ≠ 58)) (w : World) :
    Calls Try.prog 174 #[.string s] w fun e w' => e = .returned (.tuple #[.agg #[.int .i64 0, .int .i64 0], .bool false]) ∧ Below w.heap.size w w' := by
  rcases h with h | ⟨h, h1⟩
  · go_enter Try.func174, Try.ntmps174
    go_wp2
    exact bodyPost_ret (v := .tuple #[.agg #[.int .i64 0, .int .i64 0], .bool false]) (by simp [results, Try.results174, go_sem]) rfl ⟨rfl, bnew _ _⟩
  · have hb := bt_eq (s := s) (k := 1) (by omega)
    have hne : ((bt s 1 : Int) != 58) = true := by simp; omega
    go_enter Try.func174, Try.ntmps174
    go_wp2
    exact bodyPost_ret (v := .tuple #[.agg #[.int .i64 0, .int .i64 0], .bool false]) (by simp [results, Try.results174, go_sem]) rfl ⟨rfl, bnew _ _⟩

set_option maxRecDepth 100000 in
set_option maxHeartbeats 2000000 in
theorem l01Read_arity (s : ByteArray) (hs : s.size ≤ 1048576) (h : 3 ≤ s.size) (h1 : bt s 1 = 58) (hn : inB (txN s) 0 4 = false) (w : World) :
    Calls Try.prog 174 #[.string s] w fun e w' => e = .returned (.tuple #[.agg #[.int .i64 0, .int .i64 0], .bool false]) ∧ Below w.heap.size w w' := by
  have hb := bt_eq (s := s) (k := 1) (by omega)
  have hb0 := bt_eq (s := s) (k := 0) (by omega)
  have hne : ((bt s 1 : Int) != 58) = false := by simp [h1]
  have hlt := bt_lt s 0
  unfold txN at hn
  clear h1
  go_enter Try.func174, Try.ntmps174
  go_wp2_with (go_at_call 79; refine (l01In_is hn _).mono ?_; rintro e w' ⟨rfl, rfl⟩)
  exact bodyPost_ret (v := .tuple #[.agg #[.int .i64 0, .int .i64 0], .bool false]) (by simp [results, Try.results174, go_sem]) rfl ⟨rfl, balloc (bnew _ _) _⟩

set_option maxRecDepth 100000 in
set_option maxHeartbeats 2000000 in
theorem l01Read_len (s : ByteArray) (hs : s.size ≤ 1048576) (h : 3 ≤ s.size) (h1 : bt s 1 = 58) (hn : inB (txN s) 0 4 = true) {R : Nat} (hR : Hid (rowsN (txN s) = (R : Int))) (r16 : R ≤ 16) (hz : s.size ≠ 2 + R) (w : World) :
    Calls Try.prog 174 #[.string s] w fun e w' => e = .returned (.tuple #[.agg #[.int .i64 0, .int .i64 0], .bool false]) ∧ Below w.heap.size w w' := by
  have hb := bt_eq (s := s) (k := 1) (by omega)
  have hb0 := bt_eq (s := s) (k := 0) (by omega)
  have hne : ((bt s 1 : Int) != 58) = false := by simp [h1]
  have hlt := bt_lt s 0
  have hn2 : 0 ≤ txN s ∧ txN s ≤ 4 := by simpa [inB] using hn
  have hze : ((s.size : Int) != 2 + (R : Int)) = true := by simp; omega
  have RW := Lib.hid (fun W => l01Rows_is hn2.1 hn2.2 hR W)
  unfold txN at hn RW
  clear h1 hz hn2
  go_enter Try.func174, Try.ntmps174
  go_wp2_with (first
    | (go_at_call 79; refine (l01In_is hn _).mono ?_; rintro e w' ⟨rfl, rfl⟩)
    | (go_at_call 116; refine (RW.out _).mono ?_; rintro e w' ⟨rfl, rfl⟩))
  exact bodyPost_ret (v := .tuple #[.agg #[.int .i64 0, .int .i64 0], .bool false]) (by simp [results, Try.results174, go_sem]) rfl ⟨rfl, balloc (bnew _ _) _⟩

/-- What l01Read answers at a text of the right length. -/
def ReadPost (ok : Bool) (n b : Int) (w : World) (e : Ending) (w' : World) : Prop := e = .returned (.tuple #[.agg #[.int .i64 (if ok then n else 0), .int .i64 (if ok then b else 0)], .bool ok]) ∧ Below w.heap.size w w'

set_option maxRecDepth 100000 in
set_option maxHeartbeats 4000000 in
theorem l01Read_long (s : ByteArray) (hs : s.size ≤ 1048576) (h : 3 ≤ s.size) (h1 : bt s 1 = 58) (hn : inB (txN s) 0 4 = true) {R : Nat} (r0 : 0 < R) (hR : Hid (rowsN (txN s) = (R : Int))) (r16 : R ≤ 16) (hz : s.size = 2 + R) (b : Bool) (hbb : ((xsTo s R).all fun v => inB v 0 1) = b) (w : World) :
    Calls Try.prog 174 #[.string s] w (ReadPost b (txN s) (sumN (dig (xsTo s R)) R : Int) w) := by
  obtain ⟨i0, hinf, hz0, hz1, hz2⟩ := info_parts infoI
  have hb := bt_eq (s := s) (k := 1) (by omega)
  have hb0 := bt_eq (s := s) (k := 0) (by omega)
  have hne : ((bt s 1 : Int) != 58) = false := by simp [h1]
  have hlt0 := bt_lt s 0
  have hn2 : 0 ≤ txN s ∧ txN s ≤ 4 := by simpa [inB] using hn
  have hze : ((s.size : Int) != 2 + (R : Int)) = false := by simp; omega
  have RW := Lib.hid (fun W => l01Rows_is hn2.1 hn2.2 hR W)
  have OF := Lib.hid (fun g cap W => l01Of_any hn2.1 hn2.2 r0 r16 hR g cap (dig (xsTo s R)) (w := W))
  have HBB := Lib.hid hbb
  unfold txN at hn RW OF
  unfold txN
  obtain ⟨W1, hW1⟩ : ∃ W1, w.alloc (.cells #[.int .i64 0, .int .i64 0] 61) = W1 := ⟨_, rfl⟩
  have c0 : W1.cell? ⟨w.heap.size, 0, none⟩ = some (.int .i64 0) := by rw [← hW1]; simp [go_sem]
  have c1 : W1.cell? ⟨w.heap.size, 1, none⟩ = some (.int .i64 0) := by rw [← hW1]; simp [go_sem]
  have f0 : W1.frozen? ⟨w.heap.size, 0, none⟩ = false := by rw [← hW1]; simp [go_sem]
  have f1 : W1.frozen? ⟨w.heap.size, 1, none⟩ = false := by rw [← hW1]; simp [go_sem]
  have hB : Below w.heap.size w W1 := by rw [← hW1]; exact bnew _ _
  have l0 : w.heap.size < W1.heap.size := cell_lt c0
  clear h1 hn2 hbb
  go_enter Try.func174, Try.ntmps174
  go_wp2_with (first
    | (go_at_call 79; refine (l01In_is hn _).mono ?_; rintro e w' ⟨rfl, rfl⟩)
    | (go_at_call 116; refine (RW.out _).mono ?_; rintro e w' ⟨rfl, rfl⟩))
  clear hW1
  go_loopw [5, 6] (fun s' i' wr => ∃ j : Nat, j ≤ R ∧ i' = .int .i64 ((j + 2 : Nat) : Int) ∧ Owns wr W1.heap.size s' (xsTo s j) ∧ Below W1.heap.size W1 wr)
    (fun _ i' _ => R + 2 - (intOf i').toNat)
  case atStart => exact ⟨0, Nat.zero_le _, rfl, World.ownsRow_lit W1 #[] 0 (Nat.le_refl _) (by decide) rfl, bnew _ _⟩
  case round =>
    obtain ⟨j, hj, rfl, hown, hN⟩ := hrel
    have hsz := hN.size
    by_cases hlt : j < R
    · have hjs : j + 2 < s.size := by omega
      have hbj := bt_eq (s := s) (k := j + 2) hjs
      have hbl := bt_lt s (j + 2)
      have HS := Lib.hid (xsTo_succ s j)
      have hlen := xsTo_len s j
      have hown5 : World.ownsRow _ _ _ _ _ _ _ := hown
      go_wp2_with (first
        | (at_builtin; refine wpList_append_own _ rfl _ _ 42 rfl W1.heap.size 2 i0 (.int .i64 0) 1 8 Try.underlying42 hinf hz0 hz1 hz2 rfl (by decide) _ _ _ rfl (hown5.alloc _) ⟨wr.heap.size, 0, none⟩ 1 1 [.int .i64 ((bt s (j + 2) : Int) - 48)] rfl rfl (cell_one_new _ _ _) (one_cell_int _) (by unfold maxLen; omega) (by omega) (by simp; omega) ?_))
      intro v' w1 hown' hgrow _
      have hN' := (balloc hN (.cells #[.int .i64 ((bt s (j + 2) : Int) - 48)] 2)).grown hgrow (by simp; omega) (fun j e => (hown5.lt j e).1)
      clear hgrow hown5 hown hN
      go_wp2
      go_roundw
      case rel => exact ⟨j + 1, by omega, by go_num, by rw [HS.out]; unfold Owns; rw [ints_snoc, List.length_append, xsTo_len]; exact hown', hN'⟩
      case measure => simp [intOf]; omega
    · obtain rfl : j = R := by omega
      have d0 := kc hN c0
      have d1 := kc hN c1
      have g0 := kf hN c0 f0
      have g1 := kf hN c1 f1
      have hB2 := bthen hB hN
      have HO := Lib.hid hown
      have BI := Lib.hid (l01Bits_any (by rw [xsTo_len]; omega) wr hown)
      rcases hown.shape with ⟨e0, _⟩ | ⟨hn0, g, cap, rfl, hbg, hg, hcc, hf⟩
      · have := xsTo_len s j; rw [e0] at this; simp at this; omega
      rw [xsTo_len] at hn0 hcc BI ⊢
      cases b
      · clear hown hcc hf HO
        go_wp2_with (go_at_call 130; refine (BI.out).mono ?_; rintro e w' ⟨he, rfl⟩; rw [HBB.out] at he; subst he)
        exact bodyPost_ret (v := .tuple #[.agg #[.int .i64 0, .int .i64 0], .bool false]) (by simp [results, Try.results174, go_sem, d0, d1]) rfl ⟨rfl, (hB2.setCell (p := ⟨w.heap.size, 0, none⟩) (by simp) _).setCell (p := ⟨w.heap.size, 1, none⟩) (by simp) _⟩
      · have hdi := dig_ok HBB.out
        rw [xsTo_len] at hdi
        have OF2 := Lib.hid (OF.out g cap wr (fun r hr => (hdi r hr).1) hg (Lib.hid fun i hi => by rw [hcc.out i hi, (hdi i hi).2]))
        clear hown hcc hf HO hdi
        go_wp2_with (first
          | (go_at_call 130; refine (BI.out).mono ?_; rintro e w' ⟨he, rfl⟩; rw [HBB.out] at he; subst he)
          | (go_at_call 123; refine OF2.out.mono ?_; rintro e w6 ⟨rfl, hb6⟩; have e0 := kc hb6 d0; have e1 := kc hb6 d1; have j0 := kf hb6 d0 g0; have j1 := kf hb6 d1 g1; have hB6 := bthen hB2 hb6))
        exact bodyPost_ret (v := .tuple #[.agg #[.int .i64 ((bt s 0 : Int) - 48), .int .i64 (sumN (dig (xsTo s j)) j : Int)], .bool true]) (by simp [results, Try.results174, go_sem, e0, e1]) rfl ⟨rfl, (hB6.setCell (p := ⟨w.heap.size, 0, none⟩) (by simp) _).setCell (p := ⟨w.heap.size, 1, none⟩) (by simp) _⟩

/-- The rows that a text tells. -/
def txR (s : ByteArray) : Nat := 2 ^ (txN s).toNat
/-- Whether a text is one of a function. -/
def rdOk (s : ByteArray) : Bool := decide (3 ≤ s.size) && (bt s 1 == 58 && (inB (txN s) 0 4 && (s.size == 2 + txR s && (xsTo s (txR s)).all fun v => inB v 0 1)))
/-- The bits that a text tells. -/
def rdB (s : ByteArray) : Int := (sumN (dig (xsTo s (txR s))) (txR s) : Int)

theorem l01Read_any (s : ByteArray) (hs : s.size ≤ 1048576) (w : World) :
    Calls Try.prog 174 #[.string s] w (ReadPost (rdOk s) (txN s) (rdB s) w) := by
  unfold rdOk
  by_cases h : 3 ≤ s.size
  · by_cases h1 : bt s 1 = 58
    · cases hn : inB (txN s) 0 4
      · simp only [h, h1]
        exact l01Read_arity s hs h h1 hn w
      · have hn2 : 0 ≤ txN s ∧ txN s ≤ 4 := by simpa [inB] using hn
        obtain ⟨R, hR, r0, r16, he⟩ := rowsN_eq hn2.1 hn2.2
        have hT : txR s = R := he.symm
        unfold rdB
        rw [hT]
        by_cases hz : s.size = 2 + R
        · have e : (s.size == 2 + R) = true := by simp [hz]
          simp only [h, h1, e, decide_true, Bool.true_and, beq_self_eq_true]
          exact l01Read_long s hs h h1 hn r0 (Lib.hid hR) r16 hz _ rfl w
        · have e : (s.size == 2 + R) = false := by simp [hz]
          simp only [h, h1, e, decide_true, Bool.true_and, beq_self_eq_true, Bool.false_and]
          exact l01Read_len s hs h h1 hn (Lib.hid hR) r16 hz w
    · have e : (bt s 1 == 58) = false := by simp [h1]
      simp only [h, e, decide_true, Bool.true_and, Bool.false_and]
      exact l01Read_short s hs (.inr ⟨h, h1⟩) w
  · simp only [h, decide_false, Bool.false_and]
    exact l01Read_short s hs (.inl (by omega)) w
end Go.Proofs.Ytcolaggkeekgoab

/- V1:
  strings.Cut at a colon. -/
namespace Go.Proofs.Ytcolaggkeekgoab
open Go.RowKit
set_option linter.unusedVariables false

end Go.Proofs.Ytcolaggkeekgoab

/- H1:
  A list turned into a table of sixteen places. -/
namespace Go.Proofs.Ytcolaggkeekgoab
open Go.RowKit

theorem size1 : (Try.prog.info? 2).map (·.size) = some 1 := by kernel_rfl
theorem size16 : (Try.prog.info? 159).map (·.size) = some 16 := by kernel_rfl
theorem under16 : Try.prog.underlying 159 = some (.array 16 2) := by kernel_rfl

/-- The conversion of a slice that is long enough. -/
theorem wpList_toArray {P : Program} {ops : Array Oper} {rest : List Oper} {o : Oper} {a : Act} {w : World} {Q : Exit → Act → World → Prop} (hgd : o.guard = none) (arr : TypeId) (x : Operand) (ho : o.op = .sliceToArrayPointer arr x)
    (n : Nat) (e : TypeId) (hu : P.underlying arr = some (.array n e)) (ad : Option Addr) (len cap : Nat) (hx : a.eval x = .slice ad len cap) (hn : n ≤ len)
    (h : wpList P ops Q rest (a.put o.dst (.pointer ad)) w) : wpList P ops Q (o :: rest) a w := by
  refine wpList_plain hgd fun K hK => ?_
  unfold Oper.wp
  simp [execOp, ho, hx, run_arrayAt w arr e n ad len cap hu hn, Result.andThen]
  exact hK _ _ h

def zeros16 : List Value := List.replicate 16 (.int .i64 0)

theorem row16 {w : World} {base g : Nat} (h : w.ownsRow base 2 1 (.slice (some ⟨g, 0, none⟩) 16 16) 16 (madeCells (Value.int .i64 0).cells (16 * 1)).toList) : w.heap[g]? = some (.cells zeros16.toArray 2 (0, 0)) := by
  obtain ⟨_, ⟨h0, _⟩ | ⟨g', cap, cur, h1, _, h2, _, _, h3, h4⟩⟩ := h
  · cases h0
  · cases h1
    rw [h2]
    have e : cur.toList.take (16 * 1) = cur.toList := List.take_of_length_le (by simp [h3])
    rw [e] at h4
    have e2 : cur = zeros16.toArray := by
      apply Array.toList_inj.1
      rw [h4]
      kernel_rfl
    rw [e2]

set_option maxRecDepth 100000 in
set_option maxHeartbeats 1000000 in
theorem tableOf_any {g0 cap n : Nat} {xs : List Int} (hn : n ≤ 16) (w : World) (hx : (ints xs).length = n) (hc : Hid (∀ j u, (ints xs)[j]? = some u → w.cell? ((⟨g0, 0, none⟩ : Addr).add j) = some u)) :
    Calls Try.prog 161 #[.slice (some ⟨g0, 0, none⟩) n cap] w fun e w' => e = .returned (.agg ((ints xs) ++ List.replicate (16 - n) (Value.int .i64 0)).toArray) ∧ Below w.heap.size w w' := by
  obtain ⟨i0, hi, hz0, hz1, hzb⟩ := info_parts infoI
  obtain ⟨W1, hW1⟩ : ∃ W1, w.alloc (.cells #[.int .i64 0, .int .i64 0, .int .i64 0, .int .i64 0, .int .i64 0, .int .i64 0, .int .i64 0, .int .i64 0, .int .i64 0, .int .i64 0, .int .i64 0, .int .i64 0, .int .i64 0, .int .i64 0, .int .i64 0, .int .i64 0] 159) = W1 := ⟨_, rfl⟩
  have hs1 : W1.heap.size = w.heap.size + 1 := by rw [← hW1]; simp
  have hz : W1.heap[w.heap.size]? = some (.cells zeros16.toArray 159 (0, 0)) := by rw [← hW1]; exact heap_alloc_new _ _
  have hB1 : Below w.heap.size w W1 := by rw [← hW1]; exact bnew _ _
  have hc1 : Hid (∀ j u, (ints xs)[j]? = some u → W1.cell? ((⟨g0, 0, none⟩ : Addr).add j) = some u) := Lib.hid fun j u h => kc hB1 (hc.out j u h)
  have hlen : (ints xs ++ List.replicate (16 - n) (Value.int .i64 0)).length = 16 := by simp [hx]; omega
  have hint : ∀ v ∈ ints xs, v.oneCell' = true := by
    intro v hv
    obtain ⟨z, _, rfl⟩ := List.mem_map.1 hv
    rfl
  have hmin : (ints xs).length = Nat.min n 16 := by rw [hx]; exact (Nat.min_eq_left hn).symm
  have hfit : 0 + (ints xs).length ≤ zeros16.length := by rw [Nat.zero_add, hx]; exact hn
  have hall : (ints xs ++ List.replicate (16 - n) (Value.int .i64 0)).toArray.all (·.oneCell') = true := by
    rw [List.all_toArray, List.all_append, List.all_eq_true.2 hint, List.all_replicate]
    simp [Value.oneCell']
  have hold : zeros16.toArray.size = (ints xs ++ List.replicate (16 - n) (Value.int .i64 0)).toArray.size := by
    rw [List.size_toArray, List.size_toArray]
    exact (show zeros16.length = 16 from rfl).trans hlen.symm
  have hspl : splice zeros16 0 (ints xs) = ints xs ++ List.replicate (16 - n) (Value.int .i64 0) := by
    unfold splice zeros16
    rw [List.take_zero, List.nil_append, Nat.zero_add, hx, List.drop_replicate]
  go_enter Try.func161, Try.ntmps161
  go_wp2_with (first
    | (at_make; refine wpList_make_full _ rfl _ _ 42 rfl W1.heap.size 2 i0 (.int .i64 0) 1 Try.underlying42 hi hz0 hz1 .i64 .i64 _ _ 16 rfl rfl rfl rfl (by rw [hzb]; decide) (by decide) (Nat.le_refl _) ?_; intro w1 hown1 hgrow1
       rw [hs1] at hown1
       have hg1 := row16 hown1
       have hb1 : Below (w.heap.size + 1) W1 w1 := by rw [← hs1]; exact (Below.refl _ _).grown hgrow1 (Nat.le_refl _) (fun j e => by cases e)
       have hcc : ∀ j u, (ints xs)[j]? = some u → w1.cell? ((⟨g0, 0, none⟩ : Addr).add j) = some u := fun j u h => kc (hs1 ▸ hb1) (hc1.out j u h)
       clear hown1 hgrow1)
    | (refine wpList_copy_splice rfl (.tmp 5) (.tmp 6) 42 42 rfl 2 Try.underlying42 size1 _ _ _ _ _ _ rfl rfl (w.heap.size + 1) 0 zeros16 2 hg1 (ints xs) hmin (fun _ => ⟨rfl, _, rfl, hcc⟩) hfit hint (w.heap.size + 1) W1 hb1 (Nat.le_refl _) ?_; intro w2 hw2 hb2
       rw [hspl] at hw2
       have hz2 : w2.heap[w.heap.size]? = some (.cells zeros16.toArray 159 (0, 0)) := (hb2.block _ (Nat.lt_succ_self _)).trans hz)
    | (refine wpList_toArray rfl 159 (.tmp 8) rfl 16 2 under16 _ 16 16 rfl (Nat.le_refl _) ?_)
    | (refine wpList_load_row rfl 159 (.tmp 9) rfl (w.heap.size + 1) rfl 2 (ints xs ++ List.replicate (16 - n) (Value.int .i64 0)).toArray (0, 0) _ hw2.out under16 rfl (by rw [size16, List.size_toArray, hlen]) ?_)
    | (refine wpList_store_row rfl 159 (.tmp 2) (.tmp 10) rfl w.heap.size (ints xs ++ List.replicate (16 - n) (Value.int .i64 0)).toArray rfl rfl 159 zeros16.toArray hz2 (by rw [size16, List.size_toArray, hlen]) hold hall ?_))
  have hb2' : Below W1.heap.size W1 w2 := by rw [hs1]; exact hb2
  have hb3 : Below w.heap.size w w2 := bthen hB1 hb2'
  refine bodyPost_ret (results_cell_row Try.results161 _ _ w.heap.size 159 (ints xs ++ List.replicate (16 - n) (Value.int .i64 0)).toArray (0, 0) _ rfl (setRow_heap w2 w.heap.size _ _ _ _ hz2) under16 rfl (by rw [size16, List.size_toArray, hlen])) rfl ⟨rfl, below_setRow hb3 (Nat.le_refl _) _⟩
end Go.Proofs.Ytcolaggkeekgoab

/- H2:
  FuncOf in both packages. -/
namespace Go.Proofs.Ytcolaggkeekgoab
open Go.RowKit
set_option linter.unusedVariables false

set_option maxHeartbeats 400000 in
theorem FuncOf1_any (b r : Nat) (x : Int) (hr : r < 16) (w : World) (hc : w.cell? ⟨b, r, none⟩ = some (.int .i64 x)) :
    Calls Try.prog 162 #[.int .i64 (r : Int), .pointer (some ⟨b, 0, none⟩)] w fun e w' => e = .returned (.int .i64 x) ∧ Below w.heap.size w w' := by
  go_enter Try.func162, Try.ntmps162
  go_wp2
  go_ret
  exact ⟨rfl, Below.refl _ _⟩

/-- The box of the answer. -/
theorem ofBox (w : World) : ∃ W1, w.alloc (.cells #[.int .i64 0, .int .i64 0] 61) = W1 ∧ W1.cell? ⟨w.heap.size, 0, none⟩ = some (.int .i64 0) ∧ W1.cell? ⟨w.heap.size, 1, none⟩ = some (.int .i64 0) ∧
    W1.frozen? ⟨w.heap.size, 0, none⟩ = false ∧ W1.frozen? ⟨w.heap.size, 1, none⟩ = false ∧ Below w.heap.size w W1 ∧ W1.heap.size = w.heap.size + 1 :=
  ⟨_, rfl, by simp [go_sem], by simp [go_sem], by simp [go_sem], by simp [go_sem], bnew _ _, by simp⟩

set_option maxRecDepth 100000 in
set_option maxHeartbeats 1000000 in
theorem implFuncOf_no {base : Nat} {s : Value} {xs : List Int} (hl : xs.length ≤ 1048576) {n : Int} (h1 : inB n 0 4 = false) (w : World) (ho : Owns w base s xs) :
    Calls Try.prog 107 #[.int .i64 n, s] w fun e w' => e = .returned (.tuple #[.agg #[.int .i64 0, .int .i64 0], .int .i64 2]) ∧ Below w.heap.size w w' := by
  obtain ⟨a, cap, rfl⟩ := ho.slice
  obtain ⟨W1, hW1, p0, p1, f0, f1, hB, hs1⟩ := ofBox w
  have O1 := Lib.hid (ho.below hB)
  have hL := Lib.hid (rfl : xs.length = xs.length)
  go_enter Try.func107, Try.ntmps107
  go_wp2_with (first
    | (go_at_call 108; refine (isArity_is h1 _).mono ?_; rintro e w' ⟨rfl, rfl⟩))
  exact bodyPost_ret (v := .tuple #[.agg #[.int .i64 0, .int .i64 0], .int .i64 2]) (by simp [results, Try.results107, go_sem, p0, p1]) rfl ⟨rfl, (hB.setCell (p := ⟨w.heap.size, 0, none⟩) (by simp) _).setCell (p := ⟨w.heap.size, 1, none⟩) (by simp) _⟩

set_option maxRecDepth 100000 in
set_option maxHeartbeats 1000000 in
theorem implFuncOf_len {base : Nat} {s : Value} {xs : List Int} (hl : xs.length ≤ 1048576) {n : Int} {R : Nat} (h0 : 0 ≤ n) (h4 : n ≤ 4) (h1 : inB n 0 4 = true) (r0 : 0 < R) (r16 : R ≤ 16) (hR : Hid (rowsN n = (R : Int))) (hne : ((xs.length : Int) != (R : Int)) = true) (w : World) (ho : Owns w base s xs) :
    Calls Try.prog 107 #[.int .i64 n, s] w fun e w' => e = .returned (.tuple #[.agg #[.int .i64 0, .int .i64 0], .int .i64 2]) ∧ Below w.heap.size w w' := by
  obtain ⟨a, cap, rfl⟩ := ho.slice
  obtain ⟨W1, hW1, p0, p1, f0, f1, hB, hs1⟩ := ofBox w
  have O1 := Lib.hid (ho.below hB)
  have hL := Lib.hid (rfl : xs.length = xs.length)
  go_enter Try.func107, Try.ntmps107
  go_wp2_with (first
    | (go_at_call 108; refine (isArity_is h1 _).mono ?_; rintro e w' ⟨rfl, rfl⟩)
    | (go_at_call 109; refine (rowCount_is h0 h4 hR _).mono ?_; rintro e w' ⟨rfl, rfl⟩))
  exact bodyPost_ret (v := .tuple #[.agg #[.int .i64 0, .int .i64 0], .int .i64 2]) (by simp [results, Try.results107, go_sem, p0, p1]) rfl ⟨rfl, (hB.setCell (p := ⟨w.heap.size, 0, none⟩) (by simp) _).setCell (p := ⟨w.heap.size, 1, none⟩) (by simp) _⟩

set_option maxRecDepth 100000 in
set_option maxHeartbeats 1000000 in
theorem implFuncOf_dig {base : Nat} {s : Value} {xs : List Int} (hl : xs.length ≤ 1048576) {n : Int} {R : Nat} (h0 : 0 ≤ n) (h4 : n ≤ 4) (h1 : inB n 0 4 = true) (r0 : 0 < R) (r16 : R ≤ 16) (hR : Hid (rowsN n = (R : Int))) (hne : ((xs.length : Int) != (R : Int)) = false) (hd : (xs.all fun v => inB v 0 1) = false) (w : World) (ho : Owns w base s xs) :
    Calls Try.prog 107 #[.int .i64 n, s] w fun e w' => e = .returned (.tuple #[.agg #[.int .i64 0, .int .i64 0], .int .i64 2]) ∧ Below w.heap.size w w' := by
  obtain ⟨a, cap, rfl⟩ := ho.slice
  obtain ⟨W1, hW1, p0, p1, f0, f1, hB, hs1⟩ := ofBox w
  have O1 := Lib.hid (ho.below hB)
  have hL := Lib.hid (rfl : xs.length = xs.length)
  go_enter Try.func107, Try.ntmps107
  go_wp2_with (first
    | (go_at_call 108; refine (isArity_is h1 _).mono ?_; rintro e w' ⟨rfl, rfl⟩)
    | (go_at_call 109; refine (rowCount_is h0 h4 hR _).mono ?_; rintro e w' ⟨rfl, rfl⟩)
    | (go_at_call 160; refine (areDigits_any hl _ O1.out).mono ?_; rintro e w' ⟨rfl, rfl⟩))
  exact bodyPost_ret (v := .tuple #[.agg #[.int .i64 0, .int .i64 0], .int .i64 2]) (by simp [results, Try.results107, go_sem, p0, p1]) rfl ⟨rfl, (hB.setCell (p := ⟨w.heap.size, 0, none⟩) (by simp) _).setCell (p := ⟨w.heap.size, 1, none⟩) (by simp) _⟩

end Go.Proofs.Ytcolaggkeekgoab

/- H3:
  FuncOf in both packages, at lists of digits. -/
namespace Go.Proofs.Ytcolaggkeekgoab
open Go.RowKit
set_option linter.unusedVariables false

theorem digs_get {xs : List Int} (hd : (xs.all fun v => inB v 0 1) = true) (ys : List Value) (r : Nat) (hr : r < xs.length) : (ints xs ++ ys)[r]? = some (.int .i64 (dig xs r : Int)) := by
  have h := (dig_ok hd r hr).2
  rw [List.getElem?_eq_getElem hr] at h
  rw [List.getElem?_append_left (by simpa [ints] using hr)]
  simp [ints, hr]
  simpa using h

/-- The box of the table, and what stands in it when it is stored. -/
theorem tableBox (w : World) (cells : List Value) (hl : cells.length = 16) (h1 : cells.toArray.all (·.oneCell') = true) :
    ∃ W4, w.alloc (.cells #[.int .i64 0, .int .i64 0, .int .i64 0, .int .i64 0, .int .i64 0, .int .i64 0, .int .i64 0, .int .i64 0, .int .i64 0, .int .i64 0, .int .i64 0, .int .i64 0, .int .i64 0, .int .i64 0, .int .i64 0, .int .i64 0] 159) = W4 ∧ Below w.heap.size w W4 ∧ W4.heap[w.heap.size]? = some (.cells zeros16.toArray 159 (0, 0)) ∧ W4.heap.size = w.heap.size + 1 :=
  ⟨_, rfl, bnew _ _, heap_alloc_new _ _, by simp⟩

theorem tableStored {w W4 : World} (cells : List Value) (hb : Below w.heap.size w W4) (hg : W4.heap[w.heap.size]? = some (.cells zeros16.toArray 159 (0, 0))) :
    ∃ W5, W4.setRow w.heap.size cells.toArray = W5 ∧ Below w.heap.size w W5 ∧ ∀ r v, cells[r]? = some v → W5.cell? ⟨w.heap.size, r, none⟩ = some v := by
  refine ⟨_, rfl, below_setRow hb (Nat.le_refl _) _, fun r v h => ?_⟩
  have hs := setRow_heap W4 w.heap.size _ cells.toArray _ _ hg
  simp [World.cell?, hs, h]

set_option maxRecDepth 100000 in
set_option maxHeartbeats 2000000 in
theorem implFuncOf_yes {base : Nat} {s : Value} {xs : List Int} {n : Int} {R : Nat} (h0 : 0 ≤ n) (h4 : n ≤ 4) (h1 : inB n 0 4 = true) (r0 : 0 < R) (r16 : R ≤ 16) (hR : Hid (rowsN n = (R : Int)))
    (hx : xs.length = R) (hd : (xs.all fun v => inB v 0 1) = true) (w : World) (ho : Owns w base s xs) :
    Calls Try.prog 107 #[.int .i64 n, s] w fun e w' => e = .returned (.tuple #[.agg #[.int .i64 n, .int .i64 (sumN (dig xs) R : Int)], .int .i64 0]) ∧ Below w.heap.size w w' := by
  have hdi := Lib.hid (dig_ok hd)
  rcases ho.shape with ⟨rfl, _⟩ | ⟨hn, g, cap, rfl, hbg, hg, hcc, hf⟩
  · simp at hx; omega
  subst hx
  have hne : ((xs.length : Int) != (xs.length : Int)) = false := by simp
  have hcell : Hid (∀ j u, (ints xs)[j]? = some u → w.cell? ((⟨g, 0, none⟩ : Addr).add j) = some u) := Lib.hid fun j u h => by
    have hj : j < xs.length := by
      have := (List.getElem?_eq_some_iff.1 h).1
      simpa [ints] using this
    have e : Addr.add ⟨g, 0, none⟩ j = ⟨g, j, none⟩ := by cases j <;> simp [Addr.add]
    rw [e, hcc.out j hj, ← h, List.getElem?_eq_getElem (by simpa [ints] using hj)]
    simp [ints, hj]
  have hlen16 : (ints xs ++ List.replicate (16 - xs.length) (Value.int .i64 0)).length = 16 := by simp [ints]; omega
  have hall : (ints xs ++ List.replicate (16 - xs.length) (Value.int .i64 0)).toArray.all (·.oneCell') = true := by
    rw [List.all_toArray, List.all_append, List.all_replicate]
    simp [Value.oneCell', ints]
  have hold : zeros16.toArray.size = (ints xs ++ List.replicate (16 - xs.length) (Value.int .i64 0)).toArray.size := by
    rw [List.size_toArray, List.size_toArray]
    exact (show zeros16.length = 16 from rfl).trans hlen16.symm
  have hsz : (Try.prog.info? 159).map (·.size) = some (ints xs ++ List.replicate (16 - xs.length) (Value.int .i64 0)).toArray.size := by rw [size16, List.size_toArray, hlen16]
  have hget := Lib.hid (digs_get hd (List.replicate (16 - xs.length) (Value.int .i64 0)))
  generalize hcs : ints xs ++ List.replicate (16 - xs.length) (Value.int .i64 0) = cs at hlen16 hall hold hsz hget
  have hT : Hid (∀ w0 : World, Below w.heap.size w w0 → Calls Try.prog 161 #[.slice (some ⟨g, 0, none⟩) xs.length cap] w0 fun e w' => e = .returned (.agg cs.toArray) ∧ Below w0.heap.size w0 w') :=
    Lib.hid fun w0 hw0 => hcs ▸ tableOf_any (xs := xs) r16 w0 (by simp [ints]) (Lib.hid fun j u h => kc hw0 (hcell.out j u h))
  clear hcs hcell hcc hf hg
  obtain ⟨W1, hW1, p0, p1, f0, f1, hB, hs1⟩ := ofBox w
  have O1 := Lib.hid (ho.below hB)
  have HD := Lib.hid hd
  clear hd ho
  have hL := Lib.hid (rfl : xs.length = xs.length)
  go_enter Try.func107, Try.ntmps107
  go_wp2_with (first
    | (go_at_call 108; refine (isArity_is h1 _).mono ?_; rintro e w' ⟨rfl, rfl⟩)
    | (go_at_call 109; refine (rowCount_is h0 h4 hR _).mono ?_; rintro e w' ⟨rfl, rfl⟩)
    | (go_at_call 160; refine (areDigits_any (by omega) _ O1.out).mono ?_; rintro e w' ⟨he, rfl⟩; rw [HD.out] at he; subst he)
    | (go_at_call 161; refine (hT.out _ hB).mono ?_; rintro e w3 ⟨rfl, hb3⟩
       have q0 := kc hb3 p0
       have q1 := kc hb3 p1
       have k0 := kf hb3 p0 f0
       have k1 := kf hb3 p1 f1
       have hB3 := bthen hB hb3
       obtain ⟨W4, hW4, hb4, hg4, hs4⟩ := tableBox w3 cs hlen16 hall
       obtain ⟨W5, hW5, hb5, hc5⟩ := tableStored cs hb4 hg4
       have HC5 := Lib.hid hc5
       have q50 := kc hb5 q0
       have q51 := kc hb5 q1
       have k50 := kf hb5 q0 k0
       have k51 := kf hb5 q1 k1
       have hB5 := bthen hB3 hb5
       clear hc5 p0 p1 f0 f1)
    | (refine wpList_store_row rfl 159 (.tmp 6) (.tmp 24) rfl w3.heap.size cs.toArray rfl rfl 159 zeros16.toArray hg4 hsz hold hall ?_; rw [hW5])
    | (go_at_call 119
       have F := Lib.hid (funcByRows_any n h0 h4 xs.length r0 r16 hR 162 #[.pointer (some ⟨w3.heap.size, 0, none⟩)] (enters_of Try.func162 (by kernel_rfl) rfl)
         (dig xs) (fun r hr => (hdi.out r hr).1) W5 (Lib.hid fun W hW r hr => FuncOf1_any w3.heap.size r (dig xs r : Int) (by omega) W (kc hW (HC5.out r _ (hget.out r hr)))))
       rw [orBits_sum r0 _ (fun r hr => (hdi.out r hr).1)] at F
       refine F.out.mono ?_; rintro e w6 ⟨rfl, hb6⟩
       have e0 := kc hb6 q50
       have e1 := kc hb6 q51
       have j0 := kf hb6 q50 k50
       have j1 := kf hb6 q51 k51
       have hB6 := bthen hB5 hb6))
  exact bodyPost_ret (v := .tuple #[.agg #[.int .i64 n, .int .i64 (sumN (dig xs) xs.length : Int)], .int .i64 0]) (by simp [results, Try.results107, go_sem, e0, e1]) rfl ⟨rfl, (hB6.setCell (p := ⟨w.heap.size, 0, none⟩) (by simp) _).setCell (p := ⟨w.heap.size, 1, none⟩) (by simp) _⟩

end Go.Proofs.Ytcolaggkeekgoab

/- V2:
  ParseFunc in the program. -/
namespace Go.Proofs.Ytcolaggkeekgoab
open Go.RowKit
set_option linter.unusedVariables false
set_option linter.unusedSimpArgs false

/-- FuncOf, its answer in one form. -/
theorem implFuncOf_bool {xs : List Int} (hl : xs.length ≤ 1048576) (n : Int) {ok : Bool} (hok : (inB n 0 4 && (xs.length == 2 ^ n.toNat && xs.all fun v => inB v 0 1)) = ok) (base : Nat) (s : Value) (w : World) (ho : Owns w base s xs) :
    Calls Try.prog 107 #[.int .i64 n, s] w fun e w' => e = .returned (.tuple #[.agg #[.int .i64 (if ok then n else 0), .int .i64 (if ok then (sumN (dig xs) xs.length : Int) else 0)], .int .i64 (if ok then 0 else 2)]) ∧ Below w.heap.size w w' := by
  subst hok
  cases h1 : inB n 0 4
  · exact implFuncOf_no hl h1 w ho
  · have hn2 : 0 ≤ n ∧ n ≤ 4 := by simpa [inB] using h1
    obtain ⟨R, hR, r0, r16, he⟩ := rowsN_eq hn2.1 hn2.2
    rw [← he]
    by_cases hx : xs.length = R
    · have e : (xs.length == R) = true := by simp [hx]
      cases hd : (xs.all fun v => inB v 0 1)
      · rw [e]
        exact implFuncOf_dig hl hn2.1 hn2.2 h1 r0 r16 (Lib.hid hR) (by simp [hx]) hd w ho
      · rw [e]
        have := implFuncOf_yes hn2.1 hn2.2 h1 r0 r16 (Lib.hid hR) hx hd w ho
        rw [← hx] at this
        exact this
    · have e : (xs.length == R) = false := by simp [hx]
      rw [e]
      exact implFuncOf_len hl hn2.1 hn2.2 h1 r0 r16 (Lib.hid hR) (by simp; omega) w ho

/-- The values of the bytes of a text. -/
def tv (T : ByteArray) (j : Nat) : List Int := (List.range j).map fun r => (bt T r : Int) - 48
theorem tv_len (T : ByteArray) (j : Nat) : (tv T j).length = j := by simp [tv]
theorem tv_get (T : ByteArray) (L i : Nat) (h : i < L) : (tv T L)[i]?.getD 0 = (bt T i : Int) - 48 := by simp [tv, h]

/-- The answer to a text. -/
def ParsePost (ok : Bool) (n b : Int) (w : World) (e : Ending) (w' : World) : Prop := e = .returned (.tuple #[.agg #[.int .i64 (if ok then n else 0), .int .i64 (if ok then b else 0)], .int .i64 (if ok then 0 else 6)]) ∧ Below w.heap.size w w'

end Go.Proofs.Ytcolaggkeekgoab

/- V3:
  ParseFunc in both packages, whatever text comes in. -/
namespace Go.Proofs.Ytcolaggkeekgoab
open Go.RowKit
set_option linter.unusedVariables false
set_option linter.unusedSimpArgs false

theorem bt58 {s : ByteArray} {k : Nat} (h : k < s.size) : s.data.toList[k]? = some 58 ↔ bt s k = 58 := by
  have h' : k < s.data.size := h
  have e : s.data.toList[k]? = some s[k] := by
    rw [Array.getElem?_toList, Array.getElem?_eq_getElem h']
    rfl
  rw [e]
  simp only [bt, h, dif_pos, Option.some.injEq]
  constructor
  · intro h1; rw [h1]; rfl
  · intro h1; exact UInt8.toNat_inj.1 h1

theorem bt_extract (s : ByteArray) (a b k : Nat) (hb : b ≤ s.size) (hk : a + k < b) : bt (s.extract a b) k = bt s (a + k) := by
  have h1 : k < (s.extract a b).size := by rw [ByteArray.size_extract]; omega
  have h2 : a + k < s.size := by omega
  simp only [bt, h1, h2, dif_pos]
  rw [ByteArray.getElem_extract]

end Go.Proofs.Ytcolaggkeekgoab

/- V4:
  ParseFunc: both packages. -/
namespace Go.Proofs.Ytcolaggkeekgoab
open Go.RowKit
set_option linter.unusedVariables false
set_option linter.unusedSimpArgs false

end Go.Proofs.Ytcolaggkeekgoab

/- W1:
  The names of functions in the program. -/
namespace Go.Proofs.Ytcolaggkeekgoab
open Go.RowKit
open Go.Maps (Keyed IsMap)
set_option linter.unusedVariables false
set_option linter.unusedSimpArgs false

/-- The names, and what they name. -/
def nmL : List (List UInt8 × Int × Int) := [([122, 101, 114, 111], 0, 0), ([111, 110, 101], 0, 1), ([105, 100], 1, 2), ([110, 111, 116], 1, 1), ([97, 110, 100], 2, 8), ([111, 114], 2, 14), ([120, 111, 114], 2, 6), ([110, 97, 110, 100], 2, 7), ([110, 111, 114], 2, 1), ([101, 113, 117, 97, 108], 2, 9), ([105, 109, 112, 108, 121], 2, 13), ([109, 97, 106, 111, 114, 105, 116, 121], 3, 232), ([109, 105, 110, 111, 114, 105, 116, 121], 3, 150), ([105, 102], 3, 216)]

abbrev DV := DataW Unit
/-- How a function that lies in a map reads: any way that tells functions apart. -/
def fnD (n x : Int) : DV := .map [(.int .i64 n, .lit (.int .i64 x))]
def rdFn (v : Value) : Option (DV × List MemPlace) :=
  match v with
  | .agg cs => match cs.toList with
    | [.int .i64 n, .int .i64 x] => some (fnD n x, [])
    | _ => none
  | _ => none
theorem rdFn_inv {v : Value} {n x : Int} {ps : List MemPlace} (h : rdFn v = some (fnD n x, ps)) : v = .agg #[.int .i64 n, .int .i64 x] := by
  unfold rdFn at h
  split at h
  · rename_i cs
    split at h
    · rename_i n' x' he
      simp [fnD] at h
      obtain ⟨⟨rfl, rfl⟩, _⟩ := h
      rw [show cs = cs.toList.toArray by simp, he]
    · cases h
  · cases h

/-- Entries put into a map, one after the other. -/
def putNm (D : DV) (l : List (List UInt8 × Int × Int)) : DV := l.foldl (fun D e => D.put (.string e.1) (fnD e.2.1 e.2.2)) D
theorem putNm_isMap {D : DV} (h : IsMap D) (l : List (List UInt8 × Int × Int)) : IsMap (putNm D l) := by
  induction l generalizing D with
  | nil => exact h
  | cons e l ih => exact ih (h.put _ _)
theorem has_putNm {D : DV} (h : IsMap D) (l : List (List UInt8 × Int × Int)) (q : List UInt8) : Maps.has (putNm D l) (.string q) = (l.any (fun e => e.1 == q) || Maps.has D (.string q)) := by
  induction l generalizing D with
  | nil => rfl
  | cons e l ih =>
    show Maps.has (putNm (D.put (.string e.1) (fnD e.2.1 e.2.2)) l) (.string q) = _
    rw [ih (h.put _ _), List.any_cons]
    by_cases he : e.1 = q
    · subst he
      rw [Maps.has_put_same h (show WideAt.IsKeyLit (Lit.string e.1) from trivial)]
      simp
    · rw [Maps.has_put_other (fun c => he (by cases c; rfl)), show (e.1 == q) = false by simp [he], Bool.false_or]
theorem at_putNm {D : DV} (h : IsMap D) (l : List (List UInt8 × Int × Int)) (hd : l.Pairwise fun a b => a.1 ≠ b.1) (q : List UInt8) (z : DV) :
    (putNm D l).atKey (.string q) z = match l.find? (fun e => e.1 == q) with | some e => fnD e.2.1 e.2.2 | none => D.atKey (.string q) z := by
  induction l generalizing D with
  | nil => rfl
  | cons e l ih =>
    obtain ⟨h1, h2⟩ := List.pairwise_cons.1 hd
    show (putNm (D.put (.string e.1) (fnD e.2.1 e.2.2)) l).atKey (.string q) z = _
    rw [ih (h.put _ _) h2, List.find?_cons]
    by_cases he : e.1 = q
    · subst he
      rw [List.find?_eq_none.2 (fun b hb => by simpa using (h1 b hb).symm), show (e.1 == e.1) = true by simp]
      exact Maps.atKey_put_same h (show WideAt.IsKeyLit (Lit.string e.1) from trivial) _ _
    · rw [show (e.1 == q) = false by simp [he], Maps.atKey_put_other (fun c => he (by cases c; rfl))]

theorem lawS : Keyed Try.prog 9 := Maps.string_keyed Try.underlying9

section
variable {H : Type} {P : Program} (w : World) {ops : Array Oper} {rest : List Oper} {o : Oper} {a : Act} {Q : Exit → Act → World → Prop}
/-- An entry of a map that is laid out. -/
theorem wpList_insert_own (hg : o.guard = none) (m x v : Operand) (t : TypeId) (hop : o.op = Op.insert t m x v)
    (k e : TypeId) (K : Keyed P k) (ht : P.underlying t = some (.map k e)) (R : Value → Option (DataW H × List MemPlace)) (b n : Nat) (D : DataW H)
    (hm : a.eval m = .map (some b)) (hown : w.ownsMap P k R b n D) (hn : n < maxLen) (key val : Value) (kl : Lit) (hx : a.eval x = key) (hv : a.eval v = val) (hkey : keyOf P k key = some kl)
    (d : DataW H) (ps : List MemPlace) (hval : R val = some (d, ps))
    (hK : ∀ w', w'.ownsMap P k R b (n + 1) (D.put kl d) → w.grownBy w' (some b) → wpList P ops Q rest (a.put o.dst undef) w') :
    wpList P ops Q (o :: rest) a w := by
  refine wpList_plain hg fun K' hK' => ?_
  obtain ⟨w', hrun, r1, r2⟩ := hown.update K ht hn hkey hval
  unfold Oper.wp
  simp [execOp, hop, hm, hx, hv, hrun, Result.andThen]
  exact hK' _ _ (hK w' r1 r2)
end

end Go.Proofs.Ytcolaggkeekgoab

/- W2:
  NamedFunc in the program. -/
namespace Go.Proofs.Ytcolaggkeekgoab
open Go.RowKit
open Go.Maps (Keyed IsMap)
set_option linter.unusedVariables false
set_option linter.unusedSimpArgs false

theorem zeroFn (w : World) : (zeroValue 61).run Try.prog w = .ok (.agg #[.int .i64 0, .int .i64 0]) w := by kernel_rfl
theorem nmL_apart : nmL.Pairwise fun a b => a.1 ≠ b.1 := by decide

def NamedPost (n x c : Int) (w : World) (e : Ending) (w' : World) : Prop := e = .returned (.tuple #[.agg #[.int .i64 n, .int .i64 x], .int .i64 c]) ∧ Below w.heap.size w w'

end Go.Proofs.Ytcolaggkeekgoab

/- W3:
  NamedFunc in the model. -/
namespace Go.Proofs.Ytcolaggkeekgoab
open Go.RowKit
set_option linter.unusedVariables false
set_option linter.unusedSimpArgs false

/-- The texts of the functions that have names. -/
def txL : List (List UInt8) := [[48, 58, 48], [48, 58, 49], [49, 58, 48, 49], [49, 58, 49, 48], [50, 58, 48, 48, 48, 49], [50, 58, 48, 49, 49, 49], [50, 58, 48, 49, 49, 48], [50, 58, 49, 49, 49, 48], [50, 58, 49, 48, 48, 48], [50, 58, 49, 48, 48, 49], [50, 58, 49, 48, 49, 49], [51, 58, 48, 48, 48, 49, 48, 49, 49, 49], [51, 58, 48, 49, 49, 48, 49, 48, 48, 49], [51, 58, 48, 48, 48, 49, 49, 48, 49, 49]]
def nmK (i : Nat) : List UInt8 := (nmL[i]?.map (·.1)).getD []
def nmAt (i : Nat) : ByteArray := ⟨(nmK i).toArray⟩
def txAt (i : Nat) : ByteArray := ⟨((txL[i]?).getD []).toArray⟩
theorem cell_newB (w : World) (cs : Array Value) (t : TypeId) (i : Nat) : (w.alloc (.cells cs t)).cell? ⟨w.heap.size, i, none⟩ = cs[i]? := by simp [go_sem]
theorem nmAt_cmp (i : Nat) (s : ByteArray) : ((nmAt i).toList == s.toList) = (nmK i == s.data.toList) := by
  rw [Lib.toList_data, Lib.toList_data]
  rfl
theorem cells_of_list {l : List ByteArray} {i : Nat} (h : i < l.length) : ((l.map Value.string).toArray)[i]? = some (.string l[i]) := by simp [h]

set_option maxRecDepth 100000 in
set_option maxHeartbeats 1000000 in
theorem l01Known_any (w : World) :
    Calls Try.prog 173 #[] w fun e w' => e = .returned (.slice (some ⟨w.heap.size, 0, none⟩) 14 14) ∧ Hid (∀ i, i < 14 → w'.cell? ⟨w.heap.size, i, none⟩ = some (.string (txAt i))) ∧ Below w.heap.size w w' := by
  go_enter Try.func173, Try.ntmps173
  go_wp2
  go_ret
  refine ⟨rfl, Lib.hid fun i hi => ?_, bnew _ _⟩
  rw [cell_newB]
  match i, hi with
  | 0, _ | 1, _ | 2, _ | 3, _ | 4, _ | 5, _ | 6, _ | 7, _ | 8, _ | 9, _ | 10, _ | 11, _ | 12, _ | 13, _ => rfl

theorem txAt_size (i : Nat) : (txAt i).size ≤ 1048576 := by
  match i with
  | 0 | 1 | 2 | 3 | 4 | 5 | 6 | 7 | 8 | 9 | 10 | 11 | 12 | 13 => decide +kernel
  | n + 14 => exact Nat.zero_le _
/-- What is read of the texts. -/
theorem txAt_read (i : Nat) (h : i < 14) : rdOk (txAt i) = true ∧ txN (txAt i) = (nmL[i]?.map (·.2.1)).getD 0 ∧ rdB (txAt i) = (nmL[i]?.map (·.2.2)).getD 0 := by
  match i, h with
  | 0, _ | 1, _ | 2, _ | 3, _ | 4, _ | 5, _ | 6, _ | 7, _ | 8, _ | 9, _ | 10, _ | 11, _ | 12, _ | 13, _ => decide +kernel

end Go.Proofs.Ytcolaggkeekgoab
