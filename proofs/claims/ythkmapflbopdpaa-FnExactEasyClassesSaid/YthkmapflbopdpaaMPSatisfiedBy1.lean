/-
  The texts SB1, SB2, SB3, FSatisfiedBy in one.
-/
import Derived.Test.YthkmapflbopdpaaMPEasyRow5
import Derived.Deep.RegionHeld3
import Derived.Deep.DeepCutAuto
import Derived.Deep.Cut

/- SB1:
  Assignments of up to eight variables; whether an assignment satisfies a clause, in both packages. -/
namespace Go.Proofs.Ythkmapflbopdpaa
open Go.RowKit
set_option linter.unusedVariables false
set_option linter.unusedSimpArgs false

/-- R is the number of the assignments of m variables. -/
structure M8 (m : Int) (R : Nat) : Prop where
  h0 : 0 ≤ m
  h8 : m ≤ 8
  he : R = 2 ^ m.toNat
theorem M8.pos {m : Int} {R : Nat} (h : M8 m R) : 0 < R ∧ R ≤ 256 := by
  have h8 : m.toNat ≤ 8 := by have := h.h8; omega
  have := Nat.pow_le_pow_right (show 0 < 2 by decide) h8
  rw [h.he]
  exact ⟨Nat.two_pow_pos _, this⟩
theorem nine {n : Int} (h0 : 0 ≤ n) (h8 : n ≤ 8) : n = 0 ∨ n = 1 ∨ n = 2 ∨ n = 3 ∨ n = 4 ∨ n = 5 ∨ n = 6 ∨ n = 7 ∨ n = 8 := by omega

set_option maxHeartbeats 2000000 in
theorem l01Rows_8 {m : Int} {R : Nat} (h : M8 m R) (w : World) :
    Calls Try.prog 77 #[.int .i64 m] w fun e w' => e = .returned (.int .i64 (R : Int)) ∧ w = w' := by
  obtain ⟨h0, h8, rfl⟩ := h
  rcases nine h0 h8 with rfl | rfl | rfl | rfl | rfl | rfl | rfl | rfl | rfl <;>
  · go_enter Try.func77, Try.ntmps77
    go_wp2
    go_ret
    exact ⟨rfl, rfl⟩
set_option maxHeartbeats 2000000 in
theorem rowCount_8 {m : Int} {R : Nat} (h : M8 m R) (w : World) :
    Calls Try.prog 140 #[.int .i64 m] w fun e w' => e = .returned (.int .i64 (R : Int)) ∧ w = w' := by
  obtain ⟨h0, h8, rfl⟩ := h
  rcases nine h0 h8 with rfl | rfl | rfl | rfl | rfl | rfl | rfl | rfl | rfl <;>
  · go_enter Try.func140, Try.ntmps140
    go_wp2
    go_ret
    exact ⟨rfl, rfl⟩
set_option maxHeartbeats 2000000 in
theorem lastRow_8 {m : Int} {R : Nat} (h : M8 m R) (w : World) :
    Calls Try.prog 116 #[.int .i64 m] w fun e w' => e = .returned (.int .i64 ((R : Int) - 1)) ∧ w = w' := by
  have hp := h.pos
  go_enter Try.func116, Try.ntmps116
  go_wp2_with (go_at_call 140; refine (rowCount_8 h _).mono ?_; rintro e w' ⟨rfl, rfl⟩)
  go_ret
  exact ⟨rfl, rfl⟩

set_option maxHeartbeats 2000000 in
theorem isRow_8 {m : Int} {R : Nat} (h : M8 m R) {v : Int} {b : Bool} (hb : inB v 0 ((R : Int) - 1) = b) (w : World) :
    Calls Try.prog 80 #[.int .i64 m, .int .i64 v] w fun e w' => e = .returned (.bool b) ∧ w = w' := by
  subst hb
  have hp := h.pos
  by_cases h1 : 0 ≤ v
  · by_cases h2 : v ≤ (R : Int) - 1
    · rw [inB_true h1 h2]
      have d1 : decide (0 ≤ v) = true := by simpa using h1
      have d2 : decide (v ≤ (R : Int) - 1) = true := by simpa using h2
      go_enter Try.func80, Try.ntmps80
      go_wp2_with (go_at_call 116; refine (lastRow_8 h _).mono ?_; rintro e w' ⟨rfl, rfl⟩)
      go_ret
      exact ⟨rfl, rfl⟩
    · rw [inB_false (by omega)]
      have d1 : decide (0 ≤ v) = true := by simpa using h1
      have d2 : decide (v ≤ (R : Int) - 1) = false := by simpa using h2
      go_enter Try.func80, Try.ntmps80
      go_wp2_with (go_at_call 116; refine (lastRow_8 h _).mono ?_; rintro e w' ⟨rfl, rfl⟩)
      go_ret
      exact ⟨rfl, rfl⟩
  · rw [inB_false (by omega)]
    have d1 : decide (0 ≤ v) = false := by simpa using h1
    go_enter Try.func80, Try.ntmps80
    go_wp2_with (go_at_call 116; refine (lastRow_8 h _).mono ?_; rintro e w' ⟨rfl, rfl⟩)
    go_ret
    exact ⟨rfl, rfl⟩

/-- The tuple of an assignment, its first k digits. -/
def tupA (a : Nat) (vs : List Int) (k : Nat) : Nat := sumN (fun j => bitN a (vget vs j).toNat) k
/-- An assignment satisfies a clause. -/
def satB (a : Nat) (c : Cl) : Bool := bitN c.t.toNat (tupA a c.vs c.vs.length) == 1
/-- What is known of a clause over at most eight variables. -/
structure COk (m : Int) (pp : Int) (y R : Nat) (vs : List Int) : Prop where
  rel : ROk pp y R
  len : (vs.length : Int) = pp
  var : ∀ j, j < vs.length → 0 ≤ vget vs j ∧ vget vs j ≤ m - 1
theorem cok {m : Int} {c : Cl} (h : clB m c = true) : ∃ y R : Nat, c.t = (y : Int) ∧ COk m c.p y R c.vs := by
  obtain ⟨h1, h2, h3⟩ := clB_parts h
  obtain ⟨y, R, e, ok⟩ := rok h1
  exact ⟨y, R, e, ok, h2, h3⟩
theorem COk.four {m pp : Int} {y R : Nat} {vs : List Int} (h : COk m pp y R vs) : vs.length ≤ 4 ∧ 2 ^ vs.length = R := by
  have h1 := h.rel.h4
  have h2 := h.len
  refine ⟨by omega, ?_⟩
  rw [h.rel.he, ← h2]
  simp
theorem tupA_lt {a : Nat} {vs : List Int} (k : Nat) : tupA a vs k < 2 ^ k := sumN_lt _ _ fun r _ => bitN_le _ _

set_option maxRecDepth 100000 in
set_option maxHeartbeats 2000000 in
theorem sat1_any {a : Nat} (ha : a < 256) {vs : List Int} {g L cap ba bc j : Nat} (hj : j < L) (h0 : 0 ≤ vget vs j) (h8 : vget vs j ≤ 7) (w : World) (c0 : w.cell? ⟨ba, 0, none⟩ = some (.int .i64 (a : Int))) (c1 : w.cell? ⟨bc, 2, none⟩ = some (.slice (some ⟨g, 0, none⟩) L cap))
    (c2 : w.cell? ⟨g, j, none⟩ = some (.int .i64 (vget vs j))) :
    Calls Try.prog 118 (#[.int .i64 (j : Int)] ++ #[.pointer (some ⟨ba, 0, none⟩), .pointer (some ⟨bc, 0, none⟩)]) w fun e w' => e = .returned (.int .i64 (bitN a (vget vs j).toNat : Int)) ∧ Below w.heap.size w w' := by
  obtain ⟨v, hv⟩ := Int.eq_ofNat_of_zero_le h0
  rw [hv] at c2 h8 ⊢
  rw [Int.toNat_natCast]
  have DG := Lib.hid (fun V => digitOf_any a v (by omega) (by omega) V)
  have j0 : (0 : Int) ≤ (j : Int) := by omega
  have j1 : (j : Int) < (L : Int) := by omega
  clear h0 hv h8
  generalize bitN a v = bt at DG ⊢
  go_enter Try.func118, Try.ntmps118
  go_wp2
  go_quiet (first | (go_at_call 119; exact quiet_eq (DG.out _)))
  go_wp2
  go_ret
  exact ⟨rfl, below_drewN (Below.refl _ _) _⟩

set_option maxRecDepth 100000 in
set_option maxHeartbeats 4000000 in
theorem isSatisfiedBy_any {m : Int} (hm : m ≤ 8) {pp : Int} {y R : Nat} {vs : List Int} (ok : COk m pp y R vs) {a : Nat} (ha : a < 256) {x : Bool} (hx : satB a ⟨pp, (y : Int), vs⟩ = x) {b : Nat} {v : Value} (w : World) (h : Owns w b v vs) :
    Calls Try.prog 81 #[.agg #[.int .i64 pp, .int .i64 (y : Int), v], .int .i64 (a : Int)] w fun e w' => e = .returned (.bool x) ∧ Below w.heap.size w w' := by
  obtain ⟨va, vc, rfl, hv⟩ := h.cellsV
  obtain ⟨h4, hR⟩ := ok.four
  have hlt := tupA_lt (a := a) (vs := vs) vs.length
  have hT : tupA a vs vs.length < 62 := by have := ok.rel.r16; omega
  have hx2 : ((bitN y (tupA a vs vs.length) : Int) == 1) = x := by
    rw [← hx, satB, Bool.eq_iff_iff, beq_iff_eq, beq_iff_eq]
    dsimp only
    rw [Int.toNat_natCast]
    omega
  have DG := Lib.hid (fun V => digitOf_any y (tupA a vs vs.length) ok.rel.hx hT V)
  have hpp := ok.len
  subst hpp
  obtain ⟨W1, hW1⟩ : ∃ W1, (w.alloc (.cells #[.int .i64 (vs.length : Int), .int .i64 (y : Int), .slice va vs.length vc] 74)).alloc (.cells #[.int .i64 (a : Int)] 2) = W1 := ⟨_, rfl⟩
  have p0 : W1.cell? ⟨w.heap.size, 0, none⟩ = some (.int .i64 (vs.length : Int)) := by rw [← hW1]; simp [go_sem]
  have p1 : W1.cell? ⟨w.heap.size, 1, none⟩ = some (.int .i64 (y : Int)) := by rw [← hW1]; simp [go_sem]
  have p2 : W1.cell? ⟨w.heap.size, 2, none⟩ = some (.slice va vs.length vc) := by rw [← hW1]; simp [go_sem]
  have p3 : W1.cell? ⟨w.heap.size + 1, 0, none⟩ = some (.int .i64 (a : Int)) := by rw [← hW1]; simp [go_sem]
  have hB : Below w.heap.size w W1 := by rw [← hW1]; exact balloc (bnew _ _) _
  have RW := Lib.hid (rowWith_any vs.length h4 118 #[.pointer (some ⟨w.heap.size + 1, 0, none⟩), .pointer (some ⟨w.heap.size, 0, none⟩)] (enters_of Try.func118 (by kernel_rfl) rfl)
    (fun j => bitN a (vget vs j).toNat) (fun j _ => bitN_le _ _) W1 (Lib.hid fun V hV j hj => by
      obtain ⟨g, hg, _, hc⟩ := hv.resolve_left (by omega)
      subst hg
      have hvj := ok.var j hj
      exact sat1_any ha hj hvj.1 (by omega) V (kc hV p3) (kc hV p2) (kc hV (kc hB (hc.out j hj)))))
  have HT : Hid (sumN (fun j => bitN a (vget vs j).toNat) vs.length = tupA a vs vs.length) := Lib.hid rfl
  rw [HT.out] at RW
  clear hv ok hx HT hlt hR
  generalize tupA a vs vs.length = T at RW DG hx2 hT
  generalize bitN y T = bt at DG hx2
  generalize vs.length = L at RW p0 p2 h4 hW1 ⊢
  go_enter Try.func81, Try.ntmps81
  go_wp2_with (first
    | (go_at_call 117; refine (RW.out).mono ?_; rintro e w5 ⟨rfl, hb5⟩; have q1 := kc hb5 p1; have hB5 := bthen hB hb5)
    | (go_at_call 119; refine (DG.out _).mono ?_; rintro e w' ⟨rfl, rfl⟩))
  go_ret
  exact ⟨by rw [← hx2]; rfl, hB5⟩
end Go.Proofs.Ythkmapflbopdpaa

/- SB2:
  SatisfiedBy, in both packages. -/
namespace Go.Proofs.Ythkmapflbopdpaa
open Go.RowKit
set_option linter.unusedVariables false
set_option linter.unusedSimpArgs false

set_option maxRecDepth 100000 in
set_option maxHeartbeats 4000000 in
theorem l09Tuple_any {m : Int} (hm : m ≤ 8) {pp : Int} {y R : Nat} {vs : List Int} (ok : COk m pp y R vs) {a : Nat} (ha : a < 256) {b : Nat} {v : Value} (w : World) (h : Owns w b v vs) :
    Calls Try.prog 79 #[.agg #[.int .i64 pp, .int .i64 (y : Int), v], .int .i64 (a : Int)] w fun e w' => e = .returned (.int .i64 (tupA a vs vs.length : Int)) ∧ Below w.heap.size w w' := by
  obtain ⟨va, vc, rfl, hv⟩ := h.cellsV
  obtain ⟨h4, _⟩ := ok.four
  have HV := Lib.hid hv
  have HVAR : Hid (∀ j, j < vs.length → ∃ n : Nat, n < 8 ∧ vget vs j = (n : Int)) := Lib.hid fun j hj => by
    obtain ⟨h0, h1⟩ := ok.var j hj
    exact ⟨(vget vs j).toNat, by omega, by omega⟩
  clear hv h ok
  generalize vs.length = L at HV HVAR h4 ⊢
  obtain ⟨W1, hW1⟩ : ∃ W1, w.alloc (.cells #[.int .i64 pp, .int .i64 (y : Int), .slice va L vc] 74) = W1 := ⟨_, rfl⟩
  have p2 : W1.cell? ⟨w.heap.size, 2, none⟩ = some (.slice va L vc) := by rw [← hW1]; simp [go_sem]
  have hB : Below w.heap.size w W1 := by rw [← hW1]; exact bnew _ _
  go_enter Try.func79, Try.ntmps79
  go_wp2
  clear hW1
  go_loop [5, 6] (fun q i' => ∃ k : Nat, k ≤ L ∧ i' = .int .i64 k ∧ q = .int .i64 (tupA a vs k : Int)) (fun _ i' => L - (intOf i').toNat)
  case atStart => exact ⟨0, Nat.zero_le _, rfl, rfl⟩
  case round =>
    obtain ⟨k, hk, rfl, rfl⟩ := hrel
    by_cases hkl : k < L
    · obtain ⟨g, rfl, hg, hc⟩ := (HV.out).resolve_left (by omega)
      obtain ⟨n, hn8, hn⟩ := HVAR.out k hkl
      have c2 := kc hB (hc.out k hkl)
      rw [hn] at c2
      have HO := Lib.hid (sum_fin' (fun j => bitN a (vget vs j).toNat) k (by omega) (fun r _ => bitN_le _ _))
      have hO2 : Hid (wrap64 ((tupA a vs k : Int) + wrap64 ((bitN a n : Int) * 2 ^ k)) = (tupA a vs (k + 1) : Int)) := Lib.hid (by
        have := HO.out
        rw [hn, Int.toNat_natCast] at this
        exact this)
      have hdig := digit_eq a n (by omega)
      have hbl := bitN_le a n
      clear HO hn hc
      go_wp2
      go_round
      case rel => exact ⟨k + 1, by omega, by go_num, by rw [hO2.out]⟩
      case measure => simp [intOf]; omega
    · obtain rfl : k = L := by omega
      go_wp2
      go_ret
      exact ⟨rfl, hB⟩

/-- For each of the first k clauses whether it is satisfied. -/
def satL (a : Nat) (cs : List Cl) (k : Nat) : List Int := (List.range k).map fun i => ((satB a (cget cs i)).toNat : Int)
theorem satL_succ (a : Nat) (cs : List Cl) (k : Nat) : satL a cs (k + 1) = satL a cs k ++ [((satB a (cget cs k)).toNat : Int)] := by simp [satL, List.range_succ]
theorem satL_len (a : Nat) (cs : List Cl) (k : Nat) : (satL a cs k).length = k := by simp [satL]
/-- The cells of the table of an instance's clauses. -/
theorem AtC.row {W : World} {a : Option Addr} {n cap : Nat} {cs : List Cl} (h : AtC W (.slice a n cap) cs) (hn : cs.length = n) {k : Nat} (hk : k < n) : ∃ g v b, a = some ⟨g, 0, none⟩ ∧ W.cell? ⟨g, k * 3, none⟩ = some (.int .i64 (cget cs k).p) ∧ W.cell? ⟨g, k * 3 + 1, none⟩ = some (.int .i64 (cget cs k).t) ∧ W.cell? ⟨g, k * 3 + 2, none⟩ = some v ∧ Owns W b v (cget cs k).vs := by
  obtain ⟨a', cap', e, h0 | ⟨g, e2, hg, hr⟩⟩ := h
  · omega
  · simp only [Value.slice.injEq] at e
    obtain ⟨rfl, _, rfl⟩ := e
    obtain ⟨v, b, c0, c1, c2, ho⟩ := hr.out k (by omega)
    exact ⟨g, v, b, e2, c0, c1, c2, ho⟩

set_option maxRecDepth 100000 in
set_option maxHeartbeats 8000000 in
theorem implSatisfiedBy_yes {m : Int} {R : Nat} (h8 : M8 m R) {cs : List Cl} (hI : isI m cs = true) {a : Nat} (ha : a < R) {s : Value} (w : World) (h : AtC w s cs) :
    Calls Try.prog 35 #[.agg #[.int .i64 m, s], .int .i64 (a : Int)] w (ListCodePost w.heap.size (satL a cs cs.length) 0 w) := by
  obtain ⟨i0, hi, hz0, hz1, hz2⟩ := info_parts infoI
  obtain ⟨m0, m8, h12, hcl⟩ := isI_parts hI
  have hp := h8.pos
  obtain ⟨sa, cap, hs, _⟩ := id h
  subst hs
  have hlen1 : ∀ k, k < cs.length → (cget cs k).vs.length ≤ 1048576 := fun k hk => by
    obtain ⟨y, R', _, ok⟩ := cok (hcl k hk)
    have := ok.four.1; omega
  have hrng : inB (a : Int) 0 ((R : Int) - 1) = true := inB_true (by omega) (by omega)
  have IR := Lib.hid (fun V => isRow_8 h8 hrng V)
  obtain ⟨W1, hW1⟩ : ∃ W1, w.alloc (.cells #[.int .i64 m, .slice sa cs.length cap] 29) = W1 := ⟨_, rfl⟩
  have p0 : W1.cell? ⟨w.heap.size, 0, none⟩ = some (.int .i64 m) := by rw [← hW1]; simp [go_sem]
  have p1 : W1.cell? ⟨w.heap.size, 1, none⟩ = some (.slice sa cs.length cap) := by rw [← hW1]; simp [go_sem]
  have hB : Below w.heap.size w W1 := by rw [← hW1]; exact bnew _ _
  have II := Lib.hid (IsInstance_any (by omega) hlen1 hI W1 (h.below hB))
  have HAT := Lib.hid h
  have HCL := Lib.hid hcl
  clear h hcl hI hlen1 hrng
  generalize hn : cs.length = n at h12 p1 II HAT HCL hW1 ⊢
  have HN := Lib.hid hn
  clear hn
  go_enter Try.func35, Try.ntmps35
  go_wp2_with (first
    | (go_at_call 15; refine (II.out).mono ?_; rintro e w5 ⟨rfl, hb5⟩; have q0 := kc hb5 p0; have q1 := kc hb5 p1; have hB5 := bthen hB hb5)
    | (go_at_call 80; refine (IR.out _).mono ?_; rintro e w' ⟨rfl, rfl⟩))
  clear hW1 p0 p1 hb5
  go_loopw [6, 20] (fun v' i' wr => ∃ i : Nat, i ≤ n ∧ i' = .int .i64 i ∧ Owns wr w5.heap.size v' (satL a cs i) ∧ Below w5.heap.size w5 wr) (fun _ i' _ => n - (intOf i').toNat)
  case atStart => exact ⟨0, by omega, rfl, Owns.nil _ _, Below.refl _ _⟩
  case round =>
    obtain ⟨i, hin, rfl, hown, hN⟩ := hrel
    by_cases hlt : i < n
    · have hbig := bthen hB5 hN
      obtain ⟨g, v, b, rfl, c0, c1, c2, ho⟩ := (HAT.out).row HN.out hlt
      obtain ⟨y, R', hy, ok⟩ := cok (HCL.out i hlt)
      rw [hy] at c1
      have e0 := kc hbig c0
      have e1 := kc hbig c1
      have e2 := kc hbig c2
      have hlen := satL_len a cs i
      have HS := Lib.hid (satL_succ a cs i)
      have HOWN := Lib.hid hown
      have hC : cget cs i = ⟨(cget cs i).p, (y : Int), (cget cs i).vs⟩ := by rw [← hy]
      obtain ⟨W2, hW2⟩ : ∃ W2, wr.alloc (.cells #[.int .i64 (cget cs i).p, .int .i64 (y : Int), v] 74) = W2 := ⟨_, rfl⟩
      have hB2 : Below wr.heap.size wr W2 := by rw [← hW2]; exact bnew _ _
      have r0 : W2.cell? ⟨wr.heap.size, 0, none⟩ = some (.int .i64 (cget cs i).p) := by rw [← hW2]; simp [go_sem]
      have r1 : W2.cell? ⟨wr.heap.size, 1, none⟩ = some (.int .i64 (y : Int)) := by rw [← hW2]; simp [go_sem]
      have r2 : W2.cell? ⟨wr.heap.size, 2, none⟩ = some v := by rw [← hW2]; simp [go_sem]
      cases hx : satB a (cget cs i)
      all_goals
        rw [hx] at HS
        rw [hC] at hx
        have SB := Lib.hid (isSatisfiedBy_any m8 ok (by omega) hx W2 ((ho.below hbig).below hB2))
        obtain ⟨va, vc, hvv⟩ := ho.slice
        subst hvv
        generalize (cget cs i).vs.length = L at SB r2 e2 hW2
        generalize (cget cs i).p = pp at SB r0 e0 hW2
        clear c0 c1 c2 ho hown hy hC hx ok
        go_wp2_with (first
          | (go_at_call 81; refine (SB.out).mono ?_; rintro e w7 ⟨rfl, hb7⟩; have hb8 := bthen hB2 hb7; have hN7 := bthen hN hb8; have hs7 := hN7.size; have hown7 : World.ownsRow _ _ _ _ _ _ _ := (HOWN.out).below hb8)
          | (go_at_call 59; refine (digitIf_any _ _).mono ?_; rintro e w' ⟨rfl, rfl⟩)
          | (at_builtin; refine wpList_append_own _ rfl _ _ 35 rfl w5.heap.size 2 i0 (.int .i64 0) 1 8 Try.underlying35 hi hz0 hz1 hz2 rfl (by decide) _ _ _ rfl (hown7.alloc _) ⟨w7.heap.size, 0, none⟩ 1 1 [.int .i64 _] rfl rfl (cell_one_new _ _ _) (one_cell_int _) (by unfold maxLen; omega) (by omega) (by simp; omega) ?_; intro v' w1 hown' hgrow _; have hN' := (balloc hN7 _).grown hgrow (by simp; omega) (fun j e => (hown7.lt j e).1); clear hgrow hown7))
        go_roundw
        case rel => exact ⟨i + 1, by omega, by go_num, by rw [HS.out]; unfold Owns; rw [ints_snoc, List.length_append]; exact hown', hN'⟩
        case measure => simp [intOf]; omega
    · obtain rfl : i = n := by omega
      have HOWN := Lib.hid hown
      clear hown
      go_wp2
      go_ret2
      exact ⟨_, rfl, (HOWN.out).mono hB5.size, bthen hB5 hN⟩
end Go.Proofs.Ythkmapflbopdpaa

/- SB3:
  SatisfiedBy: errors, the model, both. -/
namespace Go.Proofs.Ythkmapflbopdpaa
open Go.RowKit
set_option linter.unusedVariables false
set_option linter.unusedSimpArgs false

theorem m8 {m : Int} (h0 : 0 ≤ m) (h8 : m ≤ 8) : M8 m (2 ^ m.toNat) := ⟨h0, h8, rfl⟩
theorem isI_rows {m : Int} {cs : List Cl} (h : isI m cs = true) : ∀ k, k < cs.length → (cget cs k).vs.length ≤ 4 := fun k hk => by
  obtain ⟨y, R, _, ok⟩ := cok ((isI_parts h).2.2.2 k hk)
  exact ok.four.1

set_option maxRecDepth 100000 in
set_option maxHeartbeats 2000000 in
theorem implSatisfiedBy_no {m : Int} {cs : List Cl} (hl : cs.length ≤ 1048576) (hr : ∀ k, k < cs.length → (cget cs k).vs.length ≤ 1048576) (hI : isI m cs = false) (a : Int) {s : Value} (w : World) (h : AtC w s cs) :
    Calls Try.prog 35 #[.agg #[.int .i64 m, s], .int .i64 a] w (ListCodePost w.heap.size [] 1 w) := by
  obtain ⟨sa, cap, hs, _⟩ := id h
  have II := Lib.hid (IsInstance_any hl hr hI (w.alloc (.cells #[.int .i64 m, s] 29)) (h.below (bnew _ _)))
  subst hs
  clear h hr hI
  go_enter Try.func35, Try.ntmps35
  go_wp2_with (go_at_call 15; refine (II.out).mono ?_; rintro e w5 ⟨rfl, hb5⟩)
  refine bodyPost_ret (v := .tuple #[.slice none 0 0, .int .i64 1]) (by simp [results, Try.results35, go_sem]) rfl ⟨_, rfl, Owns.nil _ _, bthen (bnew _ _) hb5⟩

set_option maxRecDepth 100000 in
set_option maxHeartbeats 2000000 in
theorem implSatisfiedBy_out {m : Int} {R : Nat} (h8 : M8 m R) {cs : List Cl} (hI : isI m cs = true) {a : Int} (hrng : inB a 0 ((R : Int) - 1) = false) {s : Value} (w : World) (h : AtC w s cs) :
    Calls Try.prog 35 #[.agg #[.int .i64 m, s], .int .i64 a] w (ListCodePost w.heap.size [] 2 w) := by
  obtain ⟨sa, cap, hs, _⟩ := id h
  have h12 := (isI_parts hI).2.2.1
  have II := Lib.hid (IsInstance_any (by omega) (fun k hk => by have := isI_rows hI k hk; omega) hI (w.alloc (.cells #[.int .i64 m, s] 29)) (h.below (bnew _ _)))
  have IR := Lib.hid (fun V => isRow_8 h8 hrng V)
  subst hs
  clear h hI hrng
  generalize cs.length = n at II h12 ⊢
  obtain ⟨W1, hW1⟩ : ∃ W1, w.alloc (.cells #[.int .i64 m, .slice sa n cap] 29) = W1 := ⟨_, rfl⟩
  rw [hW1] at II
  have p0 : W1.cell? ⟨w.heap.size, 0, none⟩ = some (.int .i64 m) := by rw [← hW1]; simp [go_sem]
  have p1 : W1.cell? ⟨w.heap.size, 1, none⟩ = some (.slice sa n cap) := by rw [← hW1]; simp [go_sem]
  have hB : Below w.heap.size w W1 := by rw [← hW1]; exact bnew _ _
  go_enter Try.func35, Try.ntmps35
  go_wp2_with (first
    | (go_at_call 15; refine (II.out).mono ?_; rintro e w5 ⟨rfl, hb5⟩; have q0 := kc hb5 p0; have hB5 := bthen hB hb5)
    | (go_at_call 80; refine (IR.out _).mono ?_; rintro e w' ⟨rfl, rfl⟩))
  refine bodyPost_ret (v := .tuple #[.slice none 0 0, .int .i64 2]) (by simp [results, Try.results35, go_sem]) rfl ⟨_, rfl, Owns.nil _ _, hB5⟩

set_option maxRecDepth 100000 in
set_option maxHeartbeats 2000000 in
theorem specSatisfiedBy_no {m : Int} {cs : List Cl} (hl : cs.length ≤ 1048576) (hr : ∀ k, k < cs.length → (cget cs k).vs.length ≤ 1048576) (hI : isI m cs = false) (a : Int) {s : Value} (w : World) (h : AtC w s cs) :
    Calls Try.prog 34 #[.agg #[.int .i64 m, s], .int .i64 a] w (ListCodePost w.heap.size [] 1 w) := by
  obtain ⟨sa, cap, hs, _⟩ := id h
  have II := Lib.hid (l09Is_any hl hr hI (w.alloc (.cells #[.int .i64 m, s] 29)) (h.below (bnew _ _)))
  subst hs
  clear h hr hI
  go_enter Try.func34, Try.ntmps34
  go_wp2_with (go_at_call 51; refine (II.out).mono ?_; rintro e w5 ⟨rfl, hb5⟩)
  refine bodyPost_ret (v := .tuple #[.slice none 0 0, .int .i64 1]) (by simp [results, Try.results34, go_sem]) rfl ⟨_, rfl, Owns.nil _ _, bthen (bnew _ _) hb5⟩

set_option maxRecDepth 100000 in
set_option maxHeartbeats 2000000 in
theorem specSatisfiedBy_out {m : Int} {R : Nat} (h8 : M8 m R) {cs : List Cl} (hI : isI m cs = true) {a : Int} (hrng : inB a 0 ((R : Int) - 1) = false) {s : Value} (w : World) (h : AtC w s cs) :
    Calls Try.prog 34 #[.agg #[.int .i64 m, s], .int .i64 a] w (ListCodePost w.heap.size [] 2 w) := by
  obtain ⟨sa, cap, hs, _⟩ := id h
  have h12 := (isI_parts hI).2.2.1
  have hp := h8.pos
  have II := Lib.hid (l09Is_any (by omega) (fun k hk => by have := isI_rows hI k hk; omega) hI (w.alloc (.cells #[.int .i64 m, s] 29)) (h.below (bnew _ _)))
  have hw1 : IntKind.i64.wrap ((R : Int) - 1) = (R : Int) - 1 := wrap64_small (by omega) (by omega)
  subst hs
  clear h hI
  generalize cs.length = n at II h12 ⊢
  obtain ⟨W1, hW1⟩ : ∃ W1, w.alloc (.cells #[.int .i64 m, .slice sa n cap] 29) = W1 := ⟨_, rfl⟩
  rw [hW1] at II
  have p0 : W1.cell? ⟨w.heap.size, 0, none⟩ = some (.int .i64 m) := by rw [← hW1]; simp [go_sem]
  have p1 : W1.cell? ⟨w.heap.size, 1, none⟩ = some (.slice sa n cap) := by rw [← hW1]; simp [go_sem]
  have hB : Below w.heap.size w W1 := by rw [← hW1]; exact bnew _ _
  go_enter Try.func34, Try.ntmps34
  go_wp2_with (first
    | (go_at_call 51; refine (II.out).mono ?_; rintro e w5 ⟨rfl, hb5⟩; have q0 := kc hb5 p0; have hB5 := bthen hB hb5)
    | (go_at_call 77; refine (l01Rows_8 h8 _).mono ?_; rintro e w' ⟨rfl, rfl⟩)
    | (go_at_call 62; refine (l01In_is hrng _).mono ?_; rintro e w' ⟨rfl, rfl⟩))
  refine bodyPost_ret (v := .tuple #[.slice none 0 0, .int .i64 2]) (by simp [results, Try.results34, go_sem]) rfl ⟨_, rfl, Owns.nil _ _, hB5⟩

set_option maxRecDepth 100000 in
set_option maxHeartbeats 8000000 in
theorem specSatisfiedBy_yes {m : Int} {R : Nat} (h8 : M8 m R) {cs : List Cl} (hI : isI m cs = true) {a : Nat} (ha : a < R) {s : Value} (w : World) (h : AtC w s cs) :
    Calls Try.prog 34 #[.agg #[.int .i64 m, s], .int .i64 (a : Int)] w (ListCodePost w.heap.size (satL a cs cs.length) 0 w) := by
  obtain ⟨i0, hi, hz0, hz1, hz2⟩ := info_parts infoI
  obtain ⟨m0, m8, h12, hcl⟩ := isI_parts hI
  have hp := h8.pos
  obtain ⟨sa, cap, hs, _⟩ := id h
  subst hs
  have hlen1 : ∀ k, k < cs.length → (cget cs k).vs.length ≤ 1048576 := fun k hk => by have := isI_rows hI k hk; omega
  have hrng : inB (a : Int) 0 ((R : Int) - 1) = true := inB_true (by omega) (by omega)
  have hw1 : IntKind.i64.wrap ((R : Int) - 1) = (R : Int) - 1 := wrap64_small (by omega) (by omega)
  obtain ⟨W1, hW1⟩ : ∃ W1, w.alloc (.cells #[.int .i64 m, .slice sa cs.length cap] 29) = W1 := ⟨_, rfl⟩
  have p0 : W1.cell? ⟨w.heap.size, 0, none⟩ = some (.int .i64 m) := by rw [← hW1]; simp [go_sem]
  have p1 : W1.cell? ⟨w.heap.size, 1, none⟩ = some (.slice sa cs.length cap) := by rw [← hW1]; simp [go_sem]
  have hB : Below w.heap.size w W1 := by rw [← hW1]; exact bnew _ _
  have II := Lib.hid (l09Is_any (by omega) hlen1 hI W1 (h.below hB))
  have HAT := Lib.hid h
  have HCL := Lib.hid hcl
  clear h hcl hI hlen1
  generalize hn : cs.length = n at h12 p1 II HAT HCL hW1 ⊢
  have HN := Lib.hid hn
  clear hn
  go_enter Try.func34, Try.ntmps34
  go_wp2_with (first
    | (go_at_call 51; refine (II.out).mono ?_; rintro e w5 ⟨rfl, hb5⟩; have q0 := kc hb5 p0; have q1 := kc hb5 p1; have hB5 := bthen hB hb5)
    | (go_at_call 77; refine (l01Rows_8 h8 _).mono ?_; rintro e w' ⟨rfl, rfl⟩)
    | (go_at_call 62; refine (l01In_is hrng _).mono ?_; rintro e w' ⟨rfl, rfl⟩))
  clear hW1 p0 p1 hb5 hrng
  go_loopw [6, 7] (fun v' i' wr => ∃ i : Nat, i ≤ n ∧ i' = .int .i64 i ∧ Owns wr w5.heap.size v' (satL a cs i) ∧ Below w5.heap.size w5 wr) (fun _ i' _ => n - (intOf i').toNat)
  case atStart => exact ⟨0, by omega, rfl, World.ownsRow_lit w5 #[] 0 (Nat.le_refl _) (by decide) rfl, bnew _ _⟩
  case round =>
    obtain ⟨i, hin, rfl, hown, hN⟩ := hrel
    have r1 := kc hN q1
    by_cases hlt : i < n
    · have hbig := bthen hB5 hN
      obtain ⟨g, v, b, rfl, c0, c1, c2, ho⟩ := (HAT.out).row HN.out hlt
      obtain ⟨y, R', hy, ok⟩ := cok (HCL.out i hlt)
      rw [hy] at c1
      have e0 := kc hbig c0
      have e1 := kc hbig c1
      have e2 := kc hbig c2
      have hlen := satL_len a cs i
      have HS := Lib.hid (satL_succ a cs i)
      have HOWN := Lib.hid hown
      have hC : cget cs i = ⟨(cget cs i).p, (y : Int), (cget cs i).vs⟩ := by rw [← hy]
      have i00 : (0 : Int) ≤ (i : Int) := by omega
      have i11 : (i : Int) < (n : Int) := by omega
      have hO := Lib.hid (ho.below hbig)
      have TUP := Lib.hid (fun (V : World) (hV : Below wr.heap.size wr V) => l09Tuple_any m8 ok (show a < 256 by omega) V ((hO.out).below hV))
      have hT : tupA a (cget cs i).vs (cget cs i).vs.length < 62 := by
        have h1 := tupA_lt (a := a) (vs := (cget cs i).vs) (cget cs i).vs.length
        have h2 := ok.four.2
        have h3 := ok.rel.r16
        omega
      have HAS := Lib.hid (fun V => l09Has_any (n := (cget cs i).p) y (tupA a (cget cs i).vs (cget cs i).vs.length) ok.rel.hx hT V)
      have hx : (bitN y (tupA a (cget cs i).vs (cget cs i).vs.length) == 1) = satB a (cget cs i) := by
        rw [satB, hy, Int.toNat_natCast]
      rw [hx] at HAS
      obtain ⟨va, vc, hvv⟩ := ho.slice
      subst hvv
      clear c0 c1 c2 ho hown hC hx ok hT
      generalize tupA a (cget cs i).vs (cget cs i).vs.length = T at TUP HAS
      generalize (cget cs i).vs.length = L at TUP e2
      generalize (cget cs i).p = pp at TUP HAS e0
      have MK : Hid (∀ V : World, Below wr.heap.size wr V → ((V.cell? ⟨w.heap.size, 1, none⟩ = some (.slice (some ⟨g, 0, none⟩) n cap) ∧ ((V.cell? ⟨g, i * 3, none⟩ = some (.int .i64 pp) ∧ V.cell? ⟨g, i * 3 + 1, none⟩ = some (.int .i64 (y : Int))) ∧ V.cell? ⟨g, i * 3 + 2, none⟩ = some (.slice va L vc))) ∧ Below wr.heap.size wr V)) := Lib.hid fun V h => ⟨⟨kc h r1, ⟨kc h e0, kc h e1⟩, kc h e2⟩, h⟩
      have ST : Hid (∀ V V' : World, Below V.heap.size V V' → ((V.cell? ⟨w.heap.size, 1, none⟩ = some (.slice (some ⟨g, 0, none⟩) n cap) ∧ ((V.cell? ⟨g, i * 3, none⟩ = some (.int .i64 pp) ∧ V.cell? ⟨g, i * 3 + 1, none⟩ = some (.int .i64 (y : Int))) ∧ V.cell? ⟨g, i * 3 + 2, none⟩ = some (.slice va L vc))) ∧ Below wr.heap.size wr V) →
        ((V'.cell? ⟨w.heap.size, 1, none⟩ = some (.slice (some ⟨g, 0, none⟩) n cap) ∧ ((V'.cell? ⟨g, i * 3, none⟩ = some (.int .i64 pp) ∧ V'.cell? ⟨g, i * 3 + 1, none⟩ = some (.int .i64 (y : Int))) ∧ V'.cell? ⟨g, i * 3 + 2, none⟩ = some (.slice va L vc))) ∧ Below wr.heap.size wr V')) := Lib.hid fun V V' hb h => MK.out V' (bthen h.2 hb)
      go_wp2
      go_region_held3 (fun V => ((V.cell? ⟨w.heap.size, 1, none⟩ = some (.slice (some ⟨g, 0, none⟩) n cap) ∧ ((V.cell? ⟨g, i * 3, none⟩ = some (.int .i64 pp) ∧ V.cell? ⟨g, i * 3 + 1, none⟩ = some (.int .i64 (y : Int))) ∧ V.cell? ⟨g, i * 3 + 2, none⟩ = some (.slice va L vc))) ∧ Below wr.heap.size wr V))
        (first
          | with_reducible exact MK.out _ (Below.refl _ _).drew
          | (with_reducible refine ST.out _ _ hbE ?_; with_reducible assumption)
          | (with_reducible refine ST.out _ _ hbT ?_; with_reducible assumption)
          | with_reducible assumption)
        (first
          | (go_at_call 78; with_reducible refine (HAS.out _).mono ?_; rintro e w8 ⟨rfl, hbE⟩; have T8 := ST.out _ _ hbE (by with_reducible assumption))
          | (go_at_call 79; with_reducible refine (TUP.out _ (And.right (by with_reducible assumption))).mono ?_; rintro e w7 ⟨rfl, hbT⟩; have T7 := ST.out _ _ hbT (by with_reducible assumption)))
      have hb8 := T8.2
      have hN8 := bthen hN hb8
      have hs8 := hN8.size
      have hown8 : World.ownsRow _ _ _ _ _ _ _ := (HOWN.out).below hb8
      clear T8 T7 hbE hbT MK ST TUP HAS e0 e1 e2 r1
      cases hx : satB a (cget cs i)
      all_goals
        rw [hx] at HS
        clear hx
        go_wp2_with (at_builtin; refine wpList_append_own _ rfl _ _ 35 rfl w5.heap.size 2 i0 (.int .i64 0) 1 8 Try.underlying35 hi hz0 hz1 hz2 rfl (by decide) _ _ _ rfl (hown8.alloc _) ⟨w8.heap.size, 0, none⟩ 1 1 [.int .i64 _] rfl rfl (cell_one_new _ _ _) (one_cell_int _) (by unfold maxLen; omega) (by omega) (by simp; omega) ?_; intro v' w1 hown' hgrow _; have hN' := (balloc hN8 _).grown hgrow (by simp; omega) (fun j e => (hown8.lt j e).1); clear hgrow hown8)
        go_roundw
        case rel => exact ⟨i + 1, by omega, by go_num, by rw [HS.out]; unfold Owns; rw [ints_snoc, List.length_append]; exact hown', hN'⟩
        case measure => simp [intOf]; omega
    · obtain rfl : i = n := by omega
      have HOWN := Lib.hid hown
      clear hown
      go_wp2
      go_ret2
      exact ⟨_, rfl, (HOWN.out).mono hB5.size, bthen hB5 hN⟩

theorem bothSatisfiedBy {cs : List Cl} (hl : cs.length ≤ 1048576) (hr : ∀ k, k < cs.length → (cget cs k).vs.length ≤ 1048576) (m a : Int) : ∃ (ys : List Int) (rc : Int), ys.length ≤ 100000 ∧
    (∀ s w, AtC w s cs → Calls Try.prog 34 #[.agg #[.int .i64 m, s], .int .i64 a] w (ListCodePost w.heap.size ys rc w)) ∧
    (∀ s w, AtC w s cs → Calls Try.prog 35 #[.agg #[.int .i64 m, s], .int .i64 a] w (ListCodePost w.heap.size ys rc w)) := by
  cases hI : isI m cs
  · exact ⟨[], 1, by simp, fun s w h => specSatisfiedBy_no hl hr hI a w h, fun s w h => implSatisfiedBy_no hl hr hI a w h⟩
  · obtain ⟨m0, h8, h12, _⟩ := isI_parts hI
    have hM := m8 m0 h8
    cases hrng : inB a 0 (((2 ^ m.toNat : Nat) : Int) - 1)
    · exact ⟨[], 2, by simp, fun s w h => specSatisfiedBy_out hM hI hrng w h, fun s w h => implSatisfiedBy_out hM hI hrng w h⟩
    · obtain ⟨a0, a1⟩ := inB_iff.1 hrng
      obtain ⟨x, rfl⟩ := Int.eq_ofNat_of_zero_le a0
      exact ⟨satL x cs cs.length, 0, by rw [satL_len]; omega, fun s w h => specSatisfiedBy_yes hM hI (by omega) w h, fun s w h => implSatisfiedBy_yes hM hI (by omega) w h⟩
end Go.Proofs.Ythkmapflbopdpaa

/- FSatisfiedBy:
  The walk of the law on SatisfiedBy: both packages answer alike, and what came in is as it was. -/
namespace Go.Proofs.Ythkmapflbopdpaa
open Go.RowKit
set_option linter.unusedVariables false
set_option linter.unusedSimpArgs false

set_option maxRecDepth 100000 in
set_option maxHeartbeats 8000000 in
theorem fnExactSatisfiedBy_walk (m : Int) (a : Option Addr) (len cap : Nat) (cs : List Cl) (a0 : Int) (w : World) (hr0 : IsRowC w a len cs) (wa0 : (Lit.int .i64 a0).wf = true) :
    Calls Try.prog 9 #[.agg #[.int .i64 m, .slice a len cap], .int .i64 a0] w fun e w' => e = .returned (.bool true) ∧ Below w.heap.size w w' := by
  have hcl := hr0.1
  by_cases ht : len + szN cs len ≤ 1048576
  · have hcs := inst_sizes hcl ht
    obtain ⟨ys, rc, hlen, c1, c2⟩ := bothSatisfiedBy hcs.1 hcs.2 m a0
    have C1 := Lib.hid c1
    have C2 := Lib.hid c2
    have HR := Lib.hid hr0
    have HT := Lib.hid ht
    have HSZ : Hid (cs.length + szN cs cs.length ≤ 1048576) := Lib.hid (by rw [hcl]; exact ht)
    have hcs2 : cs.length ≤ 100000000 ∧ ∀ k, k < cs.length → (cget cs k).vs.length ≤ 100000000 := ⟨by omega, fun k hk => by have := hcs.2 k hk; omega⟩
    have hd0 : decide ((1048576 : Int) - (len : Int) - ((szN cs len : Nat) : Int) < 0) = false := by simp only [decide_eq_false_iff_not]; omega
    have hdk : decide (kAt 1 cs cs.length < 0) = false := kAt_neg (by omega)
    replace hcs := hcs2
    clear c1 c2 hr0 ht hcs2 hcl
    obtain ⟨W1, hW1⟩ : ∃ W1, w.alloc (.cells #[.int .i64 m, .slice a len cap] 24) = W1 := ⟨_, rfl⟩
    have qa : W1.cell? ⟨w.heap.size, 0, none⟩ = some (.int .i64 m) := by rw [← hW1]; simp [go_sem]
    have qb : W1.cell? ⟨w.heap.size, 1, none⟩ = some (.slice a len cap) := by rw [← hW1]; simp [go_sem]
    have hN : Below w.heap.size w W1 := by rw [← hW1]; exact bnew _ _
    go_enter Try.func9, Try.ntmps9
    go_wp2_with fail
    clear hW1
    go_wp2_with fail
    refine (szInstance_ok HR.out HT.out _ hN).mono ?_
    rintro e w2 ⟨rfl, hb⟩
    replace hN := bthen hN hb
    have q1 := kc hb qa; have q2 := kc hb qb
    clear hb qa qb
    go_wp2_with fail
    have ba3 := Lib.hid (cell_lt q1)
    have hs_O1 := Lib.hid hN.size
    go_wp2_with fail
    refine (toInst_any HR.out HT.out _ hN).mono ?_
    rintro e w3 ⟨xa1, xc1, ss1, rfl, o, hb⟩
    have O1 := Lib.hid o
    clear o
    replace hN := bthen hN hb
    have q4 := kc hb q1; have q5 := kc hb q2
    clear hb q1 q2
    go_wp2_with fail
    have ba6 := Lib.hid (cell_lt q4)
    have ap7 := Lib.hid O1.out.top
    have hs_R1 := Lib.hid hN.size
    go_wp2_with fail
    refine (C1.out _ _ O1.out.at).mono ?_
    rintro e w4 ⟨s1, rfl, o, hb⟩
    have R1 := Lib.hid (OB.new o)
    clear o
    replace hN := bthen hN hb
    have q8 := kc hb q4; have q9 := kc hb q5
    replace O1 := Lib.hid (O1.out.below hb)
    clear hb q4 q5
    clear O1
    go_wp2_with fail
    have ba10 := Lib.hid (cell_lt q8)
    have ap11 := Lib.hid R1.out.top
    have hs_O2 := Lib.hid hN.size
    go_wp2_with fail
    refine (toInst_any HR.out HT.out _ hN).mono ?_
    rintro e w5 ⟨xa2, xc2, ss2, rfl, o, hb⟩
    have O2 := Lib.hid o
    clear o
    replace hN := bthen hN hb
    have q12 := kc hb q8; have q13 := kc hb q9
    replace R1 := Lib.hid (R1.out.below hb)
    clear hb q8 q9
    obtain ⟨W14, hW15, q16, q17, hb⟩ := ansBoxI m (.slice xa2 cs.length xc2) w5
    have ab18 := Lib.hid R1.out.top
    have ab19 := Lib.hid O2.out.top
    replace hN := bthen hN hb
    have q20 := kc hb q12; have q21 := kc hb q13
    replace R1 := Lib.hid (R1.out.below hb)
    replace O2 := Lib.hid (O2.out.below hb)
    clear hb q12 q13
    go_wp2_with fail
    clear hW15
    go_wp2_with fail
    have ba22 := Lib.hid (cell_lt q20)
    have ba23 := Lib.hid (cell_lt q16)
    have ap24 := Lib.hid R1.out.top
    have ap25 := Lib.hid O2.out.top
    have hs_R2 := Lib.hid hN.size
    go_wp2_with fail
    refine (C2.out _ _ O2.out.at).mono ?_
    rintro e w6 ⟨s2, rfl, o, hb⟩
    have R2 := Lib.hid (OB.new o)
    clear o
    replace hN := bthen hN hb
    have q26 := kc hb q20; have q27 := kc hb q21
    have q28 := kc hb q16; have q29 := kc hb q17
    replace R1 := Lib.hid (R1.out.below hb)
    replace O2 := Lib.hid (O2.out.below hb)
    clear hb q20 q21 q16 q17
    go_wp2_with fail
    refine (eqInt64S_same (by omega) _ R2.out.own R1.out.own).mono ?_
    rintro e w7 ⟨rfl, hb⟩
    replace hN := bthen hN hb
    have q30 := kc hb q26; have q31 := kc hb q27
    have q32 := kc hb q28; have q33 := kc hb q29
    replace R1 := Lib.hid (R1.out.below hb)
    replace O2 := Lib.hid (O2.out.below hb)
    replace R2 := Lib.hid (R2.out.below hb)
    clear hb q26 q27 q28 q29
    -- the program's argument is as it was
    go_wp2_with fail
    have MK : Hid (∀ V : World, Below w7.heap.size w7 V → (((V.cell? ⟨w.heap.size, 0, none⟩ = some (.int .i64 m) ∧ V.cell? ⟨w.heap.size, 1, none⟩ = some (.slice a len cap)) ∧ (V.cell? ⟨w5.heap.size, 0, none⟩ = some (.int .i64 m) ∧ V.cell? ⟨w5.heap.size, 1, none⟩ = some (.slice xa2 cs.length xc2))) ∧ Below w7.heap.size w7 V)) := Lib.hid fun V h => ⟨⟨⟨kc h q30, kc h q31⟩, kc h q32, kc h q33⟩, h⟩
    have ST : Hid (∀ V V' : World, Below V.heap.size V V' → (((V.cell? ⟨w.heap.size, 0, none⟩ = some (.int .i64 m) ∧ V.cell? ⟨w.heap.size, 1, none⟩ = some (.slice a len cap)) ∧ (V.cell? ⟨w5.heap.size, 0, none⟩ = some (.int .i64 m) ∧ V.cell? ⟨w5.heap.size, 1, none⟩ = some (.slice xa2 cs.length xc2))) ∧ Below w7.heap.size w7 V) → (((V'.cell? ⟨w.heap.size, 0, none⟩ = some (.int .i64 m) ∧ V'.cell? ⟨w.heap.size, 1, none⟩ = some (.slice a len cap)) ∧ (V'.cell? ⟨w5.heap.size, 0, none⟩ = some (.int .i64 m) ∧ V'.cell? ⟨w5.heap.size, 1, none⟩ = some (.slice xa2 cs.length xc2))) ∧ Below w7.heap.size w7 V')) := Lib.hid fun V V' hb h => MK.out V' (bthen h.2 hb)
    have HNC := Lib.hid hN
    have TI : Hid (∀ V : World, (((V.cell? ⟨w.heap.size, 0, none⟩ = some (.int .i64 m) ∧ V.cell? ⟨w.heap.size, 1, none⟩ = some (.slice a len cap)) ∧ (V.cell? ⟨w5.heap.size, 0, none⟩ = some (.int .i64 m) ∧ V.cell? ⟨w5.heap.size, 1, none⟩ = some (.slice xa2 cs.length xc2))) ∧ Below w7.heap.size w7 V) → _) := Lib.hid fun V h => toInst_any (m := m) (cap := cap) HR.out HT.out V (bthen HNC.out h.2)
    have EQ : Hid (∀ (V V0 : World) (s : Value), (((V.cell? ⟨w.heap.size, 0, none⟩ = some (.int .i64 m) ∧ V.cell? ⟨w.heap.size, 1, none⟩ = some (.slice a len cap)) ∧ (V.cell? ⟨w5.heap.size, 0, none⟩ = some (.int .i64 m) ∧ V.cell? ⟨w5.heap.size, 1, none⟩ = some (.slice xa2 cs.length xc2))) ∧ Below w7.heap.size w7 V) → AtC V0 s cs → Below V0.heap.size V0 V → _) := Lib.hid fun V V0 s h h1 h2 => eqInstance_same (m := m) hcs.1 hcs.2 V (O2.out.at.below h.2) (h1.below h2)
    go_region_held3 (fun V => ((V.cell? ⟨w.heap.size, 0, none⟩ = some (.int .i64 m) ∧ V.cell? ⟨w.heap.size, 1, none⟩ = some (.slice a len cap)) ∧ (V.cell? ⟨w5.heap.size, 0, none⟩ = some (.int .i64 m) ∧ V.cell? ⟨w5.heap.size, 1, none⟩ = some (.slice xa2 cs.length xc2))) ∧ Below w7.heap.size w7 V)
      (first
        | with_reducible exact MK.out _ (Below.refl _ _).drew
        | (with_reducible refine ST.out _ _ hbE ?_; with_reducible assumption)
        | (with_reducible refine ST.out _ _ hbT ?_; with_reducible assumption)
        | with_reducible assumption)
      (first
        | (go_at_call 16; with_reducible refine (EQ.out _ _ _ (by with_reducible assumption) (o7.at) (by first | exact Below.refl _ _ | exact (Below.refl _ _).drew)).mono ?_; rintro e w8 ⟨rfl, hbE⟩; have T8 := ST.out _ _ hbE (by with_reducible assumption))
        | (go_at_call 14; with_reducible refine (TI.out _ (by with_reducible assumption)).mono ?_; rintro e w7 ⟨xa7, xc7, ss7, rfl, o7, hbT⟩; have T7 := ST.out _ _ hbT (by with_reducible assumption)))
    have hb := T8.2
    clear T8 T7 hbE hbT o7 MK ST TI EQ HNC
    replace hN := bthen hN hb
    have q34 := kc hb q30; have q35 := kc hb q31
    have q36 := kc hb q32; have q37 := kc hb q33
    replace R1 := Lib.hid (R1.out.below hb)
    replace O2 := Lib.hid (O2.out.below hb)
    replace R2 := Lib.hid (R2.out.below hb)
    clear hb q30 q31 q32 q33
    go_wp2_with fail
    refine (markInstance_any HSZ.out _ O2.out).mono ?_
    rintro e w8 ⟨rfl, o, hw⟩
    replace hN := Below.within hN hw hs_O2.out hN.size
    have q38 := hw.cell q34 (.inl ba10.out); have q39 := hw.cell q35 (.inl ba10.out)
    have q40 := hw.cell q36 (.inr ab19.out); have q41 := hw.cell q37 (.inr ab19.out)
    replace R1 := Lib.hid (R1.out.apart hw (.inl ap11.out))
    replace R2 := Lib.hid (R2.out.apart hw (.inr ap25.out))
    replace O2 := Lib.hid o
    clear o hw q34 q35 q36 q37
    go_wp2_with fail
    refine (eqInt64S_same (by omega) _ R2.out.own R1.out.own).mono ?_
    rintro e w9 ⟨rfl, hb⟩
    replace hN := bthen hN hb
    have q42 := kc hb q38; have q43 := kc hb q39
    have q44 := kc hb q40; have q45 := kc hb q41
    replace R1 := Lib.hid (R1.out.below hb)
    replace O2 := Lib.hid (O2.out.below hb)
    replace R2 := Lib.hid (R2.out.below hb)
    clear hb q38 q39 q40 q41
    clear O2
    clear q44 q45
    go_wp2_with fail
    refine (OB.mark R2.out (by omega)).mono ?_
    rintro e w10 ⟨rfl, o, hw⟩
    replace hN := Below.within hN hw hs_R2.out hN.size
    have q46 := hw.cell q42 (.inl ba22.out); have q47 := hw.cell q43 (.inl ba22.out)
    replace R1 := Lib.hid (R1.out.apart hw (.inl ap24.out))
    replace R2 := Lib.hid o
    clear o hw q42 q43
    go_wp2_with fail
    refine (held_any (by omega) 1 (by omega) (by omega) _ R2.out.own).mono ?_
    rintro e w11 ⟨rfl, rfl⟩
    go_wp2_with fail
    have ba48 := Lib.hid (cell_lt q46)
    have ap49 := Lib.hid R1.out.top
    have ap50 := Lib.hid R2.out.top
    have hs_O3 := Lib.hid hN.size
    go_wp2_with fail
    refine (toInst_any HR.out HT.out _ hN).mono ?_
    rintro e w12 ⟨xa3, xc3, ss3, rfl, o, hb⟩
    have O3 := Lib.hid o
    clear o
    replace hN := bthen hN hb
    have q51 := kc hb q46; have q52 := kc hb q47
    replace R1 := Lib.hid (R1.out.below hb)
    replace R2 := Lib.hid (R2.out.below hb)
    clear hb q46 q47
    go_wp2_with fail
    have ba53 := Lib.hid (cell_lt q51)
    have ap54 := Lib.hid R1.out.top
    have ap55 := Lib.hid R2.out.top
    have ap56 := Lib.hid O3.out.top
    have hs_R3 := Lib.hid hN.size
    go_wp2_with fail
    refine (C2.out _ _ O3.out.at).mono ?_
    rintro e w13 ⟨s3, rfl, o, hb⟩
    have R3 := Lib.hid (OB.new o)
    clear o
    replace hN := bthen hN hb
    have q57 := kc hb q51; have q58 := kc hb q52
    replace R1 := Lib.hid (R1.out.below hb)
    replace R2 := Lib.hid (R2.out.below hb)
    replace O3 := Lib.hid (O3.out.below hb)
    clear hb q51 q52
    clear O3
    go_wp2_with fail
    refine (eqInt64S_same (by omega) _ R3.out.own R1.out.own).mono ?_
    rintro e w14 ⟨rfl, hb⟩
    replace hN := bthen hN hb
    have q59 := kc hb q57; have q60 := kc hb q58
    replace R1 := Lib.hid (R1.out.below hb)
    replace R2 := Lib.hid (R2.out.below hb)
    replace R3 := Lib.hid (R3.out.below hb)
    clear hb q57 q58
    clear R3
    go_wp2_with fail
    refine (held_any (by omega) 1 (by omega) (by omega) _ R2.out.own).mono ?_
    rintro e w15 ⟨rfl, rfl⟩
    go_wp2
    go_ret
    exact ⟨rfl, hN⟩
  · obtain ⟨W1, hW1⟩ : ∃ W1, w.alloc (.cells #[.int .i64 m, .slice a len cap] 24) = W1 := ⟨_, rfl⟩
    have qa : W1.cell? ⟨w.heap.size, 0, none⟩ = some (.int .i64 m) := by rw [← hW1]; simp [go_sem]
    have qb : W1.cell? ⟨w.heap.size, 1, none⟩ = some (.slice a len cap) := by rw [← hW1]; simp [go_sem]
    have hN : Below w.heap.size w W1 := by rw [← hW1]; exact bnew _ _
    have HC := Lib.hid (szInstance_over (m := m) (cap := cap) hr0 ht W1 hN)
    clear hr0 ht
    go_enter Try.func9, Try.ntmps9
    go_wp2_with (go_at_call 12; (try rw [hW1]); refine (HC.out).mono ?_; rintro e w' ⟨rfl, hb⟩)
    go_ret
    exact ⟨rfl, bthen hN hb⟩
end Go.Proofs.Ythkmapflbopdpaa
