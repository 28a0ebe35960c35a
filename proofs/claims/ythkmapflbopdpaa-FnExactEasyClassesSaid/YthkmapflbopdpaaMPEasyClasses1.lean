/-
  The texts EC1, EC2, FEasyClasses in one.
-/
import Derived.Test.YthkmapflbopdpaaMPFlipInstance1
import Derived.Deep.DeepCutAuto
import Derived.Deep.RegionHeld3
import Derived.Deep.Cut

/- EC1:
  EasyClasses of the program. -/
namespace Go.Proofs.Ythkmapflbopdpaa
open Go.RowKit
set_option linter.unusedVariables false
set_option linter.unusedSimpArgs false

/-- A clause's relation is in class i. -/
def clE (c : Cl) (i : Nat) : Bool := ezB c.t.toNat c.vs.length (2 ^ c.vs.length) i
theorem clE_ok {m : Int} {c : Cl} {y R : Nat} (hy : c.t = (y : Int)) (ok : COk m c.p y R c.vs) (i : Nat) : clE c i = ezB y c.vs.length R i := by
  unfold clE
  rw [hy, ok.four.2, Int.toNat_natCast]
/-- The relations of the first k clauses are in class i. -/
def isE (cs : List Cl) (k i : Nat) : Bool := (List.range k).all fun j => clE (cget cs j) i
theorem isE_succ (cs : List Cl) (k i : Nat) : isE cs (k + 1) i = (isE cs k i && clE (cget cs k) i) := by
  simp [isE, List.range_succ]
theorem isE_no {cs : List Cl} {k n i : Nat} (hk : k < n) (h : clE (cget cs k) i = false) : isE cs n i = false := by
  rw [Bool.eq_false_iff]
  intro h2
  have := (List.all_eq_true.1 h2) k (List.mem_range.2 hk)
  rw [h] at this
  cases this
/-- The classes below k in which all relations are. -/
def ecL (cs : List Cl) (n k : Nat) : List Int := ((List.range k).filter (isE cs n)).map fun (i : Nat) => (i : Int)
theorem ecL_no {cs : List Cl} {n k : Nat} (h : isE cs n k = false) : ecL cs n (k + 1) = ecL cs n k := by
  simp [ecL, List.range_succ, List.filter_append, h]
theorem ecL_yes {cs : List Cl} {n k : Nat} (h : isE cs n k = true) : ecL cs n (k + 1) = ecL cs n k ++ [(k : Int)] := by
  simp [ecL, List.range_succ, List.filter_append, h]
theorem ecL_len (cs : List Cl) (n k : Nat) : (ecL cs n k).length ≤ k := by
  have := List.length_filter_le (isE cs n) (List.range k)
  simpa [ecL] using this

/-- The function of class i. -/
def ezFn (i : Nat) : Nat :=
  match i with
  | 0 => 104
  | 1 => 105
  | 2 => 106
  | 3 => 107
  | 4 => 108
  | _ => 109
theorem ezF_fn (i : Nat) : ezF i = .func (.func (ezFn i)) #[] #[] := by
  match i with
  | 0 => rfl
  | 1 => rfl
  | 2 => rfl
  | 3 => rfl
  | 4 => rfl
  | n + 5 => rfl
theorem ezFn_enters (i : Nat) : ∀ args w, (callFunc (ezFn i) args).run Try.prog w = .ok (.enter (ezFn i) args) w := by
  match i with
  | 0 => exact enters_of Try.func104 (by kernel_rfl) rfl
  | 1 => exact enters_of Try.func105 (by kernel_rfl) rfl
  | 2 => exact enters_of Try.func106 (by kernel_rfl) rfl
  | 3 => exact enters_of Try.func107 (by kernel_rfl) rfl
  | 4 => exact enters_of Try.func108 (by kernel_rfl) rfl
  | n + 5 => exact enters_of Try.func109 (by kernel_rfl) rfl
theorem ezFn_any {n : Int} {P y R : Nat} (hn : n = (P : Int)) (okr : ROk n y R) (i : Nat) (hi : i < 6) (V : World) :
    Calls Try.prog (ezFn i) #[.agg #[.int .i64 n, .int .i64 (y : Int)]] V fun e w' => e = .returned (.bool (ezB y P R i)) ∧ Below V.heap.size V w' := by
  rcases (show i = 0 ∨ i = 1 ∨ i = 2 ∨ i = 3 ∨ i = 4 ∨ i = 5 by omega) with rfl | rfl | rfl | rfl | rfl | rfl
  · exact hasZeros_any (n := n) okr.hx rfl V
  · exact hasOnes_any okr rfl V
  · exact isKeptByAnd_any hn okr rfl V
  · exact isKeptByOr_any hn okr rfl V
  · exact isKeptByMajority_any hn okr rfl V
  · exact isKeptByMinority_any hn okr rfl V

set_option maxRecDepth 100000 in
set_option maxHeartbeats 4000000 in
theorem allRelations_any {m : Int} {cs : List Cl} (hI : isI m cs = true) {s : Value} {i : Nat} (hi : i < 6) {b : Bool} (hb : isE cs cs.length i = b) (w : World) (h : AtC w s cs) :
    Calls Try.prog 60 #[.agg #[.int .i64 m, s], .func (.func (ezFn i)) #[] #[]] w fun e w' => e = .returned (.bool b) ∧ Below w.heap.size w w' := by
  obtain ⟨sa, cap, hs, _⟩ := id h
  obtain ⟨m0, m8, h12, hcl⟩ := isI_parts hI
  subst hs
  have HCL := Lib.hid hcl
  have HAT := Lib.hid h
  have HFN : Hid (∀ (n : Int) (P y R : Nat), n = (P : Int) → ROk n y R → ∀ V, Calls Try.prog (ezFn i) #[.agg #[.int .i64 n, .int .i64 (y : Int)]] V fun e w' => e = .returned (.bool (ezB y P R i)) ∧ Below V.heap.size V w') := Lib.hid fun n P y R hn ok V => ezFn_any hn ok i hi V
  clear h hI hcl
  generalize hn : cs.length = n at h12 HCL HAT hb ⊢
  have HN := Lib.hid hn
  clear hn
  have eg := ezFn_enters i
  generalize ezFn i = fn at HFN eg ⊢
  obtain ⟨W1, hW1⟩ : ∃ W1, w.alloc (.cells #[.int .i64 m, .slice sa n cap] 29) = W1 := ⟨_, rfl⟩
  have p0 : W1.cell? ⟨w.heap.size, 0, none⟩ = some (.int .i64 m) := by rw [← hW1]; simp [go_sem]
  have p1 : W1.cell? ⟨w.heap.size, 1, none⟩ = some (.slice sa n cap) := by rw [← hW1]; simp [go_sem]
  have hB : Below w.heap.size w W1 := by rw [← hW1]; exact bnew _ _
  go_enter Try.func60, Try.ntmps60
  go_wp2_with fail
  clear hW1 p0 p1
  go_loopw [10] (fun i' wr => ∃ j : Nat, j ≤ n ∧ i' = .int .i64 j ∧ isE cs j i = true ∧ Below w.heap.size w wr) (fun i' _ => n - (intOf i').toNat)
  case atStart => exact ⟨0, by omega, rfl, rfl, hB⟩
  case round =>
    clear hB
    obtain ⟨j, hin, rfl, hsf, hN⟩ := hrel
    by_cases hlt : j < n
    · obtain ⟨sg, v, b', rfl, e0, e1, e2, ho⟩ := (HAT.out).row HN.out hlt
      obtain ⟨va, vc, hvv⟩ := ho.slice
      subst hvv
      clear ho
      obtain ⟨y, R', hy, ok⟩ := cok (HCL.out j hlt)
      have HF := Lib.hid (HFN.out _ _ y R' ok.len.symm ok.rel)
      have hE := isE_succ cs j i
      rw [hsf, clE_ok hy ok, Bool.true_and] at hE
      have hE2 := clE_ok hy ok i
      have HE := Lib.hid hE
      have HE2 := Lib.hid hE2
      have d0 := kc hN e0
      have d1 := kc hN e1
      have d2 := kc hN e2
      obtain ⟨W2, hW2⟩ : ∃ W2, wr.alloc (.cells #[.int .i64 (cget cs j).p, .int .i64 (cget cs j).t, .slice va (cget cs j).vs.length vc] 74) = W2 := ⟨_, rfl⟩
      have hB2 : Below wr.heap.size wr W2 := by rw [← hW2]; exact bnew _ _
      have r0 : W2.cell? ⟨wr.heap.size, 0, none⟩ = some (.int .i64 (cget cs j).p) := by rw [← hW2]; simp [go_sem]
      have r1 : W2.cell? ⟨wr.heap.size, 1, none⟩ = some (.int .i64 (y : Int)) := by rw [← hW2, hy]; simp [go_sem]
      have hN2 := bthen hN hB2
      rw [hy] at d1 hW2
      clear ok hy e0 e1 e2 hE hE2
      generalize (cget cs j).p = pp at d0 r0 hW2 HF
      generalize ezB y (cget cs j).vs.length R' i = bb at HF HE HE2
      generalize (cget cs j).vs.length = vl at d2 hW2
      cases bb
      · go_wp2_with (refine (HF.out _).mono ?_; rintro e w6 ⟨rfl, hb6⟩)
        go_ret
        refine ⟨?_, bthen hN2 hb6⟩
        rw [isE_no hlt HE2.out] at hb
        subst hb
        rfl
      · go_wp2_with (refine (HF.out _).mono ?_; rintro e w6 ⟨rfl, hb6⟩)
        go_roundw
        case rel => exact ⟨j + 1, by omega, by go_num, HE.out, bthen hN2 hb6⟩
        case measure => simp [intOf]; omega
    · obtain rfl : j = n := by omega
      rw [hsf] at hb
      subst hb
      go_wp2
      go_ret
      exact ⟨rfl, hN⟩

set_option maxRecDepth 100000 in
set_option maxHeartbeats 2000000 in
theorem implEasyClasses_no {m : Int} {cs : List Cl} (hl : cs.length ≤ 1048576) (hr : ∀ k, k < cs.length → (cget cs k).vs.length ≤ 1048576) (hI : isI m cs = false) {s : Value} (w : World) (h : AtC w s cs) :
    Calls Try.prog 24 #[.agg #[.int .i64 m, s]] w (ListCodePost w.heap.size [] 1 w) := by
  obtain ⟨sa, cap, hs, _⟩ := id h
  obtain ⟨W1, hW1⟩ : ∃ W1, w.alloc (.cells #[.int .i64 m, s] 29) = W1 := ⟨_, rfl⟩
  have p0 : W1.cell? ⟨w.heap.size, 0, none⟩ = some (.int .i64 m) := by rw [← hW1]; simp [go_sem]
  have p1 : W1.cell? ⟨w.heap.size, 1, none⟩ = some s := by rw [← hW1]; simp [go_sem]
  have hB : Below w.heap.size w W1 := by rw [← hW1]; exact bnew _ _
  have II := Lib.hid (IsInstance_any hl hr hI W1 (h.below hB))
  subst hs
  clear h hr hI
  go_enter Try.func24, Try.ntmps24
  go_wp2_with (go_at_call 15; refine (II.out).mono ?_; rintro e w5 ⟨rfl, hb5⟩)
  refine bodyPost_ret (v := .tuple #[.slice none 0 0, .int .i64 1]) (by simp [results, Try.results24, go_sem]) rfl ⟨_, rfl, Owns.nil _ _, bthen hB hb5⟩

set_option maxRecDepth 100000 in
set_option maxHeartbeats 4000000 in
theorem implEasyClasses_yes {m : Int} {cs : List Cl} (hI : isI m cs = true) {s : Value} (w : World) (h : AtC w s cs) :
    Calls Try.prog 24 #[.agg #[.int .i64 m, s]] w (ListCodePost w.heap.size (ecL cs cs.length 6) 0 w) := by
  obtain ⟨i0, hi, hz0, hz1, hz2⟩ := info_parts infoI
  obtain ⟨sa, cap, hs, _⟩ := id h
  obtain ⟨m0, m8, h12, hcl⟩ := isI_parts hI
  obtain ⟨W1, hW1⟩ : ∃ W1, w.alloc (.cells #[.int .i64 m, s] 29) = W1 := ⟨_, rfl⟩
  have p0 : W1.cell? ⟨w.heap.size, 0, none⟩ = some (.int .i64 m) := by rw [← hW1]; simp [go_sem]
  have p1 : W1.cell? ⟨w.heap.size, 1, none⟩ = some s := by rw [← hW1]; simp [go_sem]
  have hB : Below w.heap.size w W1 := by rw [← hW1]; exact bnew _ _
  have II := Lib.hid (IsInstance_any (by omega) (fun k hk => by have := isI_rows hI k hk; omega) hI W1 (h.below hB))
  have AR := Lib.hid (fun (i : Nat) (hi : i < 6) (b : Bool) (hb : isE cs cs.length i = b) (V : World) (hV : Below W1.heap.size W1 V) => allRelations_any hI hi hb V ((h.below hB).below hV))
  subst hs
  clear h hI hcl
  generalize cs.length = n at h12 p1 hW1 II AR ⊢
  go_enter Try.func24, Try.ntmps24
  go_wp2_with (first
    | (go_at_call 15; refine (II.out).mono ?_; rintro e w5 ⟨rfl, hb5⟩; have q0 := kc hb5 p0; have q1 := kc hb5 p1; have hB5 := bthen hB hb5)
    | (go_at_call 58; refine (easyClasses_any _).mono ?_; rintro e w6 ⟨rfl, hcl, hb6⟩; have r0 := kc hb6 q0; have r1 := kc hb6 q1; have hB6 := bthen hB5 hb6; have hb16 := bthen hb5 hb6))
  clear hW1 p0 p1 q0 q1 hb5 hb6 II
  have hs5 := hB5.size
  have hs6 := hB6.size
  generalize w5.heap.size = g at hcl hs5
  go_loopw [4, 12] (fun v' i' wr => ∃ k : Nat, k ≤ 6 ∧ i' = .int .i64 k ∧ Owns wr w6.heap.size v' (ecL cs n k) ∧ Below w6.heap.size w6 wr) (fun _ i' _ => 6 - (intOf i').toNat)
  case atStart => exact ⟨0, by omega, rfl, Owns.nil _ _, Below.refl _ _⟩
  case round =>
    obtain ⟨k, hk6, rfl, hown, hN⟩ := hrel
    have s0 := kc hN r0
    have s1 := kc hN r1
    by_cases hlt : k < 6
    · have hc := kc hN (hcl.out k hlt)
      rw [ezF_fn] at hc
      have ARk := Lib.hid (AR.out k hlt)
      have hlen := ecL_len cs n k
      have HOWN := Lib.hid hown
      have hb1r := bthen hb16 hN
      clear hown
      cases hE : isE cs n k
      · have HE := Lib.hid hE
        have HS := Lib.hid (ecL_no hE)
        generalize ezFn k = fn at hc ARk
        clear hE
        go_wp2_with (go_at_call 60; refine (ARk.out false HE.out _ hb1r).mono ?_; rintro e w7 ⟨rfl, hb7⟩; have hN7 := bthen hN hb7)
        go_roundw
        case rel => exact ⟨k + 1, by omega, by go_num, by rw [HS.out]; exact Owns.below HOWN.out hb7, hN7⟩
        case measure => simp [intOf]; omega
      · have HE := Lib.hid hE
        have HS := Lib.hid (ecL_yes hE)
        generalize ezFn k = fn at hc ARk
        clear hE
        go_wp2_with (first
          | (go_at_call 60; refine (ARk.out true HE.out _ hb1r).mono ?_; rintro e w7 ⟨rfl, hb7⟩; have hN7 := bthen hN hb7; have hs7 := hN7.size; have hown7 : World.ownsRow _ _ _ _ _ _ _ := (HOWN.out).below hb7)
          | (at_builtin; refine wpList_append_own _ rfl _ _ 35 rfl w6.heap.size 2 i0 (.int .i64 0) 1 8 Try.underlying35 hi hz0 hz1 hz2 rfl (by decide) _ _ _ rfl (hown7.alloc _) ⟨w7.heap.size, 0, none⟩ 1 1 [.int .i64 _] rfl rfl (cell_one_new _ _ _) (one_cell_int _) (by unfold maxLen; omega) (by omega) (by simp; omega) ?_; intro v' w1 hown' hgrow _; have hN' := (balloc hN7 _).grown hgrow (by simp; omega) (fun j e => (hown7.lt j e).1); clear hgrow hown7))
        go_roundw
        case rel => exact ⟨k + 1, by omega, by go_num, by rw [HS.out]; unfold Owns; rw [ints_snoc, List.length_append]; exact hown', hN'⟩
        case measure => simp [intOf]; omega
    · obtain rfl : k = 6 := by omega
      have HOWN := Lib.hid hown
      have hNN := Lib.hid hN
      clear hown
      go_wp2
      go_ret2
      exact ⟨_, rfl, Owns.mono HOWN.out (by omega), bthen hB6 hNN.out⟩
end Go.Proofs.Ythkmapflbopdpaa

/- EC2:
  EasyClasses of the model; both. -/
namespace Go.Proofs.Ythkmapflbopdpaa
open Go.RowKit
set_option linter.unusedVariables false
set_option linter.unusedSimpArgs false

/-- The model's list: after j clauses, and q classes of the next one. -/
def exI (cs : List Cl) (j q : Nat) : List Int := (List.range 6).map fun i => if i < q then ((isE cs (j + 1) i).toNat : Int) else ((isE cs j i).toNat : Int)
def exT (cs : List Cl) (j : Nat) : List Int := (List.range 6).map fun i => ((isE cs j i).toNat : Int)
theorem exI_first (cs : List Cl) (j : Nat) : exI cs j 0 = exT cs j := by
  unfold exI exT
  exact List.map_congr_left fun i _ => if_neg (by omega)
theorem exI_last (cs : List Cl) (j : Nat) : exI cs j 6 = exT cs (j + 1) := by
  unfold exI exT
  exact List.map_congr_left fun i hi => if_pos (by simpa using hi)
theorem exI_set (cs : List Cl) (j q : Nat) : exI cs j (q + 1) = (exI cs j q).set q ((isE cs (j + 1) q).toNat : Int) := by
  unfold exI
  refine List.ext_getElem (by simp) fun i h1 h2 => ?_
  simp only [List.getElem_map, List.getElem_range, List.getElem_set]
  by_cases h3 : q = i
  · subst h3; rw [if_pos (by omega), if_pos rfl]
  · rw [if_neg h3]
    by_cases h4 : i < q
    · rw [if_pos h4, if_pos (by omega)]
    · rw [if_neg h4, if_neg (by omega)]
theorem exT_zero (cs : List Cl) : ints (exT cs 0) = [.int .i64 1, .int .i64 1, .int .i64 1, .int .i64 1, .int .i64 1, .int .i64 1] := rfl
theorem ints_get {xs : List Int} {i : Nat} (h : i < xs.length) : (ints xs)[i]? = some (.int .i64 (vget xs i)) := by simp [ints, vget, h]
theorem exI_at (cs : List Cl) (j q : Nat) (h : q < 6) : vget (exI cs j q) q = ((isE cs j q).toNat : Int) := by simp [vget, exI, h]
theorem exT_at (cs : List Cl) (j q : Nat) (h : q < 6) : vget (exT cs j) q = ((isE cs j q).toNat : Int) := by simp [vget, exT, h]
theorem ezL_at (y P R q : Nat) (h : q < 6) : vget (ezL y P R 6) q = ((ezB y P R q).toNat : Int) := by simp [vget, ezL, h]
theorem bool_mul (a b : Bool) : IntKind.i64.wrap ((a.toNat : Int) * (b.toNat : Int)) = ((a && b).toNat : Int) := by
  cases a <;> cases b <;> decide
/-- A cell of six. -/
theorem six_cell {W : World} {base g : Nat} {xs : List Int} (h : W.ownsRow base 2 1 (.slice (some ⟨g, 0, none⟩) 6 6) 6 (ints xs)) (hl : xs.length = 6) (q : Nat) (hq : q < 6) : W.cell? ⟨g, q, none⟩ = some (.int .i64 (vget xs q)) ∧ W.frozen? ⟨g, q, none⟩ = false := by
  refine ⟨?_, World.ownsRow.frozenAt h q⟩
  rw [World.ownsRow.cellAt h q (by omega)]
  exact ints_get (by omega)

set_option maxRecDepth 100000 in
set_option maxHeartbeats 2000000 in
theorem specEasyClasses_no {m : Int} {cs : List Cl} (hl : cs.length ≤ 1048576) (hr : ∀ k, k < cs.length → (cget cs k).vs.length ≤ 1048576) (hI : isI m cs = false) {s : Value} (w : World) (h : AtC w s cs) :
    Calls Try.prog 23 #[.agg #[.int .i64 m, s]] w (ListCodePost w.heap.size [] 1 w) := by
  obtain ⟨sa, cap, hs, _⟩ := id h
  obtain ⟨W1, hW1⟩ : ∃ W1, w.alloc (.cells #[.int .i64 m, s] 29) = W1 := ⟨_, rfl⟩
  have p0 : W1.cell? ⟨w.heap.size, 0, none⟩ = some (.int .i64 m) := by rw [← hW1]; simp [go_sem]
  have p1 : W1.cell? ⟨w.heap.size, 1, none⟩ = some s := by rw [← hW1]; simp [go_sem]
  have hB : Below w.heap.size w W1 := by rw [← hW1]; exact bnew _ _
  have II := Lib.hid (l09Is_any hl hr hI W1 (h.below hB))
  subst hs
  clear h hr hI
  go_enter Try.func23, Try.ntmps23
  go_wp2_with (go_at_call 51; refine (II.out).mono ?_; rintro e w5 ⟨rfl, hb5⟩)
  refine bodyPost_ret (v := .tuple #[.slice none 0 0, .int .i64 1]) (by simp [results, Try.results23, go_sem]) rfl ⟨_, rfl, Owns.nil _ _, bthen hB hb5⟩

set_option maxRecDepth 100000 in
set_option maxHeartbeats 8000000 in
theorem specEasyClasses_yes {m : Int} {cs : List Cl} (hI : isI m cs = true) {s : Value} (w : World) (h : AtC w s cs) :
    Calls Try.prog 23 #[.agg #[.int .i64 m, s]] w (ListCodePost w.heap.size (ecL cs cs.length 6) 0 w) := by
  obtain ⟨i0, hi, hz0, hz1, hz2⟩ := info_parts infoI
  obtain ⟨sa, cap, hs, _⟩ := id h
  obtain ⟨m0, m8, h12, hcl⟩ := isI_parts hI
  obtain ⟨W1, hW1⟩ : ∃ W1, w.alloc (.cells #[.int .i64 m, s] 29) = W1 := ⟨_, rfl⟩
  have p0 : W1.cell? ⟨w.heap.size, 0, none⟩ = some (.int .i64 m) := by rw [← hW1]; simp [go_sem]
  have p1 : W1.cell? ⟨w.heap.size, 1, none⟩ = some s := by rw [← hW1]; simp [go_sem]
  have hB : Below w.heap.size w W1 := by rw [← hW1]; exact bnew _ _
  have II := Lib.hid (l09Is_any (by omega) (fun k hk => by have := isI_rows hI k hk; omega) hI W1 (h.below hB))
  subst hs
  have HAT := Lib.hid h
  have HCL := Lib.hid hcl
  clear h hI hcl
  generalize hn : cs.length = n at h12 p1 hW1 II HAT HCL ⊢
  have HN := Lib.hid hn
  clear hn
  go_enter Try.func23, Try.ntmps23
  go_wp2_with fail
  clear hW1
  refine (II.out).mono ?_
  rintro e w5 ⟨rfl, hb5⟩
  have q0 := kc hb5 p0
  have q1 := kc hb5 p1
  have hB5 := bthen hB hb5
  have hs5 : w.heap.size < w5.heap.size := cell_lt q0
  obtain ⟨W6, hW6⟩ : ∃ W6, (w5.alloc (.cells #[.int .i64 1, .int .i64 1, .int .i64 1, .int .i64 1, .int .i64 1, .int .i64 1] 2)).alloc (.cells #[] 2) = W6 := ⟨_, rfl⟩
  have hb6 : Below w5.heap.size w5 W6 := by rw [← hW6]; exact balloc (bnew _ _) _
  have own6 : W6.ownsRow w5.heap.size 2 1 (.slice (some ⟨w5.heap.size, 0, none⟩) 6 6) 6 (ints (exT cs 0)) := by
    rw [← hW6, exT_zero]
    exact World.ownsRow.alloc (World.ownsRow_lit w5 #[.int .i64 1, .int .i64 1, .int .i64 1, .int .i64 1, .int .i64 1, .int .i64 1] 6 (Nat.le_refl _) (by decide) rfl) _
  have nil6 : Owns W6 (w5.heap.size + 1) (.slice (some ⟨w5.heap.size + 1, 0, none⟩) 0 0) [] := by
    have h1 : ((w5.alloc (.cells #[.int .i64 1, .int .i64 1, .int .i64 1, .int .i64 1, .int .i64 1, .int .i64 1] 2)).alloc (.cells #[] 2)).ownsRow (w5.heap.size + 1) 2 1 (.slice (some ⟨(w5.alloc (.cells #[.int .i64 1, .int .i64 1, .int .i64 1, .int .i64 1, .int .i64 1, .int .i64 1] 2)).heap.size, 0, none⟩) 0 0) 0 [] := World.ownsRow_lit _ #[] 0 (by simp) (by decide) rfl
    rw [hW6] at h1
    unfold Owns
    simpa [ints] using h1
  have r0 := kc hb6 q0
  have r1 := kc hb6 q1
  have hB6 := bthen hB5 hb6
  clear p0 p1 q0 q1 II hb5
  go_wp2_with fail
  clear hW6
  have hg5 : w.heap.size < w5.heap.size := hs5
  generalize w5.heap.size = g at own6 nil6 hg5
  go_loopw [6] (fun i' wr => ∃ j : Nat, j ≤ n ∧ i' = .int .i64 j ∧ Hid (wr.ownsRow g 2 1 (.slice (some ⟨g, 0, none⟩) 6 6) 6 (ints (exT cs j))) ∧ Hid (Owns wr (g + 1) (.slice (some ⟨g + 1, 0, none⟩) 0 0) []) ∧ (wr.cell? ⟨w.heap.size, 0, none⟩ = some (.int .i64 m) ∧ wr.cell? ⟨w.heap.size, 1, none⟩ = some (.slice sa n cap)) ∧ Below w.heap.size w wr) (fun i' _ => n - (intOf i').toNat)
  case atStart => exact ⟨0, by omega, rfl, Lib.hid own6, Lib.hid nil6, ⟨r0, r1⟩, hB6⟩
  case round =>
    clear own6 nil6 r0 r1 hB6 hb6
    obtain ⟨j, hjn, rfl, HO, HZ, ⟨z0, z1⟩, hN⟩ := hrel
    by_cases hlt : j < n
    · obtain ⟨sg, v, b', rfl, e0, e1, e2, ho⟩ := (HAT.out).row HN.out hlt
      obtain ⟨y, R', hy, ok⟩ := cok (HCL.out j hlt)
      have d0 := kc hN e0
      have d1 := kc hN e1
      rw [hy] at d1
      have RW := Lib.hid (fun V => l09Row_any ok.len.symm ok.rel V)
      have HE : Hid (∀ q, isE cs (j + 1) q = (isE cs j q && ezB y (cget cs j).vs.length R' q)) := Lib.hid fun q => by rw [isE_succ, clE_ok hy ok]
      clear ok hy e0 e1 e2 ho
      generalize (cget cs j).p = pp at d0 RW
      generalize (cget cs j).vs.length = P at RW HE
      go_wp2_with fail
      refine (RW.out _).mono ?_
      rintro e w7 ⟨rv, rfl, ho7, hb7⟩
      obtain ⟨ra, rc, rfl, hcl7⟩ := Owns.cellsG ho7
      rw [ezL_len] at hcl7 ⊢
      obtain ⟨g2, rfl, hg2, hrow⟩ := hcl7.resolve_left (by omega)
      have hgw : g < wr.heap.size := (World.ownsRow.lt HO.out g rfl).2
      have HO7 : Hid (w7.ownsRow g 2 1 (.slice (some ⟨g, 0, none⟩) 6 6) 6 (ints (exI cs j 0))) := Lib.hid (by rw [exI_first]; exact owns_below HO.out hb7)
      have HZ7 := Lib.hid (Owns.below HZ.out hb7)
      have t0 := kc hb7 z0
      have t1 := kc hb7 z1
      have hN7 := bthen hN hb7
      have HR7 : Hid (∀ q, q < 6 → w7.cell? ⟨g2, q, none⟩ = some (.int .i64 ((ezB y P R' q).toNat : Int))) := Lib.hid fun q hq => by rw [hrow.out q hq, ezL_at _ _ _ _ hq]
      clear ho7 hb7 hrow z0 z1 HO HZ hN hcl7
      go_wp2
      go_loopw [8] (fun i' wr2 => ∃ q : Nat, q ≤ 6 ∧ i' = .int .i64 q ∧ Hid (wr2.ownsRow g 2 1 (.slice (some ⟨g, 0, none⟩) 6 6) 6 (ints (exI cs j q))) ∧ Hid (Owns wr2 (g + 1) (.slice (some ⟨g + 1, 0, none⟩) 0 0) []) ∧ Hid (∀ q, q < 6 → wr2.cell? ⟨g2, q, none⟩ = some (.int .i64 ((ezB y P R' q).toNat : Int))) ∧ (wr2.cell? ⟨w.heap.size, 0, none⟩ = some (.int .i64 m) ∧ wr2.cell? ⟨w.heap.size, 1, none⟩ = some (.slice (some ⟨sg, 0, none⟩) n cap)) ∧ Below w.heap.size w wr2) (fun i' _ => 6 - (intOf i').toNat)
      case atStart => exact ⟨0, by omega, rfl, HO7, HZ7, HR7, ⟨t0, t1⟩, hN7⟩
      case round =>
        clear HO7 HZ7 HR7 t0 t1 hN7
        obtain ⟨q, hq6, rfl, HO, HZ, HR, ⟨z0, z1⟩, hN⟩ := hrel
        by_cases hq : q < 6
        · obtain ⟨c4, f4⟩ := six_cell HO.out (by simp [exI]) q hq
          rw [exI_at cs j q hq] at c4
          have c7 := HR.out q hq
          have hmul := bool_mul (isE cs j q) (ezB y P R' q)
          rw [← HE.out q] at hmul
          have hst := World.ownsRow.stored HO.out q (.int .i64 ((isE cs (j + 1) q).toNat : Int))
          rw [← ints_set, ← exI_set] at hst
          have HST := Lib.hid hst
          have hk1 : w.heap.size ≠ g := by omega
          have hk2 : g2 ≠ g := by omega
          have hw := w64
          clear hst
          generalize ((isE cs j q).toNat : Int) = av at c4 hmul
          generalize ((ezB y P R' q).toNat : Int) = bv at c7 hmul
          generalize ((isE cs (j + 1) q).toNat : Int) = rv at HST hmul
          have hqi : (q : Int) < 6 := by omega
          go_wp2
          go_region
          all_goals
            go_wp2
            go_roundw
            case rel =>
              have hd : Below (wr.setCell ⟨g, q, none⟩ (.int .i64 rv)).heap.size (wr.setCell ⟨g, q, none⟩ (.int .i64 rv)) (wr.setCell ⟨g, q, none⟩ (.int .i64 rv)).drew := (Below.refl _ _).drew
              have hg9 := HST.out.2
              refine ⟨q + 1, by omega, by go_num, Lib.hid (owns_below HST.out.1 hd), Lib.hid ?_, Lib.hid fun i hi => kc hd (hg9.cell (HR.out i hi) (by simp [Value.ownBlock]; exact hk2)), ⟨kc hd (hg9.cell z0 (by simp [Value.ownBlock]; exact hk1)), kc hd (hg9.cell z1 (by simp [Value.ownBlock]; exact hk1))⟩, (hN.setCell (p := ⟨g, q, none⟩) (by show _ ≤ g; omega) _).drew⟩
              have hz9 : Owns (wr.setCell ⟨g, q, none⟩ (.int .i64 rv)) (g + 1) (.slice (some ⟨g + 1, 0, none⟩) 0 0) [] := World.ownsRow.kept HZ.out hg9 (.inr (by simp [Value.ownBlock]))
              exact Owns.below hz9 hd
            case measure => simp [intOf]; omega
        · obtain rfl : q = 6 := by omega
          go_wp2
          go_roundw
          case rel => exact ⟨j + 1, by omega, by go_num, Lib.hid (by rw [← exI_last]; exact HO.out), HZ, ⟨z0, z1⟩, hN⟩
          case measure => simp [intOf]; omega
    · obtain rfl : j = n := by omega
      have HC : Hid (∀ q, q < 6 → wr.cell? ⟨g, q, none⟩ = some (.int .i64 ((isE cs j q).toNat : Int))) := Lib.hid fun q hq => by rw [(six_cell HO.out (by simp [exT]) q hq).1, exT_at cs j q hq]
      have hgw : g < wr.heap.size := (World.ownsRow.lt HO.out g rfl).2
      clear HO
      go_wp2
      clear z0 z1
      go_loopw [5, 9] (fun v' i' wr2 => ∃ k : Nat, k ≤ 6 ∧ i' = .int .i64 k ∧ Hid (Owns wr2 (g + 1) v' (ecL cs j k)) ∧ Hid (∀ q, q < 6 → wr2.cell? ⟨g, q, none⟩ = some (.int .i64 ((isE cs j q).toNat : Int))) ∧ Below w.heap.size w wr2 ∧ g < wr2.heap.size) (fun _ i' _ => 6 - (intOf i').toNat)
      case atStart => exact ⟨0, by omega, rfl, HZ, HC, hN, hgw⟩
      case round =>
        clear HZ HC hN hgw
        obtain ⟨k, hk6, rfl, HZ, HC, hN, hgw⟩ := hrel
        by_cases hk : k < 6
        · have c4 := HC.out k hk
          have hki : (k : Int) < 6 := by omega
          have hlen := ecL_len cs j k
          cases hE : isE cs j k
          · rw [hE] at c4
            have HS := Lib.hid (ecL_no hE)
            clear hE
            change _ = some (Value.int .i64 0) at c4
            go_wp2
            go_roundw
            case rel => exact ⟨k + 1, by omega, by go_num, by rw [HS.out]; exact HZ, HC, hN, hgw⟩
            case measure => simp [intOf]; omega
          · rw [hE] at c4
            have HS := Lib.hid (ecL_yes hE)
            clear hE
            change _ = some (Value.int .i64 1) at c4
            have hown7 : World.ownsRow _ _ _ _ _ _ _ := HZ.out
            go_wp2_with (at_builtin; refine wpList_append_own _ rfl _ _ 35 rfl (g + 1) 2 i0 (.int .i64 0) 1 8 Try.underlying35 hi hz0 hz1 hz2 rfl (by decide) _ _ _ rfl (hown7.alloc _) ⟨wr.heap.size, 0, none⟩ 1 1 [.int .i64 _] rfl rfl (cell_one_new _ _ _) (one_cell_int _) (by unfold maxLen; omega) (by omega) (by simp; omega) ?_; intro v' w1 hown' hgrow _)
            have HF : Hid ((Owns w1 (g + 1) v' (ecL cs j (k + 1))) ∧ (∀ q, q < 6 → w1.cell? ⟨g, q, none⟩ = some (.int .i64 ((isE cs j q).toNat : Int))) ∧ Below w.heap.size w w1 ∧ g < w1.heap.size) := Lib.hid ⟨by rw [HS.out]; unfold Owns; rw [ints_snoc, List.length_append]; exact hown',
              fun q hq => hgrow.cell (kc (bnew _ _) (HC.out q hq)) (fun e => by have := (hown7.lt _ e.symm).1; simp only [] at this; omega),
              (balloc hN _).grown hgrow (by simp; omega) (fun j e => by have := (hown7.lt j e).1; omega), by have := hgrow.size; simp at this; omega⟩
            clear hown' hgrow hown7
            go_roundw
            case rel => exact ⟨k + 1, by omega, by go_num, Lib.hid HF.out.1, Lib.hid HF.out.2.1, HF.out.2.2.1, HF.out.2.2.2⟩
            case measure => simp [intOf]; omega
        · obtain rfl : k = 6 := by omega
          go_wp2
          go_ret2
          exact ⟨_, rfl, Owns.mono HZ.out (by omega), hN⟩

theorem bothEasyClasses {cs : List Cl} (hl : cs.length ≤ 1048576) (hr : ∀ k, k < cs.length → (cget cs k).vs.length ≤ 1048576) (m : Int) : ∃ (ys : List Int) (rc : Int), ys.length ≤ 100000 ∧
    (∀ s w, AtC w s cs → Calls Try.prog 23 #[.agg #[.int .i64 m, s]] w (ListCodePost w.heap.size ys rc w)) ∧
    (∀ s w, AtC w s cs → Calls Try.prog 24 #[.agg #[.int .i64 m, s]] w (ListCodePost w.heap.size ys rc w)) := by
  cases hI : isI m cs
  · exact ⟨[], 1, by simp, fun s w h => specEasyClasses_no hl hr hI w h, fun s w h => implEasyClasses_no hl hr hI w h⟩
  · exact ⟨ecL cs cs.length 6, 0, by have := ecL_len cs cs.length 6; omega, fun s w h => specEasyClasses_yes hI w h, fun s w h => implEasyClasses_yes hI w h⟩
end Go.Proofs.Ythkmapflbopdpaa

/- FEasyClasses:
  The walk of the law on EasyClasses: both packages answer alike, and what came in is as it was. -/
namespace Go.Proofs.Ythkmapflbopdpaa
open Go.RowKit
set_option linter.unusedVariables false
set_option linter.unusedSimpArgs false

set_option maxRecDepth 100000 in
set_option maxHeartbeats 8000000 in
theorem fnExactEasyClasses_walk (m : Int) (a : Option Addr) (len cap : Nat) (cs : List Cl) (w : World) (hr0 : IsRowC w a len cs) :
    Calls Try.prog 5 #[.agg #[.int .i64 m, .slice a len cap]] w fun e w' => e = .returned (.bool true) ∧ Below w.heap.size w w' := by
  have hcl := hr0.1
  by_cases ht : len + szN cs len ≤ 1048576
  · have hcs := inst_sizes hcl ht
    obtain ⟨ys, rc, hlen, c1, c2⟩ := bothEasyClasses hcs.1 hcs.2 m
    have C1 := Lib.hid c1
    have C2 := Lib.hid c2
    have HR := Lib.hid hr0
    have HT := Lib.hid ht
    have HSZ : Hid (cs.length + szN cs cs.length ≤ 1048576) := Lib.hid (by rw [hcl]; exact ht)
    have hcs2 : cs.length ≤ 100000000 ∧ ∀ k, k < cs.length → (cget cs k).vs.length ≤ 100000000 := ⟨by omega, fun k hk => by have := hcs.2 k hk; omega⟩
    have hd0 : decide ((1048576 : Int) - (len : Int) - ((szN cs len : Nat) : Int) < 0) = false := by simp only [decide_eq_false_iff_not]; omega
    have hdk : decide (kAt 1 cs cs.length < 0) = false := kAt_neg (by omega)
    replace hcs := hcs2
    clear c1 c2 hr0 ht hcs2 hcl
    obtain ⟨W1, hW1⟩ : ∃ W1, w.alloc (.cells #[.int .i64 m, .slice a len cap] 24) = W1 := ⟨_, rfl⟩
    have qa : W1.cell? ⟨w.heap.size, 0, none⟩ = some (.int .i64 m) := by rw [← hW1]; simp [go_sem]
    have qb : W1.cell? ⟨w.heap.size, 1, none⟩ = some (.slice a len cap) := by rw [← hW1]; simp [go_sem]
    have hN : Below w.heap.size w W1 := by rw [← hW1]; exact bnew _ _
    go_enter Try.func5, Try.ntmps5
    go_wp2_with fail
    clear hW1
    go_wp2_with fail
    refine (szInstance_ok HR.out HT.out _ hN).mono ?_
    rintro e w2 ⟨rfl, hb⟩
    replace hN := bthen hN hb
    have q1 := kc hb qa; have q2 := kc hb qb
    clear hb qa qb
    go_wp2_with fail
    have ba3 := Lib.hid (cell_lt q1)
    have hs_O1 := Lib.hid hN.size
    go_wp2_with fail
    refine (toInst_any HR.out HT.out _ hN).mono ?_
    rintro e w3 ⟨xa1, xc1, ss1, rfl, o, hb⟩
    have O1 := Lib.hid o
    clear o
    replace hN := bthen hN hb
    have q4 := kc hb q1; have q5 := kc hb q2
    clear hb q1 q2
    go_wp2_with fail
    have ba6 := Lib.hid (cell_lt q4)
    have ap7 := Lib.hid O1.out.top
    have hs_R1 := Lib.hid hN.size
    go_wp2_with fail
    refine (C1.out _ _ O1.out.at).mono ?_
    rintro e w4 ⟨s1, rfl, o, hb⟩
    have R1 := Lib.hid (OB.new o)
    clear o
    replace hN := bthen hN hb
    have q8 := kc hb q4; have q9 := kc hb q5
    replace O1 := Lib.hid (O1.out.below hb)
    clear hb q4 q5
    clear O1
    go_wp2_with fail
    have ba10 := Lib.hid (cell_lt q8)
    have ap11 := Lib.hid R1.out.top
    have hs_O2 := Lib.hid hN.size
    go_wp2_with fail
    refine (toInst_any HR.out HT.out _ hN).mono ?_
    rintro e w5 ⟨xa2, xc2, ss2, rfl, o, hb⟩
    have O2 := Lib.hid o
    clear o
    replace hN := bthen hN hb
    have q12 := kc hb q8; have q13 := kc hb q9
    replace R1 := Lib.hid (R1.out.below hb)
    clear hb q8 q9
    obtain ⟨W14, hW15, q16, q17, hb⟩ := ansBoxI m (.slice xa2 cs.length xc2) w5
    have ab18 := Lib.hid R1.out.top
    have ab19 := Lib.hid O2.out.top
    replace hN := bthen hN hb
    have q20 := kc hb q12; have q21 := kc hb q13
    replace R1 := Lib.hid (R1.out.below hb)
    replace O2 := Lib.hid (O2.out.below hb)
    clear hb q12 q13
    go_wp2_with fail
    clear hW15
    go_wp2_with fail
    have ba22 := Lib.hid (cell_lt q20)
    have ba23 := Lib.hid (cell_lt q16)
    have ap24 := Lib.hid R1.out.top
    have ap25 := Lib.hid O2.out.top
    have hs_R2 := Lib.hid hN.size
    go_wp2_with fail
    refine (C2.out _ _ O2.out.at).mono ?_
    rintro e w6 ⟨s2, rfl, o, hb⟩
    have R2 := Lib.hid (OB.new o)
    clear o
    replace hN := bthen hN hb
    have q26 := kc hb q20; have q27 := kc hb q21
    have q28 := kc hb q16; have q29 := kc hb q17
    replace R1 := Lib.hid (R1.out.below hb)
    replace O2 := Lib.hid (O2.out.below hb)
    clear hb q20 q21 q16 q17
    go_wp2_with fail
    refine (eqInt64S_same (by omega) _ R2.out.own R1.out.own).mono ?_
    rintro e w7 ⟨rfl, hb⟩
    replace hN := bthen hN hb
    have q30 := kc hb q26; have q31 := kc hb q27
    have q32 := kc hb q28; have q33 := kc hb q29
    replace R1 := Lib.hid (R1.out.below hb)
    replace O2 := Lib.hid (O2.out.below hb)
    replace R2 := Lib.hid (R2.out.below hb)
    clear hb q26 q27 q28 q29
    -- the program's argument is as it was
    go_wp2_with fail
    have MK : Hid (∀ V : World, Below w7.heap.size w7 V → (((V.cell? ⟨w.heap.size, 0, none⟩ = some (.int .i64 m) ∧ V.cell? ⟨w.heap.size, 1, none⟩ = some (.slice a len cap)) ∧ (V.cell? ⟨w5.heap.size, 0, none⟩ = some (.int .i64 m) ∧ V.cell? ⟨w5.heap.size, 1, none⟩ = some (.slice xa2 cs.length xc2))) ∧ Below w7.heap.size w7 V)) := Lib.hid fun V h => ⟨⟨⟨kc h q30, kc h q31⟩, kc h q32, kc h q33⟩, h⟩
    have ST : Hid (∀ V V' : World, Below V.heap.size V V' → (((V.cell? ⟨w.heap.size, 0, none⟩ = some (.int .i64 m) ∧ V.cell? ⟨w.heap.size, 1, none⟩ = some (.slice a len cap)) ∧ (V.cell? ⟨w5.heap.size, 0, none⟩ = some (.int .i64 m) ∧ V.cell? ⟨w5.heap.size, 1, none⟩ = some (.slice xa2 cs.length xc2))) ∧ Below w7.heap.size w7 V) → (((V'.cell? ⟨w.heap.size, 0, none⟩ = some (.int .i64 m) ∧ V'.cell? ⟨w.heap.size, 1, none⟩ = some (.slice a len cap)) ∧ (V'.cell? ⟨w5.heap.size, 0, none⟩ = some (.int .i64 m) ∧ V'.cell? ⟨w5.heap.size, 1, none⟩ = some (.slice xa2 cs.length xc2))) ∧ Below w7.heap.size w7 V')) := Lib.hid fun V V' hb h => MK.out V' (bthen h.2 hb)
    have HNC := Lib.hid hN
    have TI : Hid (∀ V : World, (((V.cell? ⟨w.heap.size, 0, none⟩ = some (.int .i64 m) ∧ V.cell? ⟨w.heap.size, 1, none⟩ = some (.slice a len cap)) ∧ (V.cell? ⟨w5.heap.size, 0, none⟩ = some (.int .i64 m) ∧ V.cell? ⟨w5.heap.size, 1, none⟩ = some (.slice xa2 cs.length xc2))) ∧ Below w7.heap.size w7 V) → _) := Lib.hid fun V h => toInst_any (m := m) (cap := cap) HR.out HT.out V (bthen HNC.out h.2)
    have EQ : Hid (∀ (V V0 : World) (s : Value), (((V.cell? ⟨w.heap.size, 0, none⟩ = some (.int .i64 m) ∧ V.cell? ⟨w.heap.size, 1, none⟩ = some (.slice a len cap)) ∧ (V.cell? ⟨w5.heap.size, 0, none⟩ = some (.int .i64 m) ∧ V.cell? ⟨w5.heap.size, 1, none⟩ = some (.slice xa2 cs.length xc2))) ∧ Below w7.heap.size w7 V) → AtC V0 s cs → Below V0.heap.size V0 V → _) := Lib.hid fun V V0 s h h1 h2 => eqInstance_same (m := m) hcs.1 hcs.2 V (O2.out.at.below h.2) (h1.below h2)
    go_region_held3 (fun V => ((V.cell? ⟨w.heap.size, 0, none⟩ = some (.int .i64 m) ∧ V.cell? ⟨w.heap.size, 1, none⟩ = some (.slice a len cap)) ∧ (V.cell? ⟨w5.heap.size, 0, none⟩ = some (.int .i64 m) ∧ V.cell? ⟨w5.heap.size, 1, none⟩ = some (.slice xa2 cs.length xc2))) ∧ Below w7.heap.size w7 V)
      (first
        | with_reducible exact MK.out _ (Below.refl _ _).drew
        | (with_reducible refine ST.out _ _ hbE ?_; with_reducible assumption)
        | (with_reducible refine ST.out _ _ hbT ?_; with_reducible assumption)
        | with_reducible assumption)
      (first
        | (go_at_call 16; with_reducible refine (EQ.out _ _ _ (by with_reducible assumption) (o7.at) (by first | exact Below.refl _ _ | exact (Below.refl _ _).drew)).mono ?_; rintro e w8 ⟨rfl, hbE⟩; have T8 := ST.out _ _ hbE (by with_reducible assumption))
        | (go_at_call 14; with_reducible refine (TI.out _ (by with_reducible assumption)).mono ?_; rintro e w7 ⟨xa7, xc7, ss7, rfl, o7, hbT⟩; have T7 := ST.out _ _ hbT (by with_reducible assumption)))
    have hb := T8.2
    clear T8 T7 hbE hbT o7 MK ST TI EQ HNC
    replace hN := bthen hN hb
    have q34 := kc hb q30; have q35 := kc hb q31
    have q36 := kc hb q32; have q37 := kc hb q33
    replace R1 := Lib.hid (R1.out.below hb)
    replace O2 := Lib.hid (O2.out.below hb)
    replace R2 := Lib.hid (R2.out.below hb)
    clear hb q30 q31 q32 q33
    go_wp2_with fail
    refine (markInstance_any HSZ.out _ O2.out).mono ?_
    rintro e w8 ⟨rfl, o, hw⟩
    replace hN := Below.within hN hw hs_O2.out hN.size
    have q38 := hw.cell q34 (.inl ba10.out); have q39 := hw.cell q35 (.inl ba10.out)
    have q40 := hw.cell q36 (.inr ab19.out); have q41 := hw.cell q37 (.inr ab19.out)
    replace R1 := Lib.hid (R1.out.apart hw (.inl ap11.out))
    replace R2 := Lib.hid (R2.out.apart hw (.inr ap25.out))
    replace O2 := Lib.hid o
    clear o hw q34 q35 q36 q37
    go_wp2_with fail
    refine (eqInt64S_same (by omega) _ R2.out.own R1.out.own).mono ?_
    rintro e w9 ⟨rfl, hb⟩
    replace hN := bthen hN hb
    have q42 := kc hb q38; have q43 := kc hb q39
    have q44 := kc hb q40; have q45 := kc hb q41
    replace R1 := Lib.hid (R1.out.below hb)
    replace O2 := Lib.hid (O2.out.below hb)
    replace R2 := Lib.hid (R2.out.below hb)
    clear hb q38 q39 q40 q41
    clear O2
    clear q44 q45
    go_wp2_with fail
    refine (OB.mark R2.out (by omega)).mono ?_
    rintro e w10 ⟨rfl, o, hw⟩
    replace hN := Below.within hN hw hs_R2.out hN.size
    have q46 := hw.cell q42 (.inl ba22.out); have q47 := hw.cell q43 (.inl ba22.out)
    replace R1 := Lib.hid (R1.out.apart hw (.inl ap24.out))
    replace R2 := Lib.hid o
    clear o hw q42 q43
    go_wp2_with fail
    refine (held_any (by omega) 1 (by omega) (by omega) _ R2.out.own).mono ?_
    rintro e w11 ⟨rfl, rfl⟩
    go_wp2_with fail
    have ba48 := Lib.hid (cell_lt q46)
    have ap49 := Lib.hid R1.out.top
    have ap50 := Lib.hid R2.out.top
    have hs_O3 := Lib.hid hN.size
    go_wp2_with fail
    refine (toInst_any HR.out HT.out _ hN).mono ?_
    rintro e w12 ⟨xa3, xc3, ss3, rfl, o, hb⟩
    have O3 := Lib.hid o
    clear o
    replace hN := bthen hN hb
    have q51 := kc hb q46; have q52 := kc hb q47
    replace R1 := Lib.hid (R1.out.below hb)
    replace R2 := Lib.hid (R2.out.below hb)
    clear hb q46 q47
    go_wp2_with fail
    have ba53 := Lib.hid (cell_lt q51)
    have ap54 := Lib.hid R1.out.top
    have ap55 := Lib.hid R2.out.top
    have ap56 := Lib.hid O3.out.top
    have hs_R3 := Lib.hid hN.size
    go_wp2_with fail
    refine (C2.out _ _ O3.out.at).mono ?_
    rintro e w13 ⟨s3, rfl, o, hb⟩
    have R3 := Lib.hid (OB.new o)
    clear o
    replace hN := bthen hN hb
    have q57 := kc hb q51; have q58 := kc hb q52
    replace R1 := Lib.hid (R1.out.below hb)
    replace R2 := Lib.hid (R2.out.below hb)
    replace O3 := Lib.hid (O3.out.below hb)
    clear hb q51 q52
    clear O3
    go_wp2_with fail
    refine (eqInt64S_same (by omega) _ R3.out.own R1.out.own).mono ?_
    rintro e w14 ⟨rfl, hb⟩
    replace hN := bthen hN hb
    have q59 := kc hb q57; have q60 := kc hb q58
    replace R1 := Lib.hid (R1.out.below hb)
    replace R2 := Lib.hid (R2.out.below hb)
    replace R3 := Lib.hid (R3.out.below hb)
    clear hb q57 q58
    clear R3
    go_wp2_with fail
    refine (held_any (by omega) 1 (by omega) (by omega) _ R2.out.own).mono ?_
    rintro e w15 ⟨rfl, rfl⟩
    go_wp2
    go_ret
    exact ⟨rfl, hN⟩
  · obtain ⟨W1, hW1⟩ : ∃ W1, w.alloc (.cells #[.int .i64 m, .slice a len cap] 24) = W1 := ⟨_, rfl⟩
    have qa : W1.cell? ⟨w.heap.size, 0, none⟩ = some (.int .i64 m) := by rw [← hW1]; simp [go_sem]
    have qb : W1.cell? ⟨w.heap.size, 1, none⟩ = some (.slice a len cap) := by rw [← hW1]; simp [go_sem]
    have hN : Below w.heap.size w W1 := by rw [← hW1]; exact bnew _ _
    have HC := Lib.hid (szInstance_over (m := m) (cap := cap) hr0 ht W1 hN)
    clear hr0 ht
    go_enter Try.func5, Try.ntmps5
    go_wp2_with (go_at_call 12; (try rw [hW1]); refine (HC.out).mono ?_; rintro e w' ⟨rfl, hb⟩)
    go_ret
    exact ⟨rfl, bthen hN hb⟩
end Go.Proofs.Ythkmapflbopdpaa
