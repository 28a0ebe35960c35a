/-
  The texts AB1, NM1, NM2, RE1, RE2, CM1, NX1, NP1, NQ1, NQ2, NQ3 in one.
-/
import Derived.Test.YtbdhlokbpbiijabMPIsIdempotent4
import Derived.RangeFuncNested
import Derived.StillTailTactics

/- AB1:
  slices.Values at a list of functions: its iterator by contract. -/
namespace Go.Proofs.Ytbdhlokbpbiijab
open Go.RowKit Go.Shelf
attribute [local go_sem] Oper.semAt_some
set_option linter.unusedVariables false
set_option linter.unusedSimpArgs false

/-- The first k places of a list of m. -/
def rowsUp (m k : Nat) : List (Row m) := (List.range k).filterMap fun i => if h : i < m then some ⟨i, h⟩ else none
theorem rowsUp_succ {m k : Nat} (h : k < m) : rowsUp m (k + 1) = rowsUp m k ++ [⟨k, h⟩] := by simp [rowsUp, List.range_succ, h]
theorem rowsUp_len {m k : Nat} (h : k ≤ m) : (rowsUp m k).length = k := by
  induction k with
  | zero => rfl
  | succ k ih => rw [rowsUp_succ (by omega), List.length_append, ih (by omega)]; rfl
theorem rowsUp_map {m k : Nat} (h : k ≤ m) : (rowsUp m k).map (·.1) = List.range k := by
  induction k with
  | zero => rfl
  | succ k ih => rw [rowsUp_succ (by omega), List.map_append, ih (by omega), List.range_succ]; rfl

/-- A function of a list as it is handed out. -/
def encV (xs : List (Int × Int)) {m : Nat} (x : Row m) : Array Value := #[.agg #[.int .i64 (fget xs x.1).1, .int .i64 (fget xs x.1).2]]

/-- What a round keeps: the iterator's box, the list's cells. -/
def KeepV (Bs : Nat) (a : Option Addr) (m n₀ : Nat) (A C : World) : Prop :=
  Below n₀ A C ∧ (∀ v, A.cell? ⟨Bs, 0, none⟩ = some v → C.cell? ⟨Bs, 0, none⟩ = some v) ∧ ∀ g, a = some ⟨g, 0, none⟩ → ∀ j, j < m * 2 → ∀ v, A.cell? ⟨g, j, none⟩ = some v → C.cell? ⟨g, j, none⟩ = some v
theorem keepV_t {Bs : Nat} {a : Option Addr} {m n₀ : Nat} {A C D : World} (h : KeepV Bs a m n₀ A C) (k : KeepV Bs a m n₀ C D) : KeepV Bs a m n₀ A D :=
  ⟨h.1.trans k.1, fun v hv => k.2.1 v (h.2.1 v hv), fun g e j hj v hv => k.2.2 g e j hj v (h.2.2 g e j hj v hv)⟩
theorem keepV_b {Bs : Nat} {a : Option Addr} {m n₀ : Nat} {w : World} (hn : n₀ ≤ w.heap.size) (W : World) (l : Nat) (o o' : Obj) (hl : w.heap.size ≤ l) (h : W.heap[l]? = some o) (hc : o.isCells = false) (hw : o.isWalk = false) : KeepV Bs a m n₀ W (W.putObj l o') :=
  ⟨belowK_b hn W l o o' hl h hc hw, fun _ hv => cell_kept hv (grownBy_putObj' W l o') (fun r e => by cases e; exact ⟨o, h, hc⟩), fun g _ j _ _ hv => cell_kept hv (grownBy_putObj' W l o') (fun r e => by cases e; exact ⟨o, h, hc⟩)⟩
theorem keepV_below {Bs : Nat} {a : Option Addr} {m n₀ : Nat} {W W' : World} (hn : n₀ ≤ W.heap.size) (h : Below W.heap.size W W') : KeepV Bs a m n₀ W W' :=
  ⟨h.mono hn, fun _ hv => kc h hv, fun g _ j _ _ hv => kc h hv⟩

/-- The cells of a list of functions. -/
def CellsV (a : Option Addr) (m : Nat) (xs : List (Int × Int)) (W : World) : Prop := ∀ j, j < m → ∃ g, a = some ⟨g, 0, none⟩ ∧ W.cell? ⟨g, j * 2, none⟩ = some (.int .i64 (fget xs j).1) ∧ W.cell? ⟨g, j * 2 + 1, none⟩ = some (.int .i64 (fget xs j).2)
theorem CellsV.keep {a : Option Addr} {m Bs n₀ : Nat} {xs : List (Int × Int)} {W W' : World} (h : CellsV a m xs W) (k : KeepV Bs a m n₀ W W') : CellsV a m xs W' := fun j hj => by
  obtain ⟨g, e, h0, h1⟩ := h j hj
  exact ⟨g, e, k.2.2 g e _ (by omega) _ h0, k.2.2 g e _ (by omega) _ h1⟩
theorem CellsV.below {a : Option Addr} {m : Nat} {xs : List (Int × Int)} {W W' : World} (h : CellsV a m xs W) (hb : Below W.heap.size W W') : CellsV a m xs W' := fun j hj => by
  obtain ⟨g, e, h0, h1⟩ := h j hj
  exact ⟨g, e, kc hb h0, kc hb h1⟩

set_option maxRecDepth 100000 in
set_option maxHeartbeats 2000000 in
theorem values1_in (n : Nat) (hn : 1 ≤ n) (l Bs n₀ cap K : Nat) (a : Option Addr) (m : Nat) (xs : List (Int × Int)) (hm : m ≤ 1000000) (J Jx : List (Row m) → World → Prop) (hJ : AbidesFrom K J)
    (hY : ∀ pre x W, J pre W → pre.length < m → YieldAt Fence.wide (n - 1) Try.prog l (encV xs x) W fun e W' =>
      (e = .returned (.bool true) ∧ J (pre ++ [x]) W' ∧ KeepV Bs a m n₀ W W') ∨ (e = .returned (.bool false) ∧ Jx (pre ++ [x]) W'))
    (W : World) (hK : K ≤ W.heap.size) (hBs : W.cell? ⟨Bs, 0, none⟩ = some (.slice a m cap)) (hC : Hid (CellsV a m xs W)) (hj : J [] W) :
    CallsIn Fence.wide n Try.prog 111 #[.func (.yield l) #[] #[], .pointer (some ⟨Bs, 0, none⟩)] W fun e W' => (∃ v, e = .returned v) ∧
      ((∃ ys, ys = rowsUp m m ∧ J ys W') ∨ (∃ pre, True ∧ Jx pre W')) := by
  refine callsIn_of_wp Try.func111 rfl trivial ?_ rfl
  simp only [Try.ntmps111, List.size_toArray, List.length_cons, List.length_nil, Nat.reduceAdd, Nat.reduceSub, Array.replicate_succ, Array.replicate_zero, List.push_toArray, List.append_toArray, List.nil_append, List.cons_append]
  gi_wp2
  gi_loopw [7] (fun i wr => ∃ k : Nat, k ≤ m ∧ i = .int .i64 (k : Int) ∧ Hid (J (rowsUp m k) wr) ∧ wr.cell? ⟨Bs, 0, none⟩ = some (.slice a m cap) ∧ Hid (CellsV a m xs wr) ∧ K ≤ wr.heap.size)
    (fun i _ => m - (intOf i).toNat)
  case atStart => exact ⟨0, Nat.zero_le _, rfl, Lib.hid hj, hBs, hC, hK⟩
  case round =>
    clear hBs hC hj hK
    obtain ⟨k, hk, rfl, hJs, hBs, hC, hK⟩ := hrel
    by_cases hlt : k < m
    · obtain ⟨g, rfl, h0, h1⟩ := hC.out k hlt
      have hY2 := hY _ ⟨k, hlt⟩ (wr.alloc (.cells #[.int .i64 (fget xs k).1, .int .i64 (fget xs k).2] 43)) (hJ _ wr _ none hJs.out (World.grownBy_alloc _ _ none) (fun r e => by cases e)) (by rw [rowsUp_len (by omega)]; exact hlt)
      unfold encV at hY2
      dsimp only at hY2
      have HC2 := Lib.hid (hC.out.below (bnew wr (.cells #[.int .i64 (fget xs k).1, .int .i64 (fget xs k).2] 43)))
      have HB2 := Lib.hid (kc (bnew wr (.cells #[.int .i64 (fget xs k).1, .int .i64 (fget xs k).2] 43)) hBs)
      have HS := Lib.hid (rowsUp_succ hlt)
      obtain ⟨fn, tmps, assign, body, hy, hRd⟩ := hY2
      clear hC
      gi_wp2
      refine hRd.mono ?_
      rintro e W3 (⟨rfl, hJ3, hk3⟩ | ⟨rfl, hJx3⟩)
      · have hBs3 := hk3.2.1 _ HB2.out
        have hC3 := Lib.hid (HC2.out.keep hk3)
        have HJ3 := Lib.hid hJ3
        have hK3 : K ≤ W3.heap.size := Nat.le_trans (Nat.le_trans hK (by simp)) hk3.1.size
        clear hJ3 hk3 hJs
        gi_wp2
        go_roundw
        case rel => exact ⟨k + 1, by omega, by first | rfl | go_num, Lib.hid (by rw [HS.out]; exact HJ3.out), hBs3, hC3, hK3⟩
        case measure => first | (simp [intOf]; done) | (simp [intOf]; omega)
      · gi_wp2
        refine bodyPost_ret (results_none rfl _ _ _) rfl ?_
        exact ⟨⟨_, rfl⟩, .inr ⟨_, trivial, hJx3⟩⟩
    · obtain rfl : k = m := by omega
      gi_wp2
      go_end0
      exact ⟨⟨_, rfl⟩, .inl ⟨_, rfl, hJs.out⟩⟩

theorem values_stops (n : Nat) (hn : 1 ≤ n) (Bs n₀ cap : Nat) (a : Option Addr) (m : Nat) (xs : List (Int × Int)) (hm : m ≤ 1000000) (w : World)
    (hc : w.cell? ⟨Bs, 0, none⟩ = some (.slice a m cap)) (hC : Hid (CellsV a m xs w)) :
    SeqStopsK Fence.wide n Try.prog 111 #[.pointer (some ⟨Bs, 0, none⟩)] (encV xs) (KeepV Bs a m n₀) (fun ys => ys = rowsUp m m) (fun _ => True) m w := fun l J Jx W hW hJ _ hY hj =>
  values1_in n hn l Bs n₀ cap W.heap.size a m xs hm J Jx hJ hY W (Nat.le_refl _) (kc hW hc) (Lib.hid (hC.out.below hW)) hj

set_option maxHeartbeats 1000000 in
theorem Values_any (a : Option Addr) (m cap : Nat) (w : World) :
    Calls Try.prog 86 #[.slice a m cap] w fun e w' => e = .returned (.func (.func 111) #[] #[.pointer (some ⟨w.heap.size, 0, none⟩)]) ∧ w' = w.alloc (.cells #[.slice a m cap] 52) := by
  go_enter Try.func86, Try.ntmps86
  go_wp2
  go_ret
  exact ⟨rfl, rfl⟩
end Go.Proofs.Ytbdhlokbpbiijab

/- NM1:
  Functions put into a function by a tree of choices, as plain words: what lies in the tree's levels, the value at a place, all lists of a length. -/
namespace Go.Proofs.Ytbdhlokbpbiijab

/-- b where g has the digit, else a. -/
def selN (a b g : Nat) : Nat := (a ^^^ (a &&& g)) ||| (b &&& g)
theorem selN_bit (a b g k : Nat) : (selN a b g).testBit k = if g.testBit k then b.testBit k else a.testBit k := by
  simp only [selN, Nat.testBit_or, Nat.testBit_xor, Nat.testBit_and]
  cases g.testBit k <;> cases a.testBit k <;> cases b.testBit k <;> rfl
theorem selN_lt {a b g T : Nat} (ha : a < 2 ^ T) (hb : b < 2 ^ T) : selN a b g < 2 ^ T := by
  have h1 : a &&& g < 2 ^ T := Nat.lt_of_le_of_lt Nat.and_le_left ha
  have h2 : b &&& g < 2 ^ T := Nat.lt_of_le_of_lt Nat.and_le_left hb
  exact Nat.or_lt_two_pow (Nat.xor_lt_two_pow ha h1) h2

/-- A level of the tree: v at the bottom, the functions of p put in, the first one lowest. -/
def levF (v : Nat → Nat) : List Nat → Nat → Nat
  | [], q => v q
  | g :: p, q => levF (fun q => selN (v (2 * q)) (v (2 * q + 1)) g) p q
theorem levF_snoc (v : Nat → Nat) (p : List Nat) (g q : Nat) : levF v (p ++ [g]) q = selN (levF v p (2 * q)) (levF v p (2 * q + 1)) g := by
  induction p generalizing v with
  | nil => rfl
  | cons a p ih => simp only [List.cons_append, levF, ih]
theorem levF_lt {v : Nat → Nat} {T : Nat} (hv : ∀ q, v q < 2 ^ T) (p : List Nat) (q : Nat) : levF v p q < 2 ^ T := by
  induction p generalizing v with
  | nil => exact hv q
  | cons a p ih => exact ih (fun q => selN_lt (hv _) (hv _))

/-- The row at place k of functions (of tuples) in order. -/
def rowP : List Nat → Nat → Nat
  | [], _ => 0
  | g :: p, k => (g.testBit k).toNat + 2 * rowP p k
theorem rowP_lt (p : List Nat) (k : Nat) : rowP p k < 2 ^ p.length := by
  induction p with
  | nil => simp [rowP]
  | cons g p ih => simp only [rowP, List.length_cons, Nat.pow_succ]; have : (g.testBit k).toNat ≤ 1 := by cases g.testBit k <;> decide
                   omega
theorem rowP_snoc (p : List Nat) (g k : Nat) : rowP (p ++ [g]) k = rowP p k + (g.testBit k).toNat * 2 ^ p.length := by
  induction p with
  | nil => simp [rowP]
  | cons a p ih => simp only [List.cons_append, rowP, ih, List.length_cons, Nat.pow_succ]; grind
theorem levF_bit (v : Nat → Nat) (p : List Nat) (q k : Nat) : (levF v p q).testBit k = (v (rowP p k + 2 ^ p.length * q)).testBit k := by
  induction p generalizing v with
  | nil => simp [levF, rowP]
  | cons g p ih =>
    simp only [levF, ih, selN_bit, rowP, List.length_cons]
    have e : (g.testBit k).toNat + 2 * rowP p k + 2 ^ (p.length + 1) * q = 2 * (rowP p k + 2 ^ p.length * q) + (g.testBit k).toNat := by rw [Nat.pow_succ]; grind
    rw [e]
    cases g.testBit k <;> simp

theorem bitN_testBit (x i : Nat) : bitN x i = (x.testBit i).toNat := by
  unfold bitN
  rw [Nat.testBit_eq_decide_div_mod_eq]
  have : x / 2 ^ i % 2 < 2 := Nat.mod_lt _ (by decide)
  by_cases h : x / 2 ^ i % 2 = 1
  · simp [h]
  · have h0 : x / 2 ^ i % 2 = 0 := by omega
    simp [h0]
theorem sumN_testBit (u : Nat → Nat) (hu : ∀ j, u j ≤ 1) (K k : Nat) : (sumN u K).testBit k = (decide (k < K) && (u k == 1)) := by
  induction K with
  | zero => simp [sumN]
  | succ K ih =>
    have hlt : sumN u K < 2 ^ K := sumN_lt u K (fun r _ => hu r)
    have e : sumN u (K + 1) = 2 ^ K * u K + sumN u K := by simp only [sumN, Nat.mul_comm]; omega
    rw [e, Nat.testBit_two_pow_mul_add _ hlt]
    by_cases h : k < K
    · have h1 : k < K + 1 := by omega
      rw [if_pos h, ih, decide_eq_true h, decide_eq_true h1]
    · rw [if_neg h]
      by_cases hk : k = K
      · subst hk
        rw [Nat.sub_self, decide_eq_true (Nat.lt_succ_self k), Bool.true_and]
        rcases (show u k = 0 ∨ u k = 1 by have := hu k; omega) with h0 | h0 <;> rw [h0] <;> decide
      · have h1 : ¬ k < K + 1 := by omega
        rw [decide_eq_false h1, Bool.false_and]
        exact Nat.testBit_lt_two_pow (Nat.lt_of_le_of_lt (hu K) (Nat.lt_of_lt_of_le (by decide : 1 < 2 ^ 1) (Nat.pow_le_pow_right (by decide) (by omega))))

/-- What f (with the Bits x) makes of the tuples p, at its first places. -/
def tupV (x : Nat) (p : List Nat) (places : Nat) : Nat := sumN (fun k => bitN x (rowP p k)) places
theorem tupV_lt (x : Nat) (p : List Nat) (places : Nat) : tupV x p places < 2 ^ places := sumN_lt _ _ (fun _ _ => bitN_le _ _)
theorem tupV_lev (x : Nat) (p : List Nat) (places : Nat) (hp : places ≤ 4) : levF (fun q => bitN x q * 15) p 0 &&& (2 ^ places - 1) = tupV x p places := by
  apply Nat.eq_of_testBit_eq
  intro k
  rw [tupV, sumN_testBit _ (fun _ => bitN_le _ _), Nat.testBit_and, levF_bit, Nat.testBit_two_pow_sub_one, Nat.mul_zero, Nat.add_zero]
  by_cases h : k < places
  · simp only [h, decide_true, Bool.and_true, Bool.true_and]
    have h4 : k = 0 ∨ k = 1 ∨ k = 2 ∨ k = 3 := by omega
    rcases (show bitN x (rowP p k) = 0 ∨ bitN x (rowP p k) = 1 by have := bitN_le x (rowP p k); omega) with e | e <;> rw [e] <;> rcases h4 with rfl | rfl | rfl | rfl <;> decide
  · simp [h]

/-- All lists of m numbers of a list, in lexicographic order. -/
def allP (g : List Nat) : Nat → List (List Nat)
  | 0 => [[]]
  | m + 1 => g.flatMap fun a => (allP g m).map (a :: ·)
theorem allP_mem {g : List Nat} {m : Nat} {p : List Nat} : p ∈ allP g m ↔ p.length = m ∧ ∀ a ∈ p, a ∈ g := by
  induction m generalizing p with
  | zero => simp only [allP, List.mem_singleton]; constructor
            · rintro rfl; simp
            · rintro ⟨h, _⟩; exact List.length_eq_zero_iff.1 h
  | succ m ih =>
    simp only [allP, List.mem_flatMap, List.mem_map]
    constructor
    · rintro ⟨a, ha, q, hq, rfl⟩
      obtain ⟨h1, h2⟩ := ih.1 hq
      exact ⟨by simp [h1], by simpa [ha] using h2⟩
    · rintro ⟨h1, h2⟩
      cases p with
      | nil => simp at h1
      | cons a q => exact ⟨a, h2 a (by simp), q, ih.2 ⟨by simpa using h1, fun b hb => h2 b (by simp [hb])⟩, rfl⟩
theorem allP_length (g : List Nat) (m : Nat) : (allP g m).length = g.length ^ m := by
  induction m with
  | zero => rfl
  | succ m ih => simp [allP, List.length_flatMap, ih, Nat.pow_succ, Nat.mul_comm, List.map_const', List.sum_replicate_nat]

/-- What is made behind the tuples b, m more to come. -/
def madeL (x places : Nat) (g b : List Nat) (m : Nat) : List Nat := (allP g m).map fun p => tupV x (b ++ p) places
theorem madeL_zero (x places : Nat) (g b : List Nat) : madeL x places g b 0 = [tupV x b places] := by simp [madeL, allP]
theorem madeL_succ (x places : Nat) (g b : List Nat) (m : Nat) : madeL x places g b (m + 1) = g.flatMap fun a => madeL x places g (b ++ [a]) m := by
  simp only [madeL, allP, List.map_flatMap, List.map_map]
  congr 1
  funext a
  congr 1
  funext p
  simp [Function.comp]
theorem madeL_lt {x places : Nat} {g b : List Nat} {m t : Nat} (h : t ∈ madeL x places g b m) : t < 2 ^ places := by
  simp only [madeL, List.mem_map] at h
  obtain ⟨p, _, rfl⟩ := h
  exact tupV_lt _ _ _

/-- Numbers as digits. -/
def orL (b : Nat) (l : List Nat) : Nat := l.foldl (fun o t => o ||| 2 ^ t) b
theorem orL_bit (b : Nat) (l : List Nat) (k : Nat) : (orL b l).testBit k = (b.testBit k || l.contains k) := by
  induction l generalizing b with
  | nil => simp [orL]
  | cons t l ih =>
    have : orL b (t :: l) = orL (b ||| 2 ^ t) l := rfl
    rw [this, ih, Nat.testBit_or, Nat.testBit_two_pow, List.contains_cons]
    by_cases h : t = k
    · subst h; simp
    · have h2 : (k == t) = false := by simp; omega
      simp [h, h2]
theorem orL_or (b : Nat) (l : List Nat) : orL b l = b ||| orL 0 l := by
  apply Nat.eq_of_testBit_eq
  intro k
  simp [orL_bit, Nat.testBit_or]
theorem orL_append (b : Nat) (l l' : List Nat) : orL b (l ++ l') = orL b l ||| orL 0 l' := by
  rw [← orL_or]; simp [orL]
theorem orL_lt {b : Nat} {l : List Nat} {R : Nat} (hb : b < 2 ^ R) (h : ∀ t ∈ l, t < R) : orL b l < 2 ^ R := by
  induction l generalizing b with
  | nil => exact hb
  | cons t l ih =>
    exact ih (Nat.or_lt_two_pow hb (Nat.pow_lt_pow_right (by decide) (h t (by simp)))) (fun u hu => h u (by simp [hu]))

/-- The tuples of a relation. -/
def tupsL (x k : Nat) : List Nat := (List.range k).filter fun t => bitN x t == 1
theorem tupsL_yes (x k : Nat) (h : bitN x k = 1) : tupsL x (k + 1) = tupsL x k ++ [k] := by simp [tupsL, List.range_succ, h]
theorem tupsL_no (x k : Nat) (h : bitN x k ≠ 1) : tupsL x (k + 1) = tupsL x k := by simp [tupsL, List.range_succ, h]
theorem tupsL_len (x k : Nat) : (tupsL x k).length ≤ k := Nat.le_trans (List.length_filter_le _ _) (by simp)
theorem tupsL_mem {x k t : Nat} : t ∈ tupsL x k ↔ t < k ∧ bitN x t = 1 := by simp [tupsL]

/-- f keeps the relation: all that is made is in it. -/
def keepsN (x y m places : Nat) : Bool := (madeL x places (tupsL y (2 ^ places)) [] m).all fun t => bitN y t == 1
theorem keepsN_or {x y m places : Nat} : ((orL 0 (madeL x places (tupsL y (2 ^ places)) [] m)) ^^^ (orL 0 (madeL x places (tupsL y (2 ^ places)) [] m) &&& y) == 0) = keepsN x y m places := by
  unfold keepsN
  generalize madeL x places (tupsL y (2 ^ places)) [] m = l
  rw [Bool.eq_iff_iff, beq_iff_eq, List.all_eq_true]
  constructor
  · intro h t ht
    have := congrArg (fun z => z.testBit t) h
    simp only [Nat.testBit_xor, Nat.testBit_and, orL_bit, Nat.zero_testBit, Bool.false_or] at this
    have hc : l.contains t = true := by simpa using ht
    rw [hc] at this
    rw [beq_iff_eq, bitN_testBit]
    cases hy : y.testBit t
    · rw [hy] at this; simp at this
    · rfl
  · intro h
    apply Nat.eq_of_testBit_eq
    intro t
    simp only [Nat.testBit_xor, Nat.testBit_and, orL_bit, Nat.zero_testBit, Bool.false_or]
    cases hc : l.contains t
    · rfl
    · have := h t (by simpa using hc)
      rw [beq_iff_eq, bitN_testBit] at this
      cases hy : y.testBit t
      · rw [hy] at this; cases this
      · rfl
end Go.Proofs.Ytbdhlokbpbiijab

/- NM2:
  Closures of sets of digits under steps, as plain words. -/
namespace Go.Proofs.Ytbdhlokbpbiijab

/-- The digits of y are digits of z. -/
def subN (y z : Nat) : Prop := ∀ k, y.testBit k = true → z.testBit k = true
theorem subN.refl (y : Nat) : subN y y := fun _ h => h
theorem subN.trans {a b c : Nat} (h : subN a b) (k : subN b c) : subN a c := fun i hi => k i (h i hi)
theorem subN.anti {a b : Nat} (h : subN a b) (k : subN b a) : a = b := Nat.eq_of_testBit_eq fun i => by
  rw [Bool.eq_iff_iff]; exact ⟨h i, k i⟩
theorem subN_left (a b : Nat) : subN a (a ||| b) := fun i hi => by rw [Nat.testBit_or, hi]; rfl
theorem subN_or {a b c : Nat} (h : subN a c) (k : subN b c) : subN (a ||| b) c := fun i hi => by
  rw [Nat.testBit_or, Bool.or_eq_true] at hi
  rcases hi with hi | hi
  · exact h i hi
  · exact k i hi
theorem or_of_sub {a b : Nat} (h : subN b a) : a ||| b = a := subN.anti (subN_or (subN.refl a) h) (subN_left a b)
theorem sub_of_or {a b : Nat} (h : a ||| b = a) : subN b a := fun i hi => by rw [← h, Nat.testBit_or, hi, Bool.or_true]
theorem lt_of_or {a b : Nat} (h : a ||| b ≠ a) : a < a ||| b := Nat.lt_of_le_of_ne Nat.left_le_or (fun e => h e.symm)

/-- c is the least set with the digits of y that the steps lead into itself. -/
structure IsCl (L : Nat) (md : Nat → Nat → Nat) (y c : Nat) : Prop where
  has : subN y c
  closed : ∀ i, i < L → subN (md i c) c
  least : ∀ z, subN y z → (∀ i, i < L → subN (md i z) z) → subN c z
theorem IsCl.between {L : Nat} {md : Nat → Nat → Nat} {y y' c : Nat} (h : IsCl L md y c) (h1 : subN y y') (h2 : subN y' c) : IsCl L md y' c :=
  ⟨h2, h.closed, fun z hz hc => h.least z (h1.trans hz) hc⟩
theorem IsCl.step {L : Nat} {md : Nat → Nat → Nat} (mono : ∀ i y z, subN y z → subN (md i y) (md i z)) {y c i : Nat} (h : IsCl L md y c) (hi : i < L) : subN (md i y) c := (mono i y c h.has).trans (h.closed i hi)
theorem IsCl.done {L : Nat} {md : Nat → Nat → Nat} {y c : Nat} (h : IsCl L md y c) (hc : ∀ i, i < L → subN (md i y) y) : y = c := subN.anti h.has (h.least y (subN.refl y) hc)
theorem cl_exists {L : Nat} {md : Nat → Nat → Nat} (mono : ∀ i y z, subN y z → subN (md i y) (md i z)) {Q : Nat} (hb : ∀ i y, md i y < 2 ^ Q) (n : Nat) : ∀ y, y < 2 ^ Q → 2 ^ Q - y ≤ n → ∃ c, c < 2 ^ Q ∧ IsCl L md y c := by
  induction n with
  | zero => intro y hy hn; omega
  | succ n ih =>
    intro y hy hn
    by_cases hc : ∀ i, i < L → subN (md i y) y
    · exact ⟨y, hy, subN.refl y, hc, fun z hz _ => hz⟩
    · obtain ⟨i, hi⟩ := Classical.not_forall.1 hc
      obtain ⟨hi, hs⟩ := Classical.not_imp.1 hi
      have hne : y ||| md i y ≠ y := fun e => hs (sub_of_or e)
      have hlt := lt_of_or hne
      obtain ⟨c, hcQ, h⟩ := ih (y ||| md i y) (Nat.or_lt_two_pow hy (hb i y)) (by omega)
      exact ⟨c, hcQ, (subN_left _ _).trans h.has, h.closed, fun z hz hcl => h.least z (subN_or hz ((mono i y z hz).trans (hcl i hi))) hcl⟩

/-- What the function with the Bits x makes of the tuples y, as digits. -/
def mdN (x P Q m y : Nat) : Nat := orL 0 (madeL x P (tupsL y Q) [] m)
theorem mdN_lt {x P Q m y : Nat} (hQ : Q = 2 ^ P) : mdN x P Q m y < 2 ^ Q := orL_lt (Nat.two_pow_pos Q) (fun t ht => by rw [hQ]; exact madeL_lt ht)
theorem mdN_mono (x P Q m : Nat) {y z : Nat} (h : subN y z) : subN (mdN x P Q m y) (mdN x P Q m z) := fun k hk => by
  unfold mdN at *
  rw [orL_bit, Nat.zero_testBit, Bool.false_or] at *
  have hk' : k ∈ madeL x P (tupsL y Q) [] m := by simpa using hk
  have : k ∈ madeL x P (tupsL z Q) [] m := by
    simp only [madeL, List.mem_map] at *
    obtain ⟨p, hp, e⟩ := hk'
    refine ⟨p, allP_mem.2 ⟨(allP_mem.1 hp).1, fun a ha => ?_⟩, e⟩
    have h1 := tupsL_mem.1 ((allP_mem.1 hp).2 a ha)
    refine tupsL_mem.2 ⟨h1.1, ?_⟩
    have h2 : y.testBit a = true := by
      have := h1.2; rw [bitN_testBit] at this
      cases hy : y.testBit a
      · rw [hy] at this; cases this
      · rfl
    rw [bitN_testBit, h a h2]; rfl
  simpa using this
theorem orL_md (x P Q m y : Nat) : orL y (madeL x P (tupsL y Q) [] m) = y ||| mdN x P Q m y := orL_or _ _
end Go.Proofs.Ytbdhlokbpbiijab

/- RE1:
  What is a relation, in both packages; the laws' small functions on relations. -/
namespace Go.Proofs.Ytbdhlokbpbiijab
open Go.RowKit

/-- (n, b) is a relation. -/
def isR (n b : Int) : Bool := decide (1 ≤ n ∧ n ≤ 4 ∧ 0 ≤ b ∧ b ≤ allN n)
theorem isR_false {n b : Int} (h : ¬ (1 ≤ n ∧ n ≤ 4 ∧ 0 ≤ b ∧ b ≤ allN n)) : isR n b = false := by simp only [isR, decide_eq_false h]
theorem isR_iff {n b : Int} : isR n b = true ↔ (1 ≤ n ∧ n ≤ 4 ∧ 0 ≤ b ∧ b ≤ allN n) := by simp [isR]

/-- The numbers of a relation. -/
structure ROk (n : Int) (x R : Nat) : Prop extends FOk n x R where
  h1 : 1 ≤ n
theorem rok {n b : Int} (h : isR n b = true) : ∃ x R : Nat, b = (x : Int) ∧ ROk n x R := by
  obtain ⟨h1, h4, hb, ha⟩ := isR_iff.1 h
  obtain ⟨x, R, e, ok⟩ := fok (n := n) (b := b) (isF_true (by omega) h4 hb ha)
  exact ⟨x, R, e, { ok with h1 := h1 }⟩
theorem ROk.is {n : Int} {x R : Nat} (ok : ROk n x R) : isR n (x : Int) = true := by
  obtain ⟨_, _, hb, ha⟩ := isF_iff.1 ok.toFOk.is
  exact isR_iff.2 ⟨ok.h1, ok.h4, hb, ha⟩

set_option maxRecDepth 100000 in
set_option maxHeartbeats 1000000 in
theorem l06Is_any (n b : Int) (w : World) :
    Calls Try.prog 90 #[.agg #[.int .i64 n, .int .i64 b]] w fun e w' => e = .returned (.bool (isR n b)) ∧ Below w.heap.size w w' := by
  by_cases h : 1 ≤ n ∧ n ≤ 4
  · have H1 := inB_true h.1 h.2
    obtain ⟨h1, h4⟩ := h
    have h0 : 0 ≤ n := by omega
    rw [show isR n b = inB b 0 (allN n) by simp [isR, inB, h1, h4]]
    generalize hx : inB b 0 (allN n) = x
    go_enter Try.func90, Try.ntmps90
    go_wp2
    go_quiet (first | (go_at_call 49; exact quiet_eq (l01In_is (by assumption) _)) | (go_at_call 78; exact quiet_eq (l01All_any _ h0 h4 _)))
    go_wp2
    go_ret
    exact ⟨rfl, below_drewN ((Below.refl _ _).alloc (Nat.le_refl _) _) _⟩
  · have H1 := inB_false h
    rw [isR_false (by omega)]
    clear h
    go_enter Try.func90, Try.ntmps90
    go_wp2
    go_quiet (first | (go_at_call 49; exact quiet_eq (l01In_is (by assumption) _)))
    go_wp2
    go_ret
    exact ⟨rfl, below_drewN ((Below.refl _ _).alloc (Nat.le_refl _) _) _⟩


theorem l06Is_is {n b : Int} {x : Bool} (h : isR n b = x) (w : World) :
    Calls Try.prog 90 #[.agg #[.int .i64 n, .int .i64 b]] w fun e w' => e = .returned (.bool x) ∧ Below w.heap.size w w' := h ▸ l06Is_any n b w

set_option maxRecDepth 100000 in
set_option maxHeartbeats 4000000 in
theorem rb_0 (w : World) : Calls Try.prog 133 #[.int .i64 0] w fun e w' => e = .returned (.int .i64 ((2 ^ 1 - 1 : Nat) : Int)) ∧ w = w' := by
  go_enter Try.func133, Try.ntmps133
  go_wp2
  go_ret
  exact ⟨rfl, rfl⟩
set_option maxRecDepth 100000 in
set_option maxHeartbeats 4000000 in
theorem rb_1 (w : World) : Calls Try.prog 133 #[.int .i64 1] w fun e w' => e = .returned (.int .i64 ((2 ^ 2 - 1 : Nat) : Int)) ∧ w = w' := by
  go_enter Try.func133, Try.ntmps133
  go_wp2
  go_ret
  exact ⟨rfl, rfl⟩
set_option maxRecDepth 100000 in
set_option maxHeartbeats 4000000 in
theorem rb_2 (w : World) : Calls Try.prog 133 #[.int .i64 2] w fun e w' => e = .returned (.int .i64 ((2 ^ 4 - 1 : Nat) : Int)) ∧ w = w' := by
  go_enter Try.func133, Try.ntmps133
  go_wp2
  go_ret
  exact ⟨rfl, rfl⟩
set_option maxRecDepth 100000 in
set_option maxHeartbeats 4000000 in
theorem rb_3 (w : World) : Calls Try.prog 133 #[.int .i64 3] w fun e w' => e = .returned (.int .i64 ((2 ^ 8 - 1 : Nat) : Int)) ∧ w = w' := by
  go_enter Try.func133, Try.ntmps133
  go_wp2
  go_ret
  exact ⟨rfl, rfl⟩
set_option maxRecDepth 100000 in
set_option maxHeartbeats 4000000 in
theorem rb_4 (w : World) : Calls Try.prog 133 #[.int .i64 4] w fun e w' => e = .returned (.int .i64 ((2 ^ 16 - 1 : Nat) : Int)) ∧ w = w' := by
  go_enter Try.func133, Try.ntmps133
  go_wp2
  go_ret
  exact ⟨rfl, rfl⟩
theorem greatestBits_any {n : Int} (h0 : 0 ≤ n) (h4 : n ≤ 4) (w : World) :
    Calls Try.prog 133 #[.int .i64 n] w fun e w' => e = .returned (.int .i64 (allN n)) ∧ w = w' := by
  rcases five h0 h4 with rfl | rfl | rfl | rfl | rfl
  · rw [show allN 0 = ((2 ^ 1 - 1 : Nat) : Int) by decide]; exact rb_0 w
  · rw [show allN 1 = ((2 ^ 2 - 1 : Nat) : Int) by decide]; exact rb_1 w
  · rw [show allN 2 = ((2 ^ 4 - 1 : Nat) : Int) by decide]; exact rb_2 w
  · rw [show allN 3 = ((2 ^ 8 - 1 : Nat) : Int) by decide]; exact rb_3 w
  · rw [show allN 4 = ((2 ^ 16 - 1 : Nat) : Int) by decide]; exact rb_4 w

set_option maxRecDepth 100000 in
set_option maxHeartbeats 1000000 in
theorem IsRelation_any (n b : Int) (w : World) :
    Calls Try.prog 114 #[.agg #[.int .i64 n, .int .i64 b]] w fun e w' => e = .returned (.bool (isR n b)) ∧ Below w.heap.size w w' := by
  by_cases h1 : 1 ≤ n
  · by_cases h4 : n ≤ 4
    · by_cases hb : 0 ≤ b
      · have h0 : 0 ≤ n := by omega
        have HG := Lib.hid (greatestBits_any h0 h4)
        rw [show isR n b = decide (b ≤ allN n) by simp [isR, h1, h4, hb]]
        generalize allN n = al at HG ⊢
        go_enter Try.func114, Try.ntmps114
        go_wp2
        go_quiet (first | (go_at_call 133; exact quiet_eq (HG.out _)))
        go_wp2
        go_ret
        exact ⟨rfl, below_drewN ((Below.refl _ _).alloc (Nat.le_refl _) _) _⟩
      · rw [isR_false (by omega)]
        have hd : decide (0 ≤ b) = false := by simpa using hb
        go_enter Try.func114, Try.ntmps114
        go_wp2
        go_quiet (fail)
        go_wp2
        go_ret
        exact ⟨rfl, below_drewN ((Below.refl _ _).alloc (Nat.le_refl _) _) _⟩
    · rw [isR_false (by omega)]
      have hd : decide (n ≤ 4) = false := by simpa using h4
      go_enter Try.func114, Try.ntmps114
      go_wp2
      go_quiet (fail)
      go_wp2
      go_ret
      exact ⟨rfl, below_drewN ((Below.refl _ _).alloc (Nat.le_refl _) _) _⟩
  · rw [isR_false (by omega)]
    have hd : decide (1 ≤ n) = false := by simpa using h1
    go_enter Try.func114, Try.ntmps114
    go_wp2
    go_quiet (fail)
    go_wp2
    go_ret
    exact ⟨rfl, below_drewN ((Below.refl _ _).alloc (Nat.le_refl _) _) _⟩
theorem IsRelation_is {n b : Int} {x : Bool} (h : isR n b = x) (w : World) :
    Calls Try.prog 114 #[.agg #[.int .i64 n, .int .i64 b]] w fun e w' => e = .returned (.bool x) ∧ Below w.heap.size w w' := h ▸ IsRelation_any n b w

set_option maxRecDepth 100000 in
set_option maxHeartbeats 1000000 in
theorem toRelation_any (n b : Int) (w : World) :
    Calls Try.prog 113 #[.agg #[.int .i64 n, .int .i64 b]] w fun e w' => e = .returned (.agg #[.int .i64 n, .int .i64 b]) ∧ Below w.heap.size w w' := by
  go_enter Try.func113, Try.ntmps113
  go_wp2
  exact bodyPost_ret (v := .agg #[.int .i64 n, .int .i64 b]) (by simp [results, Try.results113, go_sem]) rfl ⟨rfl, (((Below.refl _ _).alloc (Nat.le_refl _) _).alloc (by simp) _).alloc (by simp; omega) _⟩

set_option maxRecDepth 100000 in
set_option maxHeartbeats 1000000 in
theorem eqRelation_same (n b : Int) (w : World) :
    Calls Try.prog 119 #[.agg #[.int .i64 n, .int .i64 b], .agg #[.int .i64 n, .int .i64 b]] w fun e w' => e = .returned (.bool true) ∧ Below w.heap.size w w' := by
  go_enter Try.func119, Try.ntmps119
  go_wp2
  go_ret
  exact ⟨rfl, balloc (bnew _ _) _⟩

theorem ansBoxR (n b : Int) (w : World) : ∃ W1, w.alloc (.cells #[.int .i64 n, .int .i64 b] 67) = W1 ∧ W1.cell? ⟨w.heap.size, 0, none⟩ = some (.int .i64 n) ∧ W1.cell? ⟨w.heap.size, 1, none⟩ = some (.int .i64 b) ∧ Below w.heap.size w W1 :=
  ⟨_, rfl, by simp [go_sem], by simp [go_sem], bnew _ _⟩


end Go.Proofs.Ytbdhlokbpbiijab

/- RE2:
  The tuples of a relation as a list in the model; CountTuples in both packages. -/
namespace Go.Proofs.Ytbdhlokbpbiijab
open Go.RowKit
set_option linter.unusedVariables false
set_option linter.unusedSimpArgs false

theorem owns_len {W : World} {base : Nat} {s : Value} {xs : List Int} {m : Nat} (h : Owns W base s xs) (hx : xs.length = m) : ∃ a cap, s = .slice a m cap := by
  rcases h.shape with ⟨e, a, cap, rfl⟩ | ⟨hn, g, cap, rfl, _⟩
  · rw [e] at hx; simp at hx; subst hx; exact ⟨_, _, rfl⟩
  · rw [hx]; exact ⟨_, _, rfl⟩

/-- Natural numbers as a list of numbers. -/
def nI (l : List Nat) : List Int := l.map fun (j : Nat) => (j : Int)
theorem nI_snoc (l : List Nat) (a : Nat) : nI (l ++ [a]) = nI l ++ [(a : Int)] := by simp [nI]
theorem nI_length (l : List Nat) : (nI l).length = l.length := by simp [nI]
theorem nI_get (l : List Nat) (j : Nat) (h : j < l.length) : (nI l)[j]?.getD 0 = (l[j]?.getD 0 : Nat) := by simp [nI, h]

theorem tups_ones (x k : Nat) : (tupsL x k).length = ones x k := by
  induction k with
  | zero => rfl
  | succ k ih =>
    by_cases h : bitN x k = 1
    · rw [tupsL_yes x k h, List.length_append, ih]; simp [ones, h]
    · have h0 : bitN x k = 0 := by have := bitN_le x k; omega
      rw [tupsL_no x k h, ih]; simp [ones, h0]

end Go.Proofs.Ytbdhlokbpbiijab

/- CM1:
  agreeAt of the program: what f makes of the values of g at some rows, and what g is at the row of the columns' values. -/
namespace Go.Proofs.Ytbdhlokbpbiijab
open Go.RowKit Go.Shelf
set_option linter.unusedVariables false
set_option linter.unusedSimpArgs false

/-- The row of the values of a function at the rows p. -/
def rowS (y : Nat) (p : List Nat) : Nat := sumN (fun i => bitN y (p[i]?.getD 0)) p.length
theorem rowS_lt (y : Nat) (p : List Nat) : rowS y p < 2 ^ p.length := sumN_lt _ _ (fun _ _ => bitN_le _ _)
theorem step_heldF {W w' W0 : World} {a b c d : Addr} {u v z t : Value} (hb : Below W.heap.size W w') (h : ((W.cell? a = some u ∧ W.cell? b = some v) ∧ (W.cell? c = some z ∧ W.cell? d = some t)) ∧ Below W0.heap.size W0 W) :
    ((w'.cell? a = some u ∧ w'.cell? b = some v) ∧ (w'.cell? c = some z ∧ w'.cell? d = some t)) ∧ Below W0.heap.size W0 w' := ⟨⟨⟨kc hb h.1.1.1, kc hb h.1.1.2⟩, ⟨kc hb h.1.2.1, kc hb h.1.2.2⟩⟩, bthen h.2 hb⟩

set_option maxRecDepth 100000 in
set_option maxHeartbeats 2000000 in
theorem agreeAt1_any {n : Int} {y : Nat} (hy : y < 2 ^ 62) {U cap m i r : Nat} (hi : i < m) (hr : r < 62) (Bg Br : Nat) (w : World) (g0 : w.cell? ⟨Bg, 0, none⟩ = some (.int .i64 n)) (g1 : w.cell? ⟨Bg, 1, none⟩ = some (.int .i64 (y : Int)))
    (cr : w.cell? ⟨Br, 0, none⟩ = some (.slice (some ⟨U, 0, none⟩) m cap)) (cu : w.cell? ⟨U, i, none⟩ = some (.int .i64 (r : Int))) :
    Calls Try.prog 131 #[.int .i64 (i : Int), .pointer (some ⟨Bg, 0, none⟩), .pointer (some ⟨Br, 0, none⟩)] w fun e w' => e = .returned (.int .i64 (bitN y r : Int)) ∧ Below w.heap.size w w' := by
  have VR := Lib.hid (fun W => valueInRow_any n y r hy hr W)
  have hil : (i : Int) < (m : Int) := by omega
  have hi0 : (0 : Int) ≤ (i : Int) := by omega
  go_enter Try.func131, Try.ntmps131
  go_wp2
  go_region_held3 (fun w' => ((w'.cell? ⟨Bg, 0, none⟩ = some (.int .i64 n) ∧ w'.cell? ⟨Bg, 1, none⟩ = some (.int .i64 (y : Int))) ∧ (w'.cell? ⟨Br, 0, none⟩ = some (.slice (some ⟨U, 0, none⟩) m cap) ∧ w'.cell? ⟨U, i, none⟩ = some (.int .i64 (r : Int)))) ∧ Below w.heap.size w w') (first | exact ⟨⟨⟨g0, g1⟩, ⟨cr, cu⟩⟩, (Below.refl _ _).drew⟩ | assumption | exact step_heldF hb1 (by assumption))
    (first
      | (go_at_call 120; refine (VR.out _).mono ?_; rintro e w' ⟨rfl, hb1⟩))
  go_wp2
  go_ret
  exact ⟨rfl, (‹_ ∧ Below _ _ _›).2⟩

set_option maxRecDepth 100000 in
set_option maxHeartbeats 2000000 in
theorem agreeAt_any {x R m : Nat} (ok : FOk (m : Int) x R) (m4 : m ≤ 4) {n : Int} {y : Nat} (hy : y < 2 ^ 62) {base : Nat} {s : Value} {p : List Nat} (hp : p.length = m) (hpr : ∀ a ∈ p, a < 62) (c : Nat) (hc : c < 62) (w : World) (h : Owns w base s (nI p)) :
    Calls Try.prog 107 #[.agg #[.int .i64 m, .int .i64 x], .agg #[.int .i64 n, .int .i64 y], s, .int .i64 c] w fun e w' => e = .returned (.bool (bitN x (rowS y p) == bitN y c)) ∧ Below w.heap.size w w' := by
  have hlen : (nI p).length = m := by rw [nI_length, hp]
  have hcc : ∃ (a : Option Addr) (cap : Nat), s = .slice a m cap ∧ Hid (∀ j, j < m → ∃ g, a = some ⟨g, 0, none⟩ ∧ w.cell? ⟨g, j, none⟩ = some (.int .i64 (p[j]?.getD 0 : Nat))) := by
    rcases h.shape with ⟨he, a, cap, rfl⟩ | ⟨hn, g, cap, rfl, hbg, hg, hc, hf⟩
    · have e0 : m = 0 := by rw [← hlen, he]; rfl
      subst e0
      exact ⟨_, _, rfl, Lib.hid fun j hj => absurd hj (Nat.not_lt_zero _)⟩
    · rw [hlen] at hc
      exact ⟨_, _, by rw [hlen], Lib.hid fun j hj => ⟨g, rfl, (hc.out j hj).trans (by simp [nI, List.getElem?_eq_getElem (show j < p.length by omega)])⟩⟩
  obtain ⟨a, cap, rfl, HC⟩ := hcc
  have HPR := Lib.hid (fun j (hj : j < m) => (show p[j]?.getD 0 < 62 by rw [List.getElem?_eq_getElem (by omega)]; exact hpr _ (List.getElem_mem _)))
  have e1 : rowS y p = sumN (fun i => bitN y (p[i]?.getD 0)) m := by unfold rowS; rw [hp]
  have hrl : rowS y p < 16 := Nat.lt_of_lt_of_le (rowS_lt y p) (by rw [hp]; exact Nat.pow_le_pow_right (by decide) m4)
  have VF := Lib.hid (fun W => valueInRow_any (m : Int) x (rowS y p) ok.hx (by omega) W)
  have VG := Lib.hid (fun W => valueInRow_any n y c hy hc W)
  have HBQ := Lib.hid (beq_cast (bitN x (rowS y p)) (bitN y c))
  obtain ⟨W1, hW1⟩ : ∃ W1, ((w.alloc (.cells #[.int .i64 m, .int .i64 x] 43)).alloc (.cells #[.int .i64 n, .int .i64 y] 43)).alloc (.cells #[.slice a m cap] 25) = W1 := ⟨_, rfl⟩
  have f0 : W1.cell? ⟨w.heap.size, 0, none⟩ = some (.int .i64 m) := by rw [← hW1]; simp [go_sem]
  have f1 : W1.cell? ⟨w.heap.size, 1, none⟩ = some (.int .i64 x) := by rw [← hW1]; simp [go_sem]
  have g0 : W1.cell? ⟨w.heap.size + 1, 0, none⟩ = some (.int .i64 n) := by rw [← hW1]; simp [go_sem]
  have g1 : W1.cell? ⟨w.heap.size + 1, 1, none⟩ = some (.int .i64 y) := by rw [← hW1]; simp [go_sem]
  have cr : W1.cell? ⟨w.heap.size + 1 + 1, 0, none⟩ = some (.slice a m cap) := by rw [← hW1]; simp [go_sem]
  have hB : Below w.heap.size w W1 := by rw [← hW1]; exact balloc (balloc (bnew _ _) _) _
  have RW := Lib.hid (rowWith_any m m4 131 #[.pointer (some ⟨w.heap.size + 1, 0, none⟩), .pointer (some ⟨w.heap.size + 1 + 1, 0, none⟩)] (enters_of Try.func131 (by kernel_rfl) rfl)
    (fun i => bitN y (p[i]?.getD 0)) (fun i _ => bitN_le _ _) W1 (Lib.hid fun W hW i hi => by
      obtain ⟨g, rfl, hu⟩ := HC.out i hi
      exact agreeAt1_any hy hi (HPR.out i hi) _ _ W (kc hW g0) (kc hW g1) (kc hW cr) (kc hW (kc hB hu))))
  rw [← e1] at RW
  clear e1 h hp hpr HC HPR hlen
  generalize rowS y p = q at hrl VF RW HBQ ⊢
  generalize bitN x q = b1 at VF HBQ ⊢
  generalize bitN y c = b2 at VG HBQ ⊢
  go_enter Try.func107, Try.ntmps107
  go_wp2_with (go_at_call 130; refine RW.out.mono ?_; rintro e w2 ⟨rfl, hb2⟩; have q0 := kc hb2 f0; have q1 := kc hb2 f1; have q2 := kc hb2 g0; have q3 := kc hb2 g1; have hB2 := bthen hB hb2; clear f0 f1 g0 g1 cr)
  go_region_held3 (fun w' => ((w'.cell? ⟨w.heap.size, 0, none⟩ = some (.int .i64 m) ∧ w'.cell? ⟨w.heap.size, 1, none⟩ = some (.int .i64 x)) ∧ (w'.cell? ⟨w.heap.size + 1, 0, none⟩ = some (.int .i64 n) ∧ w'.cell? ⟨w.heap.size + 1, 1, none⟩ = some (.int .i64 y))) ∧ Below w.heap.size w w') (first | exact ⟨⟨⟨q0, q1⟩, ⟨q2, q3⟩⟩, hB2.drew⟩ | assumption | exact step_heldF hb1 (by assumption))
    (first
      | (go_at_call 120; with_reducible refine (VG.out _).mono ?_; rintro e w' ⟨rfl, hb1⟩)
      | (go_at_call 120; with_reducible refine (VF.out _).mono ?_; rintro e w' ⟨rfl, hb1⟩))
  go_wp2
  go_ret
  exact ⟨by rw [← HBQ.out]; rfl, (‹_ ∧ Below _ _ _›).2⟩
end Go.Proofs.Ytbdhlokbpbiijab

/- NX1:
  A range over a function whose iterator keeps cells of its own, or is itself made of another one: what is asked of it, and the law of who ranges over it.
  A round keeps the blocks of T (the iterator's own); the caller's word speaks of blocks below K alone. -/
namespace Go.Proofs.Ytbdhlokbpbiijab
open Go Go.RowKit

set_option linter.unusedVariables false

/-- What lay in the blocks of S lies as it lay. -/
structure Above (S : Nat → Prop) (W W' : World) : Prop where
  size : W.heap.size ≤ W'.heap.size
  same : ∀ k, S k → k < W.heap.size → W'.heap[k]? = W.heap[k]?
theorem Above.refl (S : Nat → Prop) (W : World) : Above S W W := ⟨Nat.le_refl _, fun _ _ _ => rfl⟩
theorem Above.trans {S : Nat → Prop} {A B C : World} (h : Above S A B) (k : Above S B C) : Above S A C :=
  ⟨Nat.le_trans h.size k.size, fun i h1 h2 => (k.same i h1 (Nat.lt_of_lt_of_le h2 h.size)).trans (h.same i h1 h2)⟩
theorem Above.mono {S S' : Nat → Prop} {A B : World} (h : Above S A B) (hk : ∀ k, S' k → S k) : Above S' A B := ⟨h.size, fun i h1 h2 => h.same i (hk i h1) h2⟩
theorem Above.grown {S : Nat → Prop} {A B : World} {row : Option Nat} (hg : A.grownBy B row) (hr : ∀ r, row = some r → ¬ S r) : Above S A B :=
  ⟨hg.size, fun i h1 h2 => hg.block i h2 (fun e => hr i e.symm h1)⟩
theorem Above.below {S : Nat → Prop} {A B : World} (h : Below A.heap.size A B) : Above S A B := ⟨h.size, fun i _ h2 => h.block i h2⟩
theorem Above.put {S : Nat → Prop} (W : World) (l : Nat) (o : Obj) (hl : ¬ S l) : Above S W (W.putObj l o) := Above.grown (grownBy_putObj' W l o) (fun r e => by cases e; exact hl)

/-- What speaks of blocks below K alone. -/
def Firm {β : Type} (K : Nat) (J : β → World → Prop) : Prop :=
  ∀ s W W' row, J s W → W.grownBy W' row → (∀ r, row = some r → K ≤ r) → J s W'
theorem Firm.mono {β : Type} {K K' : Nat} {J : β → World → Prop} (h : Firm K J) (hk : K ≤ K') : Firm K' J := fun s W W' row hs hg hr => h s W W' row hs hg (fun r e => Nat.le_trans hk (hr r e))
theorem Firm.and {β : Type} {K : Nat} {I I' : β → World → Prop} (h : Firm K I) (h' : Firm K I') : Firm K (fun s W => I s W ∧ I' s W) :=
  fun s W W' row hs hg hr => ⟨h s W W' row hs.1 hg hr, h' s W W' row hs.2 hg hr⟩
theorem Firm.put {β : Type} {K : Nat} {J : β → World → Prop} (h : Firm K J) {s : β} {W : World} (l : Nat) (o : Obj) (hs : J s W) (hl : K ≤ l) : J s (W.putObj l o) :=
  h s W _ (some l) hs (grownBy_putObj' W l o) (fun r e => by cases e; exact hl)
theorem Firm.alloc {β : Type} {K : Nat} {J : β → World → Prop} (h : Firm K J) {s : β} {W : World} (o : Obj) (hs : J s W) : J s (W.alloc o) :=
  h s W _ none hs (World.grownBy_alloc W o none) (fun r e => by cases e)
/-- A block below K that holds o, and what a step behind K does to it: nothing. -/
theorem firm_block {β : Type} {K k : Nat} (hk : k < K) (o : Obj) : Firm K (fun (_ : β) W => W.heap[k]? = some o) :=
  fun _ W W' row hs hg hr => (hg.block k (Array.getElem?_eq_some_iff.1 hs).1 (fun e => by have := hr k e.symm; omega)).trans hs
theorem firm_below {β : Type} {K m : Nat} {w : World} (hm : m ≤ K) (hs : m ≤ w.heap.size) : Firm K (fun (_ : β) W => Below m w W) :=
  fun _ W W' row hb hg hr => hb.grown hg (Nat.le_trans hs hb.size) (fun r e => Nat.le_trans hm (hr r e))
theorem firm_pure {β : Type} (K : Nat) (p : β → Prop) : Firm K (fun s (_ : World) => p s) := fun _ _ _ _ hs _ _ => hs

/-- **The contract**: at whatever loop l whose rounds keep the blocks of T, and whose word speaks of blocks below K alone, K at most the heap's size at the call. -/
def SeqX {α : Type} (F : Fence) (n : Nat) (P : Program) (g : Nat) (lb : Array Value) (encs : α → Array Value) (S Sp : List α → Prop) (N K : Nat) (T : Nat → Prop) (w : World) : Prop :=
  ∀ (l : Nat) (J Jx : List α → World → Prop) (W : World), Below w.heap.size w W → K ≤ W.heap.size → Firm K J → Firm K Jx →
    (∀ pre x W1, J pre W1 → pre.length < N → YieldAt F (n - 1) P l (encs x) W1 fun e W' =>
      Above T W1 W' ∧ ((e = .returned (.bool true) ∧ J (pre ++ [x]) W') ∨ (e = .returned (.bool false) ∧ Jx (pre ++ [x]) W'))) →
    J [] W →
    CallsIn F n P g (#[.func (.yield l) #[] #[]] ++ lb) W fun e W' => (∃ v, e = .returned v) ∧ ((∃ xs, S xs ∧ J xs W') ∨ (∃ pre, Sp pre ∧ Jx pre W'))

/-- How a round may be left. -/
def postX {α : Type} (B : Nat) (T : Nat → Prop) (I : List α → World → Prop) (Ix : Code → List α → World → Prop) (xs : List α) (W : World) : Exit → Act → World → Prop
  | .normal, _, W' => (KeepsFrom B W W' ∧ Above T W W') ∧ I xs W'
  | .ret, _, W' => (KeepsFrom B W W' ∧ Above T W W') ∧ Ix .ret xs W'
  | .exit id, _, W' => (KeepsFrom B W W' ∧ Above T W W') ∧ Ix (.exit id) xs W'
  | .goto t, _, W' => (KeepsFrom B W W' ∧ Above T W W') ∧ Ix (.goto t) xs W'
  | .panic _, _, _ => False
  | .outgrown, _, _ => False

variable {F : Fence} {n : Nat} {P : Program}

/-- **The law of who ranges over it.** -/
theorem wpIn_rangeFunc_X {α : Type} {g : Operand} {ps : Array Tmp} {assign body : Code} {Q : Exit → Act → World → Prop} {a : Act} {w : World}
    (hro : F.round = none) (h1 : 1 ≤ n) {gf : Nat} {lb : Array Value} (hg : a.eval g = .func (.func gf) #[] lb) (hFg : F.fn gf) (eg : ∀ args w, (callFunc gf args).run P w = .ok (.enter gf args) w)
    {encs : α → Array Value} {S Sp : List α → Prop} {N : Nat} {T : Nat → Prop} {w0 : World} (hT : ¬ T (w.heap.size + 1)) (hseq : SeqX F (n - 1) P gf lb encs S Sp N (w.heap.size + 2) T w0)
    (hb0 : Below w0.heap.size w0 w) (hps : ∀ x, (encs x).size = ps.size)
    (I : List α → World → Prop) (Ix : Code → List α → World → Prop) (hI : Firm w.heap.size I) (hIx : ∀ c, Firm w.heap.size (Ix c)) (h0 : I [] w) (a₁ : α → Act)
    (hassign : ∀ (l : Nat) (x : α) (W : World) (K : Act → World → Prop), K (a₁ x) W →
      assign.wpIn (F.inRound l) (n - 1 - 1) P (Exit.then K (fun _ _ _ => False)) { tmps := (ps.zip (encs x)).foldl (fun t (p, v) => t.setIfInBounds p v) a.tmps, defers := [] } W)
    (hbody : ∀ (l : Nat) (pre : List α) (x : α) (W : World), I pre W → pre.length < N → body.wpIn (F.inRound l) (n - 1 - 1) P (postX w.heap.size T I Ix (pre ++ [x]) W) (a₁ x) W)
    (hdone : ∀ (D : Nat) (xs : List α) (W : World), w.heap.size ≤ D → S xs → I xs W → W.heap[D]? = some (.deferred (some [])) → Q .normal { a with defers := { target := .collected D, args := #[] } :: a.defers } W)
    (hstop : ∀ (D : Nat) (c : Code) (pre : List α) (W : World), w.heap.size ≤ D → Sp pre → Ix c pre W → W.heap[D]? = some (.deferred (some [])) → c.wpIn F n P Q { a with defers := { target := .collected D, args := #[] } :: a.defers } W) :
    (Code.rangeFunc g ps assign body).wpIn F n P Q a w := by
  refine wpIn_rangeFunc fun fn hfn => ?_
  rw [hro]
  -- the loop's record, as a function of its state and its pending jump; the world with both blocks of book-keeping
  let D := w.heap.size
  let L := w.heap.size + 1
  let rec' : LoopState → Option Code → Obj := fun st pe => .loop { state := st, pending := pe, fn, tmps := a.tmps, params := ps, assign, body, defers := D }
  obtain ⟨V, hV⟩ : ∃ V, (w.alloc (.deferred (some []))).alloc (rec' .ready none) = V := ⟨_, rfl⟩
  have sV : V.heap.size = w.heap.size + 2 := by rw [← hV]; simp
  have hL : V.heap[L]? = some (rec' .ready none) := by
    rw [← hV]; have := World.alloc_heap_new (w.alloc (.deferred (some []))) (rec' .ready none); rwa [World.size_alloc] at this
  have hD : V.heap[D]? = some (.deferred (some [])) := by
    rw [← hV]; exact (Below.heap_alloc _ _ _ (by simp [D])).trans (World.alloc_heap_new w _)
  have hIV : I [] V := by rw [← hV]; exact hI.alloc _ (hI.alloc _ h0)
  have hBV : Below w0.heap.size w0 V := by
    rw [← hV]; exact (hb0.alloc hb0.size _).alloc (by simp; have := hb0.size; omega) _
  refine ⟨L, [{ target := .collected D, args := #[] }], V, { target := .fn (.func gf) lb, args := #[.func (.yield L) #[] #[]] }, V, gf, #[.func (.yield L) #[] #[]] ++ lb, V, ?_, ?_, ?_, ?_, fun _ => h1, ?_⟩
  · rw [← hV]; exact run_enterLoop_outer _ _ _ _ _
  · simp only [resolve, hg]; simp [go_sem]
  · intro f' hf'; simp [Target.leads] at hf'; subst hf'; exact hFg
  · simp [invoke, go_sem, eg]
  have fL : ∀ o, Firm (w.heap.size + 2) (fun (_ : List α) W => W.heap[L]? = some o) := fun o => firm_block (by simp [L]) o
  have fD : Firm (w.heap.size + 2) (fun (_ : List α) W => W.heap[D]? = some (.deferred (some []))) := firm_block (by simp [D]) _
  have fI : Firm (w.heap.size + 2) I := hI.mono (by omega)
  refine (hseq L (fun pre W => I pre W ∧ (W.heap[L]? = some (rec' .ready none) ∧ W.heap[D]? = some (.deferred (some []))))
    (fun pre W => ∃ c, Ix c pre W ∧ (W.heap[L]? = some (rec' .done (some c)) ∧ W.heap[D]? = some (.deferred (some []))))
    V hBV (by omega) (fI.and ((fL _).and fD))
    (fun s A B row hs hg' hr => by
      obtain ⟨c, hc, hk⟩ := hs
      exact ⟨c, (hIx c).mono (Nat.le_add_right _ 2) s A B row hc hg' hr, ((fL _).and fD) s A B row hk hg' hr⟩)
    ?_ ⟨hIV, hL, hD⟩).mono ?_
  · -- one round
    rintro pre x W ⟨hi, hl, hd⟩ hlen
    have hlt : L < W.heap.size := (Array.getElem?_eq_some_iff.1 hl).1
    refine ⟨fn, _, assign, body, run_yield (P := P) (args := encs x) hl (hps x), roundIn_of_wpIn hfn (hassign _ x W _ ⟨_, run_beginRound hl rfl, ?_⟩)⟩
    obtain ⟨Wb, hWb⟩ : ∃ Wb, W.putObj L (rec' .busy none) = Wb := ⟨_, rfl⟩
    have hlb : Wb.heap[L]? = some (rec' .busy none) := by rw [← hWb]; exact World.putObj_heap_same hlt
    have hdb : Wb.heap[D]? = some (.deferred (some [])) := by rw [← hWb]; exact (World.putObj_heap_other (by simp [D, L])).trans hd
    have hib : I pre Wb := by rw [← hWb]; exact hI.put _ _ hi (by simp [L])
    have hab : Above T W Wb := by rw [← hWb]; exact Above.put _ _ _ hT
    change body.wpIn _ _ _ _ _ (W.putObj L (rec' .busy none))
    rw [hWb]
    refine wpIn_mono (hbody L pre x Wb hib hlen) ?_
    -- the round's end: the record and the block behind it lie as they lay
    have fin : ∀ (jump : Option Code) (W3 : World), KeepsFrom w.heap.size Wb W3 → Above T Wb W3 →
        ∃ W4, (Instr.endRound L jump).run P W3 = .ok (.bool jump.isNone) W4 ∧ W4.heap[L]? = some (rec' (if jump.isNone then .ready else .done) jump) ∧ W4.heap[D]? = some (.deferred (some [])) ∧ Above T W W4 ∧
          (∀ (J : List α → World → Prop), Firm w.heap.size J → ∀ ys, J ys W3 → J ys W4) := fun jump W3 hk ha => by
      have hl3 := hk.same L _ (by simp [L]) hlb rfl
      have hd3 := hk.same D _ (Nat.le_refl _) hdb rfl
      refine ⟨_, run_endRound (P := P) jump hl3, World.putObj_heap_same (Array.getElem?_eq_some_iff.1 hl3).1, (World.putObj_heap_other (by simp [D, L])).trans hd3, (hab.trans ha).trans (Above.put _ _ _ hT), fun J hJ ys h => hJ.put _ _ h (by simp [L])⟩
    rintro e a3 W3 hp
    cases e with
    | normal =>
      obtain ⟨⟨hk, ha⟩, hi3⟩ := hp
      obtain ⟨W4, hr, hl4, hd4, ha4, hj⟩ := fin none W3 hk ha
      exact ⟨_, _, hr, ha4, .inl ⟨rfl, hj I hI _ hi3, hl4, hd4⟩⟩
    | ret =>
      obtain ⟨⟨hk, ha⟩, hi3⟩ := hp
      obtain ⟨W4, hr, hl4, hd4, ha4, hj⟩ := fin (some .ret) W3 hk ha
      exact ⟨_, _, hr, ha4, .inr ⟨rfl, .ret, hj _ (hIx _) _ hi3, hl4, hd4⟩⟩
    | exit id =>
      obtain ⟨⟨hk, ha⟩, hi3⟩ := hp
      obtain ⟨W4, hr, hl4, hd4, ha4, hj⟩ := fin (some (.exit id)) W3 hk ha
      exact ⟨_, _, hr, ha4, .inr ⟨rfl, .exit id, hj _ (hIx _) _ hi3, hl4, hd4⟩⟩
    | goto t =>
      obtain ⟨⟨hk, ha⟩, hi3⟩ := hp
      obtain ⟨W4, hr, hl4, hd4, ha4, hj⟩ := fin (some (.goto t)) W3 hk ha
      exact ⟨_, _, hr, ha4, .inr ⟨rfl, .goto t, hj _ (hIx _) _ hi3, hl4, hd4⟩⟩
    | panic ch => exact hp.elim
    | outgrown => exact hp.elim
  · -- behind the iterator
    rintro e W2 ⟨⟨v, rfl⟩, (⟨xs, hS, hi, hl, hd⟩ | ⟨pre, hSp, c, hi, hl, hd⟩)⟩
    · exact ⟨none, _, run_endLoop (P := P) hl (by simp), hdone D xs _ (Nat.le_refl _) hS (hI.put _ _ hi (by simp [L])) ((World.putObj_heap_other (by simp [D, L])).trans hd)⟩
    · exact ⟨some c, _, run_endLoop (P := P) hl (by simp), hstop D c pre _ (Nat.le_refl _) hSp ((hIx c).put _ _ hi (by simp [L])) ((World.putObj_heap_other (by simp [D, L])).trans hd)⟩
end Go.Proofs.Ytbdhlokbpbiijab

/- NP1:
  Functions put into a function in all ways, as a function that is ranged over: the part that calls itself. -/
namespace Go.Proofs.Ytbdhlokbpbiijab
open Go.RowKit Go.Shelf
attribute [local go_sem] Oper.semAt_some
set_option linter.unusedVariables false
set_option linter.unusedSimpArgs false

theorem owns_above {S : Nat → Prop} {W W' : World} {base : Nat} {s : Value} {xs : List Int} (h : Owns W base s xs) (ha : Above S W W') (hs : ∀ k, s.ownBlock = some k → S k) : Owns W' base s xs := by
  obtain ⟨h1, h2 | ⟨g, cap, cur, e1, e2, e3, r⟩⟩ := h
  · exact ⟨h1, .inl h2⟩
  · exact ⟨h1, .inr ⟨g, cap, cur, e1, e2, (ha.same g (hs g (by rw [e1]; rfl)) (Array.getElem?_eq_some_iff.1 e3).1).trans e3, r⟩⟩
theorem cell_above {S : Nat → Prop} {W W' : World} (ha : Above S W W') {b o : Nat} {u : Value} (hb : S b) (h : W.cell? ⟨b, o, none⟩ = some u) : W'.cell? ⟨b, o, none⟩ = some u := by
  have hl := cell_lt h
  have := ha.same b hb hl
  simp only [World.cell?, this] at h ⊢
  exact h
theorem cell_of_owns {W : World} {base : Nat} {s : Value} {xs : List Int} {g cap : Nat} (h : Owns W base s xs) (e : s = .slice (some ⟨g, 0, none⟩) xs.length cap) (j : Nat) (x : Int) (hx : xs[j]? = some x) : W.cell? ⟨g, j, none⟩ = some (.int .i64 x) := by
  subst e
  have hj : j < xs.length := (List.getElem?_eq_some_iff.1 hx).1
  have := World.ownsRow.cellAt h j (by omega)
  rw [this]
  simp [ints, hx]
theorem frozen_of_owns {W : World} {base : Nat} {xs : List Int} {g cap : Nat} (h : Owns W base (.slice (some ⟨g, 0, none⟩) xs.length cap) xs) (j : Nat) : W.frozen? ⟨g, j, none⟩ = false := World.ownsRow.frozenAt h j
theorem owns_set {W : World} {base g n cap : Nat} {xs : List Int} (h : Owns W base (.slice (some ⟨g, 0, none⟩) n cap) xs) (hn : n = xs.length) (j : Nat) (x : Int) : Owns (W.setCell ⟨g, j, none⟩ (.int .i64 x)) base (.slice (some ⟨g, 0, none⟩) n cap) (xs.set j x) := by
  subst hn
  have := (World.ownsRow.stored h j (.int .i64 x)).1
  unfold Owns
  rw [List.length_set, ints, List.map_set]
  exact this
theorem grownSet (W : World) (b o : Nat) (v : Value) : W.grownBy (W.setCell ⟨b, o, none⟩ v) (some b) :=
  ⟨rfl, rfl, rfl, (KeepsWalks.setCell W _ v).size, fun k _ hk => Below.heap_setCell _ _ _ k (fun e => hk (by rw [e]))⟩
theorem owns_other {W : World} {base : Nat} {s : Value} {xs : List Int} (h : Owns W base s xs) (g j : Nat) (v : Value) (hs : ∀ k, s.ownBlock = some k → k ≠ g) : Owns (W.setCell ⟨g, j, none⟩ v) base s xs := by
  refine World.ownsRow.kept h (grownSet W g j v) ?_
  cases e : s.ownBlock with
  | none => exact .inl rfl
  | some k => exact .inr (fun e' => hs k e (by cases e'; rfl))

/-- A list with places set one after the other. -/
def setsN (tr : List Int) (F : Nat) (f : Nat → Int) : Nat → List Int
  | 0 => tr
  | k + 1 => (setsN tr F f k).set (F + k) (f k)
theorem setsN_length (tr : List Int) (F : Nat) (f : Nat → Int) (k : Nat) : (setsN tr F f k).length = tr.length := by
  induction k with
  | zero => rfl
  | succ k ih => simp [setsN, ih]
theorem setsN_out (tr : List Int) (F : Nat) (f : Nat → Int) (k j : Nat) (h : j < F ∨ F + k ≤ j) : (setsN tr F f k)[j]? = tr[j]? := by
  induction k with
  | zero => rfl
  | succ k ih => rw [setsN, List.getElem?_set_ne (by omega), ih (by omega)]
theorem setsN_in (tr : List Int) (F : Nat) (f : Nat → Int) (k q : Nat) (h : q < k) (hl : F + k ≤ tr.length) : (setsN tr F f k)[F + q]? = some (f q) := by
  induction k with
  | zero => omega
  | succ k ih =>
    rw [setsN]
    by_cases e : q = k
    · subst e; rw [List.getElem?_set_self (by rw [setsN_length]; omega)]
    · rw [List.getElem?_set_ne (by omega), ih (by omega) (by omega)]

/-- What is handed out: the list of what was put in, and what arises. -/
abbrev Out := Value × Row 16
def encS (x : Out) : Array Value := #[x.1, .int .i64 (x.2.1 : Int)]
def outOf (sp : Value) {v : Nat → Nat} (hv : ∀ q, v q < 2 ^ 4) (p : List Nat) : Out := (sp, ⟨levF v p 0, levF_lt hv p 0⟩)

theorem sel_ops : ∀ a : Nat, a < 16 → ∀ b : Nat, b < 16 → ∀ g : Nat, g < 16 → bits .or .i64 (bits .andNot .i64 (a : Int) (g : Int)) (bits .and .i64 (b : Int) (g : Int)) = ((selN a b g : Nat) : Int) := by decide +kernel
end Go.Proofs.Ytbdhlokbpbiijab

/- NQ1:
  Functions put into a function in all ways, as a function that is ranged over: a round is told what the list that is handed out holds. -/
namespace Go.Proofs.Ytbdhlokbpbiijab
open Go.RowKit Go.Shelf
set_option linter.unusedVariables false

/-- What is handed out: the list of what was put in, what it holds, and what arises. -/
abbrev OutV := Value × List Nat × Row 16
def encSV (x : OutV) : Array Value := #[x.1, .int .i64 (x.2.2.1 : Int)]
def outOfV (sp : Value) {v : Nat → Nat} (hv : ∀ q, v q < 2 ^ 4) (p : List Nat) : OutV := (sp, p, ⟨levF v p 0, levF_lt hv p 0⟩)
/-- What can be seen of it: the list, in a block from K on; m small numbers. -/
def Vis (m K : Nat) (x : OutV) (W : World) : Prop := Owns W K x.1 (nI x.2.1) ∧ x.2.1.length = m ∧ ∀ a, a ∈ x.2.1 → a < 16

theorem take_set_succ (xs : List Int) (i : Nat) (a : Int) (h : i < xs.length) : (xs.set i a).take (i + 1) = xs.take i ++ [a] := by
  rw [List.take_succ_eq_append_getElem (by rw [List.length_set]; exact h), List.take_set_of_le (Nat.le_refl _), List.getElem_set_self]
theorem take_less {xs : List Int} {p : List Nat} {a : Nat} (h : xs.take (p ++ [a]).length = nI (p ++ [a])) : xs.take p.length = nI p := by
  have e := congrArg (List.take p.length) h
  rw [List.take_take, List.length_append, Nat.min_eq_left (Nat.le_add_right _ _)] at e
  rw [e]
  simp [nI]
end Go.Proofs.Ytbdhlokbpbiijab

/- NQ2:
  putFrom by contract: by induction on how many are still to be put in. -/
namespace Go.Proofs.Ytbdhlokbpbiijab
open Go.RowKit Go.Shelf
attribute [local go_sem] Oper.semAt_some
set_option linter.unusedVariables false
set_option linter.unusedSimpArgs false

theorem YieldAt.anyDV {m : Nat} (m' : Nat) {P : Program} {l : Nat} {args : Array Value} {W : World} {R : Ending → World → Prop} (h : YieldAt Fence.wide m P l args W R) : YieldAt Fence.wide m' P l args W R := by
  obtain ⟨fn, tmps, assign, body, hy, hR⟩ := h
  exact ⟨fn, tmps, assign, body, hy, hR.1, fun c cs _ => hR.2 c cs (fun d h => by cases h)⟩

/-- The iterator's memory: the tree and the list of what was put in. -/
structure SMemV (T U : Nat) (L m : Nat) (tr pu : List Int) (W : World) : Prop where
  ot : Owns W T (.slice (some ⟨T, 0, none⟩) L L) tr
  ou : Owns W U (.slice (some ⟨U, 0, none⟩) m m) pu
  lt : tr.length = L
  lu : pu.length = m

set_option maxRecDepth 100000 in
set_option maxHeartbeats 4000000 in
theorem putFrom_zeroV {v : Nat → Nat} (hv : ∀ q, v q < 2 ^ 4) (l T U K m N L : Nat) (S : Nat → Prop) (sg : Value) (J Jx : List OutV → World → Prop) (hJ : Firm K J)
    (hL : L = 2 ^ (m + 1))
    (hY : ∀ pre x W, J pre W → pre.length < N → Vis m K x W → YieldAt Fence.wide 1 Try.prog l (encSV x) W fun e W' =>
      Above S W W' ∧ ((e = .returned (.bool true) ∧ J (pre ++ [x]) W') ∨ (e = .returned (.bool false) ∧ Jx (pre ++ [x]) W')))
    (n : Nat) (p : List Nat) (hp : p.length = m) (pre : List OutV) (tr pu : List Int) (W : World) (kU : K ≤ U) (hpu : pu.take p.length = nI p) (hpb : ∀ a, a ∈ p → a < 16) (hm : SMemV T U L m tr pu W) (hlev : ∀ q, q < 2 ^ 0 → tr[2 ^ 0 + q]? = some ((levF v p q : Nat) : Int)) (hj : J pre W) (hN : pre.length < N) (hT : T < W.heap.size) (hU : U < W.heap.size) (hK : K ≤ W.heap.size) :
    CallsIn Fence.wide n Try.prog 149 #[.agg #[.slice (some ⟨T, 0, none⟩) L L, .slice (some ⟨U, 0, none⟩) m m, sg], .int .i64 (m : Int), .func (.yield l) #[] #[]] W fun e W' =>
      (e = .returned (.bool true) ∧ Above S W W' ∧ J (pre ++ [outOfV (.slice (some ⟨U, 0, none⟩) m m) hv p]) W') ∨ (e = .returned (.bool false) ∧ Jx (pre ++ [outOfV (.slice (some ⟨U, 0, none⟩) m m) hv p]) W') := by
  have hb := bnew W (.cells #[.slice (some ⟨T, 0, none⟩) L L, .slice (some ⟨U, 0, none⟩) m m, sg] 154)
  obtain ⟨W1, hW1⟩ : ∃ W1, W.alloc (.cells #[.slice (some ⟨T, 0, none⟩) L L, .slice (some ⟨U, 0, none⟩) m m, sg] 154) = W1 := ⟨_, rfl⟩
  have p0 : W1.cell? ⟨W.heap.size, 0, none⟩ = some (.slice (some ⟨T, 0, none⟩) L L) := by rw [← hW1]; simp [go_sem]
  have p1 : W1.cell? ⟨W.heap.size, 1, none⟩ = some (.slice (some ⟨U, 0, none⟩) m m) := by rw [← hW1]; simp [go_sem]
  have hL2 : 2 ≤ L := by rw [hL, Nat.pow_succ]; have := Nat.two_pow_pos m; omega
  have c1 : W1.cell? ⟨T, 1, none⟩ = some (.int .i64 (levF v p 0 : Int)) := by
    rw [hW1] at hb
    refine kc hb (cell_of_owns hm.ot (by rw [hm.lt]) 1 _ ?_)
    simpa using hlev 0 (by decide)
  have hj0 : J pre W1 := by rw [← hW1]; exact hJ.alloc _ hj
  have hj1 : J pre W1.drew := hJ _ W1 W1.drew none hj0 ⟨rfl, rfl, rfl, Nat.le_refl _, fun _ _ _ => rfl⟩ (fun r e => by cases e)
  have hL3 : (1 : Int) < (L : Int) := by omega
  rw [hW1] at hb
  have hvis : Vis m K (outOfV (.slice (some ⟨U, 0, none⟩) m m) hv p) W1.drew := by
    have e : pu = nI p := by rw [← hpu, List.take_of_length_le (by rw [hp, hm.lu]; exact Nat.le_refl _)]
    refine ⟨?_, hp, hpb⟩
    show Owns W1.drew K _ (nI p)
    rw [← e]
    exact (hm.ou.below hb.drew).mono kU
  obtain ⟨fn, tmps, assign, body, hy, hR⟩ := YieldAt.mono (R' := fun e W' => ∃ b, e = .returned (.bool b) ∧ Above S W1.drew W' ∧ (b = true → J (pre ++ [outOfV (.slice (some ⟨U, 0, none⟩) m m) hv p]) W') ∧ (b = false → Jx (pre ++ [outOfV (.slice (some ⟨U, 0, none⟩) m m) hv p]) W'))
    (YieldAt.anyDV (n - 1) (hY pre (outOfV (.slice (some ⟨U, 0, none⟩) m m) hv p) W1.drew hj1 hN hvis))
    (fun e W' h => by rcases h with ⟨ha, ⟨rfl, h2⟩ | ⟨rfl, h2⟩⟩ <;> exact ⟨_, rfl, ha, by simp [h2], by simp [h2]⟩)
  have FIN := Lib.hid (fun (b : Bool) (W2 : World) (h2 : Above S W1.drew W2 ∧ (b = true → J (pre ++ [outOfV (.slice (some ⟨U, 0, none⟩) m m) hv p]) W2) ∧ (b = false → Jx (pre ++ [outOfV (.slice (some ⟨U, 0, none⟩) m m) hv p]) W2)) =>
    show ((Ending.returned (.bool b) = .returned (.bool true) ∧ Above S W W2 ∧ J (pre ++ [outOfV (.slice (some ⟨U, 0, none⟩) m m) hv p]) W2) ∨ (Ending.returned (.bool b) = .returned (.bool false) ∧ Jx (pre ++ [outOfV (.slice (some ⟨U, 0, none⟩) m m) hv p]) W2)) by
      have hA : Above S W W1.drew := Above.below hb.drew
      cases b
      · exact .inr ⟨rfl, h2.2.2 rfl⟩
      · exact .inl ⟨rfl, hA.trans h2.1, h2.2.1 rfl⟩)
  unfold encSV outOfV at hy
  dsimp only at hy
  clear hL hlev hY hJ hj hj1 hvis hpu hpb kU
  refine callsIn_of_wp Try.func149 rfl trivial ?_ rfl
  simp only [Try.ntmps149, List.size_toArray, List.length_cons, List.length_nil, Nat.reduceAdd, Nat.reduceSub, Array.replicate_succ, Array.replicate_zero, List.push_toArray, List.append_toArray, List.nil_append, List.cons_append]
  have hmx : Try.prog.follows .mixedOrders = true := by kernel_rfl
  gi_wp2
  clear hW1
  refine wpIn_region_any hmx ?_
  change wpAnyIn _ _ _ _ _ _ _ _ _ (World.drew _)
  refine wpAnyIn_take (i := 0) (v := ?_) rfl rfl (by kernel_rfl) (by kernel_rfl) (by kernel_rfl) (fun _ _ _ h => h) ⟨Or.inl ⟨by rfl, by intro w; go_simp; try (with_reducible rfl)⟩, fun _ => rfl⟩ ?_
  refine wpAnyIn_take (i := 1) (v := ?_) rfl rfl (by kernel_rfl) (by kernel_rfl) (by kernel_rfl) (fun _ _ _ h => h) ⟨Or.inl ⟨by rfl, by intro w; go_simp; try (with_reducible rfl)⟩, fun _ => rfl⟩ ?_
  refine wpAnyIn_take (i := 3) (v := ?_) rfl rfl (by kernel_rfl) (by kernel_rfl) (by kernel_rfl) (fun _ _ _ h => h) ⟨Or.inl ⟨by rfl, by intro w; go_simp; try (with_reducible rfl)⟩, fun _ => rfl⟩ ?_
  refine wpAnyIn_ready (rs := [2, 4]) (by kernel_rfl) (by simp) ?_
  refine AllReadyIn.cons rfl (fun K hK => ?_) ?_
  · go_simp
    refine hK _ _ ?_
    clear hK K
    refine wpAnyIn_ready (rs := [4]) (by kernel_rfl) (by simp) ?_
    refine AllReadyIn.cons rfl (fun K hK => ?_) ?_
    · go_simp
      refine hK _ _ ?_
      clear hK K
      refine wpAnyIn_ready (rs := [5]) (by kernel_rfl) (by simp) ?_
      refine AllReadyIn.cons rfl (fun K hK => ?_) ?_
      · go_simp
        refine hK _ _ ?_
        clear hK K
        refine wpAnyIn_ready (rs := [6]) (by kernel_rfl) (by simp) ?_
        refine AllReadyIn.cons rfl (fun K hK => ?_) ?_
        · go_simp
          refine hK _ _ ?_
          clear hK K
          refine wpAnyIn_ready (rs := [7]) (by kernel_rfl) (by simp) ?_
          refine AllReadyIn.cons rfl (fun K hK => ?_) ?_
          · go_simp
            refine ⟨fun h => (by cases h), ?_⟩
            refine hR.mono ?_
            rintro e W2 ⟨b, rfl, h2⟩
            dsimp only
            refine hK _ _ ?_
            clear hK K
            refine wpAnyIn_ready (rs := [8]) (by kernel_rfl) (by simp) ?_
            refine AllReadyIn.cons rfl (fun K hK => ?_) ?_
            · go_simp
              refine hK _ _ ?_
              clear hK K
              refine wpAnyIn_done (by kernel_rfl) ?_ _
              gi_wp2
              go_ret
              exact FIN.out b W2 h2
            exact AllReadyIn.nil
          exact AllReadyIn.nil
        exact AllReadyIn.nil
      exact AllReadyIn.nil
    exact AllReadyIn.nil
  refine AllReadyIn.cons rfl (fun K hK => ?_) ?_
  · go_simp
    refine hK _ _ ?_
    clear hK K
    refine wpAnyIn_ready (rs := [2, 5]) (by kernel_rfl) (by simp) ?_
    refine AllReadyIn.cons rfl (fun K hK => ?_) ?_
    · go_simp
      refine hK _ _ ?_
      clear hK K
      refine wpAnyIn_ready (rs := [5]) (by kernel_rfl) (by simp) ?_
      refine AllReadyIn.cons rfl (fun K hK => ?_) ?_
      · go_simp
        refine hK _ _ ?_
        clear hK K
        refine wpAnyIn_ready (rs := [6]) (by kernel_rfl) (by simp) ?_
        refine AllReadyIn.cons rfl (fun K hK => ?_) ?_
        · go_simp
          refine hK _ _ ?_
          clear hK K
          refine wpAnyIn_ready (rs := [7]) (by kernel_rfl) (by simp) ?_
          refine AllReadyIn.cons rfl (fun K hK => ?_) ?_
          · go_simp
            refine ⟨fun h => (by cases h), ?_⟩
            refine hR.mono ?_
            rintro e W2 ⟨b, rfl, h2⟩
            dsimp only
            refine hK _ _ ?_
            clear hK K
            refine wpAnyIn_ready (rs := [8]) (by kernel_rfl) (by simp) ?_
            refine AllReadyIn.cons rfl (fun K hK => ?_) ?_
            · go_simp
              refine hK _ _ ?_
              clear hK K
              refine wpAnyIn_done (by kernel_rfl) ?_ _
              gi_wp2
              go_ret
              exact FIN.out b W2 h2
            exact AllReadyIn.nil
          exact AllReadyIn.nil
        exact AllReadyIn.nil
      exact AllReadyIn.nil
    refine AllReadyIn.cons rfl (fun K hK => ?_) ?_
    · go_simp
      refine hK _ _ ?_
      clear hK K
      refine wpAnyIn_ready (rs := [2, 6]) (by kernel_rfl) (by simp) ?_
      refine AllReadyIn.cons rfl (fun K hK => ?_) ?_
      · go_simp
        refine hK _ _ ?_
        clear hK K
        refine wpAnyIn_ready (rs := [6]) (by kernel_rfl) (by simp) ?_
        refine AllReadyIn.cons rfl (fun K hK => ?_) ?_
        · go_simp
          refine hK _ _ ?_
          clear hK K
          refine wpAnyIn_ready (rs := [7]) (by kernel_rfl) (by simp) ?_
          refine AllReadyIn.cons rfl (fun K hK => ?_) ?_
          · go_simp
            refine ⟨fun h => (by cases h), ?_⟩
            refine hR.mono ?_
            rintro e W2 ⟨b, rfl, h2⟩
            dsimp only
            refine hK _ _ ?_
            clear hK K
            refine wpAnyIn_ready (rs := [8]) (by kernel_rfl) (by simp) ?_
            refine AllReadyIn.cons rfl (fun K hK => ?_) ?_
            · go_simp
              refine hK _ _ ?_
              clear hK K
              refine wpAnyIn_done (by kernel_rfl) ?_ _
              gi_wp2
              go_ret
              exact FIN.out b W2 h2
            exact AllReadyIn.nil
          exact AllReadyIn.nil
        exact AllReadyIn.nil
      refine AllReadyIn.cons rfl (fun K hK => ?_) ?_
      · go_simp
        refine hK _ _ ?_
        clear hK K
        refine wpAnyIn_ready (rs := [2]) (by kernel_rfl) (by simp) ?_
        refine AllReadyIn.cons rfl (fun K hK => ?_) ?_
        · go_simp
          refine hK _ _ ?_
          clear hK K
          refine wpAnyIn_ready (rs := [7]) (by kernel_rfl) (by simp) ?_
          refine AllReadyIn.cons rfl (fun K hK => ?_) ?_
          · go_simp
            refine ⟨fun h => (by cases h), ?_⟩
            refine hR.mono ?_
            rintro e W2 ⟨b, rfl, h2⟩
            dsimp only
            refine hK _ _ ?_
            clear hK K
            refine wpAnyIn_ready (rs := [8]) (by kernel_rfl) (by simp) ?_
            refine AllReadyIn.cons rfl (fun K hK => ?_) ?_
            · go_simp
              refine hK _ _ ?_
              clear hK K
              refine wpAnyIn_done (by kernel_rfl) ?_ _
              gi_wp2
              go_ret
              exact FIN.out b W2 h2
            exact AllReadyIn.nil
          exact AllReadyIn.nil
        exact AllReadyIn.nil
      exact AllReadyIn.nil
    exact AllReadyIn.nil
  exact AllReadyIn.nil
end Go.Proofs.Ytbdhlokbpbiijab

/- NQ3:
  putFrom by contract: one more to put in. -/
namespace Go.Proofs.Ytbdhlokbpbiijab
open Go.RowKit Go.Shelf
set_option linter.unusedVariables false
set_option linter.unusedSimpArgs false

theorem Firm.drewV {β : Type} {K : Nat} {J : β → World → Prop} (h : Firm K J) {s : β} {W : World} (hs : J s W) : J s W.drew :=
  h s W W.drew none hs ⟨rfl, rfl, rfl, Nat.le_refl _, fun _ _ _ => rfl⟩ (fun r e => by cases e)
theorem Firm.setV {β : Type} {K : Nat} {J : β → World → Prop} (h : Firm K J) {s : β} {W : World} (b o : Nat) (v : Value) (hs : J s W) (hb : K ≤ b) : J s (W.setCell ⟨b, o, none⟩ v) :=
  h s W _ (some b) hs (grownSet W b o v) (fun r e => by cases e; exact hb)

/-- All that is handed out behind p. -/
def outsV (sp : Value) {v : Nat → Nat} (hv : ∀ q, v q < 2 ^ 4) (gs p : List Nat) (d : Nat) : List OutV := (allP gs d).map fun t => outOfV sp hv (p ++ t)
theorem outs_zeroV (sp : Value) {v : Nat → Nat} (hv : ∀ q, v q < 2 ^ 4) (gs p : List Nat) : outsV sp hv gs p 0 = [outOfV sp hv p] := by simp [outsV, allP]
/-- .. the first j of what is put in next. -/
def outsToV (sp : Value) {v : Nat → Nat} (hv : ∀ q, v q < 2 ^ 4) (gs p : List Nat) (d j : Nat) : List OutV := (gs.take j).flatMap fun a => outsV sp hv gs (p ++ [a]) d
theorem outsTo_succV (sp : Value) {v : Nat → Nat} (hv : ∀ q, v q < 2 ^ 4) (gs p : List Nat) (d j a : Nat) (h : gs[j]? = some a) : outsToV sp hv gs p d (j + 1) = outsToV sp hv gs p d j ++ outsV sp hv gs (p ++ [a]) d := by
  obtain ⟨hj, e⟩ := List.getElem?_eq_some_iff.1 h
  unfold outsToV
  rw [List.take_succ_eq_append_getElem hj, List.flatMap_append, e]
  simp
theorem outs_succV (sp : Value) {v : Nat → Nat} (hv : ∀ q, v q < 2 ^ 4) (gs p : List Nat) (d : Nat) : outsV sp hv gs p (d + 1) = outsToV sp hv gs p d gs.length := by
  unfold outsToV outsV
  rw [List.take_length, allP, List.map_flatMap]
  congr 1
  funext a
  rw [List.map_map]
  congr 1
  funext t
  simp
theorem outs_lengthV (sp : Value) {v : Nat → Nat} (hv : ∀ q, v q < 2 ^ 4) (gs p : List Nat) (d : Nat) : (outsV sp hv gs p d).length = gs.length ^ d := by simp [outsV, allP_length]
theorem outsTo_lengthV (sp : Value) {v : Nat → Nat} (hv : ∀ q, v q < 2 ^ 4) (gs p : List Nat) (d j : Nat) (hj : j ≤ gs.length) : (outsToV sp hv gs p d j).length = j * gs.length ^ d := by
  simp [outsToV, List.length_flatMap, outs_lengthV, List.map_const', List.sum_replicate_nat, Nat.min_eq_left hj]

theorem outsTo_prefV (sp : Value) {v : Nat → Nat} (hv : ∀ q, v q < 2 ^ 4) (gs p : List Nat) (d j k : Nat) (h : j ≤ k) : outsToV sp hv gs p d j <+: outsToV sp hv gs p d k := by
  unfold outsToV
  have e : gs.take k = gs.take j ++ (gs.take k).drop j := by
    conv => lhs; rw [← List.take_append_drop j (gs.take k), List.take_take, Nat.min_eq_left h]
  rw [e, List.flatMap_append]
  exact ⟨_, rfl⟩
theorem outsTo_catV (sp : Value) {v : Nat → Nat} (hv : ∀ q, v q < 2 ^ 4) (gs p : List Nat) (d j a : Nat) (h : gs[j]? = some a) (q : List OutV) (hq : q <+: outsV sp hv gs (p ++ [a]) d) : outsToV sp hv gs p d j ++ q <+: outsToV sp hv gs p d (j + 1) := by
  rw [outsTo_succV sp hv gs p d j a h]
  exact (List.prefix_append_right_inj _).2 hq

/-- What putFrom answers, and what it leaves. -/
def PutPostV {v : Nat → Nat} (hv : ∀ q, v q < 2 ^ 4) (T U L m d : Nat) (S : Nat → Prop) (J Jx : List OutV → World → Prop) (gs p : List Nat) (pre : List OutV) (tr : List Int) (W : World) (e : Ending) (W' : World) : Prop :=
  (e = .returned (.bool true) ∧ Above (fun k => S k ∧ k ≠ T ∧ k ≠ U) W W' ∧ (∃ tr' pu', SMemV T U L m tr' pu' W' ∧ (∀ j, 2 ^ d ≤ j → tr'[j]? = tr[j]?) ∧ pu'.take p.length = nI p) ∧ J (pre ++ outsV (.slice (some ⟨U, 0, none⟩) m m) hv gs p d) W') ∨
  (e = .returned (.bool false) ∧ ∃ q, q <+: outsV (.slice (some ⟨U, 0, none⟩) m m) hv gs p d ∧ Jx (pre ++ q) W')

/-- What is asked of memory at a call of putFrom. -/
structure PutPreV (v : Nat → Nat) (T U L m d K N : Nat) (S : Nat → Prop) (J : List OutV → World → Prop) (sg : Value) (gs p : List Nat) (pre : List OutV) (tr pu : List Int) (W : World) : Prop where
  hp : p.length + d = m
  hm : SMemV T U L m tr pu W
  hlev : ∀ q, q < 2 ^ d → tr[2 ^ d + q]? = some ((levF v p q : Nat) : Int)
  hj : J pre W
  hN : pre.length + gs.length ^ d ≤ N
  hK : K ≤ W.heap.size
  hg : Owns W 0 sg (nI gs)
  hpu : pu.take p.length = nI p
  hpb : ∀ a, a ∈ p → a < 16

/-- What stays as it is. -/
structure PutFixV (T U L m K : Nat) (S : Nat → Prop) (sg : Value) (gs : List Nat) : Prop where
  hL : L = 2 ^ (m + 1)
  m4 : m ≤ 4
  kT : K ≤ T
  kU : K ≤ U
  ne : T ≠ U
  kS : ∀ k, K ≤ k → S k
  gS : ∀ k, sg.ownBlock = some k → S k ∧ k ≠ T ∧ k ≠ U
  g16 : ∀ a, a ∈ gs → a < 16
  gl : gs.length ≤ 16

set_option maxRecDepth 100000 in
set_option maxHeartbeats 8000000 in
theorem putFrom_succV {v : Nat → Nat} (hv : ∀ q, v q < 2 ^ 4) (l T U K m N L : Nat) (S : Nat → Prop) (sg : Value) (gs : List Nat) (J Jx : List OutV → World → Prop) (hJ : Firm K J) (fx : PutFixV T U L m K S sg gs) (d : Nat)
    (ih : ∀ p pre tr pu W, PutPreV v T U L m d K N S J sg gs p pre tr pu W →
      Calls Try.prog 149 #[.agg #[.slice (some ⟨T, 0, none⟩) L L, .slice (some ⟨U, 0, none⟩) m m, sg], .int .i64 (p.length : Int), .func (.yield l) #[] #[]] W (PutPostV hv T U L m d S J Jx gs p pre tr W))
    (p : List Nat) (pre : List OutV) (tr pu : List Int) (W : World) (h : PutPreV v T U L m (d + 1) K N S J sg gs p pre tr pu W) :
    Calls Try.prog 149 #[.agg #[.slice (some ⟨T, 0, none⟩) L L, .slice (some ⟨U, 0, none⟩) m m, sg], .int .i64 (p.length : Int), .func (.yield l) #[] #[]] W (PutPostV hv T U L m (d + 1) S J Jx gs p pre tr W) := by
  obtain ⟨i, hi'⟩ : ∃ i, p.length = i := ⟨_, rfl⟩
  obtain ⟨hp, hm, hlev, hj, hN, hK, hg, hpu, hpb⟩ := h
  obtain ⟨hL, m4, kT, kU, ne, kS, gS, g16, gl⟩ := fx
  have lT : T < W.heap.size := (World.ownsRow.lt hm.ot T rfl).2
  have lU : U < W.heap.size := (World.ownsRow.lt hm.ou U rfl).2
  obtain ⟨W1, hW1⟩ : ∃ W1, W.alloc (.cells #[.slice (some ⟨T, 0, none⟩) L L, .slice (some ⟨U, 0, none⟩) m m, sg] 154) = W1 := ⟨_, rfl⟩
  have p0 : W1.cell? ⟨W.heap.size, 0, none⟩ = some (.slice (some ⟨T, 0, none⟩) L L) := by rw [← hW1]; simp [go_sem]
  have p1 : W1.cell? ⟨W.heap.size, 1, none⟩ = some (.slice (some ⟨U, 0, none⟩) m m) := by rw [← hW1]; simp [go_sem]
  have p2 : W1.cell? ⟨W.heap.size, 2, none⟩ = some sg := by rw [← hW1]; simp [go_sem]
  have hb : Below W.heap.size W W1 := by rw [← hW1]; exact bnew _ _
  have sB : S W.heap.size ∧ W.heap.size ≠ T ∧ W.heap.size ≠ U := ⟨kS _ hK, by omega, by omega⟩
  have hA1 : Above (fun k => S k ∧ k ≠ T ∧ k ≠ U) W W1 := Above.below hb
  have hm1 : SMemV T U L m tr pu W1 := ⟨hm.ot.below hb, hm.ou.below hb, hm.lt, hm.lu⟩
  have hg1 : Owns W1 0 sg (nI gs) := hg.below hb
  have hj1 : J pre W1 := by rw [← hW1]; exact hJ.alloc _ hj
  obtain ⟨sa, cap, rfl⟩ : ∃ a cap, sg = .slice a gs.length cap := by
    obtain ⟨a, cap, e⟩ := owns_len hg (nI_length gs)
    exact ⟨a, cap, e⟩
  rw [hi'] at hp hpu ⊢
  have HPU0 := Lib.hid hpu
  clear hpu
  have hd4 : d ≤ 3 := by omega
  have hlp : (i : Int) < (m : Int) := by omega
  have hne : ((i : Int) == (m : Int)) = false := by simp; omega
  have hs1 : (m : Int) - (i : Int) - 1 = (d : Int) := by omega
  obtain ⟨F, hFd⟩ : ∃ F, F = 2 ^ d := ⟨_, rfl⟩
  have hF : wrap64 ((2 : Int) ^ d) = (F : Int) := by
    have h8 : F ≤ 8 := by rw [hFd]; exact Nat.pow_le_pow_right (by decide) hd4
    have e : (2 : Int) ^ d = (F : Int) := by rw [hFd]; push_cast; rfl
    rw [e]
    exact IntWalk.wrap64_in _ ⟨by omega, by omega⟩
  have F1 : 1 ≤ F := by rw [hFd]; exact Nat.two_pow_pos d
  have F8 : F ≤ 8 := by rw [hFd]; exact Nat.pow_le_pow_right (by decide) hd4
  have hF2 : 2 ^ (d + 1) = 2 * F := by rw [hFd, Nat.pow_succ]; omega
  have FL : 4 * F ≤ L := by
    rw [hFd, hL]
    have h1 : 2 ^ (d + 2) ≤ 2 ^ (m + 1) := Nat.pow_le_pow_right (by decide) (by omega)
    have h2 : 2 ^ (d + 2) = 4 * 2 ^ d := by rw [Nat.pow_succ, Nat.pow_succ, Nat.mul_assoc, Nat.mul_comm]
    exact h2 ▸ h1
  have L32 : L ≤ 32 := by rw [hL]; exact Nat.pow_le_pow_right (by decide) (show m + 1 ≤ 5 by omega)
  rw [hF2] at hlev
  have HF2 := Lib.hid hF2
  have HLV := Lib.hid hlev
  have HFD := Lib.hid hFd
  have HN := Lib.hid hN
  have HOS := Lib.hid (outs_succV (.slice (some ⟨U, 0, none⟩) m m) hv gs p d)
  have HI := Lib.hid hi'
  clear hi'
  clear hL hF2 hFd hlev hN hm hg hj hb
  go_enter Try.func149, Try.ntmps149
  go_wp2_with fail
  clear hW1
  rw [hF]
  clear hF
  go_loopw [34] (fun j' wr => ∃ j : Nat, j ≤ gs.length ∧ j' = .int .i64 j ∧ (∃ trj puj, SMemV T U L m trj puj wr ∧ (∀ x, 2 * F ≤ x → trj[x]? = tr[x]?) ∧ Hid (puj.take i = nI p)) ∧ Above (fun k => S k ∧ k ≠ T ∧ k ≠ U) W1 wr ∧ J (pre ++ outsToV (.slice (some ⟨U, 0, none⟩) m m) hv gs p d j) wr)
    (fun j' _ => gs.length - (intOf j').toNat)
  case atStart => exact ⟨0, Nat.zero_le _, rfl, ⟨tr, pu, hm1, fun _ _ => rfl, HPU0⟩, Above.refl _ _, by simpa [outsToV] using hj1⟩
  case round =>
    obtain ⟨j, hjl, rfl, ⟨trj, puj, hmj, hkeep, HPU⟩, hAj, hJj⟩ := hrel
    by_cases hlt : j < gs.length
    · obtain ⟨a, ha⟩ : ∃ a, gs[j]? = some a := ⟨_, List.getElem?_eq_getElem hlt⟩
      have a16 : a < 16 := g16 a (List.mem_of_getElem? ha)
      obtain ⟨G, rfl⟩ : ∃ G, sa = some ⟨G, 0, none⟩ := by
        rcases hg1.shape with ⟨e, _⟩ | ⟨_, g, c, e, _⟩
        · have := congrArg List.length e; rw [nI_length] at this; simp at this; rw [this] at hlt; simp at hlt
        · injection e with e1 _ _
          exact ⟨g, e1⟩
      have hgj := owns_above hg1 hAj gS
      have cG : wr.cell? ⟨G, j, none⟩ = some (.int .i64 (a : Int)) := cell_of_owns hgj (by rw [nI_length]) j _ (by simp [nI, ha])
      have q0 := cell_above hAj sB p0
      have q1 := cell_above hAj sB p1
      obtain ⟨W2, hW2⟩ : ∃ W2, wr.setCell ⟨U, i, none⟩ (.int .i64 (a : Int)) = W2 := ⟨_, rfl⟩
      obtain ⟨u, cu⟩ : ∃ u, wr.cell? ⟨U, i, none⟩ = some u := by
        have hl : i < puj.length := by rw [hmj.lu]; omega
        exact ⟨_, cell_of_owns hmj.ou (by rw [hmj.lu]) i _ (List.getElem?_eq_getElem hl)⟩
      have fu : wr.frozen? ⟨U, i, none⟩ = false := by
        have := hmj.ou; rw [← hmj.lu] at this; exact frozen_of_owns this i
      have hm2 : SMemV T U L m trj (puj.set i a) W2 := by
        rw [← hW2]
        exact ⟨owns_other hmj.ot U i _ (fun k e => by cases e; exact ne), owns_set hmj.ou hmj.lu.symm i a, hmj.lt, by rw [List.length_set]; exact hmj.lu⟩
      have hA2 : Above (fun k => S k ∧ k ≠ T ∧ k ≠ U) W1 W2 := by
        rw [← hW2]; exact hAj.trans (Above.grown (grownSet _ _ _ _) (fun r e h => by cases e; exact h.2.2 rfl))
      have hJ2 : J (pre ++ outsToV (.slice (some ⟨U, 0, none⟩) m m) hv gs p d j) W2 := by
        rw [← hW2]; exact hJ _ _ _ _ hJj (grownSet _ _ _ _) (fun r e => by cases e; exact kU)
      have HP2 := Lib.hid (show (puj.set i (a : Int)).take (i + 1) = nI (p ++ [a]) by rw [take_set_succ _ _ _ (by rw [hmj.lu]; omega), HPU.out]; simp [nI])
      have HA := Lib.hid ha
      clear ha hmj hAj hJj hgj
      go_wp2
      go_loopw [10] (fun pl wq => ∃ k : Nat, k ≤ F ∧ pl = .int .i64 ((F + k : Nat) : Int) ∧ SMemV T U L m (setsN trj F (fun q => ((levF v (p ++ [a]) q : Nat) : Int)) k) (puj.set i a) wq ∧ Above (fun k => S k ∧ k ≠ T ∧ k ≠ U) W1 wq ∧ J (pre ++ outsToV (.slice (some ⟨U, 0, none⟩) m m) hv gs p d j) wq)
        (fun pl _ => 2 * F - (intOf pl).toNat)
      case atStart => exact ⟨0, Nat.zero_le _, by simp, hm2, hA2, hJ2⟩
      case round =>
        clear q0 q1 cG cu fu hW2 hm2 hA2 hJ2
        obtain ⟨k, hk, rfl, hmq, hAq, hJq⟩ := hrel
        have q0 := cell_above hAq sB p0
        have q1 := cell_above hAq sB p1
        have q2 := cell_above hAq sB p2
        by_cases hkl : k < F
        · have hx1 : (setsN trj F (fun q => ((levF v (p ++ [a]) q : Nat) : Int)) k)[2 * (F + k)]? = some ((levF v p (2 * k) : Nat) : Int) := by
            rw [setsN_out _ _ _ _ _ (by omega), hkeep _ (by omega), show 2 * (F + k) = 2 * F + 2 * k by omega]
            exact HLV.out _ (by omega)
          have hx2 : (setsN trj F (fun q => ((levF v (p ++ [a]) q : Nat) : Int)) k)[2 * (F + k) + 1]? = some ((levF v p (2 * k + 1) : Nat) : Int) := by
            rw [setsN_out _ _ _ _ _ (by omega), hkeep _ (by omega), show 2 * (F + k) + 1 = 2 * F + (2 * k + 1) by omega]
            exact HLV.out _ (by omega)
          have hlev2 := Lib.hid (levF_snoc v p a k)
          have hop := sel_ops (levF v p (2 * k)) (levF_lt hv p _) (levF v p (2 * k + 1)) (levF_lt hv p _) a a16
          have x16 := levF_lt hv p (2 * k)
          generalize levF v p (2 * k) = x1 at hx1 hlev2 hop x16
          generalize levF v p (2 * k + 1) = x2 at hx2 hlev2 hop
          obtain ⟨P, hP⟩ : ∃ P, P = F + k := ⟨_, rfl⟩
          obtain ⟨A, hA⟩ : ∃ A, A = 2 * P := ⟨_, rfl⟩
          obtain ⟨B, hB⟩ : ∃ B, B = A + 1 := ⟨_, rfl⟩
          have hw1 : IntKind.i64.wrap (2 * (P : Int)) = (A : Int) := by rw [wrap64_small (by omega) (by omega)]; omega
          have hw2 : IntKind.i64.wrap ((A : Int) + 1) = (B : Int) := by rw [wrap64_small (by omega) (by omega)]; omega
          have c1 : wr.cell? ⟨T, A, none⟩ = some (.int .i64 (x1 : Int)) := cell_of_owns hmq.ot (by rw [hmq.lt]) A _ (by rw [hA, hP]; exact hx1)
          have c2 : wr.cell? ⟨T, B, none⟩ = some (.int .i64 (x2 : Int)) := cell_of_owns hmq.ot (by rw [hmq.lt]) B _ (by rw [hB, hA, hP]; exact hx2)
          have hPL : P < L := by omega
          have hAL : A < L := by omega
          have hBL : B < L := by omega
          have hP2 : (P : Int) < 2 * (F : Int) := by omega
          obtain ⟨u3, c3⟩ : ∃ u, wr.cell? ⟨T, P, none⟩ = some u := by
            have hl : P < (setsN trj F (fun q => ((levF v (p ++ [a]) q : Nat) : Int)) k).length := by rw [hmq.lt]; omega
            exact ⟨_, cell_of_owns hmq.ot (by rw [hmq.lt]) P _ (List.getElem?_eq_getElem hl)⟩
          have f3 : wr.frozen? ⟨T, P, none⟩ = false := by
            have := hmq.ot; rw [← hmq.lt] at this; exact frozen_of_owns this P
          have HMQ := Lib.hid hmq
          have HPK := Lib.hid hP
          have hA3 := Lib.hid hA
          have hB3 := Lib.hid hB
          rw [← hP]
          clear hx1 hx2 hmq hA hB hP
          go_wp2
          go_region
          go_wp2
          go_roundw
          case rel =>
            have hl2 := hlev2.out
            refine ⟨k + 1, by omega, ?_, ?_, ?_, ?_⟩
            · rw [HPK.out]; go_num
            · have hst := owns_set HMQ.out.ot HMQ.out.lt.symm P ((selN x1 x2 a : Nat) : Int)
              have e : (setsN trj F (fun q => ((levF v (p ++ [a]) q : Nat) : Int)) k).set P ((selN x1 x2 a : Nat) : Int) = setsN trj F (fun q => ((levF v (p ++ [a]) q : Nat) : Int)) (k + 1) := by
                rw [setsN, hl2, HPK.out]
              rw [e] at hst
              exact ⟨hst.below (Below.refl _ _).drew, (owns_other HMQ.out.ou T P _ (fun k e => by cases e; exact fun h => ne h.symm)).below (Below.refl _ _).drew, by rw [setsN_length, ← setsN_length trj F (fun q => ((levF v (p ++ [a]) q : Nat) : Int)) k]; exact HMQ.out.lt, HMQ.out.lu⟩
            · exact hAq.trans ((Above.grown (grownSet wr T P _) (fun r e h => by cases e; exact h.2.1 rfl)).trans (Above.below (Below.refl _ _).drew))
            · exact Firm.drewV hJ (Firm.setV hJ T P _ hJq kT)
          case measure => simp [intOf]; omega
        · obtain rfl : k = F := by omega
          have hsN := setsN_length trj k (fun q => ((levF v (p ++ [a]) q : Nat) : Int)) k
          have hlen2 : (p ++ [a]).length = i + 1 := by rw [List.length_append, HI.out]; rfl
          have hN2 : (pre ++ outsToV (.slice (some ⟨U, 0, none⟩) m m) hv gs p d j).length + gs.length ^ d ≤ N := by
            have h1 := HN.out
            rw [List.length_append, outsTo_lengthV _ _ _ _ _ _ hjl]
            have h2 : (j + 1) * gs.length ^ d ≤ gs.length * gs.length ^ d := Nat.mul_le_mul_right _ hlt
            rw [Nat.pow_succ, Nat.mul_comm] at h1
            rw [Nat.add_mul, Nat.one_mul] at h2
            omega
          have hKr : K ≤ wr.heap.size := Nat.le_trans (Nat.le_trans hK (Nat.le_trans (by have := hA1.size; exact this) (Nat.le_refl _))) hAq.size
          have IH := ih (p ++ [a]) (pre ++ outsToV (.slice (some ⟨U, 0, none⟩) m m) hv gs p d j) (setsN trj k (fun q => ((levF v (p ++ [a]) q : Nat) : Int)) k) (puj.set i a) wr
            ⟨by rw [hlen2]; omega, hmq, fun q hq => by rw [← HFD.out] at hq ⊢; exact setsN_in _ _ _ _ _ hq (by have := hmq.lt; rw [hsN] at this; omega), hJq, hN2, hKr, owns_above hg1 hAq gS, by rw [hlen2]; exact HP2.out, fun b hb => by rcases List.mem_append.1 hb with h | h; exact hpb b h; rw [List.mem_singleton.1 h]; exact a16⟩
          rw [hlen2] at IH
          have hw5 : IntKind.i64.wrap ((i : Int) + 1) = ((i + 1 : Nat) : Int) := by rw [wrap64_small (by omega) (by omega)]; push_cast; rfl
          have IHH := Lib.hid IH
          have HMQ := Lib.hid hmq
          have HHJ := Lib.hid hJq
          have hkp : ∀ x, 2 * k ≤ x → (setsN trj k (fun q => ((levF v (p ++ [a]) q : Nat) : Int)) k)[x]? = tr[x]? := fun x hx => by rw [setsN_out _ _ _ _ _ (by omega), hkeep x hx]
          have HKP := Lib.hid hkp
          have hP2 : decide (((k + k : Nat) : Int) < 2 * (k : Int)) = false := by simp; omega
          clear IH hmq hJq hsN hlen2 hN2 hkp
          go_wp2_with (go_at_call 149; refine IHH.out.mono ?_; rintro e w5 (⟨rfl, hA5, ⟨tr5, pu5, hm5, hk5, hpu5⟩, hJ5⟩ | ⟨rfl, q, hqp, hq⟩))
          · go_roundw
            case rel =>
              refine ⟨j + 1, by omega, by go_num, ⟨tr5, pu5, hm5, fun x hx => ?_, Lib.hid (HI.out ▸ take_less hpu5)⟩, hAq.trans hA5, ?_⟩
              · rw [hk5 x (by rw [← HFD.out]; omega), HKP.out x hx]
              · rw [outsTo_succV _ _ _ _ _ _ _ HA.out, ← List.append_assoc]; exact hJ5
            case measure => simp [intOf]; omega
          · go_ret
            refine .inr ⟨rfl, outsToV (.slice (some ⟨U, 0, none⟩) m m) hv gs p d j ++ q, ?_, by rw [← List.append_assoc]; exact hq⟩
            rw [HOS.out]
            exact (outsTo_catV _ _ _ _ _ _ _ HA.out q hqp).trans (outsTo_prefV _ _ _ _ _ _ _ hlt)
    · obtain rfl : j = gs.length := by omega
      have HMJ := Lib.hid hmj
      have HJJ := Lib.hid hJj
      clear hmj hJj
      go_wp2
      go_ret
      refine .inl ⟨rfl, hA1.trans hAj, ⟨trj, puj, HMJ.out, fun x hx => hkeep x (by rw [← HF2.out]; exact hx), by rw [HI.out]; exact HPU.out⟩, ?_⟩
      rw [HOS.out]
      exact HJJ.out
end Go.Proofs.Ytbdhlokbpbiijab
