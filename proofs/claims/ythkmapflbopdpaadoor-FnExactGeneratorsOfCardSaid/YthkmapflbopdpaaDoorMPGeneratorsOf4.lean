/-
  The texts CN23, CN24a, CN24, CN25, SHF, T1, V1, V2, V3, CN26, CN27, RE1, NM1, RE2 in one.
-/
import Derived.Test.YthkmapflbopdpaaDoorMPGeneratorsOf3
import Derived.Lib.Bytes
import Derived.Shelf.Strings.Fields
import Derived.Test.YthkmapflbopdpaaDoorProg
import Derived.Lib.Bytealg
import Derived.Lib.IndexLaws
import Derived.Deep.QuietTactic

/- CN23:
  namedClones of the program: all names in memory. -/
namespace Go.Proofs.YthkmapflbopdpaaDoor
open Go.RowKit Go.Shelf
set_option linter.unusedVariables false
set_option linter.unusedSimpArgs false

/-- The table in memory, with the tests' slices by a name. -/
def LinesT (W : World) (B : Nat) (TV : Nat → Value) : Prop := B < W.heap.size ∧ ∀ j, j < 38 → W.cell? ⟨B, j * 4, none⟩ = some (.string (lnB j)) ∧ W.cell? ⟨B, j * 4 + 1, none⟩ = some (.int .i64 (lnK j : Int)) ∧ W.cell? ⟨B, j * 4 + 2, none⟩ = some (TV j) ∧ W.cell? ⟨B, j * 4 + 3, none⟩ = some (.string (lnG j)) ∧ TestsM W (TV j) (lnT j)
theorem LinesM.named {W : World} {B : Nat} (h : LinesM W B) : ∃ TV, LinesT W B TV := by
  refine ⟨fun j => (W.cell? ⟨B, j * 4 + 2, none⟩).getD undef, h.1, fun j hj => ?_⟩
  obtain ⟨tv, h0, h1, h2, h3, h4⟩ := h.2 j hj
  have e : (W.cell? ⟨B, j * 4 + 2, none⟩).getD undef = tv := by rw [h2]; rfl
  refine ⟨h0, h1, ?_, h3, ?_⟩
  · dsimp only; rw [e]; exact h2
  · dsimp only; rw [e]; exact h4
/-- One named clone as cells: a line, and a degree. -/
def clV (TV : Nat → Value) (p : Nat × Nat) : List Value := [.string (lnB p.1), .int .i64 (lnK p.1 : Int), TV p.1, .string (lnG p.1), .int .i64 (p.2 : Int)]
def clC (TV : Nat → Value) (l : List (Nat × Nat)) : List Value := l.flatMap (clV TV)
theorem clC_snoc (TV : Nat → Value) (l : List (Nat × Nat)) (p : Nat × Nat) : clC TV (l ++ [p]) = clC TV l ++ clV TV p := by simp [clC, List.flatMap_append]
def clOf (j : Nat) : List (Nat × Nat) := if lnK j = 2 then [(j, 9)] else [(j, 9), (j, 2), (j, 3)]
def clTo (k : Nat) : List (Nat × Nat) := (List.range k).flatMap clOf
theorem clTo_succ (k : Nat) : clTo (k + 1) = clTo k ++ clOf k := by simp [clTo, List.range_succ, List.flatMap_append]
theorem clTo_len : ∀ k < 39, (clTo k).length ≤ 54 := by decide
theorem clTo_all : (clTo 38).length = 54 := by decide
theorem infoC : (Tryd.prog.info? 34).map (fun i => (i.zero, i.size, i.bytes)) = some (some (.agg #[.string ⟨#[]⟩, .int .i64 0, .slice none 0 0, .string ⟨#[]⟩, .int .i64 0]), 5, 72) := by kernel_rfl
theorem five_new (W : World) (a b c d e : Value) (t : TypeId) : ∀ j u, [a, b, c, d, e][j]? = some u → (W.alloc (.cells #[a, b, c, d, e] t)).cell? ((⟨W.heap.size, 0, none⟩ : Addr).add j) = some u := by
  intro j u h
  have hj : j < 5 := by
    obtain ⟨hlt, _⟩ := List.getElem?_eq_some_iff.1 h
    simpa using hlt
  rcases (by omega : j = 0 ∨ j = 1 ∨ j = 2 ∨ j = 3 ∨ j = 4) with rfl | rfl | rfl | rfl | rfl <;>
    (simp at h; subst h; simp [go_sem, Addr.add])

theorem five_new' (W : World) {N : Nat} (hN : N = W.heap.size) (a b c d e : Value) (t : TypeId) : ∀ j u, [a, b, c, d, e][j]? = some u → (W.alloc (.cells #[a, b, c, d, e] t)).cell? ((⟨N, 0, none⟩ : Addr).add j) = some u := by
  subst hN
  exact five_new W a b c d e t

theorem row_not {W : World} {base : Nat} {e : TypeId} {size : Nat} {v : Value} {n : Nat} {xs : List Value} {X : Nat} {cs : Array Value} {t : TypeId} (h : W.ownsRow base e size v n xs) (hX : W.heap[X]? = some (.cells cs t)) (ht : t ≠ e) : some X ≠ v.ownBlock := by
  rcases h.2 with ⟨rfl, _⟩ | ⟨g, cap, cur, rfl, _, hg, _⟩
  · intro h; cases h
  · intro h
    have e2 : X = g := by
      have : some X = some g := h
      exact Option.some.inj this
    subst e2
    rw [hX] at hg
    have := Option.some.inj hg
    injection this with _ h2
    exact ht h2
theorem cell_of_obj {W : World} {X o : Nat} {cs : Array Value} {t : TypeId} {u : Value} (hX : W.heap[X]? = some (.cells cs t)) (hu : cs[o]? = some u) : W.cell? ⟨X, o, none⟩ = some u := by
  simp only [World.cell?, hX, Option.isSome_none, Bool.false_eq_true, if_false]
  exact hu
theorem obj_lt {W : World} {X : Nat} {o : Obj} (h : W.heap[X]? = some o) : X < W.heap.size := (Array.getElem?_eq_some_iff.1 h).1
theorem row_mono {W : World} {b1 b2 : Nat} {e : TypeId} {size : Nat} {v : Value} {n : Nat} {xs : List Value} (h : W.ownsRow b1 e size v n xs) (hb : b2 ≤ b1) : W.ownsRow b2 e size v n xs := by
  rcases h with ⟨h1, h | ⟨g, cap, cur, e1, hg, r⟩⟩
  · exact ⟨h1, .inl h⟩
  · exact ⟨h1, .inr ⟨g, cap, cur, e1, Nat.le_trans hb hg, r⟩⟩

set_option maxRecDepth 100000 in
set_option maxHeartbeats 8000000 in
theorem namedClones_any (w : World) :
    Calls Tryd.prog 23 #[] w fun e w' => ∃ (v : Value) (TV : Nat → Value), e = .returned v ∧ w'.ownsRow w.heap.size 34 5 v 54 (clC TV (clTo 38)) ∧ (∀ j, j < 38 → ∃ a n c, TV j = .slice a n c) ∧ Below w.heap.size w w' := by
  obtain ⟨i0, hi, hz0, hz1, hz2⟩ := info_parts infoC
  have NL := Lib.hid (fun W => nameLines_any W)
  have HS := Lib.hid clTo_succ
  have HLN := Lib.hid clTo_len
  go_enter Tryd.func23, Tryd.ntmps23
  go_wp2_with (go_at_call 36; refine (NL.out _).mono ?_; rintro e w1 ⟨B, rfl, hL, hBl, hb1⟩)
  obtain ⟨TV, hT⟩ := hL.named
  have HT := Lib.hid hT
  clear hL hT
  go_loopw [1, 7] (fun v i' wr => ∃ i : Nat, i ≤ 38 ∧ i' = .int .i64 i ∧ wr.ownsRow w1.heap.size 34 5 v (clTo i).length (clC TV (clTo i)) ∧ Below w1.heap.size w1 wr) (fun _ i' _ => 38 - (intOf i').toNat)
  case atStart => exact ⟨0, Nat.zero_le _, rfl, World.ownsRow_nil _ _ _ _, Below.refl _ _⟩
  case round =>
    obtain ⟨i, hi38, rfl, hrow, hN⟩ := hrel
    obtain ⟨wo, rfl⟩ : ∃ wo : World, wo = wr := ⟨_, rfl⟩
    by_cases hlt : i < 38
    · obtain ⟨c0, c1, c2, c3, hts⟩ := HT.out.2 i hlt
      obtain ⟨ta, tc, htv, _⟩ := hts
      have q0 := kc hN c0
      have q1 := kc hN c1
      have q2 := kc hN c2
      have q3 := kc hN c3
      have hsz := hN.size
      have hlen := HLN.out i (by omega)
      have HCV : Hid (∀ d : Nat, clV TV (i, d) = [.string (lnB i), .int .i64 (lnK i : Int), .slice ta (lnT i).length tc, .string (lnG i), .int .i64 (d : Int)]) := Lib.hid fun d => by unfold clV; rw [htv]
      have HOF : Hid (clTo (i + 1) = clTo i ++ if lnK i = 2 then [(i, 9)] else [(i, 9), (i, 2), (i, 3)]) := Lib.hid (HS.out i)
      rw [htv] at q2
      clear c0 c1 c2 c3 htv
      generalize lnB i = b at q0 HCV
      generalize lnG i = g at q3 HCV
      generalize (lnT i).length = Lt at q2 HCV
      generalize lnK i = k at q1 HCV HOF
      generalize clTo i = cl at hrow hlen HOF
      obtain ⟨K, hK⟩ : ∃ K, cl.length = K := ⟨_, rfl⟩
      rw [hK] at hrow hlen
      have HK := Lib.hid hK
      clear hK
      by_cases hk : k = 2
      · have hg : ((k : Int) == 2) = true := by simp [hk]
        rw [if_pos hk] at HOF
        clear hk
        go_wp2_with (first
          | (at_builtin; refine wpList_append_own _ rfl _ _ 54 rfl w1.heap.size 34 i0 _ 5 72 Tryd.underlying54 hi hz0 hz1 hz2 rfl (by decide) _ _ _ rfl ((hrow.alloc _).alloc _) ⟨wo.heap.size + 1, 0, none⟩ 1 1 [.string b, .int .i64 (k : Int), .slice ta Lt tc, .string g, .int .i64 9] rfl rfl ?hn (by simp [Value.oneCell']) (by unfold maxLen; omega) (by omega) (by simp; omega) ?_))
        case hn => exact five_new' _ (by simp [go_sem]) _ _ _ _ _ _
        intro v' w2 hown' hgrow hne
        have hN' := (balloc (balloc hN _) _).grown hgrow (by simp; omega) (fun j e => (hrow.lt j e).1)
        have k1 : w2.cell? ⟨wo.heap.size, 1, none⟩ = some (.int .i64 (k : Int)) := (World.cell?_of_block (a := ⟨wo.heap.size, 1, none⟩) (hgrow.block wo.heap.size (by simp; omega) (fun e => by have := (hrow.lt _ e.symm).2; omega))).trans (by simp [go_sem])
        clear hgrow hne hrow hN q0 q1 q2 q3
        go_wp2
        go_roundw
        case rel => exact ⟨i + 1, by omega, by go_num, by rw [HOF.out, clC_snoc, HCV.out, List.length_append, HK.out]; exact hown', hN'⟩
        case measure => simp [intOf]; omega
      · have hg : ((k : Int) == 2) = false := by simp only [beq_eq_false_iff_ne, ne_eq]; omega
        rw [if_neg hk] at HOF
        clear hk
        go_wp2_with (first
          | (at_builtin; refine wpList_append_own _ rfl _ _ 54 rfl w1.heap.size 34 i0 _ 5 72 Tryd.underlying54 hi hz0 hz1 hz2 rfl (by decide) _ _ _ rfl ((hrow.alloc _).alloc _) ⟨wo.heap.size + 1, 0, none⟩ 1 1 [.string b, .int .i64 (k : Int), .slice ta Lt tc, .string g, .int .i64 9] rfl rfl ?hn (by simp [Value.oneCell']) (by unfold maxLen; omega) (by omega) (by simp; omega) ?_))
        case hn => exact five_new' _ (by simp [go_sem]) _ _ _ _ _ _
        intro v' w2 hown' hgrow hne
        have hN' := (balloc (balloc hN _) _).grown hgrow (by simp; omega) (fun j e => (hrow.lt j e).1)
        have hXa : ((wo.alloc (.cells #[.string b, .int .i64 (k : Int), .slice ta Lt tc, .string g] 32)).alloc (.cells #[.string b, .int .i64 (k : Int), .slice ta Lt tc, .string g, .int .i64 9] 34)).heap[wo.heap.size]? = some (.cells #[.string b, .int .i64 (k : Int), .slice ta Lt tc, .string g] 32) := (Below.heap_alloc _ _ _ (by simp)).trans (World.alloc_heap_new wo _)
        have hX2 : w2.heap[wo.heap.size]? = some (.cells #[.string b, .int .i64 (k : Int), .slice ta Lt tc, .string g] 32) := (hgrow.block wo.heap.size (by simp; omega) (fun e => by have := (hrow.lt _ e.symm).2; omega)).trans hXa
        have hr2 : w2.ownsRow w1.heap.size 34 5 v' (K + 1) (clC TV (cl ++ [(i, 9)])) := by
          rw [clC_snoc, HCV.out]
          exact hown'
        have hXl : wo.heap.size < w2.heap.size := by
          have := hgrow.size
          simp at this
          omega
        have HXX := Lib.hid hX2
        have HRR := Lib.hid hr2
        clear hXa hX2 hr2 hown' hgrow hne hrow hN q0 q1 q2 q3
        obtain ⟨X, hXe⟩ : ∃ X, X = wo.heap.size := ⟨_, rfl⟩
        rw [← hXe] at HXX hXl ⊢
        clear hXe
        have z1 := cell_of_obj HXX.out (o := 1) rfl
        go_wp2
        go_loopw [1, 4] (fun v d' wr => ∃ d : Nat, 2 ≤ d ∧ d ≤ 4 ∧ d' = .int .i64 d ∧ wr.ownsRow w1.heap.size 34 5 v (K + (d - 1)) (clC TV (if d = 2 then cl ++ [(i, 9)] else if d = 3 then (cl ++ [(i, 9)]) ++ [(i, 2)] else ((cl ++ [(i, 9)]) ++ [(i, 2)]) ++ [(i, 3)])) ∧ wr.heap[X]? = some (.cells #[.string b, .int .i64 (k : Int), .slice ta Lt tc, .string g] 32) ∧ X < wr.heap.size ∧ Below w1.heap.size w1 wr) (fun _ d' _ => 5 - (intOf d').toNat)
        case atStart => exact ⟨2, by omega, by omega, rfl, HRR.out, HXX.out, hXl, hN'⟩
        case round =>
          clear z1
          obtain ⟨d, hd2, hd4, rfl, hr, hX, hXl4, hN4⟩ := hrel
          rcases (by omega : d = 2 ∨ d = 3 ∨ d = 4) with rfl | rfl | rfl
          all_goals simp only [Nat.reduceEqDiff, if_true, if_false, Nat.reduceSub] at hr
          · -- d = 2
            have k0 := cell_of_obj hX (o := 0) rfl
            have k1 := cell_of_obj hX (o := 1) rfl
            have k2 := cell_of_obj hX (o := 2) rfl
            have k3 := cell_of_obj hX (o := 3) rfl
            have hs4 := hN4.size
            have HX4 := Lib.hid hX
            obtain ⟨cq, hcq⟩ : ∃ cq, clC TV (cl ++ [(i, 9)]) = cq := ⟨_, rfl⟩
            have hr4 : wr.ownsRow w1.heap.size 34 5 u1 (K + 1) cq := by rw [← hcq]; exact hr
            have HCQ := Lib.hid hcq
            clear hcq hX hr
            go_wp2_with (first
              | (at_builtin; refine wpList_append_own _ rfl _ _ 54 rfl w1.heap.size 34 i0 _ 5 72 Tryd.underlying54 hi hz0 hz1 hz2 rfl (by decide) _ _ _ rfl (hr4.alloc _) ⟨wr.heap.size, 0, none⟩ 1 1 [.string b, .int .i64 (k : Int), .slice ta Lt tc, .string g, .int .i64 2] rfl rfl ?hn (by simp [Value.oneCell']) (by unfold maxLen; omega) (by omega) (by simp; omega) ?_))
            case hn => exact five_new' _ (by simp [go_sem]) _ _ _ _ _ _
            intro v'' w5 hown5 hgrow5 hne5
            have hN5 := (balloc hN4 _).grown hgrow5 (by simp; omega) (fun j e => (hr4.lt j e).1)
            have hX5 : w5.heap[X]? = some (.cells #[.string b, .int .i64 (k : Int), .slice ta Lt tc, .string g] 32) := (hgrow5.block X (by simp; omega) (row_not hr4 HX4.out (by decide))).trans ((bnew wr _).block X (by omega) |>.trans HX4.out)
            have hr5 : w5.ownsRow w1.heap.size 34 5 v'' (K + 2) (clC TV ((cl ++ [(i, 9)]) ++ [(i, 2)])) := by
              rw [clC_snoc, HCV.out, HCQ.out]
              exact hown5
            have HX5 := Lib.hid hX5
            have HR5 := Lib.hid hr5
            clear hgrow5 hne5 hown5 hr4 hX5 hr5 k0 k1 k2 k3
            go_wp2
            go_roundw
            case rel => exact ⟨3, by omega, by omega, rfl, HR5.out, HX5.out, obj_lt HX5.out, hN5⟩
            case measure => simp [intOf]
          · -- d = 3
            have k0 := cell_of_obj hX (o := 0) rfl
            have k1 := cell_of_obj hX (o := 1) rfl
            have k2 := cell_of_obj hX (o := 2) rfl
            have k3 := cell_of_obj hX (o := 3) rfl
            have hs4 := hN4.size
            have HX4 := Lib.hid hX
            obtain ⟨cq, hcq⟩ : ∃ cq, clC TV ((cl ++ [(i, 9)]) ++ [(i, 2)]) = cq := ⟨_, rfl⟩
            have hr4 : wr.ownsRow w1.heap.size 34 5 u1 (K + 2) cq := by rw [← hcq]; exact hr
            have HCQ := Lib.hid hcq
            clear hcq hX hr
            go_wp2_with (first
              | (at_builtin; refine wpList_append_own _ rfl _ _ 54 rfl w1.heap.size 34 i0 _ 5 72 Tryd.underlying54 hi hz0 hz1 hz2 rfl (by decide) _ _ _ rfl (hr4.alloc _) ⟨wr.heap.size, 0, none⟩ 1 1 [.string b, .int .i64 (k : Int), .slice ta Lt tc, .string g, .int .i64 3] rfl rfl ?hn (by simp [Value.oneCell']) (by unfold maxLen; omega) (by omega) (by simp; omega) ?_))
            case hn => exact five_new' _ (by simp [go_sem]) _ _ _ _ _ _
            intro v'' w5 hown5 hgrow5 hne5
            have hN5 := (balloc hN4 _).grown hgrow5 (by simp; omega) (fun j e => (hr4.lt j e).1)
            have hX5 : w5.heap[X]? = some (.cells #[.string b, .int .i64 (k : Int), .slice ta Lt tc, .string g] 32) := (hgrow5.block X (by simp; omega) (row_not hr4 HX4.out (by decide))).trans ((bnew wr _).block X (by omega) |>.trans HX4.out)
            have hr5 : w5.ownsRow w1.heap.size 34 5 v'' (K + 3) (clC TV (((cl ++ [(i, 9)]) ++ [(i, 2)]) ++ [(i, 3)])) := by
              rw [clC_snoc, HCV.out, HCQ.out]
              exact hown5
            have HX5 := Lib.hid hX5
            have HR5 := Lib.hid hr5
            clear hgrow5 hne5 hown5 hr4 hX5 hr5 k0 k1 k2 k3
            go_wp2
            go_roundw
            case rel => exact ⟨4, by omega, by omega, rfl, HR5.out, HX5.out, obj_lt HX5.out, hN5⟩
            case measure => simp [intOf]
          · have HR6 := Lib.hid hr
            clear hr hX
            go_wp2
            go_roundw
            case rel =>
              refine ⟨i + 1, by omega, by go_num, ?_, hN4⟩
              rw [HOF.out, List.length_append, HK.out]
              have := HR6.out
              rw [List.append_assoc, List.append_assoc] at this
              exact this
            case measure => simp [intOf]; omega
    · obtain rfl : i = 38 := by omega
      have HRW := Lib.hid hrow
      have hBB := bthen hb1 hN
      have hs1 := hb1.size
      clear hrow hN
      go_wp2
      go_ret
      refine ⟨_, TV, rfl, ?_, fun j hj => ?_, hBB⟩
      · exact row_mono HRW.out hs1
      · obtain ⟨_, _, _, _, a, c, h, _⟩ := HT.out.2 j hj
        exact ⟨a, _, c, h⟩
end Go.Proofs.YthkmapflbopdpaaDoor

/- CN24a:
  Names of the clones, and a clone at a place of the list. -/
namespace Go.Proofs.YthkmapflbopdpaaDoor
open Go.RowKit Go.Shelf
set_option linter.unusedVariables false
set_option linter.unusedSimpArgs false

def clName (p : Nat × Nat) : ByteArray := nmB (lnB p.1) p.2
def clFind (s : ByteArray) : Option (Nat × Nat) := (clTo 38).find? fun p => decide (clName p = s)
theorem clAll : ∀ p ∈ clTo 38, p.1 < 38 ∧ (p.2 = 2 ∨ p.2 = 3 ∨ p.2 = 9) := by decide
def gp (l : List (Nat × Nat)) (i : Nat) : Nat × Nat := l[i]?.getD (0, 0)
theorem gp_mem {l : List (Nat × Nat)} {i : Nat} (hi : i < l.length) : gp l i ∈ l := by
  unfold gp
  rw [List.getElem?_eq_getElem hi]
  exact List.getElem_mem hi
theorem gp_eq {l : List (Nat × Nat)} {i : Nat} (hi : i < l.length) : gp l i = l[i] := by
  unfold gp
  rw [List.getElem?_eq_getElem hi]
  rfl
theorem clC_get (TV : Nat → Value) : ∀ (l : List (Nat × Nat)) (i k : Nat) (hi : i < l.length), k < 5 → (clC TV l)[i * 5 + k]? = (clV TV (gp l i))[k]?
  | [], i, k, hi, hk => absurd hi (Nat.not_lt_zero _)
  | p :: l, 0, k, hi, hk => by
    unfold clC
    rw [List.flatMap_cons, List.getElem?_append_left (by show 0 * 5 + k < 5; omega)]
    rw [show 0 * 5 + k = k by omega]
    rfl
  | p :: l, i + 1, k, hi, hk => by
    have ih := clC_get TV l i k (by simpa using hi) hk
    unfold clC at ih ⊢
    rw [List.flatMap_cons, List.getElem?_append_right (by show 5 ≤ (i + 1) * 5 + k; omega)]
    rw [show (i + 1) * 5 + k - (clV TV p).length = i * 5 + k by show (i + 1) * 5 + k - 5 = _; omega]
    rw [ih]
    rfl
theorem add_at (g n : Nat) : (⟨g, 0, none⟩ : Addr).add n = ⟨g, n, none⟩ := by
  unfold Addr.add
  split <;> simp_all
theorem str_eq (a b : ByteArray) : (a.toList == b.toList) = decide (a = b) := by
  rw [Bool.eq_iff_iff, beq_iff_eq, decide_eq_true_eq]
  constructor
  · intro e
    apply ByteArray.ext
    apply Array.toList_inj.1
    rw [← Lib.toList_data, ← Lib.toList_data]
    exact e
  · intro e; rw [e]

end Go.Proofs.YthkmapflbopdpaaDoor

/- CN24:
  cloneWithName of the program: a name is found, or the door is opened. -/
namespace Go.Proofs.YthkmapflbopdpaaDoor
open Go.RowKit Go.Shelf
set_option linter.unusedVariables false
set_option linter.unusedSimpArgs false

set_option maxRecDepth 100000 in
set_option maxHeartbeats 8000000 in
theorem cloneWith_any (a : Addr) (s : ByteArray) (w : World) (hE : ErrN w a) :
    Calls Tryd.prog 17 #[.string s] w fun e w' => Below w.heap.size w w' ∧ ((∃ p ta n tc, clFind s = some p ∧ e = .returned (.agg #[.string (lnB p.1), .int .i64 (lnK p.1 : Int), .slice ta n tc, .string (lnG p.1), .int .i64 (p.2 : Int)])) ∨ (clFind s = none ∧ e = .panicked (chainOf a))) := by
  have NC := Lib.hid (fun W => namedClones_any W)
  have HFY : Hid (∀ i, i < (clTo 38).length → (∀ j, j < i → decide (clName (gp (clTo 38) j) = s) = false) → decide (clName (gp (clTo 38) i) = s) = true → clFind s = some (gp (clTo 38) i)) := Lib.hid fun i hi hb h => by
    unfold clFind
    rw [gp_eq hi] at h ⊢
    rw [List.find?_eq_some_iff_getElem]
    exact ⟨h, i, hi, rfl, fun j hj => by have := hb j hj; rw [gp_eq (by omega)] at this; rw [this]; rfl⟩
  have HFN : Hid ((∀ j, j < (clTo 38).length → decide (clName (gp (clTo 38) j) = s) = false) → clFind s = none) := Lib.hid fun hb => by
    unfold clFind
    rw [List.find?_eq_none]
    intro p hp
    obtain ⟨j, hj, rfl⟩ := List.mem_iff_getElem.1 hp
    have := hb j hj
    rw [gp_eq hj] at this
    rw [this]
    decide
  have HCA := Lib.hid clAll
  have hlen := clTo_all
  generalize clFind s = fs at HFY HFN ⊢
  have HCG : Hid (∀ TV (i k : Nat) (hi : i < (clTo 38).length), k < 5 → (clC TV (clTo 38))[i * 5 + k]? = (clV TV (gp (clTo 38) i))[k]?) := Lib.hid fun TV i k hi hk => clC_get TV _ i k hi hk
  generalize clTo 38 = cl at NC HFY HFN HCA HCG hlen
  have HLEN := Lib.hid hlen
  obtain ⟨W0, hW0⟩ : ∃ W0, w.alloc (.cells #[.string ⟨#[]⟩, .int .i64 0, .slice none 0 0, .string ⟨#[]⟩, .int .i64 0] 34) = W0 := ⟨_, rfl⟩
  have r0 : W0.cell? ⟨w.heap.size, 0, none⟩ = some (.string ⟨#[]⟩) := by rw [← hW0]; simp [go_sem]
  have r1 : W0.cell? ⟨w.heap.size, 1, none⟩ = some (.int .i64 0) := by rw [← hW0]; simp [go_sem]
  have r2 : W0.cell? ⟨w.heap.size, 2, none⟩ = some (.slice none 0 0) := by rw [← hW0]; simp [go_sem]
  have r3 : W0.cell? ⟨w.heap.size, 3, none⟩ = some (.string ⟨#[]⟩) := by rw [← hW0]; simp [go_sem]
  have r4 : W0.cell? ⟨w.heap.size, 4, none⟩ = some (.int .i64 0) := by rw [← hW0]; simp [go_sem]
  have f0 : W0.frozen? ⟨w.heap.size, 0, none⟩ = false := by rw [← hW0]; simp [go_sem]
  have f1 : W0.frozen? ⟨w.heap.size, 1, none⟩ = false := by rw [← hW0]; simp [go_sem]
  have f2 : W0.frozen? ⟨w.heap.size, 2, none⟩ = false := by rw [← hW0]; simp [go_sem]
  have f3 : W0.frozen? ⟨w.heap.size, 3, none⟩ = false := by rw [← hW0]; simp [go_sem]
  have f4 : W0.frozen? ⟨w.heap.size, 4, none⟩ = false := by rw [← hW0]; simp [go_sem]
  have hB0 : Below w.heap.size w W0 := by rw [← hW0]; exact bnew _ _
  have HE := Lib.hid hE
  clear hE hlen
  go_enter Tryd.func17, Tryd.ntmps17
  go_wp2_with (go_at_call 23; refine (NC.out _).mono ?_; rintro e w1 ⟨v, TV, rfl, hrow, hTV, hb1⟩; obtain ⟨g, cap, rfl⟩ := ownsRow_succ hrow)
  clear hW0
  have HROW := Lib.hid hrow
  have HTV := Lib.hid hTV
  have hB1 := bthen hB0 hb1
  clear hrow hTV
  go_loopw [7] (fun i' wr => ∃ i : Nat, i ≤ 54 ∧ i' = .int .i64 i ∧ Hid (∀ j, j < cl.length → j < i → decide (clName (gp cl j) = s) = false) ∧ Below w1.heap.size w1 wr) (fun i' _ => 54 - (intOf i').toNat)
  case atStart => exact ⟨0, Nat.zero_le _, rfl, Lib.hid (fun j _ hj => absurd hj (Nat.not_lt_zero _)), Below.refl _ _⟩
  case round =>
    obtain ⟨i, hi54, rfl, HI, hN⟩ := hrel
    have hBN := bthen hB1 hN
    by_cases hlt : i < 54
    · have hil : i < cl.length := by rw [HLEN.out]; exact hlt
      obtain ⟨hp38, hpd⟩ := HCA.out _ (gp_mem hil)
      obtain ⟨ta, tn, tc, htv⟩ := HTV.out _ hp38
      have HG : Hid (∀ k u, k < 5 → (clV TV (gp cl i))[k]? = some u → wr.cell? ⟨g, i * 5 + k, none⟩ = some u) := Lib.hid fun k u hk hu => kc hN (by have h := HROW.out.cells rfl (i * 5 + k) u (by rw [HCG.out TV i k hil hk]; exact hu); rw [show ({ block := (⟨g, 0, none⟩ : Addr).block, off := 0 } : Addr) = ⟨g, 0, none⟩ from rfl, add_at] at h; exact h)
      have HY := Lib.hid (HFY.out i hil (fun j hj => HI.out j (by rw [HLEN.out]; omega) hj))
      have HNX : Hid (decide (clName (gp cl i) = s) = false → ∀ j, j < cl.length → j < i + 1 → decide (clName (gp cl j) = s) = false) := Lib.hid fun h j hj hj2 => by
        by_cases e : j = i
        · subst e; exact h
        · exact HI.out j hj (by omega)
      have hnm : clName (gp cl i) = nmB (lnB (gp cl i).1) (gp cl i).2 := rfl
      have hbs := lnB_size _ hp38
      have NM := Lib.hid (fun W => cloneName_any (lnB (gp cl i).1) (lnG (gp cl i).1) hbs (lnK (gp cl i).1 : Int) (.slice ta tn tc) rfl (gp cl i).2 hpd W)
      rw [← hnm] at NM
      have q0 := HG.out 0 (.string (lnB (gp cl i).1)) (by decide) rfl
      have q1 := HG.out 1 (.int .i64 (lnK (gp cl i).1 : Int)) (by decide) rfl
      have q2 := HG.out 2 (.slice ta tn tc) (by decide) (by rw [← htv]; rfl)
      have q3 := HG.out 3 (.string (lnG (gp cl i).1)) (by decide) rfl
      have q4 := HG.out 4 (.int .i64 ((gp cl i).2 : Int)) (by decide) rfl
      rw [Nat.add_zero] at q0
      clear hnm hbs htv hp38 hpd HG
      have hq := str_eq (clName (gp cl i)) s
      have HPV : Hid (∃ p, p = (gp cl i)) := Lib.hid ⟨_, rfl⟩
      generalize (gp cl i) = p at q0 q1 q2 q3 q4 NM HY HNX hq
      generalize clName p = nm at NM HY HNX hq
      generalize hb : lnB p.1 = b at q0 NM
      generalize hg : lnG p.1 = gg at q3 NM
      generalize hk : lnK p.1 = k at q1 NM
      generalize hd : p.2 = d at q4 NM
      have HPB := Lib.hid hb
      have HPG := Lib.hid hg
      have HPK := Lib.hid hk
      have HPD := Lib.hid hd
      clear hb hg hk hd
      have hrr := bthen hb1 hN
      cases hc : decide (nm = s)
      · rw [hc] at hq
        have HN2 := Lib.hid (HNX.out hc)
        clear hc HY HNX r0 r1 r2 r3 r4 f0 f1 f2 f3 f4
        go_wp2_with (go_at_call 24; refine (NM.out _).mono ?_; rintro e w5 ⟨rfl, hb5⟩)
        go_roundw
        case rel => exact ⟨i + 1, by omega, by go_num, HN2, bthen (balloc hN _) hb5⟩
        case measure => simp [intOf]; omega
      · rw [hc] at hq
        have HY2 := Lib.hid (HY.out hc)
        clear hc HY HNX
        go_wp2_with (go_at_call 24; refine (NM.out _).mono ?_; rintro e w5 ⟨rfl, hb5⟩; have hW5 := bthen (bthen (bthen hb1 hN) (bnew wr _)) hb5; have s0 := kc hW5 r0; have s1 := kc hW5 r1; have s2 := kc hW5 r2; have s3 := kc hW5 r3; have s4 := kc hW5 r4; have g0 := kf hW5 r0 f0; have g1 := kf hW5 r1 f1; have g2 := kf hW5 r2 f2; have g3 := kf hW5 r3 f3; have g4 := kf hW5 r4 f4; have b0 : w5.cell? ⟨wr.heap.size, 0, none⟩ = some (.string b) := kc hb5 (by simp [go_sem]); have b1 : w5.cell? ⟨wr.heap.size, 1, none⟩ = some (.int .i64 (k : Int)) := kc hb5 (by simp [go_sem]); have b2 : w5.cell? ⟨wr.heap.size, 2, none⟩ = some (.slice ta tn tc) := kc hb5 (by simp [go_sem]); have b3 : w5.cell? ⟨wr.heap.size, 3, none⟩ = some (.string gg) := kc hb5 (by simp [go_sem]); have b4 : w5.cell? ⟨wr.heap.size, 4, none⟩ = some (.int .i64 (d : Int)) := kc hb5 (by simp [go_sem]))
        have hB5 := bthen hB0 hW5
        refine bodyPost_ret (v := .agg #[.string b, .int .i64 (k : Int), .slice ta tn tc, .string gg, .int .i64 (d : Int)]) (by simp [results, Tryd.results17, go_sem, s0, s1, s2, s3, s4, g0, g1, g2, g3, g4]) rfl ?_
        refine ⟨((((hB5.setCell (p := ⟨w.heap.size, 0, none⟩) (by simp) _).setCell (p := ⟨w.heap.size, 1, none⟩) (by simp) _).setCell (p := ⟨w.heap.size, 2, none⟩) (by simp) _).setCell (p := ⟨w.heap.size, 3, none⟩) (by simp) _).setCell (p := ⟨w.heap.size, 4, none⟩) (by simp) _, .inl ⟨p, ta, tn, tc, HY2.out, ?_⟩⟩
        rw [HPB.out, HPG.out, HPK.out, HPD.out]
    · obtain rfl : i = 54 := by omega
      have HNONE := Lib.hid (HFN.out (fun j hj => HI.out j hj (by rw [← HLEN.out]; exact hj)))
      have hE9 := HE.out.below hBN
      unfold ErrN errV at hE9
      clear r0 r1 r2 r3 r4 f0 f1 f2 f3 f4
      go_wp2
      exact ⟨rfl, hBN, .inr ⟨HNONE.out, rfl⟩⟩
end Go.Proofs.YthkmapflbopdpaaDoor

/- CN25:
  readCloneName of the program. -/
namespace Go.Proofs.YthkmapflbopdpaaDoor
open Go.RowKit Go.Shelf
set_option linter.unusedVariables false
set_option linter.unusedSimpArgs false

theorem gOfB {W W' : World} (hb : Below W.heap.size W W') (b : Nat) : W.grownBy W' (some b) := ⟨hb.os, hb.tape, hb.output, hb.size, fun k hk _ => hb.block k hk⟩
theorem gsetB {w w' : World} {b : Nat} (h : w.grownBy w' (some b)) (i : Nat) (v : Value) : w.grownBy (w'.setCell ⟨b, i, none⟩ v) (some b) :=
  ⟨h.os, h.tape, h.output, by simpa using h.size, fun k hk hr => (Below.heap_setCell _ _ _ k (by intro e; exact hr (by rw [e]))).trans (h.block k hk hr)⟩
theorem bGrownR {w W W' : World} {R : Nat} (h : Below w.heap.size w W) (hR : w.heap.size ≤ R) (g : W.grownBy W' (some R)) : Below w.heap.size w W' :=
  ⟨g.os.trans h.os, g.tape.trans h.tape, g.output.trans h.output, Nat.le_trans h.size g.size, fun k hk => (g.block k (Nat.lt_of_lt_of_le hk h.size) (by intro e; cases e; omega)).trans (h.block k hk)⟩
/-- A box of five cells. -/
structure Box5 (R : Nat) (a b c d e : Value) (W : World) : Prop where
  c0 : W.cell? ⟨R, 0, none⟩ = some a
  c1 : W.cell? ⟨R, 1, none⟩ = some b
  c2 : W.cell? ⟨R, 2, none⟩ = some c
  c3 : W.cell? ⟨R, 3, none⟩ = some d
  c4 : W.cell? ⟨R, 4, none⟩ = some e
  f0 : W.frozen? ⟨R, 0, none⟩ = false
  f1 : W.frozen? ⟨R, 1, none⟩ = false
  f2 : W.frozen? ⟨R, 2, none⟩ = false
  f3 : W.frozen? ⟨R, 3, none⟩ = false
  f4 : W.frozen? ⟨R, 4, none⟩ = false
theorem Box5.below {R : Nat} {a b c d e : Value} {W W' : World} (h : Box5 R a b c d e W) (hb : Below W.heap.size W W') : Box5 R a b c d e W' :=
  ⟨kc hb h.c0, kc hb h.c1, kc hb h.c2, kc hb h.c3, kc hb h.c4, kf hb h.c0 h.f0, kf hb h.c1 h.f1, kf hb h.c2 h.f2, kf hb h.c3 h.f3, kf hb h.c4 h.f4⟩
theorem Box5.set {R : Nat} {a b c d e : Value} {W : World} (h : Box5 R a b c d e W) (a' b' c' d' e' : Value) :
    Box5 R a' b' c' d' e' (((((W.setCell ⟨R, 0, none⟩ a').setCell ⟨R, 1, none⟩ b').setCell ⟨R, 2, none⟩ c').setCell ⟨R, 3, none⟩ d').setCell ⟨R, 4, none⟩ e') := by
  obtain ⟨h0, h1, h2, h3, h4, g0, g1, g2, g3, g4⟩ := h
  constructor <;> simp [go_sem, h0, h1, h2, h3, h4, g0, g1, g2, g3, g4]
theorem Box5.other {R : Nat} {a b c d e : Value} {W : World} (h : Box5 R a b c d e W) {X : Nat} (hX : ¬ X = R) (v : Value) : Box5 R a b c d e (W.setCell ⟨X, 0, none⟩ v) := by
  obtain ⟨h0, h1, h2, h3, h4, g0, g1, g2, g3, g4⟩ := h
  have hX' : ¬ R = X := fun e => hX e.symm
  constructor <;> simp [go_sem, h0, h1, h2, h3, h4, g0, g1, g2, g3, g4, hX, hX']
theorem Box5.new (W : World) (a b c d e : Value) (t : TypeId) : Box5 W.heap.size a b c d e (W.alloc (.cells #[a, b, c, d, e] t)) := by
  constructor <;> simp [go_sem]
theorem set5_below {B : Nat} {a W : World} {R : Nat} (h : Below B a W) (hR : B ≤ R) (a' b' c' d' e' : Value) : Below B a (((((W.setCell ⟨R, 0, none⟩ a').setCell ⟨R, 1, none⟩ b').setCell ⟨R, 2, none⟩ c').setCell ⟨R, 3, none⟩ d').setCell ⟨R, 4, none⟩ e') :=
  ((((h.setCell (p := ⟨R, 0, none⟩) hR _).setCell (p := ⟨R, 1, none⟩) hR _).setCell (p := ⟨R, 2, none⟩) hR _).setCell (p := ⟨R, 3, none⟩) hR _).setCell (p := ⟨R, 4, none⟩) hR _

set_option maxRecDepth 100000 in
set_option maxHeartbeats 4000000 in
theorem readC1_ok {s : ByteArray} {p : Nat × Nat} (hf : clFind s = some p) {a : Addr} {T R : Nat} {v0 v1 v2 v3 v4 : Value} (w : World) (hE : ErrN w a) (cT : w.cell? ⟨T, 0, none⟩ = some (.string s)) (hR : Box5 R v0 v1 v2 v3 v4 w) :
    Calls Tryd.prog 16 #[.pointer (some ⟨T, 0, none⟩), .pointer (some ⟨R, 0, none⟩)] w fun e w2 => e = .returned (.tuple #[]) ∧ w.grownBy w2 (some R) ∧ ∃ ta n tc, Box5 R (.string (lnB p.1)) (.int .i64 (lnK p.1 : Int)) (.slice ta n tc) (.string (lnG p.1)) (.int .i64 (p.2 : Int)) w2 := by
  have CW := Lib.hid (cloneWith_any a s w hE)
  have HR := Lib.hid hR
  have HF := Lib.hid hf
  clear hR hf hE
  go_enter Tryd.func16, Tryd.ntmps16
  go_wp2_with (go_at_call 17; refine (CW.out).mono ?_; rintro e w3 ⟨hb3, ⟨p', ta, n, tc, hf', rfl⟩ | ⟨hf', _⟩⟩; rotate_left 1; (exact absurd (HF.out.symm.trans hf') (by intro h; cases h)); obtain rfl : p = p' := Option.some.inj (HF.out.symm.trans hf'); have HB3 := Lib.hid (HR.out.below hb3); have c0 := HB3.out.c0; have c1 := HB3.out.c1; have c2 := HB3.out.c2; have c3 := HB3.out.c3; have c4 := HB3.out.c4; have f0 := HB3.out.f0; have f1 := HB3.out.f1; have f2 := HB3.out.f2; have f3 := HB3.out.f3; have f4 := HB3.out.f4)
  go_end0
  exact ⟨rfl, gsetB (gsetB (gsetB (gsetB (gsetB (gOfB hb3 R) 0 _) 1 _) 2 _) 3 _) 4 _, ta, n, tc, HB3.out.set _ _ _ _ _⟩
set_option maxRecDepth 100000 in
set_option maxHeartbeats 4000000 in
theorem readC1_no {s : ByteArray} (hf : clFind s = none) {a : Addr} {T R : Nat} {v0 v1 v2 v3 v4 : Value} (w : World) (hE : ErrN w a) (cT : w.cell? ⟨T, 0, none⟩ = some (.string s)) (hR : Box5 R v0 v1 v2 v3 v4 w) :
    Calls Tryd.prog 16 #[.pointer (some ⟨T, 0, none⟩), .pointer (some ⟨R, 0, none⟩)] w fun e w2 => e = .panicked (chainOf a) ∧ w.grownBy w2 (some R) ∧ Box5 R v0 v1 v2 v3 v4 w2 := by
  have CW := Lib.hid (cloneWith_any a s w hE)
  have HR := Lib.hid hR
  have HF := Lib.hid hf
  clear hR hf hE
  go_enter Tryd.func16, Tryd.ntmps16
  go_wp2_with (go_at_call 17; refine (CW.out).mono ?_; rintro e w3 ⟨hb3, ⟨p', ta, n, tc, hf', _⟩ | ⟨_, rfl⟩⟩; (exact absurd (HF.out.symm.trans hf') (by intro h; cases h)))
  exact ⟨rfl, rfl, gOfB hb3 R, HR.out.below hb3⟩
theorem callC1 : ∀ args w, (callFunc 16 args).run Tryd.prog w = .ok (.enter 16 args) w := fun args w => by kernel_rfl

set_option maxRecDepth 100000 in
set_option maxHeartbeats 4000000 in
theorem readCloneName_yes {s : ByteArray} {p : Nat × Nat} (hf : clFind s = some p) {a : Addr} (w : World) (hE : ErrN w a) :
    Calls Tryd.prog 10 #[.string s] w fun e w' => Below w.heap.size w w' ∧ ∃ ta n tc, e = .returned (.tuple #[.agg #[.string (lnB p.1), .int .i64 (lnK p.1 : Int), .slice ta n tc, .string (lnG p.1), .int .i64 (p.2 : Int)], .int .i64 0]) := by
  have hmf : ∀ (fn : Fn) (first cap : Array Value) (w : World), (Instr.makeFunc fn first cap).run Tryd.prog w = .ok (.func fn first cap) w := fun _ _ _ _ => rfl
  obtain ⟨W2, hW2⟩ : ∃ W2, (w.alloc (.cells #[.string s] 9)).alloc (.cells #[.string ⟨#[]⟩, .int .i64 0, .slice none 0 0, .string ⟨#[]⟩, .int .i64 0] 34) = W2 := ⟨_, rfl⟩
  have hs2 : W2.heap.size = w.heap.size + 2 := by rw [← hW2]; simp
  have hb2 : Below w.heap.size w W2 := by rw [← hW2]; exact balloc (bnew _ _) _
  have c0 : W2.cell? ⟨w.heap.size, 0, none⟩ = some (.string s) := by rw [← hW2]; simp [go_sem]
  have hR2 : Box5 (w.heap.size + 1) (.string ⟨#[]⟩) (.int .i64 0) (.slice none 0 0) (.string ⟨#[]⟩) (.int .i64 0) W2 := by
    have := Box5.new (w.alloc (.cells #[.string s] 9)) (.string ⟨#[]⟩) (.int .i64 0) (.slice none 0 0) (.string ⟨#[]⟩) (.int .i64 0) 34
    rw [hW2] at this
    simpa using this
  have hb3 := bnew W2 (.cells #[.int .i64 0] 2)
  have R := readC1_ok hf (W2.alloc (.cells #[.int .i64 0] 2)) (hE.below (bthen hb2 hb3)) (kc hb3 c0) (hR2.below hb3)
  have SC := Lib.hid (syntaxCode_ok callC1 W2 (by omega) R)
  have HS2 := Lib.hid hs2
  clear R hb3 hs2 hR2
  go_enter Tryd.func10, Tryd.ntmps10
  go_wp2_with (go_at_call 15; refine (SC.out).mono ?_; rintro e w4 ⟨rfl, w3, hg3, ⟨ta, n, tc, hbox⟩, rfl⟩; have HG := Lib.hid hg3; have hne : ¬ W2.heap.size = w.heap.size + 1 := (by have := HS2.out; omega); have HBX := Lib.hid (hbox.other hne (.int .i64 0)); have q0 := HBX.out.c0; have q1 := HBX.out.c1; have q2 := HBX.out.c2; have q3 := HBX.out.c3; have q4 := HBX.out.c4; have g0 := HBX.out.f0; have g1 := HBX.out.f1; have g2 := HBX.out.f2; have g3 := HBX.out.f3; have g4 := HBX.out.f4; clear hg3 hbox)
  refine bodyPost_ret (v := .tuple #[.agg #[.string (lnB p.1), .int .i64 (lnK p.1 : Int), .slice ta n tc, .string (lnG p.1), .int .i64 (p.2 : Int)], .int .i64 0]) (by simp [results, Tryd.results10, go_sem, q0, q1, q2, q3, q4, g0, g1, g2, g3, g4]) rfl ?_
  have hs := HS2.out
  have B1 : Below w.heap.size w w3 := bGrownR (balloc hb2 _) (by omega) HG.out
  exact ⟨set5_below (B1.setCell (p := ⟨W2.heap.size, 0, none⟩) (by show w.heap.size ≤ W2.heap.size; omega) _) (by omega) _ _ _ _ _, ta, n, tc, rfl⟩
set_option maxRecDepth 100000 in
set_option maxHeartbeats 4000000 in
theorem readCloneName_no {s : ByteArray} (hf : clFind s = none) {a : Addr} (w : World) (hE : ErrN w a) :
    Calls Tryd.prog 10 #[.string s] w fun e w' => Below w.heap.size w w' ∧ e = .returned (.tuple #[.agg #[.string ⟨#[]⟩, .int .i64 0, .slice none 0 0, .string ⟨#[]⟩, .int .i64 0], .int .i64 6]) := by
  have hmf : ∀ (fn : Fn) (first cap : Array Value) (w : World), (Instr.makeFunc fn first cap).run Tryd.prog w = .ok (.func fn first cap) w := fun _ _ _ _ => rfl
  obtain ⟨W2, hW2⟩ : ∃ W2, (w.alloc (.cells #[.string s] 9)).alloc (.cells #[.string ⟨#[]⟩, .int .i64 0, .slice none 0 0, .string ⟨#[]⟩, .int .i64 0] 34) = W2 := ⟨_, rfl⟩
  have hs2 : W2.heap.size = w.heap.size + 2 := by rw [← hW2]; simp
  have hb2 : Below w.heap.size w W2 := by rw [← hW2]; exact balloc (bnew _ _) _
  have c0 : W2.cell? ⟨w.heap.size, 0, none⟩ = some (.string s) := by rw [← hW2]; simp [go_sem]
  have hR2 : Box5 (w.heap.size + 1) (.string ⟨#[]⟩) (.int .i64 0) (.slice none 0 0) (.string ⟨#[]⟩) (.int .i64 0) W2 := by
    have := Box5.new (w.alloc (.cells #[.string s] 9)) (.string ⟨#[]⟩) (.int .i64 0) (.slice none 0 0) (.string ⟨#[]⟩) (.int .i64 0) 34
    rw [hW2] at this
    simpa using this
  have hb3 := bnew W2 (.cells #[.int .i64 0] 2)
  have R := readC1_no hf (W2.alloc (.cells #[.int .i64 0] 2)) (hE.below (bthen hb2 hb3)) (kc hb3 c0) (hR2.below hb3)
  have SC := Lib.hid (syntaxCode_no callC1 a W2 (by omega) R)
  have HS2 := Lib.hid hs2
  clear R hb3 hs2 hR2
  go_enter Tryd.func10, Tryd.ntmps10
  go_wp2_with (go_at_call 15; refine (SC.out).mono ?_; rintro e w4 ⟨rfl, w3, hg3, hbox, rfl⟩; have HG := Lib.hid hg3; have hne : ¬ W2.heap.size = w.heap.size + 1 := (by have := HS2.out; omega); have HBX := Lib.hid (hbox.other hne (.int .i64 6)); have q0 := HBX.out.c0; have q1 := HBX.out.c1; have q2 := HBX.out.c2; have q3 := HBX.out.c3; have q4 := HBX.out.c4; have g0 := HBX.out.f0; have g1 := HBX.out.f1; have g2 := HBX.out.f2; have g3 := HBX.out.f3; have g4 := HBX.out.f4; clear hg3 hbox)
  refine bodyPost_ret (v := .tuple #[.agg #[.string ⟨#[]⟩, .int .i64 0, .slice none 0 0, .string ⟨#[]⟩, .int .i64 0], .int .i64 6]) (by simp [results, Tryd.results10, go_sem, q0, q1, q2, q3, q4, g0, g1, g2, g3, g4]) rfl ?_
  have hs := HS2.out
  have B1 : Below w.heap.size w w3 := bGrownR (balloc hb2 _) (by omega) HG.out
  exact ⟨set5_below (B1.setCell (p := ⟨W2.heap.size, 0, none⟩) (by show w.heap.size ≤ W2.heap.size; omega) _) (by omega) _ _ _ _ _, rfl⟩
end Go.Proofs.YthkmapflbopdpaaDoor

/- SHF:
  Contracts of library functions at this program, cut out of what the guide's command lays. -/
namespace Go.Proofs
open Go.Shelf
def Tryd.lays157_ren : Go.Shelf.Ren := ⟨fun | 157 => 18 | 229 => 25 | 199 => 26 | 261 => 38 | 311 => 55 | 312 => 56 | n => n, fun | 9 => 9 | 31 => 45 | 3 => 3 | 5 => 5 | 4 => 4 | 119 => 57 | 0 => 0 | 40 => 59 | 152 => 72 | 21 => 21 | 154 => 74 | 51 => 75 | 141 => 77 | 196 => 95 | 193 => 92 | 198 => 98 | 49 => 96 | 194 => 93 | 201 => 101 | 226 => 105 | 46 => 104 | 227 => 106 | n => n, fun | 0 => 1 | 6 => 2 | n => n⟩
theorem Tryd.lays157 : Go.Proofs.Lays.n157 Tryd.prog Tryd.lays157_ren := {
  mixed := by kernel_rfl
  f157 := Tryd.func18.trans (congrArg some (by kernel_rfl))
  f199 := Tryd.func26.trans (congrArg some (by kernel_rfl))
  f229 := Tryd.func25.trans (congrArg some (by kernel_rfl))
  f261 := Tryd.func38.trans (congrArg some (by kernel_rfl))
  f311 := Tryd.func55.trans (congrArg some (by kernel_rfl))
  f312 := Tryd.func56.trans (congrArg some (by kernel_rfl))
  t0 := Tryd.underlying0
  a0 := Tryd.isAgg0
  z0 := Tryd.sizeOf0
  v0 := Tryd.zeroValue0
  t3 := Tryd.underlying3
  a3 := Tryd.isAgg3
  z3 := Tryd.sizeOf3
  v3 := Tryd.zeroValue3
  t4 := Tryd.underlying4
  a4 := Tryd.isAgg4
  z4 := Tryd.sizeOf4
  v4 := Tryd.zeroValue4
  t5 := Tryd.underlying5
  a5 := Tryd.isAgg5
  z5 := Tryd.sizeOf5
  v5 := Tryd.zeroValue5
  t9 := Tryd.underlying9
  a9 := Tryd.isAgg9
  z9 := Tryd.sizeOf9
  v9 := Tryd.zeroValue9
  t21 := Tryd.underlying21
  a21 := Tryd.isAgg21
  z21 := Tryd.sizeOf21
  v21 := Tryd.zeroValue21
  t31 := Tryd.underlying45
  a31 := Tryd.isAgg45
  z31 := Tryd.sizeOf45
  v31 := Tryd.zeroValue45
  t40 := Tryd.underlying59
  a40 := Tryd.isAgg59
  z40 := Tryd.sizeOf59
  v40 := Tryd.zeroValue59
  t46 := Tryd.underlying104
  a46 := Tryd.isAgg104
  z46 := Tryd.sizeOf104
  v46 := Tryd.zeroValue104
  t49 := Tryd.underlying96
  a49 := Tryd.isAgg96
  z49 := Tryd.sizeOf96
  v49 := Tryd.zeroValue96
  t51 := Tryd.underlying75
  a51 := Tryd.isAgg75
  z51 := Tryd.sizeOf75
  v51 := Tryd.zeroValue75
  t119 := Tryd.underlying57
  a119 := Tryd.isAgg57
  z119 := Tryd.sizeOf57
  t141 := Tryd.underlying77
  a141 := Tryd.isAgg77
  z141 := Tryd.sizeOf77
  v141 := Tryd.zeroValue77
  t152 := Tryd.underlying72
  a152 := Tryd.isAgg72
  z152 := Tryd.sizeOf72
  v152 := Tryd.zeroValue72
  t154 := Tryd.underlying74
  a154 := Tryd.isAgg74
  z154 := Tryd.sizeOf74
  v154 := Tryd.zeroValue74
  t193 := Tryd.underlying92
  a193 := Tryd.isAgg92
  z193 := Tryd.sizeOf92
  v193 := Tryd.zeroValue92
  t194 := Tryd.underlying93
  a194 := Tryd.isAgg93
  z194 := Tryd.sizeOf93
  v194 := Tryd.zeroValue93
  t196 := Tryd.underlying95
  a196 := Tryd.isAgg95
  z196 := Tryd.sizeOf95
  v196 := Tryd.zeroValue95
  t198 := Tryd.underlying98
  a198 := Tryd.isAgg98
  z198 := Tryd.sizeOf98
  v198 := Tryd.zeroValue98
  t201 := Tryd.underlying101
  a201 := Tryd.isAgg101
  z201 := Tryd.sizeOf101
  v201 := Tryd.zeroValue101
  t226 := Tryd.underlying105
  a226 := Tryd.isAgg105
  z226 := Tryd.sizeOf105
  v226 := Tryd.zeroValue105
  t227 := Tryd.underlying106
  a227 := Tryd.isAgg106
  z227 := Tryd.sizeOf106
  v227 := Tryd.zeroValue106
  g0 := by kernel_rfl
  g6 := by kernel_rfl }
open Go.RowKit Go.Lib in
theorem Tryd.strings_Fields (s : ByteArray) (w : World) (hs : s.size < 4294967281) (hascii : ∀ (j : Nat) b, s.data.toList[j]? = some b → b.toNat < 128) (htab : Lib.TabIs Tryd.prog w "strings.asciiSpace" .u8 Lib.asciiSpaceTab) :
    Calls Tryd.prog 18 #[.string s] w fun e w' =>
      e = .returned (.slice (some ⟨w.heap.size, 0, none⟩) (Lib.fields s.data.toList).length (Lib.fields s.data.toList).length) ∧ w' = w.alloc (.cells ((Lib.fields s.data.toList).map fun l => Value.string ⟨l.toArray⟩).toArray 9) := Any.strings_Fields Tryd.lays157 (by kernel_rfl) (by kernel_rfl) s w hs hascii htab
end Go.Proofs

/- T1:
  Texts of functions, read by the model: l01Read. -/
namespace Go.Proofs.YthkmapflbopdpaaDoor
open Go.RowKit
set_option linter.unusedVariables false

/-- The byte at a place. -/
def bt (s : ByteArray) (k : Nat) : Nat := if h : k < s.size then s[k].toNat else 0
theorem bt_eq {s : ByteArray} {k : Nat} (h : k < s.size) : (s[k].toNat : Int) = (bt s k : Int) := by simp [bt, h]
theorem bt_lt (s : ByteArray) (k : Nat) : bt s k < 256 := by
  unfold bt
  split
  · exact UInt8.toNat_lt _
  · decide

/-- The values that a text tells, the first j of them. -/
def xsTo (s : ByteArray) (j : Nat) : List Int := (List.range j).map fun r => (bt s (r + 2) : Int) - 48
theorem xsTo_succ (s : ByteArray) (j : Nat) : xsTo s (j + 1) = xsTo s j ++ [(bt s (j + 2) : Int) - 48] := by simp [xsTo, List.range_succ]
theorem xsTo_len (s : ByteArray) (j : Nat) : (xsTo s j).length = j := by simp [xsTo]
/-- The arity that a text tells. -/
def txN (s : ByteArray) : Int := (bt s 0 : Int) - 48

/-- What l01Read answers at a text of the right length. -/
def ReadPost (ok : Bool) (n b : Int) (w : World) (e : Ending) (w' : World) : Prop := e = .returned (.tuple #[.agg #[.int .i64 (if ok then n else 0), .int .i64 (if ok then b else 0)], .bool ok]) ∧ Below w.heap.size w w'

/-- The rows that a text tells. -/
def txR (s : ByteArray) : Nat := 2 ^ (txN s).toNat
/-- Whether a text is one of a function. -/
def rdOk (s : ByteArray) : Bool := decide (3 ≤ s.size) && (bt s 1 == 58 && (inB (txN s) 0 4 && (s.size == 2 + txR s && (xsTo s (txR s)).all fun v => inB v 0 1)))
/-- The bits that a text tells. -/
def rdB (s : ByteArray) : Int := (sumN (dig (xsTo s (txR s))) (txR s) : Int)

end Go.Proofs.YthkmapflbopdpaaDoor

/- V1:
  strings.Cut at a colon. -/
namespace Go.Proofs.YthkmapflbopdpaaDoor
open Go.RowKit
set_option linter.unusedVariables false

set_option maxRecDepth 100000 in
set_option maxHeartbeats 1000000 in
theorem IndexByte_any (s : ByteArray) (w : World) :
    Calls Tryd.prog 61 #[.string s, .int .u8 58] w fun e w' => e = .returned (.int .i64 (Lib.indexByte s.data.toList 58)) ∧ w = w' := by
  go_enter Tryd.func61, Tryd.ntmps61
  go_wp2
  rw [run_callFunc_extern Tryd.func66 (by kernel_rfl) (by kernel_rfl) (by kernel_rfl) (e := Extern.BytealgIndexByte.indexByte) (by kernel_rfl), Lib.run_indexByteString]
  simp only [Result.andThen]
  rw [Oper.upon_value]
  go_wp2
  go_ret
  exact ⟨rfl, rfl⟩

theorem IndexByte_is {s : ByteArray} {i : Int} (h : Lib.indexByte s.data.toList 58 = i) (w : World) :
    Calls Tryd.prog 61 #[.string s, .int .u8 58] w fun e w' => e = .returned (.int .i64 i) ∧ w = w' := h ▸ IndexByte_any s w

set_option maxRecDepth 100000 in
set_option maxHeartbeats 1000000 in
theorem Index_is {s : ByteArray} {i : Int} (h : Lib.indexByte s.data.toList 58 = i) (w : World) :
    Calls Tryd.prog 57 #[.string s, .string ⟨#[58]⟩] w fun e w' => e = .returned (.int .i64 i) ∧ w = w' := by
  cases he : ([58] : List UInt8) == s.toList
  · go_enter Tryd.func57, Tryd.ntmps57
    go_wp2_with (go_at_call 61; refine (IndexByte_is h _).mono ?_; rintro e w' ⟨rfl, rfl⟩)
    go_ret
    exact ⟨rfl, rfl⟩
  · have e : s.data.toList = [58] := by rw [← Lib.toList_data]; exact (beq_iff_eq.1 he).symm
    obtain rfl : i = 0 := by rw [← h, e]; simp [Lib.indexByte]
    clear h e
    go_enter Tryd.func57, Tryd.ntmps57
    go_wp2
    go_ret
    exact ⟨rfl, rfl⟩

set_option maxRecDepth 100000 in
set_option maxHeartbeats 1000000 in
theorem lCut_none {s : ByteArray} (hs : s.size ≤ 1048576) (h : Lib.indexByte s.data.toList 58 = -1) (w : World) :
    Calls Tryd.prog 39 #[.string s, .string ⟨#[58]⟩] w fun e w' => e = .returned (.tuple #[.string s, .string ⟨#[]⟩, .bool false]) ∧ Below w.heap.size w w' := by
  go_enter Tryd.func39, Tryd.ntmps39
  go_wp2_with (go_at_call 57; refine (Index_is h _).mono ?_; rintro e w' ⟨rfl, rfl⟩)
  go_ret3
  exact ⟨rfl, Below.refl _ _⟩

set_option maxRecDepth 100000 in
set_option maxHeartbeats 1000000 in
theorem lCut_some {s : ByteArray} {o : Nat} (hs : s.size ≤ 1048576) (ho : o < s.size) (h : Lib.indexByte s.data.toList 58 = (o : Int)) (w : World) :
    Calls Tryd.prog 39 #[.string s, .string ⟨#[58]⟩] w fun e w' => e = .returned (.tuple #[.string (s.extract 0 o), .string (s.extract (o + 1) s.size), .bool true]) ∧ Below w.heap.size w w' := by
  have h1 : (o : Int) ≤ (s.size : Int) := by omega
  have h2 : (o : Int) + 1 ≤ (s.size : Int) := by omega
  have h3 : (0 : Int) ≤ (o : Int) := by omega
  go_enter Tryd.func39, Tryd.ntmps39
  go_wp2_with (go_at_call 57; refine (Index_is h _).mono ?_; rintro e w' ⟨rfl, rfl⟩)
  go_region
  go_wp2
  go_ret3
  exact ⟨rfl, (Below.refl _ _).drew⟩

set_option maxRecDepth 100000 in
set_option maxHeartbeats 1000000 in
theorem Cut_none {s : ByteArray} (hs : s.size ≤ 1048576) (h : Lib.indexByte s.data.toList 58 = -1) (w : World) :
    Calls Tryd.prog 27 #[.string s, .string ⟨#[58]⟩] w fun e w' => e = .returned (.tuple #[.string s, .string ⟨#[]⟩, .bool false]) ∧ Below w.heap.size w w' := by
  go_enter Tryd.func27, Tryd.ntmps27
  go_wp2_with (go_at_call 39; refine (lCut_none hs h _).mono ?_; rintro e w2 ⟨rfl, hb⟩)
  go_ret3
  exact ⟨rfl, hb⟩

set_option maxRecDepth 100000 in
set_option maxHeartbeats 1000000 in
theorem Cut_some {s : ByteArray} {o : Nat} (hs : s.size ≤ 1048576) (ho : o < s.size) (h : Lib.indexByte s.data.toList 58 = (o : Int)) (w : World) :
    Calls Tryd.prog 27 #[.string s, .string ⟨#[58]⟩] w fun e w' => e = .returned (.tuple #[.string (s.extract 0 o), .string (s.extract (o + 1) s.size), .bool true]) ∧ Below w.heap.size w w' := by
  go_enter Tryd.func27, Tryd.ntmps27
  go_wp2_with (go_at_call 39; refine (lCut_some hs ho h _).mono ?_; rintro e w2 ⟨rfl, hb⟩)
  go_ret3
  exact ⟨rfl, hb⟩
end Go.Proofs.YthkmapflbopdpaaDoor

/- V2:
  ParseFunc in the program. -/
namespace Go.Proofs.YthkmapflbopdpaaDoor
open Go.RowKit
set_option linter.unusedVariables false
set_option linter.unusedSimpArgs false

/-- FuncOf, its answer in one form. -/
theorem implFuncOf_bool {xs : List Int} (hl : xs.length ≤ 1048576) (n : Int) {ok : Bool} (hok : (inB n 0 4 && (xs.length == 2 ^ n.toNat && xs.all fun v => inB v 0 1)) = ok) (base : Nat) (s : Value) (w : World) (ho : Owns w base s xs) :
    Calls Tryd.prog 29 #[.int .i64 n, s] w fun e w' => e = .returned (.tuple #[.agg #[.int .i64 (if ok then n else 0), .int .i64 (if ok then (sumN (dig xs) xs.length : Int) else 0)], .int .i64 (if ok then 0 else 2)]) ∧ Below w.heap.size w w' := by
  subst hok
  cases h1 : inB n 0 4
  · exact implFuncOf_no hl h1 w ho
  · have hn2 : 0 ≤ n ∧ n ≤ 4 := by simpa [inB] using h1
    obtain ⟨R, hR, r0, r16, he⟩ := rowsN_eq hn2.1 hn2.2
    rw [← he]
    by_cases hx : xs.length = R
    · have e : (xs.length == R) = true := by simp [hx]
      cases hd : (xs.all fun v => inB v 0 1)
      · rw [e]
        exact implFuncOf_dig hl hn2.1 hn2.2 h1 r0 r16 (Lib.hid hR) (by simp [hx]) hd w ho
      · rw [e]
        have := implFuncOf_yes hn2.1 hn2.2 h1 r0 r16 (Lib.hid hR) hx hd w ho
        rw [← hx] at this
        exact this
    · have e : (xs.length == R) = false := by simp [hx]
      rw [e]
      exact implFuncOf_len hl hn2.1 hn2.2 h1 r0 r16 (Lib.hid hR) (by simp; omega) w ho

set_option maxHeartbeats 400000 in
theorem digitValue_any (b : Nat) (hb : b < 256) (w : World) :
    Calls Tryd.prog 28 #[.int .u8 (b : Int)] w fun e w' => e = .returned (.int .i64 ((b : Int) - 48)) ∧ w = w' := by
  go_enter Tryd.func28, Tryd.ntmps28
  go_wp2
  go_ret
  exact ⟨rfl, rfl⟩

/-- The values of the bytes of a text. -/
def tv (T : ByteArray) (j : Nat) : List Int := (List.range j).map fun r => (bt T r : Int) - 48
theorem tv_len (T : ByteArray) (j : Nat) : (tv T j).length = j := by simp [tv]
theorem tv_get (T : ByteArray) (L i : Nat) (h : i < L) : (tv T L)[i]?.getD 0 = (bt T i : Int) - 48 := by simp [tv, h]

/-- The answer to a text. -/
def ParsePost (ok : Bool) (n b : Int) (w : World) (e : Ending) (w' : World) : Prop := e = .returned (.tuple #[.agg #[.int .i64 (if ok then n else 0), .int .i64 (if ok then b else 0)], .int .i64 (if ok then 0 else 6)]) ∧ Below w.heap.size w w'

set_option maxRecDepth 100000 in
set_option maxHeartbeats 1000000 in
theorem ParseFunc_none {s : ByteArray} (hs : s.size ≤ 1048576) (h : Lib.indexByte s.data.toList 58 = -1) (n b : Int) (w : World) :
    Calls Tryd.prog 19 #[.string s] w (ParsePost false n b w) := by
  obtain ⟨W1, hW1, p0, p1, f0, f1, hB, hs1⟩ := ofBox w
  go_enter Tryd.func19, Tryd.ntmps19
  go_wp2_with (first
    | (go_at_call 27; refine (Cut_none hs h _).mono ?_; rintro e w2 ⟨rfl, hb⟩; have q0 := kc hb p0; have q1 := kc hb p1; have g0 := kf hb p0 f0; have g1 := kf hb p1 f1; have hB2 := bthen hB hb))
  exact bodyPost_ret (v := .tuple #[.agg #[.int .i64 0, .int .i64 0], .int .i64 6]) (by simp [results, Tryd.results19, go_sem, q0, q1]) rfl ⟨rfl, (hB2.setCell (p := ⟨w.heap.size, 0, none⟩) (by simp) _).setCell (p := ⟨w.heap.size, 1, none⟩) (by simp) _⟩

set_option maxRecDepth 100000 in
set_option maxHeartbeats 1000000 in
theorem ParseFunc_off {s H T : ByteArray} (hC : Hid (∀ W, Calls Tryd.prog 27 #[.string s, .string ⟨#[58]⟩] W fun e w' => e = .returned (.tuple #[.string H, .string T, .bool true]) ∧ Below W.heap.size W w'))
    (hd : ((H.size : Int) != 1) = true ∨ ((H.size : Int) != 1) = false ∧ decide (16 < (T.size : Int)) = true) (n b : Int) (w : World) :
    Calls Tryd.prog 19 #[.string s] w (ParsePost false n b w) := by
  obtain ⟨W1, hW1, p0, p1, f0, f1, hB, hs1⟩ := ofBox w
  rcases hd with hd | ⟨hd, hd2⟩ <;>
  · go_enter Tryd.func19, Tryd.ntmps19
    go_wp2_with (first
      | (go_at_call 27; refine (hC.out _).mono ?_; rintro e w2 ⟨rfl, hb⟩; have q0 := kc hb p0; have q1 := kc hb p1; have g0 := kf hb p0 f0; have g1 := kf hb p1 f1; have hB2 := bthen hB hb))
    exact bodyPost_ret (v := .tuple #[.agg #[.int .i64 0, .int .i64 0], .int .i64 6]) (by simp [results, Tryd.results19, go_sem, q0, q1]) rfl ⟨rfl, (hB2.setCell (p := ⟨w.heap.size, 0, none⟩) (by simp) _).setCell (p := ⟨w.heap.size, 1, none⟩) (by simp) _⟩

set_option maxRecDepth 100000 in
set_option maxHeartbeats 4000000 in
theorem ParseFunc_main {s H T : ByteArray} (hC : Hid (∀ W, Calls Tryd.prog 27 #[.string s, .string ⟨#[58]⟩] W fun e w' => e = .returned (.tuple #[.string H, .string T, .bool true]) ∧ Below W.heap.size W w'))
    (hH : H.size = 1) {L : Nat} (hT : T.size = L) (hL : L ≤ 16) {ok : Bool} (hok : (inB ((bt H 0 : Int) - 48) 0 4 && (L == 2 ^ ((bt H 0 : Int) - 48).toNat && (tv T L).all fun v => inB v 0 1)) = ok) (w : World) :
    Calls Tryd.prog 19 #[.string s] w (ParsePost ok ((bt H 0 : Int) - 48) (sumN (dig (tv T L)) L : Int) w) := by
  subst hT
  obtain ⟨i0, hi, hz0, hz1, hz2⟩ := info_parts infoI
  obtain ⟨W1, hW1, p0, p1, f0, f1, hB, hs1⟩ := ofBox w
  have hd : ((H.size : Int) != 1) = false := by simp [hH]
  have hd2 : decide (16 < (T.size : Int)) = false := by simp; omega
  have hb0 := bt_eq (s := H) (k := 0) (by omega)
  have hbl0 := bt_lt H 0
  have FO := Lib.hid fun base v W ho => implFuncOf_bool (xs := tv T T.size) (by rw [tv_len]; omega) ((bt H 0 : Int) - 48) (ok := ok) (by rw [tv_len]; exact hok) base v W ho
  clear hok
  go_enter Tryd.func19, Tryd.ntmps19
  go_wp2_with (first
    | (go_at_call 27; refine (hC.out _).mono ?_; rintro e w2 ⟨rfl, hb⟩; have q0 := kc hb p0; have q1 := kc hb p1; have g0 := kf hb p0 f0; have g1 := kf hb p1 f1; have hB2 := bthen hB hb)
    | (at_make; refine wpList_make_full _ rfl _ _ 62 rfl w2.heap.size 2 i0 (.int .i64 0) 1 Tryd.underlying62 hi hz0 hz1 .i64 .i64 _ _ T.size rfl rfl rfl rfl (by rw [hz2]; omega) (by unfold maxLen; omega) (Nat.le_refl _) ?_; intro w3 hown3 hgrow3))
  have hB3 : Below w2.heap.size w2 w3 := (Below.refl _ _).grown hgrow3 (Nat.le_refl _) (fun j e => by cases e)
  have r0 := kc hB3 q0
  have r1 := kc hB3 q1
  have e0 := kf hB3 q0 g0
  have e1 := kf hB3 q1 g1
  have hz2' : w.heap.size < w2.heap.size := cell_lt q0
  have hB4 := bthen hB2 hB3
  have hvl := hown3.1
  generalize (madeCells (Value.int .i64 0).cells (T.size * 1)).toList = vs at hown3 hvl
  clear hgrow3 hB3 p0 p1 f0 f1 q0 q1 g0 g1 hB2 hB hb hW1
  have htl := tv_len T T.size
  have hln : (tv T T.size).length = T.size := htl
  go_loopw [35] (fun i' wr => ∃ i : Nat, i ≤ T.size ∧ i' = .int .i64 i ∧ wr.ownsRow w2.heap.size 2 1 (.slice (some ⟨w2.heap.size, 0, none⟩) T.size T.size) T.size (ints ((tv T T.size).take i) ++ vs.drop i) ∧ Below w2.heap.size w3 wr) (fun i' _ => T.size - (intOf i').toNat)
  case atStart => exact ⟨0, Nat.zero_le _, rfl, by simpa [ints] using hown3, Below.refl _ _⟩
  case round =>
    clear hown3
    obtain ⟨i, hi', rfl, ho, hN⟩ := hrel
    by_cases hlt : i < T.size
    · obtain ⟨u, hu⟩ : ∃ u, wr.cell? ⟨w2.heap.size, i, none⟩ = some u := by
        rw [ho.cellAt i (by omega)]
        exact ⟨_, List.getElem?_eq_getElem (by simp [ints]; omega)⟩
      have hfz := ho.frozenAt i
      have hst := ho.stored i (.int .i64 ((tv T T.size)[i]?.getD 0))
      rw [copy_step (tv T T.size) vs i (by omega) (by omega), tv_get T _ i hlt] at hst
      have HST := Lib.hid hst.1
      have hbi := bt_eq (s := T) (k := i) hlt
      have hbl := bt_lt T i
      have DV := Lib.hid fun W => digitValue_any (bt T i) hbl W
      clear hst ho hvl
      go_wp2_with (go_at_call 28; refine (DV.out _).mono ?_; rintro e w' ⟨rfl, rfl⟩)
      go_roundw
      case rel => exact ⟨i + 1, by omega, by go_num, HST.out, hN.setCell (p := ⟨w2.heap.size, i, none⟩) (Nat.le_refl _) _⟩
      case measure => simp [intOf]; omega
    · obtain rfl : i = T.size := by omega
      have hown : Owns wr w2.heap.size (.slice (some ⟨w2.heap.size, 0, none⟩) T.size T.size) (tv T T.size) := by
        unfold Owns
        rw [htl]
        rw [List.drop_of_length_le (l := vs) (by omega), List.append_nil, List.take_of_length_le (by omega)] at ho
        exact ho
      have s0 := (hN.cell (p := ⟨w.heap.size, 0, none⟩) hz2').trans r0
      have s1 := (hN.cell (p := ⟨w.heap.size, 1, none⟩) hz2').trans r1
      have t0 := (hN.frozen (p := ⟨w.heap.size, 0, none⟩) hz2').trans e0
      have t1 := (hN.frozen (p := ⟨w.heap.size, 1, none⟩) hz2').trans e1
      have hB5 : Below w.heap.size w wr := hB4.trans (hN.mono (by omega))
      have FF := Lib.hid (FO.out w2.heap.size _ wr hown)
      have DV := Lib.hid fun W => digitValue_any (bt H 0) hbl0 W
      clear ho hown hvl r0 r1 e0 e1 hN htl hln
      cases ok
      · go_wp2_with (first
          | (go_at_call 28; refine (DV.out _).mono ?_; rintro e w' ⟨rfl, rfl⟩)
          | (go_at_call 29; refine FF.out.mono ?_; rintro e w6 ⟨rfl, hb6⟩; have u0 := kc hb6 s0; have u1 := kc hb6 s1; have v0 := kf hb6 s0 t0; have v1 := kf hb6 s1 t1; have hB6 := bthen hB5 hb6; have hsz6 : w.heap.size < w6.heap.size := cell_lt u0; have hne6 : ¬ (w.heap.size = w6.heap.size) := by omega))
        have Y0 : ((w6.setCell ⟨w.heap.size, 0, none⟩ (.int .i64 0)).setCell ⟨w.heap.size, 1, none⟩ (.int .i64 0)).cell? ⟨w.heap.size, 0, none⟩ = some (.int .i64 0) := by simp [go_sem, u0, u1]
        have Y1 : ((w6.setCell ⟨w.heap.size, 0, none⟩ (.int .i64 0)).setCell ⟨w.heap.size, 1, none⟩ (.int .i64 0)).cell? ⟨w.heap.size, 1, none⟩ = some (.int .i64 0) := by simp [go_sem, u0, u1]
        have Z0 := fun o => kc (bnew _ o) Y0
        have Z1 := fun o => kc (bnew _ o) Y1
        exact bodyPost_ret (v := .tuple #[.agg #[.int .i64 0, .int .i64 0], .int .i64 6]) (by simp [results, Tryd.results19, go_sem, Z0, Z1]) rfl ⟨rfl, by first | exact balloc ((hB6.setCell (p := ⟨w.heap.size, 0, none⟩) (by simp) _).setCell (p := ⟨w.heap.size, 1, none⟩) (by simp) _) _ | exact ((balloc hB6 _).setCell (p := ⟨w.heap.size, 0, none⟩) (by simp) _).setCell (p := ⟨w.heap.size, 1, none⟩) (by simp) _⟩
      · go_wp2_with (first
          | (go_at_call 28; refine (DV.out _).mono ?_; rintro e w' ⟨rfl, rfl⟩)
          | (go_at_call 29; refine FF.out.mono ?_; rintro e w6 ⟨rfl, hb6⟩; have u0 := kc hb6 s0; have u1 := kc hb6 s1; have v0 := kf hb6 s0 t0; have v1 := kf hb6 s1 t1; have hB6 := bthen hB5 hb6; have hsz6 : w.heap.size < w6.heap.size := cell_lt u0; have hne6 : ¬ (w.heap.size = w6.heap.size) := by omega))
        have Y0 : ((w6.setCell ⟨w.heap.size, 0, none⟩ (.int .i64 ((bt H 0 : Int) - 48))).setCell ⟨w.heap.size, 1, none⟩ (.int .i64 (sumN (dig (tv T T.size)) (tv T T.size).length : Int))).cell? ⟨w.heap.size, 0, none⟩ = some (.int .i64 ((bt H 0 : Int) - 48)) := by simp [go_sem, u0, u1]
        have Y1 : ((w6.setCell ⟨w.heap.size, 0, none⟩ (.int .i64 ((bt H 0 : Int) - 48))).setCell ⟨w.heap.size, 1, none⟩ (.int .i64 (sumN (dig (tv T T.size)) (tv T T.size).length : Int))).cell? ⟨w.heap.size, 1, none⟩ = some (.int .i64 (sumN (dig (tv T T.size)) (tv T T.size).length : Int)) := by simp [go_sem, u0, u1]
        have Z0 := fun o => kc (bnew _ o) Y0
        have Z1 := fun o => kc (bnew _ o) Y1
        exact bodyPost_ret (v := .tuple #[.agg #[.int .i64 ((bt H 0 : Int) - 48), .int .i64 (sumN (dig (tv T T.size)) (tv T T.size).length : Int)], .int .i64 0]) (by simp [results, Tryd.results19, go_sem, Z0, Z1]) rfl ⟨by rw [tv_len]; rfl, by first | exact balloc ((hB6.setCell (p := ⟨w.heap.size, 0, none⟩) (by simp) _).setCell (p := ⟨w.heap.size, 1, none⟩) (by simp) _) _ | exact ((balloc hB6 _).setCell (p := ⟨w.heap.size, 0, none⟩) (by simp) _).setCell (p := ⟨w.heap.size, 1, none⟩) (by simp) _⟩
end Go.Proofs.YthkmapflbopdpaaDoor

/- V3:
  ParseFunc in both packages, whatever text comes in. -/
namespace Go.Proofs.YthkmapflbopdpaaDoor
open Go.RowKit
set_option linter.unusedVariables false
set_option linter.unusedSimpArgs false

theorem bt58 {s : ByteArray} {k : Nat} (h : k < s.size) : s.data.toList[k]? = some 58 ↔ bt s k = 58 := by
  have h' : k < s.data.size := h
  have e : s.data.toList[k]? = some s[k] := by
    rw [Array.getElem?_toList, Array.getElem?_eq_getElem h']
    rfl
  rw [e]
  simp only [bt, h, dif_pos, Option.some.injEq]
  constructor
  · intro h1; rw [h1]; rfl
  · intro h1; exact UInt8.toNat_inj.1 h1

theorem bt_extract (s : ByteArray) (a b k : Nat) (hb : b ≤ s.size) (hk : a + k < b) : bt (s.extract a b) k = bt s (a + k) := by
  have h1 : k < (s.extract a b).size := by rw [ByteArray.size_extract]; omega
  have h2 : a + k < s.size := by omega
  simp only [bt, h1, h2, dif_pos]
  rw [ByteArray.getElem_extract]

theorem implParseFunc_any (s : ByteArray) (hs : s.size ≤ 1048576) (w : World) :
    Calls Tryd.prog 19 #[.string s] w (ParsePost (rdOk s) (txN s) (rdB s) w) := by
  have hlen : s.data.toList.length = s.size := by rw [Array.length_toList]; rfl
  have hge := Lib.indexByte_ge s.data.toList 58
  by_cases hi : Lib.indexByte s.data.toList 58 = -1
  · have hno := Lib.indexByte_none hi
    have hr : rdOk s = false := by
      unfold rdOk
      by_cases h3 : 3 ≤ s.size
      · have h1 : ¬ bt s 1 = 58 := fun e => hno 1 ((bt58 (by omega)).2 e)
        simp [h1]
      · simp [h3]
    rw [hr]
    exact ParseFunc_none hs hi _ _ w
  · obtain ⟨o, ho⟩ : ∃ o : Nat, Lib.indexByte s.data.toList 58 = (o : Int) := Int.eq_ofNat_of_zero_le (by omega)
    obtain ⟨hat, hbefore⟩ := Lib.indexByte_some ho
    have hos : o < s.size := by rw [← hlen]; exact (List.getElem?_eq_some_iff.1 hat).1
    have hC := Lib.hid fun W => Cut_some hs hos ho W
    have hHs : (s.extract 0 o).size = o := by rw [ByteArray.size_extract]; omega
    have hTs : (s.extract (o + 1) s.size).size = s.size - (o + 1) := by rw [ByteArray.size_extract]; omega
    by_cases h1 : o = 1
    · subst h1
      have hb0 : bt (s.extract 0 1) 0 = bt s 0 := by have := bt_extract s 0 1 0 (by omega) (by omega); simpa using this
      have hb1 : bt s 1 = 58 := (bt58 hos).1 hat
      by_cases hbig : 16 < s.size - 2
      · have hr : rdOk s = false := by
          unfold rdOk
          cases hn : inB (txN s) 0 4
          · simp
          · have hn2 : 0 ≤ txN s ∧ txN s ≤ 4 := by simpa [inB] using hn
            obtain ⟨R, hR, r0, r16, he⟩ := rowsN_eq hn2.1 hn2.2
            have e : (s.size == 2 + txR s) = false := by unfold txR; rw [← he]; simp; omega
            rw [e]
            simp
        rw [hr]
        exact ParseFunc_off hC (.inr ⟨by rw [hHs]; rfl, by rw [hTs]; simp; omega⟩) _ _ w
      · have hxs : ∀ j, j ≤ s.size - 2 → tv (s.extract (1 + 1) s.size) j = xsTo s j := by
          intro j hj
          unfold tv xsTo
          refine List.map_congr_left fun r hr => ?_
          have hr' := List.mem_range.1 hr
          rw [bt_extract s (1 + 1) s.size r (Nat.le_refl _) (by omega), show 1 + 1 + r = r + 2 by omega]
        have hn0 : ((bt (s.extract 0 1) 0 : Int) - 48) = txN s := by unfold txN; rw [hb0]
        have hok : (inB ((bt (s.extract 0 1) 0 : Int) - 48) 0 4 && (s.size - 2 == 2 ^ ((bt (s.extract 0 1) 0 : Int) - 48).toNat && (tv (s.extract (1 + 1) s.size) (s.size - 2)).all fun v => inB v 0 1)) = rdOk s := by
          rw [hn0, hxs _ (Nat.le_refl _)]
          unfold rdOk
          rw [hb1]
          have hp : 0 < txR s := Nat.pow_pos (by decide)
          by_cases hz : s.size = 2 + txR s
          · have e1 : s.size - 2 = txR s := by omega
            have e2 : 3 ≤ s.size := by omega
            rw [e1, show (txR s == 2 ^ (txN s).toNat) = true from by simp [txR], show (s.size == 2 + txR s) = true from by simp [hz], show decide (3 ≤ s.size) = true from by simp; omega]
            simp
          · have e1 : (s.size == 2 + txR s) = false := by simp [hz]
            have e2 : (s.size - 2 == 2 ^ (txN s).toNat) = false := by
              have : 2 ^ (txN s).toNat = txR s := rfl
              simp
              omega
            rw [e1, e2]
            simp
        have M := ParseFunc_main hC hHs (L := s.size - 2) (by rw [hTs]) (by omega) hok w
        rw [hn0, hxs _ (Nat.le_refl _)] at M
        cases hr : rdOk s
        · rw [hr] at M
          exact M
        · rw [hr] at M
          have hz : s.size = 2 + txR s := by
            unfold rdOk at hr
            simp at hr
            exact hr.2.2.2.1
          unfold rdB
          rw [show s.size - 2 = txR s by omega] at M
          exact M
    · have hr : rdOk s = false := by
        unfold rdOk
        by_cases h3 : 3 ≤ s.size
        · by_cases h0 : o = 0
          · subst h0
            have hb : bt s 0 = 58 := (bt58 (by omega)).1 hat
            have : inB (txN s) 0 4 = false := by unfold txN; rw [hb]; decide
            simp [this]
          · have hb : ¬ bt s 1 = 58 := fun e => hbefore 1 (by omega) ((bt58 (by omega)).2 e)
            simp [hb]
        · simp [h3]
      rw [hr]
      exact ParseFunc_off hC (.inl (by rw [hHs]; simp; omega)) _ _ w
end Go.Proofs.YthkmapflbopdpaaDoor

/- CN26:
  Generators of a name: the program. -/
namespace Go.Proofs.YthkmapflbopdpaaDoor
open Go.RowKit Go.Shelf
set_option linter.unusedVariables false
set_option linter.unusedSimpArgs false

/-- What the reader leans on: the error, and the table of blanks. -/
def TabN (w : World) : Prop := Lib.TabIs Tryd.prog w "strings.asciiSpace" .u8 Lib.asciiSpaceTab
theorem TabN.below {w w' : World} (h : TabN w) (hb : Below w.heap.size w w') : TabN w' := by
  unfold TabN Lib.TabIs World.var? at h ⊢
  cases hg : Tryd.prog.globalNamed "strings.asciiSpace" with
  | none => simp [hg] at h
  | some g =>
    simp only [hg, Option.bind_some] at h ⊢
    have hlt : g < w.heap.size := by
      rcases Nat.lt_or_ge g w.heap.size with h' | h'
      · exact h'
      · simp [Array.getElem?_eq_none h'] at h
    rw [hb.block g hlt]
    exact h

/-- The function that a degree stands for. -/
def gdN (k d : Nat) : Nat := sumN (fun r => (decide ((if k = 0 then 2 else d) ≤ sizeN r)).toNat) (2 ^ (d + 1))
def gdP (p : Nat × Nat) : Int × Int := (((p.2 + 1 : Nat) : Int), (gdN (lnK p.1) p.2 : Int))
/-- The functions of a line. -/
def fldL (j : Nat) : List ByteArray := (Lib.fields (lnG j).data.toList).map fun l => ⟨l.toArray⟩
def gsL (j : Nat) : List (Int × Int) := (fldL j).map fun s => (txN s, rdB s)
def gnL (p : Nat × Nat) : List (Int × Int) := gsL p.1 ++ if p.2 = 9 then [] else [gdP p]
theorem fld_small : ∀ j < 38, (lnG j).size < 1000 ∧ (∀ b ∈ (lnG j).data.toList, b.toNat < 128) ∧ (fldL j).length ≤ 4 ∧ ∀ s ∈ fldL j, rdOk s = true ∧ s.size ≤ 100 := by decide +kernel

set_option maxHeartbeats 1000000 in
theorem Deg1_any (r lo b : Nat) (hr : r < 16) (w : World) (c0 : w.cell? ⟨b, 0, none⟩ = some (.int .i64 (lo : Int))) :
    Calls Tryd.prog 31 #[.int .i64 (r : Int), .pointer (some ⟨b, 0, none⟩)] w fun e w' => e = .returned (.int .i64 ((decide (lo ≤ sizeN r)).toNat : Int)) ∧ Below w.heap.size w w' := by
  have RS := Lib.hid (fun W => rowSize_any r hr W)
  have hd : decide ((lo : Int) ≤ (sizeN r : Int)) = decide (lo ≤ sizeN r) := by simp only [decide_eq_decide]; omega
  generalize decide (lo ≤ sizeN r) = q at hd ⊢
  generalize (sizeN r : Int) = z at RS hd
  generalize (lo : Int) = l at c0 hd
  have DI := Lib.hid (fun W => digitIf_any q W)
  go_enter Tryd.func31, Tryd.ntmps31
  go_wp2
  go_quiet (first | (go_at_call 33; exact quiet_eq (RS.out _)) | (go_at_call 32; exact quiet_eq (DI.out _)))
  go_wp2
  go_ret
  exact ⟨rfl, below_drewN (Below.refl _ _) _⟩

set_option maxRecDepth 100000 in
set_option maxHeartbeats 2000000 in
theorem funcDeg02_any (b g : ByteArray) (ta : Option Addr) (tn tc : Nat) (w : World) :
    Calls Tryd.prog 20 #[.agg #[.string b, .int .i64 0, .slice ta tn tc, .string g, .int .i64 2]] w fun e w' => e = .returned (.agg #[.int .i64 3, .int .i64 (gdN 0 2 : Int)]) ∧ Below w.heap.size w w' := by
  have hmf : ∀ (fn : Fn) (first cap : Array Value) (w : World), (Instr.makeFunc fn first cap).run Tryd.prog w = .ok (.func fn first cap) w := fun _ _ _ _ => rfl
  have hle : ∀ r : Nat, r < 8 → (decide (2 ≤ sizeN r)).toNat ≤ 1 := fun r _ => by cases decide (2 ≤ sizeN r) <;> decide
  have FB := Lib.hid (fun B W (hc : W.cell? ⟨B, 0, none⟩ = some (.int .i64 (((2 : Nat)) : Int))) => funcByRows_any 3 (by decide) (by decide) 8 (by decide) (by decide) (Lib.hid rfl) 31 #[.pointer (some ⟨B, 0, none⟩)] (enters_of Tryd.func31 (by kernel_rfl) rfl) (fun r => (decide (2 ≤ sizeN r)).toNat) hle W (Lib.hid fun W' hW r hr => Deg1_any r 2 B (by omega) W' (kc hW hc)))
  rw [orBits_sum (by decide) _ hle] at FB
  rw [show sumN (fun r => (decide (2 ≤ sizeN r)).toNat) 8 = gdN 0 2 from rfl, show (((2 : Nat)) : Int) = 2 from rfl] at FB
  generalize (gdN 0 2 : Int) = x at FB ⊢
  go_enter Tryd.func20, Tryd.ntmps20
  go_wp2_with (go_at_call 30; refine (FB.out (w.heap.size + 2) _ (by simp [go_sem])).mono ?_; rintro e w3 ⟨rfl, hb3⟩; have hW3 : Below w.heap.size w w3 := bthen (by first | exact balloc (balloc (bnew _ _) _) _ | exact (balloc (balloc (bnew _ _) _) _).setCell (p := ⟨w.heap.size + 2, 0, none⟩) (by simp) _) hb3; have d0 : w3.cell? ⟨w.heap.size + 1, 0, none⟩ = some (.int .i64 0) := kc hb3 (by simp [go_sem]); have d1 : w3.cell? ⟨w.heap.size + 1, 1, none⟩ = some (.int .i64 0) := kc hb3 (by simp [go_sem]); have g0 : w3.frozen? ⟨w.heap.size + 1, 0, none⟩ = false := kf hb3 (a := ⟨w.heap.size + 1, 0, none⟩) (by simp [go_sem]; rfl) (by simp [go_sem]); have g1 : w3.frozen? ⟨w.heap.size + 1, 1, none⟩ = false := kf hb3 (a := ⟨w.heap.size + 1, 1, none⟩) (by simp [go_sem]; rfl) (by simp [go_sem]))
  exact bodyPost_ret (v := .agg #[.int .i64 3, .int .i64 x]) (by simp [results, Tryd.results20, go_sem, d0, d1, g0, g1]) rfl ⟨rfl, (hW3.setCell (p := ⟨w.heap.size + 1, 0, none⟩) (by simp) _).setCell (p := ⟨w.heap.size + 1, 1, none⟩) (by simp) _⟩

set_option maxRecDepth 100000 in
set_option maxHeartbeats 2000000 in
theorem funcDeg03_any (b g : ByteArray) (ta : Option Addr) (tn tc : Nat) (w : World) :
    Calls Tryd.prog 20 #[.agg #[.string b, .int .i64 0, .slice ta tn tc, .string g, .int .i64 3]] w fun e w' => e = .returned (.agg #[.int .i64 4, .int .i64 (gdN 0 3 : Int)]) ∧ Below w.heap.size w w' := by
  have hmf : ∀ (fn : Fn) (first cap : Array Value) (w : World), (Instr.makeFunc fn first cap).run Tryd.prog w = .ok (.func fn first cap) w := fun _ _ _ _ => rfl
  have hle : ∀ r : Nat, r < 16 → (decide (2 ≤ sizeN r)).toNat ≤ 1 := fun r _ => by cases decide (2 ≤ sizeN r) <;> decide
  have FB := Lib.hid (fun B W (hc : W.cell? ⟨B, 0, none⟩ = some (.int .i64 (((2 : Nat)) : Int))) => funcByRows_any 4 (by decide) (by decide) 16 (by decide) (by decide) (Lib.hid rfl) 31 #[.pointer (some ⟨B, 0, none⟩)] (enters_of Tryd.func31 (by kernel_rfl) rfl) (fun r => (decide (2 ≤ sizeN r)).toNat) hle W (Lib.hid fun W' hW r hr => Deg1_any r 2 B (by omega) W' (kc hW hc)))
  rw [orBits_sum (by decide) _ hle] at FB
  rw [show sumN (fun r => (decide (2 ≤ sizeN r)).toNat) 16 = gdN 0 3 from rfl, show (((2 : Nat)) : Int) = 2 from rfl] at FB
  generalize (gdN 0 3 : Int) = x at FB ⊢
  go_enter Tryd.func20, Tryd.ntmps20
  go_wp2_with (go_at_call 30; refine (FB.out (w.heap.size + 2) _ (by simp [go_sem])).mono ?_; rintro e w3 ⟨rfl, hb3⟩; have hW3 : Below w.heap.size w w3 := bthen (by first | exact balloc (balloc (bnew _ _) _) _ | exact (balloc (balloc (bnew _ _) _) _).setCell (p := ⟨w.heap.size + 2, 0, none⟩) (by simp) _) hb3; have d0 : w3.cell? ⟨w.heap.size + 1, 0, none⟩ = some (.int .i64 0) := kc hb3 (by simp [go_sem]); have d1 : w3.cell? ⟨w.heap.size + 1, 1, none⟩ = some (.int .i64 0) := kc hb3 (by simp [go_sem]); have g0 : w3.frozen? ⟨w.heap.size + 1, 0, none⟩ = false := kf hb3 (a := ⟨w.heap.size + 1, 0, none⟩) (by simp [go_sem]; rfl) (by simp [go_sem]); have g1 : w3.frozen? ⟨w.heap.size + 1, 1, none⟩ = false := kf hb3 (a := ⟨w.heap.size + 1, 1, none⟩) (by simp [go_sem]; rfl) (by simp [go_sem]))
  exact bodyPost_ret (v := .agg #[.int .i64 4, .int .i64 x]) (by simp [results, Tryd.results20, go_sem, d0, d1, g0, g1]) rfl ⟨rfl, (hW3.setCell (p := ⟨w.heap.size + 1, 0, none⟩) (by simp) _).setCell (p := ⟨w.heap.size + 1, 1, none⟩) (by simp) _⟩

set_option maxRecDepth 100000 in
set_option maxHeartbeats 2000000 in
theorem funcDeg12_any (b g : ByteArray) (ta : Option Addr) (tn tc : Nat) (w : World) :
    Calls Tryd.prog 20 #[.agg #[.string b, .int .i64 1, .slice ta tn tc, .string g, .int .i64 2]] w fun e w' => e = .returned (.agg #[.int .i64 3, .int .i64 (gdN 1 2 : Int)]) ∧ Below w.heap.size w w' := by
  have hmf : ∀ (fn : Fn) (first cap : Array Value) (w : World), (Instr.makeFunc fn first cap).run Tryd.prog w = .ok (.func fn first cap) w := fun _ _ _ _ => rfl
  have hle : ∀ r : Nat, r < 8 → (decide (2 ≤ sizeN r)).toNat ≤ 1 := fun r _ => by cases decide (2 ≤ sizeN r) <;> decide
  have FB := Lib.hid (fun B W (hc : W.cell? ⟨B, 0, none⟩ = some (.int .i64 (((2 : Nat)) : Int))) => funcByRows_any 3 (by decide) (by decide) 8 (by decide) (by decide) (Lib.hid rfl) 31 #[.pointer (some ⟨B, 0, none⟩)] (enters_of Tryd.func31 (by kernel_rfl) rfl) (fun r => (decide (2 ≤ sizeN r)).toNat) hle W (Lib.hid fun W' hW r hr => Deg1_any r 2 B (by omega) W' (kc hW hc)))
  rw [orBits_sum (by decide) _ hle] at FB
  rw [show sumN (fun r => (decide (2 ≤ sizeN r)).toNat) 8 = gdN 1 2 from rfl, show (((2 : Nat)) : Int) = 2 from rfl] at FB
  generalize (gdN 1 2 : Int) = x at FB ⊢
  go_enter Tryd.func20, Tryd.ntmps20
  go_wp2_with (go_at_call 30; refine (FB.out (w.heap.size + 2) _ (by simp [go_sem])).mono ?_; rintro e w3 ⟨rfl, hb3⟩; have hW3 : Below w.heap.size w w3 := bthen (by first | exact balloc (balloc (bnew _ _) _) _ | exact (balloc (balloc (bnew _ _) _) _).setCell (p := ⟨w.heap.size + 2, 0, none⟩) (by simp) _) hb3; have d0 : w3.cell? ⟨w.heap.size + 1, 0, none⟩ = some (.int .i64 0) := kc hb3 (by simp [go_sem]); have d1 : w3.cell? ⟨w.heap.size + 1, 1, none⟩ = some (.int .i64 0) := kc hb3 (by simp [go_sem]); have g0 : w3.frozen? ⟨w.heap.size + 1, 0, none⟩ = false := kf hb3 (a := ⟨w.heap.size + 1, 0, none⟩) (by simp [go_sem]; rfl) (by simp [go_sem]); have g1 : w3.frozen? ⟨w.heap.size + 1, 1, none⟩ = false := kf hb3 (a := ⟨w.heap.size + 1, 1, none⟩) (by simp [go_sem]; rfl) (by simp [go_sem]))
  exact bodyPost_ret (v := .agg #[.int .i64 3, .int .i64 x]) (by simp [results, Tryd.results20, go_sem, d0, d1, g0, g1]) rfl ⟨rfl, (hW3.setCell (p := ⟨w.heap.size + 1, 0, none⟩) (by simp) _).setCell (p := ⟨w.heap.size + 1, 1, none⟩) (by simp) _⟩

set_option maxRecDepth 100000 in
set_option maxHeartbeats 2000000 in
theorem funcDeg13_any (b g : ByteArray) (ta : Option Addr) (tn tc : Nat) (w : World) :
    Calls Tryd.prog 20 #[.agg #[.string b, .int .i64 1, .slice ta tn tc, .string g, .int .i64 3]] w fun e w' => e = .returned (.agg #[.int .i64 4, .int .i64 (gdN 1 3 : Int)]) ∧ Below w.heap.size w w' := by
  have hmf : ∀ (fn : Fn) (first cap : Array Value) (w : World), (Instr.makeFunc fn first cap).run Tryd.prog w = .ok (.func fn first cap) w := fun _ _ _ _ => rfl
  have hle : ∀ r : Nat, r < 16 → (decide (3 ≤ sizeN r)).toNat ≤ 1 := fun r _ => by cases decide (3 ≤ sizeN r) <;> decide
  have FB := Lib.hid (fun B W (hc : W.cell? ⟨B, 0, none⟩ = some (.int .i64 (((3 : Nat)) : Int))) => funcByRows_any 4 (by decide) (by decide) 16 (by decide) (by decide) (Lib.hid rfl) 31 #[.pointer (some ⟨B, 0, none⟩)] (enters_of Tryd.func31 (by kernel_rfl) rfl) (fun r => (decide (3 ≤ sizeN r)).toNat) hle W (Lib.hid fun W' hW r hr => Deg1_any r 3 B (by omega) W' (kc hW hc)))
  rw [orBits_sum (by decide) _ hle] at FB
  rw [show sumN (fun r => (decide (3 ≤ sizeN r)).toNat) 16 = gdN 1 3 from rfl, show (((3 : Nat)) : Int) = 3 from rfl] at FB
  generalize (gdN 1 3 : Int) = x at FB ⊢
  go_enter Tryd.func20, Tryd.ntmps20
  go_wp2_with (go_at_call 30; refine (FB.out (w.heap.size + 2) _ (by simp [go_sem])).mono ?_; rintro e w3 ⟨rfl, hb3⟩; have hW3 : Below w.heap.size w w3 := bthen (by first | exact balloc (balloc (bnew _ _) _) _ | exact (balloc (balloc (bnew _ _) _) _).setCell (p := ⟨w.heap.size + 2, 0, none⟩) (by simp) _) hb3; have d0 : w3.cell? ⟨w.heap.size + 1, 0, none⟩ = some (.int .i64 0) := kc hb3 (by simp [go_sem]); have d1 : w3.cell? ⟨w.heap.size + 1, 1, none⟩ = some (.int .i64 0) := kc hb3 (by simp [go_sem]); have g0 : w3.frozen? ⟨w.heap.size + 1, 0, none⟩ = false := kf hb3 (a := ⟨w.heap.size + 1, 0, none⟩) (by simp [go_sem]; rfl) (by simp [go_sem]); have g1 : w3.frozen? ⟨w.heap.size + 1, 1, none⟩ = false := kf hb3 (a := ⟨w.heap.size + 1, 1, none⟩) (by simp [go_sem]; rfl) (by simp [go_sem]))
  exact bodyPost_ret (v := .agg #[.int .i64 4, .int .i64 x]) (by simp [results, Tryd.results20, go_sem, d0, d1, g0, g1]) rfl ⟨rfl, (hW3.setCell (p := ⟨w.heap.size + 1, 0, none⟩) (by simp) _).setCell (p := ⟨w.heap.size + 1, 1, none⟩) (by simp) _⟩

end Go.Proofs.YthkmapflbopdpaaDoor

/- CN27:
  generators of the program. -/
namespace Go.Proofs.YthkmapflbopdpaaDoor
open Go.RowKit Go.Shelf
set_option linter.unusedVariables false
set_option linter.unusedSimpArgs false

def fgt (l : List ByteArray) (i : Nat) : ByteArray := l[i]?.getD ⟨#[]⟩
theorem gs_take {j i : Nat} (hi : i < (fldL j).length) : (gsL j).take (i + 1) = (gsL j).take i ++ [(txN (fgt (fldL j) i), rdB (fgt (fldL j) i))] := by
  unfold gsL fgt
  rw [← List.map_take, ← List.map_take, List.take_succ_eq_append_getElem hi, List.map_append, List.getElem?_eq_getElem hi]
  rfl
theorem cell_two_new' (W : World) {N : Nat} (hN : N = W.heap.size) (a b : Value) (t : TypeId) : ∀ (j : Nat) (u : Value), [a, b][j]? = some u → (W.alloc (.cells #[a, b] t)).cell? ((⟨N, 0, none⟩ : Addr).add j) = some u := by
  subst hN
  exact cell_two_new W a b t

set_option maxRecDepth 100000 in
set_option maxHeartbeats 8000000 in
theorem generators_any {p : Nat × Nat} (hp : p ∈ clTo 38) (ta : Option Addr) (tn tc : Nat) (w : World) (hT : TabN w) :
    Calls Tryd.prog 11 #[.agg #[.string (lnB p.1), .int .i64 (lnK p.1 : Int), .slice ta tn tc, .string (lnG p.1), .int .i64 (p.2 : Int)]] w (FListPost w.heap.size (gnL p) w) := by
  obtain ⟨i0, hi, hz0, hz1, hz2⟩ := info_parts infoF
  obtain ⟨hp38, hpd⟩ := clAll p hp
  obtain ⟨hgs, hga, hfl, hfs⟩ := fld_small p.1 hp38
  have hk01 : p.2 ≠ 9 → lnK p.1 = 0 ∨ lnK p.1 = 1 := fun h => by
    have : ∀ q ∈ clTo 38, q.2 ≠ 9 → lnK q.1 = 0 ∨ lnK q.1 = 1 := by decide
    exact this p hp h
  have FD : Hid (p.2 ≠ 9 → ∀ W, Calls Tryd.prog 20 #[.agg #[.string (lnB p.1), .int .i64 (lnK p.1 : Int), .slice ta tn tc, .string (lnG p.1), .int .i64 (p.2 : Int)]] W fun e w' => e = .returned (.agg #[.int .i64 (gdP p).1, .int .i64 (gdP p).2]) ∧ Below W.heap.size W w') := Lib.hid fun h9 W => by
    have hd : p.2 = 2 ∨ p.2 = 3 := by omega
    unfold gdP
    rcases hk01 h9 with hk | hk <;> rcases hd with hd | hd <;> rw [hk, hd]
    · exact funcDeg02_any _ _ ta tn tc W
    · exact funcDeg03_any _ _ ta tn tc W
    · exact funcDeg12_any _ _ ta tn tc W
    · exact funcDeg13_any _ _ ta tn tc W
  have FL := Lib.hid (fun W (hW : TabN W) => Tryd.strings_Fields (lnG p.1) W (by omega) (fun j b h => hga b (List.mem_of_getElem? h)) hW)
  have HGT : Hid (∀ i, i < (fldL p.1).length → (gsL p.1).take (i + 1) = (gsL p.1).take i ++ [(txN (fgt (fldL p.1) i), rdB (fgt (fldL p.1) i))]) := Lib.hid fun i hi => gs_take hi
  have HGA : Hid ((gsL p.1).take (fldL p.1).length = gsL p.1) := Lib.hid (by unfold gsL; rw [List.take_of_length_le (by rw [List.length_map]; exact Nat.le_refl _)])
  have HGL : Hid (∀ i, i ≤ (fldL p.1).length → ((gsL p.1).take i).length = i) := Lib.hid fun i hi => by unfold gsL; rw [List.length_take, List.length_map]; omega
  have HPF : Hid (∀ i, i < (fldL p.1).length → ∀ W, Calls Tryd.prog 19 #[.string (fgt (fldL p.1) i)] W fun e w' => e = .returned (.tuple #[.agg #[.int .i64 (txN (fgt (fldL p.1) i)), .int .i64 (rdB (fgt (fldL p.1) i))], .int .i64 0]) ∧ Below W.heap.size W w') := Lib.hid fun i hi W => by
    have hm : fgt (fldL p.1) i ∈ fldL p.1 := by unfold fgt; rw [List.getElem?_eq_getElem hi]; exact List.getElem_mem hi
    obtain ⟨h1, h2⟩ := hfs _ hm
    have := implParseFunc_any (fgt (fldL p.1) i) (by omega) W
    rw [h1] at this
    exact this
  have HGN : Hid (gnL p = gsL p.1 ++ if p.2 = 9 then [] else [((gdP p).1, (gdP p).2)]) := Lib.hid rfl
  have hfe : Lib.fields (lnG p.1).data.toList = (Lib.fields (lnG p.1).data.toList) := rfl
  have hm : (Lib.fields (lnG p.1).data.toList).length = (fldL p.1).length := by unfold fldL; rw [List.length_map]
  have HCE : Hid (∀ i, i < (fldL p.1).length → (((Lib.fields (lnG p.1).data.toList).map fun l => Value.string ⟨l.toArray⟩).toArray)[i]? = some (.string (fgt (fldL p.1) i))) := Lib.hid fun i hi => by
    unfold fgt fldL at *
    rw [List.length_map] at hi
    rw [List.getElem?_toArray, List.getElem?_map, List.getElem?_map, List.getElem?_eq_getElem hi]
    rfl
  rw [hm] at FL
  generalize ((Lib.fields (lnG p.1).data.toList).map fun l => Value.string ⟨l.toArray⟩).toArray = fcs at FL HCE
  clear hga hfs hk01 hfe hm hgs
  obtain ⟨m, hml⟩ : ∃ m, (fldL p.1).length = m := ⟨_, rfl⟩
  rw [hml] at FL HGT HGA HGL HPF HCE hfl
  clear hml
  generalize gsL p.1 = gs at HGT HGA HGL HGN
  generalize gnL p = gn at HGN ⊢
  generalize (gdP p).1 = gd1 at FD HGN
  generalize (gdP p).2 = gd2 at FD HGN
  generalize lnB p.1 = b at FD ⊢
  generalize lnG p.1 = gg at FD FL ⊢
  generalize lnK p.1 = k at FD ⊢
  generalize p.2 = d at FD HGN hpd ⊢
  have hT0 := Lib.hid hT
  obtain ⟨W1, hW1⟩ : ∃ W1, w.alloc (.cells #[.string b, .int .i64 (k : Int), .slice ta tn tc, .string gg, .int .i64 (d : Int)] 34) = W1 := ⟨_, rfl⟩
  have B0 : Box5 w.heap.size (.string b) (.int .i64 (k : Int)) (.slice ta tn tc) (.string gg) (.int .i64 (d : Int)) W1 := by rw [← hW1]; exact Box5.new _ _ _ _ _ _ _
  have hB : Below w.heap.size w W1 := by rw [← hW1]; exact bnew _ _
  have hT1 := Lib.hid (hT0.out.below hB)
  have c3 := B0.c3
  go_enter Tryd.func11, Tryd.ntmps11
  go_wp2_with (go_at_call 18; refine (FL.out _ hT1.out).mono ?_; rintro e w2 ⟨rfl, hw2⟩)
  have hF : w2.heap[W1.heap.size]? = some (.cells fcs 9) := by rw [hw2]; exact World.alloc_heap_new W1 _
  have b2 : Below W1.heap.size W1 w2 := by rw [hw2]; exact bnew _ _
  obtain ⟨F, hFe⟩ : ∃ F, F = W1.heap.size := ⟨_, rfl⟩
  rw [← hFe] at hF ⊢
  have HF := Lib.hid hF
  have B2 := Lib.hid (B0.below b2)
  have hB2 := bthen hB b2
  try rw [← hw2]
  clear hW1 hw2 hFe hF c3 B0 b2
  have hlw : w.heap.size < w2.heap.size := cell_lt B2.out.c0
  go_loopw [3, 13] (fun sv i' wr => ∃ i : Nat, i ≤ m ∧ i' = .int .i64 i ∧ OwnsF wr w2.heap.size sv (gs.take i) ∧ Below w2.heap.size w2 wr) (fun _ i' _ => m - (intOf i').toNat)
  case atStart => exact ⟨0, Nat.zero_le _, rfl, World.ownsRow_nil _ _ _ _, Below.refl _ _⟩
  case round =>
    obtain ⟨i, him, rfl, hO, hN⟩ := hrel
    by_cases hlt : i < m
    · have hs : wr.cell? ⟨F, i, none⟩ = some (.string (fgt (fldL p.1) i)) := kc hN (cell_of_obj HF.out (HCE.out i hlt))
      have PF := Lib.hid (HPF.out i hlt)
      have HT := Lib.hid (HGT.out i hlt)
      have hl := HGL.out i him
      generalize fgt (fldL p.1) i = s at hs PF HT
      generalize txN s = tn1 at PF HT
      generalize rdB s = rb1 at PF HT
      have hO2 : wr.ownsRow w2.heap.size 40 2 u3 i (fcells (gs.take i)) := by
        have := hO
        unfold OwnsF at this
        rwa [hl] at this
      have HO := Lib.hid hO2
      have hsz := hN.size
      clear hO hO2
      go_wp2_with (first
        | (go_at_call 19; refine (PF.out _).mono ?_; rintro e w4 ⟨rfl, hb4⟩; have hO4 : World.ownsRow _ _ _ _ _ _ _ := owns_below HO.out hb4; have hN4 := bthen hN hb4; have hs4 := hN4.size)
        | (at_builtin; refine wpList_append_own _ rfl _ _ 22 rfl w2.heap.size 40 i0 (.agg #[.int .i64 0, .int .i64 0]) 2 16 Tryd.underlying22 hi hz0 hz1 hz2 rfl (by decide) _ _ _ rfl ((hO4.alloc _).alloc _) ⟨w4.heap.size + 1, 0, none⟩ 1 1 [.int .i64 tn1, .int .i64 rb1] rfl rfl (cell_two_new' _ (by simp) _ _ _) (one_cell_two _ _) (by unfold maxLen; omega) (by omega) (by simp; omega) ?_))
      intro v' w5 hO5 hg5 _
      have hN5 := (balloc (balloc hN4 (.cells #[.int .i64 tn1, .int .i64 rb1] 40)) (.cells #[.int .i64 tn1, .int .i64 rb1] 40)).grown hg5 (by simp; omega) (fun j e => (hO4.lt j e).1)
      have HO5 : Hid (OwnsF w5 w2.heap.size v' (gs.take (i + 1))) := Lib.hid (by
        rw [HT.out]
        refine OwnsF.snoc ?_
        rw [hl]; exact hO5)
      clear hO4 hO5 hg5 hN4 hs
      go_wp2
      go_roundw
      case rel => exact ⟨i + 1, by omega, by go_num, HO5.out, hN5⟩
      case measure => simp [intOf]; omega
    · obtain rfl : i = m := by omega
      have hl := HGL.out i him
      rw [HGA.out] at hO hl
      have BR := B2.out.below hN
      have c4 := BR.c4
      have hBR := bthen hB2 hN
      by_cases h9 : d = 9
      · rw [if_pos h9, List.append_nil] at HGN
        have hd : ((d : Int) != 9) = false := by simp [h9]
        have HO := Lib.hid hO
        clear hO BR
        go_wp2
        go_ret
        refine ⟨_, rfl, ?_, hBR⟩
        rw [HGN.out]
        exact row_mono HO.out (Nat.le_of_lt hlw)
      · rw [if_neg h9] at HGN
        have hd : ((d : Int) != 9) = true := by simp only [bne_iff_ne, ne_eq]; omega
        have c0 := BR.c0
        have c1 := BR.c1
        have c2 := BR.c2
        have c3 := BR.c3
        have FD2 := Lib.hid (FD.out h9)
        have hO2 : wr.ownsRow w2.heap.size 40 2 u3 i (fcells gs) := by
          have := hO
          unfold OwnsF at this
          rwa [hl] at this
        have HO := Lib.hid hO2
        have hsz := hN.size
        clear hO hO2 BR FD
        go_wp2_with (first
          | (go_at_call 20; refine (FD2.out _).mono ?_; rintro e w4 ⟨rfl, hb4⟩; have hO4 : World.ownsRow _ _ _ _ _ _ _ := owns_below HO.out hb4; have hN4 := bthen hN hb4; have hs4 := hN4.size)
          | (at_builtin; refine wpList_append_own _ rfl _ _ 22 rfl w2.heap.size 40 i0 (.agg #[.int .i64 0, .int .i64 0]) 2 16 Tryd.underlying22 hi hz0 hz1 hz2 rfl (by decide) _ _ _ rfl (hO4.alloc _) ⟨w4.heap.size, 0, none⟩ 1 1 [.int .i64 gd1, .int .i64 gd2] rfl rfl (cell_two_new _ _ _ _) (one_cell_two _ _) (by unfold maxLen; omega) (by omega) (by simp; omega) ?_))
        intro v' w5 hO5 hg5 _
        have hN5 := (balloc hN4 (.cells #[.int .i64 gd1, .int .i64 gd2] 40)).grown hg5 (by simp; omega) (fun j e => (hO4.lt j e).1)
        have HO5 : Hid (OwnsF w5 w2.heap.size v' (gs ++ [(gd1, gd2)])) := Lib.hid (by
          refine OwnsF.snoc ?_
          rw [hl]; exact hO5)
        have hBB := bthen hB2 hN5
        clear hO4 hO5 hg5 hN4 c0 c1 c2 c3 c4
        go_wp2
        go_ret
        refine ⟨_, rfl, ?_, hBB⟩
        rw [HGN.out]
        exact row_mono HO5.out (Nat.le_of_lt hlw)
end Go.Proofs.YthkmapflbopdpaaDoor

/- RE1:
  What is a relation, in both packages; the laws' small functions on relations. -/
namespace Go.Proofs.YthkmapflbopdpaaDoor
open Go.RowKit

/-- (n, b) is a relation. -/
def isR (n b : Int) : Bool := decide (1 ≤ n ∧ n ≤ 4 ∧ 0 ≤ b ∧ b ≤ allN n)
theorem isR_false {n b : Int} (h : ¬ (1 ≤ n ∧ n ≤ 4 ∧ 0 ≤ b ∧ b ≤ allN n)) : isR n b = false := by simp only [isR, decide_eq_false h]
theorem isR_iff {n b : Int} : isR n b = true ↔ (1 ≤ n ∧ n ≤ 4 ∧ 0 ≤ b ∧ b ≤ allN n) := by simp [isR]

/-- The numbers of a relation. -/
structure ROk (n : Int) (x R : Nat) : Prop extends FOk n x R where
  h1 : 1 ≤ n
theorem rok {n b : Int} (h : isR n b = true) : ∃ x R : Nat, b = (x : Int) ∧ ROk n x R := by
  obtain ⟨h1, h4, hb, ha⟩ := isR_iff.1 h
  obtain ⟨x, R, e, ok⟩ := fok (n := n) (b := b) (isF_true (by omega) h4 hb ha)
  exact ⟨x, R, e, { ok with h1 := h1 }⟩
theorem ROk.is {n : Int} {x R : Nat} (ok : ROk n x R) : isR n (x : Int) = true := by
  obtain ⟨_, _, hb, ha⟩ := isF_iff.1 ok.toFOk.is
  exact isR_iff.2 ⟨ok.h1, ok.h4, hb, ha⟩

end Go.Proofs.YthkmapflbopdpaaDoor

/- NM1:
  Functions put into a function by a tree of choices, as plain words: what lies in the tree's levels, the value at a place, all lists of a length. -/
namespace Go.Proofs.YthkmapflbopdpaaDoor

/-- b where g has the digit, else a. -/
def selN (a b g : Nat) : Nat := (a ^^^ (a &&& g)) ||| (b &&& g)
theorem selN_bit (a b g k : Nat) : (selN a b g).testBit k = if g.testBit k then b.testBit k else a.testBit k := by
  simp only [selN, Nat.testBit_or, Nat.testBit_xor, Nat.testBit_and]
  cases g.testBit k <;> cases a.testBit k <;> cases b.testBit k <;> rfl
theorem selN_lt {a b g T : Nat} (ha : a < 2 ^ T) (hb : b < 2 ^ T) : selN a b g < 2 ^ T := by
  have h1 : a &&& g < 2 ^ T := Nat.lt_of_le_of_lt Nat.and_le_left ha
  have h2 : b &&& g < 2 ^ T := Nat.lt_of_le_of_lt Nat.and_le_left hb
  exact Nat.or_lt_two_pow (Nat.xor_lt_two_pow ha h1) h2

/-- A level of the tree: v at the bottom, the functions of p put in, the first one lowest. -/
def levF (v : Nat → Nat) : List Nat → Nat → Nat
  | [], q => v q
  | g :: p, q => levF (fun q => selN (v (2 * q)) (v (2 * q + 1)) g) p q
theorem levF_snoc (v : Nat → Nat) (p : List Nat) (g q : Nat) : levF v (p ++ [g]) q = selN (levF v p (2 * q)) (levF v p (2 * q + 1)) g := by
  induction p generalizing v with
  | nil => rfl
  | cons a p ih => simp only [List.cons_append, levF, ih]
theorem levF_lt {v : Nat → Nat} {T : Nat} (hv : ∀ q, v q < 2 ^ T) (p : List Nat) (q : Nat) : levF v p q < 2 ^ T := by
  induction p generalizing v with
  | nil => exact hv q
  | cons a p ih => exact ih (fun q => selN_lt (hv _) (hv _))

/-- The row at place k of functions (of tuples) in order. -/
def rowP : List Nat → Nat → Nat
  | [], _ => 0
  | g :: p, k => (g.testBit k).toNat + 2 * rowP p k
theorem rowP_lt (p : List Nat) (k : Nat) : rowP p k < 2 ^ p.length := by
  induction p with
  | nil => simp [rowP]
  | cons g p ih => simp only [rowP, List.length_cons, Nat.pow_succ]; have : (g.testBit k).toNat ≤ 1 := by cases g.testBit k <;> decide
                   omega
theorem rowP_snoc (p : List Nat) (g k : Nat) : rowP (p ++ [g]) k = rowP p k + (g.testBit k).toNat * 2 ^ p.length := by
  induction p with
  | nil => simp [rowP]
  | cons a p ih => simp only [List.cons_append, rowP, ih, List.length_cons, Nat.pow_succ]; grind
theorem levF_bit (v : Nat → Nat) (p : List Nat) (q k : Nat) : (levF v p q).testBit k = (v (rowP p k + 2 ^ p.length * q)).testBit k := by
  induction p generalizing v with
  | nil => simp [levF, rowP]
  | cons g p ih =>
    simp only [levF, ih, selN_bit, rowP, List.length_cons]
    have e : (g.testBit k).toNat + 2 * rowP p k + 2 ^ (p.length + 1) * q = 2 * (rowP p k + 2 ^ p.length * q) + (g.testBit k).toNat := by rw [Nat.pow_succ]; grind
    rw [e]
    cases g.testBit k <;> simp

theorem bitN_testBit (x i : Nat) : bitN x i = (x.testBit i).toNat := by
  unfold bitN
  rw [Nat.testBit_eq_decide_div_mod_eq]
  have : x / 2 ^ i % 2 < 2 := Nat.mod_lt _ (by decide)
  by_cases h : x / 2 ^ i % 2 = 1
  · simp [h]
  · have h0 : x / 2 ^ i % 2 = 0 := by omega
    simp [h0]
theorem sumN_testBit (u : Nat → Nat) (hu : ∀ j, u j ≤ 1) (K k : Nat) : (sumN u K).testBit k = (decide (k < K) && (u k == 1)) := by
  induction K with
  | zero => simp [sumN]
  | succ K ih =>
    have hlt : sumN u K < 2 ^ K := sumN_lt u K (fun r _ => hu r)
    have e : sumN u (K + 1) = 2 ^ K * u K + sumN u K := by simp only [sumN, Nat.mul_comm]; omega
    rw [e, Nat.testBit_two_pow_mul_add _ hlt]
    by_cases h : k < K
    · have h1 : k < K + 1 := by omega
      rw [if_pos h, ih, decide_eq_true h, decide_eq_true h1]
    · rw [if_neg h]
      by_cases hk : k = K
      · subst hk
        rw [Nat.sub_self, decide_eq_true (Nat.lt_succ_self k), Bool.true_and]
        rcases (show u k = 0 ∨ u k = 1 by have := hu k; omega) with h0 | h0 <;> rw [h0] <;> decide
      · have h1 : ¬ k < K + 1 := by omega
        rw [decide_eq_false h1, Bool.false_and]
        exact Nat.testBit_lt_two_pow (Nat.lt_of_le_of_lt (hu K) (Nat.lt_of_lt_of_le (by decide : 1 < 2 ^ 1) (Nat.pow_le_pow_right (by decide) (by omega))))

/-- What f (with the Bits x) makes of the tuples p, at its first places. -/
def tupV (x : Nat) (p : List Nat) (places : Nat) : Nat := sumN (fun k => bitN x (rowP p k)) places
theorem tupV_lt (x : Nat) (p : List Nat) (places : Nat) : tupV x p places < 2 ^ places := sumN_lt _ _ (fun _ _ => bitN_le _ _)
theorem tupV_lev (x : Nat) (p : List Nat) (places : Nat) (hp : places ≤ 4) : levF (fun q => bitN x q * 15) p 0 &&& (2 ^ places - 1) = tupV x p places := by
  apply Nat.eq_of_testBit_eq
  intro k
  rw [tupV, sumN_testBit _ (fun _ => bitN_le _ _), Nat.testBit_and, levF_bit, Nat.testBit_two_pow_sub_one, Nat.mul_zero, Nat.add_zero]
  by_cases h : k < places
  · simp only [h, decide_true, Bool.and_true, Bool.true_and]
    have h4 : k = 0 ∨ k = 1 ∨ k = 2 ∨ k = 3 := by omega
    rcases (show bitN x (rowP p k) = 0 ∨ bitN x (rowP p k) = 1 by have := bitN_le x (rowP p k); omega) with e | e <;> rw [e] <;> rcases h4 with rfl | rfl | rfl | rfl <;> decide
  · simp [h]

/-- All lists of m numbers of a list, in lexicographic order. -/
def allP (g : List Nat) : Nat → List (List Nat)
  | 0 => [[]]
  | m + 1 => g.flatMap fun a => (allP g m).map (a :: ·)
theorem allP_mem {g : List Nat} {m : Nat} {p : List Nat} : p ∈ allP g m ↔ p.length = m ∧ ∀ a ∈ p, a ∈ g := by
  induction m generalizing p with
  | zero => simp only [allP, List.mem_singleton]; constructor
            · rintro rfl; simp
            · rintro ⟨h, _⟩; exact List.length_eq_zero_iff.1 h
  | succ m ih =>
    simp only [allP, List.mem_flatMap, List.mem_map]
    constructor
    · rintro ⟨a, ha, q, hq, rfl⟩
      obtain ⟨h1, h2⟩ := ih.1 hq
      exact ⟨by simp [h1], by simpa [ha] using h2⟩
    · rintro ⟨h1, h2⟩
      cases p with
      | nil => simp at h1
      | cons a q => exact ⟨a, h2 a (by simp), q, ih.2 ⟨by simpa using h1, fun b hb => h2 b (by simp [hb])⟩, rfl⟩
theorem allP_length (g : List Nat) (m : Nat) : (allP g m).length = g.length ^ m := by
  induction m with
  | zero => rfl
  | succ m ih => simp [allP, List.length_flatMap, ih, Nat.pow_succ, Nat.mul_comm, List.map_const', List.sum_replicate_nat]

/-- What is made behind the tuples b, m more to come. -/
def madeL (x places : Nat) (g b : List Nat) (m : Nat) : List Nat := (allP g m).map fun p => tupV x (b ++ p) places
theorem madeL_zero (x places : Nat) (g b : List Nat) : madeL x places g b 0 = [tupV x b places] := by simp [madeL, allP]
theorem madeL_succ (x places : Nat) (g b : List Nat) (m : Nat) : madeL x places g b (m + 1) = g.flatMap fun a => madeL x places g (b ++ [a]) m := by
  simp only [madeL, allP, List.map_flatMap, List.map_map]
  congr 1
  funext a
  congr 1
  funext p
  simp [Function.comp]
theorem madeL_lt {x places : Nat} {g b : List Nat} {m t : Nat} (h : t ∈ madeL x places g b m) : t < 2 ^ places := by
  simp only [madeL, List.mem_map] at h
  obtain ⟨p, _, rfl⟩ := h
  exact tupV_lt _ _ _

/-- Numbers as digits. -/
def orL (b : Nat) (l : List Nat) : Nat := l.foldl (fun o t => o ||| 2 ^ t) b
theorem orL_bit (b : Nat) (l : List Nat) (k : Nat) : (orL b l).testBit k = (b.testBit k || l.contains k) := by
  induction l generalizing b with
  | nil => simp [orL]
  | cons t l ih =>
    have : orL b (t :: l) = orL (b ||| 2 ^ t) l := rfl
    rw [this, ih, Nat.testBit_or, Nat.testBit_two_pow, List.contains_cons]
    by_cases h : t = k
    · subst h; simp
    · have h2 : (k == t) = false := by simp; omega
      simp [h, h2]
theorem orL_or (b : Nat) (l : List Nat) : orL b l = b ||| orL 0 l := by
  apply Nat.eq_of_testBit_eq
  intro k
  simp [orL_bit, Nat.testBit_or]
theorem orL_append (b : Nat) (l l' : List Nat) : orL b (l ++ l') = orL b l ||| orL 0 l' := by
  rw [← orL_or]; simp [orL]
theorem orL_lt {b : Nat} {l : List Nat} {R : Nat} (hb : b < 2 ^ R) (h : ∀ t ∈ l, t < R) : orL b l < 2 ^ R := by
  induction l generalizing b with
  | nil => exact hb
  | cons t l ih =>
    exact ih (Nat.or_lt_two_pow hb (Nat.pow_lt_pow_right (by decide) (h t (by simp)))) (fun u hu => h u (by simp [hu]))

/-- The tuples of a relation. -/
def tupsL (x k : Nat) : List Nat := (List.range k).filter fun t => bitN x t == 1
theorem tupsL_yes (x k : Nat) (h : bitN x k = 1) : tupsL x (k + 1) = tupsL x k ++ [k] := by simp [tupsL, List.range_succ, h]
theorem tupsL_no (x k : Nat) (h : bitN x k ≠ 1) : tupsL x (k + 1) = tupsL x k := by simp [tupsL, List.range_succ, h]
theorem tupsL_len (x k : Nat) : (tupsL x k).length ≤ k := Nat.le_trans (List.length_filter_le _ _) (by simp)
theorem tupsL_mem {x k t : Nat} : t ∈ tupsL x k ↔ t < k ∧ bitN x t = 1 := by simp [tupsL]

/-- f keeps the relation: all that is made is in it. -/
def keepsN (x y m places : Nat) : Bool := (madeL x places (tupsL y (2 ^ places)) [] m).all fun t => bitN y t == 1
theorem keepsN_or {x y m places : Nat} : ((orL 0 (madeL x places (tupsL y (2 ^ places)) [] m)) ^^^ (orL 0 (madeL x places (tupsL y (2 ^ places)) [] m) &&& y) == 0) = keepsN x y m places := by
  unfold keepsN
  generalize madeL x places (tupsL y (2 ^ places)) [] m = l
  rw [Bool.eq_iff_iff, beq_iff_eq, List.all_eq_true]
  constructor
  · intro h t ht
    have := congrArg (fun z => z.testBit t) h
    simp only [Nat.testBit_xor, Nat.testBit_and, orL_bit, Nat.zero_testBit, Bool.false_or] at this
    have hc : l.contains t = true := by simpa using ht
    rw [hc] at this
    rw [beq_iff_eq, bitN_testBit]
    cases hy : y.testBit t
    · rw [hy] at this; simp at this
    · rfl
  · intro h
    apply Nat.eq_of_testBit_eq
    intro t
    simp only [Nat.testBit_xor, Nat.testBit_and, orL_bit, Nat.zero_testBit, Bool.false_or]
    cases hc : l.contains t
    · rfl
    · have := h t (by simpa using hc)
      rw [beq_iff_eq, bitN_testBit] at this
      cases hy : y.testBit t
      · rw [hy] at this; cases this
      · rfl
end Go.Proofs.YthkmapflbopdpaaDoor

/- RE2:
  The tuples of a relation as a list in the model; CountTuples in both packages. -/
namespace Go.Proofs.YthkmapflbopdpaaDoor
open Go.RowKit
set_option linter.unusedVariables false
set_option linter.unusedSimpArgs false

theorem owns_len {W : World} {base : Nat} {s : Value} {xs : List Int} {m : Nat} (h : Owns W base s xs) (hx : xs.length = m) : ∃ a cap, s = .slice a m cap := by
  rcases h.shape with ⟨e, a, cap, rfl⟩ | ⟨hn, g, cap, rfl, _⟩
  · rw [e] at hx; simp at hx; subst hx; exact ⟨_, _, rfl⟩
  · rw [hx]; exact ⟨_, _, rfl⟩

/-- Natural numbers as a list of numbers. -/
def nI (l : List Nat) : List Int := l.map fun (j : Nat) => (j : Int)
theorem nI_snoc (l : List Nat) (a : Nat) : nI (l ++ [a]) = nI l ++ [(a : Int)] := by simp [nI]
theorem nI_length (l : List Nat) : (nI l).length = l.length := by simp [nI]
theorem nI_get (l : List Nat) (j : Nat) (h : j < l.length) : (nI l)[j]?.getD 0 = (l[j]?.getD 0 : Nat) := by simp [nI, h]

theorem tups_ones (x k : Nat) : (tupsL x k).length = ones x k := by
  induction k with
  | zero => rfl
  | succ k ih =>
    by_cases h : bitN x k = 1
    · rw [tupsL_yes x k h, List.length_append, ih]; simp [ones, h]
    · have h0 : bitN x k = 0 := by have := bitN_le x k; omega
      rw [tupsL_no x k h, ih]; simp [ones, h0]

end Go.Proofs.YthkmapflbopdpaaDoor
