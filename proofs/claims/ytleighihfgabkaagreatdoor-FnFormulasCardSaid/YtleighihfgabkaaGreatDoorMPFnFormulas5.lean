/-
  The texts M1, M2, N1, N2, N3, M4, O9, O10, O11, O12, O19 in one.
-/
import Derived.Test.YtleighihfgabkaaGreatDoorMPFnFormulas4
import Derived.Deep.SlicePairs

/- M1:
  Lists of functions (structs of two numbers) in memory, and the laws' small functions on them. -/
namespace Go.Proofs.YtleighihfgabkaaGreatDoor
open Go.RowKit

/-- The cells of a list of structs of two numbers. -/
def fcells : List (Int × Int) → List Value
  | [] => []
  | p :: xs => .int .i64 p.1 :: .int .i64 p.2 :: fcells xs
theorem fcells_length : ∀ xs, (fcells xs).length = xs.length * 2
  | [] => rfl
  | p :: xs => by simp only [fcells, List.length_cons, fcells_length xs]; omega
theorem fcells_append : ∀ xs ys, fcells (xs ++ ys) = fcells xs ++ fcells ys
  | [], _ => rfl
  | p :: xs, ys => by simp only [List.cons_append, fcells, fcells_append xs ys]
theorem fcells_snoc (xs : List (Int × Int)) (p : Int × Int) : fcells (xs ++ [p]) = fcells xs ++ [.int .i64 p.1, .int .i64 p.2] := fcells_append xs [p]
/-- The function at a place. -/
def fget (xs : List (Int × Int)) (j : Nat) : Int × Int := xs[j]?.getD (0, 0)
theorem fcells_get : ∀ (xs : List (Int × Int)) (j : Nat), j < xs.length → (fcells xs)[j * 2]? = some (.int .i64 (fget xs j).1) ∧ (fcells xs)[j * 2 + 1]? = some (.int .i64 (fget xs j).2)
  | [], j, h => by simp at h
  | p :: xs, 0, _ => ⟨rfl, rfl⟩
  | p :: xs, j + 1, h => by
    have := fcells_get xs j (by simpa using h)
    rw [show (j + 1) * 2 = j * 2 + 1 + 1 by omega]
    simpa [fcells, fget] using this
theorem fset (ys : List (Int × Int)) (vs : List Value) (i : Nat) (p : Int × Int) (hy : ys.length = i) (hv : i * 2 + 1 < vs.length) :
    ((fcells ys ++ vs.drop (i * 2)).set (i * 2) (.int .i64 p.1)).set (i * 2 + 1) (.int .i64 p.2) = fcells (ys ++ [p]) ++ vs.drop ((i + 1) * 2) := by
  have hl : (fcells ys).length = i * 2 := by rw [fcells_length, hy]
  rw [List.set_append_right _ _ (by omega), hl, Nat.sub_self, List.drop_eq_getElem_cons (by omega), List.set_cons_zero, List.set_append_right _ _ (by omega), hl,
    show i * 2 + 1 - i * 2 = 1 by omega, List.drop_eq_getElem_cons (by omega), List.set_cons_succ, List.set_cons_zero, fcells_snoc, List.append_assoc]
  simp [Nat.add_mul]
/-- The first j functions of a list, one more. -/
theorem ftake_snoc (zs : List (Int × Int)) (j : Nat) (h : j < zs.length) : zs.take (j + 1) = zs.take j ++ [fget zs j] := by
  rw [List.take_succ_eq_append_getElem h, fget, List.getElem?_eq_getElem h]; rfl
/-- The marks of a list of structs. -/
def fmarks (k : Int) (n : Nat) : List (Int × Int) := (List.range n).map fun (j : Nat) => (k + 2 * j, k + 2 * j + 1)
theorem fmarks_length (k : Int) (n : Nat) : (fmarks k n).length = n := by simp [fmarks]
theorem fmarks_succ (k : Int) (n : Nat) : fmarks k (n + 1) = fmarks k n ++ [(k + 2 * n, k + 2 * n + 1)] := by simp [fmarks, List.range_succ]
theorem fmarks_get (k : Int) (n j : Nat) (h : j < n) : fget (fmarks k n) j = (k + 2 * j, k + 2 * j + 1) := by simp [fmarks, fget, h]

theorem infoF : (Tryz.prog.info? 27).map (fun i => (i.zero, i.size, i.bytes)) = some (some (.agg #[.int .i64 0, .int .i64 0]), 2, 16) := by kernel_rfl

/-- s is a list of the call's own (from block base on) that holds the functions xs. -/
def OwnsF (W : World) (base : Nat) (s : Value) (xs : List (Int × Int)) : Prop := W.ownsRow base 27 2 s xs.length (fcells xs)
theorem OwnsF.below {W W' : World} {base : Nat} {s : Value} {xs : List (Int × Int)} (h : OwnsF W base s xs) (hb : Below W.heap.size W W') : OwnsF W' base s xs := by
  obtain ⟨h1, h2 | ⟨g, cap, cur, e1, e2, e3, r⟩⟩ := h
  · exact ⟨h1, .inl h2⟩
  · exact ⟨h1, .inr ⟨g, cap, cur, e1, e2, (hb.block g (Array.getElem?_eq_some_iff.1 e3).1).trans e3, r⟩⟩
theorem OwnsF.nil (W : World) (base : Nat) : OwnsF W base (.slice none 0 0) [] := World.ownsRow_nil _ _ _ _
theorem OwnsF.mono {W : World} {b1 b2 : Nat} {s : Value} {xs : List (Int × Int)} (h : OwnsF W b1 s xs) (hb : b2 ≤ b1) : OwnsF W b2 s xs := by
  obtain ⟨h1, h2 | ⟨g, cap, cur, e1, e2, e3, r⟩⟩ := h
  · exact ⟨h1, .inl h2⟩
  · exact ⟨h1, .inr ⟨g, cap, cur, e1, Nat.le_trans hb e2, e3, r⟩⟩
theorem OwnsF.lt {W : World} {b : Nat} {s : Value} {xs : List (Int × Int)} (h : OwnsF W b s xs) : ∀ k, s.ownBlock = some k → k < W.heap.size := fun k hk => (World.ownsRow.lt h k hk).2
theorem OwnsF.ge {W : World} {b : Nat} {s : Value} {xs : List (Int × Int)} (h : OwnsF W b s xs) : ∀ k, s.ownBlock = some k → b ≤ k := fun k hk => (World.ownsRow.lt h k hk).1
theorem OwnsF.keep {W W' : World} {b : Nat} {s : Value} {xs : List (Int × Int)} {row : Option Nat} (h : OwnsF W b s xs) (hg : W.grownBy W' row) (hne : ∀ k, s.ownBlock = some k → some k ≠ row) : OwnsF W' b s xs := by
  refine World.ownsRow.kept h hg ?_
  cases hs : s.ownBlock with
  | none => exact .inl rfl
  | some k => exact .inr (hne k hs)

theorem OwnsF.shape {W : World} {base : Nat} {s : Value} {xs : List (Int × Int)} (h : OwnsF W base s xs) :
    (xs = [] ∧ ∃ a cap, s = .slice a 0 cap) ∨ (0 < xs.length ∧ ∃ g cap, s = .slice (some ⟨g, 0, none⟩) xs.length cap ∧ base ≤ g ∧ g < W.heap.size ∧ Hid (∀ j, j < xs.length → W.cell? ⟨g, j * 2, none⟩ = some (.int .i64 (fget xs j).1) ∧ W.cell? ⟨g, j * 2 + 1, none⟩ = some (.int .i64 (fget xs j).2)) ∧ Hid (∀ j, W.frozen? ⟨g, j, none⟩ = false)) := by
  cases xs with
  | nil =>
    refine .inl ⟨rfl, ?_⟩
    obtain ⟨_, ⟨rfl, _⟩ | ⟨g, cap, cur, rfl, _⟩⟩ := h
    · exact ⟨_, _, rfl⟩
    · exact ⟨_, _, rfl⟩
  | cons x xs =>
    refine .inr ⟨by simp, ?_⟩
    obtain ⟨g, cap, rfl⟩ := ownsRow_succ (k := xs.length) h
    have hl := World.ownsRow.lt h g rfl
    refine ⟨g, cap, rfl, hl.1, hl.2, fun j hj => ?_, fun j => World.ownsRow.frozenAt h j⟩
    obtain ⟨h0, h1⟩ := fcells_get (x :: xs) j hj
    have hj' : j < xs.length + 1 := by simpa using hj
    rw [World.ownsRow.cellAt h (j * 2) (by omega), World.ownsRow.cellAt h (j * 2 + 1) (by omega)]
    exact ⟨h0, h1⟩

theorem hold4 {W w' w : World} {a b c d : Addr} {u v y z : Value} (hb : Below W.heap.size W w') (h : ((W.cell? a = some u ∧ W.cell? b = some v) ∧ (W.cell? c = some y ∧ W.cell? d = some z)) ∧ Below w.heap.size w W) :
    ((w'.cell? a = some u ∧ w'.cell? b = some v) ∧ (w'.cell? c = some y ∧ w'.cell? d = some z)) ∧ Below w.heap.size w w' := ⟨⟨⟨kc hb h.1.1.1, kc hb h.1.1.2⟩, kc hb h.1.2.1, kc hb h.1.2.2⟩, bthen h.2 hb⟩

end Go.Proofs.YtleighihfgabkaaGreatDoor

/- M2:
  A list of functions that came in, copied. -/
namespace Go.Proofs.YtleighihfgabkaaGreatDoor
open Go.RowKit

/-- A slice of structs of two numbers that came in: its numbers are zs. -/
def IsRowF (w : World) (a : Option Addr) (len : Nat) (zs : List (Int × Int)) : Prop :=
  zs.length = len ∧ len ≤ 9223372036854775807 ∧ (len = 0 ∨ ∃ b off, a = some ⟨b, off, none⟩ ∧ b < w.heap.size ∧ Hid (∀ j, j < len → w.cell? ⟨b, off + j * 2, none⟩ = some (.int .i64 (fget zs j).1) ∧ w.cell? ⟨b, off + j * 2 + 1, none⟩ = some (.int .i64 (fget zs j).2)))

/-- A post with 'there is a list of functions'. -/
def FListPost (base : Nat) (xs : List (Int × Int)) (w : World) (e : Ending) (w' : World) : Prop := ∃ s, e = .returned s ∧ OwnsF w' base s xs ∧ Below w.heap.size w w'
def FListCodePost (base : Nat) (xs : List (Int × Int)) (c : Int) (w : World) (e : Ending) (w' : World) : Prop := ∃ s, e = .returned (.tuple #[s, .int .i64 c]) ∧ OwnsF w' base s xs ∧ Below w.heap.size w w'

/-- From what is told of a slice of structs at each place. -/
theorem isRowF_mk {w : World} {x : Addr} {len : Nat} (hl : len ≤ 9223372036854775807) (h : ∀ i, i < len → ∃ q : Int × Int, w.cell? (x.add (i * 2)) = some (.int .i64 q.1) ∧ w.cell? (x.add (i * 2 + 1)) = some (.int .i64 q.2)) : ∃ zs, IsRowF w (some x) len zs := by
  obtain ⟨q, hq⟩ := Go.Deep.choose_lt h
  refine ⟨(List.range len).map q, by simp, hl, ?_⟩
  by_cases h0 : len = 0
  · exact .inl h0
  · obtain ⟨b, off, spot⟩ := x
    have hc0 := (hq 0 (by omega)).1
    have hs : spot = none := by simpa [Addr.add] using World.cell?_spot hc0
    subst hs
    have hb : b < w.heap.size := cell_lt (a := ⟨b, off, none⟩) (by simpa [Addr.add] using hc0)
    refine .inr ⟨b, off, rfl, hb, Lib.hid fun j hj => ?_⟩
    have e : ∀ k, Addr.add ⟨b, off, none⟩ k = ⟨b, off + k, none⟩ := fun k => by cases k <;> simp [Addr.add]
    obtain ⟨h1, h2⟩ := hq j hj
    rw [e] at h1 h2
    have hg : fget ((List.range len).map q) j = q j := by simp [fget, hj]
    rw [hg]
    exact ⟨h1, h2⟩
end Go.Proofs.YtleighihfgabkaaGreatDoor

/- N1:
  Lists of functions: are they functions (both packages). -/
namespace Go.Proofs.YtleighihfgabkaaGreatDoor
open Go.RowKit

/-- The functions below j of a list are functions. -/
def allTo (xs : List (Int × Int)) (j : Nat) : Bool := allLt j fun i => isF (fget xs i).1 (fget xs i).2
theorem allTo_succ (xs : List (Int × Int)) (j : Nat) : allTo xs (j + 1) = (allTo xs j && isF (fget xs j).1 (fget xs j).2) := allLt_succ _ _
theorem allTo_false {xs : List (Int × Int)} {k m : Nat} (hk : k < m) (h : isF (fget xs k).1 (fget xs k).2 = false) : allTo xs m = false := by
  cases hc : allTo xs m
  · rfl
  · have := allLt_iff.1 hc k hk
    rw [h] at this
    cases this
theorem allTo_get {xs : List (Int × Int)} {m : Nat} (h : allTo xs m = true) (k : Nat) (hk : k < m) : isF (fget xs k).1 (fget xs k).2 = true := allLt_iff.1 h k hk

/-- A list's shape, whatever its length. -/
theorem OwnsF.cells {W : World} {base : Nat} {s : Value} {xs : List (Int × Int)} (h : OwnsF W base s xs) :
    ∃ a cap, s = .slice a xs.length cap ∧ (xs.length = 0 ∨ ∃ g, a = some ⟨g, 0, none⟩ ∧ g < W.heap.size ∧ Hid (∀ j, j < xs.length → W.cell? ⟨g, j * 2, none⟩ = some (.int .i64 (fget xs j).1) ∧ W.cell? ⟨g, j * 2 + 1, none⟩ = some (.int .i64 (fget xs j).2))) := by
  rcases h.shape with ⟨rfl, a, cap, rfl⟩ | ⟨hn, g, cap, rfl, hbg, hg, hc, hf⟩
  · exact ⟨a, cap, rfl, .inl rfl⟩
  · exact ⟨_, cap, rfl, .inr ⟨g, rfl, hg, hc⟩⟩

set_option maxRecDepth 100000 in
set_option maxHeartbeats 2000000 in
theorem areFuncs_any {base : Nat} {s : Value} {xs : List (Int × Int)} (hl : xs.length ≤ 1048576) (w : World) (h : OwnsF w base s xs) {b : Bool} (hb : allTo xs xs.length = b) :
    Calls Tryz.prog 67 #[s] w fun e w' => e = .returned (.bool b) ∧ Below w.heap.size w w' := by
  obtain ⟨a, cap, rfl, hrow⟩ := h.cells
  have HROW := Lib.hid hrow
  have HBB := Lib.hid hb
  clear h hrow hb
  generalize hL : xs.length = L at hl HROW HBB ⊢
  clear hL
  go_enter Tryz.func67, Tryz.ntmps67
  go_wp2
  go_loopw [7] (fun i' wr => ∃ i : Nat, i ≤ L ∧ i' = .int .i64 i ∧ Hid (allTo xs i = true) ∧ Below w.heap.size w wr) (fun i' _ => L - (intOf i').toNat)
  case atStart => exact ⟨0, Nat.zero_le _, rfl, Lib.hid rfl, Below.refl _ _⟩
  case round =>
    obtain ⟨i, hi, rfl, hm, hB⟩ := hrel
    by_cases hlt : i < L
    · obtain ⟨g, rfl, hg, hc⟩ : ∃ g, a = some ⟨g, 0, none⟩ ∧ g < w.heap.size ∧ Hid (∀ j, j < L → w.cell? ⟨g, j * 2, none⟩ = some (.int .i64 (fget xs j).1) ∧ w.cell? ⟨g, j * 2 + 1, none⟩ = some (.int .i64 (fget xs j).2)) := by
        rcases HROW.out with h0 | h1
        · omega
        · exact h1
      obtain ⟨c0, c1⟩ := hc.out i hlt
      have d0 := (hB.cell (p := ⟨g, i * 2, none⟩) hg).trans c0
      have d1 := (hB.cell (p := ⟨g, i * 2 + 1, none⟩) hg).trans c1
      clear c0 c1
      cases hf : isF (fget xs i).1 (fget xs i).2
      · obtain rfl : b = false := HBB.out.symm.trans (allTo_false hlt hf)
        go_wp2_with (go_at_call 34; refine (IsFunc_is hf _).mono ?_; rintro e w2 ⟨rfl, hb2⟩)
        go_ret
        exact ⟨rfl, bthen hB (bthen (bnew _ _) hb2)⟩
      · have HM := Lib.hid (show allTo xs (i + 1) = true by rw [allTo_succ, hm.out, hf]; rfl)
        go_wp2_with (go_at_call 34; refine (IsFunc_is hf _).mono ?_; rintro e w2 ⟨rfl, hb2⟩)
        go_roundw
        case rel => exact ⟨i + 1, by omega, by go_num, HM, bthen hB (bthen (bnew _ _) hb2)⟩
        case measure => simp [intOf]; omega
    · obtain rfl : i = L := by omega
      obtain rfl : b = true := HBB.out.symm.trans hm.out
      go_wp2
      go_ret
      exact ⟨rfl, hB⟩

/-- The code of a list. -/
def codeA (b : Bool) : Int := if b then 0 else 1

end Go.Proofs.YtleighihfgabkaaGreatDoor

/- N2:
  The closures of PutFuncs; haveOneArity. -/
namespace Go.Proofs.YtleighihfgabkaaGreatDoor
open Go.RowKit
set_option linter.unusedVariables false

theorem hold3 {W w' w : World} {a b c d : Addr} {u v y z : Value} (hb : Below W.heap.size W w') (h : ((W.cell? a = some u ∧ W.cell? b = some v) ∧ (W.cell? c = some y ∧ W.cell? d = some z)) ∧ Below w.heap.size w W) :
    ((w'.cell? a = some u ∧ w'.cell? b = some v) ∧ (w'.cell? c = some y ∧ w'.cell? d = some z)) ∧ Below w.heap.size w w' := ⟨⟨⟨kc hb h.1.1.1, kc hb h.1.1.2⟩, kc hb h.1.2.1, kc hb h.1.2.2⟩, bthen h.2 hb⟩

set_option maxRecDepth 100000 in
set_option maxHeartbeats 1000000 in
theorem PutFuncs2_any (bl br g cap L i r : Nat) (p : Int × Int) (y : Nat) (hp : p.2 = (y : Int)) (hy : y < 2 ^ 62) (hr : r < 62) (hi : i < L) (hL : L ≤ 1048576) (w : World) (hcl : w.cell? ⟨bl, 0, none⟩ = some (.slice (some ⟨g, 0, none⟩) L cap)) (hcr : w.cell? ⟨br, 0, none⟩ = some (.int .i64 (r : Int)))
    (h0 : w.cell? ⟨g, i * 2, none⟩ = some (.int .i64 p.1)) (h1 : w.cell? ⟨g, i * 2 + 1, none⟩ = some (.int .i64 p.2)) :
    Calls Tryz.prog 71 #[.int .i64 (i : Int), .pointer (some ⟨bl, 0, none⟩), .pointer (some ⟨br, 0, none⟩)] w fun e w' => e = .returned (.int .i64 (bitN y r : Int)) ∧ Below w.heap.size w w' := by
  rw [hp] at h1
  have V := Lib.hid (valueInRow_any p.1 y r hy hr)
  clear hp
  have i0 : (0 : Int) ≤ (i : Int) := by omega
  have i1 : ((i : Int) < (L : Int)) := by omega
  go_enter Tryz.func71, Tryz.ntmps71
  go_wp2_with fail
  go_region_held3 (fun w' => ((w'.cell? ⟨bl, 0, none⟩ = some (.slice (some ⟨g, 0, none⟩) L cap) ∧ w'.cell? ⟨br, 0, none⟩ = some (.int .i64 (r : Int))) ∧ (w'.cell? ⟨g, i * 2, none⟩ = some (.int .i64 p.1) ∧ w'.cell? ⟨g, i * 2 + 1, none⟩ = some (.int .i64 (y : Int)))) ∧ Below w.heap.size w w') (first | exact ⟨⟨⟨hcl, hcr⟩, h0, h1⟩, (Below.refl _ _).drew⟩ | exact hold3 hb1 (by assumption))
    (first
      | (go_at_call 57; refine (V.out _).mono ?_; rintro e w' ⟨rfl, hb1⟩))
  go_wp2
  go_ret
  exact ⟨rfl, (‹(_ ∧ _) ∧ Below _ _ _›).2⟩

/-- Where the values of the functions of a list lie. -/
def putRow (xs : List (Int × Int)) (m r : Nat) : Nat := sumN (fun i => bitN (fget xs i).2.toNat r) m
/-- The function that is made by putting functions into a function. -/
def putN (xs : List (Int × Int)) (m x r : Nat) : Nat := bitN x (putRow xs m r)
theorem putRow_lt (xs : List (Int × Int)) (m r : Nat) (hm : m ≤ 4) : putRow xs m r < 16 := by
  have h1 := sumN_lt (fun i => bitN (fget xs i).2.toNat r) m (fun i _ => bitN_le _ _)
  have h2 : (2 : Nat) ^ m ≤ 2 ^ 4 := Nat.pow_le_pow_right (by decide) hm
  unfold putRow
  omega
theorem fok_nat {p : Int × Int} (h : isF p.1 p.2 = true) : p.2 = (p.2.toNat : Int) ∧ p.2.toNat < 2 ^ 62 := by
  obtain ⟨x, R, e, ok⟩ := fok h
  have := ok.hx
  rw [e]
  simp
  omega

set_option maxRecDepth 100000 in
set_option maxHeartbeats 1000000 in
theorem PutFuncs1_any (bf bl r g cap m x R : Nat) (xs : List (Int × Int)) (ok : FOk (m : Int) x R) (hr : r < 62) (hm : m ≤ 4) (hx : ∀ i, i < m → isF (fget xs i).1 (fget xs i).2 = true) (w : World) (hf : FBox bf (m : Int) x w) (hcl : w.cell? ⟨bl, 0, none⟩ = some (.slice (some ⟨g, 0, none⟩) m cap))
    (hci : ∀ i, i < m → w.cell? ⟨g, i * 2, none⟩ = some (.int .i64 (fget xs i).1) ∧ w.cell? ⟨g, i * 2 + 1, none⟩ = some (.int .i64 (fget xs i).2)) :
    Calls Tryz.prog 69 #[.int .i64 (r : Int), .pointer (some ⟨bf, 0, none⟩), .pointer (some ⟨bl, 0, none⟩)] w fun e w' => e = .returned (.int .i64 (putN xs m x r : Int)) ∧ Below w.heap.size w w' := by
  have hx2 := ok.hx
  have hrow := putRow_lt xs m r hm
  obtain ⟨c0, c1⟩ := hf
  obtain ⟨W1, hW1⟩ : ∃ W1, w.alloc (.cells #[.int .i64 (r : Int)] 2) = W1 := ⟨_, rfl⟩
  have cr : W1.cell? ⟨w.heap.size, 0, none⟩ = some (.int .i64 (r : Int)) := by rw [← hW1]; simp [go_sem]
  have hB : Below w.heap.size w W1 := by rw [← hW1]; exact bnew _ _
  have RW := Lib.hid (fun W (hW : Below W1.heap.size W1 W) => rowWith_any m hm 71 #[.pointer (some ⟨bl, 0, none⟩), .pointer (some ⟨w.heap.size, 0, none⟩)] (enters_of Tryz.func71 (by kernel_rfl) rfl)
    (fun i => bitN (fget xs i).2.toNat r) (fun i _ => bitN_le _ _) W (Lib.hid fun W' hW' i hi => PutFuncs2_any bl w.heap.size g cap m i r (fget xs i) _ (fok_nat (hx i hi)).1 (fok_nat (hx i hi)).2 hr hi (by omega) W' (kc hW' (kc hW (kc hB hcl))) (kc hW' (kc hW cr)) (kc hW' (kc hW (kc hB (hci i hi).1))) (kc hW' (kc hW (kc hB (hci i hi).2)))))
  have d0 := kc hB c0
  have d1 := kc hB c1
  clear c0 c1 hci hcl hx
  go_enter Tryz.func69, Tryz.ntmps69
  go_wp2_with fail
  clear hW1
  go_region_held3 (fun w' => (w'.cell? ⟨bf, 0, none⟩ = some (.int .i64 (m : Int)) ∧ w'.cell? ⟨bf, 1, none⟩ = some (.int .i64 (x : Int))) ∧ Below W1.heap.size W1 w') (first | exact ⟨⟨d0, d1⟩, (Below.refl _ _).drew⟩ | exact step_heldW hb5 (by assumption))
    (first
      | (go_at_call 70; refine (RW.out _ (‹(_ ∧ _) ∧ Below W1.heap.size W1 _›).2).mono ?_; rintro e w5 ⟨rfl, hb5⟩)
      | (go_at_call 57; refine (valueInRow_any _ x (putRow xs m r) hx2 (by omega) _).mono ?_; rintro e w5 ⟨rfl, hb5⟩))
  have hB3 := bthen hB (‹(_ ∧ _) ∧ Below W1.heap.size W1 _›).2
  go_wp2
  go_ret
  exact ⟨rfl, hB3⟩

/-- The functions below j have the arity of the first one. -/
def oneTo (xs : List (Int × Int)) (j : Nat) : Bool := allLt j fun i => (fget xs i).1 == (fget xs 0).1
theorem oneTo_succ (xs : List (Int × Int)) (j : Nat) : oneTo xs (j + 1) = (oneTo xs j && (fget xs j).1 == (fget xs 0).1) := allLt_succ _ _
theorem oneTo_false {xs : List (Int × Int)} {k m : Nat} (hk : k < m) (h : ((fget xs k).1 == (fget xs 0).1) = false) : oneTo xs m = false := by
  cases hc : oneTo xs m
  · rfl
  · have := allLt_iff.1 hc k hk
    rw [h] at this
    cases this

set_option maxRecDepth 100000 in
set_option maxHeartbeats 2000000 in
theorem haveOneArity_any {base : Nat} {s : Value} {xs : List (Int × Int)} (hl : xs.length ≤ 1048576) (w : World) (h : OwnsF w base s xs) {b : Bool} (hb : oneTo xs xs.length = b) :
    Calls Tryz.prog 68 #[s] w fun e w' => e = .returned (.bool b) ∧ Below w.heap.size w w' := by
  obtain ⟨a, cap, rfl, hrow⟩ := h.cells
  have HROW := Lib.hid hrow
  have HBB := Lib.hid hb
  clear h hrow hb
  generalize hL : xs.length = L at hl HROW HBB ⊢
  clear hL
  go_enter Tryz.func68, Tryz.ntmps68
  go_wp2
  go_loopw [7] (fun i' wr => ∃ i : Nat, i ≤ L ∧ i' = .int .i64 i ∧ Hid (oneTo xs i = true) ∧ Below w.heap.size w wr) (fun i' _ => L - (intOf i').toNat)
  case atStart => exact ⟨0, Nat.zero_le _, rfl, Lib.hid rfl, Below.refl _ _⟩
  case round =>
    obtain ⟨i, hi, rfl, hm, hB⟩ := hrel
    by_cases hlt : i < L
    · obtain ⟨g, rfl, hg, hc⟩ : ∃ g, a = some ⟨g, 0, none⟩ ∧ g < w.heap.size ∧ Hid (∀ j, j < L → w.cell? ⟨g, j * 2, none⟩ = some (.int .i64 (fget xs j).1) ∧ w.cell? ⟨g, j * 2 + 1, none⟩ = some (.int .i64 (fget xs j).2)) := by
        rcases HROW.out with h0 | h1
        · omega
        · exact h1
      obtain ⟨c0, c1⟩ := hc.out i hlt
      obtain ⟨z0, _⟩ := hc.out 0 (by omega)
      have d0 := (hB.cell (p := ⟨g, i * 2, none⟩) hg).trans c0
      have d1 := (hB.cell (p := ⟨g, i * 2 + 1, none⟩) hg).trans c1
      have dz := (hB.cell (p := ⟨g, 0 * 2, none⟩) hg).trans z0
      have hs := hB.size
      have hgl : g < wr.heap.size := by omega
      simp only [Nat.zero_mul] at dz
      clear c0 c1 z0
      have i0 : (0 : Int) < (L : Int) := by omega
      obtain ⟨W2, hW2⟩ : ∃ W2, wr.alloc (.cells #[.int .i64 (fget xs i).1, .int .i64 (fget xs i).2] 27) = W2 := ⟨_, rfl⟩
      have p0 : W2.cell? ⟨wr.heap.size, 0, none⟩ = some (.int .i64 (fget xs i).1) := by rw [← hW2]; simp [go_sem]
      have hb2 : Below wr.heap.size wr W2 := by rw [← hW2]; exact bnew _ _
      have ez := kc hb2 dz
      cases hf : (fget xs i).1 == (fget xs 0).1
      · have hne : ((fget xs i).1 != (fget xs 0).1) = true := by simp [bne, hf]
        obtain rfl : b = false := HBB.out.symm.trans (oneTo_false hlt hf)
        clear hf
        go_wp2
        clear hW2
        go_quiet (fail)
        go_wp2
        go_ret
        exact ⟨rfl, below_drewN (bthen hB hb2) _⟩
      · have hne : ((fget xs i).1 != (fget xs 0).1) = false := by simp [bne, hf]
        have HM := Lib.hid (show oneTo xs (i + 1) = true by rw [oneTo_succ, hm.out, hf]; rfl)
        clear hf
        go_wp2
        clear hW2
        go_quiet (fail)
        go_wp2
        go_roundw
        case rel => exact ⟨i + 1, by omega, by go_num, HM, below_drewN (bthen hB hb2) _⟩
        case measure => simp [intOf]; omega
    · obtain rfl : i = L := by omega
      obtain rfl : b = true := HBB.out.symm.trans hm.out
      go_wp2
      go_ret
      exact ⟨rfl, hB⟩
end Go.Proofs.YtleighihfgabkaaGreatDoor

/- N3:
  l01Put of the model. -/
namespace Go.Proofs.YtleighihfgabkaaGreatDoor
open Go.RowKit
set_option linter.unusedVariables false

theorem l01At_p {p : Int × Int} (h : isF p.1 p.2 = true) (r : Nat) (hr : r < 62) (w : World) :
    Calls Tryz.prog 132 #[.agg #[.int .i64 p.1, .int .i64 p.2], .int .i64 (r : Int)] w fun e w' => e = .returned (.int .i64 (bitN p.2.toNat r : Int)) ∧ Below w.heap.size w w' := by
  obtain ⟨e, hx⟩ := fok_nat h
  have := l01At_any p.1 p.2.toNat r hx hr w
  rwa [← e] at this

set_option maxRecDepth 100000 in
set_option maxHeartbeats 4000000 in
theorem l01Put_any {m x R : Nat} (ok : FOk (m : Int) x R) (hm1 : 1 ≤ m) (hm : m ≤ 4) {base : Nat} {s : Value} {xs : List (Int × Int)} (hl : xs.length = m) (hx : ∀ i, i < m → isF (fget xs i).1 (fget xs i).2 = true) {y R1 : Nat} (ok1 : FOk (fget xs 0).1 y R1) (w : World) (h : OwnsF w base s xs) :
    Calls Tryz.prog 96 #[.agg #[.int .i64 (m : Int), .int .i64 (x : Int)], s] w fun e w' => e = .returned (.agg #[.int .i64 (fget xs 0).1, .int .i64 (sumN (putN xs m x) R1 : Int)]) ∧ Below w.heap.size w w' := by
  obtain ⟨i0, hinf, hz0, hz1, hz2⟩ := info_parts infoI
  have r0 := ok1.r0
  have r16 := ok1.r16
  obtain ⟨a, cap, hs, hrow⟩ := h.cells
  rw [hl] at hs hrow
  subst hs
  obtain ⟨g, rfl, hg, hc⟩ : ∃ g, a = some ⟨g, 0, none⟩ ∧ g < w.heap.size ∧ Hid (∀ j, j < m → w.cell? ⟨g, j * 2, none⟩ = some (.int .i64 (fget xs j).1) ∧ w.cell? ⟨g, j * 2 + 1, none⟩ = some (.int .i64 (fget xs j).2)) := by
    rcases hrow with h0 | h1
    · omega
    · exact h1
  have HX := Lib.hid hx
  clear h hl hx hrow
  obtain ⟨W1, hW1⟩ : ∃ W1, (w.alloc (.cells #[.int .i64 (m : Int), .int .i64 (x : Int)] 27)).alloc (.cells #[.int .i64 0, .int .i64 0] 27) = W1 := ⟨_, rfl⟩
  have p0 : W1.cell? ⟨w.heap.size, 0, none⟩ = some (.int .i64 (m : Int)) := by rw [← hW1]; simp [go_sem]
  have p1 : W1.cell? ⟨w.heap.size, 1, none⟩ = some (.int .i64 (x : Int)) := by rw [← hW1]; simp [go_sem]
  have c0 : W1.cell? ⟨w.heap.size + 1, 0, none⟩ = some (.int .i64 0) := by rw [← hW1]; simp [go_sem]
  have c1 : W1.cell? ⟨w.heap.size + 1, 1, none⟩ = some (.int .i64 0) := by rw [← hW1]; simp [go_sem]
  have f0 : W1.frozen? ⟨w.heap.size + 1, 0, none⟩ = false := by rw [← hW1]; simp [go_sem]
  have f1 : W1.frozen? ⟨w.heap.size + 1, 1, none⟩ = false := by rw [← hW1]; simp [go_sem]
  have hB : Below w.heap.size w W1 := by rw [← hW1]; exact balloc (bnew _ _) _
  have l0 : w.heap.size < W1.heap.size := cell_lt p0
  have l1 : w.heap.size + 1 < W1.heap.size := cell_lt c0
  have HC := Lib.hid (fun j (hj : j < m) => And.intro (kc hB (hc.out j hj).1) (kc hB (hc.out j hj).2))
  have z0 := (HC.out 0 (by omega)).1
  simp only [Nat.zero_mul] at z0
  have i0' : (0 : Int) < (m : Int) := by omega
  clear hc
  go_enter Tryz.func96, Tryz.ntmps96
  go_wp2
  clear hW1 z0
  go_loopw [6, 7] (fun s i' wr => ∃ k : Nat, k ≤ R1 ∧ i' = .int .i64 k ∧ wr.ownsRow W1.heap.size 2 1 s k (valsN (putN xs m x) k) ∧ Below W1.heap.size W1 wr)
    (fun _ i' _ => R1 - (intOf i').toNat)
  case atStart => exact ⟨0, Nat.zero_le _, rfl, World.ownsRow_lit W1 #[] 0 (Nat.le_refl _) (by decide) rfl, bnew _ _⟩
  case round =>
    obtain ⟨k, hk, rfl, hown, hN⟩ := hrel
    obtain ⟨wo, rfl⟩ : ∃ wo : World, wo = wr := ⟨_, rfl⟩
    by_cases hlt : k < R1
    · have hdk : decide ((k : Int) < (R1 : Int)) = true := by simp; omega
      have HS := Lib.hid (valsN_succ (putN xs m x) k)
      go_wp2_with (go_at_call 107; refine (l01Rows_is ok1.h0 ok1.h4 ok1.hR _).mono ?_; rintro e w' ⟨rfl, rfl⟩)
      clear hdk
      go_loopw [8, 9] (fun r' i' wr => ∃ i : Nat, i ≤ m ∧ i' = .int .i64 i ∧ r' = .int .i64 (putRow xs i k : Int) ∧ wr.ownsRow W1.heap.size 2 1 u6 k (valsN (putN xs m x) k) ∧ Below W1.heap.size W1 wr) (fun _ i' _ => m - (intOf i').toNat)
      case atStart => exact ⟨0, Nat.zero_le _, rfl, rfl, hown, hN⟩
      case round =>
        clear hown hN
        obtain ⟨i, hi, rfl, rfl, hown, hN⟩ := hrel
        have hsz := hN.size
        by_cases hlti : i < m
        · obtain ⟨e0, e1⟩ := HC.out i hlti
          have d0 := kc hN e0
          have d1 := kc hN e1
          have HF : Hid (wrap64 ((putRow xs i k : Int) + wrap64 ((bitN (fget xs i).2.toNat k : Int) * 2 ^ i)) = (putRow xs (i + 1) k : Int)) := Lib.hid (sum_fin' (fun i => bitN (fget xs i).2.toNat k) i (by omega) (fun r _ => bitN_le _ _))
          have hb1 := bitN_le (fget xs i).2.toNat k
          have hpr := putRow_lt xs i k (by omega)
          have hF := Lib.hid (HX.out i hlti)
          have HO := Lib.hid hown
          clear e0 e1 hown
          go_wp2_with (go_at_call 132; refine (l01At_p hF.out k (by omega) _).mono ?_; rintro e w2 ⟨rfl, hb2⟩)
          go_roundw
          case rel => exact ⟨i + 1, by omega, by go_num, by rw [← HF.out], owns_below HO.out hb2, bthen hN hb2⟩
          case measure => simp [intOf]; omega
        · obtain rfl : i = m := by omega
          have hpr := putRow_lt xs i k hm
          have q0 := kc hN p0
          have q1 := kc hN p1
          go_wp2_with (first
            | (go_at_call 132; refine (l01At_any (i : Int) x (putRow xs i k) ok.hx (by omega) _).mono ?_; rintro e w2 ⟨rfl, hb2⟩; have hown2 := owns_below hown hb2; have hN2 := bthen hN hb2; have hsz2 := hb2.size)
            | (at_builtin; refine wpList_append_own _ rfl _ _ 45 rfl W1.heap.size 2 i0 (.int .i64 0) 1 8 Tryz.underlying45 hinf hz0 hz1 hz2 rfl (by decide) _ _ _ rfl (hown2.alloc _) ⟨w2.heap.size, 0, none⟩ 1 1 [.int .i64 (bitN x (putRow xs i k) : Int)] rfl rfl (cell_one_new _ _ _) (one_cell_int _) (by unfold maxLen; omega) (by omega) (by simp; omega) ?_))
          intro v' w1 hown' hgrow _
          have hN' := (balloc hN2 (.cells #[.int .i64 (bitN x (putRow xs i k) : Int)] 2)).grown hgrow (by simp; omega) (fun j e => (hown2.lt j e).1)
          clear hgrow hown hN hown2 hN2
          go_wp2
          go_roundw
          case rel => exact ⟨k + 1, by omega, by go_num, by rw [HS.out]; exact hown', hN'⟩
          case measure => simp [intOf]; omega
    · obtain rfl : k = R1 := by omega
      obtain ⟨g2, cap2, rfl, hg2, hc2⟩ := owned_slice r0 hown
      have d00 := kc hN c0
      have d01 := kc hN c1
      have g00 := kf hN c0 f0
      have g01 := kf hN c1 f1
      have hB2 := bthen hB hN
      clear hown hN p0 p1 c0 c1 f0 f1 hB
      go_wp2_with (first
        | (go_at_call 107; refine (l01Rows_is ok1.h0 ok1.h4 ok1.hR _).mono ?_; rintro e w' ⟨rfl, rfl⟩)
        | (go_at_call 109; refine (l01Of_any ok1.h0 ok1.h4 r0 r16 ok1.hR g2 cap2 (putN xs m x) (fun r _ => bitN_le _ _) _ hg2 hc2).mono ?_; rintro e w3 ⟨rfl, hb3⟩; have e00 := kc hb3 d00; have e01 := kc hb3 d01; have k00 := kf hb3 d00 g00; have k01 := kf hb3 d01 g01; have hB3 := bthen hB2 hb3))
      exact bodyPost_ret (v := .agg #[.int .i64 (fget xs 0).1, .int .i64 (sumN (putN xs m x) k : Int)]) (by simp [results, Tryz.results96, go_sem, e00, e01]) rfl ⟨rfl, (hB3.setCell (p := ⟨w.heap.size + 1, 0, none⟩) (by simp) _).setCell (p := ⟨w.heap.size + 1, 1, none⟩) (by simp) _⟩
end Go.Proofs.YtleighihfgabkaaGreatDoor

/- M4:
  Appending a function to a list of functions. -/
namespace Go.Proofs.YtleighihfgabkaaGreatDoor
open Go.RowKit

theorem cell_two_new (W : World) (a b : Value) (t : TypeId) : ∀ (j : Nat) (u : Value), [a, b][j]? = some u → (W.alloc (.cells #[a, b] t)).cell? ((⟨W.heap.size, 0, none⟩ : Addr).add j) = some u := by
  intro j u h
  match j, h with
  | 0, h => simp at h; subst h; simp [go_sem, Addr.add]
  | 1, h => simp at h; subst h; simp [go_sem, Addr.add]
theorem one_cell_two (n x : Int) : ∀ u ∈ [Value.int .i64 n, Value.int .i64 x], u.oneCell' = true := by
  intro u hu
  simp at hu
  rcases hu with rfl | rfl <;> rfl
theorem OwnsF.snoc {W : World} {base : Nat} {s : Value} {xs : List (Int × Int)} {n x : Int} (h : W.ownsRow base 27 2 s (xs.length + 1) (fcells xs ++ [.int .i64 n, .int .i64 x])) : OwnsF W base s (xs ++ [(n, x)]) := by
  unfold OwnsF
  rw [fcells_snoc, List.length_append]
  exact h
end Go.Proofs.YtleighihfgabkaaGreatDoor

/- O9:
  Formulas in the model: gates and functions of formulas. -/
namespace Go.Proofs.YtleighihfgabkaaGreatDoor
open Go.RowKit
set_option linter.unusedVariables false
set_option linter.unusedSimpArgs false

/-- The gates: the byte, the arity, the function. -/
def gtL : List (Nat × Nat × Nat) := [(33, 1, 1), (38, 2, 8), (124, 2, 14), (94, 2, 6), (63, 3, 216), (77, 3, 232)]
def gtT : List ByteArray := [⟨#[49, 58, 49, 48]⟩, ⟨#[50, 58, 48, 48, 48, 49]⟩, ⟨#[50, 58, 48, 49, 49, 49]⟩, ⟨#[50, 58, 48, 49, 49, 48]⟩, ⟨#[51, 58, 48, 48, 48, 49, 49, 48, 49, 49]⟩, ⟨#[51, 58, 48, 48, 48, 49, 48, 49, 49, 49]⟩]
def gM (i : Nat) : Nat := (gtL[i]?.map (·.2.1)).getD 0
def gX (i : Nat) : Nat := (gtL[i]?.map (·.2.2)).getD 0
def gC (i : Nat) : Nat := (gtL[i]?.map (·.1)).getD 0
theorem gt_read : ∀ i < 6, rdOk (gtT[i]?.getD ⟨#[]⟩) = true ∧ txN (gtT[i]?.getD ⟨#[]⟩) = (gM i : Int) ∧ rdB (gtT[i]?.getD ⟨#[]⟩) = (gX i : Int) ∧ (gtT[i]?.getD ⟨#[]⟩).size ≤ 1048576 := by decide +kernel
theorem gt_apart : ∀ i < 6, ∀ j < i, gC j ≠ gC i := by decide
def gStr : ByteArray := ⟨#[33, 38, 124, 94, 63, 77]⟩
theorem gStr_at : ∀ i < 6, (gStr.data.toList[i]?.map UInt8.toNat).getD 0 = gC i := by decide +kernel
set_option maxRecDepth 100000 in
set_option maxHeartbeats 16000000 in
theorem l05Gate_any (c i : Nat) (hi : i < 6) (hc : c = gC i) (w : World) :
    Calls Tryz.prog 97 #[.int .u8 (c : Int)] w fun e w' => e = .returned (.agg #[.int .i64 (gM i : Int), .int .i64 (gX i : Int)]) ∧ Below w.heap.size w w' := by
  obtain ⟨W1, hW1⟩ : ∃ W1, (w.alloc (.cells #[.int .i64 0, .int .i64 0] 27)).alloc (.cells #[.string ⟨#[49, 58, 49, 48]⟩, .string ⟨#[50, 58, 48, 48, 48, 49]⟩, .string ⟨#[50, 58, 48, 49, 49, 49]⟩, .string ⟨#[50, 58, 48, 49, 49, 48]⟩, .string ⟨#[51, 58, 48, 48, 48, 49, 49, 48, 49, 49]⟩, .string ⟨#[51, 58, 48, 48, 48, 49, 48, 49, 49, 49]⟩] 9) = W1 := ⟨_, rfl⟩
  have hb1 : Below w.heap.size w W1 := by rw [← hW1]; exact balloc (bnew _ _) _
  have c0 : W1.cell? ⟨w.heap.size, 0, none⟩ = some (.int .i64 0) := by rw [← hW1]; simp [go_sem]
  have c1 : W1.cell? ⟨w.heap.size, 1, none⟩ = some (.int .i64 0) := by rw [← hW1]; simp [go_sem]
  have f0 : W1.frozen? ⟨w.heap.size, 0, none⟩ = false := by rw [← hW1]; simp [go_sem]
  have f1 : W1.frozen? ⟨w.heap.size, 1, none⟩ = false := by rw [← hW1]; simp [go_sem]
  have HC : Hid (∀ j, j < 6 → W1.cell? ⟨w.heap.size + 1, j, none⟩ = some (.string (gtT[j]?.getD ⟨#[]⟩))) := Lib.hid (by
    intro j hj
    rcases (show j = 0 ∨ j = 1 ∨ j = 2 ∨ j = 3 ∨ j = 4 ∨ j = 5 by omega) with rfl | rfl | rfl | rfl | rfl | rfl
    all_goals (rw [← hW1]; simp [go_sem, gtT]))
  have RD := Lib.hid (fun W => l01Read_any (gtT[i]?.getD ⟨#[]⟩) (gt_read i hi).2.2.2 W)
  rw [(gt_read i hi).1, (gt_read i hi).2.1, (gt_read i hi).2.2.1] at RD
  rcases (show i = 0 ∨ i = 1 ∨ i = 2 ∨ i = 3 ∨ i = 4 ∨ i = 5 by omega) with rfl | rfl | rfl | rfl | rfl | rfl
  · obtain rfl : c = 33 := hc
    have hcell := HC.out 0 (by decide)
    have e1 : gtT[0]?.getD ⟨#[]⟩ = ⟨#[49, 58, 49, 48]⟩ := rfl
    rw [e1] at RD hcell
    have RD2 := Lib.hid (fun W => (show Calls Tryz.prog 111 #[.string ⟨#[49, 58, 49, 48]⟩] W fun e w' => e = .returned (.tuple #[.agg #[.int .i64 1, .int .i64 1], .bool true]) ∧ Below W.heap.size W w' from RD.out W))
    clear RD HC e1
    go_enter Tryz.func97, Tryz.ntmps97
    go_wp2_with fail
    clear hW1
    refine wp_loop_rounds 1 ?_
    rw [rounds_succ]
    go_wp2_with fail
    refine (RD2.out _).mono ?_
    rintro e w2 ⟨rfl, hb2⟩
    have d0 := kc hb2 c0
    have d1 := kc hb2 c1
    have g0 := kf hb2 c0 f0
    have g1 := kf hb2 c1 f1
    have HB2 := Lib.hid (bthen hb1 hb2)
    have hl := cell_lt d0
    obtain ⟨W3, hW3⟩ : ∃ W3, w2.alloc (.cells #[.int .i64 1, .int .i64 1] 27) = W3 := ⟨_, rfl⟩
    have hb3 : Below w2.heap.size w2 W3 := by rw [← hW3]; exact bnew _ _
    have p0 : W3.cell? ⟨w2.heap.size, 0, none⟩ = some (.int .i64 1) := by rw [← hW3]; simp [go_sem]
    have p1 : W3.cell? ⟨w2.heap.size, 1, none⟩ = some (.int .i64 1) := by rw [← hW3]; simp [go_sem]
    have d0 := kc hb3 d0
    have d1 := kc hb3 d1
    have g0 := kf hb3 (kc hb2 c0) g0
    have g1 := kf hb3 (kc hb2 c1) g1
    have HB3 := Lib.hid (bthen HB2.out hb3)
    clear hb2 hb3 c0 c1 f0 f1 hcell hb1
    go_wp2_with fail
    exact bodyPost_ret (v := .agg #[.int .i64 1, .int .i64 1]) (by simp [results, Tryz.results97, go_sem, d0, d1]) rfl ⟨rfl, (HB3.out.setCell (p := ⟨w.heap.size, 0, none⟩) (Nat.le_refl _) _).setCell (p := ⟨w.heap.size, 1, none⟩) (Nat.le_refl _) _⟩
  · obtain rfl : c = 38 := hc
    have hcell := HC.out 1 (by decide)
    have e1 : gtT[1]?.getD ⟨#[]⟩ = ⟨#[50, 58, 48, 48, 48, 49]⟩ := rfl
    rw [e1] at RD hcell
    have RD2 := Lib.hid (fun W => (show Calls Tryz.prog 111 #[.string ⟨#[50, 58, 48, 48, 48, 49]⟩] W fun e w' => e = .returned (.tuple #[.agg #[.int .i64 2, .int .i64 8], .bool true]) ∧ Below W.heap.size W w' from RD.out W))
    clear RD HC e1
    go_enter Tryz.func97, Tryz.ntmps97
    go_wp2_with fail
    clear hW1
    refine wp_loop_rounds 2 ?_
    rw [rounds_succ]
    go_wp2_with fail
    rw [rounds_succ]
    go_wp2_with fail
    refine (RD2.out _).mono ?_
    rintro e w2 ⟨rfl, hb2⟩
    have d0 := kc hb2 c0
    have d1 := kc hb2 c1
    have g0 := kf hb2 c0 f0
    have g1 := kf hb2 c1 f1
    have HB2 := Lib.hid (bthen hb1 hb2)
    have hl := cell_lt d0
    obtain ⟨W3, hW3⟩ : ∃ W3, w2.alloc (.cells #[.int .i64 2, .int .i64 8] 27) = W3 := ⟨_, rfl⟩
    have hb3 : Below w2.heap.size w2 W3 := by rw [← hW3]; exact bnew _ _
    have p0 : W3.cell? ⟨w2.heap.size, 0, none⟩ = some (.int .i64 2) := by rw [← hW3]; simp [go_sem]
    have p1 : W3.cell? ⟨w2.heap.size, 1, none⟩ = some (.int .i64 8) := by rw [← hW3]; simp [go_sem]
    have d0 := kc hb3 d0
    have d1 := kc hb3 d1
    have g0 := kf hb3 (kc hb2 c0) g0
    have g1 := kf hb3 (kc hb2 c1) g1
    have HB3 := Lib.hid (bthen HB2.out hb3)
    clear hb2 hb3 c0 c1 f0 f1 hcell hb1
    go_wp2_with fail
    exact bodyPost_ret (v := .agg #[.int .i64 2, .int .i64 8]) (by simp [results, Tryz.results97, go_sem, d0, d1]) rfl ⟨rfl, (HB3.out.setCell (p := ⟨w.heap.size, 0, none⟩) (Nat.le_refl _) _).setCell (p := ⟨w.heap.size, 1, none⟩) (Nat.le_refl _) _⟩
  · obtain rfl : c = 124 := hc
    have hcell := HC.out 2 (by decide)
    have e1 : gtT[2]?.getD ⟨#[]⟩ = ⟨#[50, 58, 48, 49, 49, 49]⟩ := rfl
    rw [e1] at RD hcell
    have RD2 := Lib.hid (fun W => (show Calls Tryz.prog 111 #[.string ⟨#[50, 58, 48, 49, 49, 49]⟩] W fun e w' => e = .returned (.tuple #[.agg #[.int .i64 2, .int .i64 14], .bool true]) ∧ Below W.heap.size W w' from RD.out W))
    clear RD HC e1
    go_enter Tryz.func97, Tryz.ntmps97
    go_wp2_with fail
    clear hW1
    refine wp_loop_rounds 3 ?_
    rw [rounds_succ]
    go_wp2_with fail
    rw [rounds_succ]
    go_wp2_with fail
    rw [rounds_succ]
    go_wp2_with fail
    refine (RD2.out _).mono ?_
    rintro e w2 ⟨rfl, hb2⟩
    have d0 := kc hb2 c0
    have d1 := kc hb2 c1
    have g0 := kf hb2 c0 f0
    have g1 := kf hb2 c1 f1
    have HB2 := Lib.hid (bthen hb1 hb2)
    have hl := cell_lt d0
    obtain ⟨W3, hW3⟩ : ∃ W3, w2.alloc (.cells #[.int .i64 2, .int .i64 14] 27) = W3 := ⟨_, rfl⟩
    have hb3 : Below w2.heap.size w2 W3 := by rw [← hW3]; exact bnew _ _
    have p0 : W3.cell? ⟨w2.heap.size, 0, none⟩ = some (.int .i64 2) := by rw [← hW3]; simp [go_sem]
    have p1 : W3.cell? ⟨w2.heap.size, 1, none⟩ = some (.int .i64 14) := by rw [← hW3]; simp [go_sem]
    have d0 := kc hb3 d0
    have d1 := kc hb3 d1
    have g0 := kf hb3 (kc hb2 c0) g0
    have g1 := kf hb3 (kc hb2 c1) g1
    have HB3 := Lib.hid (bthen HB2.out hb3)
    clear hb2 hb3 c0 c1 f0 f1 hcell hb1
    go_wp2_with fail
    exact bodyPost_ret (v := .agg #[.int .i64 2, .int .i64 14]) (by simp [results, Tryz.results97, go_sem, d0, d1]) rfl ⟨rfl, (HB3.out.setCell (p := ⟨w.heap.size, 0, none⟩) (Nat.le_refl _) _).setCell (p := ⟨w.heap.size, 1, none⟩) (Nat.le_refl _) _⟩
  · obtain rfl : c = 94 := hc
    have hcell := HC.out 3 (by decide)
    have e1 : gtT[3]?.getD ⟨#[]⟩ = ⟨#[50, 58, 48, 49, 49, 48]⟩ := rfl
    rw [e1] at RD hcell
    have RD2 := Lib.hid (fun W => (show Calls Tryz.prog 111 #[.string ⟨#[50, 58, 48, 49, 49, 48]⟩] W fun e w' => e = .returned (.tuple #[.agg #[.int .i64 2, .int .i64 6], .bool true]) ∧ Below W.heap.size W w' from RD.out W))
    clear RD HC e1
    go_enter Tryz.func97, Tryz.ntmps97
    go_wp2_with fail
    clear hW1
    refine wp_loop_rounds 4 ?_
    rw [rounds_succ]
    go_wp2_with fail
    rw [rounds_succ]
    go_wp2_with fail
    rw [rounds_succ]
    go_wp2_with fail
    rw [rounds_succ]
    go_wp2_with fail
    refine (RD2.out _).mono ?_
    rintro e w2 ⟨rfl, hb2⟩
    have d0 := kc hb2 c0
    have d1 := kc hb2 c1
    have g0 := kf hb2 c0 f0
    have g1 := kf hb2 c1 f1
    have HB2 := Lib.hid (bthen hb1 hb2)
    have hl := cell_lt d0
    obtain ⟨W3, hW3⟩ : ∃ W3, w2.alloc (.cells #[.int .i64 2, .int .i64 6] 27) = W3 := ⟨_, rfl⟩
    have hb3 : Below w2.heap.size w2 W3 := by rw [← hW3]; exact bnew _ _
    have p0 : W3.cell? ⟨w2.heap.size, 0, none⟩ = some (.int .i64 2) := by rw [← hW3]; simp [go_sem]
    have p1 : W3.cell? ⟨w2.heap.size, 1, none⟩ = some (.int .i64 6) := by rw [← hW3]; simp [go_sem]
    have d0 := kc hb3 d0
    have d1 := kc hb3 d1
    have g0 := kf hb3 (kc hb2 c0) g0
    have g1 := kf hb3 (kc hb2 c1) g1
    have HB3 := Lib.hid (bthen HB2.out hb3)
    clear hb2 hb3 c0 c1 f0 f1 hcell hb1
    go_wp2_with fail
    exact bodyPost_ret (v := .agg #[.int .i64 2, .int .i64 6]) (by simp [results, Tryz.results97, go_sem, d0, d1]) rfl ⟨rfl, (HB3.out.setCell (p := ⟨w.heap.size, 0, none⟩) (Nat.le_refl _) _).setCell (p := ⟨w.heap.size, 1, none⟩) (Nat.le_refl _) _⟩
  · obtain rfl : c = 63 := hc
    have hcell := HC.out 4 (by decide)
    have e1 : gtT[4]?.getD ⟨#[]⟩ = ⟨#[51, 58, 48, 48, 48, 49, 49, 48, 49, 49]⟩ := rfl
    rw [e1] at RD hcell
    have RD2 := Lib.hid (fun W => (show Calls Tryz.prog 111 #[.string ⟨#[51, 58, 48, 48, 48, 49, 49, 48, 49, 49]⟩] W fun e w' => e = .returned (.tuple #[.agg #[.int .i64 3, .int .i64 216], .bool true]) ∧ Below W.heap.size W w' from RD.out W))
    clear RD HC e1
    go_enter Tryz.func97, Tryz.ntmps97
    go_wp2_with fail
    clear hW1
    refine wp_loop_rounds 5 ?_
    rw [rounds_succ]
    go_wp2_with fail
    rw [rounds_succ]
    go_wp2_with fail
    rw [rounds_succ]
    go_wp2_with fail
    rw [rounds_succ]
    go_wp2_with fail
    rw [rounds_succ]
    go_wp2_with fail
    refine (RD2.out _).mono ?_
    rintro e w2 ⟨rfl, hb2⟩
    have d0 := kc hb2 c0
    have d1 := kc hb2 c1
    have g0 := kf hb2 c0 f0
    have g1 := kf hb2 c1 f1
    have HB2 := Lib.hid (bthen hb1 hb2)
    have hl := cell_lt d0
    obtain ⟨W3, hW3⟩ : ∃ W3, w2.alloc (.cells #[.int .i64 3, .int .i64 216] 27) = W3 := ⟨_, rfl⟩
    have hb3 : Below w2.heap.size w2 W3 := by rw [← hW3]; exact bnew _ _
    have p0 : W3.cell? ⟨w2.heap.size, 0, none⟩ = some (.int .i64 3) := by rw [← hW3]; simp [go_sem]
    have p1 : W3.cell? ⟨w2.heap.size, 1, none⟩ = some (.int .i64 216) := by rw [← hW3]; simp [go_sem]
    have d0 := kc hb3 d0
    have d1 := kc hb3 d1
    have g0 := kf hb3 (kc hb2 c0) g0
    have g1 := kf hb3 (kc hb2 c1) g1
    have HB3 := Lib.hid (bthen HB2.out hb3)
    clear hb2 hb3 c0 c1 f0 f1 hcell hb1
    go_wp2_with fail
    exact bodyPost_ret (v := .agg #[.int .i64 3, .int .i64 216]) (by simp [results, Tryz.results97, go_sem, d0, d1]) rfl ⟨rfl, (HB3.out.setCell (p := ⟨w.heap.size, 0, none⟩) (Nat.le_refl _) _).setCell (p := ⟨w.heap.size, 1, none⟩) (Nat.le_refl _) _⟩
  · obtain rfl : c = 77 := hc
    have hcell := HC.out 5 (by decide)
    have e1 : gtT[5]?.getD ⟨#[]⟩ = ⟨#[51, 58, 48, 48, 48, 49, 48, 49, 49, 49]⟩ := rfl
    rw [e1] at RD hcell
    have RD2 := Lib.hid (fun W => (show Calls Tryz.prog 111 #[.string ⟨#[51, 58, 48, 48, 48, 49, 48, 49, 49, 49]⟩] W fun e w' => e = .returned (.tuple #[.agg #[.int .i64 3, .int .i64 232], .bool true]) ∧ Below W.heap.size W w' from RD.out W))
    clear RD HC e1
    go_enter Tryz.func97, Tryz.ntmps97
    go_wp2_with fail
    clear hW1
    refine wp_loop_rounds 6 ?_
    rw [rounds_succ]
    go_wp2_with fail
    rw [rounds_succ]
    go_wp2_with fail
    rw [rounds_succ]
    go_wp2_with fail
    rw [rounds_succ]
    go_wp2_with fail
    rw [rounds_succ]
    go_wp2_with fail
    rw [rounds_succ]
    go_wp2_with fail
    refine (RD2.out _).mono ?_
    rintro e w2 ⟨rfl, hb2⟩
    have d0 := kc hb2 c0
    have d1 := kc hb2 c1
    have g0 := kf hb2 c0 f0
    have g1 := kf hb2 c1 f1
    have HB2 := Lib.hid (bthen hb1 hb2)
    have hl := cell_lt d0
    obtain ⟨W3, hW3⟩ : ∃ W3, w2.alloc (.cells #[.int .i64 3, .int .i64 232] 27) = W3 := ⟨_, rfl⟩
    have hb3 : Below w2.heap.size w2 W3 := by rw [← hW3]; exact bnew _ _
    have p0 : W3.cell? ⟨w2.heap.size, 0, none⟩ = some (.int .i64 3) := by rw [← hW3]; simp [go_sem]
    have p1 : W3.cell? ⟨w2.heap.size, 1, none⟩ = some (.int .i64 232) := by rw [← hW3]; simp [go_sem]
    have d0 := kc hb3 d0
    have d1 := kc hb3 d1
    have g0 := kf hb3 (kc hb2 c0) g0
    have g1 := kf hb3 (kc hb2 c1) g1
    have HB3 := Lib.hid (bthen HB2.out hb3)
    clear hb2 hb3 c0 c1 f0 f1 hcell hb1
    go_wp2_with fail
    exact bodyPost_ret (v := .agg #[.int .i64 3, .int .i64 232]) (by simp [results, Tryz.results97, go_sem, d0, d1]) rfl ⟨rfl, (HB3.out.setCell (p := ⟨w.heap.size, 0, none⟩) (Nat.le_refl _) _).setCell (p := ⟨w.heap.size, 1, none⟩) (Nat.le_refl _) _⟩
end Go.Proofs.YtleighihfgabkaaGreatDoor

/- O10:
  Formulas in the model: functions of formulas. -/
namespace Go.Proofs.YtleighihfgabkaaGreatDoor
open Go.RowKit
set_option linter.unusedVariables false
set_option linter.unusedSimpArgs false

/-- Which gate a byte is. -/
def gI (c : UInt8) : Nat := if c = 33 then 0 else if c = 38 then 1 else if c = 124 then 2 else if c = 94 then 3 else if c = 63 then 4 else 5
/-- The value of a formula at a row. -/
def Fm.ev : Fm → Nat → Nat
  | .leaf c, r => if c = 48 then 0 else if c = 49 then 1 else bitN r (c.toNat - 97)
  | .one c a, r => bitN (gX (gI c)) (a.ev r)
  | .two c a b, r => bitN (gX (gI c)) (a.ev r + 2 * b.ev r)
  | .three c a b d, r => bitN (gX (gI c)) (a.ev r + 2 * b.ev r + 4 * d.ev r)
theorem Fm.ev_le (f : Fm) (r : Nat) : f.ev r ≤ 1 := by
  cases f with
  | leaf c =>
    simp only [Fm.ev]
    split
    · decide
    · split
      · decide
      · exact bitN_le _ _
  | one c a => exact bitN_le _ _
  | two c a b => exact bitN_le _ _
  | three c a b d => exact bitN_le _ _
theorem FOk.repl {n : Int} {x R z : Nat} (ok : FOk n x R) (h : z < 2 ^ R) : FOk n z R := by
  obtain ⟨h0, h4, r0, r16, hR, hb, he, hx⟩ := ok
  have : (2 : Nat) ^ R ≤ 2 ^ 16 := Nat.pow_le_pow_right (by decide) r16
  exact ⟨h0, h4, r0, r16, hR, by omega, he, h⟩
theorem Fm.ev_ok {n : Int} {x R : Nat} (ok : FOk n x R) (f : Fm) : FOk n (sumN f.ev R) R := ok.repl (sumN_lt _ _ fun r _ => f.ev_le r)
/-- The functions of the formulas at the places. -/
def Fm.fs (f : Fm) (n : Int) (R j : Nat) : List (Int × Int) := (f.kids.take j).map fun g => (n, (sumN g.ev R : Int))
theorem Fm.fs_len (f : Fm) (n : Int) (R j : Nat) (h : j ≤ f.kids.length) : (f.fs n R j).length = j := by simp [Fm.fs, h]
theorem Fm.fs_succ (f : Fm) (n : Int) (R j : Nat) (h : j < f.kids.length) : f.fs n R (j + 1) = f.fs n R j ++ [(n, (sumN (f.kids[j]).ev R : Int))] := by
  unfold Fm.fs
  rw [List.take_succ_eq_append_getElem h, List.map_append]
  rfl
theorem Fm.fs_get (f : Fm) (n : Int) (R i : Nat) (h : i < f.kids.length) : fget (f.fs n R f.kids.length) i = (n, (sumN (f.kids[i]).ev R : Int)) := by simp [Fm.fs, fget, h]
theorem gt_ok : ∀ i < 6, isF (gM i : Int) (gX i : Int) = true := by decide +kernel
/-- A formula is a leaf or has a gate. -/
theorem Fm.sort {f : Fm} (w : f.wf) : (∃ c, f = .leaf c ∧ (c = 97 ∨ c = 98 ∨ c = 99 ∨ c = 100 ∨ c = 48 ∨ c = 49)) ∨ (∃ i, i < 6 ∧ f.head.toNat = gC i ∧ gM i = f.kids.length ∧ plI f.head = (f.kids.length : Int) ∧ 0 < f.kids.length ∧ f.head.toNat ≠ 48 ∧ f.head.toNat ≠ 49 ∧ ∀ n R, (∀ r, r < R → putN (f.fs n R f.kids.length) (gM i) (gX i) r = f.ev r)) := by
  have B : ∀ (g : Fm) (R r : Nat), r < R → bitN (sumN g.ev R) r = g.ev r := fun g R r hr => bitN_sum g.ev R (fun r _ => g.ev_le r) r hr
  cases f with
  | leaf c =>
    rcases plc_cases (show plc c = some 0 from w) with ⟨_, h⟩ | ⟨h, _⟩ | ⟨h, _⟩ | ⟨h, _⟩
    · exact .inl ⟨c, rfl, h⟩
    all_goals omega
  | one c a =>
    rcases plc_cases w.1 with ⟨h, _⟩ | ⟨_, rfl⟩ | ⟨h, _⟩ | ⟨h, _⟩
    · omega
    · refine .inr ⟨0, by decide, rfl, rfl, rfl, Nat.zero_lt_succ _, by simp [Fm.head], by simp [Fm.head], fun n R r hr => ?_⟩
      simp only [putN, putRow, gM, gtL, sumN, Fm.fs, Fm.kids, fget, Fm.ev, List.length_cons, List.length_nil, List.take_succ_cons, List.take_zero, List.map_cons, List.map_nil, List.getElem?_cons_zero, List.getElem?_cons_succ, Option.getD_some, Option.map_some, Int.toNat_natCast, B _ R r hr]
      congr 1
      omega
    all_goals omega
  | two c a b =>
    rcases plc_cases w.1 with ⟨h, _⟩ | ⟨h, _⟩ | ⟨_, h⟩ | ⟨h, _⟩
    · omega
    · omega
    · rcases h with rfl | rfl | rfl
      · refine .inr ⟨1, by decide, rfl, rfl, rfl, Nat.zero_lt_succ _, by simp [Fm.head], by simp [Fm.head], fun n R r hr => ?_⟩
        simp only [putN, putRow, gM, gtL, sumN, Fm.fs, Fm.kids, fget, Fm.ev, List.length_cons, List.length_nil, List.take_succ_cons, List.take_zero, List.map_cons, List.map_nil, List.getElem?_cons_zero, List.getElem?_cons_succ, Option.getD_some, Option.map_some, Int.toNat_natCast, B _ R r hr]
        congr 1
        omega
      · refine .inr ⟨2, by decide, rfl, rfl, rfl, Nat.zero_lt_succ _, by simp [Fm.head], by simp [Fm.head], fun n R r hr => ?_⟩
        simp only [putN, putRow, gM, gtL, sumN, Fm.fs, Fm.kids, fget, Fm.ev, List.length_cons, List.length_nil, List.take_succ_cons, List.take_zero, List.map_cons, List.map_nil, List.getElem?_cons_zero, List.getElem?_cons_succ, Option.getD_some, Option.map_some, Int.toNat_natCast, B _ R r hr]
        congr 1
        omega
      · refine .inr ⟨3, by decide, rfl, rfl, rfl, Nat.zero_lt_succ _, by simp [Fm.head], by simp [Fm.head], fun n R r hr => ?_⟩
        simp only [putN, putRow, gM, gtL, sumN, Fm.fs, Fm.kids, fget, Fm.ev, List.length_cons, List.length_nil, List.take_succ_cons, List.take_zero, List.map_cons, List.map_nil, List.getElem?_cons_zero, List.getElem?_cons_succ, Option.getD_some, Option.map_some, Int.toNat_natCast, B _ R r hr]
        congr 1
        omega
    · omega
  | three c a b d =>
    rcases plc_cases w.1 with ⟨h, _⟩ | ⟨h, _⟩ | ⟨h, _⟩ | ⟨_, h⟩
    · omega
    · omega
    · omega
    · rcases h with rfl | rfl
      · refine .inr ⟨4, by decide, rfl, rfl, rfl, Nat.zero_lt_succ _, by simp [Fm.head], by simp [Fm.head], fun n R r hr => ?_⟩
        simp only [putN, putRow, gM, gtL, sumN, Fm.fs, Fm.kids, fget, Fm.ev, List.length_cons, List.length_nil, List.take_succ_cons, List.take_zero, List.map_cons, List.map_nil, List.getElem?_cons_zero, List.getElem?_cons_succ, Option.getD_some, Option.map_some, Int.toNat_natCast, B _ R r hr]
        congr 1
        omega
      · refine .inr ⟨5, by decide, rfl, rfl, rfl, Nat.zero_lt_succ _, by simp [Fm.head], by simp [Fm.head], fun n R r hr => ?_⟩
        simp only [putN, putRow, gM, gtL, sumN, Fm.fs, Fm.kids, fget, Fm.ev, List.length_cons, List.length_nil, List.take_succ_cons, List.take_zero, List.map_cons, List.map_nil, List.getElem?_cons_zero, List.getElem?_cons_succ, Option.getD_some, Option.map_some, Int.toNat_natCast, B _ R r hr]
        congr 1
        omega
set_option maxRecDepth 100000 in
set_option maxHeartbeats 8000000 in
theorem l05Func_leaf48 {n : Int} {R : Nat} (ok : FOk n 0 R) {T : ByteArray} (hz0 : 0 < T.size) (hT : T[0] = 48) (hsz : T.size ≤ 1048576) (w : World) :
    Calls Tryz.prog 52 #[.int .i64 n, .string T] w fun e w' => e = .returned (.agg #[.int .i64 n, .int .i64 ((0 : Nat) * allN n)]) ∧ Below w.heap.size w w' := by
  have hb : T[0].toNat = 48 := by rw [hT]; rfl
  have P := Lib.hid (fun w => (show Calls Tryz.prog 94 #[.int .u8 48] w fun e w' => e = .returned (.int .i64 0) ∧ w = w' from l05Places_any 48 w))
  obtain ⟨W1, hW1⟩ : ∃ W1, w.alloc (.cells #[.int .i64 0, .int .i64 0] 27) = W1 := ⟨_, rfl⟩
  have hb1 : Below w.heap.size w W1 := by rw [← hW1]; exact bnew _ _
  have c0 : W1.cell? ⟨w.heap.size, 0, none⟩ = some (.int .i64 0) := by rw [← hW1]; simp [go_sem]
  have c1 : W1.cell? ⟨w.heap.size, 1, none⟩ = some (.int .i64 0) := by rw [← hW1]; simp [go_sem]
  have f0 : W1.frozen? ⟨w.heap.size, 0, none⟩ = false := by rw [← hW1]; simp [go_sem]
  have f1 : W1.frozen? ⟨w.heap.size, 1, none⟩ = false := by rw [← hW1]; simp [go_sem]
  clear hT
  go_enter Tryz.func52, Tryz.ntmps52
  go_wp2_with (first | (go_at_call 93; refine (l01Constant_any ok.h0 ok.h4 0 (by decide) _).mono ?_; rintro e w2 ⟨rfl, hb2⟩; have d0 := kc hb2 c0; have d1 := kc hb2 c1; have g0 := kf hb2 c0 f0; have g1 := kf hb2 c1 f1; have HB2 := Lib.hid (bthen hb1 hb2)))
  exact bodyPost_ret (v := .agg #[.int .i64 n, .int .i64 ((0 : Nat) * allN n)]) (by simp [results, Tryz.results52, go_sem, d0, d1]) rfl ⟨rfl, (HB2.out.setCell (p := ⟨w.heap.size, 0, none⟩) (Nat.le_refl _) _).setCell (p := ⟨w.heap.size, 1, none⟩) (Nat.le_refl _) _⟩
set_option maxRecDepth 100000 in
set_option maxHeartbeats 8000000 in
theorem l05Func_leaf49 {n : Int} {R : Nat} (ok : FOk n 0 R) {T : ByteArray} (hz0 : 0 < T.size) (hT : T[0] = 49) (hsz : T.size ≤ 1048576) (w : World) :
    Calls Tryz.prog 52 #[.int .i64 n, .string T] w fun e w' => e = .returned (.agg #[.int .i64 n, .int .i64 ((1 : Nat) * allN n)]) ∧ Below w.heap.size w w' := by
  have hb : T[0].toNat = 49 := by rw [hT]; rfl
  have P := Lib.hid (fun w => (show Calls Tryz.prog 94 #[.int .u8 49] w fun e w' => e = .returned (.int .i64 0) ∧ w = w' from l05Places_any 49 w))
  obtain ⟨W1, hW1⟩ : ∃ W1, w.alloc (.cells #[.int .i64 0, .int .i64 0] 27) = W1 := ⟨_, rfl⟩
  have hb1 : Below w.heap.size w W1 := by rw [← hW1]; exact bnew _ _
  have c0 : W1.cell? ⟨w.heap.size, 0, none⟩ = some (.int .i64 0) := by rw [← hW1]; simp [go_sem]
  have c1 : W1.cell? ⟨w.heap.size, 1, none⟩ = some (.int .i64 0) := by rw [← hW1]; simp [go_sem]
  have f0 : W1.frozen? ⟨w.heap.size, 0, none⟩ = false := by rw [← hW1]; simp [go_sem]
  have f1 : W1.frozen? ⟨w.heap.size, 1, none⟩ = false := by rw [← hW1]; simp [go_sem]
  clear hT
  go_enter Tryz.func52, Tryz.ntmps52
  go_wp2_with (first | (go_at_call 93; refine (l01Constant_any ok.h0 ok.h4 1 (by decide) _).mono ?_; rintro e w2 ⟨rfl, hb2⟩; have d0 := kc hb2 c0; have d1 := kc hb2 c1; have g0 := kf hb2 c0 f0; have g1 := kf hb2 c1 f1; have HB2 := Lib.hid (bthen hb1 hb2)))
  exact bodyPost_ret (v := .agg #[.int .i64 n, .int .i64 ((1 : Nat) * allN n)]) (by simp [results, Tryz.results52, go_sem, d0, d1]) rfl ⟨rfl, (HB2.out.setCell (p := ⟨w.heap.size, 0, none⟩) (Nat.le_refl _) _).setCell (p := ⟨w.heap.size, 1, none⟩) (Nat.le_refl _) _⟩
set_option maxRecDepth 100000 in
set_option maxHeartbeats 8000000 in
theorem l05Func_leaf97 {n : Int} {R : Nat} (ok : FOk n 0 R) {T : ByteArray} (hz0 : 0 < T.size) (hT : T[0] = 97) (hsz : T.size ≤ 1048576) (w : World) :
    Calls Tryz.prog 52 #[.int .i64 n, .string T] w fun e w' => e = .returned (.agg #[.int .i64 n, .int .i64 (sumN (fun r => bitN r 0) R : Int)]) ∧ Below w.heap.size w w' := by
  have hb : T[0].toNat = 97 := by rw [hT]; rfl
  have P := Lib.hid (fun w => (show Calls Tryz.prog 94 #[.int .u8 97] w fun e w' => e = .returned (.int .i64 0) ∧ w = w' from l05Places_any 97 w))
  obtain ⟨W1, hW1⟩ : ∃ W1, w.alloc (.cells #[.int .i64 0, .int .i64 0] 27) = W1 := ⟨_, rfl⟩
  have hb1 : Below w.heap.size w W1 := by rw [← hW1]; exact bnew _ _
  have c0 : W1.cell? ⟨w.heap.size, 0, none⟩ = some (.int .i64 0) := by rw [← hW1]; simp [go_sem]
  have c1 : W1.cell? ⟨w.heap.size, 1, none⟩ = some (.int .i64 0) := by rw [← hW1]; simp [go_sem]
  have f0 : W1.frozen? ⟨w.heap.size, 0, none⟩ = false := by rw [← hW1]; simp [go_sem]
  have f1 : W1.frozen? ⟨w.heap.size, 1, none⟩ = false := by rw [← hW1]; simp [go_sem]
  clear hT
  go_enter Tryz.func52, Tryz.ntmps52
  go_wp2_with (first | (go_at_call 94; refine (P.out _).mono ?_; rintro e w' ⟨rfl, rfl⟩) | (go_at_call 95; refine (l01Projection_any ok.h0 ok.h4 ok.r0 ok.r16 ok.hR 0 (by decide) _).mono ?_; rintro e w2 ⟨rfl, hb2⟩; have d0 := kc hb2 c0; have d1 := kc hb2 c1; have g0 := kf hb2 c0 f0; have g1 := kf hb2 c1 f1; have HB2 := Lib.hid (bthen hb1 hb2)))
  exact bodyPost_ret (v := .agg #[.int .i64 n, .int .i64 (sumN (fun r => bitN r 0) R : Int)]) (by simp [results, Tryz.results52, go_sem, d0, d1]) rfl ⟨rfl, (HB2.out.setCell (p := ⟨w.heap.size, 0, none⟩) (Nat.le_refl _) _).setCell (p := ⟨w.heap.size, 1, none⟩) (Nat.le_refl _) _⟩
set_option maxRecDepth 100000 in
set_option maxHeartbeats 8000000 in
theorem l05Func_leaf98 {n : Int} {R : Nat} (ok : FOk n 0 R) {T : ByteArray} (hz0 : 0 < T.size) (hT : T[0] = 98) (hsz : T.size ≤ 1048576) (w : World) :
    Calls Tryz.prog 52 #[.int .i64 n, .string T] w fun e w' => e = .returned (.agg #[.int .i64 n, .int .i64 (sumN (fun r => bitN r 1) R : Int)]) ∧ Below w.heap.size w w' := by
  have hb : T[0].toNat = 98 := by rw [hT]; rfl
  have P := Lib.hid (fun w => (show Calls Tryz.prog 94 #[.int .u8 98] w fun e w' => e = .returned (.int .i64 0) ∧ w = w' from l05Places_any 98 w))
  obtain ⟨W1, hW1⟩ : ∃ W1, w.alloc (.cells #[.int .i64 0, .int .i64 0] 27) = W1 := ⟨_, rfl⟩
  have hb1 : Below w.heap.size w W1 := by rw [← hW1]; exact bnew _ _
  have c0 : W1.cell? ⟨w.heap.size, 0, none⟩ = some (.int .i64 0) := by rw [← hW1]; simp [go_sem]
  have c1 : W1.cell? ⟨w.heap.size, 1, none⟩ = some (.int .i64 0) := by rw [← hW1]; simp [go_sem]
  have f0 : W1.frozen? ⟨w.heap.size, 0, none⟩ = false := by rw [← hW1]; simp [go_sem]
  have f1 : W1.frozen? ⟨w.heap.size, 1, none⟩ = false := by rw [← hW1]; simp [go_sem]
  clear hT
  go_enter Tryz.func52, Tryz.ntmps52
  go_wp2_with (first | (go_at_call 94; refine (P.out _).mono ?_; rintro e w' ⟨rfl, rfl⟩) | (go_at_call 95; refine (l01Projection_any ok.h0 ok.h4 ok.r0 ok.r16 ok.hR 1 (by decide) _).mono ?_; rintro e w2 ⟨rfl, hb2⟩; have d0 := kc hb2 c0; have d1 := kc hb2 c1; have g0 := kf hb2 c0 f0; have g1 := kf hb2 c1 f1; have HB2 := Lib.hid (bthen hb1 hb2)))
  exact bodyPost_ret (v := .agg #[.int .i64 n, .int .i64 (sumN (fun r => bitN r 1) R : Int)]) (by simp [results, Tryz.results52, go_sem, d0, d1]) rfl ⟨rfl, (HB2.out.setCell (p := ⟨w.heap.size, 0, none⟩) (Nat.le_refl _) _).setCell (p := ⟨w.heap.size, 1, none⟩) (Nat.le_refl _) _⟩
set_option maxRecDepth 100000 in
set_option maxHeartbeats 8000000 in
theorem l05Func_leaf99 {n : Int} {R : Nat} (ok : FOk n 0 R) {T : ByteArray} (hz0 : 0 < T.size) (hT : T[0] = 99) (hsz : T.size ≤ 1048576) (w : World) :
    Calls Tryz.prog 52 #[.int .i64 n, .string T] w fun e w' => e = .returned (.agg #[.int .i64 n, .int .i64 (sumN (fun r => bitN r 2) R : Int)]) ∧ Below w.heap.size w w' := by
  have hb : T[0].toNat = 99 := by rw [hT]; rfl
  have P := Lib.hid (fun w => (show Calls Tryz.prog 94 #[.int .u8 99] w fun e w' => e = .returned (.int .i64 0) ∧ w = w' from l05Places_any 99 w))
  obtain ⟨W1, hW1⟩ : ∃ W1, w.alloc (.cells #[.int .i64 0, .int .i64 0] 27) = W1 := ⟨_, rfl⟩
  have hb1 : Below w.heap.size w W1 := by rw [← hW1]; exact bnew _ _
  have c0 : W1.cell? ⟨w.heap.size, 0, none⟩ = some (.int .i64 0) := by rw [← hW1]; simp [go_sem]
  have c1 : W1.cell? ⟨w.heap.size, 1, none⟩ = some (.int .i64 0) := by rw [← hW1]; simp [go_sem]
  have f0 : W1.frozen? ⟨w.heap.size, 0, none⟩ = false := by rw [← hW1]; simp [go_sem]
  have f1 : W1.frozen? ⟨w.heap.size, 1, none⟩ = false := by rw [← hW1]; simp [go_sem]
  clear hT
  go_enter Tryz.func52, Tryz.ntmps52
  go_wp2_with (first | (go_at_call 94; refine (P.out _).mono ?_; rintro e w' ⟨rfl, rfl⟩) | (go_at_call 95; refine (l01Projection_any ok.h0 ok.h4 ok.r0 ok.r16 ok.hR 2 (by decide) _).mono ?_; rintro e w2 ⟨rfl, hb2⟩; have d0 := kc hb2 c0; have d1 := kc hb2 c1; have g0 := kf hb2 c0 f0; have g1 := kf hb2 c1 f1; have HB2 := Lib.hid (bthen hb1 hb2)))
  exact bodyPost_ret (v := .agg #[.int .i64 n, .int .i64 (sumN (fun r => bitN r 2) R : Int)]) (by simp [results, Tryz.results52, go_sem, d0, d1]) rfl ⟨rfl, (HB2.out.setCell (p := ⟨w.heap.size, 0, none⟩) (Nat.le_refl _) _).setCell (p := ⟨w.heap.size, 1, none⟩) (Nat.le_refl _) _⟩
set_option maxRecDepth 100000 in
set_option maxHeartbeats 8000000 in
theorem l05Func_leaf100 {n : Int} {R : Nat} (ok : FOk n 0 R) {T : ByteArray} (hz0 : 0 < T.size) (hT : T[0] = 100) (hsz : T.size ≤ 1048576) (w : World) :
    Calls Tryz.prog 52 #[.int .i64 n, .string T] w fun e w' => e = .returned (.agg #[.int .i64 n, .int .i64 (sumN (fun r => bitN r 3) R : Int)]) ∧ Below w.heap.size w w' := by
  have hb : T[0].toNat = 100 := by rw [hT]; rfl
  have P := Lib.hid (fun w => (show Calls Tryz.prog 94 #[.int .u8 100] w fun e w' => e = .returned (.int .i64 0) ∧ w = w' from l05Places_any 100 w))
  obtain ⟨W1, hW1⟩ : ∃ W1, w.alloc (.cells #[.int .i64 0, .int .i64 0] 27) = W1 := ⟨_, rfl⟩
  have hb1 : Below w.heap.size w W1 := by rw [← hW1]; exact bnew _ _
  have c0 : W1.cell? ⟨w.heap.size, 0, none⟩ = some (.int .i64 0) := by rw [← hW1]; simp [go_sem]
  have c1 : W1.cell? ⟨w.heap.size, 1, none⟩ = some (.int .i64 0) := by rw [← hW1]; simp [go_sem]
  have f0 : W1.frozen? ⟨w.heap.size, 0, none⟩ = false := by rw [← hW1]; simp [go_sem]
  have f1 : W1.frozen? ⟨w.heap.size, 1, none⟩ = false := by rw [← hW1]; simp [go_sem]
  clear hT
  go_enter Tryz.func52, Tryz.ntmps52
  go_wp2_with (first | (go_at_call 94; refine (P.out _).mono ?_; rintro e w' ⟨rfl, rfl⟩) | (go_at_call 95; refine (l01Projection_any ok.h0 ok.h4 ok.r0 ok.r16 ok.hR 3 (by decide) _).mono ?_; rintro e w2 ⟨rfl, hb2⟩; have d0 := kc hb2 c0; have d1 := kc hb2 c1; have g0 := kf hb2 c0 f0; have g1 := kf hb2 c1 f1; have HB2 := Lib.hid (bthen hb1 hb2)))
  exact bodyPost_ret (v := .agg #[.int .i64 n, .int .i64 (sumN (fun r => bitN r 3) R : Int)]) (by simp [results, Tryz.results52, go_sem, d0, d1]) rfl ⟨rfl, (HB2.out.setCell (p := ⟨w.heap.size, 0, none⟩) (Nat.le_refl _) _).setCell (p := ⟨w.heap.size, 1, none⟩) (Nat.le_refl _) _⟩
end Go.Proofs.YtleighihfgabkaaGreatDoor

/- O11:
  Formulas in the model: l05Func. -/
namespace Go.Proofs.YtleighihfgabkaaGreatDoor
open Go.RowKit
set_option linter.unusedVariables false
set_option linter.unusedSimpArgs false

def FuncPost (f : Fm) (n : Int) (R : Nat) (w : World) (e : Ending) (w' : World) : Prop := e = .returned (.agg #[.int .i64 n, .int .i64 (sumN f.ev R : Int)]) ∧ Below w.heap.size w w'
set_option maxRecDepth 100000 in
set_option maxHeartbeats 4000000 in
theorem l05Func_leaf {n : Int} {R : Nat} (ok : FOk n 0 R) {c : UInt8} (h : c = 97 ∨ c = 98 ∨ c = 99 ∨ c = 100 ∨ c = 48 ∨ c = 49) (w : World) :
    Calls Tryz.prog 52 #[.int .i64 n, .string (Fm.leaf c).bytes] w (FuncPost (.leaf c) n R w) := by
  have hz0 : 0 < (Fm.leaf c).bytes.size := by rw [Fm.bytes_size]; exact Nat.zero_lt_succ _
  have hhead : (Fm.leaf c).bytes[0] = c := Fm.head_at _ hz0
  have hsz : (Fm.leaf c).bytes.size ≤ 1048576 := by rw [Fm.bytes_size]; show 1 ≤ 1048576; decide
  have K : ∀ v, v ≤ 1 → ∀ u : Nat → Nat, (∀ r, u r = v) → ((v : Nat) * allN n : Int) = (sumN u R : Int) := by
    intro v hv u hu
    rw [← sum_const ok.he hv, sumN_congr R fun r _ => hu r]
  unfold FuncPost
  rcases h with rfl | rfl | rfl | rfl | rfl | rfl
  · exact l05Func_leaf97 ok hz0 hhead hsz w
  · exact l05Func_leaf98 ok hz0 hhead hsz w
  · exact l05Func_leaf99 ok hz0 hhead hsz w
  · exact l05Func_leaf100 ok hz0 hhead hsz w
  · have h := l05Func_leaf48 ok hz0 hhead hsz w
    rw [K 0 (by decide) (Fm.leaf 48).ev (fun r => rfl)] at h
    exact h
  · have h := l05Func_leaf49 ok hz0 hhead hsz w
    rw [K 1 (by decide) (Fm.leaf 49).ev (fun r => rfl)] at h
    exact h
theorem l05Put_kids {n : Int} {R : Nat} (ok : FOk n 0 R) {f : Fm} {i : Nat} (_ : True) (hi : i < 6) (hm : gM i = f.kids.length) (hk0 : 0 < f.kids.length) (hk3 : f.kids.length ≤ 3) (hev : ∀ (n : Int) (R r : Nat), r < R → putN (f.fs n R f.kids.length) (gM i) (gX i) r = f.ev r) (w : World) {base : Nat} {s : Value} (h : OwnsF w base s (f.fs n R f.kids.length)) :
    Calls Tryz.prog 96 #[.agg #[.int .i64 (gM i : Int), .int .i64 (gX i : Int)], s] w fun e w' => e = .returned (.agg #[.int .i64 n, .int .i64 (sumN f.ev R : Int)]) ∧ Below w.heap.size w w' := by
  obtain ⟨x, R', hx, okg⟩ := fok (gt_ok i hi)
  have e0 := f.fs_get n R 0 hk0
  have ok1 : FOk (fget (f.fs n R f.kids.length) 0).1 (sumN (f.kids[0]).ev R) R := by rw [e0]; exact Fm.ev_ok ok _
  have hp := l01Put_any okg (by omega) (by omega) (by rw [hm]; exact f.fs_len n R _ (Nat.le_refl _)) (fun j hj => by
    rw [f.fs_get n R j (by omega)]
    exact (Fm.ev_ok ok _).is) ok1 w h
  rw [e0, ← hx] at hp
  rw [show sumN (putN (f.fs n R f.kids.length) (gM i) x) R = sumN f.ev R from sumN_congr R fun r hr => by
    rw [show x = gX i by omega]
    exact hev n R r hr] at hp
  exact hp
set_option maxRecDepth 100000 in
set_option maxHeartbeats 16000000 in
theorem l05Func_any {n : Int} {R : Nat} (ok : FOk n 0 R) : ∀ (N : Nat) (f : Fm), f.wf → f.txt.length ≤ N → N ≤ 1000 → ∀ w, Calls Tryz.prog 52 #[.int .i64 n, .string f.bytes] w (FuncPost f n R w) := by
  intro N
  induction N with
  | zero => intro f _ h; have := f.txt_pos; omega
  | succ N ih =>
    intro f wf hf hn w
    rcases Fm.sort wf with ⟨c, rfl, hc⟩ | ⟨i, hi, hg, hm, hpl, hk0, h48, h49, hev⟩
    · exact l05Func_leaf ok hc w
    have hpos := f.txt_pos
    have hz0 : 0 < f.bytes.size := by rw [f.bytes_size]; exact hpos
    have hhead := f.head_at hz0
    rw [← hhead] at hg h48 h49 hpl
    obtain ⟨z, hz⟩ : ∃ z, f.bytes[0].toNat = z := ⟨_, rfl⟩
    have PL := Lib.hid (fun w => l05Places_any f.bytes[0] w)
    rw [hpl, hz] at PL
    rw [hz] at hg h48 h49
    have n48 : ((z : Int) == 48) = false := by simp; omega
    have n49 : ((z : Int) == 49) = false := by simp; omega
    have nk : ((f.kids.length : Int) == 0) = false := by simp only [beq_eq_false_iff_ne, ne_eq]; omega
    have GT := Lib.hid (fun W => l05Gate_any z i hi hg W)
    clear hg h48 h49
    obtain ⟨i0, hinf, hz0', hz1', hz2'⟩ := info_parts infoF
    obtain ⟨W1, hW1⟩ : ∃ W1, w.alloc (.cells #[.int .i64 0, .int .i64 0] 27) = W1 := ⟨_, rfl⟩
    have hb1 : Below w.heap.size w W1 := by rw [← hW1]; exact bnew _ _
    have c0 : W1.cell? ⟨w.heap.size, 0, none⟩ = some (.int .i64 0) := by rw [← hW1]; simp [go_sem]
    have c1 : W1.cell? ⟨w.heap.size, 1, none⟩ = some (.int .i64 0) := by rw [← hW1]; simp [go_sem]
    have f0 : W1.frozen? ⟨w.heap.size, 0, none⟩ = false := by rw [← hW1]; simp [go_sem]
    have f1 : W1.frozen? ⟨w.heap.size, 1, none⟩ = false := by rw [← hW1]; simp [go_sem]
    have PP := Lib.hid (l05Parts_any wf (by omega) W1)
    have hk3 := f.kids_le
    have HV := Lib.hid hev
    have HM := Lib.hid hm
    have hsz : f.bytes.size ≤ 1048576 := by rw [f.bytes_size]; omega
    clear hhead hpl hev hm
    generalize f.bytes = T at *
    go_enter Tryz.func52, Tryz.ntmps52
    go_wp2_with (go_at_call 94; refine (PL.out _).mono ?_; rintro e w' ⟨rfl, rfl⟩)
    refine PP.out.mono ?_
    rintro e w2 ⟨s, rfl, ho, hb2⟩
    obtain ⟨a, cap, hs, hcells⟩ := ho.form
    rw [List.length_map] at hs
    subst hs
    obtain ⟨g, rfl, hg2, PC⟩ := hcells (by rw [List.length_map]; exact hk0)
    have PC := Lib.hid PC
    have d0 := kc hb2 c0
    have d1 := kc hb2 c1
    have g0 := kf hb2 c0 f0
    have g1 := kf hb2 c1 f1
    have HB2 := Lib.hid (bthen hb1 hb2)
    have hl := cell_lt d0
    clear hb1 hb2 c0 c1 f0 f1 PP PL ho hcells hW1
    go_wp2_with fail
    go_loopw [7, 8] (fun s i wr => ∃ j : Nat, j ≤ f.kids.length ∧ i = .int .i64 j ∧ Hid (OwnsF wr w2.heap.size s (f.fs n R j)) ∧ Hid (Below w2.heap.size w2 wr)) (fun _ i _ => f.kids.length - (intOf i).toNat)
    case atStart => exact ⟨0, Nat.zero_le _, rfl, Lib.hid (World.ownsRow_lit w2 #[] 0 (Nat.le_refl _) (by decide) rfl), Lib.hid (bnew _ _)⟩
    case round =>
      obtain ⟨j, hj, rfl, O, HN⟩ := hrel
      have hszr : w2.heap.size ≤ wr.heap.size := HN.out.size
      by_cases hlt : j < f.kids.length
      · have hm := List.getElem_mem hlt
        have I := Lib.hid (fun W => ih (f.kids[j]) (Fm.kids_wf wf _ hm) (by have := Fm.kids_lt (f := f) _ hm; omega) (by omega) W)
        have pj := PC.out j (by rw [List.length_map]; exact hlt)
        rw [List.getElem_map] at pj
        have qj := kc HN.out pj
        have FL := Lib.hid (f.fs_len n R j (by omega))
        have FS := Lib.hid (f.fs_succ n R j hlt)
        clear pj hm
        go_wp2_with fail
        refine (I.out _).mono ?_
        rintro e w5 ⟨rfl, hb5⟩
        have hown5 := (OwnsF.below O.out hb5)
        unfold OwnsF at hown5
        rw [FL.out] at hown5
        have N5 := Lib.hid (bthen HN.out hb5)
        have hs5 : w2.heap.size ≤ w5.heap.size := N5.out.size
        clear hb5 qj O HN I
        generalize (sumN (f.kids[j]).ev R : Int) = y at *
        go_wp2_with (at_builtin; refine wpList_append_own _ rfl _ _ 42 rfl w2.heap.size 27 i0 (.agg #[.int .i64 0, .int .i64 0]) 2 16 Tryz.underlying42 hinf hz0' hz1' hz2' rfl (by decide) _ _ _ rfl (hown5.alloc _) ⟨w5.heap.size, 0, none⟩ 1 1 [.int .i64 n, .int .i64 y] rfl rfl (cell_two_new _ _ _ _) (one_cell_two _ _) (by unfold maxLen; omega) (by omega) (by simp; omega) ?_)
        intro v' w9 hown' hgrow _
        have N9 := Lib.hid ((N5.out.alloc hs5 (.cells #[.int .i64 n, .int .i64 y] 27)).grown hgrow (by simp; omega) (fun j e => (hown5.lt j e).1))
        have O9 := Lib.hid (show OwnsF w9 w2.heap.size v' (f.fs n R (j + 1)) by
          rw [FS.out]
          refine OwnsF.snoc ?_
          rw [FL.out]
          exact hown')
        clear hgrow hown5 hown'
        go_wp2
        go_roundw
        case rel => exact ⟨j + 1, by omega, by go_num, O9, N9⟩
        case measure => simp [intOf]; omega
      · obtain rfl : j = f.kids.length := by omega
        have d2 := kc HN.out d0
        have d3 := kc HN.out d1
        have g2 := kf HN.out d0 g0
        have g3 := kf HN.out d1 g1
        have HB3 := Lib.hid (bthen HB2.out HN.out)
        have PU := Lib.hid (show ∀ W, Below wr.heap.size wr W → Calls Tryz.prog 96 #[.agg #[.int .i64 (gM i : Int), .int .i64 (gX i : Int)], u7] W fun e w' => e = .returned (.agg #[.int .i64 n, .int .i64 (sumN f.ev R : Int)]) ∧ Below W.heap.size W w' from
          fun W hW => l05Put_kids ok trivial hi HM.out hk0 hk3 HV.out W (OwnsF.below O.out hW))
        clear d0 d1 g0 g1 HB2 HV PC O
        go_wp2_with (first
          | (go_at_call 97; refine (GT.out _).mono ?_; rintro e w5 ⟨rfl, hb5⟩; have d4 := kc hb5 d2; have d5 := kc hb5 d3; have g4 := kf hb5 d2 g2; have g5 := kf hb5 d3 g3; have HB5 := Lib.hid (bthen HB3.out hb5))
          | (go_at_call 96; refine (PU.out _ hb5).mono ?_; rintro e w6 ⟨rfl, hb6⟩; have d6 := kc hb6 d4; have d7 := kc hb6 d5; have g6 := kf hb6 d4 g4; have g7 := kf hb6 d5 g5; have HB6 := Lib.hid (bthen HB5.out hb6)))
        exact bodyPost_ret (v := .agg #[.int .i64 n, .int .i64 (sumN f.ev R : Int)]) (by simp [results, Tryz.results52, go_sem, d6, d7]) rfl ⟨rfl, (HB6.out.setCell (p := ⟨w.heap.size, 0, none⟩) (Nat.le_refl _) _).setCell (p := ⟨w.heap.size, 1, none⟩) (Nat.le_refl _) _⟩
end Go.Proofs.YtleighihfgabkaaGreatDoor

/- O12:
  Formulas in the model: FuncOfFormula. -/
namespace Go.Proofs.YtleighihfgabkaaGreatDoor
open Go.RowKit
set_option linter.unusedVariables false
set_option linter.unusedSimpArgs false

/-- The greatest variable of a text. -/
def mst1 (m : Int) (c : UInt8) : Int := if 97 ≤ c.toNat ∧ c.toNat ≤ 100 then max m ((c.toNat : Int) - 97) else m
def mst (l : List UInt8) : Int := l.foldl mst1 (-1)
theorem mst_bd (l : List UInt8) : -1 ≤ mst l ∧ mst l ≤ 3 := by
  have : ∀ (l : List UInt8) (m : Int), (-1 ≤ m ∧ m ≤ 3) → -1 ≤ l.foldl mst1 m ∧ l.foldl mst1 m ≤ 3 := by
    intro l
    induction l with
    | nil => intro m h; exact h
    | cons c l ih =>
      intro m h
      refine ih _ ?_
      unfold mst1
      split
      · omega
      · exact h
  exact this l (-1) (by decide)
theorem mst1_yes {m : Int} {c : UInt8} (h1 : 97 ≤ c.toNat) (h2 : c.toNat ≤ 100) : mst1 m c = if m < (c.toNat : Int) - 97 then (c.toNat : Int) - 97 else m := by
  unfold mst1
  rw [if_pos ⟨h1, h2⟩, Int.max_def]
  split <;> split <;> omega
theorem mst_take (s : ByteArray) (k : Nat) (h : k < s.size) : mst (s.data.toList.take (k + 1)) = mst1 (mst (s.data.toList.take k)) s[k] := by
  unfold mst
  rw [List.take_succ_eq_append_getElem (by rw [Array.length_toList]; exact h), List.foldl_append]
  rfl
set_option maxRecDepth 100000 in
set_option maxHeartbeats 4000000 in
theorem l05Most_any (s : ByteArray) (hs : s.size ≤ 1048576) (w : World) :
    Calls Tryz.prog 43 #[.string s] w fun e w' => e = .returned (.int .i64 (mst s.data.toList)) ∧ w = w' := by
  have hl : s.data.toList.length ≤ s.size := Nat.le_of_eq Array.length_toList
  go_enter Tryz.func43, Tryz.ntmps43
  go_wp2_with fail
  go_loop [3, 4] (fun c i => ∃ k : Nat, k ≤ s.size ∧ i = .int .i64 k ∧ c = .int .i64 (mst (s.data.toList.take k))) (fun _ i => s.size - (intOf i).toNat)
  case atStart => exact ⟨0, Nat.zero_le _, rfl, rfl⟩
  case round =>
    obtain ⟨k, hk, rfl, rfl⟩ := hrel
    by_cases hlt : k < s.size
    · have G := Lib.hid (mst_take s k hlt)
      have hb := mst_bd (s.data.toList.take k)
      obtain ⟨m, hm⟩ : ∃ m, mst (s.data.toList.take k) = m := ⟨_, rfl⟩
      rw [hm] at hb G
      rw [hm]
      have hm := Lib.hid hm
      have hz : s[k].toNat < 256 := UInt8.toNat_lt _
      by_cases h1 : 97 ≤ s[k].toNat
      · by_cases h2 : s[k].toNat ≤ 100
        · have b1 : decide ((97 : Int) ≤ (s[k].toNat : Int)) = true := by simp; omega
          have b2 : decide ((s[k].toNat : Int) ≤ 100) = true := by simp; omega
          have b3 : ((s[k].toNat : Int) - 97) % 256 = (s[k].toNat : Int) - 97 := by omega
          go_wp2_with fail
          go_round
          case rel => exact ⟨k + 1, by omega, by go_num, by rw [G.out, mst1_yes h1 h2]⟩
          case measure => simp [intOf]; omega
        · have b1 : decide ((97 : Int) ≤ (s[k].toNat : Int)) = true := by simp; omega
          have b2 : decide ((s[k].toNat : Int) ≤ 100) = false := by simp; omega
          go_wp2_with fail
          go_round
          case rel => exact ⟨k + 1, by omega, by go_num, by rw [G.out]; unfold mst1; rw [if_neg (fun h => h2 h.2)]⟩
          case measure => simp [intOf]; omega
      · have b1 : decide ((97 : Int) ≤ (s[k].toNat : Int)) = false := by simp; omega
        go_wp2_with fail
        go_round
        case rel => exact ⟨k + 1, by omega, by go_num, by rw [G.out]; unfold mst1; rw [if_neg (fun h => h1 h.1)]⟩
        case measure => simp [intOf]; omega
    · obtain rfl : k = s.size := by omega
      have e : s.data.toList.take s.size = s.data.toList := List.take_of_length_le hl
      rw [e]
      clear e
      go_wp2_with fail
      go_ret
      exact ⟨rfl, rfl⟩
set_option maxRecDepth 100000 in
set_option maxHeartbeats 4000000 in
theorem specFuncOfFormula_syn {s : ByteArray} (hs : s.size ≤ 1048576) (h : isFm s = false) (n : Int) (w : World) :
    Calls Tryz.prog 8 #[.int .i64 n, .string s] w fun e w' => e = .returned (.tuple #[.agg #[.int .i64 0, .int .i64 0], .int .i64 6]) ∧ Below w.heap.size w w' := by
  have I := Lib.hid (fun w => l05Is_is hs h w)
  obtain ⟨W1, hW1⟩ : ∃ W1, w.alloc (.cells #[.int .i64 0, .int .i64 0] 27) = W1 := ⟨_, rfl⟩
  have hb1 : Below w.heap.size w W1 := by rw [← hW1]; exact bnew _ _
  have c0 : W1.cell? ⟨w.heap.size, 0, none⟩ = some (.int .i64 0) := by rw [← hW1]; simp [go_sem]
  have c1 : W1.cell? ⟨w.heap.size, 1, none⟩ = some (.int .i64 0) := by rw [← hW1]; simp [go_sem]
  have f0 : W1.frozen? ⟨w.heap.size, 0, none⟩ = false := by rw [← hW1]; simp [go_sem]
  have f1 : W1.frozen? ⟨w.heap.size, 1, none⟩ = false := by rw [← hW1]; simp [go_sem]
  go_enter Tryz.func8, Tryz.ntmps8
  go_wp2_with (go_at_call 50; refine (I.out _).mono ?_; rintro e w' ⟨rfl, rfl⟩)
  exact bodyPost_ret (v := .tuple #[.agg #[.int .i64 0, .int .i64 0], .int .i64 6]) (by simp [results, Tryz.results8, go_sem, c0, c1]) rfl ⟨rfl, (hb1.setCell (p := ⟨w.heap.size, 0, none⟩) (Nat.le_refl _) _).setCell (p := ⟨w.heap.size, 1, none⟩) (Nat.le_refl _) _⟩
set_option maxRecDepth 100000 in
set_option maxHeartbeats 4000000 in
theorem specFuncOfFormula_rng {s : ByteArray} (hs : s.size ≤ 1048576) (h : isFm s = true) {n : Int} (hn : inB n 0 4 = false ∨ n ≤ mst s.data.toList) (w : World) :
    Calls Tryz.prog 8 #[.int .i64 n, .string s] w fun e w' => e = .returned (.tuple #[.agg #[.int .i64 0, .int .i64 0], .int .i64 2]) ∧ Below w.heap.size w w' := by
  have I := Lib.hid (fun w => l05Is_is hs h w)
  have M := Lib.hid (fun w => l05Most_any s hs w)
  obtain ⟨m, hm⟩ : ∃ m, mst s.data.toList = m := ⟨_, rfl⟩
  rw [hm] at M hn
  have H := Lib.hid hn
  clear hn hm
  generalize h1 : inB n 0 4 = x
  have N := Lib.hid (fun w => l01In_is h1 w)
  rw [h1] at H
  obtain ⟨W1, hW1⟩ : ∃ W1, w.alloc (.cells #[.int .i64 0, .int .i64 0] 27) = W1 := ⟨_, rfl⟩
  have hb1 : Below w.heap.size w W1 := by rw [← hW1]; exact bnew _ _
  have c0 : W1.cell? ⟨w.heap.size, 0, none⟩ = some (.int .i64 0) := by rw [← hW1]; simp [go_sem]
  have c1 : W1.cell? ⟨w.heap.size, 1, none⟩ = some (.int .i64 0) := by rw [← hW1]; simp [go_sem]
  have f0 : W1.frozen? ⟨w.heap.size, 0, none⟩ = false := by rw [← hW1]; simp [go_sem]
  have f1 : W1.frozen? ⟨w.heap.size, 1, none⟩ = false := by rw [← hW1]; simp [go_sem]
  cases x
  · clear H h1
    go_enter Tryz.func8, Tryz.ntmps8
    go_wp2_with (first
      | (go_at_call 50; refine (I.out _).mono ?_; rintro e w' ⟨rfl, rfl⟩)
      | (go_at_call 51; refine (N.out _).mono ?_; rintro e w' ⟨rfl, rfl⟩))
    exact bodyPost_ret (v := .tuple #[.agg #[.int .i64 0, .int .i64 0], .int .i64 2]) (by simp [results, Tryz.results8, go_sem, c0, c1]) rfl ⟨rfl, (hb1.setCell (p := ⟨w.heap.size, 0, none⟩) (Nat.le_refl _) _).setCell (p := ⟨w.heap.size, 1, none⟩) (Nat.le_refl _) _⟩
  · have b : decide (n ≤ m) = true := by simpa using H.out
    clear H h1
    go_enter Tryz.func8, Tryz.ntmps8
    go_wp2_with (first
      | (go_at_call 50; refine (I.out _).mono ?_; rintro e w' ⟨rfl, rfl⟩)
      | (go_at_call 51; refine (N.out _).mono ?_; rintro e w' ⟨rfl, rfl⟩)
      | (go_at_call 43; refine (M.out _).mono ?_; rintro e w' ⟨rfl, rfl⟩))
    exact bodyPost_ret (v := .tuple #[.agg #[.int .i64 0, .int .i64 0], .int .i64 2]) (by simp [results, Tryz.results8, go_sem, c0, c1]) rfl ⟨rfl, (hb1.setCell (p := ⟨w.heap.size, 0, none⟩) (Nat.le_refl _) _).setCell (p := ⟨w.heap.size, 1, none⟩) (Nat.le_refl _) _⟩
set_option maxRecDepth 100000 in
set_option maxHeartbeats 4000000 in
theorem specFuncOfFormula_yes {f : Fm} (wf : f.wf) (hsz : f.txt.length ≤ 60) {n : Int} {R : Nat} (ok : FOk n 0 R) (hn : mst f.txt < n) (w : World) :
    Calls Tryz.prog 8 #[.int .i64 n, .string f.bytes] w fun e w' => e = .returned (.tuple #[.agg #[.int .i64 n, .int .i64 (sumN f.ev R : Int)], .int .i64 0]) ∧ Below w.heap.size w w' := by
  have hz : f.bytes.size ≤ 60 := by rw [f.bytes_size]; exact hsz
  have h : isFm f.bytes = true := isFm_iff.2 ⟨hz, f, wf, f.bytes_list⟩
  have I := Lib.hid (fun w => l05Is_is (by omega) h w)
  have M := Lib.hid (fun w => l05Most_any f.bytes (by omega) w)
  rw [f.bytes_list] at M
  have FF := Lib.hid (fun w => l05Func_any ok 60 f wf hsz (by decide) w)
  obtain ⟨m, hm⟩ : ∃ m, mst f.txt = m := ⟨_, rfl⟩
  rw [hm] at M hn
  have b : decide (n ≤ m) = false := by simp; omega
  have h1 : inB n 0 4 = true := by have := ok.h0; have := ok.h4; simp [inB]; omega
  have N := Lib.hid (fun w => l01In_is h1 w)
  clear hn hm h h1
  generalize f.bytes = T at *
  obtain ⟨W1, hW1⟩ : ∃ W1, w.alloc (.cells #[.int .i64 0, .int .i64 0] 27) = W1 := ⟨_, rfl⟩
  have hb1 : Below w.heap.size w W1 := by rw [← hW1]; exact bnew _ _
  have c0 : W1.cell? ⟨w.heap.size, 0, none⟩ = some (.int .i64 0) := by rw [← hW1]; simp [go_sem]
  have c1 : W1.cell? ⟨w.heap.size, 1, none⟩ = some (.int .i64 0) := by rw [← hW1]; simp [go_sem]
  have f0 : W1.frozen? ⟨w.heap.size, 0, none⟩ = false := by rw [← hW1]; simp [go_sem]
  have f1 : W1.frozen? ⟨w.heap.size, 1, none⟩ = false := by rw [← hW1]; simp [go_sem]
  go_enter Tryz.func8, Tryz.ntmps8
  go_wp2_with (first
      | (go_at_call 50; refine (I.out _).mono ?_; rintro e w' ⟨rfl, rfl⟩)
      | (go_at_call 51; refine (N.out _).mono ?_; rintro e w' ⟨rfl, rfl⟩)
      | (go_at_call 43; refine (M.out _).mono ?_; rintro e w' ⟨rfl, rfl⟩)
      | (go_at_call 52; refine (FF.out _).mono ?_; rintro e w2 ⟨rfl, hb2⟩; have d0 := kc hb2 c0; have d1 := kc hb2 c1; have g0 := kf hb2 c0 f0; have g1 := kf hb2 c1 f1; have HB2 := Lib.hid (bthen hb1 hb2)))
  exact bodyPost_ret (v := .tuple #[.agg #[.int .i64 n, .int .i64 (sumN f.ev R : Int)], .int .i64 0]) (by simp [results, Tryz.results8, go_sem, d0, d1]) rfl ⟨rfl, (HB2.out.setCell (p := ⟨w.heap.size, 0, none⟩) (Nat.le_refl _) _).setCell (p := ⟨w.heap.size, 1, none⟩) (Nat.le_refl _) _⟩
end Go.Proofs.YtleighihfgabkaaGreatDoor

/- O19:
  Formulas in the model: draws. -/
namespace Go.Proofs.YtleighihfgabkaaGreatDoor
open Go.RowKit
set_option linter.unusedVariables false
set_option linter.unusedSimpArgs false

def lfT (i : Nat) : ByteArray := ([⟨#[48]⟩, ⟨#[49]⟩, ⟨#[97]⟩, ⟨#[98]⟩, ⟨#[99]⟩, ⟨#[100]⟩][i]?).getD ⟨#[]⟩
def gtX (i : Nat) : ByteArray := ([⟨#[33]⟩, ⟨#[38]⟩, ⟨#[124]⟩, ⟨#[94]⟩, ⟨#[38]⟩, ⟨#[124]⟩, ⟨#[63]⟩, ⟨#[77]⟩][i]?).getD ⟨#[]⟩
/-- A draw of a text of 1 to B bytes. -/
def TxtPost (b : Nat) (a : Option Addr) (len cap B : Nat) (w : World) (e : Ending) (w' : World) : Prop :=
  ∃ t : ByteArray, e = .returned (.string t) ∧ 1 ≤ t.size ∧ t.size ≤ B ∧ SrcOk b a len cap w' ∧ w.grownBy w' (some b)
set_option maxRecDepth 100000 in
set_option maxHeartbeats 16000000 in
theorem l05DrawOf_low {b : Nat} {a : Option Addr} {len cap : Nat} {n d : Int} (h4 : n ≤ 4) (hd : d < 1) {B : Nat} (hB1 : 1 ≤ B) (w : World) (S : SrcOk b a len cap w) :
    Calls Tryz.prog 62 #[.pointer (some ⟨b, 0, none⟩), .int .i64 n, .int .i64 d] w (TxtPost b a len cap B w) := by
  have hlt := S.lt
  obtain ⟨W1, hW1⟩ : ∃ W1, w.alloc (.cells #[.string ⟨#[48]⟩, .string ⟨#[49]⟩, .string ⟨#[97]⟩, .string ⟨#[98]⟩, .string ⟨#[99]⟩, .string ⟨#[100]⟩] 9) = W1 := ⟨_, rfl⟩
  have hb1 : Below w.heap.size w W1 := by rw [← hW1]; exact bnew _ _
  have HC1 := Lib.hid (show ∀ j, j < 6 → W1.cell? ⟨w.heap.size, j, none⟩ = some (.string (lfT j)) by
    intro j hj
    rcases (show j = 0 ∨ j = 1 ∨ j = 2 ∨ j = 3 ∨ j = 4 ∨ j = 5 by omega) with rfl | rfl | rfl | rfl | rfl | rfl
    all_goals (rw [← hW1]; simp [go_sem, lfT]))
  have HS1 := Lib.hid (S.below hb1)
  have HG1 := Lib.hid (gOf hb1 b)
  have hnb : ¬ w.heap.size = b := by omega
  clear S hb1
  have bd : decide (d < 1) = true := by simp; omega
  go_enter Tryz.func62, Tryz.ntmps62
  by_cases hn0 : 0 < n
  · have bn : decide (0 < n) = true := by simp; omega
    go_wp2_with fail
    refine (next_ok 5 (by decide) (by decide) _ HS1.out).mono ?_
    rintro e w5 ⟨y, rfl, y0, y1, S5, G5⟩
    have HS5 := Lib.hid S5
    have HG5 := Lib.hid (gGo HG1.out G5)
    have HC5 := Lib.hid (fun j (hj : j < 6) => kcg G5 (p := ⟨w.heap.size, j, none⟩) hnb (HC1.out j hj))
    clear S5 G5
    by_cases hy : 0 < y
    · have by1 : decide (0 < y) = true := by simp; omega
      go_wp2_with fail
      refine (next_ok (n) (by omega) (by omega) _ HS5.out).mono ?_
      rintro e w6 ⟨x6, rfl, x0, x1, S6, G6⟩
      have HS6 := Lib.hid S6
      have HG6 := Lib.hid (gGo HG5.out G6)
      have HC6 := Lib.hid (fun j (hj : j < 6) => kcg G6 (p := ⟨w.heap.size, j, none⟩) hnb (HC5.out j hj))
      clear S6 G6
      rcases (show x6 = 0 ∨ x6 = 1 ∨ x6 = 2 ∨ x6 = 3 by omega) with rfl | rfl | rfl | rfl
      · have hc := HC6.out 2 (by decide)
        rw [show lfT 2 = ⟨#[97]⟩ from rfl] at hc
        clear HC1 HC6
        go_wp2
        go_ret
        exact ⟨_, rfl, by decide, hB1, HS6.out, HG6.out⟩
      · have hc := HC6.out 3 (by decide)
        rw [show lfT 3 = ⟨#[98]⟩ from rfl] at hc
        clear HC1 HC6
        go_wp2
        go_ret
        exact ⟨_, rfl, by decide, hB1, HS6.out, HG6.out⟩
      · have hc := HC6.out 4 (by decide)
        rw [show lfT 4 = ⟨#[99]⟩ from rfl] at hc
        clear HC1 HC6
        go_wp2
        go_ret
        exact ⟨_, rfl, by decide, hB1, HS6.out, HG6.out⟩
      · have hc := HC6.out 5 (by decide)
        rw [show lfT 5 = ⟨#[100]⟩ from rfl] at hc
        clear HC1 HC6
        go_wp2
        go_ret
        exact ⟨_, rfl, by decide, hB1, HS6.out, HG6.out⟩
    · have by1 : decide (0 < y) = false := by simp; omega
      go_wp2_with fail
      refine (next_ok (2) (by omega) (by omega) _ HS5.out).mono ?_
      rintro e w6 ⟨x6, rfl, x0, x1, S6, G6⟩
      have HS6 := Lib.hid S6
      have HG6 := Lib.hid (gGo HG5.out G6)
      have HC6 := Lib.hid (fun j (hj : j < 6) => kcg G6 (p := ⟨w.heap.size, j, none⟩) hnb (HC5.out j hj))
      clear S6 G6
      rcases (show x6 = 0 ∨ x6 = 1 by omega) with rfl | rfl
      · have hc := HC6.out 0 (by decide)
        rw [show lfT 0 = ⟨#[48]⟩ from rfl] at hc
        clear HC1 HC6
        go_wp2
        go_ret
        exact ⟨_, rfl, by decide, hB1, HS6.out, HG6.out⟩
      · have hc := HC6.out 1 (by decide)
        rw [show lfT 1 = ⟨#[49]⟩ from rfl] at hc
        clear HC1 HC6
        go_wp2
        go_ret
        exact ⟨_, rfl, by decide, hB1, HS6.out, HG6.out⟩
  · have bn : decide (0 < n) = false := by simp; omega
    go_wp2_with fail
    refine (next_ok (2) (by omega) (by omega) _ HS1.out).mono ?_
    rintro e w6 ⟨x6, rfl, x0, x1, S6, G6⟩
    have HS6 := Lib.hid S6
    have HG6 := Lib.hid (gGo HG1.out G6)
    have HC6 := Lib.hid (fun j (hj : j < 6) => kcg G6 (p := ⟨w.heap.size, j, none⟩) hnb (HC1.out j hj))
    clear S6 G6
    rcases (show x6 = 0 ∨ x6 = 1 by omega) with rfl | rfl
    · have hc := HC6.out 0 (by decide)
      rw [show lfT 0 = ⟨#[48]⟩ from rfl] at hc
      clear HC1 HC6
      go_wp2
      go_ret
      exact ⟨_, rfl, by decide, hB1, HS6.out, HG6.out⟩
    · have hc := HC6.out 1 (by decide)
      rw [show lfT 1 = ⟨#[49]⟩ from rfl] at hc
      clear HC1 HC6
      go_wp2
      go_ret
      exact ⟨_, rfl, by decide, hB1, HS6.out, HG6.out⟩
theorem gtX_pl : ∀ k < 8, (gtX k).size = 1 ∧ ∃ h : 0 < (gtX k).size, ∃ p : Nat, plI ((gtX k)[0]'h) = (p : Int) ∧ 1 ≤ p ∧ p ≤ 3 := by
  intro k hk
  rcases (show k = 0 ∨ k = 1 ∨ k = 2 ∨ k = 3 ∨ k = 4 ∨ k = 5 ∨ k = 6 ∨ k = 7 by omega) with rfl | rfl | rfl | rfl | rfl | rfl | rfl | rfl
  · exact ⟨rfl, by decide, 1, by decide, by decide, by decide⟩
  · exact ⟨rfl, by decide, 2, by decide, by decide, by decide⟩
  · exact ⟨rfl, by decide, 2, by decide, by decide, by decide⟩
  · exact ⟨rfl, by decide, 2, by decide, by decide, by decide⟩
  · exact ⟨rfl, by decide, 2, by decide, by decide, by decide⟩
  · exact ⟨rfl, by decide, 2, by decide, by decide, by decide⟩
  · exact ⟨rfl, by decide, 3, by decide, by decide, by decide⟩
  · exact ⟨rfl, by decide, 3, by decide, by decide, by decide⟩
set_option maxRecDepth 100000 in
set_option maxHeartbeats 16000000 in
theorem l05DrawOf_any {b : Nat} {a : Option Addr} {len cap : Nat} {n : Int} (h4 : n ≤ 4) : ∀ (N : Nat), N ≤ 6 → ∀ (d : Int), d ≤ (N : Int) → -1000 ≤ d → ∀ (w : World), SrcOk b a len cap w →
    Calls Tryz.prog 62 #[.pointer (some ⟨b, 0, none⟩), .int .i64 n, .int .i64 d] w (TxtPost b a len cap (4 ^ N) w) := by
  intro N
  induction N with
  | zero => intro _ d hd _ w S; exact l05DrawOf_low h4 (by omega) (by decide) w S
  | succ N ih =>
    intro hN6 d hd hdl w S
    have ih := fun d h1 h2 w S => ih (by omega) d h1 h2 w S
    have hN5 : N ≤ 5 := by omega
    have hB1 : 1 ≤ 4 ^ (N + 1) := Nat.pow_pos (by decide)
    by_cases hd1 : d < 1
    · exact l05DrawOf_low h4 hd1 hB1 w S
    have hlt := S.lt
    obtain ⟨W1, hW1⟩ : ∃ W1, w.alloc (.cells #[.string ⟨#[48]⟩, .string ⟨#[49]⟩, .string ⟨#[97]⟩, .string ⟨#[98]⟩, .string ⟨#[99]⟩, .string ⟨#[100]⟩] 9) = W1 := ⟨_, rfl⟩
    have hb1 : Below w.heap.size w W1 := by rw [← hW1]; exact bnew _ _
    have HC1 := Lib.hid (show ∀ j, j < 6 → W1.cell? ⟨w.heap.size, j, none⟩ = some (.string (lfT j)) by
      intro j hj
      rcases (show j = 0 ∨ j = 1 ∨ j = 2 ∨ j = 3 ∨ j = 4 ∨ j = 5 by omega) with rfl | rfl | rfl | rfl | rfl | rfl
      all_goals (rw [← hW1]; simp [go_sem, lfT]))
    have HS1 := Lib.hid (S.below hb1)
    have HG1 := Lib.hid (gOf hb1 b)
    have hnb : ¬ w.heap.size = b := by omega
    clear S hb1
    have bd : decide (d < 1) = false := by simp; omega
    go_enter Tryz.func62, Tryz.ntmps62
    go_wp2_with fail
    clear hW1
    refine (next_ok 5 (by decide) (by decide) _ HS1.out).mono ?_
    rintro e w3 ⟨x, rfl, x0, x1, S3, G3⟩
    have HS3 := Lib.hid S3
    have HG3 := Lib.hid (gGo HG1.out G3)
    have HC3 := Lib.hid (fun j (hj : j < 6) => kcg G3 (p := ⟨w.heap.size, j, none⟩) hnb (HC1.out j hj))
    clear S3 G3
    by_cases hx : x = 0
    · subst hx
      by_cases hn0 : 0 < n
      · have bn : decide (0 < n) = true := by simp; omega
        go_wp2_with fail
        refine (next_ok 5 (by decide) (by decide) _ HS3.out).mono ?_
        rintro e w5 ⟨y, rfl, y0, y1, S5, G5⟩
        have HS5 := Lib.hid S5
        have HG5 := Lib.hid (gGo HG3.out G5)
        have HC5 := Lib.hid (fun j (hj : j < 6) => kcg G5 (p := ⟨w.heap.size, j, none⟩) hnb (HC3.out j hj))
        clear S5 G5
        by_cases hy : 0 < y
        · have by1 : decide (0 < y) = true := by simp; omega
          go_wp2_with fail
          refine (next_ok (n) (by omega) (by omega) _ HS5.out).mono ?_
          rintro e w6 ⟨x6, rfl, x0, x1, S6, G6⟩
          have HS6 := Lib.hid S6
          have HG6 := Lib.hid (gGo HG5.out G6)
          have HC6 := Lib.hid (fun j (hj : j < 6) => kcg G6 (p := ⟨w.heap.size, j, none⟩) hnb (HC5.out j hj))
          clear S6 G6
          rcases (show x6 = 0 ∨ x6 = 1 ∨ x6 = 2 ∨ x6 = 3 by omega) with rfl | rfl | rfl | rfl
          · have hc := HC6.out 2 (by decide)
            rw [show lfT 2 = ⟨#[97]⟩ from rfl] at hc
            clear HC1 HC6
            go_wp2
            go_ret
            exact ⟨_, rfl, by decide, hB1, HS6.out, HG6.out⟩
          · have hc := HC6.out 3 (by decide)
            rw [show lfT 3 = ⟨#[98]⟩ from rfl] at hc
            clear HC1 HC6
            go_wp2
            go_ret
            exact ⟨_, rfl, by decide, hB1, HS6.out, HG6.out⟩
          · have hc := HC6.out 4 (by decide)
            rw [show lfT 4 = ⟨#[99]⟩ from rfl] at hc
            clear HC1 HC6
            go_wp2
            go_ret
            exact ⟨_, rfl, by decide, hB1, HS6.out, HG6.out⟩
          · have hc := HC6.out 5 (by decide)
            rw [show lfT 5 = ⟨#[100]⟩ from rfl] at hc
            clear HC1 HC6
            go_wp2
            go_ret
            exact ⟨_, rfl, by decide, hB1, HS6.out, HG6.out⟩
        · have by1 : decide (0 < y) = false := by simp; omega
          go_wp2_with fail
          refine (next_ok (2) (by omega) (by omega) _ HS5.out).mono ?_
          rintro e w6 ⟨x6, rfl, x0, x1, S6, G6⟩
          have HS6 := Lib.hid S6
          have HG6 := Lib.hid (gGo HG5.out G6)
          have HC6 := Lib.hid (fun j (hj : j < 6) => kcg G6 (p := ⟨w.heap.size, j, none⟩) hnb (HC5.out j hj))
          clear S6 G6
          rcases (show x6 = 0 ∨ x6 = 1 by omega) with rfl | rfl
          · have hc := HC6.out 0 (by decide)
            rw [show lfT 0 = ⟨#[48]⟩ from rfl] at hc
            clear HC1 HC6
            go_wp2
            go_ret
            exact ⟨_, rfl, by decide, hB1, HS6.out, HG6.out⟩
          · have hc := HC6.out 1 (by decide)
            rw [show lfT 1 = ⟨#[49]⟩ from rfl] at hc
            clear HC1 HC6
            go_wp2
            go_ret
            exact ⟨_, rfl, by decide, hB1, HS6.out, HG6.out⟩
      · have bn : decide (0 < n) = false := by simp; omega
        go_wp2_with fail
        refine (next_ok (2) (by omega) (by omega) _ HS3.out).mono ?_
        rintro e w6 ⟨x6, rfl, x0, x1, S6, G6⟩
        have HS6 := Lib.hid S6
        have HG6 := Lib.hid (gGo HG3.out G6)
        have HC6 := Lib.hid (fun j (hj : j < 6) => kcg G6 (p := ⟨w.heap.size, j, none⟩) hnb (HC3.out j hj))
        clear S6 G6
        rcases (show x6 = 0 ∨ x6 = 1 by omega) with rfl | rfl
        · have hc := HC6.out 0 (by decide)
          rw [show lfT 0 = ⟨#[48]⟩ from rfl] at hc
          clear HC1 HC6
          go_wp2
          go_ret
          exact ⟨_, rfl, by decide, hB1, HS6.out, HG6.out⟩
        · have hc := HC6.out 1 (by decide)
          rw [show lfT 1 = ⟨#[49]⟩ from rfl] at hc
          clear HC1 HC6
          go_wp2
          go_ret
          exact ⟨_, rfl, by decide, hB1, HS6.out, HG6.out⟩
    · have bx : (x == 0) = false := by simpa using hx
      clear HC1 HS1 HG1
      obtain ⟨W4, hW4⟩ : ∃ W4, w3.alloc (.cells #[.string ⟨#[33]⟩, .string ⟨#[38]⟩, .string ⟨#[124]⟩, .string ⟨#[94]⟩, .string ⟨#[38]⟩, .string ⟨#[124]⟩, .string ⟨#[63]⟩, .string ⟨#[77]⟩] 9) = W4 := ⟨_, rfl⟩
      have hb4 : Below w3.heap.size w3 W4 := by rw [← hW4]; exact bnew _ _
      have HC4 := Lib.hid (show ∀ j, j < 8 → W4.cell? ⟨w3.heap.size, j, none⟩ = some (.string (gtX j)) by
        intro j hj
        rcases (show j = 0 ∨ j = 1 ∨ j = 2 ∨ j = 3 ∨ j = 4 ∨ j = 5 ∨ j = 6 ∨ j = 7 by omega) with rfl | rfl | rfl | rfl | rfl | rfl | rfl | rfl
        all_goals (rw [← hW4]; simp [go_sem, gtX]))
      have hl3 := HS3.out.lt
      have hnb3 : ¬ w3.heap.size = b := by omega
      have HS4 := Lib.hid (HS3.out.below hb4)
      have HG4 := Lib.hid (gGo HG3.out (gOf hb4 b))
      clear hb4 HS3 HG3 HC3
      go_wp2_with fail
      clear hW4
      refine (next_ok 8 (by decide) (by decide) _ HS4.out).mono ?_
      rintro e w5 ⟨k0, rfl, x0, x1, S5, G5⟩
      obtain ⟨k, rfl⟩ := Int.eq_ofNat_of_zero_le x0
      have hk8 : k < 8 := by omega
      have hck := kcg G5 (p := ⟨w3.heap.size, k, none⟩) hnb3 (HC4.out k hk8)
      have HS5 := Lib.hid S5
      have HG5 := Lib.hid (gGo HG4.out G5)
      obtain ⟨hT1, hT0, p, hp, hp1, hp3⟩ := gtX_pl k hk8
      have P := Lib.hid (fun w => l05Places_any ((gtX k)[0]'hT0) w)
      rw [hp] at P
      clear S5 G5 HC4 HS4 HG4 hp
      generalize gtX k = T at *
      go_wp2_with (go_at_call 94; refine (P.out _).mono ?_; rintro e w' ⟨rfl, rfl⟩)
      go_loopw [10, 11] (fun tx pl wr => ∃ (T : ByteArray) (p : Nat), tx = .string T ∧ pl = .int .i64 p ∧ p ≤ 3 ∧ 1 ≤ T.size ∧ T.size + p * 4 ^ N ≤ 1 + 3 * 4 ^ N ∧ Hid (SrcOk b a len cap wr) ∧ Hid (w.grownBy wr (some b))) (fun _ pl _ => (intOf pl).toNat)
      case atStart => exact ⟨T, p, rfl, rfl, hp3, by omega, by have := Nat.mul_le_mul_right (4 ^ N) hp3; omega, HS5, HG5⟩
      case round =>
        clear HS5 HG5 P hck
        obtain ⟨T, p, rfl, rfl, hp3, hT1, hTB, HS, HG⟩ := hrel
        have h4N : 4 ^ N ≤ 1024 := by have := Nat.pow_le_pow_right (show 0 < 4 by decide) hN5; have e : 4 ^ 5 = 1024 := rfl; omega
        by_cases hp0 : 0 < p
        · have I := ih (d - 1) (by omega) (by omega) wr HS.out
          have I := Lib.hid I
          have bp : decide (0 < (p : Int)) = true := by simp; omega
          go_wp2_with fail
          refine I.out.mono ?_
          rintro e w7 ⟨t, rfl, ht1, htB, S7, G7⟩
          have HS7 := Lib.hid S7
          have HG7 := Lib.hid (gGo HG.out G7)
          have hpm : p * 4 ^ N = (p - 1) * 4 ^ N + 4 ^ N := by obtain ⟨q, rfl⟩ : ∃ q, p = q + 1 := ⟨p - 1, by omega⟩; rw [Nat.add_sub_cancel, Nat.add_mul, Nat.one_mul]
          have hTs : T.size ≤ 4096 := by omega
          have hts : t.size ≤ 4096 := by omega
          have n0 : ¬ (9223372036854775807 < T.size + t.size) := by omega
          have HX := Lib.hid (show (T ++ t).size + (p - 1) * 4 ^ N ≤ 1 + 3 * 4 ^ N by rw [ByteArray.size_append]; omega)
          clear S7 G7 HS HG I hTB hpm htB h4N
          go_wp2_with fail
          go_roundw
          case rel => exact ⟨T ++ t, p - 1, rfl, by go_num, by omega, by rw [ByteArray.size_append]; omega, HX.out, HS7, HG7⟩
          case measure => simp [intOf]; omega
        · obtain rfl : p = 0 := by omega
          go_wp2_with fail
          go_ret
          exact ⟨T, rfl, hT1, by rw [Nat.pow_succ]; omega, HS.out, HG.out⟩
end Go.Proofs.YtleighihfgabkaaGreatDoor
