/-
  The texts NV1, NV2, CN28, CN30, CN31, CN31E, CN31I, CN31V, CN31n, CN29, CN32 in one.
-/
import Derived.Test.YthkmapflbopdpaaDoorMPGeneratorsOf4
import Derived.Deep.RegionHeld3
import Derived.Deep.AppendLies

/- NV1:
  What a function makes of tuples, in the model. -/
namespace Go.Proofs.YthkmapflbopdpaaDoor
open Go.RowKit
set_option linter.unusedVariables false
set_option linter.unusedSimpArgs false

theorem or_plus (a b i : Nat) (ha : a < 2 ^ i) (hb : b ≤ 1) (hi : i < 16) : bits .or .i64 (a : Int) (wrap64 ((b : Int) * 2 ^ i)) = ((a + b * 2 ^ i : Nat) : Int) := by
  have h16 : 2 ^ i ≤ 65536 := Nat.le_trans (Nat.pow_le_pow_right (by decide) (Nat.le_of_lt hi)) (by decide : 2 ^ 16 ≤ 65536)
  have hor : a ||| b * 2 ^ i = a + b * 2 ^ i := by
    have := Nat.two_pow_add_eq_or_of_lt ha b
    rw [Nat.or_comm, Nat.mul_comm b, ← this, Nat.add_comm]
  have e : (b : Int) * 2 ^ i = ((b * 2 ^ i : Nat) : Int) := by push_cast; rfl
  have hle : b * 2 ^ i ≤ 1 * 2 ^ i := Nat.mul_le_mul_right _ hb
  rw [Nat.one_mul] at hle
  rw [e, ← hor]
  generalize b * 2 ^ i = q at hle
  generalize 2 ^ i = z at ha h16 hle
  rw [IntWalk.wrap64_in _ ⟨by omega, by omega⟩]
  exact bits_or_nat _ _ (by omega) (by omega)

theorem rowP_take (p : List Nat) (i k : Nat) (hi : i < p.length) : rowP (p.take (i + 1)) k = rowP (p.take i) k + bitN (p[i]?.getD 0) k * 2 ^ i := by
  rw [List.take_succ_eq_append_getElem hi, rowP_snoc, List.length_take, Nat.min_eq_left (by omega), bitN_testBit, List.getElem?_eq_getElem hi]
  rfl

end Go.Proofs.YthkmapflbopdpaaDoor

/- NV2:
  All that a function makes of tuples of a relation, in the model; what is kept. -/
namespace Go.Proofs.YthkmapflbopdpaaDoor
open Go.RowKit
set_option linter.unusedVariables false
set_option linter.unusedSimpArgs false

/-- The first j of what is put in next. -/
def madeTo (x P : Nat) (gs b : List Nat) (m j : Nat) : List Nat := (gs.take j).flatMap fun a => madeL x P gs (b ++ [a]) m
theorem madeTo_succ (x P : Nat) (gs b : List Nat) (m j a : Nat) (h : gs[j]? = some a) : madeTo x P gs b m (j + 1) = madeTo x P gs b m j ++ madeL x P gs (b ++ [a]) m := by
  obtain ⟨hj, e⟩ := List.getElem?_eq_some_iff.1 h
  unfold madeTo
  rw [List.take_succ_eq_append_getElem hj, List.flatMap_append, e]
  simp
theorem madeTo_all (x P : Nat) (gs b : List Nat) (m : Nat) : madeL x P gs b (m + 1) = madeTo x P gs b m gs.length := by
  rw [madeL_succ, madeTo, List.take_length]
theorem or_made {x P R : Nat} (hR : R = 2 ^ P) (hR16 : R ≤ 16) (gs b : List Nat) (m : Nat) : orL 0 (madeL x P gs b m) < 65536 := by
  have h : orL 0 (madeL x P gs b m) < 2 ^ R := orL_lt (Nat.two_pow_pos R) (fun t ht => by rw [hR]; exact madeL_lt ht)
  exact Nat.lt_of_lt_of_le h (Nat.le_trans (Nat.pow_le_pow_right (by decide) hR16) (by decide : 2 ^ 16 ≤ 65536))
theorem or_madeTo {x P R : Nat} (hR : R = 2 ^ P) (hR16 : R ≤ 16) (gs b : List Nat) (m j : Nat) : orL 0 (madeTo x P gs b m j) < 65536 := by
  have h : orL 0 (madeTo x P gs b m j) < 2 ^ R := orL_lt (Nat.two_pow_pos R) (fun t ht => by
    obtain ⟨a, _, h2⟩ := List.mem_flatMap.1 ht
    rw [hR]; exact madeL_lt h2)
  exact Nat.lt_of_lt_of_le h (Nat.le_trans (Nat.pow_le_pow_right (by decide) hR16) (by decide : 2 ^ 16 ≤ 65536))
theorem pow_shift (t : Nat) (ht : t < 16) : IntKind.i64.wrap ((2 : Int) ^ t) = ((2 ^ t : Nat) : Int) := by
  have e : (2 : Int) ^ t = ((2 ^ t : Nat) : Int) := by push_cast; rfl
  have h16 : 2 ^ t ≤ 65536 := Nat.le_trans (Nat.pow_le_pow_right (by decide) (Nat.le_of_lt ht)) (by decide : 2 ^ 16 ≤ 65536)
  rw [e]
  generalize 2 ^ t = z at h16
  exact wrap64_small (by omega) (by omega)

/-- The cells of a list of numbers that is only read. -/
def RdL (w : World) (g : Nat) (b : List Nat) : Prop := Hid (∀ j, j < b.length → w.cell? ⟨g, j, none⟩ = some (.int .i64 ((b[j]?.getD 0 : Nat) : Int)))
theorem RdL.below {w w' : World} {g : Nat} {b : List Nat} (h : RdL w g b) (hb : Below w.heap.size w w') : RdL w' g b := Lib.hid fun j hj => kc hb (h.out j hj)
theorem RdL.of {W : World} {base : Nat} {s : Value} {b : List Nat} (h : Owns W base s (nI b)) (hb : 0 < b.length) : ∃ g c, s = .slice (some ⟨g, 0, none⟩) b.length c ∧ RdL W g b := by
  rcases h.shape with ⟨e, _⟩ | ⟨_, g, c, e, _, _, hc, _⟩
  · have := congrArg List.length e; rw [nI_length] at this; simp at this; rw [this] at hb; simp at hb
  · rw [nI_length] at e hc
    exact ⟨g, c, e, Lib.hid fun j hj => by rw [hc.out j hj, nI_get b j hj]⟩

theorem step_append_nv {P : Program} (w : World) {ops : Array Oper} {o : Oper} {a : Act} {K : Act → World → Prop} {Q : Exit → Act → World → Prop} {E : Prop}
    (hg : o.guard = none) (s x : Operand) (t : TypeId) (hop : o.op = Op.call { callee := Callee.builtin Builtin.append, args := #[s, x], argTypes := #[t, t] })
    (base : Nat) (e : TypeId) (i : TypeInfo) (z : Value) (size bytes : Nat) (h1 : P.underlying t = some (.slice e)) (h2 : P.info? e = some i) (h3 : i.zero = some z) (h4 : i.size = size) (h5 : i.bytes = bytes) (h6 : z.cells.size = size) (h7 : 0 < size)
    (v : Value) (k : Nat) (xs : List Value) (hs : a.eval s = v) (hown : w.ownsRow base e size v k xs) (ad : Addr) (m c : Nat) (news : List Value) (hx : a.eval x = .slice (some ad) m c) (hn : news.length = m * size)
    (hc : ∀ j u, news[j]? = some u → w.cell? (ad.add j) = some u) (h1c : ∀ u ∈ news, u.oneCell' = true) (b1 : k + m ≤ maxLen) (b2 : (k + m) * bytes ≤ 140737488355328) (b3 : base ≤ w.heap.size)
    (hK : ∀ v' w', w'.ownsRow base e size v' (k + m) (xs ++ news) → w.grownBy w' v.ownBlock → K (a.put o.dst v') w') :
    if Region.wanted o (yielded ops a.tmps) = true then Oper.wp P o a w K Q else E := by
  rw [if_pos (by simp [Region.wanted, hg])]
  obtain ⟨v', w', hrun, r1, r2, _⟩ := run_append_own (P := P) w base t o.type e i z size bytes h1 h2 h3 h4 h5 h6 h7 v k xs hown ad m c news hn hc h1c b1 b2 b3
  unfold Oper.wp
  simp [execOp, hop, resolve, invoke, builtin, hs, hx, hrun, Result.andThen]
  exact hK _ _ r1 r2

theorem add_nv (g a j : Nat) : (⟨g, a, none⟩ : Addr).add j = ⟨g, a + j, none⟩ := by
  simp only [Addr.add]
  split <;> simp_all
theorem cell_of_nI {W : World} {base : Nat} {gs : List Nat} {g cap : Nat} (h : Owns W base (.slice (some ⟨g, 0, none⟩) gs.length cap) (nI gs)) (j a : Nat) (ha : gs[j]?.getD 0 = a) (hj : j < gs.length) : W.cell? ⟨g, j, none⟩ = some (.int .i64 (a : Int)) := by
  obtain ⟨g', c', e, hc⟩ := RdL.of h (by omega)
  injection e with e1 _ _
  injection e1 with e1
  injection e1 with e1 _ _
  subst e1
  rw [hc.out j hj, ha]

theorem Owns.below' {W W' : World} {base : Nat} {s : Value} {xs : List Int} (h : Owns W base s xs) (hb : Below W.heap.size W W') : Owns W' base s xs := h.below hb

end Go.Proofs.YthkmapflbopdpaaDoor

/- CN28:
  has of the program: a function added to the generators. -/
namespace Go.Proofs.YthkmapflbopdpaaDoor
open Go.RowKit Go.Shelf
set_option linter.unusedVariables false
set_option linter.unusedSimpArgs false

theorem gn_ok : ∀ p ∈ clTo 38, (gnL p).length ≤ 5 ∧ (gnL p).all (fun q => isF q.1 q.2) = true := by decide +kernel
theorem areF_all {xs : List (Int × Int)} (h : xs.all (fun q => isF q.1 q.2) = true) : AreF xs := by
  intro j hj
  have := List.all_eq_true.1 h _ (List.getElem_mem hj)
  unfold fget
  rw [List.getElem?_eq_getElem hj]
  exact this
theorem gn_areF {p : Nat × Nat} (hp : p ∈ clTo 38) : AreF (gnL p) := areF_all (gn_ok p hp).2
theorem gn_snoc {p : Nat × Nat} (hp : p ∈ clTo 38) {n b : Int} (h : isF n b = true) : AreF (gnL p ++ [(n, b)]) := areF_all (by rw [List.all_append, (gn_ok p hp).2]; simpa using h)
/-- The function is in the named clone. -/
def inNm (p : Nat × Nat) (n b : Int) : Bool := decide (nmL (gnL p ++ [(n, b)]) = clName p)

end Go.Proofs.YthkmapflbopdpaaDoor

/- CN30:
  l08Base of the model: the functions of a name without a degree. -/
namespace Go.Proofs.YthkmapflbopdpaaDoor
open Go.RowKit Go.Shelf
set_option linter.unusedVariables false
set_option linter.unusedSimpArgs false

/-- Which line has the name. -/
def bsFind (s : ByteArray) : Option Nat := (List.range 38).find? fun j => decide (lnB j = s)
def BasePost (s : ByteArray) (w : World) (e : Ending) (w' : World) : Prop := Below w.heap.size w w' ∧ ((∃ j v, bsFind s = some j ∧ e = .returned (.tuple #[v, .bool true]) ∧ OwnsF w' w.heap.size v (gsL j)) ∨ (bsFind s = none ∧ e = .returned (.tuple #[.slice none 0 0, .bool false])))
theorem list_of {s : ByteArray} {l : List UInt8} (h : (s.toList == l) = true) : s = ⟨l.toArray⟩ := by
  apply ByteArray.ext
  apply Array.toList_inj.1
  rw [← Lib.toList_data]
  simpa using h
theorem not_of {s : ByteArray} {l : List UInt8} (h : (s.toList == l) = false) : ⟨l.toArray⟩ ≠ s := by
  rintro rfl
  rw [Lib.toList_data] at h
  simp at h
theorem lit_owns (W : World) (w : World) (N : Nat) (hN : N = W.heap.size) (hle : w.heap.size ≤ N) (cs : Array Value) (n : Nat) (fs : List (Int × Int)) (hn : n = fs.length) (h0 : 0 < n) (h8 : n ≤ 8) (hc : cs.toList = fcells fs) (hs : cs.size = n * 2) : OwnsF (W.alloc (.cells cs 40)) w.heap.size (.slice (some ⟨N, 0, none⟩) n n) fs := by
  subst hN hn
  refine ⟨by rw [← hc, Array.length_toList, hs], .inr ⟨W.heap.size, fs.length, cs, rfl, hle, World.alloc_heap_new W _, Nat.le_refl _, by unfold maxLen; omega, hs, ?_⟩⟩
  rw [hc]
  exact List.take_of_length_le (by rw [← hc, Array.length_toList, hs]; exact Nat.le_refl _)

def nmL26 : List (List UInt8) := [[66, 70], [82, 48], [82, 49], [82, 50], [77], [77, 48], [77, 49], [77, 50], [68], [68, 49], [68, 50], [76], [76, 48], [76, 49], [76, 50], [76, 51], [78], [78, 50], [83, 48], [83, 48, 50], [83, 48, 48], [83, 48, 49], [83, 49], [83, 49, 50], [83, 49, 48], [83, 49, 49]]
set_option maxRecDepth 100000 in
theorem base_none (s : ByteArray) (hs : s.size = 0 ∨ 2 < s.size) (h : ∀ l ∈ nmL26, (s.toList == l) = false) : bsFind s = none := by
  unfold bsFind
  rw [List.find?_eq_none]
  intro j hj
  rw [List.mem_range] at hj
  have hbig : ∀ j < 38, (nmL26.all fun l => decide ((⟨l.toArray⟩ : ByteArray) ≠ lnB j)) = true → (lnB j).size = 1 ∨ (lnB j).size = 2 := by decide
  simp only [decide_eq_true_eq]
  intro e
  have hx := hbig j hj (by
    rw [List.all_eq_true]
    intro l hl
    rw [decide_eq_true_eq, e]
    exact not_of (h l hl))
  rw [e] at hx
  omega

set_option maxRecDepth 100000 in
set_option maxHeartbeats 16000000 in
theorem base_long (s : ByteArray) (w : World) (hs : s.size = 0 ∨ 2 < s.size) : Calls Tryd.prog 13 #[.string s] w (BasePost s w) := by
  have DU := Lib.hid (fun W => l01Dual_any (n := 3) (x := 174) (R := 8) ⟨by decide, by decide, by decide, by decide, Lib.hid rfl, by decide, by decide, by decide⟩ W)
  have hdu : sumN (fun r => 1 - bitN 174 (8 - 1 - r)) 8 = 138 := by decide +kernel
  rw [hdu] at DU
  rw [show (((174 : Nat)) : Int) = 174 from rfl, show (((138 : Nat)) : Int) = 138 from rfl] at DU
  clear hdu
  have HS := Lib.hid hs
  have hg0 : ((s.size : Int) == 0) = true ∨ ((s.size : Int) == 0) = false ∧ decide ((2 : Int) < (s.size : Int)) = true := by
    rcases hs with h | h
    · left; simp [h]
    · right; constructor
      · simp only [beq_eq_false_iff_ne, ne_eq]; omega
      · simp; omega
  clear hs
  rcases hg0 with hg0 | ⟨hg0, hg1⟩
  · -- no byte
    go_enter Tryd.func13, Tryd.ntmps13
    go_wp2_with (go_at_call 21; refine (DU.out _).mono ?_; rintro e wd ⟨rfl, hbd0⟩; have hbd : Below w.heap.size w wd := bthen (by (repeat (first | exact bnew _ _ | refine balloc ?_ _))) hbd0; clear hbd0)
    · -- BF
      rename_i hlast
      have hs0 := list_of hlast
      clear hlast
      go_ret2
      refine ⟨by (repeat (first | exact bnew _ _ | exact hbd | refine balloc ?_ _)), .inl ⟨37, _, by rw [hs0]; decide, rfl, ?_⟩⟩
      rw [show gsL 37 = [(2, 8), (1, 1)] by decide +kernel]
      exact lit_owns _ w _ (by simp) (by first | omega | (have := hbd.size; omega)) _ _ _ rfl (by decide) (by decide) rfl rfl
    · -- R0
      rename_i hlast
      have hs0 := list_of hlast
      clear hlast
      go_ret2
      refine ⟨by (repeat (first | exact bnew _ _ | exact hbd | refine balloc ?_ _)), .inl ⟨35, _, by rw [hs0]; decide, rfl, ?_⟩⟩
      rw [show gsL 35 = [(2, 8), (2, 6)] by decide +kernel]
      exact lit_owns _ w _ (by simp) (by first | omega | (have := hbd.size; omega)) _ _ _ rfl (by decide) (by decide) rfl rfl
    · -- R1
      rename_i hlast
      have hs0 := list_of hlast
      clear hlast
      go_ret2
      refine ⟨by (repeat (first | exact bnew _ _ | exact hbd | refine balloc ?_ _)), .inl ⟨36, _, by rw [hs0]; decide, rfl, ?_⟩⟩
      rw [show gsL 36 = [(2, 14), (2, 9)] by decide +kernel]
      exact lit_owns _ w _ (by simp) (by first | omega | (have := hbd.size; omega)) _ _ _ rfl (by decide) (by decide) rfl rfl
    · -- R2
      rename_i hlast
      have hs0 := list_of hlast
      clear hlast
      go_ret2
      refine ⟨by (repeat (first | exact bnew _ _ | exact hbd | refine balloc ?_ _)), .inl ⟨34, _, by rw [hs0]; decide, rfl, ?_⟩⟩
      rw [show gsL 34 = [(2, 14), (3, 130)] by decide +kernel]
      exact lit_owns _ w _ (by simp) (by first | omega | (have := hbd.size; omega)) _ _ _ rfl (by decide) (by decide) rfl rfl
    · -- M
      rename_i hlast
      have hs0 := list_of hlast
      clear hlast
      go_ret2
      refine ⟨by (repeat (first | exact bnew _ _ | exact hbd | refine balloc ?_ _)), .inl ⟨33, _, by rw [hs0]; decide, rfl, ?_⟩⟩
      rw [show gsL 33 = [(2, 14), (2, 8), (0, 0), (0, 1)] by decide +kernel]
      exact lit_owns _ w _ (by simp) (by first | omega | (have := hbd.size; omega)) _ _ _ rfl (by decide) (by decide) rfl rfl
    · -- M0
      rename_i hlast
      have hs0 := list_of hlast
      clear hlast
      go_ret2
      refine ⟨by (repeat (first | exact bnew _ _ | exact hbd | refine balloc ?_ _)), .inl ⟨31, _, by rw [hs0]; decide, rfl, ?_⟩⟩
      rw [show gsL 31 = [(2, 14), (2, 8), (0, 0)] by decide +kernel]
      exact lit_owns _ w _ (by simp) (by first | omega | (have := hbd.size; omega)) _ _ _ rfl (by decide) (by decide) rfl rfl
    · -- M1
      rename_i hlast
      have hs0 := list_of hlast
      clear hlast
      go_ret2
      refine ⟨by (repeat (first | exact bnew _ _ | exact hbd | refine balloc ?_ _)), .inl ⟨32, _, by rw [hs0]; decide, rfl, ?_⟩⟩
      rw [show gsL 32 = [(2, 14), (2, 8), (0, 1)] by decide +kernel]
      exact lit_owns _ w _ (by simp) (by first | omega | (have := hbd.size; omega)) _ _ _ rfl (by decide) (by decide) rfl rfl
    · -- M2
      rename_i hlast
      have hs0 := list_of hlast
      clear hlast
      go_ret2
      refine ⟨by (repeat (first | exact bnew _ _ | exact hbd | refine balloc ?_ _)), .inl ⟨30, _, by rw [hs0]; decide, rfl, ?_⟩⟩
      rw [show gsL 30 = [(2, 14), (2, 8)] by decide +kernel]
      exact lit_owns _ w _ (by simp) (by first | omega | (have := hbd.size; omega)) _ _ _ rfl (by decide) (by decide) rfl rfl
    · -- D
      rename_i hlast
      have hs0 := list_of hlast
      clear hlast
      go_ret2
      refine ⟨by (repeat (first | exact bnew _ _ | exact hbd | refine balloc ?_ _)), .inl ⟨21, _, by rw [hs0]; decide, rfl, ?_⟩⟩
      rw [show gsL 21 = [(3, 43)] by decide +kernel]
      exact lit_owns _ w _ (by simp) (by first | omega | (have := hbd.size; omega)) _ _ _ rfl (by decide) (by decide) rfl rfl
    · -- D1
      rename_i hlast
      have hs0 := list_of hlast
      clear hlast
      go_ret2
      refine ⟨by (repeat (first | exact bnew _ _ | exact hbd | refine balloc ?_ _)), .inl ⟨20, _, by rw [hs0]; decide, rfl, ?_⟩⟩
      rw [show gsL 20 = [(3, 142)] by decide +kernel]
      exact lit_owns _ w _ (by simp) (by first | omega | (have := hbd.size; omega)) _ _ _ rfl (by decide) (by decide) rfl rfl
    · -- D2
      rename_i hlast
      have hs0 := list_of hlast
      clear hlast
      go_ret2
      refine ⟨by (repeat (first | exact bnew _ _ | exact hbd | refine balloc ?_ _)), .inl ⟨19, _, by rw [hs0]; decide, rfl, ?_⟩⟩
      rw [show gsL 19 = [(3, 232)] by decide +kernel]
      exact lit_owns _ w _ (by simp) (by first | omega | (have := hbd.size; omega)) _ _ _ rfl (by decide) (by decide) rfl rfl
    · -- L
      rename_i hlast
      have hs0 := list_of hlast
      clear hlast
      go_ret2
      refine ⟨by (repeat (first | exact bnew _ _ | exact hbd | refine balloc ?_ _)), .inl ⟨18, _, by rw [hs0]; decide, rfl, ?_⟩⟩
      rw [show gsL 18 = [(2, 6), (0, 1)] by decide +kernel]
      exact lit_owns _ w _ (by simp) (by first | omega | (have := hbd.size; omega)) _ _ _ rfl (by decide) (by decide) rfl rfl
    · -- L0
      rename_i hlast
      have hs0 := list_of hlast
      clear hlast
      go_ret2
      refine ⟨by (repeat (first | exact bnew _ _ | exact hbd | refine balloc ?_ _)), .inl ⟨16, _, by rw [hs0]; decide, rfl, ?_⟩⟩
      rw [show gsL 16 = [(2, 6)] by decide +kernel]
      exact lit_owns _ w _ (by simp) (by first | omega | (have := hbd.size; omega)) _ _ _ rfl (by decide) (by decide) rfl rfl
    · -- L1
      rename_i hlast
      have hs0 := list_of hlast
      clear hlast
      go_ret2
      refine ⟨by (repeat (first | exact bnew _ _ | exact hbd | refine balloc ?_ _)), .inl ⟨17, _, by rw [hs0]; decide, rfl, ?_⟩⟩
      rw [show gsL 17 = [(2, 9)] by decide +kernel]
      exact lit_owns _ w _ (by simp) (by first | omega | (have := hbd.size; omega)) _ _ _ rfl (by decide) (by decide) rfl rfl
    · -- L2
      rename_i hlast
      have hs0 := list_of hlast
      clear hlast
      go_ret2
      refine ⟨by (repeat (first | exact bnew _ _ | exact hbd | refine balloc ?_ _)), .inl ⟨14, _, by rw [hs0]; decide, rfl, ?_⟩⟩
      rw [show gsL 14 = [(3, 150)] by decide +kernel]
      exact lit_owns _ w _ (by simp) (by first | omega | (have := hbd.size; omega)) _ _ _ rfl (by decide) (by decide) rfl rfl
    · -- L3
      rename_i hlast
      have hs0 := list_of hlast
      clear hlast
      go_ret2
      refine ⟨by (repeat (first | exact bnew _ _ | exact hbd | refine balloc ?_ _)), .inl ⟨15, _, by rw [hs0]; decide, rfl, ?_⟩⟩
      rw [show gsL 15 = [(3, 105)] by decide +kernel]
      exact lit_owns _ w _ (by simp) (by first | omega | (have := hbd.size; omega)) _ _ _ rfl (by decide) (by decide) rfl rfl
    · -- N
      rename_i hlast
      have hs0 := list_of hlast
      clear hlast
      go_ret2
      refine ⟨by (repeat (first | exact bnew _ _ | exact hbd | refine balloc ?_ _)), .inl ⟨5, _, by rw [hs0]; decide, rfl, ?_⟩⟩
      rw [show gsL 5 = [(1, 1), (0, 1)] by decide +kernel]
      exact lit_owns _ w _ (by simp) (by first | omega | (have := hbd.size; omega)) _ _ _ rfl (by decide) (by decide) rfl rfl
    · -- N2
      rename_i hlast
      have hs0 := list_of hlast
      clear hlast
      go_ret2
      refine ⟨by (repeat (first | exact bnew _ _ | exact hbd | refine balloc ?_ _)), .inl ⟨4, _, by rw [hs0]; decide, rfl, ?_⟩⟩
      rw [show gsL 4 = [(1, 1)] by decide +kernel]
      exact lit_owns _ w _ (by simp) (by first | omega | (have := hbd.size; omega)) _ _ _ rfl (by decide) (by decide) rfl rfl
    · -- S0
      rename_i hlast
      have hs0 := list_of hlast
      clear hlast
      go_ret2
      refine ⟨by (repeat (first | exact bnew _ _ | exact hbd | refine balloc ?_ _)), .inl ⟨25, _, by rw [hs0]; decide, rfl, ?_⟩⟩
      rw [show gsL 25 = [(2, 13)] by decide +kernel]
      exact lit_owns _ w _ (by simp) (by first | omega | (have := hbd.size; omega)) _ _ _ rfl (by decide) (by decide) rfl rfl
    · -- S02
      rename_i hlast
      have hs0 := list_of hlast
      clear hlast
      go_ret2
      refine ⟨by (repeat (first | exact bnew _ _ | exact hbd | refine balloc ?_ _)), .inl ⟨24, _, by rw [hs0]; decide, rfl, ?_⟩⟩
      rw [show gsL 24 = [(3, 174)] by decide +kernel]
      exact lit_owns _ w _ (by simp) (by first | omega | (have := hbd.size; omega)) _ _ _ rfl (by decide) (by decide) rfl rfl
    · -- S00
      rename_i hlast
      have hs0 := list_of hlast
      clear hlast
      go_ret2
      refine ⟨by (repeat (first | exact bnew _ _ | exact hbd | refine balloc ?_ _)), .inl ⟨22, _, by rw [hs0]; decide, rfl, ?_⟩⟩
      rw [show gsL 22 = [(3, 234)] by decide +kernel]
      exact lit_owns _ w _ (by simp) (by first | omega | (have := hbd.size; omega)) _ _ _ rfl (by decide) (by decide) rfl rfl
    · -- S01
      rename_i hlast
      have hs0 := list_of hlast
      clear hlast
      go_ret2
      refine ⟨by (repeat (first | exact bnew _ _ | exact hbd | refine balloc ?_ _)), .inl ⟨23, _, by rw [hs0]; decide, rfl, ?_⟩⟩
      rw [show gsL 23 = [(3, 234), (0, 1)] by decide +kernel]
      exact lit_owns _ w _ (by simp) (by first | omega | (have := hbd.size; omega)) _ _ _ rfl (by decide) (by decide) rfl rfl
    · -- S1
      rename_i hlast
      have hs0 := list_of hlast
      clear hlast
      go_ret2
      refine ⟨by (repeat (first | exact bnew _ _ | exact hbd | refine balloc ?_ _)), .inl ⟨29, _, by rw [hs0]; decide, rfl, ?_⟩⟩
      rw [show gsL 29 = [(2, 2)] by decide +kernel]
      exact lit_owns _ w _ (by simp) (by first | omega | (have := hbd.size; omega)) _ _ _ rfl (by decide) (by decide) rfl rfl
    · -- S12
      rename_i hlast
      have hs0 := list_of hlast
      clear hlast
      go_ret2
      refine ⟨by (repeat (first | exact bnew _ _ | exact hbd | refine balloc ?_ _)), .inl ⟨28, _, by rw [hs0]; decide, rfl, ?_⟩⟩
      rw [show gsL 28 = [(3, 138)] by decide +kernel]
      exact lit_owns _ w _ (by simp) (by first | omega | (have := hbd.size; omega)) _ _ _ rfl (by decide) (by decide) rfl rfl
    · -- S10
      rename_i hlast
      have hs0 := list_of hlast
      clear hlast
      go_ret2
      refine ⟨by (repeat (first | exact bnew _ _ | exact hbd | refine balloc ?_ _)), .inl ⟨26, _, by rw [hs0]; decide, rfl, ?_⟩⟩
      rw [show gsL 26 = [(3, 168)] by decide +kernel]
      exact lit_owns _ w _ (by simp) (by first | omega | (have := hbd.size; omega)) _ _ _ rfl (by decide) (by decide) rfl rfl
    · -- S11
      rename_i hlast
      have hs0 := list_of hlast
      clear hlast
      go_ret2
      refine ⟨by (repeat (first | exact bnew _ _ | exact hbd | refine balloc ?_ _)), .inl ⟨27, _, by rw [hs0]; decide, rfl, ?_⟩⟩
      rw [show gsL 27 = [(3, 168), (0, 0)] by decide +kernel]
      exact lit_owns _ w _ (by simp) (by first | omega | (have := hbd.size; omega)) _ _ _ rfl (by decide) (by decide) rfl rfl
    · -- none
      go_ret2
      refine ⟨by (repeat (first | exact bnew _ _ | refine balloc ?_ _)), .inr ⟨base_none s HS.out ?_, rfl⟩⟩
      repeat (refine List.forall_mem_cons.2 ⟨by assumption, ?_⟩)
      exact fun _ h => absurd h (by simp)
  · -- three bytes or more
    go_enter Tryd.func13, Tryd.ntmps13
    go_wp2_with (go_at_call 21; refine (DU.out _).mono ?_; rintro e wd ⟨rfl, hbd0⟩; have hbd : Below w.heap.size w wd := bthen (by (repeat (first | exact bnew _ _ | refine balloc ?_ _))) hbd0; clear hbd0)
    · -- BF
      rename_i hlast
      have hs0 := list_of hlast
      clear hlast
      go_ret2
      refine ⟨by (repeat (first | exact bnew _ _ | exact hbd | refine balloc ?_ _)), .inl ⟨37, _, by rw [hs0]; decide, rfl, ?_⟩⟩
      rw [show gsL 37 = [(2, 8), (1, 1)] by decide +kernel]
      exact lit_owns _ w _ (by simp) (by first | omega | (have := hbd.size; omega)) _ _ _ rfl (by decide) (by decide) rfl rfl
    · -- R0
      rename_i hlast
      have hs0 := list_of hlast
      clear hlast
      go_ret2
      refine ⟨by (repeat (first | exact bnew _ _ | exact hbd | refine balloc ?_ _)), .inl ⟨35, _, by rw [hs0]; decide, rfl, ?_⟩⟩
      rw [show gsL 35 = [(2, 8), (2, 6)] by decide +kernel]
      exact lit_owns _ w _ (by simp) (by first | omega | (have := hbd.size; omega)) _ _ _ rfl (by decide) (by decide) rfl rfl
    · -- R1
      rename_i hlast
      have hs0 := list_of hlast
      clear hlast
      go_ret2
      refine ⟨by (repeat (first | exact bnew _ _ | exact hbd | refine balloc ?_ _)), .inl ⟨36, _, by rw [hs0]; decide, rfl, ?_⟩⟩
      rw [show gsL 36 = [(2, 14), (2, 9)] by decide +kernel]
      exact lit_owns _ w _ (by simp) (by first | omega | (have := hbd.size; omega)) _ _ _ rfl (by decide) (by decide) rfl rfl
    · -- R2
      rename_i hlast
      have hs0 := list_of hlast
      clear hlast
      go_ret2
      refine ⟨by (repeat (first | exact bnew _ _ | exact hbd | refine balloc ?_ _)), .inl ⟨34, _, by rw [hs0]; decide, rfl, ?_⟩⟩
      rw [show gsL 34 = [(2, 14), (3, 130)] by decide +kernel]
      exact lit_owns _ w _ (by simp) (by first | omega | (have := hbd.size; omega)) _ _ _ rfl (by decide) (by decide) rfl rfl
    · -- M
      rename_i hlast
      have hs0 := list_of hlast
      clear hlast
      go_ret2
      refine ⟨by (repeat (first | exact bnew _ _ | exact hbd | refine balloc ?_ _)), .inl ⟨33, _, by rw [hs0]; decide, rfl, ?_⟩⟩
      rw [show gsL 33 = [(2, 14), (2, 8), (0, 0), (0, 1)] by decide +kernel]
      exact lit_owns _ w _ (by simp) (by first | omega | (have := hbd.size; omega)) _ _ _ rfl (by decide) (by decide) rfl rfl
    · -- M0
      rename_i hlast
      have hs0 := list_of hlast
      clear hlast
      go_ret2
      refine ⟨by (repeat (first | exact bnew _ _ | exact hbd | refine balloc ?_ _)), .inl ⟨31, _, by rw [hs0]; decide, rfl, ?_⟩⟩
      rw [show gsL 31 = [(2, 14), (2, 8), (0, 0)] by decide +kernel]
      exact lit_owns _ w _ (by simp) (by first | omega | (have := hbd.size; omega)) _ _ _ rfl (by decide) (by decide) rfl rfl
    · -- M1
      rename_i hlast
      have hs0 := list_of hlast
      clear hlast
      go_ret2
      refine ⟨by (repeat (first | exact bnew _ _ | exact hbd | refine balloc ?_ _)), .inl ⟨32, _, by rw [hs0]; decide, rfl, ?_⟩⟩
      rw [show gsL 32 = [(2, 14), (2, 8), (0, 1)] by decide +kernel]
      exact lit_owns _ w _ (by simp) (by first | omega | (have := hbd.size; omega)) _ _ _ rfl (by decide) (by decide) rfl rfl
    · -- M2
      rename_i hlast
      have hs0 := list_of hlast
      clear hlast
      go_ret2
      refine ⟨by (repeat (first | exact bnew _ _ | exact hbd | refine balloc ?_ _)), .inl ⟨30, _, by rw [hs0]; decide, rfl, ?_⟩⟩
      rw [show gsL 30 = [(2, 14), (2, 8)] by decide +kernel]
      exact lit_owns _ w _ (by simp) (by first | omega | (have := hbd.size; omega)) _ _ _ rfl (by decide) (by decide) rfl rfl
    · -- D
      rename_i hlast
      have hs0 := list_of hlast
      clear hlast
      go_ret2
      refine ⟨by (repeat (first | exact bnew _ _ | exact hbd | refine balloc ?_ _)), .inl ⟨21, _, by rw [hs0]; decide, rfl, ?_⟩⟩
      rw [show gsL 21 = [(3, 43)] by decide +kernel]
      exact lit_owns _ w _ (by simp) (by first | omega | (have := hbd.size; omega)) _ _ _ rfl (by decide) (by decide) rfl rfl
    · -- D1
      rename_i hlast
      have hs0 := list_of hlast
      clear hlast
      go_ret2
      refine ⟨by (repeat (first | exact bnew _ _ | exact hbd | refine balloc ?_ _)), .inl ⟨20, _, by rw [hs0]; decide, rfl, ?_⟩⟩
      rw [show gsL 20 = [(3, 142)] by decide +kernel]
      exact lit_owns _ w _ (by simp) (by first | omega | (have := hbd.size; omega)) _ _ _ rfl (by decide) (by decide) rfl rfl
    · -- D2
      rename_i hlast
      have hs0 := list_of hlast
      clear hlast
      go_ret2
      refine ⟨by (repeat (first | exact bnew _ _ | exact hbd | refine balloc ?_ _)), .inl ⟨19, _, by rw [hs0]; decide, rfl, ?_⟩⟩
      rw [show gsL 19 = [(3, 232)] by decide +kernel]
      exact lit_owns _ w _ (by simp) (by first | omega | (have := hbd.size; omega)) _ _ _ rfl (by decide) (by decide) rfl rfl
    · -- L
      rename_i hlast
      have hs0 := list_of hlast
      clear hlast
      go_ret2
      refine ⟨by (repeat (first | exact bnew _ _ | exact hbd | refine balloc ?_ _)), .inl ⟨18, _, by rw [hs0]; decide, rfl, ?_⟩⟩
      rw [show gsL 18 = [(2, 6), (0, 1)] by decide +kernel]
      exact lit_owns _ w _ (by simp) (by first | omega | (have := hbd.size; omega)) _ _ _ rfl (by decide) (by decide) rfl rfl
    · -- L0
      rename_i hlast
      have hs0 := list_of hlast
      clear hlast
      go_ret2
      refine ⟨by (repeat (first | exact bnew _ _ | exact hbd | refine balloc ?_ _)), .inl ⟨16, _, by rw [hs0]; decide, rfl, ?_⟩⟩
      rw [show gsL 16 = [(2, 6)] by decide +kernel]
      exact lit_owns _ w _ (by simp) (by first | omega | (have := hbd.size; omega)) _ _ _ rfl (by decide) (by decide) rfl rfl
    · -- L1
      rename_i hlast
      have hs0 := list_of hlast
      clear hlast
      go_ret2
      refine ⟨by (repeat (first | exact bnew _ _ | exact hbd | refine balloc ?_ _)), .inl ⟨17, _, by rw [hs0]; decide, rfl, ?_⟩⟩
      rw [show gsL 17 = [(2, 9)] by decide +kernel]
      exact lit_owns _ w _ (by simp) (by first | omega | (have := hbd.size; omega)) _ _ _ rfl (by decide) (by decide) rfl rfl
    · -- L2
      rename_i hlast
      have hs0 := list_of hlast
      clear hlast
      go_ret2
      refine ⟨by (repeat (first | exact bnew _ _ | exact hbd | refine balloc ?_ _)), .inl ⟨14, _, by rw [hs0]; decide, rfl, ?_⟩⟩
      rw [show gsL 14 = [(3, 150)] by decide +kernel]
      exact lit_owns _ w _ (by simp) (by first | omega | (have := hbd.size; omega)) _ _ _ rfl (by decide) (by decide) rfl rfl
    · -- L3
      rename_i hlast
      have hs0 := list_of hlast
      clear hlast
      go_ret2
      refine ⟨by (repeat (first | exact bnew _ _ | exact hbd | refine balloc ?_ _)), .inl ⟨15, _, by rw [hs0]; decide, rfl, ?_⟩⟩
      rw [show gsL 15 = [(3, 105)] by decide +kernel]
      exact lit_owns _ w _ (by simp) (by first | omega | (have := hbd.size; omega)) _ _ _ rfl (by decide) (by decide) rfl rfl
    · -- N
      rename_i hlast
      have hs0 := list_of hlast
      clear hlast
      go_ret2
      refine ⟨by (repeat (first | exact bnew _ _ | exact hbd | refine balloc ?_ _)), .inl ⟨5, _, by rw [hs0]; decide, rfl, ?_⟩⟩
      rw [show gsL 5 = [(1, 1), (0, 1)] by decide +kernel]
      exact lit_owns _ w _ (by simp) (by first | omega | (have := hbd.size; omega)) _ _ _ rfl (by decide) (by decide) rfl rfl
    · -- N2
      rename_i hlast
      have hs0 := list_of hlast
      clear hlast
      go_ret2
      refine ⟨by (repeat (first | exact bnew _ _ | exact hbd | refine balloc ?_ _)), .inl ⟨4, _, by rw [hs0]; decide, rfl, ?_⟩⟩
      rw [show gsL 4 = [(1, 1)] by decide +kernel]
      exact lit_owns _ w _ (by simp) (by first | omega | (have := hbd.size; omega)) _ _ _ rfl (by decide) (by decide) rfl rfl
    · -- S0
      rename_i hlast
      have hs0 := list_of hlast
      clear hlast
      go_ret2
      refine ⟨by (repeat (first | exact bnew _ _ | exact hbd | refine balloc ?_ _)), .inl ⟨25, _, by rw [hs0]; decide, rfl, ?_⟩⟩
      rw [show gsL 25 = [(2, 13)] by decide +kernel]
      exact lit_owns _ w _ (by simp) (by first | omega | (have := hbd.size; omega)) _ _ _ rfl (by decide) (by decide) rfl rfl
    · -- S02
      rename_i hlast
      have hs0 := list_of hlast
      clear hlast
      go_ret2
      refine ⟨by (repeat (first | exact bnew _ _ | exact hbd | refine balloc ?_ _)), .inl ⟨24, _, by rw [hs0]; decide, rfl, ?_⟩⟩
      rw [show gsL 24 = [(3, 174)] by decide +kernel]
      exact lit_owns _ w _ (by simp) (by first | omega | (have := hbd.size; omega)) _ _ _ rfl (by decide) (by decide) rfl rfl
    · -- S00
      rename_i hlast
      have hs0 := list_of hlast
      clear hlast
      go_ret2
      refine ⟨by (repeat (first | exact bnew _ _ | exact hbd | refine balloc ?_ _)), .inl ⟨22, _, by rw [hs0]; decide, rfl, ?_⟩⟩
      rw [show gsL 22 = [(3, 234)] by decide +kernel]
      exact lit_owns _ w _ (by simp) (by first | omega | (have := hbd.size; omega)) _ _ _ rfl (by decide) (by decide) rfl rfl
    · -- S01
      rename_i hlast
      have hs0 := list_of hlast
      clear hlast
      go_ret2
      refine ⟨by (repeat (first | exact bnew _ _ | exact hbd | refine balloc ?_ _)), .inl ⟨23, _, by rw [hs0]; decide, rfl, ?_⟩⟩
      rw [show gsL 23 = [(3, 234), (0, 1)] by decide +kernel]
      exact lit_owns _ w _ (by simp) (by first | omega | (have := hbd.size; omega)) _ _ _ rfl (by decide) (by decide) rfl rfl
    · -- S1
      rename_i hlast
      have hs0 := list_of hlast
      clear hlast
      go_ret2
      refine ⟨by (repeat (first | exact bnew _ _ | exact hbd | refine balloc ?_ _)), .inl ⟨29, _, by rw [hs0]; decide, rfl, ?_⟩⟩
      rw [show gsL 29 = [(2, 2)] by decide +kernel]
      exact lit_owns _ w _ (by simp) (by first | omega | (have := hbd.size; omega)) _ _ _ rfl (by decide) (by decide) rfl rfl
    · -- S12
      rename_i hlast
      have hs0 := list_of hlast
      clear hlast
      go_ret2
      refine ⟨by (repeat (first | exact bnew _ _ | exact hbd | refine balloc ?_ _)), .inl ⟨28, _, by rw [hs0]; decide, rfl, ?_⟩⟩
      rw [show gsL 28 = [(3, 138)] by decide +kernel]
      exact lit_owns _ w _ (by simp) (by first | omega | (have := hbd.size; omega)) _ _ _ rfl (by decide) (by decide) rfl rfl
    · -- S10
      rename_i hlast
      have hs0 := list_of hlast
      clear hlast
      go_ret2
      refine ⟨by (repeat (first | exact bnew _ _ | exact hbd | refine balloc ?_ _)), .inl ⟨26, _, by rw [hs0]; decide, rfl, ?_⟩⟩
      rw [show gsL 26 = [(3, 168)] by decide +kernel]
      exact lit_owns _ w _ (by simp) (by first | omega | (have := hbd.size; omega)) _ _ _ rfl (by decide) (by decide) rfl rfl
    · -- S11
      rename_i hlast
      have hs0 := list_of hlast
      clear hlast
      go_ret2
      refine ⟨by (repeat (first | exact bnew _ _ | exact hbd | refine balloc ?_ _)), .inl ⟨27, _, by rw [hs0]; decide, rfl, ?_⟩⟩
      rw [show gsL 27 = [(3, 168), (0, 0)] by decide +kernel]
      exact lit_owns _ w _ (by simp) (by first | omega | (have := hbd.size; omega)) _ _ _ rfl (by decide) (by decide) rfl rfl
    · -- none
      go_ret2
      refine ⟨by (repeat (first | exact bnew _ _ | refine balloc ?_ _)), .inr ⟨base_none s HS.out ?_, rfl⟩⟩
      repeat (refine List.forall_mem_cons.2 ⟨by assumption, ?_⟩)
      exact fun _ h => absurd h (by simp)
end Go.Proofs.YthkmapflbopdpaaDoor

/- CN31:
  l08Base of the model: names of one or two bytes that are none of the first 26. -/
namespace Go.Proofs.YthkmapflbopdpaaDoor
open Go.RowKit Go.Shelf
set_option linter.unusedVariables false
set_option linter.unusedSimpArgs false

theorem cells_lit (W : World) {N : Nat} (hN : N = W.heap.size) (cs : Array Value) (xs : List Value) (hc : cs.toList = xs) (t : TypeId) : ∀ j u, xs[j]? = some u → (W.alloc (.cells cs t)).cell? ((⟨N, 0, none⟩ : Addr).add j) = some u := by
  subst hN hc
  intro j u h
  rw [add_at]
  refine cell_of_obj (World.alloc_heap_new W _) ?_
  rw [← Array.getElem?_toList]
  exact h
theorem list_cons {s : ByteArray} (h : 0 < s.size) : s.data.toList = UInt8.ofNat (bt s 0) :: (s.extract 1 s.size).data.toList := by
  have hl : s.data.toList.length = s.size := by rw [Array.length_toList]; rfl
  have e : (s.extract 1 s.size).data.toList = s.data.toList.drop 1 := by
    have := ByteArray.extract_mk s.data.toList 1 s.size
    rw [show (ByteArray.mk s.data.toList.toArray) = s from rfl] at this
    rw [this]
    simp
    rw [List.take_of_length_le (by simp)]
  rw [e]
  cases hd : s.data.toList with
  | nil => rw [hd] at hl; simp at hl; omega
  | cons a l =>
    simp only [List.drop_one, List.tail_cons, List.cons.injEq, and_true]
    have h1 : s.data.toList[0]? = some a := by rw [hd]; rfl
    have h2 : s.data.toList[0]? = some s[0] := by
      have h' : 0 < s.data.size := h
      rw [Array.getElem?_toList, Array.getElem?_eq_getElem h']
      rfl
    rw [h2] at h1
    have h3 : s[0] = a := Option.some.inj h1
    have h4 : bt s 0 = a.toNat := by rw [← h3]; simp [bt, h]
    rw [h4]
    simp
theorem two_of {s : ByteArray} (h : 0 < s.size) {b : Nat} (h0 : bt s 0 = b) {l : List UInt8} (ht : ((s.extract 1 s.size).toList == l) = true) : s = ⟨(UInt8.ofNat b :: l).toArray⟩ := by
  apply ByteArray.ext
  apply Array.toList_inj.1
  rw [list_cons h, h0]
  rw [Lib.toList_data] at ht
  have : (s.extract 1 s.size).data.toList = l := by simpa using ht
  rw [this]
theorem nil_eq (l : List UInt8) : (l == []) = l.isEmpty := by cases l <;> rfl
theorem app_owns (W : World) (base N : Nat) (hN : N = W.heap.size) (hle : base ≤ N) (ca cb : Array Value) (fs : List (Int × Int)) (c n : Nat) (hn : n = fs.length) (hc : n ≤ c) (hm : c ≤ maxLen) (hcs : (ca ++ cb).toList = fcells fs) :
    OwnsF ((W.alloc (.cells (ca ++ (cb ++ Builtin.zeroCells #[.int .i64 0, .int .i64 0] (c - n))) 40)).drew) base (.slice (some ⟨N, 0, none⟩) n c) fs := by
  subst hN hn
  have hl := fcells_length fs
  have hz : (ca ++ cb).size = fs.length * 2 := by rw [← hl, ← hcs, Array.length_toList]
  refine ⟨hl, .inr ⟨W.heap.size, c, _, rfl, hle, World.alloc_heap_new W _, hc, hm, ?_, ?_⟩⟩
  · rw [← Array.append_assoc, Array.size_append, hz, size_zeroCells]
    show fs.length * 2 + (c - fs.length) * 2 = c * 2
    omega
  · rw [← Array.append_assoc, Array.toList_append, hcs, ← hl]
    exact List.take_left
set_option maxRecDepth 100000 in
theorem tail_none (s : ByteArray) (hn : ∀ l ∈ nmL26, (s.toList == l) = false) (h : ∀ a ∈ ([69, 73, 86] : List UInt8), ∀ l ∈ ([[], [48], [49], [50]] : List (List UInt8)), s ≠ ⟨(a :: l).toArray⟩) : bsFind s = none := by
  unfold bsFind
  rw [List.find?_eq_none]
  intro j hj
  rw [List.mem_range] at hj
  have hbig : ∀ j < 38, (nmL26.all fun l => decide ((⟨l.toArray⟩ : ByteArray) ≠ lnB j)) = true → (([69, 73, 86] : List UInt8).any fun a => ([[], [48], [49], [50]] : List (List UInt8)).any fun l => decide (lnB j = ⟨(a :: l).toArray⟩)) = true := by decide
  simp only [decide_eq_true_eq]
  intro e
  have hx := hbig j hj (by
    rw [List.all_eq_true]
    intro l hl
    rw [decide_eq_true_eq, e]
    exact not_of (hn l hl))
  rw [List.any_eq_true] at hx
  obtain ⟨a, ha, hx⟩ := hx
  rw [List.any_eq_true] at hx
  obtain ⟨l, hl, hx⟩ := hx
  rw [decide_eq_true_eq, e] at hx
  exact h a ha l hl hx
theorem tail_no {s : ByteArray} (h : 0 < s.size) {b : Nat} (h0 : bt s 0 = b) (hn : ∀ l ∈ nmL26, (s.toList == l) = false) (ht : ∀ l ∈ ([[], [48], [49], [50]] : List (List UInt8)), ((s.extract 1 s.size).toList == l) = false) : bsFind s = none := by
  refine tail_none s hn fun a ha l hl e => ?_
  have h1 := ht l hl
  have h2 := list_cons h
  rw [Lib.toList_data] at h1
  rw [e] at h2 h1
  have h3 : l = _ := (List.cons.inj h2).2
  rw [← h3] at h1
  simp at h1
theorem first_no {s : ByteArray} (h : 0 < s.size) (h0 : ¬ bt s 0 = 69) (h1 : ¬ bt s 0 = 73) (h2 : ¬ bt s 0 = 86) (hn : ∀ l ∈ nmL26, (s.toList == l) = false) : bsFind s = none := by
  refine tail_none s hn fun a ha l hl e => ?_
  have h3 := list_cons h
  have h4 : a = UInt8.ofNat (bt s 0) := by
    rw [e] at h3
    have := (List.cons.inj h3).1
    rw [e]
    exact this
  have hl := bt_lt s 0
  simp only [List.mem_cons, List.not_mem_nil, or_false] at ha
  have h5 : a.toNat = bt s 0 := by rw [h4]; simp; omega
  rcases ha with rfl | rfl | rfl
  · exact h0 h5.symm
  · exact h1 h5.symm
  · exact h2 h5.symm

set_option maxRecDepth 100000 in
set_option maxHeartbeats 16000000 in
theorem base_other (s : ByteArray) (w : World) (hs : s.size = 1 ∨ s.size = 2) (hn : ∀ l ∈ nmL26, (s.toList == l) = false) (h69 : ¬ bt s 0 = 69) (h73 : ¬ bt s 0 = 73) (h86 : ¬ bt s 0 = 86) : Calls Tryd.prog 13 #[.string s] w (BasePost s w) := by
  obtain ⟨i0, hi, hz0, hz1, hz2⟩ := info_parts infoF
  have h0 : 0 < s.size := by omega
  have hb := bt_eq h0
  have hg0 : ((s.size : Int) == 0) = false := by simp only [beq_eq_false_iff_ne, ne_eq]; omega
  have hg1 : decide ((2 : Int) < (s.size : Int)) = false := by simp; omega
  have n0 : (s.toList == [66, 70]) = false := hn _ (by simp [nmL26])
  have n1 : (s.toList == [82, 48]) = false := hn _ (by simp [nmL26])
  have n2 : (s.toList == [82, 49]) = false := hn _ (by simp [nmL26])
  have n3 : (s.toList == [82, 50]) = false := hn _ (by simp [nmL26])
  have n4 : (s.toList == [77]) = false := hn _ (by simp [nmL26])
  have n5 : (s.toList == [77, 48]) = false := hn _ (by simp [nmL26])
  have n6 : (s.toList == [77, 49]) = false := hn _ (by simp [nmL26])
  have n7 : (s.toList == [77, 50]) = false := hn _ (by simp [nmL26])
  have n8 : (s.toList == [68]) = false := hn _ (by simp [nmL26])
  have n9 : (s.toList == [68, 49]) = false := hn _ (by simp [nmL26])
  have n10 : (s.toList == [68, 50]) = false := hn _ (by simp [nmL26])
  have n11 : (s.toList == [76]) = false := hn _ (by simp [nmL26])
  have n12 : (s.toList == [76, 48]) = false := hn _ (by simp [nmL26])
  have n13 : (s.toList == [76, 49]) = false := hn _ (by simp [nmL26])
  have n14 : (s.toList == [76, 50]) = false := hn _ (by simp [nmL26])
  have n15 : (s.toList == [76, 51]) = false := hn _ (by simp [nmL26])
  have n16 : (s.toList == [78]) = false := hn _ (by simp [nmL26])
  have n17 : (s.toList == [78, 50]) = false := hn _ (by simp [nmL26])
  have n18 : (s.toList == [83, 48]) = false := hn _ (by simp [nmL26])
  have n19 : (s.toList == [83, 48, 50]) = false := hn _ (by simp [nmL26])
  have n20 : (s.toList == [83, 48, 48]) = false := hn _ (by simp [nmL26])
  have n21 : (s.toList == [83, 48, 49]) = false := hn _ (by simp [nmL26])
  have n22 : (s.toList == [83, 49]) = false := hn _ (by simp [nmL26])
  have n23 : (s.toList == [83, 49, 50]) = false := hn _ (by simp [nmL26])
  have n24 : (s.toList == [83, 49, 48]) = false := hn _ (by simp [nmL26])
  have n25 : (s.toList == [83, 49, 49]) = false := hn _ (by simp [nmL26])
  have hf69 : ((bt s 0 : Int) == 69) = false := by simp only [beq_eq_false_iff_ne, ne_eq]; omega
  have hf73 : ((bt s 0 : Int) == 73) = false := by simp only [beq_eq_false_iff_ne, ne_eq]; omega
  have hf86 : ((bt s 0 : Int) == 86) = false := by simp only [beq_eq_false_iff_ne, ne_eq]; omega
  have FN := Lib.hid (first_no h0 h69 h73 h86 hn)
  clear h69 h73 h86 hn
  clear hs
  go_enter Tryd.func13, Tryd.ntmps13
  go_wp2
  go_ret2
  exact ⟨by (repeat (first | exact bnew _ _ | refine balloc ?_ _)), .inr ⟨FN.out, rfl⟩⟩
end Go.Proofs.YthkmapflbopdpaaDoor

/- CN31E:
  l08Base of the model: names of one or two bytes that begin with E. -/
namespace Go.Proofs.YthkmapflbopdpaaDoor
open Go.RowKit Go.Shelf
set_option linter.unusedVariables false
set_option linter.unusedSimpArgs false

set_option maxRecDepth 100000 in
set_option maxHeartbeats 16000000 in
theorem base_E (s : ByteArray) (w : World) (hs : s.size = 1 ∨ s.size = 2) (hn : ∀ l ∈ nmL26, (s.toList == l) = false) (h1 : bt s 0 = 69) : Calls Tryd.prog 13 #[.string s] w (BasePost s w) := by
  obtain ⟨i0, hi, hz0, hz1, hz2⟩ := info_parts infoF
  have h0 : 0 < s.size := by omega
  have hb := bt_eq h0
  have hg0 : ((s.size : Int) == 0) = false := by simp only [beq_eq_false_iff_ne, ne_eq]; omega
  have hg1 : decide ((2 : Int) < (s.size : Int)) = false := by simp; omega
  have n0 : (s.toList == [66, 70]) = false := hn _ (by simp [nmL26])
  have n1 : (s.toList == [82, 48]) = false := hn _ (by simp [nmL26])
  have n2 : (s.toList == [82, 49]) = false := hn _ (by simp [nmL26])
  have n3 : (s.toList == [82, 50]) = false := hn _ (by simp [nmL26])
  have n4 : (s.toList == [77]) = false := hn _ (by simp [nmL26])
  have n5 : (s.toList == [77, 48]) = false := hn _ (by simp [nmL26])
  have n6 : (s.toList == [77, 49]) = false := hn _ (by simp [nmL26])
  have n7 : (s.toList == [77, 50]) = false := hn _ (by simp [nmL26])
  have n8 : (s.toList == [68]) = false := hn _ (by simp [nmL26])
  have n9 : (s.toList == [68, 49]) = false := hn _ (by simp [nmL26])
  have n10 : (s.toList == [68, 50]) = false := hn _ (by simp [nmL26])
  have n11 : (s.toList == [76]) = false := hn _ (by simp [nmL26])
  have n12 : (s.toList == [76, 48]) = false := hn _ (by simp [nmL26])
  have n13 : (s.toList == [76, 49]) = false := hn _ (by simp [nmL26])
  have n14 : (s.toList == [76, 50]) = false := hn _ (by simp [nmL26])
  have n15 : (s.toList == [76, 51]) = false := hn _ (by simp [nmL26])
  have n16 : (s.toList == [78]) = false := hn _ (by simp [nmL26])
  have n17 : (s.toList == [78, 50]) = false := hn _ (by simp [nmL26])
  have n18 : (s.toList == [83, 48]) = false := hn _ (by simp [nmL26])
  have n19 : (s.toList == [83, 48, 50]) = false := hn _ (by simp [nmL26])
  have n20 : (s.toList == [83, 48, 48]) = false := hn _ (by simp [nmL26])
  have n21 : (s.toList == [83, 48, 49]) = false := hn _ (by simp [nmL26])
  have n22 : (s.toList == [83, 49]) = false := hn _ (by simp [nmL26])
  have n23 : (s.toList == [83, 49, 50]) = false := hn _ (by simp [nmL26])
  have n24 : (s.toList == [83, 49, 48]) = false := hn _ (by simp [nmL26])
  have n25 : (s.toList == [83, 49, 49]) = false := hn _ (by simp [nmL26])
  have hf69 : ((bt s 0 : Int) == 69) = true := by rw [h1]; decide
  have hf73 : ((bt s 0 : Int) == 73) = false := by rw [h1]; decide
  have hf86 : ((bt s 0 : Int) == 86) = false := by rw [h1]; decide
  have HN := Lib.hid hn
  have H1 := Lib.hid h1
  clear h1 hn
  clear hs
  go_enter Tryd.func13, Tryd.ntmps13
  go_wp2_with fail
  · -- E
    rename_i hlast _
    have hs0 := two_of h0 H1.out (l := []) (by rw [nil_eq]; exact hlast)
    clear hlast n0 n1 n2 n3 n4 n5 n6 n7 n8 n9 n10 n11 n12 n13 n14 n15 n16 n17 n18 n19 n20 n21 n22 n23 n24 n25 hb hg0 hg1 hf69 hf73 hf86 HN
    go_ret2
    refine ⟨by (repeat (first | exact bnew _ _ | refine Below.drew ?_ | refine balloc ?_ _)), .inl ⟨13, _, by rw [hs0]; decide, rfl, ?_⟩⟩
    rw [show gsL 13 = [(2, 8), (0, 0), (0, 1)] by decide +kernel]
    exact app_owns _ w.heap.size _ (by simp) (by first | omega | (simp; omega)) _ _ [(2, 8), (0, 0), (0, 1)] _ 3 rfl (grownCap_ge w 3 1 _) (grownCap_le_maxLen w 3 1 _ (by decide)) rfl
  · -- E0
    rename_i hlast _
    have hs0 := two_of h0 H1.out (l := [48]) hlast
    clear hlast n0 n1 n2 n3 n4 n5 n6 n7 n8 n9 n10 n11 n12 n13 n14 n15 n16 n17 n18 n19 n20 n21 n22 n23 n24 n25 hb hg0 hg1 hf69 hf73 hf86 HN
    go_ret2
    refine ⟨by (repeat (first | exact bnew _ _ | refine Below.drew ?_ | refine balloc ?_ _)), .inl ⟨11, _, by rw [hs0]; decide, rfl, ?_⟩⟩
    rw [show gsL 11 = [(2, 8), (0, 0)] by decide +kernel]
    exact app_owns _ w.heap.size _ (by simp) (by first | omega | (simp; omega)) _ _ [(2, 8), (0, 0)] _ 2 rfl (grownCap_ge w 2 1 _) (grownCap_le_maxLen w 2 1 _ (by decide)) rfl
  · -- E1
    rename_i hlast _
    have hs0 := two_of h0 H1.out (l := [49]) hlast
    clear hlast n0 n1 n2 n3 n4 n5 n6 n7 n8 n9 n10 n11 n12 n13 n14 n15 n16 n17 n18 n19 n20 n21 n22 n23 n24 n25 hb hg0 hg1 hf69 hf73 hf86 HN
    go_ret2
    refine ⟨by (repeat (first | exact bnew _ _ | refine Below.drew ?_ | refine balloc ?_ _)), .inl ⟨12, _, by rw [hs0]; decide, rfl, ?_⟩⟩
    rw [show gsL 12 = [(2, 8), (0, 1)] by decide +kernel]
    exact app_owns _ w.heap.size _ (by simp) (by first | omega | (simp; omega)) _ _ [(2, 8), (0, 1)] _ 2 rfl (grownCap_ge w 2 1 _) (grownCap_le_maxLen w 2 1 _ (by decide)) rfl
  · -- E2
    rename_i hlast
    have hs0 := two_of h0 H1.out (l := [50]) hlast
    clear hlast n0 n1 n2 n3 n4 n5 n6 n7 n8 n9 n10 n11 n12 n13 n14 n15 n16 n17 n18 n19 n20 n21 n22 n23 n24 n25 hb hg0 hg1 hf69 hf73 hf86 HN
    go_ret2
    refine ⟨by (repeat (first | exact bnew _ _ | refine Below.drew ?_ | refine balloc ?_ _)), .inl ⟨10, _, by rw [hs0]; decide, rfl, ?_⟩⟩
    rw [show gsL 10 = [(2, 8)] by decide +kernel]
    exact lit_owns _ w _ (by simp) (by first | omega | (simp; omega)) _ _ [(2, 8)] rfl (by decide) (by decide) rfl rfl
  · -- none
    clear n0 n1 n2 n3 n4 n5 n6 n7 n8 n9 n10 n11 n12 n13 n14 n15 n16 n17 n18 n19 n20 n21 n22 n23 n24 n25
    go_ret2
    exact ⟨by (repeat (first | exact bnew _ _ | refine balloc ?_ _)), .inr ⟨tail_no h0 H1.out HN.out (List.forall_mem_cons.2 ⟨by rw [nil_eq]; assumption, List.forall_mem_cons.2 ⟨by assumption, List.forall_mem_cons.2 ⟨by assumption, List.forall_mem_cons.2 ⟨by assumption, by intro _ h; cases h⟩⟩⟩⟩), rfl⟩⟩
end Go.Proofs.YthkmapflbopdpaaDoor

/- CN31I:
  l08Base of the model: names of one or two bytes that begin with I. -/
namespace Go.Proofs.YthkmapflbopdpaaDoor
open Go.RowKit Go.Shelf
set_option linter.unusedVariables false
set_option linter.unusedSimpArgs false

set_option maxRecDepth 100000 in
set_option maxHeartbeats 16000000 in
theorem base_I (s : ByteArray) (w : World) (hs : s.size = 1 ∨ s.size = 2) (hn : ∀ l ∈ nmL26, (s.toList == l) = false) (h1 : bt s 0 = 73) : Calls Tryd.prog 13 #[.string s] w (BasePost s w) := by
  obtain ⟨i0, hi, hz0, hz1, hz2⟩ := info_parts infoF
  have h0 : 0 < s.size := by omega
  have hb := bt_eq h0
  have hg0 : ((s.size : Int) == 0) = false := by simp only [beq_eq_false_iff_ne, ne_eq]; omega
  have hg1 : decide ((2 : Int) < (s.size : Int)) = false := by simp; omega
  have n0 : (s.toList == [66, 70]) = false := hn _ (by simp [nmL26])
  have n1 : (s.toList == [82, 48]) = false := hn _ (by simp [nmL26])
  have n2 : (s.toList == [82, 49]) = false := hn _ (by simp [nmL26])
  have n3 : (s.toList == [82, 50]) = false := hn _ (by simp [nmL26])
  have n4 : (s.toList == [77]) = false := hn _ (by simp [nmL26])
  have n5 : (s.toList == [77, 48]) = false := hn _ (by simp [nmL26])
  have n6 : (s.toList == [77, 49]) = false := hn _ (by simp [nmL26])
  have n7 : (s.toList == [77, 50]) = false := hn _ (by simp [nmL26])
  have n8 : (s.toList == [68]) = false := hn _ (by simp [nmL26])
  have n9 : (s.toList == [68, 49]) = false := hn _ (by simp [nmL26])
  have n10 : (s.toList == [68, 50]) = false := hn _ (by simp [nmL26])
  have n11 : (s.toList == [76]) = false := hn _ (by simp [nmL26])
  have n12 : (s.toList == [76, 48]) = false := hn _ (by simp [nmL26])
  have n13 : (s.toList == [76, 49]) = false := hn _ (by simp [nmL26])
  have n14 : (s.toList == [76, 50]) = false := hn _ (by simp [nmL26])
  have n15 : (s.toList == [76, 51]) = false := hn _ (by simp [nmL26])
  have n16 : (s.toList == [78]) = false := hn _ (by simp [nmL26])
  have n17 : (s.toList == [78, 50]) = false := hn _ (by simp [nmL26])
  have n18 : (s.toList == [83, 48]) = false := hn _ (by simp [nmL26])
  have n19 : (s.toList == [83, 48, 50]) = false := hn _ (by simp [nmL26])
  have n20 : (s.toList == [83, 48, 48]) = false := hn _ (by simp [nmL26])
  have n21 : (s.toList == [83, 48, 49]) = false := hn _ (by simp [nmL26])
  have n22 : (s.toList == [83, 49]) = false := hn _ (by simp [nmL26])
  have n23 : (s.toList == [83, 49, 50]) = false := hn _ (by simp [nmL26])
  have n24 : (s.toList == [83, 49, 48]) = false := hn _ (by simp [nmL26])
  have n25 : (s.toList == [83, 49, 49]) = false := hn _ (by simp [nmL26])
  have hf69 : ((bt s 0 : Int) == 69) = false := by rw [h1]; decide
  have hf73 : ((bt s 0 : Int) == 73) = true := by rw [h1]; decide
  have hf86 : ((bt s 0 : Int) == 86) = false := by rw [h1]; decide
  have HN := Lib.hid hn
  have H1 := Lib.hid h1
  clear h1 hn
  clear hs
  go_enter Tryd.func13, Tryd.ntmps13
  go_wp2_with fail
  · -- I
    rename_i hlast _
    have hs0 := two_of h0 H1.out (l := []) (by rw [nil_eq]; exact hlast)
    clear hlast n0 n1 n2 n3 n4 n5 n6 n7 n8 n9 n10 n11 n12 n13 n14 n15 n16 n17 n18 n19 n20 n21 n22 n23 n24 n25 hb hg0 hg1 hf69 hf73 hf86 HN
    go_ret2
    refine ⟨by (repeat (first | exact bnew _ _ | refine Below.drew ?_ | refine balloc ?_ _)), .inl ⟨3, _, by rw [hs0]; decide, rfl, ?_⟩⟩
    rw [show gsL 3 = [(1, 2), (0, 0), (0, 1)] by decide +kernel]
    exact app_owns _ w.heap.size _ (by simp) (by first | omega | (simp; omega)) _ _ [(1, 2), (0, 0), (0, 1)] _ 3 rfl (grownCap_ge w 3 1 _) (grownCap_le_maxLen w 3 1 _ (by decide)) rfl
  · -- I0
    rename_i hlast _
    have hs0 := two_of h0 H1.out (l := [48]) hlast
    clear hlast n0 n1 n2 n3 n4 n5 n6 n7 n8 n9 n10 n11 n12 n13 n14 n15 n16 n17 n18 n19 n20 n21 n22 n23 n24 n25 hb hg0 hg1 hf69 hf73 hf86 HN
    go_ret2
    refine ⟨by (repeat (first | exact bnew _ _ | refine Below.drew ?_ | refine balloc ?_ _)), .inl ⟨1, _, by rw [hs0]; decide, rfl, ?_⟩⟩
    rw [show gsL 1 = [(1, 2), (0, 0)] by decide +kernel]
    exact app_owns _ w.heap.size _ (by simp) (by first | omega | (simp; omega)) _ _ [(1, 2), (0, 0)] _ 2 rfl (grownCap_ge w 2 1 _) (grownCap_le_maxLen w 2 1 _ (by decide)) rfl
  · -- I1
    rename_i hlast _
    have hs0 := two_of h0 H1.out (l := [49]) hlast
    clear hlast n0 n1 n2 n3 n4 n5 n6 n7 n8 n9 n10 n11 n12 n13 n14 n15 n16 n17 n18 n19 n20 n21 n22 n23 n24 n25 hb hg0 hg1 hf69 hf73 hf86 HN
    go_ret2
    refine ⟨by (repeat (first | exact bnew _ _ | refine Below.drew ?_ | refine balloc ?_ _)), .inl ⟨2, _, by rw [hs0]; decide, rfl, ?_⟩⟩
    rw [show gsL 2 = [(1, 2), (0, 1)] by decide +kernel]
    exact app_owns _ w.heap.size _ (by simp) (by first | omega | (simp; omega)) _ _ [(1, 2), (0, 1)] _ 2 rfl (grownCap_ge w 2 1 _) (grownCap_le_maxLen w 2 1 _ (by decide)) rfl
  · -- I2
    rename_i hlast
    have hs0 := two_of h0 H1.out (l := [50]) hlast
    clear hlast n0 n1 n2 n3 n4 n5 n6 n7 n8 n9 n10 n11 n12 n13 n14 n15 n16 n17 n18 n19 n20 n21 n22 n23 n24 n25 hb hg0 hg1 hf69 hf73 hf86 HN
    go_ret2
    refine ⟨by (repeat (first | exact bnew _ _ | refine Below.drew ?_ | refine balloc ?_ _)), .inl ⟨0, _, by rw [hs0]; decide, rfl, ?_⟩⟩
    rw [show gsL 0 = [(1, 2)] by decide +kernel]
    exact lit_owns _ w _ (by simp) (by first | omega | (simp; omega)) _ _ [(1, 2)] rfl (by decide) (by decide) rfl rfl
  · -- none
    clear n0 n1 n2 n3 n4 n5 n6 n7 n8 n9 n10 n11 n12 n13 n14 n15 n16 n17 n18 n19 n20 n21 n22 n23 n24 n25
    go_ret2
    exact ⟨by (repeat (first | exact bnew _ _ | refine balloc ?_ _)), .inr ⟨tail_no h0 H1.out HN.out (List.forall_mem_cons.2 ⟨by rw [nil_eq]; assumption, List.forall_mem_cons.2 ⟨by assumption, List.forall_mem_cons.2 ⟨by assumption, List.forall_mem_cons.2 ⟨by assumption, by intro _ h; cases h⟩⟩⟩⟩), rfl⟩⟩
end Go.Proofs.YthkmapflbopdpaaDoor

/- CN31V:
  l08Base of the model: names of one or two bytes that begin with V. -/
namespace Go.Proofs.YthkmapflbopdpaaDoor
open Go.RowKit Go.Shelf
set_option linter.unusedVariables false
set_option linter.unusedSimpArgs false

set_option maxRecDepth 100000 in
set_option maxHeartbeats 16000000 in
theorem base_V (s : ByteArray) (w : World) (hs : s.size = 1 ∨ s.size = 2) (hn : ∀ l ∈ nmL26, (s.toList == l) = false) (h1 : bt s 0 = 86) : Calls Tryd.prog 13 #[.string s] w (BasePost s w) := by
  obtain ⟨i0, hi, hz0, hz1, hz2⟩ := info_parts infoF
  have h0 : 0 < s.size := by omega
  have hb := bt_eq h0
  have hg0 : ((s.size : Int) == 0) = false := by simp only [beq_eq_false_iff_ne, ne_eq]; omega
  have hg1 : decide ((2 : Int) < (s.size : Int)) = false := by simp; omega
  have n0 : (s.toList == [66, 70]) = false := hn _ (by simp [nmL26])
  have n1 : (s.toList == [82, 48]) = false := hn _ (by simp [nmL26])
  have n2 : (s.toList == [82, 49]) = false := hn _ (by simp [nmL26])
  have n3 : (s.toList == [82, 50]) = false := hn _ (by simp [nmL26])
  have n4 : (s.toList == [77]) = false := hn _ (by simp [nmL26])
  have n5 : (s.toList == [77, 48]) = false := hn _ (by simp [nmL26])
  have n6 : (s.toList == [77, 49]) = false := hn _ (by simp [nmL26])
  have n7 : (s.toList == [77, 50]) = false := hn _ (by simp [nmL26])
  have n8 : (s.toList == [68]) = false := hn _ (by simp [nmL26])
  have n9 : (s.toList == [68, 49]) = false := hn _ (by simp [nmL26])
  have n10 : (s.toList == [68, 50]) = false := hn _ (by simp [nmL26])
  have n11 : (s.toList == [76]) = false := hn _ (by simp [nmL26])
  have n12 : (s.toList == [76, 48]) = false := hn _ (by simp [nmL26])
  have n13 : (s.toList == [76, 49]) = false := hn _ (by simp [nmL26])
  have n14 : (s.toList == [76, 50]) = false := hn _ (by simp [nmL26])
  have n15 : (s.toList == [76, 51]) = false := hn _ (by simp [nmL26])
  have n16 : (s.toList == [78]) = false := hn _ (by simp [nmL26])
  have n17 : (s.toList == [78, 50]) = false := hn _ (by simp [nmL26])
  have n18 : (s.toList == [83, 48]) = false := hn _ (by simp [nmL26])
  have n19 : (s.toList == [83, 48, 50]) = false := hn _ (by simp [nmL26])
  have n20 : (s.toList == [83, 48, 48]) = false := hn _ (by simp [nmL26])
  have n21 : (s.toList == [83, 48, 49]) = false := hn _ (by simp [nmL26])
  have n22 : (s.toList == [83, 49]) = false := hn _ (by simp [nmL26])
  have n23 : (s.toList == [83, 49, 50]) = false := hn _ (by simp [nmL26])
  have n24 : (s.toList == [83, 49, 48]) = false := hn _ (by simp [nmL26])
  have n25 : (s.toList == [83, 49, 49]) = false := hn _ (by simp [nmL26])
  have hf69 : ((bt s 0 : Int) == 69) = false := by rw [h1]; decide
  have hf73 : ((bt s 0 : Int) == 73) = false := by rw [h1]; decide
  have hf86 : ((bt s 0 : Int) == 86) = true := by rw [h1]; decide
  have HN := Lib.hid hn
  have H1 := Lib.hid h1
  clear h1 hn
  clear hs
  go_enter Tryd.func13, Tryd.ntmps13
  go_wp2_with fail
  · -- V
    rename_i hlast _
    have hs0 := two_of h0 H1.out (l := []) (by rw [nil_eq]; exact hlast)
    clear hlast n0 n1 n2 n3 n4 n5 n6 n7 n8 n9 n10 n11 n12 n13 n14 n15 n16 n17 n18 n19 n20 n21 n22 n23 n24 n25 hb hg0 hg1 hf69 hf73 hf86 HN
    go_ret2
    refine ⟨by (repeat (first | exact bnew _ _ | refine Below.drew ?_ | refine balloc ?_ _)), .inl ⟨9, _, by rw [hs0]; decide, rfl, ?_⟩⟩
    rw [show gsL 9 = [(2, 14), (0, 0), (0, 1)] by decide +kernel]
    exact app_owns _ w.heap.size _ (by simp) (by first | omega | (simp; omega)) _ _ [(2, 14), (0, 0), (0, 1)] _ 3 rfl (grownCap_ge w 3 1 _) (grownCap_le_maxLen w 3 1 _ (by decide)) rfl
  · -- V0
    rename_i hlast _
    have hs0 := two_of h0 H1.out (l := [48]) hlast
    clear hlast n0 n1 n2 n3 n4 n5 n6 n7 n8 n9 n10 n11 n12 n13 n14 n15 n16 n17 n18 n19 n20 n21 n22 n23 n24 n25 hb hg0 hg1 hf69 hf73 hf86 HN
    go_ret2
    refine ⟨by (repeat (first | exact bnew _ _ | refine Below.drew ?_ | refine balloc ?_ _)), .inl ⟨7, _, by rw [hs0]; decide, rfl, ?_⟩⟩
    rw [show gsL 7 = [(2, 14), (0, 0)] by decide +kernel]
    exact app_owns _ w.heap.size _ (by simp) (by first | omega | (simp; omega)) _ _ [(2, 14), (0, 0)] _ 2 rfl (grownCap_ge w 2 1 _) (grownCap_le_maxLen w 2 1 _ (by decide)) rfl
  · -- V1
    rename_i hlast _
    have hs0 := two_of h0 H1.out (l := [49]) hlast
    clear hlast n0 n1 n2 n3 n4 n5 n6 n7 n8 n9 n10 n11 n12 n13 n14 n15 n16 n17 n18 n19 n20 n21 n22 n23 n24 n25 hb hg0 hg1 hf69 hf73 hf86 HN
    go_ret2
    refine ⟨by (repeat (first | exact bnew _ _ | refine Below.drew ?_ | refine balloc ?_ _)), .inl ⟨8, _, by rw [hs0]; decide, rfl, ?_⟩⟩
    rw [show gsL 8 = [(2, 14), (0, 1)] by decide +kernel]
    exact app_owns _ w.heap.size _ (by simp) (by first | omega | (simp; omega)) _ _ [(2, 14), (0, 1)] _ 2 rfl (grownCap_ge w 2 1 _) (grownCap_le_maxLen w 2 1 _ (by decide)) rfl
  · -- V2
    rename_i hlast
    have hs0 := two_of h0 H1.out (l := [50]) hlast
    clear hlast n0 n1 n2 n3 n4 n5 n6 n7 n8 n9 n10 n11 n12 n13 n14 n15 n16 n17 n18 n19 n20 n21 n22 n23 n24 n25 hb hg0 hg1 hf69 hf73 hf86 HN
    go_ret2
    refine ⟨by (repeat (first | exact bnew _ _ | refine Below.drew ?_ | refine balloc ?_ _)), .inl ⟨6, _, by rw [hs0]; decide, rfl, ?_⟩⟩
    rw [show gsL 6 = [(2, 14)] by decide +kernel]
    exact lit_owns _ w _ (by simp) (by first | omega | (simp; omega)) _ _ [(2, 14)] rfl (by decide) (by decide) rfl rfl
  · -- none
    clear n0 n1 n2 n3 n4 n5 n6 n7 n8 n9 n10 n11 n12 n13 n14 n15 n16 n17 n18 n19 n20 n21 n22 n23 n24 n25
    go_ret2
    exact ⟨by (repeat (first | exact bnew _ _ | refine balloc ?_ _)), .inr ⟨tail_no h0 H1.out HN.out (List.forall_mem_cons.2 ⟨by rw [nil_eq]; assumption, List.forall_mem_cons.2 ⟨by assumption, List.forall_mem_cons.2 ⟨by assumption, List.forall_mem_cons.2 ⟨by assumption, by intro _ h; cases h⟩⟩⟩⟩), rfl⟩⟩
end Go.Proofs.YthkmapflbopdpaaDoor

/- CN31n:
  l08Base of the model: names of one or two bytes among the first 26. -/
namespace Go.Proofs.YthkmapflbopdpaaDoor
open Go.RowKit Go.Shelf
set_option linter.unusedVariables false
set_option linter.unusedSimpArgs false

theorem first26 : ∀ l ∈ nmL26, bt ⟨l.toArray⟩ 0 ≠ 69 ∧ bt ⟨l.toArray⟩ 0 ≠ 73 ∧ bt ⟨l.toArray⟩ 0 ≠ 86 := by decide +kernel
set_option maxRecDepth 100000 in
set_option maxHeartbeats 16000000 in
theorem base_named (s : ByteArray) (w : World) (hs : s.size = 1 ∨ s.size = 2) (h : ∃ l ∈ nmL26, (s.toList == l) = true) : Calls Tryd.prog 13 #[.string s] w (BasePost s w) := by
  have DU := Lib.hid (fun W => l01Dual_any (n := 3) (x := 174) (R := 8) ⟨by decide, by decide, by decide, by decide, Lib.hid rfl, by decide, by decide, by decide⟩ W)
  have hdu : sumN (fun r => 1 - bitN 174 (8 - 1 - r)) 8 = 138 := by decide +kernel
  rw [hdu] at DU
  rw [show (((174 : Nat)) : Int) = 174 from rfl, show (((138 : Nat)) : Int) = 138 from rfl] at DU
  clear hdu
  have h0 : 0 < s.size := by omega
  have hb := bt_eq h0
  have hg0 : ((s.size : Int) == 0) = false := by simp only [beq_eq_false_iff_ne, ne_eq]; omega
  have hg1 : decide ((2 : Int) < (s.size : Int)) = false := by simp; omega
  obtain ⟨hf69, hf73, hf86⟩ : ((bt s 0 : Int) == 69) = false ∧ ((bt s 0 : Int) == 73) = false ∧ ((bt s 0 : Int) == 86) = false := by
    obtain ⟨l, hl, e⟩ := h
    have e2 := list_of e
    have := first26 l hl
    rw [← e2] at this
    simp only [beq_eq_false_iff_ne, ne_eq]
    omega
  have HX : Hid (¬ ∀ l ∈ nmL26, (s.toList == l) = false) := Lib.hid (fun hn => by
    obtain ⟨l, hl, e⟩ := h
    rw [hn l hl] at e
    cases e)
  clear hs h
  go_enter Tryd.func13, Tryd.ntmps13
  go_wp2_with (go_at_call 21; refine (DU.out _).mono ?_; rintro e wd ⟨rfl, hbd0⟩; have hbd : Below w.heap.size w wd := bthen (by (repeat (first | exact bnew _ _ | refine balloc ?_ _))) hbd0; clear hbd0)
  · -- BF
    rename_i hlast
    have hs0 := list_of hlast
    clear hlast
    go_ret2
    refine ⟨by (repeat (first | exact bnew _ _ | exact hbd | refine balloc ?_ _)), .inl ⟨37, _, by rw [hs0]; decide, rfl, ?_⟩⟩
    rw [show gsL 37 = [(2, 8), (1, 1)] by decide +kernel]
    exact lit_owns _ w _ (by simp) (by first | omega | (have := hbd.size; omega)) _ _ _ rfl (by decide) (by decide) rfl rfl
  · -- R0
    rename_i hlast
    have hs0 := list_of hlast
    clear hlast
    go_ret2
    refine ⟨by (repeat (first | exact bnew _ _ | exact hbd | refine balloc ?_ _)), .inl ⟨35, _, by rw [hs0]; decide, rfl, ?_⟩⟩
    rw [show gsL 35 = [(2, 8), (2, 6)] by decide +kernel]
    exact lit_owns _ w _ (by simp) (by first | omega | (have := hbd.size; omega)) _ _ _ rfl (by decide) (by decide) rfl rfl
  · -- R1
    rename_i hlast
    have hs0 := list_of hlast
    clear hlast
    go_ret2
    refine ⟨by (repeat (first | exact bnew _ _ | exact hbd | refine balloc ?_ _)), .inl ⟨36, _, by rw [hs0]; decide, rfl, ?_⟩⟩
    rw [show gsL 36 = [(2, 14), (2, 9)] by decide +kernel]
    exact lit_owns _ w _ (by simp) (by first | omega | (have := hbd.size; omega)) _ _ _ rfl (by decide) (by decide) rfl rfl
  · -- R2
    rename_i hlast
    have hs0 := list_of hlast
    clear hlast
    go_ret2
    refine ⟨by (repeat (first | exact bnew _ _ | exact hbd | refine balloc ?_ _)), .inl ⟨34, _, by rw [hs0]; decide, rfl, ?_⟩⟩
    rw [show gsL 34 = [(2, 14), (3, 130)] by decide +kernel]
    exact lit_owns _ w _ (by simp) (by first | omega | (have := hbd.size; omega)) _ _ _ rfl (by decide) (by decide) rfl rfl
  · -- M
    rename_i hlast
    have hs0 := list_of hlast
    clear hlast
    go_ret2
    refine ⟨by (repeat (first | exact bnew _ _ | exact hbd | refine balloc ?_ _)), .inl ⟨33, _, by rw [hs0]; decide, rfl, ?_⟩⟩
    rw [show gsL 33 = [(2, 14), (2, 8), (0, 0), (0, 1)] by decide +kernel]
    exact lit_owns _ w _ (by simp) (by first | omega | (have := hbd.size; omega)) _ _ _ rfl (by decide) (by decide) rfl rfl
  · -- M0
    rename_i hlast
    have hs0 := list_of hlast
    clear hlast
    go_ret2
    refine ⟨by (repeat (first | exact bnew _ _ | exact hbd | refine balloc ?_ _)), .inl ⟨31, _, by rw [hs0]; decide, rfl, ?_⟩⟩
    rw [show gsL 31 = [(2, 14), (2, 8), (0, 0)] by decide +kernel]
    exact lit_owns _ w _ (by simp) (by first | omega | (have := hbd.size; omega)) _ _ _ rfl (by decide) (by decide) rfl rfl
  · -- M1
    rename_i hlast
    have hs0 := list_of hlast
    clear hlast
    go_ret2
    refine ⟨by (repeat (first | exact bnew _ _ | exact hbd | refine balloc ?_ _)), .inl ⟨32, _, by rw [hs0]; decide, rfl, ?_⟩⟩
    rw [show gsL 32 = [(2, 14), (2, 8), (0, 1)] by decide +kernel]
    exact lit_owns _ w _ (by simp) (by first | omega | (have := hbd.size; omega)) _ _ _ rfl (by decide) (by decide) rfl rfl
  · -- M2
    rename_i hlast
    have hs0 := list_of hlast
    clear hlast
    go_ret2
    refine ⟨by (repeat (first | exact bnew _ _ | exact hbd | refine balloc ?_ _)), .inl ⟨30, _, by rw [hs0]; decide, rfl, ?_⟩⟩
    rw [show gsL 30 = [(2, 14), (2, 8)] by decide +kernel]
    exact lit_owns _ w _ (by simp) (by first | omega | (have := hbd.size; omega)) _ _ _ rfl (by decide) (by decide) rfl rfl
  · -- D
    rename_i hlast
    have hs0 := list_of hlast
    clear hlast
    go_ret2
    refine ⟨by (repeat (first | exact bnew _ _ | exact hbd | refine balloc ?_ _)), .inl ⟨21, _, by rw [hs0]; decide, rfl, ?_⟩⟩
    rw [show gsL 21 = [(3, 43)] by decide +kernel]
    exact lit_owns _ w _ (by simp) (by first | omega | (have := hbd.size; omega)) _ _ _ rfl (by decide) (by decide) rfl rfl
  · -- D1
    rename_i hlast
    have hs0 := list_of hlast
    clear hlast
    go_ret2
    refine ⟨by (repeat (first | exact bnew _ _ | exact hbd | refine balloc ?_ _)), .inl ⟨20, _, by rw [hs0]; decide, rfl, ?_⟩⟩
    rw [show gsL 20 = [(3, 142)] by decide +kernel]
    exact lit_owns _ w _ (by simp) (by first | omega | (have := hbd.size; omega)) _ _ _ rfl (by decide) (by decide) rfl rfl
  · -- D2
    rename_i hlast
    have hs0 := list_of hlast
    clear hlast
    go_ret2
    refine ⟨by (repeat (first | exact bnew _ _ | exact hbd | refine balloc ?_ _)), .inl ⟨19, _, by rw [hs0]; decide, rfl, ?_⟩⟩
    rw [show gsL 19 = [(3, 232)] by decide +kernel]
    exact lit_owns _ w _ (by simp) (by first | omega | (have := hbd.size; omega)) _ _ _ rfl (by decide) (by decide) rfl rfl
  · -- L
    rename_i hlast
    have hs0 := list_of hlast
    clear hlast
    go_ret2
    refine ⟨by (repeat (first | exact bnew _ _ | exact hbd | refine balloc ?_ _)), .inl ⟨18, _, by rw [hs0]; decide, rfl, ?_⟩⟩
    rw [show gsL 18 = [(2, 6), (0, 1)] by decide +kernel]
    exact lit_owns _ w _ (by simp) (by first | omega | (have := hbd.size; omega)) _ _ _ rfl (by decide) (by decide) rfl rfl
  · -- L0
    rename_i hlast
    have hs0 := list_of hlast
    clear hlast
    go_ret2
    refine ⟨by (repeat (first | exact bnew _ _ | exact hbd | refine balloc ?_ _)), .inl ⟨16, _, by rw [hs0]; decide, rfl, ?_⟩⟩
    rw [show gsL 16 = [(2, 6)] by decide +kernel]
    exact lit_owns _ w _ (by simp) (by first | omega | (have := hbd.size; omega)) _ _ _ rfl (by decide) (by decide) rfl rfl
  · -- L1
    rename_i hlast
    have hs0 := list_of hlast
    clear hlast
    go_ret2
    refine ⟨by (repeat (first | exact bnew _ _ | exact hbd | refine balloc ?_ _)), .inl ⟨17, _, by rw [hs0]; decide, rfl, ?_⟩⟩
    rw [show gsL 17 = [(2, 9)] by decide +kernel]
    exact lit_owns _ w _ (by simp) (by first | omega | (have := hbd.size; omega)) _ _ _ rfl (by decide) (by decide) rfl rfl
  · -- L2
    rename_i hlast
    have hs0 := list_of hlast
    clear hlast
    go_ret2
    refine ⟨by (repeat (first | exact bnew _ _ | exact hbd | refine balloc ?_ _)), .inl ⟨14, _, by rw [hs0]; decide, rfl, ?_⟩⟩
    rw [show gsL 14 = [(3, 150)] by decide +kernel]
    exact lit_owns _ w _ (by simp) (by first | omega | (have := hbd.size; omega)) _ _ _ rfl (by decide) (by decide) rfl rfl
  · -- L3
    rename_i hlast
    have hs0 := list_of hlast
    clear hlast
    go_ret2
    refine ⟨by (repeat (first | exact bnew _ _ | exact hbd | refine balloc ?_ _)), .inl ⟨15, _, by rw [hs0]; decide, rfl, ?_⟩⟩
    rw [show gsL 15 = [(3, 105)] by decide +kernel]
    exact lit_owns _ w _ (by simp) (by first | omega | (have := hbd.size; omega)) _ _ _ rfl (by decide) (by decide) rfl rfl
  · -- N
    rename_i hlast
    have hs0 := list_of hlast
    clear hlast
    go_ret2
    refine ⟨by (repeat (first | exact bnew _ _ | exact hbd | refine balloc ?_ _)), .inl ⟨5, _, by rw [hs0]; decide, rfl, ?_⟩⟩
    rw [show gsL 5 = [(1, 1), (0, 1)] by decide +kernel]
    exact lit_owns _ w _ (by simp) (by first | omega | (have := hbd.size; omega)) _ _ _ rfl (by decide) (by decide) rfl rfl
  · -- N2
    rename_i hlast
    have hs0 := list_of hlast
    clear hlast
    go_ret2
    refine ⟨by (repeat (first | exact bnew _ _ | exact hbd | refine balloc ?_ _)), .inl ⟨4, _, by rw [hs0]; decide, rfl, ?_⟩⟩
    rw [show gsL 4 = [(1, 1)] by decide +kernel]
    exact lit_owns _ w _ (by simp) (by first | omega | (have := hbd.size; omega)) _ _ _ rfl (by decide) (by decide) rfl rfl
  · -- S0
    rename_i hlast
    have hs0 := list_of hlast
    clear hlast
    go_ret2
    refine ⟨by (repeat (first | exact bnew _ _ | exact hbd | refine balloc ?_ _)), .inl ⟨25, _, by rw [hs0]; decide, rfl, ?_⟩⟩
    rw [show gsL 25 = [(2, 13)] by decide +kernel]
    exact lit_owns _ w _ (by simp) (by first | omega | (have := hbd.size; omega)) _ _ _ rfl (by decide) (by decide) rfl rfl
  · -- S02
    rename_i hlast
    have hs0 := list_of hlast
    clear hlast
    go_ret2
    refine ⟨by (repeat (first | exact bnew _ _ | exact hbd | refine balloc ?_ _)), .inl ⟨24, _, by rw [hs0]; decide, rfl, ?_⟩⟩
    rw [show gsL 24 = [(3, 174)] by decide +kernel]
    exact lit_owns _ w _ (by simp) (by first | omega | (have := hbd.size; omega)) _ _ _ rfl (by decide) (by decide) rfl rfl
  · -- S00
    rename_i hlast
    have hs0 := list_of hlast
    clear hlast
    go_ret2
    refine ⟨by (repeat (first | exact bnew _ _ | exact hbd | refine balloc ?_ _)), .inl ⟨22, _, by rw [hs0]; decide, rfl, ?_⟩⟩
    rw [show gsL 22 = [(3, 234)] by decide +kernel]
    exact lit_owns _ w _ (by simp) (by first | omega | (have := hbd.size; omega)) _ _ _ rfl (by decide) (by decide) rfl rfl
  · -- S01
    rename_i hlast
    have hs0 := list_of hlast
    clear hlast
    go_ret2
    refine ⟨by (repeat (first | exact bnew _ _ | exact hbd | refine balloc ?_ _)), .inl ⟨23, _, by rw [hs0]; decide, rfl, ?_⟩⟩
    rw [show gsL 23 = [(3, 234), (0, 1)] by decide +kernel]
    exact lit_owns _ w _ (by simp) (by first | omega | (have := hbd.size; omega)) _ _ _ rfl (by decide) (by decide) rfl rfl
  · -- S1
    rename_i hlast
    have hs0 := list_of hlast
    clear hlast
    go_ret2
    refine ⟨by (repeat (first | exact bnew _ _ | exact hbd | refine balloc ?_ _)), .inl ⟨29, _, by rw [hs0]; decide, rfl, ?_⟩⟩
    rw [show gsL 29 = [(2, 2)] by decide +kernel]
    exact lit_owns _ w _ (by simp) (by first | omega | (have := hbd.size; omega)) _ _ _ rfl (by decide) (by decide) rfl rfl
  · -- S12
    rename_i hlast
    have hs0 := list_of hlast
    clear hlast
    go_ret2
    refine ⟨by (repeat (first | exact bnew _ _ | exact hbd | refine balloc ?_ _)), .inl ⟨28, _, by rw [hs0]; decide, rfl, ?_⟩⟩
    rw [show gsL 28 = [(3, 138)] by decide +kernel]
    exact lit_owns _ w _ (by simp) (by first | omega | (have := hbd.size; omega)) _ _ _ rfl (by decide) (by decide) rfl rfl
  · -- S10
    rename_i hlast
    have hs0 := list_of hlast
    clear hlast
    go_ret2
    refine ⟨by (repeat (first | exact bnew _ _ | exact hbd | refine balloc ?_ _)), .inl ⟨26, _, by rw [hs0]; decide, rfl, ?_⟩⟩
    rw [show gsL 26 = [(3, 168)] by decide +kernel]
    exact lit_owns _ w _ (by simp) (by first | omega | (have := hbd.size; omega)) _ _ _ rfl (by decide) (by decide) rfl rfl
  · -- S11
    rename_i hlast
    have hs0 := list_of hlast
    clear hlast
    go_ret2
    refine ⟨by (repeat (first | exact bnew _ _ | exact hbd | refine balloc ?_ _)), .inl ⟨27, _, by rw [hs0]; decide, rfl, ?_⟩⟩
    rw [show gsL 27 = [(3, 168), (0, 0)] by decide +kernel]
    exact lit_owns _ w _ (by simp) (by first | omega | (have := hbd.size; omega)) _ _ _ rfl (by decide) (by decide) rfl rfl
  · exfalso
    refine HX.out ?_
    repeat (refine List.forall_mem_cons.2 ⟨by assumption, ?_⟩)
    exact fun _ h => absurd h (by simp)
end Go.Proofs.YthkmapflbopdpaaDoor

/- CN29:
  IsInNamed, IsBelow, DualName, GeneratorsOf of the program. -/
namespace Go.Proofs.YthkmapflbopdpaaDoor
open Go.RowKit Go.Shelf
set_option linter.unusedVariables false
set_option linter.unusedSimpArgs false

theorem clFind_mem {s : ByteArray} {p : Nat × Nat} (h : clFind s = some p) : p ∈ clTo 38 := by
  unfold clFind at h
  exact List.mem_of_find?_eq_some h

set_option maxHeartbeats 2000000 in
theorem implGeneratorsOf_syn {s : ByteArray} (hs : clFind s = none) {a : Addr} (w : World) (hE : ErrN w a) :
    Calls Tryd.prog 5 #[.string s] w fun e w' => e = .returned (.tuple #[.slice none 0 0, .int .i64 6]) ∧ Below w.heap.size w w' := by
  have RC := Lib.hid (fun W hE => readCloneName_no hs (a := a) W hE)
  have HE := Lib.hid hE
  clear hE
  go_enter Tryd.func5, Tryd.ntmps5
  go_wp2_with (go_at_call 10; refine (RC.out _ HE.out).mono ?_; rintro e w3 ⟨hb3, rfl⟩)
  exact bodyPost_ret (v := .tuple #[.slice none 0 0, .int .i64 6]) (by simp [results, Tryd.results5, go_sem]) rfl ⟨rfl, balloc hb3 _⟩
set_option maxHeartbeats 2000000 in
theorem implGeneratorsOf_yes {s : ByteArray} {p : Nat × Nat} (hs : clFind s = some p) {a : Addr} (w : World) (hE : ErrN w a) (hT : TabN w) :
    Calls Tryd.prog 5 #[.string s] w fun e w' => ∃ v, e = .returned (.tuple #[v, .int .i64 0]) ∧ OwnsF w' w.heap.size v (gnL p) ∧ Below w.heap.size w w' := by
  have RC := Lib.hid (fun W hE => readCloneName_yes hs (a := a) W hE)
  have GEN := Lib.hid (fun ta tn tc W hT => generators_any (clFind_mem hs) ta tn tc W hT)
  have HE := Lib.hid hE
  have HT := Lib.hid hT
  clear hE hT
  generalize gnL p = gs at GEN ⊢
  generalize lnB p.1 = lb at RC GEN
  generalize lnG p.1 = lg at RC GEN
  generalize (lnK p.1 : Int) = lk at RC GEN
  generalize (p.2 : Int) = ld at RC GEN
  go_enter Tryd.func5, Tryd.ntmps5
  go_wp2_with (first
    | (go_at_call 10; refine (RC.out _ HE.out).mono ?_; rintro e w3 ⟨hb3, ta, tn, tc, rfl⟩)
    | (go_at_call 11; refine (GEN.out _ _ _ _ (HT.out.below (balloc hb3 _))).mono ?_; rintro e w4 ⟨sv, rfl, hO, hb4⟩; have HO := Lib.hid hO; clear hO))
  refine bodyPost_ret (v := .tuple #[sv, .int .i64 0]) (by simp [results, Tryd.results5, go_sem]) rfl ⟨sv, rfl, ?_, bthen (balloc hb3 _) hb4⟩
  exact row_mono HO.out (by have := hb3.size; simp; omega)
end Go.Proofs.YthkmapflbopdpaaDoor

/- CN32:
  l08Generators of the model: names without a degree, and names that are none. -/
namespace Go.Proofs.YthkmapflbopdpaaDoor
open Go.RowKit Go.Shelf
set_option linter.unusedVariables false
set_option linter.unusedSimpArgs false

theorem base_any (s : ByteArray) (w : World) : Calls Tryd.prog 13 #[.string s] w (BasePost s w) := by
  by_cases hs : s.size = 0 ∨ 2 < s.size
  · exact base_long s w hs
  have hs2 : s.size = 1 ∨ s.size = 2 := by omega
  by_cases hn : ∀ l ∈ nmL26, (s.toList == l) = false
  · by_cases h1 : bt s 0 = 69
    · exact base_E s w hs2 hn h1
    by_cases h2 : bt s 0 = 73
    · exact base_I s w hs2 hn h2
    by_cases h3 : bt s 0 = 86
    · exact base_V s w hs2 hn h3
    exact base_other s w hs2 hn h1 h2 h3
  · refine base_named s w hs2 ?_
    have ⟨l, hl⟩ := Classical.not_forall.1 hn
    have ⟨hm, hf⟩ := Classical.not_imp.1 hl
    exact ⟨l, hm, by simpa using hf⟩

def GenPost (s : ByteArray) (w : World) (e : Ending) (w' : World) : Prop := Below w.heap.size w w' ∧ ((∃ p v, clFind s = some p ∧ e = .returned (.tuple #[v, .bool true]) ∧ OwnsF w' w.heap.size v (gnL p)) ∨ (clFind s = none ∧ e = .returned (.tuple #[.slice none 0 0, .bool false])))

theorem bsFind_mem {s : ByteArray} {j : Nat} (h : bsFind s = some j) : j < 38 ∧ lnB j = s := by
  unfold bsFind at h
  exact ⟨List.mem_range.1 (List.mem_of_find?_eq_some h), by simpa using List.find?_some h⟩
theorem clFind_name {s : ByteArray} {p : Nat × Nat} (h : clFind s = some p) : clName p = s := by
  unfold clFind at h
  simpa using List.find?_some h
set_option maxRecDepth 100000 in
theorem cl_plain : ∀ j < 38, clFind (lnB j) = some (j, 9) := by decide +kernel
set_option maxRecDepth 100000 in
theorem cl_facts : ∀ p ∈ clTo 38, (p.2 = 9 → clName p = lnB p.1 ∧ ((clName p).size < 4 ∨ bt (clName p) ((clName p).size - 2) ≠ 94)) ∧ (p.2 ≠ 9 → 4 ≤ (clName p).size ∧ bt (clName p) ((clName p).size - 2) = 94 ∧ bt (clName p) 0 = 83 ∧ (bt (clName p) ((clName p).size - 1) = 50 ∨ bt (clName p) ((clName p).size - 1) = 51) ∧ bsFind ((clName p).extract 0 ((clName p).size - 2)) = some p.1) := by decide +kernel
def degB (j d : Nat) : Bool := (bt (lnB j) 0 != 83) || (decide (clFind ⟨(lnB j).data ++ #[94, UInt8.ofNat (48 + d)]⟩ = some (j, d)) && ((lnK j == 0 && bt (lnB j) 1 != 49) || (lnK j == 1 && bt (lnB j) 1 == 49)))
set_option maxRecDepth 100000 in
theorem cl_degB : ∀ j < 38, degB j 2 = true ∧ degB j 3 = true := by decide +kernel
theorem cl_deg {j d : Nat} (hj : j < 38) (h : bt (lnB j) 0 = 83) (hd : d = 2 ∨ d = 3) : clFind ⟨(lnB j).data ++ #[94, UInt8.ofNat (48 + d)]⟩ = some (j, d) ∧ (lnK j = 0 ∧ bt (lnB j) 1 ≠ 49 ∨ lnK j = 1 ∧ bt (lnB j) 1 = 49) := by
  have hB : degB j d = true := by
    rcases hd with rfl | rfl
    · exact (cl_degB j hj).1
    · exact (cl_degB j hj).2
  unfold degB at hB
  rw [show (bt (lnB j) 0 != 83) = false by simp [h], Bool.false_or, Bool.and_eq_true, decide_eq_true_eq] at hB
  refine ⟨hB.1, ?_⟩
  have := hB.2
  simpa [Bool.or_eq_true, Bool.and_eq_true] using this
theorem plain_some {s : ByteArray} {j : Nat} (h : bsFind s = some j) : clFind s = some (j, 9) := by
  obtain ⟨h1, h2⟩ := bsFind_mem h
  rw [← h2]
  exact cl_plain j h1
theorem bs_lnB : ∀ j < 38, bsFind (lnB j) = some j := by decide +kernel
theorem plain_none {s : ByteArray} (h : bsFind s = none) (hs : s.size < 4 ∨ bt s (s.size - 2) ≠ 94) : clFind s = none := by
  cases hc : clFind s with
  | none => rfl
  | some p =>
    exfalso
    have hm := clFind_mem hc
    have hn := clFind_name hc
    obtain ⟨f1, f2⟩ := cl_facts p hm
    by_cases e : p.2 = 9
    · have := (f1 e).1
      rw [hn] at this
      rw [this, bs_lnB _ (clAll p hm).1] at h
      cases h
    · have := f2 e
      rw [hn] at this
      omega
theorem gen_no {s : ByteArray} {m : Nat} (hsz : s.size = m + 2) (hm : 2 ≤ m) (h94 : bt s m = 94) (h : bsFind (s.extract 0 m) = none ∨ bt s 0 ≠ 83 ∨ (bt s (m + 1) ≠ 50 ∧ bt s (m + 1) ≠ 51)) : clFind s = none := by
  cases hc : clFind s with
  | none => rfl
  | some p =>
    exfalso
    have hm := clFind_mem hc
    have hn := clFind_name hc
    obtain ⟨f1, f2⟩ := cl_facts p hm
    have e1 : s.size - 2 = m := by omega
    have e2 : s.size - 1 = m + 1 := by omega
    by_cases e : p.2 = 9
    · have := (f1 e).2
      rw [hn, e1] at this
      omega
    · obtain ⟨_, _, g1, g2, g3⟩ := f2 e
      rw [hn] at g1 g2 g3
      rw [e1] at g3
      rw [e2] at g2
      rw [g3] at h
      rcases h with h | h | h
      · cases h
      · omega
      · omega
theorem split2 {s : ByteArray} {m : Nat} (hsz : s.size = m + 2) : s = ⟨(s.extract 0 m).data ++ #[UInt8.ofNat (bt s m), UInt8.ofNat (bt s (m + 1))]⟩ := by
  apply ByteArray.ext
  have hd : s.data.size = m + 2 := hsz
  have he : (s.extract 0 m).data.size = m := by
    show (s.extract 0 m).size = m
    rw [ByteArray.size_extract]; omega
  apply Array.ext
  · rw [Array.size_append, he, hd]; rfl
  · intro i h1 h2
    rw [Array.getElem_append]
    have hi : i < s.size := h1
    split
    · rename_i h3
      have h4 : i < (s.extract 0 m).size := h3
      have := ByteArray.getElem_extract (i := i) (b := s) (start := 0) (stop := m) h4
      simp only [Nat.zero_add] at this
      exact this.symm
    · rename_i h3
      have hc : i = m ∨ i = m + 1 := by omega
      rcases hc with rfl | rfl
      · simp only [he, Nat.sub_self]
        have : UInt8.ofNat (bt s i) = s[i] := by unfold bt; rw [dif_pos hi]; simp
        exact this.symm
      · have e3 : m + 1 - (s.extract 0 m).data.size = 1 := by omega
        simp only [e3]
        have : UInt8.ofNat (bt s (m + 1)) = s[m + 1] := by unfold bt; rw [dif_pos hi]; simp
        exact this.symm
theorem gen_is {s : ByteArray} {m j d : Nat} (hsz : s.size = m + 2) (hm : 2 ≤ m) (h94 : bt s m = 94) (hb : bsFind (s.extract 0 m) = some j) (h0 : bt s 0 = 83) (hd : d = 2 ∨ d = 3) (hc : bt s (m + 1) = 48 + d) : clFind s = some (j, d) ∧ (lnK j = 0 ∧ bt s 1 ≠ 49 ∨ lnK j = 1 ∧ bt s 1 = 49) := by
  obtain ⟨h1, h2⟩ := bsFind_mem hb
  have b0 := bt_extract s 0 m 0 (by omega) (by omega)
  have b1 := bt_extract s 0 m 1 (by omega) (by omega)
  simp only [Nat.zero_add] at b0 b1
  rw [← h2] at b0 b1
  obtain ⟨f1, f2⟩ := cl_deg h1 (by rw [b0]; exact h0) hd
  refine ⟨?_, by rw [← b1]; exact f2⟩
  have e := split2 hsz
  rw [← h2, h94, hc] at e
  rw [e]
  exact f1

set_option maxRecDepth 100000 in
set_option maxHeartbeats 4000000 in
theorem gen_short (s : ByteArray) (hs : s.size < 4) (hb : s.size ≤ 1048576) (w : World) : Calls Tryd.prog 9 #[.string s] w (GenPost s w) := by
  have BA := Lib.hid (fun W => base_any s W)
  have PS := Lib.hid (fun j h => plain_some (s := s) (j := j) h)
  have PN := Lib.hid (fun h => plain_none (s := s) h (.inl hs))
  have hg : decide ((s.size : Int) - 2 < 2) = true := by simp; omega
  go_enter Tryd.func9, Tryd.ntmps9
  go_wp2_with (go_at_call 13; refine (BA.out _).mono ?_; rintro e w3 ⟨hb3, ⟨j, v, hj, rfl, hO⟩ | ⟨hj, rfl⟩⟩)
  · refine bodyPost_ret (v := .tuple #[v, .bool true]) (by simp [results, Tryd.results9, go_sem]) rfl ?_
    exact ⟨hb3, .inl ⟨(j, 9), v, PS.out j hj, rfl, by rw [show gnL (j, 9) = gsL j by simp [gnL]]; exact hO⟩⟩
  · refine bodyPost_ret (v := .tuple #[.slice none 0 0, .bool false]) (by simp [results, Tryd.results9, go_sem]) rfl ?_
    exact ⟨hb3, .inr ⟨PN.out hj, rfl⟩⟩
set_option maxRecDepth 100000 in
set_option maxHeartbeats 4000000 in
theorem gen_plain (s : ByteArray) {m : Nat} (hsz : s.size = m + 2) (hm : 2 ≤ m) (hb : s.size ≤ 1048576) (h94 : bt s m ≠ 94) (w : World) : Calls Tryd.prog 9 #[.string s] w (GenPost s w) := by
  have BA := Lib.hid (fun W => base_any s W)
  have PS := Lib.hid (fun j h => plain_some (s := s) (j := j) h)
  have PN := Lib.hid (fun h => plain_none (s := s) h (.inr (by rw [hsz]; exact h94)))
  have hms : m < s.size := by omega
  have hbm := bt_eq hms
  have hne : ((bt s m : Int) != 94) = true := by simp; omega
  clear h94
  go_enter Tryd.func9, Tryd.ntmps9
  go_wp2_with (go_at_call 13; refine (BA.out _).mono ?_; rintro e w3 ⟨hb3, ⟨j, v, hj, rfl, hO⟩ | ⟨hj, rfl⟩⟩)
  · refine bodyPost_ret (v := .tuple #[v, .bool true]) (by simp [results, Tryd.results9, go_sem]) rfl ?_
    exact ⟨hb3, .inl ⟨(j, 9), v, PS.out j hj, rfl, by rw [show gnL (j, 9) = gsL j by simp [gnL]]; exact hO⟩⟩
  · refine bodyPost_ret (v := .tuple #[.slice none 0 0, .bool false]) (by simp [results, Tryd.results9, go_sem]) rfl ?_
    exact ⟨hb3, .inr ⟨PN.out hj, rfl⟩⟩
set_option maxRecDepth 100000 in
set_option maxHeartbeats 4000000 in
theorem gen_none1 (s : ByteArray) {m : Nat} (hsz : s.size = m + 2) (hm : 2 ≤ m) (hb : s.size ≤ 1048576) (h94 : bt s m = 94) (h : bsFind (s.extract 0 m) = none) (w : World) : Calls Tryd.prog 9 #[.string s] w (GenPost s w) := by
  have BA := Lib.hid (fun W => base_any (s.extract 0 m) W)
  have hms : m < s.size := by omega
  have hm1 : m + 1 < s.size := by omega
  have h0s : 0 < s.size := by omega
  have hbm := bt_eq hms
  have hb1 := bt_eq hm1
  have hb0 := bt_eq h0s
  have hne : ((bt s m : Int) != 94) = false := by simp [h94]
  have PN := Lib.hid (gen_no hsz hm h94 (.inl h))
  have HN := Lib.hid h
  clear h
  clear h94
  go_enter Tryd.func9, Tryd.ntmps9
  go_wp2_with (go_at_call 13; refine (BA.out _).mono ?_; rintro e w3 ⟨hb3, ⟨j, v, hj, rfl, hO⟩ | ⟨hj, rfl⟩⟩; (rw [HN.out] at hj; cases hj))
  all_goals (
    refine bodyPost_ret (v := .tuple #[.slice none 0 0, .bool false]) (by simp [results, Tryd.results9, go_sem]) rfl ?_
    exact ⟨hb3, .inr ⟨PN.out, rfl⟩⟩)
set_option maxRecDepth 100000 in
set_option maxHeartbeats 4000000 in
theorem gen_none2 (s : ByteArray) {m : Nat} (hsz : s.size = m + 2) (hm : 2 ≤ m) (hb : s.size ≤ 1048576) (h94 : bt s m = 94) {j : Nat} (hj : bsFind (s.extract 0 m) = some j) (h : bt s 0 ≠ 83) (w : World) : Calls Tryd.prog 9 #[.string s] w (GenPost s w) := by
  have BA := Lib.hid (fun W => base_any (s.extract 0 m) W)
  have hms : m < s.size := by omega
  have hm1 : m + 1 < s.size := by omega
  have h0s : 0 < s.size := by omega
  have hbm := bt_eq hms
  have hb1 := bt_eq hm1
  have hb0 := bt_eq h0s
  have hne : ((bt s m : Int) != 94) = false := by simp [h94]
  have PN := Lib.hid (gen_no hsz hm h94 (.inr (.inl h)))
  have hn0 : ((bt s 0 : Int) != 83) = true := by simp; omega
  have HJ := Lib.hid hj
  clear h hj
  clear h94
  go_enter Tryd.func9, Tryd.ntmps9
  go_wp2_with (go_at_call 13; refine (BA.out _).mono ?_; rintro e w3 ⟨hb3, ⟨j, v, hj, rfl, hO⟩ | ⟨hj, rfl⟩⟩; rotate_left; (rw [HJ.out] at hj; cases hj); clear hO)
  all_goals (
    refine bodyPost_ret (v := .tuple #[.slice none 0 0, .bool false]) (by simp [results, Tryd.results9, go_sem]) rfl ?_
    exact ⟨hb3, .inr ⟨PN.out, rfl⟩⟩)
set_option maxRecDepth 100000 in
set_option maxHeartbeats 4000000 in
theorem gen_none3 (s : ByteArray) {m : Nat} (hsz : s.size = m + 2) (hm : 2 ≤ m) (hb : s.size ≤ 1048576) (h94 : bt s m = 94) {j : Nat} (hj : bsFind (s.extract 0 m) = some j) (h0 : bt s 0 = 83) (h : bt s (m + 1) ≠ 50 ∧ bt s (m + 1) ≠ 51) (w : World) : Calls Tryd.prog 9 #[.string s] w (GenPost s w) := by
  have BA := Lib.hid (fun W => base_any (s.extract 0 m) W)
  have hms : m < s.size := by omega
  have hm1 : m + 1 < s.size := by omega
  have h0s : 0 < s.size := by omega
  have hbm := bt_eq hms
  have hb1 := bt_eq hm1
  have hb0 := bt_eq h0s
  have hne : ((bt s m : Int) != 94) = false := by simp [h94]
  have PN := Lib.hid (gen_no hsz hm h94 (.inr (.inr h)))
  have hn0 : ((bt s 0 : Int) != 83) = false := by simp [h0]
  have hn1 : ((bt s (m + 1) : Int) != 50) = true := by simp; omega
  have hn2 : ((bt s (m + 1) : Int) != 51) = true := by simp; omega
  have hn3 : ((bt s (m + 1) : Int) == 51) = false := by simp; omega
  have HJ := Lib.hid hj
  clear h hj h0
  clear h94
  go_enter Tryd.func9, Tryd.ntmps9
  go_wp2_with (go_at_call 13; refine (BA.out _).mono ?_; rintro e w3 ⟨hb3, ⟨j, v, hj, rfl, hO⟩ | ⟨hj, rfl⟩⟩; rotate_left; (rw [HJ.out] at hj; cases hj); clear hO)
  all_goals (
    refine bodyPost_ret (v := .tuple #[.slice none 0 0, .bool false]) (by simp [results, Tryd.results9, go_sem]) rfl ?_
    exact ⟨hb3, .inr ⟨PN.out, rfl⟩⟩)
end Go.Proofs.YthkmapflbopdpaaDoor
