/-
  The texts NV1, NV2, NX1, L2, Z1, Z3, Z6, NP1, NP2 in one.
-/
import Derived.Test.YtlohldddioikaaaMPRelationsKept1
import Derived.Deep.RegionHeld3
import Derived.Deep.AppendLies
import Derived.RangeFuncNested

/- NV1:
  What a function makes of tuples, in the model. -/
namespace Go.Proofs.Ytlohldddioikaaa
open Go.RowKit
set_option linter.unusedVariables false
set_option linter.unusedSimpArgs false

theorem or_plus (a b i : Nat) (ha : a < 2 ^ i) (hb : b ≤ 1) (hi : i < 16) : bits .or .i64 (a : Int) (wrap64 ((b : Int) * 2 ^ i)) = ((a + b * 2 ^ i : Nat) : Int) := by
  have h16 : 2 ^ i ≤ 65536 := Nat.le_trans (Nat.pow_le_pow_right (by decide) (Nat.le_of_lt hi)) (by decide : 2 ^ 16 ≤ 65536)
  have hor : a ||| b * 2 ^ i = a + b * 2 ^ i := by
    have := Nat.two_pow_add_eq_or_of_lt ha b
    rw [Nat.or_comm, Nat.mul_comm b, ← this, Nat.add_comm]
  have e : (b : Int) * 2 ^ i = ((b * 2 ^ i : Nat) : Int) := by push_cast; rfl
  have hle : b * 2 ^ i ≤ 1 * 2 ^ i := Nat.mul_le_mul_right _ hb
  rw [Nat.one_mul] at hle
  rw [e, ← hor]
  generalize b * 2 ^ i = q at hle
  generalize 2 ^ i = z at ha h16 hle
  rw [IntWalk.wrap64_in _ ⟨by omega, by omega⟩]
  exact bits_or_nat _ _ (by omega) (by omega)

theorem rowP_take (p : List Nat) (i k : Nat) (hi : i < p.length) : rowP (p.take (i + 1)) k = rowP (p.take i) k + bitN (p[i]?.getD 0) k * 2 ^ i := by
  rw [List.take_succ_eq_append_getElem hi, rowP_snoc, List.length_take, Nat.min_eq_left (by omega), bitN_testBit, List.getElem?_eq_getElem hi]
  rfl

set_option maxRecDepth 100000 in
set_option maxHeartbeats 4000000 in
theorem l06Value_any {n : Int} {x R : Nat} (ok : FOk n x R) {g c : Nat} {p : List Nat} (hp4 : p.length ≤ 4) (h16 : ∀ a, a ∈ p → a < 16) {P : Nat} (hP : P ≤ 4) (w : World)
    (hc : Hid (∀ j, j < p.length → w.cell? ⟨g, j, none⟩ = some (.int .i64 ((p[j]?.getD 0 : Nat) : Int)))) :
    Calls Try.prog 93 #[.agg #[.int .i64 n, .int .i64 (x : Int)], .slice (some ⟨g, 0, none⟩) p.length c, .int .i64 (P : Int)] w fun e w' => e = .returned (.int .i64 (tupV x p P : Int)) ∧ Below w.heap.size w w' := by
  obtain ⟨W1, hW1⟩ : ∃ W1, w.alloc (.cells #[.int .i64 n, .int .i64 (x : Int)] 34) = W1 := ⟨_, rfl⟩
  have p0 : W1.cell? ⟨w.heap.size, 0, none⟩ = some (.int .i64 n) := by rw [← hW1]; simp [go_sem]
  have p1 : W1.cell? ⟨w.heap.size, 1, none⟩ = some (.int .i64 (x : Int)) := by rw [← hW1]; simp [go_sem]
  have hB : Below w.heap.size w W1 := by rw [← hW1]; exact bnew _ _
  have HT : Hid (tupV x p P = sumN (fun k => bitN x (rowP p k)) P) := Lib.hid rfl
  go_enter Try.func93, Try.ntmps93
  go_wp2
  clear hW1
  go_loopw [7, 8] (fun o k' wr => ∃ k : Nat, k ≤ P ∧ k' = .int .i64 k ∧ o = .int .i64 (sumN (fun k => bitN x (rowP p k)) k : Int) ∧ Below W1.heap.size W1 wr) (fun _ k' _ => P - (intOf k').toNat)
  case atStart => exact ⟨0, Nat.zero_le _, rfl, rfl, Below.refl _ _⟩
  case round =>
    obtain ⟨k, hk, rfl, rfl, hN⟩ := hrel
    have q0 := kc hN p0
    have q1 := kc hN p1
    by_cases hlt : k < P
    · have k4 : k < 4 := by omega
      go_wp2
      go_loopw [9, 10] (fun o i' wq => wq = wr ∧ ∃ i : Nat, i ≤ p.length ∧ i' = .int .i64 i ∧ o = .int .i64 (rowP (p.take i) k : Int)) (fun _ i' _ => p.length - (intOf i').toNat)
      case atStart => exact ⟨rfl, 0, Nat.zero_le _, rfl, rfl⟩
      case round =>
        obtain ⟨rfl, i, hi, rfl, rfl⟩ := hrel
        by_cases hil : i < p.length
        · have hcell := kc hN (kc hB (hc.out i hil))
          have ha : p[i]?.getD 0 < 16 := by rw [List.getElem?_eq_getElem hil]; exact h16 _ (List.getElem_mem hil)
          have hrow : rowP (p.take i) k < 2 ^ i := by
            have := rowP_lt (p.take i) k
            rwa [List.length_take, Nat.min_eq_left (by omega)] at this
          have hop := or_plus (rowP (p.take i) k) (bitN (p[i]?.getD 0) k) i hrow (bitN_le _ _) (by omega)
          rw [← rowP_take p i k hil] at hop
          have hdig := digit_eq (p[i]?.getD 0) k (by omega)
          generalize p[i]?.getD 0 = a at hcell ha hop hdig
          generalize bitN a k = b at hop hdig
          generalize rowP (p.take i) k = r1 at hop hrow ⊢
          have HOP := Lib.hid hop
          clear hrow
          go_wp2
          go_roundw
          case rel => exact ⟨by first | exact True.intro | rfl, i + 1, by omega, by go_num, by first | rfl | rw [HOP.out]⟩
          case measure => simp [intOf]; omega
        · obtain rfl : i = p.length := by omega
          have hrl := rowP_lt p k
          have h24 : 2 ^ p.length ≤ 2 ^ 4 := Nat.pow_le_pow_right (by decide) hp4
          rw [List.take_length]
          have hop := or_plus (sumN (fun k => bitN x (rowP p k)) k) (bitN x (rowP p k)) k (sumN_lt _ _ (fun _ _ => bitN_le _ _)) (bitN_le _ _) (by omega)
          have hs : sumN (fun k => bitN x (rowP p k)) (k + 1) = sumN (fun k => bitN x (rowP p k)) k + bitN x (rowP p k) * 2 ^ k := rfl
          rw [← hs] at hop
          have HOP := Lib.hid hop
          have hr16 : rowP p k < 62 := by omega
          clear hop hs hrl h24
          generalize rowP p k = r1 at HOP hr16 ⊢
          generalize sumN (fun k => bitN x (rowP p k)) k = s0 at HOP ⊢
          have hop := HOP.out
          obtain ⟨s1, hs1⟩ : ∃ s1, s1 = sumN (fun k => bitN x (rowP p k)) (k + 1) := ⟨_, rfl⟩
          rw [← hs1] at hop
          have HS1 := Lib.hid hs1
          clear hs1
          go_wp2_with (go_at_call 76; refine (l01At_any n x r1 ok.hx hr16 _).mono ?_; rintro e w2 ⟨rfl, hb2⟩; have hN2 := bthen hN hb2)
          go_roundw
          case rel => exact ⟨k + 1, by omega, by go_num, by rw [HS1.out], hN2⟩
          case measure => simp [intOf]; omega
    · obtain rfl : k = P := by omega
      have hB2 := bthen hB hN
      rw [← HT.out]
      go_wp2
      go_ret
      exact ⟨rfl, hB2⟩
end Go.Proofs.Ytlohldddioikaaa

/- NV2:
  All that a function makes of tuples of a relation, in the model; what is kept. -/
namespace Go.Proofs.Ytlohldddioikaaa
open Go.RowKit
set_option linter.unusedVariables false
set_option linter.unusedSimpArgs false

set_option maxRecDepth 100000 in
set_option maxHeartbeats 2000000 in
theorem l01Own_nv (ys : List Int) (hl : ys.length ≤ 1000) (ad : Addr) (c : Nat) (w : World) (H : ∀ (j : Nat) (u : Value), (ints ys)[j]? = some u → w.cell? (ad.add j) = some u) :
    Calls Try.prog 94 #[.slice (some ad) ys.length c] w fun e w' => ∃ s, e = .returned s ∧ Owns w' w.heap.size s ys ∧ Below w.heap.size w w' := by
  obtain ⟨i0, hi, hz0, hz1, hz2⟩ := info_parts infoI
  have O0 := Lib.hid (World.ownsRow_lit (e := 2) (size := 1) w #[] 0 (Nat.le_refl _) (by decide) rfl)
  have H2 := Lib.hid (fun (j : Nat) (u : Value) (h : (ints ys)[j]? = some u) => kc (bnew w (.cells #[] 2)) (H j u h))
  have hb := bnew w (.cells #[] 2)
  have hln : (ints ys).length = ys.length * 1 := by simp [ints]
  clear H
  go_enter Try.func94, Try.ntmps94
  go_wp2_with (at_builtin; refine wpList_append_own _ rfl _ _ 61 rfl w.heap.size 2 i0 (.int .i64 0) 1 8 Try.underlying61 hi hz0 hz1 hz2 rfl (by decide) _ _ _ rfl O0.out ad ys.length c (ints ys) rfl hln H2.out (by intro u hu; simp [ints] at hu; obtain ⟨z, _, rfl⟩ := hu; rfl) (by unfold maxLen; omega) (by omega) (by simp) ?_)
  intro v' w1 hown' hgrow _
  have hB := hb.grown hgrow (by simp) (fun j e => (O0.out.lt j e).1)
  have HO := Lib.hid (show Owns w1 w.heap.size v' ys by
    unfold Owns
    simpa using hown')
  clear hown' hgrow
  go_wp2
  go_ret
  exact ⟨_, rfl, HO.out, hB⟩


/-- The first j of what is put in next. -/
def madeTo (x P : Nat) (gs b : List Nat) (m j : Nat) : List Nat := (gs.take j).flatMap fun a => madeL x P gs (b ++ [a]) m
theorem madeTo_succ (x P : Nat) (gs b : List Nat) (m j a : Nat) (h : gs[j]? = some a) : madeTo x P gs b m (j + 1) = madeTo x P gs b m j ++ madeL x P gs (b ++ [a]) m := by
  obtain ⟨hj, e⟩ := List.getElem?_eq_some_iff.1 h
  unfold madeTo
  rw [List.take_succ_eq_append_getElem hj, List.flatMap_append, e]
  simp
theorem madeTo_all (x P : Nat) (gs b : List Nat) (m : Nat) : madeL x P gs b (m + 1) = madeTo x P gs b m gs.length := by
  rw [madeL_succ, madeTo, List.take_length]
theorem or_made {x P R : Nat} (hR : R = 2 ^ P) (hR16 : R ≤ 16) (gs b : List Nat) (m : Nat) : orL 0 (madeL x P gs b m) < 65536 := by
  have h : orL 0 (madeL x P gs b m) < 2 ^ R := orL_lt (Nat.two_pow_pos R) (fun t ht => by rw [hR]; exact madeL_lt ht)
  exact Nat.lt_of_lt_of_le h (Nat.le_trans (Nat.pow_le_pow_right (by decide) hR16) (by decide : 2 ^ 16 ≤ 65536))
theorem or_madeTo {x P R : Nat} (hR : R = 2 ^ P) (hR16 : R ≤ 16) (gs b : List Nat) (m j : Nat) : orL 0 (madeTo x P gs b m j) < 65536 := by
  have h : orL 0 (madeTo x P gs b m j) < 2 ^ R := orL_lt (Nat.two_pow_pos R) (fun t ht => by
    obtain ⟨a, _, h2⟩ := List.mem_flatMap.1 ht
    rw [hR]; exact madeL_lt h2)
  exact Nat.lt_of_lt_of_le h (Nat.le_trans (Nat.pow_le_pow_right (by decide) hR16) (by decide : 2 ^ 16 ≤ 65536))
theorem pow_shift (t : Nat) (ht : t < 16) : IntKind.i64.wrap ((2 : Int) ^ t) = ((2 ^ t : Nat) : Int) := by
  have e : (2 : Int) ^ t = ((2 ^ t : Nat) : Int) := by push_cast; rfl
  have h16 : 2 ^ t ≤ 65536 := Nat.le_trans (Nat.pow_le_pow_right (by decide) (Nat.le_of_lt ht)) (by decide : 2 ^ 16 ≤ 65536)
  rw [e]
  generalize 2 ^ t = z at h16
  exact wrap64_small (by omega) (by omega)

/-- The cells of a list of numbers that is only read. -/
def RdL (w : World) (g : Nat) (b : List Nat) : Prop := Hid (∀ j, j < b.length → w.cell? ⟨g, j, none⟩ = some (.int .i64 ((b[j]?.getD 0 : Nat) : Int)))
theorem RdL.below {w w' : World} {g : Nat} {b : List Nat} (h : RdL w g b) (hb : Below w.heap.size w w') : RdL w' g b := Lib.hid fun j hj => kc hb (h.out j hj)
theorem RdL.of {W : World} {base : Nat} {s : Value} {b : List Nat} (h : Owns W base s (nI b)) (hb : 0 < b.length) : ∃ g c, s = .slice (some ⟨g, 0, none⟩) b.length c ∧ RdL W g b := by
  rcases h.shape with ⟨e, _⟩ | ⟨_, g, c, e, _, _, hc, _⟩
  · have := congrArg List.length e; rw [nI_length] at this; simp at this; rw [this] at hb; simp at hb
  · rw [nI_length] at e hc
    exact ⟨g, c, e, Lib.hid fun j hj => by rw [hc.out j hj, nI_get b j hj]⟩

theorem step_append_nv {P : Program} (w : World) {ops : Array Oper} {o : Oper} {a : Act} {K : Act → World → Prop} {Q : Exit → Act → World → Prop} {E : Prop}
    (hg : o.guard = none) (s x : Operand) (t : TypeId) (hop : o.op = Op.call { callee := Callee.builtin Builtin.append, args := #[s, x], argTypes := #[t, t] })
    (base : Nat) (e : TypeId) (i : TypeInfo) (z : Value) (size bytes : Nat) (h1 : P.underlying t = some (.slice e)) (h2 : P.info? e = some i) (h3 : i.zero = some z) (h4 : i.size = size) (h5 : i.bytes = bytes) (h6 : z.cells.size = size) (h7 : 0 < size)
    (v : Value) (k : Nat) (xs : List Value) (hs : a.eval s = v) (hown : w.ownsRow base e size v k xs) (ad : Addr) (m c : Nat) (news : List Value) (hx : a.eval x = .slice (some ad) m c) (hn : news.length = m * size)
    (hc : ∀ j u, news[j]? = some u → w.cell? (ad.add j) = some u) (h1c : ∀ u ∈ news, u.oneCell' = true) (b1 : k + m ≤ maxLen) (b2 : (k + m) * bytes ≤ 140737488355328) (b3 : base ≤ w.heap.size)
    (hK : ∀ v' w', w'.ownsRow base e size v' (k + m) (xs ++ news) → w.grownBy w' v.ownBlock → K (a.put o.dst v') w') :
    if Region.wanted o (yielded ops a.tmps) = true then Oper.wp P o a w K Q else E := by
  rw [if_pos (by simp [Region.wanted, hg])]
  obtain ⟨v', w', hrun, r1, r2, _⟩ := run_append_own (P := P) w base t o.type e i z size bytes h1 h2 h3 h4 h5 h6 h7 v k xs hown ad m c news hn hc h1c b1 b2 b3
  unfold Oper.wp
  simp [execOp, hop, resolve, invoke, builtin, hs, hx, hrun, Result.andThen]
  exact hK _ _ r1 r2

theorem add_nv (g a j : Nat) : (⟨g, a, none⟩ : Addr).add j = ⟨g, a + j, none⟩ := by
  simp only [Addr.add]
  split <;> simp_all
theorem cell_of_nI {W : World} {base : Nat} {gs : List Nat} {g cap : Nat} (h : Owns W base (.slice (some ⟨g, 0, none⟩) gs.length cap) (nI gs)) (j a : Nat) (ha : gs[j]?.getD 0 = a) (hj : j < gs.length) : W.cell? ⟨g, j, none⟩ = some (.int .i64 (a : Int)) := by
  obtain ⟨g', c', e, hc⟩ := RdL.of h (by omega)
  injection e with e1 _ _
  injection e1 with e1
  injection e1 with e1 _ _
  subst e1
  rw [hc.out j hj, ha]

theorem Owns.below' {W W' : World} {base : Nat} {s : Value} {xs : List Int} (h : Owns W base s xs) (hb : Below W.heap.size W W') : Owns W' base s xs := h.below hb

set_option maxRecDepth 100000 in
set_option maxHeartbeats 8000000 in
theorem l06Made_zero {k : Nat} {x R : Nat} (ok : FOk (k : Int) x R) (k4 : k ≤ 4) {P y Q : Nat} (okr : ROk (P : Int) y Q) (gs : List Nat) (sl : Value) {g c : Nat} {b : List Nat} (hb : b.length = k) (h16 : ∀ a, a ∈ b → a < 16) (w : World) (hc : RdL w g b) :
    Calls Try.prog 69 #[.agg #[.int .i64 k, .int .i64 (x : Int)], .agg #[.int .i64 P, .int .i64 (y : Int)], sl, .slice (some ⟨g, 0, none⟩) b.length c] w fun e w' => e = .returned (.int .i64 (orL 0 (madeL x P gs b 0) : Int)) ∧ Below w.heap.size w w' := by
  obtain ⟨W1, hW1⟩ : ∃ W1, (w.alloc (.cells #[.int .i64 (k : Int), .int .i64 (x : Int)] 34)).alloc (.cells #[.int .i64 (P : Int), .int .i64 (y : Int)] 25) = W1 := ⟨_, rfl⟩
  have p0 : W1.cell? ⟨w.heap.size, 0, none⟩ = some (.int .i64 (k : Int)) := by rw [← hW1]; simp [go_sem]
  have p1 : W1.cell? ⟨w.heap.size, 1, none⟩ = some (.int .i64 (x : Int)) := by rw [← hW1]; simp [go_sem]
  have r0 : W1.cell? ⟨w.heap.size + 1, 0, none⟩ = some (.int .i64 (P : Int)) := by rw [← hW1]; simp [go_sem]
  have hB : Below w.heap.size w W1 := by rw [← hW1]; exact balloc (bnew _ _) _
  have hP : P ≤ 4 := by have := okr.h4; omega
  have hQ : Q = 2 ^ P := by have := okr.he; simpa using this
  have hQ16 := okr.r16
  have ht : tupV x b P < 16 := by have := tupV_lt x b P; rw [← hQ] at this; omega
  have HV := Lib.hid (l06Value_any ok (g := g) (c := c) (p := b) (by omega) h16 hP W1 (hc.below hB))
  have HR : Hid (orL 0 (madeL x P gs b 0) = 2 ^ tupV x b P) := Lib.hid (by rw [madeL_zero]; simp [orL])
  have hs := pow_shift (tupV x b P) ht
  have hw : IntKind.u64.wrap ((tupV x b P : Nat) : Int) = ((tupV x b P : Nat) : Int) := by simp [IntKind.wrap, IntKind.bits, IntKind.signed]; omega
  clear hQ
  generalize tupV x b P = t at HV HR hs ht hw
  obtain ⟨z, hz⟩ : ∃ z, z = 2 ^ t := ⟨_, rfl⟩
  rw [← hz] at hs HR
  clear hz hc
  subst hb
  go_enter Try.func69, Try.ntmps69
  go_wp2_with (go_at_call 93; refine HV.out.mono ?_; rintro e w2 ⟨rfl, hb2⟩)
  go_ret
  exact ⟨by rw [HR.out]; rfl, bthen hB hb2⟩

set_option maxRecDepth 100000 in
set_option maxHeartbeats 16000000 in
theorem l06Made_succ {k : Nat} {x R : Nat} (ok : FOk (k : Int) x R) (k4 : k ≤ 4) {P y Q : Nat} (okr : ROk (P : Int) y Q) (gs : List Nat) (d : Nat) (gl : gs.length ≤ 16)
    (ih : ∀ (b : List Nat) (g c : Nat) (sl : Value) (w : World), b.length + d = k → (∀ a, a ∈ b → a ∈ gs) → Owns w 0 sl (nI gs) → RdL w g b →
      Calls Try.prog 69 #[.agg #[.int .i64 k, .int .i64 (x : Int)], .agg #[.int .i64 P, .int .i64 (y : Int)], sl, .slice (some ⟨g, 0, none⟩) b.length c] w fun e w' => e = .returned (.int .i64 (orL 0 (madeL x P gs b d) : Int)) ∧ Below w.heap.size w w')
    (b : List Nat) (g c : Nat) (sl : Value) (w : World) (hb : b.length + (d + 1) = k) (hbg : ∀ a, a ∈ b → a ∈ gs) (ho : Owns w 0 sl (nI gs)) (hc : RdL w g b) :
    Calls Try.prog 69 #[.agg #[.int .i64 k, .int .i64 (x : Int)], .agg #[.int .i64 P, .int .i64 (y : Int)], sl, .slice (some ⟨g, 0, none⟩) b.length c] w fun e w' => e = .returned (.int .i64 (orL 0 (madeL x P gs b (d + 1)) : Int)) ∧ Below w.heap.size w w' := by
  obtain ⟨i0, hi, hz0, hz1, hz2⟩ := info_parts infoI
  obtain ⟨W1, hW1⟩ : ∃ W1, (w.alloc (.cells #[.int .i64 (k : Int), .int .i64 (x : Int)] 34)).alloc (.cells #[.int .i64 (P : Int), .int .i64 (y : Int)] 25) = W1 := ⟨_, rfl⟩
  have p0 : W1.cell? ⟨w.heap.size, 0, none⟩ = some (.int .i64 (k : Int)) := by rw [← hW1]; simp [go_sem]
  have p1 : W1.cell? ⟨w.heap.size, 1, none⟩ = some (.int .i64 (x : Int)) := by rw [← hW1]; simp [go_sem]
  have r0 : W1.cell? ⟨w.heap.size + 1, 0, none⟩ = some (.int .i64 (P : Int)) := by rw [← hW1]; simp [go_sem]
  have r1 : W1.cell? ⟨w.heap.size + 1, 1, none⟩ = some (.int .i64 (y : Int)) := by rw [← hW1]; simp [go_sem]
  have hB : Below w.heap.size w W1 := by rw [← hW1]; exact balloc (bnew _ _) _
  have hQ : Q = 2 ^ P := by have := okr.he; simpa using this
  have hQ16 := okr.r16
  have HALL := Lib.hid (madeTo_all x P gs b d)
  have HOR := Lib.hid (fun m (b : List Nat) => or_made (x := x) hQ hQ16 gs b m)
  have HOT := Lib.hid (fun j => or_madeTo (x := x) hQ hQ16 gs b d j)
  obtain ⟨bl, hbl⟩ : ∃ bl, b.length = bl := ⟨_, rfl⟩
  obtain ⟨sa, cap, rfl⟩ : ∃ a cap, sl = .slice a gs.length cap := owns_len ho (nI_length gs)
  have ho1 := ho.below hB
  have hc1 := hc.below hB
  have hne : ((bl : Int) == (k : Int)) = false := by simp; omega
  rw [hbl] at hb ⊢
  have HBL := Lib.hid hbl
  clear hQ hbl ho hc
  go_enter Try.func69, Try.ntmps69
  go_wp2
  clear hW1 hne
  go_loopw [9, 10] (fun o j' wr => ∃ j : Nat, j ≤ gs.length ∧ j' = .int .i64 j ∧ o = .int .i64 (orL 0 (madeTo x P gs b d j) : Int) ∧ Below W1.heap.size W1 wr) (fun _ j' _ => gs.length - (intOf j').toNat)
  case atStart => exact ⟨0, Nat.zero_le _, rfl, rfl, Below.refl _ _⟩
  case round =>
    obtain ⟨j, hj, rfl, rfl, hN⟩ := hrel
    have q0 := kc hN p0
    have q1 := kc hN p1
    have s0 := kc hN r0
    have s1 := kc hN r1
    by_cases hlt : j < gs.length
    · obtain ⟨a, ha⟩ : ∃ a, gs[j]? = some a := ⟨_, List.getElem?_eq_getElem hlt⟩
      have hag : a ∈ gs := List.mem_of_getElem? ha
      obtain ⟨G, rfl⟩ : ∃ G, sa = some ⟨G, 0, none⟩ := by
        rcases ho1.shape with ⟨e, _⟩ | ⟨_, g, c, e, _⟩
        · have := congrArg List.length e; rw [nI_length] at this; simp at this; rw [this] at hlt; simp at hlt
        · injection e with e1 _ _
          exact ⟨g, e1⟩
      have hor := ho1.below hN
      have hcr := hc1.below hN
      have cg : wr.cell? ⟨G, j, none⟩ = some (.int .i64 (a : Int)) := by
        refine cell_of_nI hor j a ?_ hlt
        rw [ha]; rfl
      have mkS : ∀ W : World, Below wr.heap.size wr W → (((W.cell? ⟨w.heap.size, 0, none⟩ = some (.int .i64 (k : Int)) ∧ W.cell? ⟨w.heap.size, 1, none⟩ = some (.int .i64 (x : Int))) ∧ (W.cell? ⟨w.heap.size + 1, 0, none⟩ = some (.int .i64 (P : Int)) ∧ W.cell? ⟨w.heap.size + 1, 1, none⟩ = some (.int .i64 (y : Int)))) ∧ (W.cell? ⟨G, j, none⟩ = some (.int .i64 (a : Int)) ∧ Below wr.heap.size wr W)) := fun W h => ⟨⟨⟨kc h q0, kc h q1⟩, ⟨kc h s0, kc h s1⟩⟩, kc h cg, h⟩
      have MK := Lib.hid mkS
      have STH : Hid (∀ W W' : World, Below W.heap.size W W' → (((W.cell? ⟨w.heap.size, 0, none⟩ = some (.int .i64 (k : Int)) ∧ W.cell? ⟨w.heap.size, 1, none⟩ = some (.int .i64 (x : Int))) ∧ (W.cell? ⟨w.heap.size + 1, 0, none⟩ = some (.int .i64 (P : Int)) ∧ W.cell? ⟨w.heap.size + 1, 1, none⟩ = some (.int .i64 (y : Int)))) ∧ (W.cell? ⟨G, j, none⟩ = some (.int .i64 (a : Int)) ∧ Below wr.heap.size wr W)) → (((W'.cell? ⟨w.heap.size, 0, none⟩ = some (.int .i64 (k : Int)) ∧ W'.cell? ⟨w.heap.size, 1, none⟩ = some (.int .i64 (x : Int))) ∧ (W'.cell? ⟨w.heap.size + 1, 0, none⟩ = some (.int .i64 (P : Int)) ∧ W'.cell? ⟨w.heap.size + 1, 1, none⟩ = some (.int .i64 (y : Int)))) ∧ (W'.cell? ⟨G, j, none⟩ = some (.int .i64 (a : Int)) ∧ Below wr.heap.size wr W'))) := Lib.hid fun W W' h hs => mkS W' (bthen hs.2.2 h)
      have OWN : Hid (∀ W : World, (((W.cell? ⟨w.heap.size, 0, none⟩ = some (.int .i64 (k : Int)) ∧ W.cell? ⟨w.heap.size, 1, none⟩ = some (.int .i64 (x : Int))) ∧ (W.cell? ⟨w.heap.size + 1, 0, none⟩ = some (.int .i64 (P : Int)) ∧ W.cell? ⟨w.heap.size + 1, 1, none⟩ = some (.int .i64 (y : Int)))) ∧ (W.cell? ⟨G, j, none⟩ = some (.int .i64 (a : Int)) ∧ Below wr.heap.size wr W)) → Calls Try.prog 94 #[.slice (some ⟨g, 0, none⟩) bl c] W fun e w' => ∃ s, e = .returned s ∧ Owns w' wr.heap.size s (nI b) ∧ Below W.heap.size W w') := Lib.hid fun W hs => by
        have h := l01Own_nv (nI b) (by rw [nI_length, HBL.out]; omega) ⟨g, 0, none⟩ c W (fun q u hu => by
          have hq : q < b.length := by have := (List.getElem?_eq_some_iff.1 hu).1; simpa [ints, nI] using this
          have := kc hs.2.2 (hcr.out q hq)
          simp [ints, nI, hq] at hu
          rw [show ((⟨g, 0, none⟩ : Addr).add q) = ⟨g, q, none⟩ from (add_nv g 0 q).trans (by rw [Nat.zero_add]), this, ← hu, List.getElem?_eq_getElem hq]
          simp)
        rw [nI_length, HBL.out] at h
        exact h.mono fun e w' ⟨s, h1, h2, h3⟩ => ⟨s, h1, Owns.mono h2 hs.2.2.size, h3⟩
      have hba : (b ++ [a]).length = bl + 1 := by rw [List.length_append, HBL.out]; rfl
      have MADE : Hid (∀ (W : World) (v : Value), (((W.cell? ⟨w.heap.size, 0, none⟩ = some (.int .i64 (k : Int)) ∧ W.cell? ⟨w.heap.size, 1, none⟩ = some (.int .i64 (x : Int))) ∧ (W.cell? ⟨w.heap.size + 1, 0, none⟩ = some (.int .i64 (P : Int)) ∧ W.cell? ⟨w.heap.size + 1, 1, none⟩ = some (.int .i64 (y : Int)))) ∧ (W.cell? ⟨G, j, none⟩ = some (.int .i64 (a : Int)) ∧ Below wr.heap.size wr W)) → Owns W wr.heap.size v (nI (b ++ [a])) → Calls Try.prog 69 #[.agg #[.int .i64 k, .int .i64 (x : Int)], .agg #[.int .i64 P, .int .i64 (y : Int)], .slice (some ⟨G, 0, none⟩) gs.length cap, v] W fun e w' => e = .returned (.int .i64 (orL 0 (madeL x P gs (b ++ [a]) d) : Int)) ∧ Below W.heap.size W w') := Lib.hid fun W v hs ho => by
        obtain ⟨g6, c6, e6, h6⟩ := RdL.of ho (by rw [hba]; omega)
        rw [e6]
        exact ih (b ++ [a]) g6 c6 _ W (by rw [hba]; omega) (fun q hq => by
          rcases List.mem_append.1 hq with h | h
          · exact hbg q h
          · simp at h; rw [h]; exact hag) (hor.below' hs.2.2) h6
      have HA := Lib.hid ha
      have HNN := Lib.hid hN
      have hnl : (nI b).length = bl := by rw [nI_length, HBL.out]
      have h0 := HOT.out j
      have h1 := HOR.out d (b ++ [a])
      clear ha mkS hor hcr hN
      go_wp2
      go_region_held3 (fun W => ((W.cell? ⟨w.heap.size, 0, none⟩ = some (.int .i64 (k : Int)) ∧ W.cell? ⟨w.heap.size, 1, none⟩ = some (.int .i64 (x : Int))) ∧ (W.cell? ⟨w.heap.size + 1, 0, none⟩ = some (.int .i64 (P : Int)) ∧ W.cell? ⟨w.heap.size + 1, 1, none⟩ = some (.int .i64 (y : Int)))) ∧ (W.cell? ⟨G, j, none⟩ = some (.int .i64 (a : Int)) ∧ Below wr.heap.size wr W))
        (first | with_reducible exact MK.out _ (Below.refl _ _).drew | with_reducible exact MK.out _ (bnew _ _).drew | (with_reducible refine STH.out _ _ hb5 ?_; with_reducible assumption) | (with_reducible refine STH.out _ _ (bnew _ _) ?_; with_reducible assumption) | with_reducible assumption)
        (first
          | (refine step_append_nv _ rfl _ _ 61 rfl wr.heap.size 2 i0 (.int .i64 0) 1 8 Try.underlying61 hi hz0 hz1 hz2 rfl (by decide) _ _ _ rfl O6 ⟨wr.heap.size, 0, none⟩ 1 1 [.int .i64 (a : Int)] rfl rfl (fun j u h => kc hb5 (cell_one_new _ _ _ j u h)) (one_cell_int _) (by unfold maxLen; omega) (by omega) T5.2.2.size ?_; intro v6 w6 hown6 hgrow6; have O7 : Owns w6 wr.heap.size v6 (nI (b ++ [a])) := (by unfold Owns; rw [nI_snoc, ints_snoc, List.length_append]; exact hown6); have T7 := MK.out w6 (T5.2.2.grown hgrow6 T5.2.2.size (fun j e => (O6.lt j e).1)))
          | (refine step_append_nv _ rfl _ _ 61 rfl wr.heap.size 2 i0 (.int .i64 0) 1 8 Try.underlying61 hi hz0 hz1 hz2 rfl (by decide) _ _ _ rfl (O6.alloc _) ⟨w5.heap.size, 0, none⟩ 1 1 [.int .i64 (a : Int)] rfl rfl (cell_one_new _ _ _) (one_cell_int _) (by unfold maxLen; omega) (by omega) (by have := T5.2.2.size; simp; omega) ?_; intro v6 w6 hown6 hgrow6; have O7 : Owns w6 wr.heap.size v6 (nI (b ++ [a])) := (by unfold Owns; rw [nI_snoc, ints_snoc, List.length_append]; exact hown6); have T7 := MK.out w6 ((T5.2.2.alloc T5.2.2.size _).grown hgrow6 (by have := T5.2.2.size; simp; omega) (fun j e => (O6.lt j e).1)))
          | (go_at_call 94; refine (OWN.out _ (by with_reducible assumption)).mono ?_; rintro e w5 ⟨s5, rfl, O5, hb5⟩; have T5 := STH.out _ _ hb5 (by with_reducible assumption); have O6 : World.ownsRow _ _ _ _ _ _ _ := O5)
          | (go_at_call 69; refine (MADE.out _ _ (by with_reducible assumption) O7).mono ?_; rintro e w8 ⟨rfl, hb5⟩; have T8 := STH.out _ _ hb5 (by with_reducible assumption)))
      all_goals
        have hN8 := bthen HNN.out T8.2.2
        have HE : Hid (bits .or .i64 (orL 0 (madeTo x P gs b d j) : Int) (orL 0 (madeL x P gs (b ++ [a]) d) : Int) = (orL 0 (madeTo x P gs b d (j + 1)) : Int)) := Lib.hid (by
          rw [bits_or_nat _ _ (Nat.lt_trans h0 (by decide)) (Nat.lt_trans h1 (by decide)), madeTo_succ _ _ _ _ _ _ _ HA.out, orL_append])
        clear T8 O7 O6 O5
        go_wp2
        go_roundw
        case rel => exact ⟨j + 1, by omega, by go_num, by rw [HE.out], hN8⟩
        case measure => simp [intOf]; omega
    · obtain rfl : j = gs.length := by omega
      have hB2 := bthen hB hN
      go_wp2
      go_ret
      exact ⟨by rw [HALL.out]; rfl, hB2⟩

/-- .. by however many. -/
theorem l06Made_any {k : Nat} {x R : Nat} (ok : FOk (k : Int) x R) (k4 : k ≤ 4) {P y Q : Nat} (okr : ROk (P : Int) y Q) (gs : List Nat) (gl : gs.length ≤ 16) (g16 : ∀ a, a ∈ gs → a < 16) (d : Nat) :
    ∀ (b : List Nat) (g c : Nat) (sl : Value) (w : World), b.length + d = k → (∀ a, a ∈ b → a ∈ gs) → Owns w 0 sl (nI gs) → RdL w g b →
      Calls Try.prog 69 #[.agg #[.int .i64 k, .int .i64 (x : Int)], .agg #[.int .i64 P, .int .i64 (y : Int)], sl, .slice (some ⟨g, 0, none⟩) b.length c] w fun e w' => e = .returned (.int .i64 (orL 0 (madeL x P gs b d) : Int)) ∧ Below w.heap.size w w' := by
  induction d with
  | zero => exact fun b g c sl w hb hbg _ hc => l06Made_zero ok k4 okr gs sl hb (fun a ha => g16 a (hbg a ha)) w hc
  | succ d ih => exact fun b g c sl w hb hbg ho hc => l06Made_succ ok k4 okr gs d gl ih b g c sl w hb hbg ho hc
end Go.Proofs.Ytlohldddioikaaa

/- NX1:
  A range over a function whose iterator keeps cells of its own, or is itself made of another one: what is asked of it, and the law of who ranges over it.
  A round keeps the blocks of T (the iterator's own); the caller's word speaks of blocks below K alone. -/
namespace Go.Proofs.Ytlohldddioikaaa
open Go Go.RowKit

set_option linter.unusedVariables false

/-- What lay in the blocks of S lies as it lay. -/
structure Above (S : Nat → Prop) (W W' : World) : Prop where
  size : W.heap.size ≤ W'.heap.size
  same : ∀ k, S k → k < W.heap.size → W'.heap[k]? = W.heap[k]?
theorem Above.refl (S : Nat → Prop) (W : World) : Above S W W := ⟨Nat.le_refl _, fun _ _ _ => rfl⟩
theorem Above.trans {S : Nat → Prop} {A B C : World} (h : Above S A B) (k : Above S B C) : Above S A C :=
  ⟨Nat.le_trans h.size k.size, fun i h1 h2 => (k.same i h1 (Nat.lt_of_lt_of_le h2 h.size)).trans (h.same i h1 h2)⟩
theorem Above.mono {S S' : Nat → Prop} {A B : World} (h : Above S A B) (hk : ∀ k, S' k → S k) : Above S' A B := ⟨h.size, fun i h1 h2 => h.same i (hk i h1) h2⟩
theorem Above.grown {S : Nat → Prop} {A B : World} {row : Option Nat} (hg : A.grownBy B row) (hr : ∀ r, row = some r → ¬ S r) : Above S A B :=
  ⟨hg.size, fun i h1 h2 => hg.block i h2 (fun e => hr i e.symm h1)⟩
theorem Above.below {S : Nat → Prop} {A B : World} (h : Below A.heap.size A B) : Above S A B := ⟨h.size, fun i _ h2 => h.block i h2⟩
theorem Above.put {S : Nat → Prop} (W : World) (l : Nat) (o : Obj) (hl : ¬ S l) : Above S W (W.putObj l o) := Above.grown (grownBy_putObj' W l o) (fun r e => by cases e; exact hl)

/-- What speaks of blocks below K alone. -/
def Firm {β : Type} (K : Nat) (J : β → World → Prop) : Prop :=
  ∀ s W W' row, J s W → W.grownBy W' row → (∀ r, row = some r → K ≤ r) → J s W'
theorem Firm.mono {β : Type} {K K' : Nat} {J : β → World → Prop} (h : Firm K J) (hk : K ≤ K') : Firm K' J := fun s W W' row hs hg hr => h s W W' row hs hg (fun r e => Nat.le_trans hk (hr r e))
theorem Firm.and {β : Type} {K : Nat} {I I' : β → World → Prop} (h : Firm K I) (h' : Firm K I') : Firm K (fun s W => I s W ∧ I' s W) :=
  fun s W W' row hs hg hr => ⟨h s W W' row hs.1 hg hr, h' s W W' row hs.2 hg hr⟩
theorem Firm.put {β : Type} {K : Nat} {J : β → World → Prop} (h : Firm K J) {s : β} {W : World} (l : Nat) (o : Obj) (hs : J s W) (hl : K ≤ l) : J s (W.putObj l o) :=
  h s W _ (some l) hs (grownBy_putObj' W l o) (fun r e => by cases e; exact hl)
theorem Firm.alloc {β : Type} {K : Nat} {J : β → World → Prop} (h : Firm K J) {s : β} {W : World} (o : Obj) (hs : J s W) : J s (W.alloc o) :=
  h s W _ none hs (World.grownBy_alloc W o none) (fun r e => by cases e)
/-- A block below K that holds o, and what a step behind K does to it: nothing. -/
theorem firm_block {β : Type} {K k : Nat} (hk : k < K) (o : Obj) : Firm K (fun (_ : β) W => W.heap[k]? = some o) :=
  fun _ W W' row hs hg hr => (hg.block k (Array.getElem?_eq_some_iff.1 hs).1 (fun e => by have := hr k e.symm; omega)).trans hs
theorem firm_below {β : Type} {K m : Nat} {w : World} (hm : m ≤ K) (hs : m ≤ w.heap.size) : Firm K (fun (_ : β) W => Below m w W) :=
  fun _ W W' row hb hg hr => hb.grown hg (Nat.le_trans hs hb.size) (fun r e => Nat.le_trans hm (hr r e))
theorem firm_pure {β : Type} (K : Nat) (p : β → Prop) : Firm K (fun s (_ : World) => p s) := fun _ _ _ _ hs _ _ => hs

/-- **The contract**: at whatever loop l whose rounds keep the blocks of T, and whose word speaks of blocks below K alone, K at most the heap's size at the call. -/
def SeqX {α : Type} (F : Fence) (n : Nat) (P : Program) (g : Nat) (lb : Array Value) (encs : α → Array Value) (S Sp : List α → Prop) (N K : Nat) (T : Nat → Prop) (w : World) : Prop :=
  ∀ (l : Nat) (J Jx : List α → World → Prop) (W : World), Below w.heap.size w W → K ≤ W.heap.size → Firm K J → Firm K Jx →
    (∀ pre x W1, J pre W1 → pre.length < N → YieldAt F (n - 1) P l (encs x) W1 fun e W' =>
      Above T W1 W' ∧ ((e = .returned (.bool true) ∧ J (pre ++ [x]) W') ∨ (e = .returned (.bool false) ∧ Jx (pre ++ [x]) W'))) →
    J [] W →
    CallsIn F n P g (#[.func (.yield l) #[] #[]] ++ lb) W fun e W' => (∃ v, e = .returned v) ∧ ((∃ xs, S xs ∧ J xs W') ∨ (∃ pre, Sp pre ∧ Jx pre W'))

/-- How a round may be left. -/
def postX {α : Type} (B : Nat) (T : Nat → Prop) (I : List α → World → Prop) (Ix : Code → List α → World → Prop) (xs : List α) (W : World) : Exit → Act → World → Prop
  | .normal, _, W' => (KeepsFrom B W W' ∧ Above T W W') ∧ I xs W'
  | .ret, _, W' => (KeepsFrom B W W' ∧ Above T W W') ∧ Ix .ret xs W'
  | .exit id, _, W' => (KeepsFrom B W W' ∧ Above T W W') ∧ Ix (.exit id) xs W'
  | .goto t, _, W' => (KeepsFrom B W W' ∧ Above T W W') ∧ Ix (.goto t) xs W'
  | .panic _, _, _ => False
  | .outgrown, _, _ => False

variable {F : Fence} {n : Nat} {P : Program}

/-- **The law of who ranges over it.** -/
theorem wpIn_rangeFunc_X {α : Type} {g : Operand} {ps : Array Tmp} {assign body : Code} {Q : Exit → Act → World → Prop} {a : Act} {w : World}
    (hro : F.round = none) (h1 : 1 ≤ n) {gf : Nat} {lb : Array Value} (hg : a.eval g = .func (.func gf) #[] lb) (hFg : F.fn gf) (eg : ∀ args w, (callFunc gf args).run P w = .ok (.enter gf args) w)
    {encs : α → Array Value} {S Sp : List α → Prop} {N : Nat} {T : Nat → Prop} {w0 : World} (hT : ¬ T (w.heap.size + 1)) (hseq : SeqX F (n - 1) P gf lb encs S Sp N (w.heap.size + 2) T w0)
    (hb0 : Below w0.heap.size w0 w) (hps : ∀ x, (encs x).size = ps.size)
    (I : List α → World → Prop) (Ix : Code → List α → World → Prop) (hI : Firm w.heap.size I) (hIx : ∀ c, Firm w.heap.size (Ix c)) (h0 : I [] w) (a₁ : α → Act)
    (hassign : ∀ (l : Nat) (x : α) (W : World) (K : Act → World → Prop), K (a₁ x) W →
      assign.wpIn (F.inRound l) (n - 1 - 1) P (Exit.then K (fun _ _ _ => False)) { tmps := (ps.zip (encs x)).foldl (fun t (p, v) => t.setIfInBounds p v) a.tmps, defers := [] } W)
    (hbody : ∀ (l : Nat) (pre : List α) (x : α) (W : World), I pre W → pre.length < N → body.wpIn (F.inRound l) (n - 1 - 1) P (postX w.heap.size T I Ix (pre ++ [x]) W) (a₁ x) W)
    (hdone : ∀ (D : Nat) (xs : List α) (W : World), w.heap.size ≤ D → S xs → I xs W → W.heap[D]? = some (.deferred (some [])) → Q .normal { a with defers := { target := .collected D, args := #[] } :: a.defers } W)
    (hstop : ∀ (D : Nat) (c : Code) (pre : List α) (W : World), w.heap.size ≤ D → Sp pre → Ix c pre W → W.heap[D]? = some (.deferred (some [])) → c.wpIn F n P Q { a with defers := { target := .collected D, args := #[] } :: a.defers } W) :
    (Code.rangeFunc g ps assign body).wpIn F n P Q a w := by
  refine wpIn_rangeFunc fun fn hfn => ?_
  rw [hro]
  -- the loop's record, as a function of its state and its pending jump; the world with both blocks of book-keeping
  let D := w.heap.size
  let L := w.heap.size + 1
  let rec' : LoopState → Option Code → Obj := fun st pe => .loop { state := st, pending := pe, fn, tmps := a.tmps, params := ps, assign, body, defers := D }
  obtain ⟨V, hV⟩ : ∃ V, (w.alloc (.deferred (some []))).alloc (rec' .ready none) = V := ⟨_, rfl⟩
  have sV : V.heap.size = w.heap.size + 2 := by rw [← hV]; simp
  have hL : V.heap[L]? = some (rec' .ready none) := by
    rw [← hV]; have := World.alloc_heap_new (w.alloc (.deferred (some []))) (rec' .ready none); rwa [World.size_alloc] at this
  have hD : V.heap[D]? = some (.deferred (some [])) := by
    rw [← hV]; exact (Below.heap_alloc _ _ _ (by simp [D])).trans (World.alloc_heap_new w _)
  have hIV : I [] V := by rw [← hV]; exact hI.alloc _ (hI.alloc _ h0)
  have hBV : Below w0.heap.size w0 V := by
    rw [← hV]; exact (hb0.alloc hb0.size _).alloc (by simp; have := hb0.size; omega) _
  refine ⟨L, [{ target := .collected D, args := #[] }], V, { target := .fn (.func gf) lb, args := #[.func (.yield L) #[] #[]] }, V, gf, #[.func (.yield L) #[] #[]] ++ lb, V, ?_, ?_, ?_, ?_, fun _ => h1, ?_⟩
  · rw [← hV]; exact run_enterLoop_outer _ _ _ _ _
  · simp only [resolve, hg]; simp [go_sem]
  · intro f' hf'; simp [Target.leads] at hf'; subst hf'; exact hFg
  · simp [invoke, go_sem, eg]
  have fL : ∀ o, Firm (w.heap.size + 2) (fun (_ : List α) W => W.heap[L]? = some o) := fun o => firm_block (by simp [L]) o
  have fD : Firm (w.heap.size + 2) (fun (_ : List α) W => W.heap[D]? = some (.deferred (some []))) := firm_block (by simp [D]) _
  have fI : Firm (w.heap.size + 2) I := hI.mono (by omega)
  refine (hseq L (fun pre W => I pre W ∧ (W.heap[L]? = some (rec' .ready none) ∧ W.heap[D]? = some (.deferred (some []))))
    (fun pre W => ∃ c, Ix c pre W ∧ (W.heap[L]? = some (rec' .done (some c)) ∧ W.heap[D]? = some (.deferred (some []))))
    V hBV (by omega) (fI.and ((fL _).and fD))
    (fun s A B row hs hg' hr => by
      obtain ⟨c, hc, hk⟩ := hs
      exact ⟨c, (hIx c).mono (Nat.le_add_right _ 2) s A B row hc hg' hr, ((fL _).and fD) s A B row hk hg' hr⟩)
    ?_ ⟨hIV, hL, hD⟩).mono ?_
  · -- one round
    rintro pre x W ⟨hi, hl, hd⟩ hlen
    have hlt : L < W.heap.size := (Array.getElem?_eq_some_iff.1 hl).1
    refine ⟨fn, _, assign, body, run_yield (P := P) (args := encs x) hl (hps x), roundIn_of_wpIn hfn (hassign _ x W _ ⟨_, run_beginRound hl rfl, ?_⟩)⟩
    obtain ⟨Wb, hWb⟩ : ∃ Wb, W.putObj L (rec' .busy none) = Wb := ⟨_, rfl⟩
    have hlb : Wb.heap[L]? = some (rec' .busy none) := by rw [← hWb]; exact World.putObj_heap_same hlt
    have hdb : Wb.heap[D]? = some (.deferred (some [])) := by rw [← hWb]; exact (World.putObj_heap_other (by simp [D, L])).trans hd
    have hib : I pre Wb := by rw [← hWb]; exact hI.put _ _ hi (by simp [L])
    have hab : Above T W Wb := by rw [← hWb]; exact Above.put _ _ _ hT
    change body.wpIn _ _ _ _ _ (W.putObj L (rec' .busy none))
    rw [hWb]
    refine wpIn_mono (hbody L pre x Wb hib hlen) ?_
    -- the round's end: the record and the block behind it lie as they lay
    have fin : ∀ (jump : Option Code) (W3 : World), KeepsFrom w.heap.size Wb W3 → Above T Wb W3 →
        ∃ W4, (Instr.endRound L jump).run P W3 = .ok (.bool jump.isNone) W4 ∧ W4.heap[L]? = some (rec' (if jump.isNone then .ready else .done) jump) ∧ W4.heap[D]? = some (.deferred (some [])) ∧ Above T W W4 ∧
          (∀ (J : List α → World → Prop), Firm w.heap.size J → ∀ ys, J ys W3 → J ys W4) := fun jump W3 hk ha => by
      have hl3 := hk.same L _ (by simp [L]) hlb rfl
      have hd3 := hk.same D _ (Nat.le_refl _) hdb rfl
      refine ⟨_, run_endRound (P := P) jump hl3, World.putObj_heap_same (Array.getElem?_eq_some_iff.1 hl3).1, (World.putObj_heap_other (by simp [D, L])).trans hd3, (hab.trans ha).trans (Above.put _ _ _ hT), fun J hJ ys h => hJ.put _ _ h (by simp [L])⟩
    rintro e a3 W3 hp
    cases e with
    | normal =>
      obtain ⟨⟨hk, ha⟩, hi3⟩ := hp
      obtain ⟨W4, hr, hl4, hd4, ha4, hj⟩ := fin none W3 hk ha
      exact ⟨_, _, hr, ha4, .inl ⟨rfl, hj I hI _ hi3, hl4, hd4⟩⟩
    | ret =>
      obtain ⟨⟨hk, ha⟩, hi3⟩ := hp
      obtain ⟨W4, hr, hl4, hd4, ha4, hj⟩ := fin (some .ret) W3 hk ha
      exact ⟨_, _, hr, ha4, .inr ⟨rfl, .ret, hj _ (hIx _) _ hi3, hl4, hd4⟩⟩
    | exit id =>
      obtain ⟨⟨hk, ha⟩, hi3⟩ := hp
      obtain ⟨W4, hr, hl4, hd4, ha4, hj⟩ := fin (some (.exit id)) W3 hk ha
      exact ⟨_, _, hr, ha4, .inr ⟨rfl, .exit id, hj _ (hIx _) _ hi3, hl4, hd4⟩⟩
    | goto t =>
      obtain ⟨⟨hk, ha⟩, hi3⟩ := hp
      obtain ⟨W4, hr, hl4, hd4, ha4, hj⟩ := fin (some (.goto t)) W3 hk ha
      exact ⟨_, _, hr, ha4, .inr ⟨rfl, .goto t, hj _ (hIx _) _ hi3, hl4, hd4⟩⟩
    | panic ch => exact hp.elim
    | outgrown => exact hp.elim
  · -- behind the iterator
    rintro e W2 ⟨⟨v, rfl⟩, (⟨xs, hS, hi, hl, hd⟩ | ⟨pre, hSp, c, hi, hl, hd⟩)⟩
    · exact ⟨none, _, run_endLoop (P := P) hl (by simp), hdone D xs _ (Nat.le_refl _) hS (hI.put _ _ hi (by simp [L])) ((World.putObj_heap_other (by simp [D, L])).trans hd)⟩
    · exact ⟨some c, _, run_endLoop (P := P) hl (by simp), hstop D c pre _ (Nat.le_refl _) hSp ((hIx c).put _ _ hi (by simp [L])) ((World.putObj_heap_other (by simp [D, L])).trans hd)⟩
end Go.Proofs.Ytlohldddioikaaa

/- L2:
  A list that came in, copied; lists of digits. -/
namespace Go.Proofs.Ytlohldddioikaaa
open Go.RowKit

/-- What a walk is told of a slice of integers that came in: it is nil; or it leads to a row of 'cap' cells, the numbers 'zs' (the first 'len' are its elements), each fitting its kind. -/
def IsRow (k : IntKind) (w : World) (a : Option Addr) (len cap : Nat) (zs : List Int) : Prop :=
  (a = none ∧ len = 0 ∧ cap = 0 ∧ zs = []) ∨
  ∃ x, a = some x ∧ len ≤ cap ∧ cap ≤ maxLen ∧ zs.length = cap ∧ (∀ i, i < zs.length → w.cell? (x.add i) = some (.int k (zs.getD i 0))) ∧ ∀ n ∈ zs, (Lit.int k n).wf = true

theorem IsRow.spot {k : IntKind} {w : World} {a : Option Addr} {len cap : Nat} {zs : List Int} (h : IsRow k w a len cap zs) :
    len ≤ zs.length ∧ (len = 0 ∨ ∃ b off, a = some ⟨b, off, none⟩ ∧ b < w.heap.size ∧ Hid (∀ j, j < len → w.cell? ⟨b, off + j, none⟩ = some (.int k (zs[j]?.getD 0)))) := by
  rcases h with ⟨rfl, rfl, rfl, rfl⟩ | ⟨x, rfl, h1, h2, h3, hc, _⟩
  · exact ⟨Nat.le_refl _, .inl rfl⟩
  · refine ⟨by omega, ?_⟩
    by_cases h0 : len = 0
    · exact .inl h0
    · obtain ⟨b, off, spot⟩ := x
      have hc0 := hc 0 (by omega)
      have hs : spot = none := by simpa [Addr.add] using World.cell?_spot hc0
      subst hs
      have hb : b < w.heap.size := cell_lt (a := ⟨b, off, none⟩) (by simpa [Addr.add] using hc0)
      refine .inr ⟨b, off, rfl, hb, Lib.hid fun j hj => ?_⟩
      have := hc j (by omega)
      have e : Addr.add ⟨b, off, none⟩ j = ⟨b, off + j, none⟩ := by
        cases j <;> simp [Addr.add]
      rw [e] at this
      simpa [List.getD] using this

theorem copy_step (zs : List Int) (vs : List Value) (i : Nat) (hi : i < vs.length) (hz : i < zs.length) : (ints (zs.take i) ++ vs.drop i).set i (.int .i64 (zs[i]?.getD 0)) = ints (zs.take (i + 1)) ++ vs.drop (i + 1) := by
  have hl : (ints (zs.take i)).length = i := by simp [ints]; omega
  rw [List.set_append_right _ _ (by omega), hl, Nat.sub_self, List.drop_eq_getElem_cons hi, List.set_cons_zero, List.take_succ_eq_append_getElem hz]
  unfold ints
  rw [List.map_append, List.append_assoc, List.getElem?_eq_getElem hz]
  rfl

set_option maxRecDepth 100000 in
set_option maxHeartbeats 1000000 in
theorem toInt64S_any {a : Option Addr} {len cap : Nat} {zs : List Int} {w0 : World} (h : IsRow .i64 w0 a len cap zs) (hl : len ≤ 1048576) (w : World) (hw : Below w0.heap.size w0 w) :
    Calls Try.prog 43 #[.slice a len cap] w (ListPost w.heap.size (zs.take len) w) := by
  obtain ⟨i0, hi, hz0, hz1, hz2⟩ := info_parts infoI
  obtain ⟨hzl, h0 | ⟨b, off, rfl, hb, hc⟩⟩ := h.spot
  · subst h0
    clear h
    go_enter Try.func43, Try.ntmps43
    go_wp2_with (at_make; refine wpList_make_full _ rfl _ _ 61 rfl w.heap.size 2 i0 (.int .i64 0) 1 Try.underlying61 hi hz0 hz1 .i64 .i64 _ _ 0 rfl rfl rfl rfl (by rw [hz2]; decide) (by decide) (Nat.le_refl _) ?_; intro w1 hown1 hgrow1)
    have hB : Below w.heap.size w w1 := (Below.refl _ _).grown hgrow1 (Nat.le_refl _) (fun j e => by cases e)
    generalize (madeCells (Value.int .i64 0).cells (0 * 1)).toList = vs at hown1
    obtain rfl : vs = [] := List.length_eq_zero_iff.1 (by simpa using hown1.1)
    have ho := Lib.hid hown1
    clear hown1 hgrow1
    refine wp_loop_rounds 1 ?_
    rw [rounds_succ]
    go_wp2
    go_ret
    refine ⟨.slice (some ⟨w.heap.size, 0, none⟩) 0 0, rfl, ?_, hB⟩
    exact ho.out
  · go_enter Try.func43, Try.ntmps43
    go_wp2_with (at_make; refine wpList_make_full _ rfl _ _ 61 rfl w.heap.size 2 i0 (.int .i64 0) 1 Try.underlying61 hi hz0 hz1 .i64 .i64 _ _ len rfl rfl rfl rfl (by rw [hz2]; omega) (by unfold maxLen; omega) (Nat.le_refl _) ?_; intro w1 hown1 hgrow1)
    have hB : Below w.heap.size w w1 := (Below.refl _ _).grown hgrow1 (Nat.le_refl _) (fun j e => by cases e)
    have hvl := hown1.1
    generalize (madeCells (Value.int .i64 0).cells (len * 1)).toList = vs at hown1 hvl
    clear hgrow1
    go_loopw [4] (fun i' wr => ∃ i : Nat, i ≤ len ∧ i' = .int .i64 i ∧ wr.ownsRow w.heap.size 2 1 (.slice (some ⟨w.heap.size, 0, none⟩) len len) len (ints (zs.take i) ++ vs.drop i) ∧ Below w.heap.size w wr) (fun i' _ => len - (intOf i').toNat)
    case atStart => exact ⟨0, Nat.zero_le _, rfl, by simpa [ints] using hown1, hB⟩
    case round =>
      clear hown1 hB
      obtain ⟨i, hi', rfl, ho, hN⟩ := hrel
      by_cases hlt : i < len
      · obtain ⟨u, hu⟩ : ∃ u, wr.cell? ⟨w.heap.size, i, none⟩ = some u := by
          rw [ho.cellAt i (by omega)]
          exact ⟨_, List.getElem?_eq_getElem (by simp [ints]; omega)⟩
        have hfz := ho.frozenAt i
        have hst := ho.stored i (.int .i64 (zs[i]?.getD 0))
        rw [copy_step zs vs i (by omega) (by omega)] at hst
        have HST := Lib.hid hst.1
        have hs := hw.size
        have hsrc := ((hN.cell (p := ⟨b, off + i, none⟩) (by show b < w.heap.size; omega)).trans (hw.cell (p := ⟨b, off + i, none⟩) hb)).trans (hc.out i hlt)
        clear hst ho hvl
        go_wp2
        go_roundw
        case rel => exact ⟨i + 1, by omega, by go_num, HST.out, hN.setCell (p := ⟨w.heap.size, i, none⟩) (Nat.le_refl _) _⟩
        case measure => simp [intOf]; omega
      · obtain rfl : i = len := by omega
        have ho' := Lib.hid ho
        have hd := Lib.hid (List.drop_of_length_le (l := vs) (i := i) (by omega))
        have hll := Lib.hid (List.length_take_of_le hzl)
        clear ho hvl
        go_wp2
        go_ret
        refine ⟨_, rfl, ?_, hN⟩
        unfold Owns
        rw [hll.out]
        have := ho'.out
        rw [hd.out, List.append_nil] at this
        exact this
end Go.Proofs.Ytlohldddioikaaa

/- Z1:
  Chapter 3 as plain words: rows within a row, sums modulo 2, lists of small numbers; spectra, correlations, influences. -/
namespace Go.Proofs.Ytlohldddioikaaa
open Go.RowKit
set_option linter.unusedVariables false
set_option linter.unusedSimpArgs false

/-- The rows all of whose variables r has, ascending. -/
def subsOf (r : Nat) : List Nat := (List.range 16).filter fun w => r &&& w == w
/-- .. those above w. -/
def above (r w : Nat) : List Nat := (subsOf r).filter fun u => Nat.blt w u
/-- The sum modulo 2 of values at a list of rows. -/
def par (v : Nat → Nat) (l : List Nat) : Nat := (l.map v).sum % 2
theorem par_le (v : Nat → Nat) (l : List Nat) : par v l ≤ 1 := by unfold par; omega
theorem par_nil (v : Nat → Nat) : par v [] = 0 := rfl
theorem par_cons (v : Nat → Nat) (w : Nat) (l : List Nat) : par v (w :: l) = (par v l + v w) % 2 := by
  simp only [par, List.map_cons, List.sum_cons]; omega
theorem par_congr {v u : Nat → Nat} {l : List Nat} (h : ∀ w, w ∈ l → v w = u w) : par v l = par u l := by
  unfold par
  rw [List.map_congr_left h]
theorem above_dec : ∀ r < 16, ∀ w < 16, (!(r &&& w == w) || (w == 0) || (above r ((w - 1) &&& r) == w :: above r w && r &&& ((w - 1) &&& r) == (w - 1) &&& r && Nat.blt ((w - 1) &&& r) w)) = true := by decide +kernel
theorem above_step {r w : Nat} (hr : r < 16) (hw : w < 16) (h : r &&& w = w) (h0 : w ≠ 0) : above r ((w - 1) &&& r) = w :: above r w ∧ r &&& ((w - 1) &&& r) = (w - 1) &&& r ∧ (w - 1) &&& r < w := by
  have := above_dec r hr w hw
  simp only [h, beq_self_eq_true, Bool.not_true, Bool.false_or, beq_eq_false_iff_ne.2 h0, Bool.and_eq_true, beq_iff_eq, Nat.blt_eq] at this
  exact ⟨this.1.1, this.1.2, this.2⟩
theorem above_zero : ∀ r, r < 16 → 0 :: above r 0 = subsOf r := by decide +kernel
theorem above_self : ∀ r, r < 16 → above r r = [] ∧ r &&& r = r := by decide +kernel
theorem subs_lt : ∀ n, n < 5 → ∀ r, r < 2 ^ n → ((List.range (2 ^ n)).filter fun w => r &&& w == w) = subsOf r := by decide +kernel
theorem subs_mem : ∀ n, n < 5 → ∀ r, r < 2 ^ n → ∀ w, w ∈ subsOf r → w < 2 ^ n := by decide +kernel
/-- The sum of the values at the rows below k that r has. -/
def hasSum (v : Nat → Nat) (r : Nat) : Nat → Nat
  | 0 => 0
  | k + 1 => hasSum v r k + if r &&& k == k then v k else 0
theorem hasSum_eq (v : Nat → Nat) (r k : Nat) : hasSum v r k = (((List.range k).filter fun w => r &&& w == w).map v).sum := by
  induction k with
  | zero => rfl
  | succ k ih =>
    rw [List.range_succ, List.filter_append, List.map_append, List.sum_append, ← ih, hasSum]
    by_cases h : (r &&& k == k) = true
    · simp [List.filter, h]
    · simp [List.filter, h]
theorem hasSum_le (v : Nat → Nat) (hv : ∀ j, v j ≤ 1) (r k : Nat) : hasSum v r k ≤ k := by
  induction k with
  | zero => exact Nat.le_refl _
  | succ k ih => have := hv k; simp only [hasSum]; split <;> omega
theorem hasSum_par {n : Nat} (hn : n < 5) (v : Nat → Nat) (r : Nat) (hr : r < 2 ^ n) : hasSum v r (2 ^ n) % 2 = par v (subsOf r) := by
  rw [hasSum_eq, subs_lt n hn r hr]; rfl
/-- A list of small numbers. -/
def natL (v : Nat → Nat) (k : Nat) : List Int := (List.range k).map fun j => (v j : Int)
theorem natL_succ (v : Nat → Nat) (k : Nat) : natL v (k + 1) = natL v k ++ [(v k : Int)] := by simp [natL, List.range_succ]
theorem natL_len (v : Nat → Nat) (k : Nat) : (natL v k).length = k := by simp [natL]
theorem natL_get (v : Nat → Nat) (k j : Nat) (h : j < k) : (natL v k)[j]?.getD 0 = (v j : Int) := by simp [natL, h]
theorem natL_congr {v u : Nat → Nat} {k : Nat} (h : ∀ j, j < k → v j = u j) : natL v k = natL u k := by
  unfold natL
  exact List.map_congr_left fun j hj => by rw [h j (List.mem_range.1 hj)]
/-- The number of the variables of a row. -/
def sizeN (w : Nat) : Nat := w % 2 + w / 2 % 2 + w / 4 % 2 + w / 8 % 2
theorem sizeN_step (w : Nat) (h : w < 16) : sizeN w = w % 2 + sizeN (w / 2) := by unfold sizeN; omega
theorem sizeN_le (w : Nat) : sizeN w ≤ 4 := by unfold sizeN; omega
/-- A sum of signs, each turned where a row and w have an odd number of variables together. -/
def spS (s : Nat → Int) (w : Nat) : Nat → Int
  | 0 => 0
  | k + 1 => spS s w k + if sizeN (k &&& w) % 2 = 0 then s k else -(s k)
/-- The sums that take one variable after the other. -/
def fly (s : Nat → Int) : Nat → Nat → Int
  | 0, row => s row
  | i + 1, row => if row / 2 ^ i % 2 = 0 then fly s i row + fly s i (row ^^^ 2 ^ i) else fly s i (row ^^^ 2 ^ i) - fly s i row
theorem lt_cases {P : Nat → Prop} (k : Nat) (h : ∀ j, j < k → P j) (hk : P k) : ∀ j, j < k + 1 → P j := by
  intro j hj
  by_cases e : j = k
  · exact e ▸ hk
  · exact h j (by omega)
theorem fly_0 (s : Nat → Int) : ∀ w, w < 1 → fly s 0 w = spS s w 1 := by
  intro w hw
  obtain rfl : w = 0 := by omega
  simp [fly, spS, sizeN]
theorem fly_1 (s : Nat → Int) : ∀ w, w < 2 → fly s 1 w = spS s w 2 := by
  intro w hw
  rcases (show w = 0 ∨ w = 1 by omega) with rfl | rfl <;> simp [fly, spS, sizeN] <;> omega
theorem fly_2 (s : Nat → Int) : ∀ w, w < 4 → fly s 2 w = spS s w 4 := by
  intro w hw
  rcases (show w = 0 ∨ w = 1 ∨ w = 2 ∨ w = 3 by omega) with rfl | rfl | rfl | rfl <;> simp [fly, spS, sizeN] <;> omega
theorem fly_3 (s : Nat → Int) : ∀ w, w < 8 → fly s 3 w = spS s w 8 := by
  intro w hw
  rcases (show w = 0 ∨ w = 1 ∨ w = 2 ∨ w = 3 ∨ w = 4 ∨ w = 5 ∨ w = 6 ∨ w = 7 by omega) with rfl | rfl | rfl | rfl | rfl | rfl | rfl | rfl <;> simp [fly, spS, sizeN] <;> omega
theorem fly_4 (s : Nat → Int) : ∀ w, w < 16 → fly s 4 w = spS s w 16 := by
  intro w hw
  rcases (show w = 0 ∨ w = 1 ∨ w = 2 ∨ w = 3 ∨ w = 4 ∨ w = 5 ∨ w = 6 ∨ w = 7 ∨ w = 8 ∨ w = 9 ∨ w = 10 ∨ w = 11 ∨ w = 12 ∨ w = 13 ∨ w = 14 ∨ w = 15 by omega) with rfl | rfl | rfl | rfl | rfl | rfl | rfl | rfl | rfl | rfl | rfl | rfl | rfl | rfl | rfl | rfl <;> simp [fly, spS, sizeN] <;> omega
theorem fly_eq {n : Nat} (hn : n < 5) (s : Nat → Int) (w : Nat) (hw : w < 2 ^ n) : fly s n w = spS s w (2 ^ n) := by
  rcases (show n = 0 ∨ n = 1 ∨ n = 2 ∨ n = 3 ∨ n = 4 by omega) with rfl | rfl | rfl | rfl | rfl
  · exact fly_0 s w hw
  · exact fly_1 s w hw
  · exact fly_2 s w hw
  · exact fly_3 s w hw
  · exact fly_4 s w hw
theorem xor_lt {n : Nat} (r : Nat) (hr : r < 2 ^ n) (a : Nat) (ha : a < 2 ^ n) : r ^^^ a < 2 ^ n := Nat.xor_lt_two_pow hr ha
theorem spS_bound (s : Nat → Int) (hs : ∀ k, -1 ≤ s k ∧ s k ≤ 1) (w k : Nat) : -(k : Int) ≤ spS s w k ∧ spS s w k ≤ k := by
  induction k with
  | zero => exact ⟨Int.le_refl _, Int.le_refl _⟩
  | succ k ih =>
    have h := hs k
    simp only [spS]
    split <;> omega
theorem fly_bound (s : Nat → Int) (hs : ∀ k, -1 ≤ s k ∧ s k ≤ 1) (i row : Nat) : -((2 ^ i : Nat) : Int) ≤ fly s i row ∧ fly s i row ≤ ((2 ^ i : Nat) : Int) := by
  induction i generalizing row with
  | zero => have := hs row; simp only [fly]; omega
  | succ i ih =>
    have h1 := ih row
    have h2 := ih (row ^^^ 2 ^ i)
    have e : (2 : Nat) ^ (i + 1) = 2 * 2 ^ i := by rw [Nat.pow_succ]; omega
    rw [e]
    simp only [fly]
    generalize row ^^^ 2 ^ i = rr at *
    generalize (2 : Nat) ^ i = q at *
    split <;> omega
/-- The sign of a value. -/
def sgn (v : Nat → Nat) (r : Nat) : Int := 1 - 2 * (v r : Int)
theorem sgn_bound {v : Nat → Nat} (hv : ∀ r, v r ≤ 1) (r : Nat) : -1 ≤ sgn v r ∧ sgn v r ≤ 1 := by have := hv r; unfold sgn; omega
theorem sgn_turn {v : Nat → Nat} (hv : ∀ r, v r ≤ 1) (k c : Nat) : (1 : Int) - 2 * (((v k + c) % 2 : Nat) : Int) = if c % 2 = 0 then sgn v k else -(sgn v k) := by
  have := hv k
  unfold sgn
  split <;> omega
theorem sgn_mul {v : Nat → Nat} (hv : ∀ r, v r ≤ 1) (k j : Nat) : sgn v k * sgn v j = 1 - 2 * (((v k + v j) % 2 : Nat) : Int) := by
  have h1 := hv k
  have h2 := hv j
  unfold sgn
  rcases (show v k = 0 ∨ v k = 1 by omega) with e | e <;> rcases (show v j = 0 ∨ v j = 1 by omega) with e2 | e2 <;> rw [e, e2] <;> decide
/-- The correlation at a, over the rows below k. -/
def corS (v : Nat → Nat) (a : Nat) : Nat → Int
  | 0 => 0
  | k + 1 => corS v a k + (1 - 2 * (((v k + v (k ^^^ a)) % 2 : Nat) : Int))
theorem corS_bound (v : Nat → Nat) (a k : Nat) : -(k : Int) ≤ corS v a k ∧ corS v a k ≤ k := by
  induction k with
  | zero => exact ⟨Int.le_refl _, Int.le_refl _⟩
  | succ k ih => simp only [corS]; omega
/-- The influence of i, over the rows below k. -/
def infS (v : Nat → Nat) (a : Nat) : Nat → Nat
  | 0 => 0
  | k + 1 => infS v a k + (v k + v (k ^^^ a)) % 2
theorem infS_bound (v : Nat → Nat) (a k : Nat) : infS v a k ≤ k := by
  induction k with
  | zero => exact Nat.le_refl _
  | succ k ih => simp only [infS]; omega
/-- The greatest absolute value below k. -/
def mostS (s : Nat → Int) : Nat → Int
  | 0 => 0
  | k + 1 => max (mostS s k) (max (s k) (-(s k)))
/-- The least absolute value below k, or R. -/
def leastS (s : Nat → Int) (R : Int) : Nat → Int
  | 0 => R
  | k + 1 => min (leastS s R k) (max (s k) (-(s k)))
theorem mostS_bound {s : Nat → Int} {R : Int} (hR : 0 ≤ R) (k : Nat) (hs : ∀ j, j < k → -R ≤ s j ∧ s j ≤ R) : 0 ≤ mostS s k ∧ mostS s k ≤ R := by
  induction k with
  | zero => exact ⟨Int.le_refl _, hR⟩
  | succ k ih =>
    have := ih (fun j hj => hs j (by omega))
    have := hs k (by omega)
    simp only [mostS]; omega
theorem leastS_bound {s : Nat → Int} {R : Int} (hR : 0 ≤ R) (k : Nat) : 0 ≤ leastS s R k ∧ leastS s R k ≤ R := by
  induction k with
  | zero => exact ⟨hR, Int.le_refl _⟩
  | succ k ih => simp only [leastS]; omega
def absI (x : Int) : Int := max x (-x)
theorem mostS_ge (s : Nat → Int) (k j : Nat) (hj : j < k) : absI (s j) ≤ mostS s k := by
  induction k with
  | zero => omega
  | succ k ih =>
    simp only [mostS]
    by_cases e : j = k
    · subst e; unfold absI; omega
    · have := ih (by omega); omega
theorem leastS_le (s : Nat → Int) (R : Int) (k j : Nat) (hj : j < k) : leastS s R k ≤ absI (s j) := by
  induction k with
  | zero => omega
  | succ k ih =>
    simp only [leastS]
    by_cases e : j = k
    · subst e; unfold absI; omega
    · have := ih (by omega); omega
theorem ends_same {s : Nat → Int} {R a : Int} (k : Nat) (h0 : 0 < k) (hR : a ≤ R) (ha : ∀ j, j < k → absI (s j) = a) : mostS s k = a ∧ leastS s R k = a := by
  induction k with
  | zero => omega
  | succ k ih =>
    have hk := ha k (by omega)
    have h1 : 0 ≤ a := by rw [← hk]; unfold absI; omega
    unfold absI at hk
    simp only [mostS, leastS]
    by_cases e : k = 0
    · subst e; simp only [mostS, leastS]; omega
    · have := ih (by omega) (fun j hj => ha j (by omega)); omega
theorem bent_iff {s : Nat → Int} {R : Int} (k : Nat) (h0 : 0 < k) (hs : ∀ j, j < k → -R ≤ s j ∧ s j ≤ R) : (mostS s k == leastS s R k) = ((List.range k).all fun j => absI (s j) == absI (s 0)) := by
  rw [Bool.eq_iff_iff]
  simp only [beq_iff_eq, List.all_eq_true, List.mem_range]
  constructor
  · intro h j hj
    have h1 := mostS_ge s k j hj
    have h2 := leastS_le s R k j hj
    have h3 := mostS_ge s k 0 h0
    have h4 := leastS_le s R k 0 h0
    omega
  · intro h
    have hb := hs 0 h0
    obtain ⟨h1, h2⟩ := ends_same (s := s) (R := R) (a := absI (s 0)) k h0 (by unfold absI; omega) h
    omega
/-- The immunity, by the numbers below k. -/
def immS (s : Nat → Int) (n : Int) : Nat → Int
  | 0 => n
  | k + 1 => if k ≠ 0 ∧ s k ≠ 0 then min (immS s n k) ((sizeN k : Int) - 1) else immS s n k
theorem immS_one (s : Nat → Int) (n : Int) : immS s n 1 = n := by simp [immS]
theorem immS_bound (s : Nat → Int) (n : Int) (hn : n ≤ 4) (hn0 : 0 ≤ n) (k : Nat) : -1 ≤ immS s n k ∧ immS s n k ≤ 4 := by
  induction k with
  | zero => simp only [immS]; omega
  | succ k ih => simp only [immS]; split <;> omega
end Go.Proofs.Ytlohldddioikaaa

/- Z3:
  Chapter 3: the small functions of both packages: rows within rows, sizes of rows, absolute values, codes of pairs. -/
namespace Go.Proofs.Ytlohldddioikaaa
open Go.RowKit
set_option linter.unusedVariables false
set_option linter.unusedSimpArgs false

/-- The polynomial. -/
def polV (x : Nat) (r : Nat) : Nat := par (bitN x) (subsOf r)
theorem polV_le (x r : Nat) : polV x r ≤ 1 := par_le _ _
theorem FOk.n5 {n : Int} {x R : Nat} (ok : FOk n x R) : n.toNat < 5 := by have := ok.h4; omega

theorem beq_cast (a b : Nat) : ((a : Int) == (b : Int)) = (a == b) := by
  rw [Bool.eq_iff_iff, beq_iff_eq, beq_iff_eq]; omega
theorem ones_size (w : Nat) (h : w < 16) : ones w 16 = sizeN w := by
  rw [← ones16_eq]; unfold ones16 sizeN; omega

theorem xor_par (a b : Nat) (ha : a ≤ 1) (hb : b ≤ 1) : bits .xor .i64 (a : Int) (b : Int) = (((a + b) % 2 : Nat) : Int) := by
  obtain rfl | rfl : a = 0 ∨ a = 1 := by omega
  all_goals obtain rfl | rfl : b = 0 ∨ b = 1 := by omega
  all_goals decide
end Go.Proofs.Ytlohldddioikaaa

/- Z6:
  Chapter 3 of the program: valuesOf: the values of a function, by rows. -/
namespace Go.Proofs.Ytlohldddioikaaa
open Go.RowKit Go.Shelf
attribute [local go_sem] Oper.semAt_some
set_option linter.unusedVariables false
set_option linter.unusedSimpArgs false

/-- A slice made with all its places. -/
theorem wpListIn_make_full {F : Fence} {n : Nat} {P : Program} (w : World) {ops : Array Oper} {rest : List Oper} {o : Oper} {a : Act} {Q : Exit → Act → World → Prop}
    (hg : o.guard = none) (l c : Operand) (t : TypeId) (hop : o.op = Op.makeSlice t l c)
    (base : Nat) (e : TypeId) (i : TypeInfo) (z : Value) (size : Nat) (h1 : P.underlying t = some (.slice e)) (h2 : P.info? e = some i) (h3 : i.zero = some z) (h4 : i.size = size)
    (kl kc : IntKind) (L C : Int) (m : Nat) (hl : a.eval l = .int kl L) (hc : a.eval c = .int kc C) (hL : L = (m : Int)) (hC : C = (m : Int)) (b2 : i.bytes * m ≤ 281474976710656) (b3 : m ≤ maxLen) (b4 : base ≤ w.heap.size)
    (hK : ∀ w', w'.ownsRow base e size (.slice (some ⟨w.heap.size, 0, none⟩) m m) m (madeCells z.cells (m * size)).toList → w.grownBy w' none → wpListIn F n P ops Q rest (a.put o.dst (.slice (some ⟨w.heap.size, 0, none⟩) m m)) w') :
    wpListIn F n P ops Q (o :: rest) a w := by
  refine wpListIn_plain hg fun K hK' => ?_
  obtain ⟨w', hrun, r1, r2⟩ := run_make_full (P := P) w base t e i z size h1 h2 h3 h4 kl kc m b2 b3 b4
  subst hL
  subst hC
  unfold Oper.wpIn
  refine ⟨?_, ?_⟩
  · simp [Oper.about, hop]
  · rw [Oper.semAt_plain F _ _ (by rw [hop]; intro c hc'; cases hc')]
    simp [execOp, hop, hl, hc, hrun, Result.andThen]
    exact hK' _ _ (hK w' r1 r2)

/-- A made list, the places handed out so far set. -/
def setL {R : Nat} (F : Nat → Value) (vs : List Value) (pre : List (Row R)) : List Value := (List.range R).map fun j => if pre.any (fun x => x.1 == j) then F j else vs[j]?.getD undef
theorem setL_len {R : Nat} (F : Nat → Value) (vs : List Value) (pre : List (Row R)) : (setL F vs pre).length = R := by simp [setL]
theorem setL_nil {R : Nat} (F : Nat → Value) (vs : List Value) (h : vs.length = R) : setL (R := R) F vs [] = vs := by
  apply List.ext_getElem
  · simp [setL, h]
  · intro j h1 h2
    simp [setL, h2]
theorem setL_snoc {R : Nat} (F : Nat → Value) (vs : List Value) (pre : List (Row R)) (x : Row R) : (setL F vs pre).set x.1 (F x.1) = setL F vs (pre ++ [x]) := by
  apply List.ext_getElem
  · simp [setL]
  · intro j h1 h2
    simp only [setL, List.length_set, List.length_map, List.length_range] at h1
    rw [List.getElem_set]
    by_cases e : x.1 = j
    · subst e; simp [setL]
    · simp [setL, e]
theorem setL_upto {R : Nat} (hR : 0 < R) (F : Nat → Value) (vs : List Value) : setL F vs (upto hR R) = (List.range R).map F := by
  unfold setL
  refine List.map_congr_left fun j hj => ?_
  have hj' := List.mem_range.1 hj
  rw [if_pos]
  rw [List.any_eq_true]
  exact ⟨rowAt hR j, List.mem_map.2 ⟨j, hj, rfl⟩, by rw [rowAt_val hR hj', beq_self_eq_true]⟩
theorem ints_natL (v : Nat → Nat) (k : Nat) : ints (natL v k) = (List.range k).map fun j => .int .i64 (v j : Int) := by simp [ints, natL]

theorem owns_keptF {W W' : World} {base : Nat} {e : TypeId} {size : Nat} {v : Value} {n : Nat} {xs : List Value} {row : Option Nat} (h : W.ownsRow base e size v n xs) (hg : W.grownBy W' row) (hr : ∀ r, row = some r → ∃ o : Obj, W.heap[r]? = some o ∧ o.isCells = false) : W'.ownsRow base e size v n xs := by
  refine World.ownsRow.kept h hg ?_
  rcases h.2 with ⟨rfl, _⟩ | ⟨g, cap, cur, rfl, _, hgb, _⟩
  · exact .inl rfl
  · refine .inr fun e' => ?_
    obtain ⟨o, ho, hc⟩ := hr g (by simpa [Value.ownBlock] using e'.symm)
    rw [hgb] at ho; cases ho; cases hc

/-- The boxes of a walk over the rows that stores into a made list: the function and the slice. -/
structure VMid (B C : Nat) (g R : Nat) (n : Int) (x : Nat) (W : World) : Prop where
  cS : W.cell? ⟨C, 0, none⟩ = some (.slice (some ⟨g, 0, none⟩) R R)
  p0 : W.cell? ⟨B, 0, none⟩ = some (.int .i64 n)
  p1 : W.cell? ⟨B, 1, none⟩ = some (.int .i64 (x : Int))
theorem VMid.kept {B C g R : Nat} {n : Int} {x : Nat} {W W' : World} {row : Option Nat} (h : VMid B C g R n x W) (hg : W.grownBy W' row) (hr : ∀ r, row = some r → ∃ o : Obj, W.heap[r]? = some o ∧ o.isCells = false) : VMid B C g R n x W' :=
  ⟨cell_kept h.cS hg hr, cell_kept h.p0 hg hr, cell_kept h.p1 hg hr⟩
theorem VMid.step {B C g R r : Nat} {n : Int} {x : Nat} {W w' : World} {u : Value} (h : VMid B C g R n x W) (hb : Below W.drew.heap.size W.drew w') (h1 : ¬ g = C) (h2 : ¬ g = B) : VMid B C g R n x (w'.setCell ⟨g, r, none⟩ u) := by
  have d1 := kcd hb h.cS
  have d2 := kcd hb h.p0
  have d3 := kcd hb h.p1
  exact ⟨by simp [go_sem, d1, h1], by simp [go_sem, d2, h2], by simp [go_sem, d3, h2]⟩


set_option maxRecDepth 100000 in
set_option maxHeartbeats 4000000 in
theorem valuesOf_any {n : Int} {x R : Nat} (ok : FOk n x R) (w : World) :
    Calls Try.prog 105 #[.agg #[.int .i64 n, .int .i64 (x : Int)]] w (ListPost w.heap.size (natL (bitN x) R) w) := by
  obtain ⟨i0, hi, hz0, hz1, hz2⟩ := info_parts infoI
  have r0 := ok.r0
  have r16 := ok.r16
  have hox := ok.hx
  obtain ⟨W1, hW1⟩ : ∃ W1, w.alloc (.cells #[.int .i64 n, .int .i64 (x : Int)] 34) = W1 := ⟨_, rfl⟩
  have p0 : W1.cell? ⟨w.heap.size, 0, none⟩ = some (.int .i64 n) := by rw [← hW1]; simp [go_sem]
  have p1 : W1.cell? ⟨w.heap.size, 1, none⟩ = some (.int .i64 (x : Int)) := by rw [← hW1]; simp [go_sem]
  have hs1 : W1.heap.size = w.heap.size + 1 := by rw [← hW1]; simp [go_sem]
  have hB : Below w.heap.size w W1 := by rw [← hW1]; exact bnew _ _
  have HS1 := Lib.hid hs1
  clear hs1
  refine (callsIn_wide (n := 3)).1 ?_
  refine callsIn_of_wp_marks Try.func105 rfl trivial ?_ rfl
  simp only [Try.ntmps105, List.size_toArray, List.length_cons, List.length_nil, Nat.reduceAdd, Nat.reduceSub, Array.replicate_succ, Array.replicate_zero, List.push_toArray, List.append_toArray, List.nil_append, List.cons_append]
  gi_wp2_with (first
    | (refine ⟨trivial, ?_⟩; gi_at_call 88; refine (callsIn_wide.2 (rowCount_is ok.h0 ok.h4 ok.hR _)).mono ?_; rintro e w' ⟨rfl, rfl⟩)
    | (gi_at_make; refine wpListIn_make_full _ rfl _ _ 61 rfl W1.heap.size 2 i0 (.int .i64 0) 1 Try.underlying61 hi hz0 hz1 .i64 .i64 _ _ R rfl rfl rfl rfl (by rw [hz2]; omega) (by unfold maxLen; omega) (Nat.le_refl _) ?_; intro w4 hown1 hgrow1; have hN4 : Below W1.heap.size W1 w4 := (Below.refl _ _).grown hgrow1 (Nat.le_refl _) (fun j e => by cases e); have q0 := kc hN4 p0; have q1 := kc hN4 p1; have lt4 : w.heap.size < w4.heap.size := by have := hN4.size; have := HS1.out; omega)
    | (refine ⟨trivial, ?_⟩; gi_at_call 77; refine (callsIn_wide.2 (rowsOf_any _ _)).mono ?_; rintro e w' ⟨rfl, rfl⟩))
  obtain ⟨W0, hW0⟩ : ∃ W0, (w4.alloc (.cells #[.slice (some ⟨W1.heap.size, 0, none⟩) R R] 61)).alloc (.cells #[.int .i64 n] 2) = W0 := ⟨_, rfl⟩
  have cS : W0.cell? ⟨w4.heap.size, 0, none⟩ = some (.slice (some ⟨W1.heap.size, 0, none⟩) R R) := by rw [← hW0]; simp [go_sem]
  have cM : W0.cell? ⟨w4.heap.size + 1, 0, none⟩ = some (.int .i64 n) := by rw [← hW0]; simp [go_sem]
  have hb04 : Below w4.heap.size w4 W0 := by rw [← hW0]; exact balloc (bnew _ _) _
  have s0 := kc hb04 q0
  have s1 := kc hb04 q1
  have hvl := hown1.1
  have own0 := owns_below hown1 hb04
  generalize (madeCells (Value.int .i64 0).cells (R * 1)).toList = vs at own0 hown1 hvl
  rw [Nat.mul_one] at hvl
  have hsz : W0.heap.size = w4.heap.size + 2 := by rw [← hW0]; simp [go_sem]
  have hB0 : Below w.heap.size w W0 := bthen (bthen hB hN4) hb04
  have hg4 : W1.heap.size < w4.heap.size := (World.ownsRow.lt hown1 W1.heap.size rfl).2
  rw [hW0]
  clear hW0 hgrow1 hown1 q0 q1 p0 p1 hW1 hN4
  have s1e : w.heap.size < W1.heap.size := by have := HS1.out; omega
  refine wpIn_rangeFunc_ownF (α := Row R) rfl (by omega) (gf := 99) (lb := #[.pointer (some ⟨w4.heap.size + 1, 0, none⟩)]) rfl trivial (enters_of Try.func99 (by kernel_rfl) rfl)
    (rows_stops (3 - 1) (by omega) (w4.heap.size + 1) w.heap.size n R ok.h0 ok.h4 r0 r16 ok.hR W0 (by omega) cM) belowK_t (belowK_b (by omega)) (Below.refl _ _) (fun _ => rfl)
    (fun pre W => (VMid w.heap.size w4.heap.size W1.heap.size R n x W ∧ W.ownsRow W1.heap.size 2 1 (.slice (some ⟨W1.heap.size, 0, none⟩) R R) R (setL (fun j => .int .i64 (bitN x j : Int)) vs pre)) ∧ Below w.heap.size w W)
    (fun _ _ _ => False)
    (OwnFrom.and (Own.from (fun s A B row hs hg hr => ⟨hs.1.kept hg hr, owns_keptF hs.2 hg hr⟩) _) (ownFrom_below (Nat.le_refl _) (by omega)))
    (fun _ _ _ _ _ hs _ _ => hs)
    ⟨⟨⟨cS, s0, s1⟩, by rw [setL_nil _ _ hvl]; exact own0⟩, hB0⟩
    (fun y => { tmps := #[.agg #[.int .i64 n, .int .i64 (x : Int)], .pointer (some ⟨w.heap.size, 0, none⟩), .slice none 0 0, .pointer (some ⟨w4.heap.size, 0, none⟩), .int .i64 (y.1 : Int), .pointer (some ⟨w.heap.size, 0, none⟩), .int .i64 n, .int .i64 R, .slice (some ⟨W1.heap.size, 0, none⟩) R R, .pointer (some ⟨w.heap.size, 0, none⟩), .int .i64 n, .func (.func 99) #[] #[.pointer (some ⟨w4.heap.size + 1, 0, none⟩)], .int .i64 (y.1 : Int), undef, undef, undef, undef, undef, undef, undef], defers := [] }) ?assign ?body ?done ?stop
  case assign =>
    intro l y W K hK
    unfold encRow
    gi_wp2
    exact hK
  case body =>
    clear cS cM s0 s1 own0 hB0 hB
    rintro l pre y W ⟨⟨hM, hO⟩, hB⟩ _
    have cS := hM.cS
    have p0 := hM.p0
    have p1 := hM.p1
    have hr := y.2
    have hsn := setL_snoc (fun j => .int .i64 (bitN x j : Int)) vs pre y
    have hlen := setL_len (fun j => .int .i64 (bitN x j : Int)) vs pre
    have hbw := hB.size
    generalize y.1 = r at hr hsn ⊢
    obtain ⟨u, cu⟩ : ∃ u, W.cell? ⟨W1.heap.size, r, none⟩ = some u := by
      rw [hO.cellAt r (by omega)]
      exact ⟨_, List.getElem?_eq_getElem (by omega)⟩
    have fu := hO.frozenAt r
    have hr62 : r < 62 := by omega
    have END := Lib.hid (fun w' (hb' : Below W.drew.heap.size W.drew w') => (show (KeepsOthers W (w'.setCell ⟨W1.heap.size, r, none⟩ (.int .i64 (bitN x r : Int))) ∧ Below w.heap.size W (w'.setCell ⟨W1.heap.size, r, none⟩ (.int .i64 (bitN x r : Int))) ∧
      ((VMid w.heap.size w4.heap.size W1.heap.size R n x (w'.setCell ⟨W1.heap.size, r, none⟩ (.int .i64 (bitN x r : Int))) ∧ (w'.setCell ⟨W1.heap.size, r, none⟩ (.int .i64 (bitN x r : Int))).ownsRow W1.heap.size 2 1 (.slice (some ⟨W1.heap.size, 0, none⟩) R R) R (setL (fun j => .int .i64 (bitN x j : Int)) vs (pre ++ [y]))) ∧ Below w.heap.size w (w'.setCell ⟨W1.heap.size, r, none⟩ (.int .i64 (bitN x r : Int))))) from
      ⟨(kot hb').trans (KeepsOthers.setCell _ _ _), ((Below.refl _ W).drew.trans (hb'.mono hbw)).setCell (p := ⟨W1.heap.size, r, none⟩) (by simp; omega) _,
        ⟨hM.step hb' (by omega) (by omega), by rw [← hsn]; exact ((owns_below (World.ownsRow.drew hO) hb').stored r _).1⟩, (hB.drew.trans (hb'.mono hbw)).setCell (p := ⟨W1.heap.size, r, none⟩) (by simp; omega) _⟩))
    have hmx : Try.prog.follows .mixedOrders = true := by kernel_rfl
    have hd : 1 ≤ 3 - 1 - 1 := by omega
    clear hM hO hsn hlen hvl s1e
    gi_wp2
    refine wpIn_region_any hmx ?_
    refine wpAnyIn_round (F := Fence.wide) l (by kernel_rfl) _ _ _ _ ?_
    change wpAnyIn _ _ _ _ _ _ _ _ _ (World.drew _)
    refine wpAnyIn_take (i := 1) (v := ?_) rfl rfl (by kernel_rfl) (by kernel_rfl) (by kernel_rfl) (fun _ _ _ h => h) ⟨Or.inl ⟨by rfl, by intro w; go_simp; try (with_reducible rfl)⟩, fun _ => rfl⟩ ?_
    refine wpAnyIn_take (i := 3) (v := ?_) rfl rfl (by kernel_rfl) (by kernel_rfl) (by kernel_rfl) (fun _ _ _ h => h) ⟨Or.inl ⟨by rfl, by intro w; go_simp; try (with_reducible rfl)⟩, fun _ => rfl⟩ ?_
    refine wpAnyIn_ready (rs := [0, 2]) (by kernel_rfl) (by simp) ?_
    refine AllReadyIn.cons rfl (fun K hK => ?_) ?_
    · go_simp
      refine hK _ _ ?_
      clear hK K
      refine wpAnyIn_ready (rs := [2]) (by kernel_rfl) (by simp) ?_
      refine AllReadyIn.cons rfl (fun K hK => ?_) ?_
      · go_simp
        refine hK _ _ ?_
        clear hK K
        refine wpAnyIn_ready (rs := [4]) (by kernel_rfl) (by simp) ?_
        refine AllReadyIn.cons rfl (fun K hK => ?_) ?_
        · go_simp
          refine ⟨trivial, ?_⟩
          refine (callsIn_wide.2 (valueInRow_any n x r hox (by omega) _)).mono ?_
          rintro e w' ⟨rfl, hb'⟩
          have dS := kcd hb' cS
          have d0 := kcd hb' p0
          have d1 := kcd hb' p1
          have du := kcd hb' cu
          have eu := kfd hb' cu fu
          dsimp only
          refine hK _ _ ?_
          clear hK K
          refine wpAnyIn_ready (rs := [5]) (by kernel_rfl) (by simp) ?_
          refine AllReadyIn.cons rfl (fun K hK => ?_) ?_
          · go_simp
            refine hK _ _ ?_
            clear hK K
            refine wpAnyIn_ready (rs := [6]) (by kernel_rfl) (by simp) ?_
            refine AllReadyIn.cons rfl (fun K hK => ?_) ?_
            · go_simp
              refine hK _ _ ?_
              clear hK K
              refine wpAnyIn_done (by kernel_rfl) ?_ _
              exact END.out _ hb'
            exact AllReadyIn.nil
          exact AllReadyIn.nil
        exact AllReadyIn.nil
      exact AllReadyIn.nil
    refine AllReadyIn.cons rfl (fun K hK => ?_) ?_
    · go_simp
      refine hK _ _ ?_
      clear hK K
      refine wpAnyIn_ready (rs := [0, 4]) (by kernel_rfl) (by simp) ?_
      refine AllReadyIn.cons rfl (fun K hK => ?_) ?_
      · go_simp
        refine hK _ _ ?_
        clear hK K
        refine wpAnyIn_ready (rs := [4]) (by kernel_rfl) (by simp) ?_
        refine AllReadyIn.cons rfl (fun K hK => ?_) ?_
        · go_simp
          refine ⟨trivial, ?_⟩
          refine (callsIn_wide.2 (valueInRow_any n x r hox (by omega) _)).mono ?_
          rintro e w' ⟨rfl, hb'⟩
          have dS := kcd hb' cS
          have d0 := kcd hb' p0
          have d1 := kcd hb' p1
          have du := kcd hb' cu
          have eu := kfd hb' cu fu
          dsimp only
          refine hK _ _ ?_
          clear hK K
          refine wpAnyIn_ready (rs := [5]) (by kernel_rfl) (by simp) ?_
          refine AllReadyIn.cons rfl (fun K hK => ?_) ?_
          · go_simp
            refine hK _ _ ?_
            clear hK K
            refine wpAnyIn_ready (rs := [6]) (by kernel_rfl) (by simp) ?_
            refine AllReadyIn.cons rfl (fun K hK => ?_) ?_
            · go_simp
              refine hK _ _ ?_
              clear hK K
              refine wpAnyIn_done (by kernel_rfl) ?_ _
              exact END.out _ hb'
            exact AllReadyIn.nil
          exact AllReadyIn.nil
        exact AllReadyIn.nil
      refine AllReadyIn.cons rfl (fun K hK => ?_) ?_
      · go_simp
        refine ⟨trivial, ?_⟩
        refine (callsIn_wide.2 (valueInRow_any n x r hox (by omega) _)).mono ?_
        rintro e w' ⟨rfl, hb'⟩
        have dS := kcd hb' cS
        have d0 := kcd hb' p0
        have d1 := kcd hb' p1
        have du := kcd hb' cu
        have eu := kfd hb' cu fu
        dsimp only
        refine hK _ _ ?_
        clear hK K
        refine wpAnyIn_ready (rs := [0]) (by kernel_rfl) (by simp) ?_
        refine AllReadyIn.cons rfl (fun K hK => ?_) ?_
        · go_simp
          refine hK _ _ ?_
          clear hK K
          refine wpAnyIn_ready (rs := [5]) (by kernel_rfl) (by simp) ?_
          refine AllReadyIn.cons rfl (fun K hK => ?_) ?_
          · go_simp
            refine hK _ _ ?_
            clear hK K
            refine wpAnyIn_ready (rs := [6]) (by kernel_rfl) (by simp) ?_
            refine AllReadyIn.cons rfl (fun K hK => ?_) ?_
            · go_simp
              refine hK _ _ ?_
              clear hK K
              refine wpAnyIn_done (by kernel_rfl) ?_ _
              exact END.out _ hb'
            exact AllReadyIn.nil
          exact AllReadyIn.nil
        exact AllReadyIn.nil
      exact AllReadyIn.nil
    exact AllReadyIn.nil
  case done =>
    clear cS cM s0 s1 own0 hB0
    rintro D ys W hD rfl ⟨⟨hM, hO⟩, hBW⟩ hK
    rw [setL_upto] at hO
    have cS := hM.cS
    have HO := Lib.hid hO
    clear hM hO
    gi_wp2
    refine ⟨by simp, .inl ⟨_, _, rfl, run_takeDeferred hK, ?_⟩⟩
    refine ⟨.slice (some ⟨W1.heap.size, 0, none⟩) R R, by simp [results, Try.results105, go_sem], ?_⟩
    refine ⟨_, rfl, ?_, hBW.trans (belowK_b (w := w) (Nat.le_refl _) W D _ _ (by omega) hK rfl rfl)⟩
    refine Owns.mono (b1 := W1.heap.size) ?_ (by omega)
    unfold Owns
    rw [natL_len, ints_natL]
    exact ownsRow_putObj HO.out _ hK rfl
  case stop =>
    rintro D c pre W _ _ h _
    exact h.elim
end Go.Proofs.Ytlohldddioikaaa

/- NP1:
  Functions put into a function in all ways, as a function that is ranged over: the part that calls itself. -/
namespace Go.Proofs.Ytlohldddioikaaa
open Go.RowKit Go.Shelf
attribute [local go_sem] Oper.semAt_some
set_option linter.unusedVariables false
set_option linter.unusedSimpArgs false

theorem owns_above {S : Nat → Prop} {W W' : World} {base : Nat} {s : Value} {xs : List Int} (h : Owns W base s xs) (ha : Above S W W') (hs : ∀ k, s.ownBlock = some k → S k) : Owns W' base s xs := by
  obtain ⟨h1, h2 | ⟨g, cap, cur, e1, e2, e3, r⟩⟩ := h
  · exact ⟨h1, .inl h2⟩
  · exact ⟨h1, .inr ⟨g, cap, cur, e1, e2, (ha.same g (hs g (by rw [e1]; rfl)) (Array.getElem?_eq_some_iff.1 e3).1).trans e3, r⟩⟩
theorem cell_above {S : Nat → Prop} {W W' : World} (ha : Above S W W') {b o : Nat} {u : Value} (hb : S b) (h : W.cell? ⟨b, o, none⟩ = some u) : W'.cell? ⟨b, o, none⟩ = some u := by
  have hl := cell_lt h
  have := ha.same b hb hl
  simp only [World.cell?, this] at h ⊢
  exact h
theorem cell_of_owns {W : World} {base : Nat} {s : Value} {xs : List Int} {g cap : Nat} (h : Owns W base s xs) (e : s = .slice (some ⟨g, 0, none⟩) xs.length cap) (j : Nat) (x : Int) (hx : xs[j]? = some x) : W.cell? ⟨g, j, none⟩ = some (.int .i64 x) := by
  subst e
  have hj : j < xs.length := (List.getElem?_eq_some_iff.1 hx).1
  have := World.ownsRow.cellAt h j (by omega)
  rw [this]
  simp [ints, hx]
theorem frozen_of_owns {W : World} {base : Nat} {xs : List Int} {g cap : Nat} (h : Owns W base (.slice (some ⟨g, 0, none⟩) xs.length cap) xs) (j : Nat) : W.frozen? ⟨g, j, none⟩ = false := World.ownsRow.frozenAt h j
theorem owns_set {W : World} {base g n cap : Nat} {xs : List Int} (h : Owns W base (.slice (some ⟨g, 0, none⟩) n cap) xs) (hn : n = xs.length) (j : Nat) (x : Int) : Owns (W.setCell ⟨g, j, none⟩ (.int .i64 x)) base (.slice (some ⟨g, 0, none⟩) n cap) (xs.set j x) := by
  subst hn
  have := (World.ownsRow.stored h j (.int .i64 x)).1
  unfold Owns
  rw [List.length_set, ints, List.map_set]
  exact this
theorem grownSet (W : World) (b o : Nat) (v : Value) : W.grownBy (W.setCell ⟨b, o, none⟩ v) (some b) :=
  ⟨rfl, rfl, rfl, (KeepsWalks.setCell W _ v).size, fun k _ hk => Below.heap_setCell _ _ _ k (fun e => hk (by rw [e]))⟩
theorem owns_other {W : World} {base : Nat} {s : Value} {xs : List Int} (h : Owns W base s xs) (g j : Nat) (v : Value) (hs : ∀ k, s.ownBlock = some k → k ≠ g) : Owns (W.setCell ⟨g, j, none⟩ v) base s xs := by
  refine World.ownsRow.kept h (grownSet W g j v) ?_
  cases e : s.ownBlock with
  | none => exact .inl rfl
  | some k => exact .inr (fun e' => hs k e (by cases e'; rfl))

/-- A list with places set one after the other. -/
def setsN (tr : List Int) (F : Nat) (f : Nat → Int) : Nat → List Int
  | 0 => tr
  | k + 1 => (setsN tr F f k).set (F + k) (f k)
theorem setsN_length (tr : List Int) (F : Nat) (f : Nat → Int) (k : Nat) : (setsN tr F f k).length = tr.length := by
  induction k with
  | zero => rfl
  | succ k ih => simp [setsN, ih]
theorem setsN_out (tr : List Int) (F : Nat) (f : Nat → Int) (k j : Nat) (h : j < F ∨ F + k ≤ j) : (setsN tr F f k)[j]? = tr[j]? := by
  induction k with
  | zero => rfl
  | succ k ih => rw [setsN, List.getElem?_set_ne (by omega), ih (by omega)]
theorem setsN_in (tr : List Int) (F : Nat) (f : Nat → Int) (k q : Nat) (h : q < k) (hl : F + k ≤ tr.length) : (setsN tr F f k)[F + q]? = some (f q) := by
  induction k with
  | zero => omega
  | succ k ih =>
    rw [setsN]
    by_cases e : q = k
    · subst e; rw [List.getElem?_set_self (by rw [setsN_length]; omega)]
    · rw [List.getElem?_set_ne (by omega), ih (by omega) (by omega)]

/-- What is handed out: the list of what was put in, and what arises. -/
abbrev Out := Value × Row 16
def encS (x : Out) : Array Value := #[x.1, .int .i64 (x.2.1 : Int)]
def outOf (sp : Value) {v : Nat → Nat} (hv : ∀ q, v q < 2 ^ 4) (p : List Nat) : Out := (sp, ⟨levF v p 0, levF_lt hv p 0⟩)

theorem sel_ops : ∀ a : Nat, a < 16 → ∀ b : Nat, b < 16 → ∀ g : Nat, g < 16 → bits .or .i64 (bits .andNot .i64 (a : Int) (g : Int)) (bits .and .i64 (b : Int) (g : Int)) = ((selN a b g : Nat) : Int) := by decide +kernel
end Go.Proofs.Ytlohldddioikaaa

/- NP2:
  putFrom by contract: by induction on how many are still to be put in. -/
namespace Go.Proofs.Ytlohldddioikaaa
open Go.RowKit Go.Shelf
attribute [local go_sem] Oper.semAt_some
set_option linter.unusedVariables false
set_option linter.unusedSimpArgs false

theorem YieldAt.anyD {m : Nat} (m' : Nat) {P : Program} {l : Nat} {args : Array Value} {W : World} {R : Ending → World → Prop} (h : YieldAt Fence.wide m P l args W R) : YieldAt Fence.wide m' P l args W R := by
  obtain ⟨fn, tmps, assign, body, hy, hR⟩ := h
  exact ⟨fn, tmps, assign, body, hy, hR.1, fun c cs _ => hR.2 c cs (fun d h => by cases h)⟩

/-- The iterator's memory: the tree and the list of what was put in. -/
structure SMem (T U : Nat) (L m : Nat) (tr pu : List Int) (W : World) : Prop where
  ot : Owns W T (.slice (some ⟨T, 0, none⟩) L L) tr
  ou : Owns W U (.slice (some ⟨U, 0, none⟩) m m) pu
  lt : tr.length = L
  lu : pu.length = m

set_option maxRecDepth 100000 in
set_option maxHeartbeats 4000000 in
theorem putFrom_zero {v : Nat → Nat} (hv : ∀ q, v q < 2 ^ 4) (l T U K m N L : Nat) (S : Nat → Prop) (sg : Value) (J Jx : List Out → World → Prop) (hJ : Firm K J)
    (hL : L = 2 ^ (m + 1))
    (hY : ∀ pre x W, J pre W → pre.length < N → YieldAt Fence.wide 1 Try.prog l (encS x) W fun e W' =>
      Above S W W' ∧ ((e = .returned (.bool true) ∧ J (pre ++ [x]) W') ∨ (e = .returned (.bool false) ∧ Jx (pre ++ [x]) W')))
    (n : Nat) (p : List Nat) (hp : p.length = m) (pre : List Out) (tr pu : List Int) (W : World) (hm : SMem T U L m tr pu W) (hlev : ∀ q, q < 2 ^ 0 → tr[2 ^ 0 + q]? = some ((levF v p q : Nat) : Int)) (hj : J pre W) (hN : pre.length < N) (hT : T < W.heap.size) (hU : U < W.heap.size) (hK : K ≤ W.heap.size) :
    CallsIn Fence.wide n Try.prog 107 #[.agg #[.slice (some ⟨T, 0, none⟩) L L, .slice (some ⟨U, 0, none⟩) m m, sg], .int .i64 (m : Int), .func (.yield l) #[] #[]] W fun e W' =>
      (e = .returned (.bool true) ∧ Above S W W' ∧ J (pre ++ [outOf (.slice (some ⟨U, 0, none⟩) m m) hv p]) W') ∨ (e = .returned (.bool false) ∧ Jx (pre ++ [outOf (.slice (some ⟨U, 0, none⟩) m m) hv p]) W') := by
  have hb := bnew W (.cells #[.slice (some ⟨T, 0, none⟩) L L, .slice (some ⟨U, 0, none⟩) m m, sg] 119)
  obtain ⟨W1, hW1⟩ : ∃ W1, W.alloc (.cells #[.slice (some ⟨T, 0, none⟩) L L, .slice (some ⟨U, 0, none⟩) m m, sg] 119) = W1 := ⟨_, rfl⟩
  have p0 : W1.cell? ⟨W.heap.size, 0, none⟩ = some (.slice (some ⟨T, 0, none⟩) L L) := by rw [← hW1]; simp [go_sem]
  have p1 : W1.cell? ⟨W.heap.size, 1, none⟩ = some (.slice (some ⟨U, 0, none⟩) m m) := by rw [← hW1]; simp [go_sem]
  have hL2 : 2 ≤ L := by rw [hL, Nat.pow_succ]; have := Nat.two_pow_pos m; omega
  have c1 : W1.cell? ⟨T, 1, none⟩ = some (.int .i64 (levF v p 0 : Int)) := by
    rw [hW1] at hb
    refine kc hb (cell_of_owns hm.ot (by rw [hm.lt]) 1 _ ?_)
    simpa using hlev 0 (by decide)
  have hj0 : J pre W1 := by rw [← hW1]; exact hJ.alloc _ hj
  have hj1 : J pre W1.drew := hJ _ W1 W1.drew none hj0 ⟨rfl, rfl, rfl, Nat.le_refl _, fun _ _ _ => rfl⟩ (fun r e => by cases e)
  have hL3 : (1 : Int) < (L : Int) := by omega
  rw [hW1] at hb
  obtain ⟨fn, tmps, assign, body, hy, hR⟩ := YieldAt.mono (R' := fun e W' => ∃ b, e = .returned (.bool b) ∧ Above S W1.drew W' ∧ (b = true → J (pre ++ [outOf (.slice (some ⟨U, 0, none⟩) m m) hv p]) W') ∧ (b = false → Jx (pre ++ [outOf (.slice (some ⟨U, 0, none⟩) m m) hv p]) W'))
    (YieldAt.anyD (n - 1) (hY pre (outOf (.slice (some ⟨U, 0, none⟩) m m) hv p) W1.drew hj1 hN))
    (fun e W' h => by rcases h with ⟨ha, ⟨rfl, h2⟩ | ⟨rfl, h2⟩⟩ <;> exact ⟨_, rfl, ha, by simp [h2], by simp [h2]⟩)
  have FIN := Lib.hid (fun (b : Bool) (W2 : World) (h2 : Above S W1.drew W2 ∧ (b = true → J (pre ++ [outOf (.slice (some ⟨U, 0, none⟩) m m) hv p]) W2) ∧ (b = false → Jx (pre ++ [outOf (.slice (some ⟨U, 0, none⟩) m m) hv p]) W2)) =>
    show ((Ending.returned (.bool b) = .returned (.bool true) ∧ Above S W W2 ∧ J (pre ++ [outOf (.slice (some ⟨U, 0, none⟩) m m) hv p]) W2) ∨ (Ending.returned (.bool b) = .returned (.bool false) ∧ Jx (pre ++ [outOf (.slice (some ⟨U, 0, none⟩) m m) hv p]) W2)) by
      have hA : Above S W W1.drew := Above.below hb.drew
      cases b
      · exact .inr ⟨rfl, h2.2.2 rfl⟩
      · exact .inl ⟨rfl, hA.trans h2.1, h2.2.1 rfl⟩)
  unfold encS outOf at hy
  dsimp only at hy
  clear hL hlev hY hJ hj hj1
  refine callsIn_of_wp Try.func107 rfl trivial ?_ rfl
  simp only [Try.ntmps107, List.size_toArray, List.length_cons, List.length_nil, Nat.reduceAdd, Nat.reduceSub, Array.replicate_succ, Array.replicate_zero, List.push_toArray, List.append_toArray, List.nil_append, List.cons_append]
  have hmx : Try.prog.follows .mixedOrders = true := by kernel_rfl
  gi_wp2
  clear hW1
  refine wpIn_region_any hmx ?_
  change wpAnyIn _ _ _ _ _ _ _ _ _ (World.drew _)
  refine wpAnyIn_take (i := 0) (v := ?_) rfl rfl (by kernel_rfl) (by kernel_rfl) (by kernel_rfl) (fun _ _ _ h => h) ⟨Or.inl ⟨by rfl, by intro w; go_simp; try (with_reducible rfl)⟩, fun _ => rfl⟩ ?_
  refine wpAnyIn_take (i := 1) (v := ?_) rfl rfl (by kernel_rfl) (by kernel_rfl) (by kernel_rfl) (fun _ _ _ h => h) ⟨Or.inl ⟨by rfl, by intro w; go_simp; try (with_reducible rfl)⟩, fun _ => rfl⟩ ?_
  refine wpAnyIn_take (i := 3) (v := ?_) rfl rfl (by kernel_rfl) (by kernel_rfl) (by kernel_rfl) (fun _ _ _ h => h) ⟨Or.inl ⟨by rfl, by intro w; go_simp; try (with_reducible rfl)⟩, fun _ => rfl⟩ ?_
  refine wpAnyIn_ready (rs := [2, 4]) (by kernel_rfl) (by simp) ?_
  refine AllReadyIn.cons rfl (fun K hK => ?_) ?_
  · go_simp
    refine hK _ _ ?_
    clear hK K
    refine wpAnyIn_ready (rs := [4]) (by kernel_rfl) (by simp) ?_
    refine AllReadyIn.cons rfl (fun K hK => ?_) ?_
    · go_simp
      refine hK _ _ ?_
      clear hK K
      refine wpAnyIn_ready (rs := [5]) (by kernel_rfl) (by simp) ?_
      refine AllReadyIn.cons rfl (fun K hK => ?_) ?_
      · go_simp
        refine hK _ _ ?_
        clear hK K
        refine wpAnyIn_ready (rs := [6]) (by kernel_rfl) (by simp) ?_
        refine AllReadyIn.cons rfl (fun K hK => ?_) ?_
        · go_simp
          refine hK _ _ ?_
          clear hK K
          refine wpAnyIn_ready (rs := [7]) (by kernel_rfl) (by simp) ?_
          refine AllReadyIn.cons rfl (fun K hK => ?_) ?_
          · go_simp
            refine ⟨fun h => (by cases h), ?_⟩
            refine hR.mono ?_
            rintro e W2 ⟨b, rfl, h2⟩
            dsimp only
            refine hK _ _ ?_
            clear hK K
            refine wpAnyIn_ready (rs := [8]) (by kernel_rfl) (by simp) ?_
            refine AllReadyIn.cons rfl (fun K hK => ?_) ?_
            · go_simp
              refine hK _ _ ?_
              clear hK K
              refine wpAnyIn_done (by kernel_rfl) ?_ _
              gi_wp2
              go_ret
              exact FIN.out b W2 h2
            exact AllReadyIn.nil
          exact AllReadyIn.nil
        exact AllReadyIn.nil
      exact AllReadyIn.nil
    exact AllReadyIn.nil
  refine AllReadyIn.cons rfl (fun K hK => ?_) ?_
  · go_simp
    refine hK _ _ ?_
    clear hK K
    refine wpAnyIn_ready (rs := [2, 5]) (by kernel_rfl) (by simp) ?_
    refine AllReadyIn.cons rfl (fun K hK => ?_) ?_
    · go_simp
      refine hK _ _ ?_
      clear hK K
      refine wpAnyIn_ready (rs := [5]) (by kernel_rfl) (by simp) ?_
      refine AllReadyIn.cons rfl (fun K hK => ?_) ?_
      · go_simp
        refine hK _ _ ?_
        clear hK K
        refine wpAnyIn_ready (rs := [6]) (by kernel_rfl) (by simp) ?_
        refine AllReadyIn.cons rfl (fun K hK => ?_) ?_
        · go_simp
          refine hK _ _ ?_
          clear hK K
          refine wpAnyIn_ready (rs := [7]) (by kernel_rfl) (by simp) ?_
          refine AllReadyIn.cons rfl (fun K hK => ?_) ?_
          · go_simp
            refine ⟨fun h => (by cases h), ?_⟩
            refine hR.mono ?_
            rintro e W2 ⟨b, rfl, h2⟩
            dsimp only
            refine hK _ _ ?_
            clear hK K
            refine wpAnyIn_ready (rs := [8]) (by kernel_rfl) (by simp) ?_
            refine AllReadyIn.cons rfl (fun K hK => ?_) ?_
            · go_simp
              refine hK _ _ ?_
              clear hK K
              refine wpAnyIn_done (by kernel_rfl) ?_ _
              gi_wp2
              go_ret
              exact FIN.out b W2 h2
            exact AllReadyIn.nil
          exact AllReadyIn.nil
        exact AllReadyIn.nil
      exact AllReadyIn.nil
    refine AllReadyIn.cons rfl (fun K hK => ?_) ?_
    · go_simp
      refine hK _ _ ?_
      clear hK K
      refine wpAnyIn_ready (rs := [2, 6]) (by kernel_rfl) (by simp) ?_
      refine AllReadyIn.cons rfl (fun K hK => ?_) ?_
      · go_simp
        refine hK _ _ ?_
        clear hK K
        refine wpAnyIn_ready (rs := [6]) (by kernel_rfl) (by simp) ?_
        refine AllReadyIn.cons rfl (fun K hK => ?_) ?_
        · go_simp
          refine hK _ _ ?_
          clear hK K
          refine wpAnyIn_ready (rs := [7]) (by kernel_rfl) (by simp) ?_
          refine AllReadyIn.cons rfl (fun K hK => ?_) ?_
          · go_simp
            refine ⟨fun h => (by cases h), ?_⟩
            refine hR.mono ?_
            rintro e W2 ⟨b, rfl, h2⟩
            dsimp only
            refine hK _ _ ?_
            clear hK K
            refine wpAnyIn_ready (rs := [8]) (by kernel_rfl) (by simp) ?_
            refine AllReadyIn.cons rfl (fun K hK => ?_) ?_
            · go_simp
              refine hK _ _ ?_
              clear hK K
              refine wpAnyIn_done (by kernel_rfl) ?_ _
              gi_wp2
              go_ret
              exact FIN.out b W2 h2
            exact AllReadyIn.nil
          exact AllReadyIn.nil
        exact AllReadyIn.nil
      refine AllReadyIn.cons rfl (fun K hK => ?_) ?_
      · go_simp
        refine hK _ _ ?_
        clear hK K
        refine wpAnyIn_ready (rs := [2]) (by kernel_rfl) (by simp) ?_
        refine AllReadyIn.cons rfl (fun K hK => ?_) ?_
        · go_simp
          refine hK _ _ ?_
          clear hK K
          refine wpAnyIn_ready (rs := [7]) (by kernel_rfl) (by simp) ?_
          refine AllReadyIn.cons rfl (fun K hK => ?_) ?_
          · go_simp
            refine ⟨fun h => (by cases h), ?_⟩
            refine hR.mono ?_
            rintro e W2 ⟨b, rfl, h2⟩
            dsimp only
            refine hK _ _ ?_
            clear hK K
            refine wpAnyIn_ready (rs := [8]) (by kernel_rfl) (by simp) ?_
            refine AllReadyIn.cons rfl (fun K hK => ?_) ?_
            · go_simp
              refine hK _ _ ?_
              clear hK K
              refine wpAnyIn_done (by kernel_rfl) ?_ _
              gi_wp2
              go_ret
              exact FIN.out b W2 h2
            exact AllReadyIn.nil
          exact AllReadyIn.nil
        exact AllReadyIn.nil
      exact AllReadyIn.nil
    exact AllReadyIn.nil
  exact AllReadyIn.nil
end Go.Proofs.Ytlohldddioikaaa
