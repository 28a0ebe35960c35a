/-
  All that a function makes of tuples of a relation, in the model; what is kept.
-/
import Derived.Test.YtlohldddioikaaaNV1
import Derived.Deep.RegionHeld3
import Derived.Deep.AppendLies
namespace Go.Proofs.Ytlohldddioikaaa
open Go.RowKit
set_option linter.unusedVariables false
set_option linter.unusedSimpArgs false

set_option maxRecDepth 100000 in
set_option maxHeartbeats 2000000 in
theorem l01Own_nv (ys : List Int) (hl : ys.length ≤ 1000) (ad : Addr) (c : Nat) (w : World) (H : ∀ (j : Nat) (u : Value), (ints ys)[j]? = some u → w.cell? (ad.add j) = some u) :
    Calls Try.prog 94 #[.slice (some ad) ys.length c] w fun e w' => ∃ s, e = .returned s ∧ Owns w' w.heap.size s ys ∧ Below w.heap.size w w' := by
  obtain ⟨i0, hi, hz0, hz1, hz2⟩ := info_parts infoI
  have O0 := Lib.hid (World.ownsRow_lit (e := 2) (size := 1) w #[] 0 (Nat.le_refl _) (by decide) rfl)
  have H2 := Lib.hid (fun (j : Nat) (u : Value) (h : (ints ys)[j]? = some u) => kc (bnew w (.cells #[] 2)) (H j u h))
  have hb := bnew w (.cells #[] 2)
  have hln : (ints ys).length = ys.length * 1 := by simp [ints]
  clear H
  go_enter Try.func94, Try.ntmps94
  go_wp2_with (at_builtin; refine wpList_append_own _ rfl _ _ 61 rfl w.heap.size 2 i0 (.int .i64 0) 1 8 Try.underlying61 hi hz0 hz1 hz2 rfl (by decide) _ _ _ rfl O0.out ad ys.length c (ints ys) rfl hln H2.out (by intro u hu; simp [ints] at hu; obtain ⟨z, _, rfl⟩ := hu; rfl) (by unfold maxLen; omega) (by omega) (by simp) ?_)
  intro v' w1 hown' hgrow _
  have hB := hb.grown hgrow (by simp) (fun j e => (O0.out.lt j e).1)
  have HO := Lib.hid (show Owns w1 w.heap.size v' ys by
    unfold Owns
    simpa using hown')
  clear hown' hgrow
  go_wp2
  go_ret
  exact ⟨_, rfl, HO.out, hB⟩


/-- The first j of what is put in next. -/
def madeTo (x P : Nat) (gs b : List Nat) (m j : Nat) : List Nat := (gs.take j).flatMap fun a => madeL x P gs (b ++ [a]) m
theorem madeTo_succ (x P : Nat) (gs b : List Nat) (m j a : Nat) (h : gs[j]? = some a) : madeTo x P gs b m (j + 1) = madeTo x P gs b m j ++ madeL x P gs (b ++ [a]) m := by
  obtain ⟨hj, e⟩ := List.getElem?_eq_some_iff.1 h
  unfold madeTo
  rw [List.take_succ_eq_append_getElem hj, List.flatMap_append, e]
  simp
theorem madeTo_all (x P : Nat) (gs b : List Nat) (m : Nat) : madeL x P gs b (m + 1) = madeTo x P gs b m gs.length := by
  rw [madeL_succ, madeTo, List.take_length]
theorem or_made {x P R : Nat} (hR : R = 2 ^ P) (hR16 : R ≤ 16) (gs b : List Nat) (m : Nat) : orL 0 (madeL x P gs b m) < 65536 := by
  have h : orL 0 (madeL x P gs b m) < 2 ^ R := orL_lt (Nat.two_pow_pos R) (fun t ht => by rw [hR]; exact madeL_lt ht)
  exact Nat.lt_of_lt_of_le h (Nat.le_trans (Nat.pow_le_pow_right (by decide) hR16) (by decide : 2 ^ 16 ≤ 65536))
theorem or_madeTo {x P R : Nat} (hR : R = 2 ^ P) (hR16 : R ≤ 16) (gs b : List Nat) (m j : Nat) : orL 0 (madeTo x P gs b m j) < 65536 := by
  have h : orL 0 (madeTo x P gs b m j) < 2 ^ R := orL_lt (Nat.two_pow_pos R) (fun t ht => by
    obtain ⟨a, _, h2⟩ := List.mem_flatMap.1 ht
    rw [hR]; exact madeL_lt h2)
  exact Nat.lt_of_lt_of_le h (Nat.le_trans (Nat.pow_le_pow_right (by decide) hR16) (by decide : 2 ^ 16 ≤ 65536))
theorem pow_shift (t : Nat) (ht : t < 16) : IntKind.i64.wrap ((2 : Int) ^ t) = ((2 ^ t : Nat) : Int) := by
  have e : (2 : Int) ^ t = ((2 ^ t : Nat) : Int) := by push_cast; rfl
  have h16 : 2 ^ t ≤ 65536 := Nat.le_trans (Nat.pow_le_pow_right (by decide) (Nat.le_of_lt ht)) (by decide : 2 ^ 16 ≤ 65536)
  rw [e]
  generalize 2 ^ t = z at h16
  exact wrap64_small (by omega) (by omega)

/-- The cells of a list of numbers that is only read. -/
def RdL (w : World) (g : Nat) (b : List Nat) : Prop := Hid (∀ j, j < b.length → w.cell? ⟨g, j, none⟩ = some (.int .i64 ((b[j]?.getD 0 : Nat) : Int)))
theorem RdL.below {w w' : World} {g : Nat} {b : List Nat} (h : RdL w g b) (hb : Below w.heap.size w w') : RdL w' g b := Lib.hid fun j hj => kc hb (h.out j hj)
theorem RdL.of {W : World} {base : Nat} {s : Value} {b : List Nat} (h : Owns W base s (nI b)) (hb : 0 < b.length) : ∃ g c, s = .slice (some ⟨g, 0, none⟩) b.length c ∧ RdL W g b := by
  rcases h.shape with ⟨e, _⟩ | ⟨_, g, c, e, _, _, hc, _⟩
  · have := congrArg List.length e; rw [nI_length] at this; simp at this; rw [this] at hb; simp at hb
  · rw [nI_length] at e hc
    exact ⟨g, c, e, Lib.hid fun j hj => by rw [hc.out j hj, nI_get b j hj]⟩

theorem step_append_nv {P : Program} (w : World) {ops : Array Oper} {o : Oper} {a : Act} {K : Act → World → Prop} {Q : Exit → Act → World → Prop} {E : Prop}
    (hg : o.guard = none) (s x : Operand) (t : TypeId) (hop : o.op = Op.call { callee := Callee.builtin Builtin.append, args := #[s, x], argTypes := #[t, t] })
    (base : Nat) (e : TypeId) (i : TypeInfo) (z : Value) (size bytes : Nat) (h1 : P.underlying t = some (.slice e)) (h2 : P.info? e = some i) (h3 : i.zero = some z) (h4 : i.size = size) (h5 : i.bytes = bytes) (h6 : z.cells.size = size) (h7 : 0 < size)
    (v : Value) (k : Nat) (xs : List Value) (hs : a.eval s = v) (hown : w.ownsRow base e size v k xs) (ad : Addr) (m c : Nat) (news : List Value) (hx : a.eval x = .slice (some ad) m c) (hn : news.length = m * size)
    (hc : ∀ j u, news[j]? = some u → w.cell? (ad.add j) = some u) (h1c : ∀ u ∈ news, u.oneCell' = true) (b1 : k + m ≤ maxLen) (b2 : (k + m) * bytes ≤ 140737488355328) (b3 : base ≤ w.heap.size)
    (hK : ∀ v' w', w'.ownsRow base e size v' (k + m) (xs ++ news) → w.grownBy w' v.ownBlock → K (a.put o.dst v') w') :
    if Region.wanted o (yielded ops a.tmps) = true then Oper.wp P o a w K Q else E := by
  rw [if_pos (by simp [Region.wanted, hg])]
  obtain ⟨v', w', hrun, r1, r2, _⟩ := run_append_own (P := P) w base t o.type e i z size bytes h1 h2 h3 h4 h5 h6 h7 v k xs hown ad m c news hn hc h1c b1 b2 b3
  unfold Oper.wp
  simp [execOp, hop, resolve, invoke, builtin, hs, hx, hrun, Result.andThen]
  exact hK _ _ r1 r2

theorem add_nv (g a j : Nat) : (⟨g, a, none⟩ : Addr).add j = ⟨g, a + j, none⟩ := by
  simp only [Addr.add]
  split <;> simp_all
theorem cell_of_nI {W : World} {base : Nat} {gs : List Nat} {g cap : Nat} (h : Owns W base (.slice (some ⟨g, 0, none⟩) gs.length cap) (nI gs)) (j a : Nat) (ha : gs[j]?.getD 0 = a) (hj : j < gs.length) : W.cell? ⟨g, j, none⟩ = some (.int .i64 (a : Int)) := by
  obtain ⟨g', c', e, hc⟩ := RdL.of h (by omega)
  injection e with e1 _ _
  injection e1 with e1
  injection e1 with e1 _ _
  subst e1
  rw [hc.out j hj, ha]

theorem Owns.below' {W W' : World} {base : Nat} {s : Value} {xs : List Int} (h : Owns W base s xs) (hb : Below W.heap.size W W') : Owns W' base s xs := h.below hb

set_option maxRecDepth 100000 in
set_option maxHeartbeats 8000000 in
theorem l06Made_zero {k : Nat} {x R : Nat} (ok : FOk (k : Int) x R) (k4 : k ≤ 4) {P y Q : Nat} (okr : ROk (P : Int) y Q) (gs : List Nat) (sl : Value) {g c : Nat} {b : List Nat} (hb : b.length = k) (h16 : ∀ a, a ∈ b → a < 16) (w : World) (hc : RdL w g b) :
    Calls Try.prog 69 #[.agg #[.int .i64 k, .int .i64 (x : Int)], .agg #[.int .i64 P, .int .i64 (y : Int)], sl, .slice (some ⟨g, 0, none⟩) b.length c] w fun e w' => e = .returned (.int .i64 (orL 0 (madeL x P gs b 0) : Int)) ∧ Below w.heap.size w w' := by
  obtain ⟨W1, hW1⟩ : ∃ W1, (w.alloc (.cells #[.int .i64 (k : Int), .int .i64 (x : Int)] 34)).alloc (.cells #[.int .i64 (P : Int), .int .i64 (y : Int)] 25) = W1 := ⟨_, rfl⟩
  have p0 : W1.cell? ⟨w.heap.size, 0, none⟩ = some (.int .i64 (k : Int)) := by rw [← hW1]; simp [go_sem]
  have p1 : W1.cell? ⟨w.heap.size, 1, none⟩ = some (.int .i64 (x : Int)) := by rw [← hW1]; simp [go_sem]
  have r0 : W1.cell? ⟨w.heap.size + 1, 0, none⟩ = some (.int .i64 (P : Int)) := by rw [← hW1]; simp [go_sem]
  have hB : Below w.heap.size w W1 := by rw [← hW1]; exact balloc (bnew _ _) _
  have hP : P ≤ 4 := by have := okr.h4; omega
  have hQ : Q = 2 ^ P := by have := okr.he; simpa using this
  have hQ16 := okr.r16
  have ht : tupV x b P < 16 := by have := tupV_lt x b P; rw [← hQ] at this; omega
  have HV := Lib.hid (l06Value_any ok (g := g) (c := c) (p := b) (by omega) h16 hP W1 (hc.below hB))
  have HR : Hid (orL 0 (madeL x P gs b 0) = 2 ^ tupV x b P) := Lib.hid (by rw [madeL_zero]; simp [orL])
  have hs := pow_shift (tupV x b P) ht
  have hw : IntKind.u64.wrap ((tupV x b P : Nat) : Int) = ((tupV x b P : Nat) : Int) := by simp [IntKind.wrap, IntKind.bits, IntKind.signed]; omega
  clear hQ
  generalize tupV x b P = t at HV HR hs ht hw
  obtain ⟨z, hz⟩ : ∃ z, z = 2 ^ t := ⟨_, rfl⟩
  rw [← hz] at hs HR
  clear hz hc
  subst hb
  go_enter Try.func69, Try.ntmps69
  go_wp2_with (go_at_call 93; refine HV.out.mono ?_; rintro e w2 ⟨rfl, hb2⟩)
  go_ret
  exact ⟨by rw [HR.out]; rfl, bthen hB hb2⟩

set_option maxRecDepth 100000 in
set_option maxHeartbeats 16000000 in
theorem l06Made_succ {k : Nat} {x R : Nat} (ok : FOk (k : Int) x R) (k4 : k ≤ 4) {P y Q : Nat} (okr : ROk (P : Int) y Q) (gs : List Nat) (d : Nat) (gl : gs.length ≤ 16)
    (ih : ∀ (b : List Nat) (g c : Nat) (sl : Value) (w : World), b.length + d = k → (∀ a, a ∈ b → a ∈ gs) → Owns w 0 sl (nI gs) → RdL w g b →
      Calls Try.prog 69 #[.agg #[.int .i64 k, .int .i64 (x : Int)], .agg #[.int .i64 P, .int .i64 (y : Int)], sl, .slice (some ⟨g, 0, none⟩) b.length c] w fun e w' => e = .returned (.int .i64 (orL 0 (madeL x P gs b d) : Int)) ∧ Below w.heap.size w w')
    (b : List Nat) (g c : Nat) (sl : Value) (w : World) (hb : b.length + (d + 1) = k) (hbg : ∀ a, a ∈ b → a ∈ gs) (ho : Owns w 0 sl (nI gs)) (hc : RdL w g b) :
    Calls Try.prog 69 #[.agg #[.int .i64 k, .int .i64 (x : Int)], .agg #[.int .i64 P, .int .i64 (y : Int)], sl, .slice (some ⟨g, 0, none⟩) b.length c] w fun e w' => e = .returned (.int .i64 (orL 0 (madeL x P gs b (d + 1)) : Int)) ∧ Below w.heap.size w w' := by
  obtain ⟨i0, hi, hz0, hz1, hz2⟩ := info_parts infoI
  obtain ⟨W1, hW1⟩ : ∃ W1, (w.alloc (.cells #[.int .i64 (k : Int), .int .i64 (x : Int)] 34)).alloc (.cells #[.int .i64 (P : Int), .int .i64 (y : Int)] 25) = W1 := ⟨_, rfl⟩
  have p0 : W1.cell? ⟨w.heap.size, 0, none⟩ = some (.int .i64 (k : Int)) := by rw [← hW1]; simp [go_sem]
  have p1 : W1.cell? ⟨w.heap.size, 1, none⟩ = some (.int .i64 (x : Int)) := by rw [← hW1]; simp [go_sem]
  have r0 : W1.cell? ⟨w.heap.size + 1, 0, none⟩ = some (.int .i64 (P : Int)) := by rw [← hW1]; simp [go_sem]
  have r1 : W1.cell? ⟨w.heap.size + 1, 1, none⟩ = some (.int .i64 (y : Int)) := by rw [← hW1]; simp [go_sem]
  have hB : Below w.heap.size w W1 := by rw [← hW1]; exact balloc (bnew _ _) _
  have hQ : Q = 2 ^ P := by have := okr.he; simpa using this
  have hQ16 := okr.r16
  have HALL := Lib.hid (madeTo_all x P gs b d)
  have HOR := Lib.hid (fun m (b : List Nat) => or_made (x := x) hQ hQ16 gs b m)
  have HOT := Lib.hid (fun j => or_madeTo (x := x) hQ hQ16 gs b d j)
  obtain ⟨bl, hbl⟩ : ∃ bl, b.length = bl := ⟨_, rfl⟩
  obtain ⟨sa, cap, rfl⟩ : ∃ a cap, sl = .slice a gs.length cap := owns_len ho (nI_length gs)
  have ho1 := ho.below hB
  have hc1 := hc.below hB
  have hne : ((bl : Int) == (k : Int)) = false := by simp; omega
  rw [hbl] at hb ⊢
  have HBL := Lib.hid hbl
  clear hQ hbl ho hc
  go_enter Try.func69, Try.ntmps69
  go_wp2
  clear hW1 hne
  go_loopw [9, 10] (fun o j' wr => ∃ j : Nat, j ≤ gs.length ∧ j' = .int .i64 j ∧ o = .int .i64 (orL 0 (madeTo x P gs b d j) : Int) ∧ Below W1.heap.size W1 wr) (fun _ j' _ => gs.length - (intOf j').toNat)
  case atStart => exact ⟨0, Nat.zero_le _, rfl, rfl, Below.refl _ _⟩
  case round =>
    obtain ⟨j, hj, rfl, rfl, hN⟩ := hrel
    have q0 := kc hN p0
    have q1 := kc hN p1
    have s0 := kc hN r0
    have s1 := kc hN r1
    by_cases hlt : j < gs.length
    · obtain ⟨a, ha⟩ : ∃ a, gs[j]? = some a := ⟨_, List.getElem?_eq_getElem hlt⟩
      have hag : a ∈ gs := List.mem_of_getElem? ha
      obtain ⟨G, rfl⟩ : ∃ G, sa = some ⟨G, 0, none⟩ := by
        rcases ho1.shape with ⟨e, _⟩ | ⟨_, g, c, e, _⟩
        · have := congrArg List.length e; rw [nI_length] at this; simp at this; rw [this] at hlt; simp at hlt
        · injection e with e1 _ _
          exact ⟨g, e1⟩
      have hor := ho1.below hN
      have hcr := hc1.below hN
      have cg : wr.cell? ⟨G, j, none⟩ = some (.int .i64 (a : Int)) := by
        refine cell_of_nI hor j a ?_ hlt
        rw [ha]; rfl
      have mkS : ∀ W : World, Below wr.heap.size wr W → (((W.cell? ⟨w.heap.size, 0, none⟩ = some (.int .i64 (k : Int)) ∧ W.cell? ⟨w.heap.size, 1, none⟩ = some (.int .i64 (x : Int))) ∧ (W.cell? ⟨w.heap.size + 1, 0, none⟩ = some (.int .i64 (P : Int)) ∧ W.cell? ⟨w.heap.size + 1, 1, none⟩ = some (.int .i64 (y : Int)))) ∧ (W.cell? ⟨G, j, none⟩ = some (.int .i64 (a : Int)) ∧ Below wr.heap.size wr W)) := fun W h => ⟨⟨⟨kc h q0, kc h q1⟩, ⟨kc h s0, kc h s1⟩⟩, kc h cg, h⟩
      have MK := Lib.hid mkS
      have STH : Hid (∀ W W' : World, Below W.heap.size W W' → (((W.cell? ⟨w.heap.size, 0, none⟩ = some (.int .i64 (k : Int)) ∧ W.cell? ⟨w.heap.size, 1, none⟩ = some (.int .i64 (x : Int))) ∧ (W.cell? ⟨w.heap.size + 1, 0, none⟩ = some (.int .i64 (P : Int)) ∧ W.cell? ⟨w.heap.size + 1, 1, none⟩ = some (.int .i64 (y : Int)))) ∧ (W.cell? ⟨G, j, none⟩ = some (.int .i64 (a : Int)) ∧ Below wr.heap.size wr W)) → (((W'.cell? ⟨w.heap.size, 0, none⟩ = some (.int .i64 (k : Int)) ∧ W'.cell? ⟨w.heap.size, 1, none⟩ = some (.int .i64 (x : Int))) ∧ (W'.cell? ⟨w.heap.size + 1, 0, none⟩ = some (.int .i64 (P : Int)) ∧ W'.cell? ⟨w.heap.size + 1, 1, none⟩ = some (.int .i64 (y : Int)))) ∧ (W'.cell? ⟨G, j, none⟩ = some (.int .i64 (a : Int)) ∧ Below wr.heap.size wr W'))) := Lib.hid fun W W' h hs => mkS W' (bthen hs.2.2 h)
      have OWN : Hid (∀ W : World, (((W.cell? ⟨w.heap.size, 0, none⟩ = some (.int .i64 (k : Int)) ∧ W.cell? ⟨w.heap.size, 1, none⟩ = some (.int .i64 (x : Int))) ∧ (W.cell? ⟨w.heap.size + 1, 0, none⟩ = some (.int .i64 (P : Int)) ∧ W.cell? ⟨w.heap.size + 1, 1, none⟩ = some (.int .i64 (y : Int)))) ∧ (W.cell? ⟨G, j, none⟩ = some (.int .i64 (a : Int)) ∧ Below wr.heap.size wr W)) → Calls Try.prog 94 #[.slice (some ⟨g, 0, none⟩) bl c] W fun e w' => ∃ s, e = .returned s ∧ Owns w' wr.heap.size s (nI b) ∧ Below W.heap.size W w') := Lib.hid fun W hs => by
        have h := l01Own_nv (nI b) (by rw [nI_length, HBL.out]; omega) ⟨g, 0, none⟩ c W (fun q u hu => by
          have hq : q < b.length := by have := (List.getElem?_eq_some_iff.1 hu).1; simpa [ints, nI] using this
          have := kc hs.2.2 (hcr.out q hq)
          simp [ints, nI, hq] at hu
          rw [show ((⟨g, 0, none⟩ : Addr).add q) = ⟨g, q, none⟩ from (add_nv g 0 q).trans (by rw [Nat.zero_add]), this, ← hu, List.getElem?_eq_getElem hq]
          simp)
        rw [nI_length, HBL.out] at h
        exact h.mono fun e w' ⟨s, h1, h2, h3⟩ => ⟨s, h1, Owns.mono h2 hs.2.2.size, h3⟩
      have hba : (b ++ [a]).length = bl + 1 := by rw [List.length_append, HBL.out]; rfl
      have MADE : Hid (∀ (W : World) (v : Value), (((W.cell? ⟨w.heap.size, 0, none⟩ = some (.int .i64 (k : Int)) ∧ W.cell? ⟨w.heap.size, 1, none⟩ = some (.int .i64 (x : Int))) ∧ (W.cell? ⟨w.heap.size + 1, 0, none⟩ = some (.int .i64 (P : Int)) ∧ W.cell? ⟨w.heap.size + 1, 1, none⟩ = some (.int .i64 (y : Int)))) ∧ (W.cell? ⟨G, j, none⟩ = some (.int .i64 (a : Int)) ∧ Below wr.heap.size wr W)) → Owns W wr.heap.size v (nI (b ++ [a])) → Calls Try.prog 69 #[.agg #[.int .i64 k, .int .i64 (x : Int)], .agg #[.int .i64 P, .int .i64 (y : Int)], .slice (some ⟨G, 0, none⟩) gs.length cap, v] W fun e w' => e = .returned (.int .i64 (orL 0 (madeL x P gs (b ++ [a]) d) : Int)) ∧ Below W.heap.size W w') := Lib.hid fun W v hs ho => by
        obtain ⟨g6, c6, e6, h6⟩ := RdL.of ho (by rw [hba]; omega)
        rw [e6]
        exact ih (b ++ [a]) g6 c6 _ W (by rw [hba]; omega) (fun q hq => by
          rcases List.mem_append.1 hq with h | h
          · exact hbg q h
          · simp at h; rw [h]; exact hag) (hor.below' hs.2.2) h6
      have HA := Lib.hid ha
      have HNN := Lib.hid hN
      have hnl : (nI b).length = bl := by rw [nI_length, HBL.out]
      have h0 := HOT.out j
      have h1 := HOR.out d (b ++ [a])
      clear ha mkS hor hcr hN
      go_wp2
      go_region_held3 (fun W => ((W.cell? ⟨w.heap.size, 0, none⟩ = some (.int .i64 (k : Int)) ∧ W.cell? ⟨w.heap.size, 1, none⟩ = some (.int .i64 (x : Int))) ∧ (W.cell? ⟨w.heap.size + 1, 0, none⟩ = some (.int .i64 (P : Int)) ∧ W.cell? ⟨w.heap.size + 1, 1, none⟩ = some (.int .i64 (y : Int)))) ∧ (W.cell? ⟨G, j, none⟩ = some (.int .i64 (a : Int)) ∧ Below wr.heap.size wr W))
        (first | with_reducible exact MK.out _ (Below.refl _ _).drew | with_reducible exact MK.out _ (bnew _ _).drew | (with_reducible refine STH.out _ _ hb5 ?_; with_reducible assumption) | (with_reducible refine STH.out _ _ (bnew _ _) ?_; with_reducible assumption) | with_reducible assumption)
        (first
          | (refine step_append_nv _ rfl _ _ 61 rfl wr.heap.size 2 i0 (.int .i64 0) 1 8 Try.underlying61 hi hz0 hz1 hz2 rfl (by decide) _ _ _ rfl O6 ⟨wr.heap.size, 0, none⟩ 1 1 [.int .i64 (a : Int)] rfl rfl (fun j u h => kc hb5 (cell_one_new _ _ _ j u h)) (one_cell_int _) (by unfold maxLen; omega) (by omega) T5.2.2.size ?_; intro v6 w6 hown6 hgrow6; have O7 : Owns w6 wr.heap.size v6 (nI (b ++ [a])) := (by unfold Owns; rw [nI_snoc, ints_snoc, List.length_append]; exact hown6); have T7 := MK.out w6 (T5.2.2.grown hgrow6 T5.2.2.size (fun j e => (O6.lt j e).1)))
          | (refine step_append_nv _ rfl _ _ 61 rfl wr.heap.size 2 i0 (.int .i64 0) 1 8 Try.underlying61 hi hz0 hz1 hz2 rfl (by decide) _ _ _ rfl (O6.alloc _) ⟨w5.heap.size, 0, none⟩ 1 1 [.int .i64 (a : Int)] rfl rfl (cell_one_new _ _ _) (one_cell_int _) (by unfold maxLen; omega) (by omega) (by have := T5.2.2.size; simp; omega) ?_; intro v6 w6 hown6 hgrow6; have O7 : Owns w6 wr.heap.size v6 (nI (b ++ [a])) := (by unfold Owns; rw [nI_snoc, ints_snoc, List.length_append]; exact hown6); have T7 := MK.out w6 ((T5.2.2.alloc T5.2.2.size _).grown hgrow6 (by have := T5.2.2.size; simp; omega) (fun j e => (O6.lt j e).1)))
          | (go_at_call 94; refine (OWN.out _ (by with_reducible assumption)).mono ?_; rintro e w5 ⟨s5, rfl, O5, hb5⟩; have T5 := STH.out _ _ hb5 (by with_reducible assumption); have O6 : World.ownsRow _ _ _ _ _ _ _ := O5)
          | (go_at_call 69; refine (MADE.out _ _ (by with_reducible assumption) O7).mono ?_; rintro e w8 ⟨rfl, hb5⟩; have T8 := STH.out _ _ hb5 (by with_reducible assumption)))
      all_goals
        have hN8 := bthen HNN.out T8.2.2
        have HE : Hid (bits .or .i64 (orL 0 (madeTo x P gs b d j) : Int) (orL 0 (madeL x P gs (b ++ [a]) d) : Int) = (orL 0 (madeTo x P gs b d (j + 1)) : Int)) := Lib.hid (by
          rw [bits_or_nat _ _ (Nat.lt_trans h0 (by decide)) (Nat.lt_trans h1 (by decide)), madeTo_succ _ _ _ _ _ _ _ HA.out, orL_append])
        clear T8 O7 O6 O5
        go_wp2
        go_roundw
        case rel => exact ⟨j + 1, by omega, by go_num, by rw [HE.out], hN8⟩
        case measure => simp [intOf]; omega
    · obtain rfl : j = gs.length := by omega
      have hB2 := bthen hB hN
      go_wp2
      go_ret
      exact ⟨by rw [HALL.out]; rfl, hB2⟩

/-- .. by however many. -/
theorem l06Made_any {k : Nat} {x R : Nat} (ok : FOk (k : Int) x R) (k4 : k ≤ 4) {P y Q : Nat} (okr : ROk (P : Int) y Q) (gs : List Nat) (gl : gs.length ≤ 16) (g16 : ∀ a, a ∈ gs → a < 16) (d : Nat) :
    ∀ (b : List Nat) (g c : Nat) (sl : Value) (w : World), b.length + d = k → (∀ a, a ∈ b → a ∈ gs) → Owns w 0 sl (nI gs) → RdL w g b →
      Calls Try.prog 69 #[.agg #[.int .i64 k, .int .i64 (x : Int)], .agg #[.int .i64 P, .int .i64 (y : Int)], sl, .slice (some ⟨g, 0, none⟩) b.length c] w fun e w' => e = .returned (.int .i64 (orL 0 (madeL x P gs b d) : Int)) ∧ Below w.heap.size w w' := by
  induction d with
  | zero => exact fun b g c sl w hb hbg _ hc => l06Made_zero ok k4 okr gs sl hb (fun a ha => g16 a (hbg a ha)) w hc
  | succ d ih => exact fun b g c sl w hb hbg ho hc => l06Made_succ ok k4 okr gs d gl ih b g c sl w hb hbg ho hc
end Go.Proofs.Ytlohldddioikaaa
