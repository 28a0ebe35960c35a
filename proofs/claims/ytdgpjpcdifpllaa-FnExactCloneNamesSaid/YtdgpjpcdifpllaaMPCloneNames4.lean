/-
  The texts CN44, CN45, LS1, LS2, LS4, LN1, FCloneNames in one.
-/
import Derived.Test.YtdgpjpcdifpllaaMPCloneNames3
import Derived.Lib.BufferMore
import Derived.Deep.QuietTactic
import Derived.Sort.Walk0
import Derived.OrdersHeld
import Derived.Laws.IdiomStrings

/- CN44:
  CloneNames of the model: the three loops. -/
namespace Go.Proofs.Ytdgpjpcdifpllaa
open Go.RowKit
set_option linter.unusedVariables false
set_option linter.unusedSimpArgs false
set_option pp.deepTerms true
set_option pp.maxSteps 100000

def outB (k : Nat) : List ByteArray := (outN k).map bB
/-- A list of texts in a block of its own. -/
def OutAt (W : World) (base : Nat) (v : Value) (xs : List ByteArray) : Prop := ∃ g c, v = .slice (some ⟨g, 0, none⟩) xs.length c ∧ OwnsS W base v xs
theorem pl_size : ∀ k, k < 38 → 0 < (bB (plL[k]?.getD [])).size := by decide +kernel
theorem first_is {l : List UInt8} (h : 0 < (bB l).size) {b : Bool} (hb : (((bB l)[0]'h).toNat == (83 : Int)) = b) : partsOfN l = if b then [l, l ++ [94, 50], l ++ [94, 51]] else [l] := by
  have hl : 0 < l.length := by simpa [bB, ByteArray.size] using h
  have e : (bB l)[0]'h = l[0]'hl := by simp [bB, ByteArray.getElem_eq_getElem_data]
  unfold partsOfN
  rw [List.getElem?_eq_getElem hl, Option.getD_some, ← hb, e]
  by_cases h8 : l[0]'hl = 83
  · rw [if_pos h8, h8]; rfl
  · rw [if_neg h8, if_neg]
    intro h9
    apply h8
    have h9 := beq_iff_eq.1 h9
    exact UInt8.toNat_inj.1 (by have : (83 : UInt8).toNat = 83 := rfl; omega)
theorem plB_at (j : Nat) : plB[j]?.getD ⟨#[]⟩ = bB (plL[j]?.getD []) := by
  unfold plB
  rw [List.getElem?_map]
  cases plL[j]? <;> rfl

theorem wp_normalN {P : Program} {c : Code} {Q : Exit → Act → World → Prop} {a : Act} {w : World} (h : Code.wp P c (fun e a w => e = .normal ∧ Q .normal a w) a w) : Code.wp P c Q a w := wp_mono h (by rintro e a w ⟨rfl, h⟩; exact h)
theorem step_append_nm {P : Program} (w : World) {ops : Array Oper} {o : Oper} {a : Act} {K : Act → World → Prop} {Q : Exit → Act → World → Prop} {E : Prop}
    (hg : o.guard = none) (s x : Operand) (t : TypeId) (hop : o.op = Op.call { callee := Callee.builtin Builtin.append, args := #[s, x], argTypes := #[t, t] })
    (base : Nat) (e : TypeId) (i : TypeInfo) (z : Value) (size bytes : Nat) (h1 : P.underlying t = some (.slice e)) (h2 : P.info? e = some i) (h3 : i.zero = some z) (h4 : i.size = size) (h5 : i.bytes = bytes) (h6 : z.cells.size = size) (h7 : 0 < size)
    (v : Value) (k : Nat) (xs : List Value) (hs : a.eval s = v) (hown : w.ownsRow base e size v k xs) (ad : Addr) (m c : Nat) (news : List Value) (hx : a.eval x = .slice (some ad) m c) (hn : news.length = m * size)
    (hc : ∀ j u, news[j]? = some u → w.cell? (ad.add j) = some u) (h1c : ∀ u ∈ news, u.oneCell' = true) (b1 : k + m ≤ maxLen) (b2 : (k + m) * bytes ≤ 140737488355328) (b3 : base ≤ w.heap.size)
    (hK : ∀ v' w', w'.ownsRow base e size v' (k + m) (xs ++ news) → w.grownBy w' v.ownBlock → K (a.put o.dst v') w') :
    if Region.wanted o (yielded ops a.tmps) = true then Oper.wp P o a w K Q else E := by
  rw [if_pos (by simp [Region.wanted, hg])]
  obtain ⟨v', w', hrun, r1, r2, _⟩ := run_append_own (P := P) w base t o.type e i z size bytes h1 h2 h3 h4 h5 h6 h7 v k xs hown ad m c news hn hc h1c b1 b2 b3
  unfold Oper.wp
  simp [execOp, hop, resolve, invoke, builtin, hs, hx, hrun, Result.andThen]
  exact hK _ _ r1 r2
theorem news_at {o : List (List UInt8)} {a q : Nat} {u : Value} (h : (strs ((o.drop a).map bB))[q]? = some u) : a + q < o.length ∧ u = .string (bB (o[a + q]?.getD [])) := by
  unfold strs at h
  rw [List.getElem?_map, List.getElem?_map, List.getElem?_drop] at h
  cases hx : o[a + q]? with
  | none => rw [hx] at h; cases h
  | some x =>
    rw [hx] at h
    simp at h
    exact ⟨(List.getElem?_eq_some_iff.1 hx).1, h.symm⟩
theorem news_at2 {o : List (List UInt8)} {a q : Nat} {u : Value} (h : (strs ((o.take a).map bB))[q]? = some u) : q < a ∧ q < o.length ∧ u = .string (bB (o[q]?.getD [])) := by
  unfold strs at h
  rw [List.getElem?_map, List.getElem?_map, List.getElem?_take] at h
  by_cases hq : q < a
  · rw [if_pos hq] at h
    cases hx : o[q]? with
    | none => rw [hx] at h; cases h
    | some x =>
      rw [hx] at h
      simp at h
      exact ⟨hq, (List.getElem?_eq_some_iff.1 hx).1, h.symm⟩
  · rw [if_neg hq] at h
    cases h
theorem OutAt.of {W : World} {base : Nat} {v : Value} {xs : List ByteArray} (h : OwnsS W base v xs) (hp : 0 < xs.length) : OutAt W base v xs := by
  obtain ⟨a, c, rfl, h2⟩ := h.form
  obtain ⟨g, rfl, _⟩ := h2 hp
  exact ⟨g, c, rfl, h⟩
theorem pl_len : ∀ k, k < 38 → (plL[k]?.getD []).length ≤ 3 := by decide +kernel
theorem add_bB (t : TypeId) (l r : List UInt8) (h : l.length + r.length ≤ 100) : binOp .add t (.string (bB l)) (.string (bB r)) = pure (.string (bB (l ++ r))) := by
  have e : ∀ x, (bB x).size = x.length := fun x => by simp [bB, ByteArray.size]
  have e2 : bB l ++ bB r = bB (l ++ r) := by
    apply ByteArray.ext
    simp [bB]
  simp only [binOp, Op.stringOp, e]
  have hm : IntKind.i64.max = 9223372036854775807 := by decide
  rw [if_neg (by rw [hm]; omega), e2]
theorem cell_two_nm (W : World) {N : Nat} (hN : N = W.heap.size) (a b : Value) (t : TypeId) : ∀ (j : Nat) (u : Value), [a, b][j]? = some u → (W.alloc (.cells #[a, b] t)).cell? ((⟨N, 0, none⟩ : Addr).add j) = some u := by
  subst hN
  intro j u h
  match j, h with
  | 0, h => simp at h; subst h; simp [go_sem, Addr.add]
  | 1, h => simp at h; subst h; simp [go_sem, Addr.add]
theorem gtr_bB (t : TypeId) (x y : List UInt8) {b : Bool} (h : decide (y < x) = b) : binOp .gtr t (.string (bB x)) (.string (bB y)) = pure (.bool b) := by
  subst h
  have e : ∀ l, (bB l).toList = l := fun l => by rw [Lib.toList_data]; simp [bB]
  simp only [binOp, Op.stringOp, e]
  rw [bytesLess_eq]
  congr 2
  by_cases h1 : x < y
  · simp [h1, List.lt_asymm h1]
  · by_cases h2 : x = y
    · subst h2; simp [List.lt_irrefl]
    · have h3 : y < x := by
        rcases List.le_iff_lt_or_eq.1 (List.not_lt.1 h1) with h | h
        · exact h
        · exact absurd h.symm h2
      simp [h1, h2, h3]

set_option maxRecDepth 100000 in
set_option maxHeartbeats 8000000 in
theorem l08Names_any (w : World) : Calls Try.prog 124 #[] w fun e w' => ∃ v, e = .returned v ∧ OwnsS w' w.heap.size v (outB 38) ∧ Below w.heap.size w w' := by
  have hmx : Try.prog.follows .mixedOrders = true := by kernel_rfl
  obtain ⟨i0, hi, hz0, hz1, hz2⟩ := info_parts infoStr
  go_enter Try.func124, Try.ntmps124
  go_wp2_with (go_at_call 171; refine (l08Plain_any _).mono ?_; rintro e w1 ⟨rfl, hpl, hb1⟩)
  have HPL : Hid (∀ j, j < 38 → w1.cell? ⟨w.heap.size, j, none⟩ = some (.string (plB[j]?.getD ⟨#[]⟩))) := Lib.hid fun j hj => by
    obtain ⟨a, c, e, h⟩ := hpl.form
    obtain ⟨g, e2, _, h3⟩ := h (by rw [plB_len]; decide)
    simp only [Value.slice.injEq] at e
    rw [← e.1] at e2
    cases e2
    have hj2 : j < plB.length := by rw [plB_len]; exact hj
    rw [h3 j hj2, List.getElem?_eq_getElem hj2]
    rfl
  have hs1 : w.heap.size < w1.heap.size := by
    have := (World.ownsRow.lt hpl w.heap.size rfl).2
    exact this
  clear hpl
  have hB2 : Below w.heap.size w (w1.alloc (.cells #[] 9)) := balloc hb1 _
  have HO : OutAt (w1.alloc (.cells #[] 9)) (w.heap.size + 1) (.slice (some ⟨w1.heap.size, 0, none⟩) 0 0) [] := ⟨_, _, rfl, World.ownsRow_lit w1 #[] 0 (by omega) (by decide) rfl⟩
  go_loopw [2, 3] (fun v' i' wr => ∃ k : Nat, k ≤ 38 ∧ i' = .int .i64 k ∧ OutAt wr (w.heap.size + 1) v' (outB k) ∧ Hid (∀ j, j < 38 → wr.cell? ⟨w.heap.size, j, none⟩ = some (.string (plB[j]?.getD ⟨#[]⟩))) ∧ Below w.heap.size w wr) (fun _ i' _ => 38 - (intOf i').toNat)
  case atStart => exact ⟨0, by omega, rfl, HO, Lib.hid fun j hj => kc (bnew _ _) (HPL.out j hj), hB2⟩
  case round =>
    clear HPL HO hB2 hb1
    obtain ⟨k, hk, rfl, ⟨g, c, rfl, hO⟩, HPL, hN⟩ := hrel
    by_cases hlt : k < 38
    · have c0 := HPL.out k hlt
      have hki : (k : Int) < 38 := by omega
      have HO := Lib.hid hO
      have hol : (outB k).length ≤ 54 := by unfold outB; rw [List.length_map]; exact outN_len k (by omega)
      clear hO
      rw [plB_at] at c0
      have hs0 := pl_size k hlt
      have hsl3 := pl_len k hlt
      have FI := Lib.hid (fun b => first_is (b := b) hs0)
      have HSB := Lib.hid (plB_at k)
      generalize hsl : plL[k]?.getD [] = sl at c0 hs0 hsl3 FI HSB
      generalize hse : bB sl = s at c0 hs0 FI HSB
      generalize hLL : (outB k).length = L at hol
      have HL := Lib.hid hLL
      clear hLL
      obtain ⟨W2, hW2⟩ : ∃ W2, wr.alloc (.cells #[.string s] 9) = W2 := ⟨_, rfl⟩
      have hb2 : Below wr.heap.size wr W2 := by rw [← hW2]; exact bnew _ _
      have d0 := kc hb2 c0
      have O4 : Hid (OwnsS W2 wr.heap.size (.slice (some ⟨wr.heap.size, 0, none⟩) 1 1) [s]) := Lib.hid (by rw [← hW2]; exact World.ownsRow_lit wr #[.string s] 1 (Nat.le_refl _) (by decide) rfl)
      have HO2 := Lib.hid ((HO.out).below hb2)
      have HP2 : Hid (∀ j, j < 38 → W2.cell? ⟨w.heap.size, j, none⟩ = some (.string (plB[j]?.getD ⟨#[]⟩))) := Lib.hid fun j hj => kc hb2 (HPL.out j hj)
      have hN2 := bthen hN hb2
      cases hb8 : ((s[0]'hs0).toNat == (83 : Int))
      go_wp2_with fail
      clear hW2
      have hps := FI.out false hb8
      simp only [Bool.false_eq_true, if_false] at hps
      obtain ⟨psN, hpn⟩ : ∃ psN, partsOfN sl = psN := ⟨_, rfl⟩
      have HPN : Hid (psN = [sl]) := Lib.hid (hpn ▸ hps)
      have HPS := Lib.hid hpn
      have hgw : w.heap.size < wr.heap.size := cell_lt c0
      generalize wr.heap.size = g4 at O4 hgw ⊢
      generalize hsv : Value.slice (some ⟨g4, 0, none⟩) 1 1 = sv
      obtain ⟨np, cp, rfl, hnp, hnp3, O5⟩ : ∃ np cp, sv = .slice (some ⟨g4, 0, none⟩) np cp ∧ psN.length = np ∧ np ≤ 3 ∧ Hid (OwnsS W2 (w.heap.size + 1) (.slice (some ⟨g4, 0, none⟩) np cp) (psN.map bB)) :=
        ⟨1, 1, hsv.symm, by rw [HPN.out]; rfl, by omega, Lib.hid (by rw [HPN.out]; show OwnsS _ _ _ [bB sl]; rw [hse]; exact OwnsS.mono O4.out (by omega))⟩
      clear hsv
      obtain ⟨W5, hW5⟩ : ∃ W5, W2 = W5 := ⟨_, rfl⟩
      subst hW5
      have HO5 : Hid (OutAt W2 (w.heap.size + 1) (.slice (some ⟨g, 0, none⟩) L c) ((insAll (outN k) (psN.take 0)).map bB)) := Lib.hid ⟨g, c, by rw [show ((insAll (outN k) (psN.take 0)).map bB).length = L from HL.out], by show OwnsS _ _ (.slice _ L c) (outB k); rw [← HL.out]; exact HO2.out⟩
      clear O4 HPN hps hpn
      rotate_left
      have hps := FI.out true hb8
      simp only [if_true] at hps
      obtain ⟨psN, hpn⟩ : ∃ psN, partsOfN sl = psN := ⟨_, rfl⟩
      have HPN : Hid (psN = [sl, sl ++ [94, 50], sl ++ [94, 51]]) := Lib.hid (hpn ▸ hps)
      have HPS := Lib.hid hpn
      have HSE := Lib.hid hse
      have ha2 : binOp .add 9 (.string s) (.string ⟨#[94, 50]⟩) = pure (.string (bB (sl ++ [94, 50]))) := hse ▸ add_bB 9 sl [94, 50] (by simp; omega)
      have ha3 : binOp .add 9 (.string s) (.string ⟨#[94, 51]⟩) = pure (.string (bB (sl ++ [94, 51]))) := hse ▸ add_bB 9 sl [94, 51] (by simp; omega)
      clear hse hps hpn
      go_wp2_with fail
      clear hW2
      refine wp_normalN ?_
      refine wp_region_held (S := fun Wx => Wx.cell? ⟨w.heap.size, k, none⟩ = some (.string s)) hmx ?_
      have hHeld : W2.drew.cell? ⟨w.heap.size, k, none⟩ = some (.string s) := kc (Below.refl _ _).drew d0
      change wpAnyH _ _ _ _ _ _ _ _ (World.drew _)
      refine wpAnyH_take (i := 0) (v := ?_) rfl (by kernel_rfl) (by kernel_rfl) (by kernel_rfl) (fun _ _ _ h => (by cases h.1)) (Or.inl ⟨by rfl, by intro w hSw; (try dsimp only at hSw); go_simp; try (with_reducible rfl)⟩) (by assumption) ?_
      try simp only [Act.put, List.setIfInBounds_toArray, List.set_cons_zero, List.set_cons_succ, List.getElem_toArray, List.getElem_cons_zero, List.getElem_cons_succ]
      refine wpAnyH_take (i := 1) (v := ?_) rfl (by kernel_rfl) (by kernel_rfl) (by kernel_rfl) (fun _ _ _ h => (by cases h.1)) (Or.inl ⟨by rfl, by intro w hSw; (try dsimp only at hSw); go_simp; try (with_reducible rfl)⟩) (by assumption) ?_
      try simp only [Act.put, List.setIfInBounds_toArray, List.set_cons_zero, List.set_cons_succ, List.getElem_toArray, List.getElem_cons_zero, List.getElem_cons_succ]
      refine wpAnyH_take (i := 2) (v := ?_) rfl (by kernel_rfl) (by kernel_rfl) (by kernel_rfl) (fun _ _ _ h => (by cases h.1)) (Or.inl ⟨by rfl, by intro w hSw; (try dsimp only at hSw); go_simp; try (with_reducible rfl)⟩) (by assumption) ?_
      try simp only [Act.put, List.setIfInBounds_toArray, List.set_cons_zero, List.set_cons_succ, List.getElem_toArray, List.getElem_cons_zero, List.getElem_cons_succ]
      refine wpAnyH_take (i := 3) (v := ?_) rfl (by kernel_rfl) (by kernel_rfl) (by kernel_rfl) (fun _ _ _ h => (by cases h.1)) (Or.inl ⟨by rfl, by intro w hSw; (try dsimp only at hSw); go_simp; try (with_reducible rfl)⟩) (by assumption) ?_
      try simp only [Act.put, List.setIfInBounds_toArray, List.set_cons_zero, List.set_cons_succ, List.getElem_toArray, List.getElem_cons_zero, List.getElem_cons_succ]
      refine wpAnyH_take (i := 4) (v := ?_) rfl (by kernel_rfl) (by kernel_rfl) (by kernel_rfl) (fun _ _ _ h => (by cases h.1)) (Or.inl ⟨by rfl, by intro w hSw; (try dsimp only at hSw); go_simp; try (with_reducible rfl)⟩) (by assumption) ?_
      try simp only [Act.put, List.setIfInBounds_toArray, List.set_cons_zero, List.set_cons_succ, List.getElem_toArray, List.getElem_cons_zero, List.getElem_cons_succ]
      refine wpAnyH_take (i := 5) (v := ?_) rfl (by kernel_rfl) (by kernel_rfl) (by kernel_rfl) (fun _ _ _ h => (by cases h.1)) (Or.inl ⟨by rfl, by intro w hSw; (try dsimp only at hSw); go_simp; try (with_reducible rfl)⟩) (by assumption) ?_
      try simp only [Act.put, List.setIfInBounds_toArray, List.set_cons_zero, List.set_cons_succ, List.getElem_toArray, List.getElem_cons_zero, List.getElem_cons_succ]
      refine wpAnyH_take (i := 6) (v := ?_) rfl (by kernel_rfl) (by kernel_rfl) (by kernel_rfl) (fun _ _ _ h => (by cases h.1)) (Or.inl ⟨by rfl, by intro w hSw; (try dsimp only at hSw); go_simp; try (with_reducible rfl)⟩) (by assumption) ?_
      try simp only [Act.put, List.setIfInBounds_toArray, List.set_cons_zero, List.set_cons_succ, List.getElem_toArray, List.getElem_cons_zero, List.getElem_cons_succ]
      refine wpAnyH_take (i := 7) (v := ?_) rfl (by kernel_rfl) (by kernel_rfl) (by kernel_rfl) (fun _ _ _ h => (by cases h.1)) (Or.inl ⟨by rfl, by intro w hSw; (try dsimp only at hSw); go_simp; try (with_reducible rfl)⟩) (by assumption) ?_
      try simp only [Act.put, List.setIfInBounds_toArray, List.set_cons_zero, List.set_cons_succ, List.getElem_toArray, List.getElem_cons_zero, List.getElem_cons_succ]
      refine wpAnyH_take (i := 8) (v := ?_) rfl (by kernel_rfl) (by kernel_rfl) (by kernel_rfl) (fun _ _ _ h => (by cases h.1)) (Or.inl ⟨by rfl, by intro w hSw; (try dsimp only at hSw); go_simp; try (with_reducible rfl)⟩) (by assumption) ?_
      try simp only [Act.put, List.setIfInBounds_toArray, List.set_cons_zero, List.set_cons_succ, List.getElem_toArray, List.getElem_cons_zero, List.getElem_cons_succ]
      refine wpAnyH_take (i := 9) (v := ?_) rfl (by kernel_rfl) (by kernel_rfl) (by kernel_rfl) (fun _ _ _ h => (by cases h.1)) (Or.inl ⟨by rfl, by intro w hSw; (try dsimp only at hSw); go_simp; try (with_reducible rfl)⟩) (by assumption) ?_
      try simp only [Act.put, List.setIfInBounds_toArray, List.set_cons_zero, List.set_cons_succ, List.getElem_toArray, List.getElem_cons_zero, List.getElem_cons_succ]
      refine wpAnyH_take (i := 10) (v := ?_) rfl (by kernel_rfl) (by kernel_rfl) (by kernel_rfl) (fun _ _ _ h => (by cases h.1)) (Or.inl ⟨by rfl, by intro w hSw; (try dsimp only at hSw); go_simp; try (with_reducible rfl)⟩) (by assumption) ?_
      try simp only [Act.put, List.setIfInBounds_toArray, List.set_cons_zero, List.set_cons_succ, List.getElem_toArray, List.getElem_cons_zero, List.getElem_cons_succ]
      refine wpAnyH_ready (rs := [11]) (by kernel_rfl) (by simp) ?_
      refine AllReadyH.cons rfl (fun K hK => ?_) AllReadyH.nil
      go_simp
      have hb6 := balloc (Below.refl W2.heap.size W2).drew (.cells #[.string (bB (sl ++ [94, 50])), .string (bB (sl ++ [94, 51]))] 9)
      refine hK _ _ (kc hb6 d0) (fun hHeld => ?_)
      clear hK K
      try simp only [Act.put, List.setIfInBounds_toArray, List.set_cons_zero, List.set_cons_succ, List.getElem_toArray, List.getElem_cons_zero, List.getElem_cons_succ]
      refine wpAnyH_ready (rs := [12]) (by kernel_rfl) (by simp) ?_
      refine AllReadyH.cons rfl (fun K hK => ?_) AllReadyH.nil
      refine step_append_nm _ rfl _ _ 87 rfl wr.heap.size 9 i0 (.string ⟨#[]⟩) 1 16 Try.underlying87 hi hz0 hz1 hz2 rfl (by decide) _ _ _ rfl (show World.ownsRow _ wr.heap.size 9 1 (.slice (some ⟨wr.heap.size, 0, none⟩) 1 1) 1 [.string s] from OwnsS.below O4.out hb6) ⟨W2.heap.size, 0, none⟩ 2 2 [.string (bB (sl ++ [94, 50])), .string (bB (sl ++ [94, 51]))] rfl rfl (cell_two_nm W2.drew rfl _ _ _) (by intro u hu; simp at hu; rcases hu with rfl | rfl <;> rfl) (by unfold maxLen; omega) (by omega) (bthen hb2 hb6).size ?_
      intro v' w6 hown' hgrow
      have hb7 := (bthen hb2 hb6).grown hgrow (bthen hb2 hb6).size (fun b e => Nat.le_of_eq (Option.some.inj e))
      refine hK _ _ (kc hb7 c0) (fun hHeld => ?_)
      clear hK K
      have hO7 : OwnsS w6 wr.heap.size v' (psN.map bB) := by
        rw [HPN.out]
        show World.ownsRow _ _ _ _ _ 3 [.string (bB sl), .string (bB (sl ++ [94, 50])), .string (bB (sl ++ [94, 51]))]
        rw [HSE.out]
        exact hown'
      obtain ⟨a4, cp, rfl, h4⟩ := hO7.form
      have hpl3 : psN.length = 3 := by rw [HPN.out]; rfl
      obtain ⟨g4, rfl, h4l, _⟩ := h4 (by rw [List.length_map]; omega)
      obtain ⟨np, hnpe⟩ : ∃ np, (psN.map bB).length = np := ⟨_, rfl⟩
      rw [hnpe] at hO7 ⊢
      have hnp : psN.length = np := by rw [← hnpe, List.length_map]
      have hnp3 : np ≤ 3 := by omega
      have hgw : w.heap.size < g4 := by
        have h0 : w.heap.size < wr.heap.size := cell_lt c0
        have := (World.ownsRow.lt hO7 g4 rfl).1
        omega
      have O5 := Lib.hid (OwnsS.mono (b2 := w.heap.size + 1) hO7 (by have h0 : w.heap.size < wr.heap.size := cell_lt c0; omega))
      have hO8 := HO.out.below hb7
      have HO5 : Hid (OutAt w6 (w.heap.size + 1) (.slice (some ⟨g, 0, none⟩) L c) ((insAll (outN k) (psN.take 0)).map bB)) := Lib.hid ⟨g, c, by rw [show ((insAll (outN k) (psN.take 0)).map bB).length = L from HL.out], by show OwnsS _ _ (.slice _ L c) (outB k); rw [← HL.out]; exact hO8⟩
      have HP3 : Hid (∀ j, j < 38 → w6.cell? ⟨w.heap.size, j, none⟩ = some (.string (plB[j]?.getD ⟨#[]⟩))) := Lib.hid fun j hj => kc hb7 (HPL.out j hj)
      have hN3 := bthen hN hb7
      clear HP2 hN2 O4 HPN hpl3 hnpe hO7 hO8 h4 h4l hown' hgrow hb6 hb7 ha2 ha3
      have HP2 := HP3
      have hN2 := hN3
      clear HP3 hN3
      refine wpAnyH_take (i := 13) (v := ?_) rfl (by kernel_rfl) (by kernel_rfl) (by kernel_rfl) (fun _ _ _ h => (by cases h.1)) (Or.inl ⟨by rfl, by intro w hSw; (try dsimp only at hSw); go_simp; try (with_reducible rfl)⟩) (by assumption) ?_
      try simp only [Act.put, List.setIfInBounds_toArray, List.set_cons_zero, List.set_cons_succ, List.getElem_toArray, List.getElem_cons_zero, List.getElem_cons_succ]
      refine wpAnyH_done (by kernel_rfl) ⟨rfl, ?_⟩ _
      clear hHeld
      go_wp2
      rotate_left
      all_goals
        have hlen0 : (outN k).length + np ≤ 60 := by have := HL.out; unfold outB at this; rw [List.length_map] at this; omega
        go_loopw [2, 5] (fun v' i' wr2 => ∃ j : Nat, j ≤ np ∧ i' = .int .i64 j ∧ OutAt wr2 (w.heap.size + 1) v' ((insAll (outN k) (psN.take j)).map bB) ∧ Hid (OwnsS wr2 (w.heap.size + 1) (.slice (some ⟨g4, 0, none⟩) np cp) (psN.map bB)) ∧ Hid (∀ j, j < 38 → wr2.cell? ⟨w.heap.size, j, none⟩ = some (.string (plB[j]?.getD ⟨#[]⟩))) ∧ Below w.heap.size w wr2) (fun _ i' _ => np - (intOf i').toNat)
        case atStart => exact ⟨0, by omega, rfl, HO5.out, O5, HP2, hN2⟩
        case round =>
          clear HO5 O5 HP2 hN2 HO2 hb2 d0
          obtain ⟨j, hj, rfl, ⟨g2, c2, rfl, hO⟩, O4, HP, hN⟩ := hrel
          by_cases hjl : j < np
          · have HO := Lib.hid hO
            have hjp : j < psN.length := by omega
            have h4c : (wr.cell? ⟨g4, j, none⟩) = some (.string (bB (psN[j]?.getD []))) := by
              obtain ⟨_, _, e, h⟩ := (O4.out).form
              obtain ⟨_, e2, _, h3⟩ := h (by rw [List.length_map]; omega)
              simp only [Value.slice.injEq] at e
              rw [← e.1] at e2
              cases e2
              rw [h3 j (by rw [List.length_map]; exact hjp), List.getElem_map, List.getElem?_eq_getElem hjp]
              rfl
            have hlo := insAll_len (outN k) (psN.take j)
            have hlt1 : (psN.take j).length ≤ j := by rw [List.length_take]; omega
            generalize hoo : insAll (outN k) (psN.take j) = o at HO hlo
            generalize hsj : psN[j]?.getD [] = sj at h4c
            have hlm : (o.map bB).length = o.length := List.length_map ..
            have HOC : Hid (∀ q, q < o.length → wr.cell? ⟨g2, q, none⟩ = some (.string (bB (o[q]?.getD [])))) := Lib.hid fun q hq => by
              obtain ⟨_, _, e, h⟩ := (HO.out).form
              obtain ⟨_, e2, _, h3⟩ := h (by omega)
              simp only [Value.slice.injEq] at e
              rw [← e.1] at e2
              cases e2
              rw [h3 q (by omega), List.getElem_map, List.getElem?_eq_getElem hq]
              rfl
            try rw [hoo]
            try rw [hlm]
            have HOO := Lib.hid hoo
            clear hoo hlm
            have hL60 : o.length ≤ 60 := by omega
            clear hlo
            generalize hL2 : o.length = L2 at HOC hL60
            have HL2 := Lib.hid hL2
            clear hL2
            go_wp2_with fail
            go_loopw [6] (fun i' wr3 => ∃ a : Nat, a ≤ L2 ∧ i' = .int .i64 a ∧ posN o sj L2 = posN o sj a ∧ Below wr.heap.size wr wr3) (fun i' _ => (intOf i').toNat)
            case atStart => exact ⟨L2, by omega, rfl, rfl, Below.refl _ _⟩
            case round =>
              obtain ⟨a, ha, rfl, hpos, hN3⟩ := hrel
              have h4d := kc hN3 h4c
              have hj0 : (0 : Int) ≤ (j : Int) := by omega
              have hj1 : (j : Int) < (np : Int) := by omega
              have hc : (a = 0) ∨ (∃ b, a = b + 1 ∧ ¬ sj < o[b]?.getD []) ∨ (∃ b, a = b + 1 ∧ sj < o[b]?.getD []) := by
                rcases a with _ | b
                · exact Or.inl rfl
                · by_cases h : sj < o[b]?.getD []
                  · exact Or.inr (Or.inr ⟨b, rfl, h⟩)
                  · exact Or.inr (Or.inl ⟨b, rfl, h⟩)
              rcases hc with h0 | ⟨b, hb, hlt⟩ | ⟨b, hb, hlt⟩
              rotate_left 2
              · have hoc := kc hN3 (HOC.out b (by omega))
                have hwc : IntKind.i64.wrap ((a : Int) - 1) = (b : Int) := by rw [wrap64_small (by omega) (by omega)]; omega
                have hap : decide ((0 : Int) < (a : Int)) = true := by rw [decide_eq_true_eq]; omega
                have hai : (b : Int) < (L2 : Int) := by omega
                have ha0 : (0 : Int) ≤ (b : Int) := by omega
                have hap2 : (0 : Int) < (a : Int) := by omega
                have hgt := gtr_bB 9 (o[b]?.getD []) sj (b := true) (by simpa using hlt)
                go_wp2
                go_quiet (fail)
                go_wp2
                go_roundw
                case rel => exact ⟨b, by omega, rfl, by rw [hpos, hb, posN, if_pos hlt], below_drewN hN3 _⟩
                case measure => simp [intOf]; omega
              have hap2 : ¬ (0 : Int) < (a : Int) := by omega
              have hpa : posN o sj L2 = a := by rw [hpos, h0]; rfl
              have H0 := Lib.hid h0
              have hap : decide ((0 : Int) < (a : Int)) = false := by rw [decide_eq_false_iff_not]; exact hap2
              have hap3 : ((0 : Int) < (a : Int)) = False := eq_false hap2
              have hap4 : (0 < a) = False := eq_false (by omega)
              clear h0
              go_wp2
              go_quiet (fail)
              clear H0 hap2 hap hap3 hap4
              rotate_left
              have hoc := kc hN3 (HOC.out b (by omega))
              have hwc : IntKind.i64.wrap ((a : Int) - 1) = (b : Int) := by rw [wrap64_small (by omega) (by omega)]; omega
              have hap : decide ((0 : Int) < (a : Int)) = true := by rw [decide_eq_true_eq]; omega
              have hai : (b : Int) < (L2 : Int) := by omega
              have ha0 : (0 : Int) ≤ (b : Int) := by omega
              have hap2 : (0 : Int) < (a : Int) := by omega
              have hgt := gtr_bB 9 (o[b]?.getD []) sj (b := false) (by simpa using hlt)
              go_wp2
              go_quiet (fail)
              have hpa : posN o sj L2 = a := by rw [hpos, hb, posN, if_neg hlt]
              clear hoc hwc hap hai ha0 hap2 hgt hlt hb
              go_wp2
              rotate_left
              all_goals
                have hb14 : Below wr.heap.size wr (wr.drewN nq) := below_drewN (Below.refl _ _) _
                have HO14 := Lib.hid (HO.out.below (bthen hN3 hb14))
                have O14 := Lib.hid (OwnsS.below O4.out (bthen hN3 hb14))
                have HP14 : Hid (∀ j, j < 38 → (wr.drewN nq).cell? ⟨w.heap.size, j, none⟩ = some (.string (plB[j]?.getD ⟨#[]⟩))) := Lib.hid fun j hj => kc (bthen hN3 hb14) (HP.out j hj)
                have hN14 := bthen hN (bthen hN3 hb14)
                have h4e := kc hb14 h4d
                obtain ⟨hlcc, _⟩ : L2 ≤ c2 ∧ True := by
                  have hm : (o.map bB).length = L2 := by rw [List.length_map, HL2.out]
                  rcases (HO.out).2 with ⟨e, _⟩ | ⟨_, cap, cur, e, _, _, h, _⟩
                  · cases e
                  · simp only [Value.slice.injEq] at e
                    rw [hm] at h
                    exact ⟨by have := e.2.2; omega, trivial⟩
                have k1 : (a : Int) ≤ (L2 : Int) := by omega
                have k2 : (L2 : Int) ≤ (c2 : Int) := by omega
                have k3 : (0 : Int) ≤ (a : Int) := by omega
                obtain ⟨ad, had, had2⟩ : ∃ ad : Addr, (if c2 = a then some (⟨g2, 0, none⟩ : Addr) else some ⟨g2, a, none⟩) = some ad ∧ (c2 = a ∨ ad = ⟨g2, a, none⟩) := by
                  by_cases h : c2 = a
                  · exact ⟨_, if_pos h, Or.inl h⟩
                  · exact ⟨_, if_neg h, Or.inr rfl⟩
                have HAD2 := Lib.hid had2
                clear had2
                refine wp_normalN ?_
                refine wp_region_held (S := fun Wx => Wx.cell? ⟨g4, j, none⟩ = some (.string (bB sj))) hmx ?_
                have hHeld : (wr.drewN nq).drew.cell? ⟨g4, j, none⟩ = some (.string (bB sj)) := kc (Below.refl _ _).drew h4e
                change wpAnyH _ _ _ _ _ _ _ _ (World.drew _)
                refine wpAnyH_take (i := 0) (v := ?_) rfl (by kernel_rfl) (by kernel_rfl) (by kernel_rfl) (fun _ _ _ h => (by cases h.1)) (Or.inl ⟨by rfl, by intro w hSw; (try dsimp only at hSw); go_simp; try (with_reducible rfl)⟩) (by assumption) ?_
                try simp only [Act.put, List.setIfInBounds_toArray, List.set_cons_zero, List.set_cons_succ, List.getElem_toArray, List.getElem_cons_zero, List.getElem_cons_succ]
                refine wpAnyH_take (i := 1) (v := ?_) rfl (by kernel_rfl) (by kernel_rfl) (by kernel_rfl) (fun _ _ _ h => (by cases h.1)) (Or.inl ⟨by rfl, by intro w hSw; (try dsimp only at hSw); go_simp; try (with_reducible rfl)⟩) (by assumption) ?_
                try simp only [Act.put, List.setIfInBounds_toArray, List.set_cons_zero, List.set_cons_succ, List.getElem_toArray, List.getElem_cons_zero, List.getElem_cons_succ]
                refine wpAnyH_take (i := 2) (v := ?_) rfl (by kernel_rfl) (by kernel_rfl) (by kernel_rfl) (fun _ _ _ h => (by cases h.1)) (Or.inl ⟨by rfl, by intro w hSw; (try dsimp only at hSw); go_simp; try (with_reducible rfl)⟩) (by assumption) ?_
                try simp only [Act.put, List.setIfInBounds_toArray, List.set_cons_zero, List.set_cons_succ, List.getElem_toArray, List.getElem_cons_zero, List.getElem_cons_succ]
                refine wpAnyH_take (i := 3) (v := ?_) rfl (by kernel_rfl) (by kernel_rfl) (by kernel_rfl) (fun _ _ _ h => (by cases h.1)) (Or.inl ⟨by rfl, by intro w hSw; (try dsimp only at hSw); go_simp; try (with_reducible rfl)⟩) (by assumption) ?_
                try simp only [Act.put, List.setIfInBounds_toArray, List.set_cons_zero, List.set_cons_succ, List.getElem_toArray, List.getElem_cons_zero, List.getElem_cons_succ]
                refine wpAnyH_take (i := 5) (v := ?_) rfl (by kernel_rfl) (by kernel_rfl) (by kernel_rfl) (fun _ _ _ h => (by cases h.1)) (Or.inl ⟨by rfl, by intro w hSw; (try dsimp only at hSw); go_simp; try (with_reducible rfl)⟩) (by assumption) ?_
                try simp only [Act.put, List.setIfInBounds_toArray, List.set_cons_zero, List.set_cons_succ, List.getElem_toArray, List.getElem_cons_zero, List.getElem_cons_succ]
                refine wpAnyH_take (i := 6) (v := ?_) rfl (by kernel_rfl) (by kernel_rfl) (by kernel_rfl) (fun _ _ _ h => (by cases h.1)) (Or.inl ⟨by rfl, by intro w hSw; (try dsimp only at hSw); go_simp; try (with_reducible rfl)⟩) (by assumption) ?_
                try simp only [Act.put, List.setIfInBounds_toArray, List.set_cons_zero, List.set_cons_succ, List.getElem_toArray, List.getElem_cons_zero, List.getElem_cons_succ]
                refine wpAnyH_take (i := 7) (v := ?_) rfl (by kernel_rfl) (by kernel_rfl) (by kernel_rfl) (fun _ _ _ h => (by cases h.1)) (Or.inl ⟨by rfl, by intro w hSw; (try dsimp only at hSw); go_simp; try (with_reducible rfl)⟩) (by assumption) ?_
                try simp only [Act.put, List.setIfInBounds_toArray, List.set_cons_zero, List.set_cons_succ, List.getElem_toArray, List.getElem_cons_zero, List.getElem_cons_succ]
                try rw [had]
                clear had
                refine wpAnyH_ready (rs := [4]) (by kernel_rfl) (by simp) ?_
                refine AllReadyH.cons rfl (fun K hK => ?_) AllReadyH.nil
                go_simp
                have hb15 := balloc (below_drewN (Below.refl wr.heap.size wr) (nq + 1)) (.cells #[.string (bB sj)] 9)
                have hLit : World.ownsRow _ wr.heap.size 9 1 (.slice (some ⟨wr.heap.size, 0, none⟩) 1 1) 1 [.string (bB sj)] := World.ownsRow_lit (wr.drewN (nq + 1)) #[.string (bB sj)] 1 (Nat.le_refl _) (by decide) rfl
                refine hK _ _ (kc hb15 h4d) (fun hHeld => ?_)
                clear hK K
                try simp only [Act.put, List.setIfInBounds_toArray, List.set_cons_zero, List.set_cons_succ, List.getElem_toArray, List.getElem_cons_zero, List.getElem_cons_succ]
                refine wpAnyH_ready (rs := [8]) (by kernel_rfl) (by simp) ?_
                refine AllReadyH.cons rfl (fun K hK => ?_) AllReadyH.nil
                refine step_append_nm _ rfl _ _ 87 rfl wr.heap.size 9 i0 (.string ⟨#[]⟩) 1 16 Try.underlying87 hi hz0 hz1 hz2 rfl (by decide) _ _ _ rfl hLit ad (L2 - a) (c2 - a) (strs ((o.drop a).map bB)) rfl (by simp [strs, HL2.out]) (fun q u hu => ?_) (fun u hu => by obtain ⟨x, _, rfl⟩ := List.mem_map.1 hu; rfl) (by unfold maxLen; omega) (by omega) (by simp) ?_
                · obtain ⟨hq1, rfl⟩ := news_at hu
                  obtain rfl : ad = ⟨g2, a, none⟩ := by
                    rcases HAD2.out with h | h
                    · exfalso; have := HL2.out; omega
                    · exact h
                  have ea : (⟨g2, a, none⟩ : Addr).add q = ⟨g2, a + q, none⟩ := by simp [Addr.add]
                  rw [ea]
                  exact kc hb15 (kc hN3 (HOC.out (a + q) (by have := HL2.out; omega)))
                intro v' w16 hown' hgrow
                have hb16 := hb15.grown hgrow (by simp) (fun b e => Nat.le_of_eq (Option.some.inj e))
                have O16 : OwnsS w16 wr.heap.size v' ((sj :: o.drop a).map bB) := by
                  have e : ((sj :: o.drop a).map bB).length = 1 + (L2 - a) := by have := HL2.out; simp; omega
                  unfold OwnsS
                  rw [e]
                  exact hown'
                refine hK _ _ (kc hb16 h4d) (fun hHeld => ?_)
                clear hK K hgrow hown' hLit hb15
                refine wpAnyH_take (i := 9) (v := ?_) rfl (by kernel_rfl) (by kernel_rfl) (by kernel_rfl) (fun _ _ _ h => (by cases h.1)) (Or.inl ⟨by rfl, by intro w hSw; (try dsimp only at hSw); go_simp; try (with_reducible rfl)⟩) (by assumption) ?_
                try simp only [Act.put, List.setIfInBounds_toArray, List.set_cons_zero, List.set_cons_succ, List.getElem_toArray, List.getElem_cons_zero, List.getElem_cons_succ]
                refine wpAnyH_done (by kernel_rfl) ⟨rfl, ?_⟩ _
                have HBB := bthen hN3 hb16
                have hg416 : g4 < w16.heap.size := cell_lt (kc hb16 h4d)
                have HO16 := Lib.hid (OwnsS.below HO.out HBB)
                have O4b := Lib.hid (OwnsS.below O4.out HBB)
                have HPb : Hid (∀ j, j < 38 → w16.cell? ⟨w.heap.size, j, none⟩ = some (.string (plB[j]?.getD ⟨#[]⟩))) := Lib.hid fun j hj => kc HBB (HP.out j hj)
                have hNb := bthen hN HBB
                have HOCb : Hid (∀ q, q < L2 → w16.cell? ⟨g2, q, none⟩ = some (.string (bB (o[q]?.getD [])))) := Lib.hid fun q hq => kc HBB (HOC.out q hq)
                obtain ⟨a7, c7, rfl, h7⟩ := O16.form
                obtain ⟨g7, rfl, h7l, h7c⟩ := h7 (by simp)
                have hR2 : ((sj :: o.drop a).map bB).length = 1 + (L2 - a) := by have := HL2.out; simp; omega
                generalize hR3 : ((sj :: o.drop a).map bB).length = R2 at hR2 ⊢
                have HR3 := Lib.hid hR3
                have HR2 := Lib.hid hR2
                clear hR2
                have H7 : Hid (∀ q, q < R2 → w16.cell? ⟨g7, q, none⟩ = some (.string (((sj :: o.drop a).map bB)[q]?.getD ⟨#[]⟩))) := Lib.hid fun q hq => by
                  rw [h7c q (by omega), List.getElem?_eq_getElem (by omega)]
                  rfl
                clear HO HP HOC O4 hN hN3 hb16 O16 h7 h7c hR3 HBB HO14 O14 HP14 hN14 h4e h4c h4d hHeld hO hb14
                have hLit : World.ownsRow _ w16.heap.size 9 1 (.slice (some ⟨w16.heap.size, 0, none⟩) 0 0) 0 [] := World.ownsRow_lit w16 #[] 0 (Nat.le_refl _) (by decide) rfl (e := 9)
                have hb17 := bnew w16 (.cells #[] 9)
                go_wp2_with (at_builtin; refine wpList_append_own _ rfl _ _ 87 rfl w16.heap.size 9 i0 (.string ⟨#[]⟩) 1 16 Try.underlying87 hi hz0 hz1 hz2 rfl (by decide) _ _ _ rfl hLit ⟨g2, 0, none⟩ a c2 (strs ((o.take a).map bB)) rfl (by have := HL2.out; simp [strs]; omega) ?cellsA (fun u hu => by obtain ⟨x, _, rfl⟩ := List.mem_map.1 hu; rfl) (by unfold maxLen; omega) (by omega) (by simp) ?_)
                case cellsA =>
                  intro q u hu
                  obtain ⟨hq1, hq2, rfl⟩ := news_at2 hu
                  have ea : (⟨g2, 0, none⟩ : Addr).add q = ⟨g2, q, none⟩ := by simp [Addr.add]; exact fun h => h.symm
                  rw [ea]
                  exact kc hb17 (HOCb.out q (by omega))
                intro v1 w18 hown1 hgr1 _
                have hb18 : Below w16.heap.size w16 w18 := hb17.grown hgr1 (by simp) (fun b e => Nat.le_of_eq (Option.some.inj e))
                have H7b : Hid (∀ q, q < R2 → w18.cell? ⟨g7, q, none⟩ = some (.string (((sj :: o.drop a).map bB)[q]?.getD ⟨#[]⟩))) := Lib.hid fun q hq => kc hb18 (H7.out q hq)
                clear hLit hb17 hgr1 H7
                go_wp2_with (at_builtin; refine wpList_append_own _ rfl _ _ 87 rfl w16.heap.size 9 i0 (.string ⟨#[]⟩) 1 16 Try.underlying87 hi hz0 hz1 hz2 rfl (by decide) _ _ _ rfl hown1 ⟨g7, 0, none⟩ R2 c7 (strs ((sj :: o.drop a).map bB)) rfl (by have := HR3.out; rw [strs, List.length_map]; omega) ?cellsB (fun u hu => by obtain ⟨x, _, rfl⟩ := List.mem_map.1 hu; rfl) (by have := HR2.out; unfold maxLen; omega) (by have := HR2.out; omega) hb18.size ?_)
                case cellsB =>
                  intro q u hu
                  obtain ⟨x, hx, rfl⟩ : ∃ x, ((sj :: o.drop a).map bB)[q]? = some x ∧ .string x = u := by
                    unfold strs at hu
                    rw [List.getElem?_map] at hu
                    cases hx : ((sj :: o.drop a).map bB)[q]? with
                    | none => rw [hx] at hu; cases hu
                    | some x => rw [hx] at hu; exact ⟨x, rfl, Option.some.inj hu⟩
                  have ea : (⟨g7, 0, none⟩ : Addr).add q = ⟨g7, q, none⟩ := by simp [Addr.add]; exact fun h => h.symm
                  rw [ea, H7b.out q (by have := (List.getElem?_eq_some_iff.1 hx).1; have := HR3.out; omega), hx]
                  rfl
                intro v2 w19 hown2 hgr2 _
                have hb19 : Below w16.heap.size w16 w19 := hb18.grown hgr2 hb18.size (fun b e => (World.ownsRow.lt hown1 b e).1)
                have hOut : Hid (OutAt w19 (w.heap.size + 1) v2 ((insAll (outN k) (psN.take (j + 1))).map bB)) := Lib.hid <| by
                  have hins : insAll (outN k) (psN.take (j + 1)) = o.take a ++ sj :: o.drop a := by
                    have e1 : psN.take (j + 1) = psN.take j ++ [sj] := by
                      rw [List.take_succ_eq_append_getElem hjp, ← hsj, List.getElem?_eq_getElem hjp]
                      rfl
                    rw [e1, insAll_snoc, HOO.out]
                    unfold insC
                    rw [HL2.out, hpa]
                  have hlen : ((o.take a ++ sj :: o.drop a).map bB).length = a + R2 := by have := HL2.out; have := HR2.out; simp; omega
                  rw [hins]
                  refine OutAt.of (OwnsS.mono (b1 := w16.heap.size) ?_ (by omega)) (by simp only [List.length_map, List.length_append, List.length_cons]; omega)
                  have e2 : strs ((o.take a ++ sj :: o.drop a).map bB) = strs (List.take a (List.map bB o)) ++ strs (bB sj :: List.drop a (List.map bB o)) := by simp [strs]
                  unfold OwnsS
                  rw [hlen, e2]
                  exact hown2
                clear hown1 hown2 hgr2 hb18 hpa hsj
                go_wp2
                go_roundw
                case rel => exact ⟨j + 1, by omega, by go_num, hOut.out, Lib.hid (OwnsS.below O4b.out hb19), Lib.hid fun q hq => kc hb19 (HPb.out q hq), bthen hNb hb19⟩
                case measure => simp [intOf]; omega
          · obtain rfl : np = j := by omega
            have hOut : Hid (OutAt wr (w.heap.size + 1) (.slice (some ⟨g2, 0, none⟩) ((insAll (outN k) (psN.take np)).map bB).length c2) (outB (k + 1))) := Lib.hid <| by
              have e : outN (k + 1) = insAll (outN k) (psN.take np) := by
                rw [outN_succ hlt, hsl, HPS.out, ← hnp, List.take_length]
              unfold outB
              rw [e]
              exact ⟨g2, c2, rfl, hO⟩
            clear hO hnp
            generalize ((insAll (outN k) (psN.take np)).map bB).length = L3 at hOut ⊢
            go_wp2
            go_roundw
            case rel => exact ⟨k + 1, by omega, by go_num, hOut.out, HP, hN⟩
            case measure => simp [intOf]; omega
    · obtain rfl : k = 38 := by omega
      have HO := Lib.hid hO
      clear hO
      go_wp2
      go_ret
      exact ⟨_, rfl, OwnsS.mono HO.out (by omega), hN⟩
end Go.Proofs.Ytdgpjpcdifpllaa

/- CN45:
  CloneNames of both packages: the same 54 texts. -/
namespace Go.Proofs.Ytdgpjpcdifpllaa
open Go.RowKit
set_option linter.unusedVariables false
set_option linter.unusedSimpArgs false
set_option maxRecDepth 100000 in
theorem outN_all : outN 38 = srtL := by decide +kernel
theorem outB_srt : outB 38 = srtB := by
  unfold outB srtB
  rw [outN_all]
  rfl
theorem srtB_len : srtB.length = 54 := by
  unfold srtB
  rw [List.length_map]
  decide
set_option maxRecDepth 100000 in
theorem specCloneNames_any (w : World) : Calls Try.prog 58 #[] w fun e w' => ∃ v, e = .returned v ∧ OwnsS w' w.heap.size v srtB ∧ Below w.heap.size w w' := by
  have H := Lib.hid (l08Names_any w)
  rw [← outB_srt]
  go_enter Try.func58, Try.ntmps58
  go_wp2_with fail
  refine (H.out).mono ?_
  rintro e w2 ⟨v, rfl, o, hb⟩
  have HO := Lib.hid o
  clear o
  go_wp2
  go_ret
  exact ⟨v, rfl, HO.out, hb⟩
end Go.Proofs.Ytdgpjpcdifpllaa

/- LS1:
  Lists of texts of one's own in the laws: marks, held against each other. -/
namespace Go.Proofs.Ytdgpjpcdifpllaa
open Go.RowKit
set_option linter.unusedVariables false
set_option linter.unusedSimpArgs false
/-- The mark of a number below 10. -/
def mkT (k : Nat) : ByteArray := ⟨#[109, UInt8.ofNat (48 + k)]⟩
theorem conv_byte (z : UInt8) (k : Int) (hk : (z.toNat : Int) = k) (w : World) : (convert 49 9 (.slice (some ⟨w.heap.size, 0, none⟩) 1 1)).run Try.prog (w.alloc (.cells #[.int .u8 k] 5)) = .ok (.string ⟨#[z]⟩) (w.alloc (.cells #[.int .u8 k] 5)) := by
  subst hk
  exact run_convert_bytes_back (w.alloc (.cells #[.int .u8 (z.toNat : Int)] 5)) 49 9 5 ⟨w.heap.size, 0, none⟩ 1 [z] Try.underlying49 Try.underlying5 Try.underlying9 (fun j hj => by
    obtain rfl : j = 0 := by simp at hj; omega
    simp [go_sem])
set_option maxRecDepth 100000 in
set_option maxHeartbeats 4000000 in
theorem markText_1 (w : World) : Calls Try.prog 128 #[.int .i64 ((1 : Nat) : Int)] w fun e w' => e = .returned (.string (mkT 1)) ∧ Below w.heap.size w w' := by
  have hcv := conv_byte 49 49 rfl w
  have hB := bnew w (.cells #[.int .u8 49] 5)
  go_enter Try.func128, Try.ntmps128
  go_wp2
  refine wp_loop_rounds 2 ?_
  rw [rounds_succ]
  go_wp2
  rw [rounds_succ]
  go_wp2
  go_ret
  exact ⟨rfl, hB⟩
set_option maxRecDepth 100000 in
set_option maxHeartbeats 4000000 in
theorem markText_2 (w : World) : Calls Try.prog 128 #[.int .i64 ((2 : Nat) : Int)] w fun e w' => e = .returned (.string (mkT 2)) ∧ Below w.heap.size w w' := by
  have hcv := conv_byte 50 50 rfl w
  have hB := bnew w (.cells #[.int .u8 50] 5)
  go_enter Try.func128, Try.ntmps128
  go_wp2
  refine wp_loop_rounds 2 ?_
  rw [rounds_succ]
  go_wp2
  rw [rounds_succ]
  go_wp2
  go_ret
  exact ⟨rfl, hB⟩
set_option maxRecDepth 100000 in
set_option maxHeartbeats 4000000 in
theorem markText_3 (w : World) : Calls Try.prog 128 #[.int .i64 ((3 : Nat) : Int)] w fun e w' => e = .returned (.string (mkT 3)) ∧ Below w.heap.size w w' := by
  have hcv := conv_byte 51 51 rfl w
  have hB := bnew w (.cells #[.int .u8 51] 5)
  go_enter Try.func128, Try.ntmps128
  go_wp2
  refine wp_loop_rounds 2 ?_
  rw [rounds_succ]
  go_wp2
  rw [rounds_succ]
  go_wp2
  go_ret
  exact ⟨rfl, hB⟩
set_option maxRecDepth 100000 in
set_option maxHeartbeats 4000000 in
theorem markText_4 (w : World) : Calls Try.prog 128 #[.int .i64 ((4 : Nat) : Int)] w fun e w' => e = .returned (.string (mkT 4)) ∧ Below w.heap.size w w' := by
  have hcv := conv_byte 52 52 rfl w
  have hB := bnew w (.cells #[.int .u8 52] 5)
  go_enter Try.func128, Try.ntmps128
  go_wp2
  refine wp_loop_rounds 2 ?_
  rw [rounds_succ]
  go_wp2
  rw [rounds_succ]
  go_wp2
  go_ret
  exact ⟨rfl, hB⟩
set_option maxRecDepth 100000 in
set_option maxHeartbeats 4000000 in
theorem markText_5 (w : World) : Calls Try.prog 128 #[.int .i64 ((5 : Nat) : Int)] w fun e w' => e = .returned (.string (mkT 5)) ∧ Below w.heap.size w w' := by
  have hcv := conv_byte 53 53 rfl w
  have hB := bnew w (.cells #[.int .u8 53] 5)
  go_enter Try.func128, Try.ntmps128
  go_wp2
  refine wp_loop_rounds 2 ?_
  rw [rounds_succ]
  go_wp2
  rw [rounds_succ]
  go_wp2
  go_ret
  exact ⟨rfl, hB⟩
set_option maxRecDepth 100000 in
set_option maxHeartbeats 4000000 in
theorem markText_6 (w : World) : Calls Try.prog 128 #[.int .i64 ((6 : Nat) : Int)] w fun e w' => e = .returned (.string (mkT 6)) ∧ Below w.heap.size w w' := by
  have hcv := conv_byte 54 54 rfl w
  have hB := bnew w (.cells #[.int .u8 54] 5)
  go_enter Try.func128, Try.ntmps128
  go_wp2
  refine wp_loop_rounds 2 ?_
  rw [rounds_succ]
  go_wp2
  rw [rounds_succ]
  go_wp2
  go_ret
  exact ⟨rfl, hB⟩
set_option maxRecDepth 100000 in
set_option maxHeartbeats 4000000 in
theorem markText_7 (w : World) : Calls Try.prog 128 #[.int .i64 ((7 : Nat) : Int)] w fun e w' => e = .returned (.string (mkT 7)) ∧ Below w.heap.size w w' := by
  have hcv := conv_byte 55 55 rfl w
  have hB := bnew w (.cells #[.int .u8 55] 5)
  go_enter Try.func128, Try.ntmps128
  go_wp2
  refine wp_loop_rounds 2 ?_
  rw [rounds_succ]
  go_wp2
  rw [rounds_succ]
  go_wp2
  go_ret
  exact ⟨rfl, hB⟩
set_option maxRecDepth 100000 in
set_option maxHeartbeats 4000000 in
theorem markText_8 (w : World) : Calls Try.prog 128 #[.int .i64 ((8 : Nat) : Int)] w fun e w' => e = .returned (.string (mkT 8)) ∧ Below w.heap.size w w' := by
  have hcv := conv_byte 56 56 rfl w
  have hB := bnew w (.cells #[.int .u8 56] 5)
  go_enter Try.func128, Try.ntmps128
  go_wp2
  refine wp_loop_rounds 2 ?_
  rw [rounds_succ]
  go_wp2
  rw [rounds_succ]
  go_wp2
  go_ret
  exact ⟨rfl, hB⟩
set_option maxRecDepth 100000 in
set_option maxHeartbeats 4000000 in
theorem markText_9 (w : World) : Calls Try.prog 128 #[.int .i64 ((9 : Nat) : Int)] w fun e w' => e = .returned (.string (mkT 9)) ∧ Below w.heap.size w w' := by
  have hcv := conv_byte 57 57 rfl w
  have hB := bnew w (.cells #[.int .u8 57] 5)
  go_enter Try.func128, Try.ntmps128
  go_wp2
  refine wp_loop_rounds 2 ?_
  rw [rounds_succ]
  go_wp2
  rw [rounds_succ]
  go_wp2
  go_ret
  exact ⟨rfl, hB⟩
theorem markText_any {k : Nat} (h0 : 1 ≤ k) (h9 : k ≤ 9) (w : World) : Calls Try.prog 128 #[.int .i64 (k : Int)] w fun e w' => e = .returned (.string (mkT k)) ∧ Below w.heap.size w w' := by
  rcases (show k = 1 ∨ k = 2 ∨ k = 3 ∨ k = 4 ∨ k = 5 ∨ k = 6 ∨ k = 7 ∨ k = 8 ∨ k = 9 by omega) with rfl | rfl | rfl | rfl | rfl | rfl | rfl | rfl | rfl
  · exact markText_1 w
  · exact markText_2 w
  · exact markText_3 w
  · exact markText_4 w
  · exact markText_5 w
  · exact markText_6 w
  · exact markText_7 w
  · exact markText_8 w
  · exact markText_9 w
/-- The marks 1, 2, ... -/
def mkS (n : Nat) : List ByteArray := (List.range n).map fun j => mkT (1 + j)
theorem mkS_len (n : Nat) : (mkS n).length = n := by simp [mkS]
theorem mkS_succ (n : Nat) : mkS (n + 1) = mkS n ++ [mkT (1 + n)] := by simp [mkS, List.range_succ]
theorem mkS_get {n j : Nat} (h : j < n) : (mkS n)[j]? = some (mkT (1 + j)) := by simp [mkS, h]
theorem gtransS {a b c : World} {row : Option Nat} (h : a.grownBy b row) (k : b.grownBy c row) : a.grownBy c row :=
  ⟨k.os.trans h.os, k.tape.trans h.tape, k.output.trans h.output, Nat.le_trans h.size k.size, fun j hj hr => (k.block j (Nat.lt_of_lt_of_le hj h.size) hr).trans (h.block j hj hr)⟩
theorem gBelow {W W' : World} (hb : Below W.heap.size W W') (row : Option Nat) : W.grownBy W' row := ⟨hb.os, hb.tape, hb.output, hb.size, fun k hk _ => hb.block k hk⟩
theorem markS_step (vs : List Value) (i : Nat) (hi : i < vs.length) : (strs (mkS i) ++ vs.drop i).set i (.string (mkT (1 + i))) = strs (mkS (i + 1)) ++ vs.drop (i + 1) := by
  have hl : (strs (mkS i)).length = i := by simp [strs, mkS_len]
  rw [List.set_append_right _ _ (by omega), hl, Nat.sub_self, mkS_succ, strs_snoc, List.drop_eq_getElem_cons hi, List.set_cons_zero]
  simp
set_option maxRecDepth 100000 in
set_option maxHeartbeats 4000000 in
theorem markS_any {base : Nat} {s : Value} {xs : List ByteArray} (hl : xs.length ≤ 8) (w : World) (h : OwnsS w base s xs) :
    Calls Try.prog 61 #[s, .int .i64 1] w fun e w' => e = .returned (.int .i64 ((1 + xs.length : Nat) : Int)) ∧ OwnsS w' base s (mkS xs.length) ∧ w.grownBy w' s.ownBlock := by
  rcases h.2 with ⟨rfl, h0⟩ | ⟨g, cap, cur, rfl, hbg, hg, _⟩
  · obtain rfl : xs = [] := List.eq_nil_of_length_eq_zero h0
    go_enter Try.func61, Try.ntmps61
    go_wp2
    refine wp_loop_rounds 1 ?_
    rw [rounds_succ]
    go_wp2
    go_ret
    exact ⟨rfl, h, World.grownBy.refl _ _⟩
  · have hn' : (strs xs).length = xs.length := by simp [strs]
    unfold OwnsS at h
    unfold OwnsS
    rw [mkS_len]
    generalize xs.length = n at hl hn' h ⊢
    generalize strs xs = vs at hn' h
    clear hg
    go_enter Try.func61, Try.ntmps61
    go_wp2
    go_loopw [1, 5] (fun q i' wr => ∃ i : Nat, i ≤ n ∧ i' = .int .i64 i ∧ q = .int .i64 ((1 + i : Nat) : Int) ∧ wr.ownsRow base 9 1 (.slice (some ⟨g, 0, none⟩) n cap) n (strs (mkS i) ++ vs.drop i) ∧ w.grownBy wr (some g)) (fun _ i' _ => n - (intOf i').toNat)
    case atStart => exact ⟨0, Nat.zero_le _, rfl, rfl, by simpa [mkS, strs] using h, World.grownBy.refl _ _⟩
    case round =>
      clear h
      obtain ⟨i, hi, rfl, rfl, ho, hgr⟩ := hrel
      by_cases hlt : i < n
      · obtain ⟨u, hu⟩ : ∃ u, wr.cell? ⟨g, i, none⟩ = some u := by
          rw [ho.cellAt i (by omega)]
          exact ⟨_, List.getElem?_eq_getElem (by simp [strs, mkS_len]; omega)⟩
        have hfz := ho.frozenAt i
        have HO := Lib.hid ho
        have HG := Lib.hid hgr
        have MT := Lib.hid (markText_any (k := 1 + i) (by omega) (by omega) wr)
        have hU := Lib.hid hu
        have hF := Lib.hid hfz
        have HV := Lib.hid hn'
        have hlt2 : decide ((i : Int) < (n : Int)) = true := by simp; omega
        clear ho hgr hu hfz hn'
        go_wp2_with (go_at_call 128; refine (MT.out).mono ?_; rintro e w3 ⟨rfl, hb3⟩
                     have hu3 := kc hb3 hU.out
                     have hf3 := kf hb3 hU.out hF.out
                     have ho3 := World.ownsRow.kept HO.out (gBelow hb3 none) (.inr (by intro e; cases e))
                     have hst := ho3.stored i (.string (mkT (1 + i)))
                     rw [markS_step vs i (by rw [HV.out]; exact hlt)] at hst
                     have HST := Lib.hid hst
                     have HG3 := Lib.hid (gtransS HG.out (gBelow hb3 (some g)))
                     clear hst ho3 hb3)
        go_roundw
        case rel => exact ⟨i + 1, by omega, by go_num, by go_num, HST.out.1, gtransS HG3.out HST.out.2⟩
        case measure => simp [intOf]; omega
      · obtain rfl : i = n := by omega
        have ho' := Lib.hid ho
        have hgr' := Lib.hid hgr
        have hd := Lib.hid (List.drop_of_length_le (l := vs) (i := i) (by omega))
        have hlt2 : decide ((i : Int) < (i : Int)) = false := by simp
        clear ho hgr hn'
        go_wp2
        go_ret
        exact ⟨rfl, by have := ho'.out; rw [hd.out, List.append_nil] at this; exact this, hgr'.out⟩
end Go.Proofs.Ytdgpjpcdifpllaa

/- LS2:
  Lists of texts of one's own in the laws: marks read again, lists held against each other. -/
namespace Go.Proofs.Ytdgpjpcdifpllaa
open Go.RowKit
set_option linter.unusedVariables false
set_option linter.unusedSimpArgs false
theorem OwnsS.cellsS {W : World} {base : Nat} {s : Value} {xs : List ByteArray} (h : OwnsS W base s xs) : ∃ a cap, s = .slice a xs.length cap ∧ (0 < xs.length → ∃ g, a = some ⟨g, 0, none⟩ ∧ g < W.heap.size ∧ base ≤ g ∧ ∀ j (hj : j < xs.length), W.cell? ⟨g, j, none⟩ = some (.string xs[j])) := by
  rcases h.2 with ⟨e, h0⟩ | ⟨g, cap, cur, rfl, hb, hg, _⟩
  · exact ⟨none, 0, by rw [e, h0], fun hp => by omega⟩
  · refine ⟨_, cap, rfl, fun hp => ⟨g, rfl, (Array.getElem?_eq_some_iff.1 hg).1, hb, fun j hj => ?_⟩⟩
    have := World.ownsRow.cellAt h j (by omega)
    rw [this]
    simp [strs, hj]
set_option maxRecDepth 100000 in
set_option maxHeartbeats 8000000 in
theorem heldS_any {base : Nat} {s : Value} {n : Nat} (hl : n ≤ 8) (w : World) (h : OwnsS w base s (mkS n)) :
    Calls Try.prog 62 #[s, .int .i64 1] w fun e w' => e = .returned (.int .i64 ((1 + n : Nat) : Int)) ∧ Below w.heap.size w w' := by
  obtain ⟨a, cap, rfl, hc⟩ := h.cellsS
  have hc2 : 0 < n → ∃ g, a = some ⟨g, 0, none⟩ ∧ ∀ j, j < n → w.cell? ⟨g, j, none⟩ = some (.string (mkT (1 + j))) := fun hp => by
    obtain ⟨g, e, _, _, hcc⟩ := hc (by rw [mkS_len]; exact hp)
    exact ⟨g, e, fun j hj => by rw [hcc j (by rw [mkS_len]; exact hj)]; simp [mkS]⟩
  have HC := Lib.hid hc2
  have e0 := mkS_len n
  clear hc h hc2
  rw [e0]
  clear e0
  go_enter Try.func62, Try.ntmps62
  go_wp2
  go_loopw [1, 5] (fun q i' wr => ∃ i : Nat, i ≤ n ∧ i' = .int .i64 i ∧ q = .int .i64 ((1 + i : Nat) : Int) ∧ Below w.heap.size w wr) (fun _ i' _ => n - (intOf i').toNat)
  case atStart => exact ⟨0, Nat.zero_le _, rfl, rfl, Below.refl _ _⟩
  case round =>
    obtain ⟨i, hi, rfl, rfl, hN⟩ := hrel
    by_cases hlt : i < n
    · obtain ⟨g, rfl, hcc⟩ := HC.out (by omega)
      have c0 := kc hN (hcc i hlt)
      have MT := Lib.hid (fun w => markText_any (k := 1 + i) (by omega) (by omega) w)
      obtain ⟨t, ht⟩ : ∃ t, mkT (1 + i) = t := ⟨_, rfl⟩
      rw [ht] at c0 MT
      have hq : (t.toList == t.toList) = true := beq_self_eq_true _
      have hlt2 : decide ((i : Int) < (n : Int)) = true := by simp; omega
      have HN := Lib.hid hN
      clear hcc ht hN
      go_wp2_with fail
      go_region_held3 (fun w' => w'.cell? ⟨g, i, none⟩ = some (.string t)) (first | exact c0 | exact d0)
        (first
          | (go_at_call 128; refine (MT.out _).mono ?_; rintro e w' ⟨rfl, hb1⟩; have d0 := kcd hb1 c0))
      go_wp2
      go_roundw
      case rel => exact ⟨i + 1, by omega, by go_num, by go_num, bthen HN.out.drew hb1⟩
      case measure => simp [intOf]; omega
    · obtain rfl : i = n := by omega
      have hlt2 : decide ((i : Int) < (i : Int)) = false := by simp
      go_wp2
      go_ret
      exact ⟨rfl, hN⟩
set_option maxRecDepth 100000 in
set_option maxHeartbeats 4000000 in
theorem eqStringS_same {b1 b2 : Nat} {s1 s2 : Value} {xs : List ByteArray} (hl : xs.length ≤ 1048576) (w : World) (h1 : OwnsS w b1 s1 xs) (h2 : OwnsS w b2 s2 xs) :
    Calls Try.prog 60 #[s1, s2] w fun e w' => e = .returned (.bool true) ∧ Below w.heap.size w w' := by
  obtain ⟨a1, cap1, rfl, hc1⟩ := h1.cellsS
  obtain ⟨a2, cap2, rfl, hc2⟩ := h2.cellsS
  have HC1 := Lib.hid hc1
  have HC2 := Lib.hid hc2
  clear hc1 hc2 h1 h2
  go_enter Try.func60, Try.ntmps60
  go_wp2
  go_loopw [5] (fun i' wr => ∃ i : Nat, i ≤ xs.length ∧ i' = .int .i64 i ∧ Below w.heap.size w wr) (fun i' _ => xs.length - (intOf i').toNat)
  case atStart => exact ⟨0, Nat.zero_le _, rfl, Below.refl _ _⟩
  case round =>
    obtain ⟨i, hi, rfl, hN⟩ := hrel
    by_cases hlt : i < xs.length
    · obtain ⟨g1, rfl, _, _, hcc1⟩ := HC1.out (by omega)
      obtain ⟨g2, rfl, _, _, hcc2⟩ := HC2.out (by omega)
      have d1 := kc hN (hcc1 i hlt)
      have d2 := kc hN (hcc2 i hlt)
      obtain ⟨t, ht⟩ : ∃ t, xs[i] = t := ⟨_, rfl⟩
      rw [ht] at d1 d2
      have hq : (t.toList == t.toList) = true := beq_self_eq_true _
      have hlt2 : decide ((i : Int) < (xs.length : Int)) = true := by simp; omega
      clear hcc1 hcc2 ht
      go_wp2
      go_quiet (fail)
      go_wp2
      go_roundw
      case rel => exact ⟨i + 1, by omega, by go_num, below_drewN hN _⟩
      case measure => simp [intOf]; omega
    · obtain rfl : i = xs.length := by omega
      have hlt2 : decide ((xs.length : Int) < (xs.length : Int)) = false := by simp
      go_wp2
      go_ret
      exact ⟨rfl, hN⟩
end Go.Proofs.Ytdgpjpcdifpllaa

/- LS4:
  Marks of two digits; lists of up to 54 texts of one's own in the laws. -/
namespace Go.Proofs.Ytdgpjpcdifpllaa
open Go.RowKit
set_option linter.unusedVariables false
set_option linter.unusedSimpArgs false
/-- The mark of a number below 100. -/
def mkU (k : Nat) : ByteArray := if k < 10 then mkT k else ⟨#[109, UInt8.ofNat (48 + k / 10), UInt8.ofNat (48 + k % 10)]⟩
theorem conv_byte2 (z : UInt8) (k : Int) (hk : (z.toNat : Int) = k) (w : World) (o : Obj) : (convert 49 9 (.slice (some ⟨w.heap.size + 1, 0, none⟩) 1 1)).run Try.prog ((w.alloc o).alloc (.cells #[.int .u8 k] 5)) = .ok (.string ⟨#[z]⟩) ((w.alloc o).alloc (.cells #[.int .u8 k] 5)) := by
  have := conv_byte z k hk (w.alloc o)
  simpa using this
set_option maxRecDepth 100000 in
set_option maxHeartbeats 4000000 in
theorem markText_10 (w : World) : Calls Try.prog 128 #[.int .i64 ((10 : Nat) : Int)] w fun e w' => e = .returned (.string (mkU 10)) ∧ Below w.heap.size w w' := by
  have hcv := conv_byte 48 48 rfl w
  have hcv2 := conv_byte2 49 49 rfl w (.cells #[.int .u8 48] 5)
  have hB := balloc (bnew w (.cells #[.int .u8 48] 5)) (.cells #[.int .u8 49] 5)
  go_enter Try.func128, Try.ntmps128
  go_wp2
  refine wp_loop_rounds 3 ?_
  rw [rounds_succ]
  go_wp2
  rw [rounds_succ]
  go_wp2
  rw [rounds_succ]
  go_wp2
  go_ret
  exact ⟨rfl, hB⟩
set_option maxRecDepth 100000 in
set_option maxHeartbeats 4000000 in
theorem markText_11 (w : World) : Calls Try.prog 128 #[.int .i64 ((11 : Nat) : Int)] w fun e w' => e = .returned (.string (mkU 11)) ∧ Below w.heap.size w w' := by
  have hcv := conv_byte 49 49 rfl w
  have hcv2 := conv_byte2 49 49 rfl w (.cells #[.int .u8 49] 5)
  have hB := balloc (bnew w (.cells #[.int .u8 49] 5)) (.cells #[.int .u8 49] 5)
  go_enter Try.func128, Try.ntmps128
  go_wp2
  refine wp_loop_rounds 3 ?_
  rw [rounds_succ]
  go_wp2
  rw [rounds_succ]
  go_wp2
  rw [rounds_succ]
  go_wp2
  go_ret
  exact ⟨rfl, hB⟩
set_option maxRecDepth 100000 in
set_option maxHeartbeats 4000000 in
theorem markText_12 (w : World) : Calls Try.prog 128 #[.int .i64 ((12 : Nat) : Int)] w fun e w' => e = .returned (.string (mkU 12)) ∧ Below w.heap.size w w' := by
  have hcv := conv_byte 50 50 rfl w
  have hcv2 := conv_byte2 49 49 rfl w (.cells #[.int .u8 50] 5)
  have hB := balloc (bnew w (.cells #[.int .u8 50] 5)) (.cells #[.int .u8 49] 5)
  go_enter Try.func128, Try.ntmps128
  go_wp2
  refine wp_loop_rounds 3 ?_
  rw [rounds_succ]
  go_wp2
  rw [rounds_succ]
  go_wp2
  rw [rounds_succ]
  go_wp2
  go_ret
  exact ⟨rfl, hB⟩
set_option maxRecDepth 100000 in
set_option maxHeartbeats 4000000 in
theorem markText_13 (w : World) : Calls Try.prog 128 #[.int .i64 ((13 : Nat) : Int)] w fun e w' => e = .returned (.string (mkU 13)) ∧ Below w.heap.size w w' := by
  have hcv := conv_byte 51 51 rfl w
  have hcv2 := conv_byte2 49 49 rfl w (.cells #[.int .u8 51] 5)
  have hB := balloc (bnew w (.cells #[.int .u8 51] 5)) (.cells #[.int .u8 49] 5)
  go_enter Try.func128, Try.ntmps128
  go_wp2
  refine wp_loop_rounds 3 ?_
  rw [rounds_succ]
  go_wp2
  rw [rounds_succ]
  go_wp2
  rw [rounds_succ]
  go_wp2
  go_ret
  exact ⟨rfl, hB⟩
set_option maxRecDepth 100000 in
set_option maxHeartbeats 4000000 in
theorem markText_14 (w : World) : Calls Try.prog 128 #[.int .i64 ((14 : Nat) : Int)] w fun e w' => e = .returned (.string (mkU 14)) ∧ Below w.heap.size w w' := by
  have hcv := conv_byte 52 52 rfl w
  have hcv2 := conv_byte2 49 49 rfl w (.cells #[.int .u8 52] 5)
  have hB := balloc (bnew w (.cells #[.int .u8 52] 5)) (.cells #[.int .u8 49] 5)
  go_enter Try.func128, Try.ntmps128
  go_wp2
  refine wp_loop_rounds 3 ?_
  rw [rounds_succ]
  go_wp2
  rw [rounds_succ]
  go_wp2
  rw [rounds_succ]
  go_wp2
  go_ret
  exact ⟨rfl, hB⟩
set_option maxRecDepth 100000 in
set_option maxHeartbeats 4000000 in
theorem markText_15 (w : World) : Calls Try.prog 128 #[.int .i64 ((15 : Nat) : Int)] w fun e w' => e = .returned (.string (mkU 15)) ∧ Below w.heap.size w w' := by
  have hcv := conv_byte 53 53 rfl w
  have hcv2 := conv_byte2 49 49 rfl w (.cells #[.int .u8 53] 5)
  have hB := balloc (bnew w (.cells #[.int .u8 53] 5)) (.cells #[.int .u8 49] 5)
  go_enter Try.func128, Try.ntmps128
  go_wp2
  refine wp_loop_rounds 3 ?_
  rw [rounds_succ]
  go_wp2
  rw [rounds_succ]
  go_wp2
  rw [rounds_succ]
  go_wp2
  go_ret
  exact ⟨rfl, hB⟩
set_option maxRecDepth 100000 in
set_option maxHeartbeats 4000000 in
theorem markText_16 (w : World) : Calls Try.prog 128 #[.int .i64 ((16 : Nat) : Int)] w fun e w' => e = .returned (.string (mkU 16)) ∧ Below w.heap.size w w' := by
  have hcv := conv_byte 54 54 rfl w
  have hcv2 := conv_byte2 49 49 rfl w (.cells #[.int .u8 54] 5)
  have hB := balloc (bnew w (.cells #[.int .u8 54] 5)) (.cells #[.int .u8 49] 5)
  go_enter Try.func128, Try.ntmps128
  go_wp2
  refine wp_loop_rounds 3 ?_
  rw [rounds_succ]
  go_wp2
  rw [rounds_succ]
  go_wp2
  rw [rounds_succ]
  go_wp2
  go_ret
  exact ⟨rfl, hB⟩
set_option maxRecDepth 100000 in
set_option maxHeartbeats 4000000 in
theorem markText_17 (w : World) : Calls Try.prog 128 #[.int .i64 ((17 : Nat) : Int)] w fun e w' => e = .returned (.string (mkU 17)) ∧ Below w.heap.size w w' := by
  have hcv := conv_byte 55 55 rfl w
  have hcv2 := conv_byte2 49 49 rfl w (.cells #[.int .u8 55] 5)
  have hB := balloc (bnew w (.cells #[.int .u8 55] 5)) (.cells #[.int .u8 49] 5)
  go_enter Try.func128, Try.ntmps128
  go_wp2
  refine wp_loop_rounds 3 ?_
  rw [rounds_succ]
  go_wp2
  rw [rounds_succ]
  go_wp2
  rw [rounds_succ]
  go_wp2
  go_ret
  exact ⟨rfl, hB⟩
set_option maxRecDepth 100000 in
set_option maxHeartbeats 4000000 in
theorem markText_18 (w : World) : Calls Try.prog 128 #[.int .i64 ((18 : Nat) : Int)] w fun e w' => e = .returned (.string (mkU 18)) ∧ Below w.heap.size w w' := by
  have hcv := conv_byte 56 56 rfl w
  have hcv2 := conv_byte2 49 49 rfl w (.cells #[.int .u8 56] 5)
  have hB := balloc (bnew w (.cells #[.int .u8 56] 5)) (.cells #[.int .u8 49] 5)
  go_enter Try.func128, Try.ntmps128
  go_wp2
  refine wp_loop_rounds 3 ?_
  rw [rounds_succ]
  go_wp2
  rw [rounds_succ]
  go_wp2
  rw [rounds_succ]
  go_wp2
  go_ret
  exact ⟨rfl, hB⟩
set_option maxRecDepth 100000 in
set_option maxHeartbeats 4000000 in
theorem markText_19 (w : World) : Calls Try.prog 128 #[.int .i64 ((19 : Nat) : Int)] w fun e w' => e = .returned (.string (mkU 19)) ∧ Below w.heap.size w w' := by
  have hcv := conv_byte 57 57 rfl w
  have hcv2 := conv_byte2 49 49 rfl w (.cells #[.int .u8 57] 5)
  have hB := balloc (bnew w (.cells #[.int .u8 57] 5)) (.cells #[.int .u8 49] 5)
  go_enter Try.func128, Try.ntmps128
  go_wp2
  refine wp_loop_rounds 3 ?_
  rw [rounds_succ]
  go_wp2
  rw [rounds_succ]
  go_wp2
  rw [rounds_succ]
  go_wp2
  go_ret
  exact ⟨rfl, hB⟩
set_option maxRecDepth 100000 in
set_option maxHeartbeats 4000000 in
theorem markText_20 (w : World) : Calls Try.prog 128 #[.int .i64 ((20 : Nat) : Int)] w fun e w' => e = .returned (.string (mkU 20)) ∧ Below w.heap.size w w' := by
  have hcv := conv_byte 48 48 rfl w
  have hcv2 := conv_byte2 50 50 rfl w (.cells #[.int .u8 48] 5)
  have hB := balloc (bnew w (.cells #[.int .u8 48] 5)) (.cells #[.int .u8 50] 5)
  go_enter Try.func128, Try.ntmps128
  go_wp2
  refine wp_loop_rounds 3 ?_
  rw [rounds_succ]
  go_wp2
  rw [rounds_succ]
  go_wp2
  rw [rounds_succ]
  go_wp2
  go_ret
  exact ⟨rfl, hB⟩
set_option maxRecDepth 100000 in
set_option maxHeartbeats 4000000 in
theorem markText_21 (w : World) : Calls Try.prog 128 #[.int .i64 ((21 : Nat) : Int)] w fun e w' => e = .returned (.string (mkU 21)) ∧ Below w.heap.size w w' := by
  have hcv := conv_byte 49 49 rfl w
  have hcv2 := conv_byte2 50 50 rfl w (.cells #[.int .u8 49] 5)
  have hB := balloc (bnew w (.cells #[.int .u8 49] 5)) (.cells #[.int .u8 50] 5)
  go_enter Try.func128, Try.ntmps128
  go_wp2
  refine wp_loop_rounds 3 ?_
  rw [rounds_succ]
  go_wp2
  rw [rounds_succ]
  go_wp2
  rw [rounds_succ]
  go_wp2
  go_ret
  exact ⟨rfl, hB⟩
set_option maxRecDepth 100000 in
set_option maxHeartbeats 4000000 in
theorem markText_22 (w : World) : Calls Try.prog 128 #[.int .i64 ((22 : Nat) : Int)] w fun e w' => e = .returned (.string (mkU 22)) ∧ Below w.heap.size w w' := by
  have hcv := conv_byte 50 50 rfl w
  have hcv2 := conv_byte2 50 50 rfl w (.cells #[.int .u8 50] 5)
  have hB := balloc (bnew w (.cells #[.int .u8 50] 5)) (.cells #[.int .u8 50] 5)
  go_enter Try.func128, Try.ntmps128
  go_wp2
  refine wp_loop_rounds 3 ?_
  rw [rounds_succ]
  go_wp2
  rw [rounds_succ]
  go_wp2
  rw [rounds_succ]
  go_wp2
  go_ret
  exact ⟨rfl, hB⟩
set_option maxRecDepth 100000 in
set_option maxHeartbeats 4000000 in
theorem markText_23 (w : World) : Calls Try.prog 128 #[.int .i64 ((23 : Nat) : Int)] w fun e w' => e = .returned (.string (mkU 23)) ∧ Below w.heap.size w w' := by
  have hcv := conv_byte 51 51 rfl w
  have hcv2 := conv_byte2 50 50 rfl w (.cells #[.int .u8 51] 5)
  have hB := balloc (bnew w (.cells #[.int .u8 51] 5)) (.cells #[.int .u8 50] 5)
  go_enter Try.func128, Try.ntmps128
  go_wp2
  refine wp_loop_rounds 3 ?_
  rw [rounds_succ]
  go_wp2
  rw [rounds_succ]
  go_wp2
  rw [rounds_succ]
  go_wp2
  go_ret
  exact ⟨rfl, hB⟩
set_option maxRecDepth 100000 in
set_option maxHeartbeats 4000000 in
theorem markText_24 (w : World) : Calls Try.prog 128 #[.int .i64 ((24 : Nat) : Int)] w fun e w' => e = .returned (.string (mkU 24)) ∧ Below w.heap.size w w' := by
  have hcv := conv_byte 52 52 rfl w
  have hcv2 := conv_byte2 50 50 rfl w (.cells #[.int .u8 52] 5)
  have hB := balloc (bnew w (.cells #[.int .u8 52] 5)) (.cells #[.int .u8 50] 5)
  go_enter Try.func128, Try.ntmps128
  go_wp2
  refine wp_loop_rounds 3 ?_
  rw [rounds_succ]
  go_wp2
  rw [rounds_succ]
  go_wp2
  rw [rounds_succ]
  go_wp2
  go_ret
  exact ⟨rfl, hB⟩
set_option maxRecDepth 100000 in
set_option maxHeartbeats 4000000 in
theorem markText_25 (w : World) : Calls Try.prog 128 #[.int .i64 ((25 : Nat) : Int)] w fun e w' => e = .returned (.string (mkU 25)) ∧ Below w.heap.size w w' := by
  have hcv := conv_byte 53 53 rfl w
  have hcv2 := conv_byte2 50 50 rfl w (.cells #[.int .u8 53] 5)
  have hB := balloc (bnew w (.cells #[.int .u8 53] 5)) (.cells #[.int .u8 50] 5)
  go_enter Try.func128, Try.ntmps128
  go_wp2
  refine wp_loop_rounds 3 ?_
  rw [rounds_succ]
  go_wp2
  rw [rounds_succ]
  go_wp2
  rw [rounds_succ]
  go_wp2
  go_ret
  exact ⟨rfl, hB⟩
set_option maxRecDepth 100000 in
set_option maxHeartbeats 4000000 in
theorem markText_26 (w : World) : Calls Try.prog 128 #[.int .i64 ((26 : Nat) : Int)] w fun e w' => e = .returned (.string (mkU 26)) ∧ Below w.heap.size w w' := by
  have hcv := conv_byte 54 54 rfl w
  have hcv2 := conv_byte2 50 50 rfl w (.cells #[.int .u8 54] 5)
  have hB := balloc (bnew w (.cells #[.int .u8 54] 5)) (.cells #[.int .u8 50] 5)
  go_enter Try.func128, Try.ntmps128
  go_wp2
  refine wp_loop_rounds 3 ?_
  rw [rounds_succ]
  go_wp2
  rw [rounds_succ]
  go_wp2
  rw [rounds_succ]
  go_wp2
  go_ret
  exact ⟨rfl, hB⟩
set_option maxRecDepth 100000 in
set_option maxHeartbeats 4000000 in
theorem markText_27 (w : World) : Calls Try.prog 128 #[.int .i64 ((27 : Nat) : Int)] w fun e w' => e = .returned (.string (mkU 27)) ∧ Below w.heap.size w w' := by
  have hcv := conv_byte 55 55 rfl w
  have hcv2 := conv_byte2 50 50 rfl w (.cells #[.int .u8 55] 5)
  have hB := balloc (bnew w (.cells #[.int .u8 55] 5)) (.cells #[.int .u8 50] 5)
  go_enter Try.func128, Try.ntmps128
  go_wp2
  refine wp_loop_rounds 3 ?_
  rw [rounds_succ]
  go_wp2
  rw [rounds_succ]
  go_wp2
  rw [rounds_succ]
  go_wp2
  go_ret
  exact ⟨rfl, hB⟩
set_option maxRecDepth 100000 in
set_option maxHeartbeats 4000000 in
theorem markText_28 (w : World) : Calls Try.prog 128 #[.int .i64 ((28 : Nat) : Int)] w fun e w' => e = .returned (.string (mkU 28)) ∧ Below w.heap.size w w' := by
  have hcv := conv_byte 56 56 rfl w
  have hcv2 := conv_byte2 50 50 rfl w (.cells #[.int .u8 56] 5)
  have hB := balloc (bnew w (.cells #[.int .u8 56] 5)) (.cells #[.int .u8 50] 5)
  go_enter Try.func128, Try.ntmps128
  go_wp2
  refine wp_loop_rounds 3 ?_
  rw [rounds_succ]
  go_wp2
  rw [rounds_succ]
  go_wp2
  rw [rounds_succ]
  go_wp2
  go_ret
  exact ⟨rfl, hB⟩
set_option maxRecDepth 100000 in
set_option maxHeartbeats 4000000 in
theorem markText_29 (w : World) : Calls Try.prog 128 #[.int .i64 ((29 : Nat) : Int)] w fun e w' => e = .returned (.string (mkU 29)) ∧ Below w.heap.size w w' := by
  have hcv := conv_byte 57 57 rfl w
  have hcv2 := conv_byte2 50 50 rfl w (.cells #[.int .u8 57] 5)
  have hB := balloc (bnew w (.cells #[.int .u8 57] 5)) (.cells #[.int .u8 50] 5)
  go_enter Try.func128, Try.ntmps128
  go_wp2
  refine wp_loop_rounds 3 ?_
  rw [rounds_succ]
  go_wp2
  rw [rounds_succ]
  go_wp2
  rw [rounds_succ]
  go_wp2
  go_ret
  exact ⟨rfl, hB⟩
set_option maxRecDepth 100000 in
set_option maxHeartbeats 4000000 in
theorem markText_30 (w : World) : Calls Try.prog 128 #[.int .i64 ((30 : Nat) : Int)] w fun e w' => e = .returned (.string (mkU 30)) ∧ Below w.heap.size w w' := by
  have hcv := conv_byte 48 48 rfl w
  have hcv2 := conv_byte2 51 51 rfl w (.cells #[.int .u8 48] 5)
  have hB := balloc (bnew w (.cells #[.int .u8 48] 5)) (.cells #[.int .u8 51] 5)
  go_enter Try.func128, Try.ntmps128
  go_wp2
  refine wp_loop_rounds 3 ?_
  rw [rounds_succ]
  go_wp2
  rw [rounds_succ]
  go_wp2
  rw [rounds_succ]
  go_wp2
  go_ret
  exact ⟨rfl, hB⟩
set_option maxRecDepth 100000 in
set_option maxHeartbeats 4000000 in
theorem markText_31 (w : World) : Calls Try.prog 128 #[.int .i64 ((31 : Nat) : Int)] w fun e w' => e = .returned (.string (mkU 31)) ∧ Below w.heap.size w w' := by
  have hcv := conv_byte 49 49 rfl w
  have hcv2 := conv_byte2 51 51 rfl w (.cells #[.int .u8 49] 5)
  have hB := balloc (bnew w (.cells #[.int .u8 49] 5)) (.cells #[.int .u8 51] 5)
  go_enter Try.func128, Try.ntmps128
  go_wp2
  refine wp_loop_rounds 3 ?_
  rw [rounds_succ]
  go_wp2
  rw [rounds_succ]
  go_wp2
  rw [rounds_succ]
  go_wp2
  go_ret
  exact ⟨rfl, hB⟩
set_option maxRecDepth 100000 in
set_option maxHeartbeats 4000000 in
theorem markText_32 (w : World) : Calls Try.prog 128 #[.int .i64 ((32 : Nat) : Int)] w fun e w' => e = .returned (.string (mkU 32)) ∧ Below w.heap.size w w' := by
  have hcv := conv_byte 50 50 rfl w
  have hcv2 := conv_byte2 51 51 rfl w (.cells #[.int .u8 50] 5)
  have hB := balloc (bnew w (.cells #[.int .u8 50] 5)) (.cells #[.int .u8 51] 5)
  go_enter Try.func128, Try.ntmps128
  go_wp2
  refine wp_loop_rounds 3 ?_
  rw [rounds_succ]
  go_wp2
  rw [rounds_succ]
  go_wp2
  rw [rounds_succ]
  go_wp2
  go_ret
  exact ⟨rfl, hB⟩
set_option maxRecDepth 100000 in
set_option maxHeartbeats 4000000 in
theorem markText_33 (w : World) : Calls Try.prog 128 #[.int .i64 ((33 : Nat) : Int)] w fun e w' => e = .returned (.string (mkU 33)) ∧ Below w.heap.size w w' := by
  have hcv := conv_byte 51 51 rfl w
  have hcv2 := conv_byte2 51 51 rfl w (.cells #[.int .u8 51] 5)
  have hB := balloc (bnew w (.cells #[.int .u8 51] 5)) (.cells #[.int .u8 51] 5)
  go_enter Try.func128, Try.ntmps128
  go_wp2
  refine wp_loop_rounds 3 ?_
  rw [rounds_succ]
  go_wp2
  rw [rounds_succ]
  go_wp2
  rw [rounds_succ]
  go_wp2
  go_ret
  exact ⟨rfl, hB⟩
set_option maxRecDepth 100000 in
set_option maxHeartbeats 4000000 in
theorem markText_34 (w : World) : Calls Try.prog 128 #[.int .i64 ((34 : Nat) : Int)] w fun e w' => e = .returned (.string (mkU 34)) ∧ Below w.heap.size w w' := by
  have hcv := conv_byte 52 52 rfl w
  have hcv2 := conv_byte2 51 51 rfl w (.cells #[.int .u8 52] 5)
  have hB := balloc (bnew w (.cells #[.int .u8 52] 5)) (.cells #[.int .u8 51] 5)
  go_enter Try.func128, Try.ntmps128
  go_wp2
  refine wp_loop_rounds 3 ?_
  rw [rounds_succ]
  go_wp2
  rw [rounds_succ]
  go_wp2
  rw [rounds_succ]
  go_wp2
  go_ret
  exact ⟨rfl, hB⟩
set_option maxRecDepth 100000 in
set_option maxHeartbeats 4000000 in
theorem markText_35 (w : World) : Calls Try.prog 128 #[.int .i64 ((35 : Nat) : Int)] w fun e w' => e = .returned (.string (mkU 35)) ∧ Below w.heap.size w w' := by
  have hcv := conv_byte 53 53 rfl w
  have hcv2 := conv_byte2 51 51 rfl w (.cells #[.int .u8 53] 5)
  have hB := balloc (bnew w (.cells #[.int .u8 53] 5)) (.cells #[.int .u8 51] 5)
  go_enter Try.func128, Try.ntmps128
  go_wp2
  refine wp_loop_rounds 3 ?_
  rw [rounds_succ]
  go_wp2
  rw [rounds_succ]
  go_wp2
  rw [rounds_succ]
  go_wp2
  go_ret
  exact ⟨rfl, hB⟩
set_option maxRecDepth 100000 in
set_option maxHeartbeats 4000000 in
theorem markText_36 (w : World) : Calls Try.prog 128 #[.int .i64 ((36 : Nat) : Int)] w fun e w' => e = .returned (.string (mkU 36)) ∧ Below w.heap.size w w' := by
  have hcv := conv_byte 54 54 rfl w
  have hcv2 := conv_byte2 51 51 rfl w (.cells #[.int .u8 54] 5)
  have hB := balloc (bnew w (.cells #[.int .u8 54] 5)) (.cells #[.int .u8 51] 5)
  go_enter Try.func128, Try.ntmps128
  go_wp2
  refine wp_loop_rounds 3 ?_
  rw [rounds_succ]
  go_wp2
  rw [rounds_succ]
  go_wp2
  rw [rounds_succ]
  go_wp2
  go_ret
  exact ⟨rfl, hB⟩
set_option maxRecDepth 100000 in
set_option maxHeartbeats 4000000 in
theorem markText_37 (w : World) : Calls Try.prog 128 #[.int .i64 ((37 : Nat) : Int)] w fun e w' => e = .returned (.string (mkU 37)) ∧ Below w.heap.size w w' := by
  have hcv := conv_byte 55 55 rfl w
  have hcv2 := conv_byte2 51 51 rfl w (.cells #[.int .u8 55] 5)
  have hB := balloc (bnew w (.cells #[.int .u8 55] 5)) (.cells #[.int .u8 51] 5)
  go_enter Try.func128, Try.ntmps128
  go_wp2
  refine wp_loop_rounds 3 ?_
  rw [rounds_succ]
  go_wp2
  rw [rounds_succ]
  go_wp2
  rw [rounds_succ]
  go_wp2
  go_ret
  exact ⟨rfl, hB⟩
set_option maxRecDepth 100000 in
set_option maxHeartbeats 4000000 in
theorem markText_38 (w : World) : Calls Try.prog 128 #[.int .i64 ((38 : Nat) : Int)] w fun e w' => e = .returned (.string (mkU 38)) ∧ Below w.heap.size w w' := by
  have hcv := conv_byte 56 56 rfl w
  have hcv2 := conv_byte2 51 51 rfl w (.cells #[.int .u8 56] 5)
  have hB := balloc (bnew w (.cells #[.int .u8 56] 5)) (.cells #[.int .u8 51] 5)
  go_enter Try.func128, Try.ntmps128
  go_wp2
  refine wp_loop_rounds 3 ?_
  rw [rounds_succ]
  go_wp2
  rw [rounds_succ]
  go_wp2
  rw [rounds_succ]
  go_wp2
  go_ret
  exact ⟨rfl, hB⟩
set_option maxRecDepth 100000 in
set_option maxHeartbeats 4000000 in
theorem markText_39 (w : World) : Calls Try.prog 128 #[.int .i64 ((39 : Nat) : Int)] w fun e w' => e = .returned (.string (mkU 39)) ∧ Below w.heap.size w w' := by
  have hcv := conv_byte 57 57 rfl w
  have hcv2 := conv_byte2 51 51 rfl w (.cells #[.int .u8 57] 5)
  have hB := balloc (bnew w (.cells #[.int .u8 57] 5)) (.cells #[.int .u8 51] 5)
  go_enter Try.func128, Try.ntmps128
  go_wp2
  refine wp_loop_rounds 3 ?_
  rw [rounds_succ]
  go_wp2
  rw [rounds_succ]
  go_wp2
  rw [rounds_succ]
  go_wp2
  go_ret
  exact ⟨rfl, hB⟩
set_option maxRecDepth 100000 in
set_option maxHeartbeats 4000000 in
theorem markText_40 (w : World) : Calls Try.prog 128 #[.int .i64 ((40 : Nat) : Int)] w fun e w' => e = .returned (.string (mkU 40)) ∧ Below w.heap.size w w' := by
  have hcv := conv_byte 48 48 rfl w
  have hcv2 := conv_byte2 52 52 rfl w (.cells #[.int .u8 48] 5)
  have hB := balloc (bnew w (.cells #[.int .u8 48] 5)) (.cells #[.int .u8 52] 5)
  go_enter Try.func128, Try.ntmps128
  go_wp2
  refine wp_loop_rounds 3 ?_
  rw [rounds_succ]
  go_wp2
  rw [rounds_succ]
  go_wp2
  rw [rounds_succ]
  go_wp2
  go_ret
  exact ⟨rfl, hB⟩
set_option maxRecDepth 100000 in
set_option maxHeartbeats 4000000 in
theorem markText_41 (w : World) : Calls Try.prog 128 #[.int .i64 ((41 : Nat) : Int)] w fun e w' => e = .returned (.string (mkU 41)) ∧ Below w.heap.size w w' := by
  have hcv := conv_byte 49 49 rfl w
  have hcv2 := conv_byte2 52 52 rfl w (.cells #[.int .u8 49] 5)
  have hB := balloc (bnew w (.cells #[.int .u8 49] 5)) (.cells #[.int .u8 52] 5)
  go_enter Try.func128, Try.ntmps128
  go_wp2
  refine wp_loop_rounds 3 ?_
  rw [rounds_succ]
  go_wp2
  rw [rounds_succ]
  go_wp2
  rw [rounds_succ]
  go_wp2
  go_ret
  exact ⟨rfl, hB⟩
set_option maxRecDepth 100000 in
set_option maxHeartbeats 4000000 in
theorem markText_42 (w : World) : Calls Try.prog 128 #[.int .i64 ((42 : Nat) : Int)] w fun e w' => e = .returned (.string (mkU 42)) ∧ Below w.heap.size w w' := by
  have hcv := conv_byte 50 50 rfl w
  have hcv2 := conv_byte2 52 52 rfl w (.cells #[.int .u8 50] 5)
  have hB := balloc (bnew w (.cells #[.int .u8 50] 5)) (.cells #[.int .u8 52] 5)
  go_enter Try.func128, Try.ntmps128
  go_wp2
  refine wp_loop_rounds 3 ?_
  rw [rounds_succ]
  go_wp2
  rw [rounds_succ]
  go_wp2
  rw [rounds_succ]
  go_wp2
  go_ret
  exact ⟨rfl, hB⟩
set_option maxRecDepth 100000 in
set_option maxHeartbeats 4000000 in
theorem markText_43 (w : World) : Calls Try.prog 128 #[.int .i64 ((43 : Nat) : Int)] w fun e w' => e = .returned (.string (mkU 43)) ∧ Below w.heap.size w w' := by
  have hcv := conv_byte 51 51 rfl w
  have hcv2 := conv_byte2 52 52 rfl w (.cells #[.int .u8 51] 5)
  have hB := balloc (bnew w (.cells #[.int .u8 51] 5)) (.cells #[.int .u8 52] 5)
  go_enter Try.func128, Try.ntmps128
  go_wp2
  refine wp_loop_rounds 3 ?_
  rw [rounds_succ]
  go_wp2
  rw [rounds_succ]
  go_wp2
  rw [rounds_succ]
  go_wp2
  go_ret
  exact ⟨rfl, hB⟩
set_option maxRecDepth 100000 in
set_option maxHeartbeats 4000000 in
theorem markText_44 (w : World) : Calls Try.prog 128 #[.int .i64 ((44 : Nat) : Int)] w fun e w' => e = .returned (.string (mkU 44)) ∧ Below w.heap.size w w' := by
  have hcv := conv_byte 52 52 rfl w
  have hcv2 := conv_byte2 52 52 rfl w (.cells #[.int .u8 52] 5)
  have hB := balloc (bnew w (.cells #[.int .u8 52] 5)) (.cells #[.int .u8 52] 5)
  go_enter Try.func128, Try.ntmps128
  go_wp2
  refine wp_loop_rounds 3 ?_
  rw [rounds_succ]
  go_wp2
  rw [rounds_succ]
  go_wp2
  rw [rounds_succ]
  go_wp2
  go_ret
  exact ⟨rfl, hB⟩
set_option maxRecDepth 100000 in
set_option maxHeartbeats 4000000 in
theorem markText_45 (w : World) : Calls Try.prog 128 #[.int .i64 ((45 : Nat) : Int)] w fun e w' => e = .returned (.string (mkU 45)) ∧ Below w.heap.size w w' := by
  have hcv := conv_byte 53 53 rfl w
  have hcv2 := conv_byte2 52 52 rfl w (.cells #[.int .u8 53] 5)
  have hB := balloc (bnew w (.cells #[.int .u8 53] 5)) (.cells #[.int .u8 52] 5)
  go_enter Try.func128, Try.ntmps128
  go_wp2
  refine wp_loop_rounds 3 ?_
  rw [rounds_succ]
  go_wp2
  rw [rounds_succ]
  go_wp2
  rw [rounds_succ]
  go_wp2
  go_ret
  exact ⟨rfl, hB⟩
set_option maxRecDepth 100000 in
set_option maxHeartbeats 4000000 in
theorem markText_46 (w : World) : Calls Try.prog 128 #[.int .i64 ((46 : Nat) : Int)] w fun e w' => e = .returned (.string (mkU 46)) ∧ Below w.heap.size w w' := by
  have hcv := conv_byte 54 54 rfl w
  have hcv2 := conv_byte2 52 52 rfl w (.cells #[.int .u8 54] 5)
  have hB := balloc (bnew w (.cells #[.int .u8 54] 5)) (.cells #[.int .u8 52] 5)
  go_enter Try.func128, Try.ntmps128
  go_wp2
  refine wp_loop_rounds 3 ?_
  rw [rounds_succ]
  go_wp2
  rw [rounds_succ]
  go_wp2
  rw [rounds_succ]
  go_wp2
  go_ret
  exact ⟨rfl, hB⟩
set_option maxRecDepth 100000 in
set_option maxHeartbeats 4000000 in
theorem markText_47 (w : World) : Calls Try.prog 128 #[.int .i64 ((47 : Nat) : Int)] w fun e w' => e = .returned (.string (mkU 47)) ∧ Below w.heap.size w w' := by
  have hcv := conv_byte 55 55 rfl w
  have hcv2 := conv_byte2 52 52 rfl w (.cells #[.int .u8 55] 5)
  have hB := balloc (bnew w (.cells #[.int .u8 55] 5)) (.cells #[.int .u8 52] 5)
  go_enter Try.func128, Try.ntmps128
  go_wp2
  refine wp_loop_rounds 3 ?_
  rw [rounds_succ]
  go_wp2
  rw [rounds_succ]
  go_wp2
  rw [rounds_succ]
  go_wp2
  go_ret
  exact ⟨rfl, hB⟩
set_option maxRecDepth 100000 in
set_option maxHeartbeats 4000000 in
theorem markText_48 (w : World) : Calls Try.prog 128 #[.int .i64 ((48 : Nat) : Int)] w fun e w' => e = .returned (.string (mkU 48)) ∧ Below w.heap.size w w' := by
  have hcv := conv_byte 56 56 rfl w
  have hcv2 := conv_byte2 52 52 rfl w (.cells #[.int .u8 56] 5)
  have hB := balloc (bnew w (.cells #[.int .u8 56] 5)) (.cells #[.int .u8 52] 5)
  go_enter Try.func128, Try.ntmps128
  go_wp2
  refine wp_loop_rounds 3 ?_
  rw [rounds_succ]
  go_wp2
  rw [rounds_succ]
  go_wp2
  rw [rounds_succ]
  go_wp2
  go_ret
  exact ⟨rfl, hB⟩
set_option maxRecDepth 100000 in
set_option maxHeartbeats 4000000 in
theorem markText_49 (w : World) : Calls Try.prog 128 #[.int .i64 ((49 : Nat) : Int)] w fun e w' => e = .returned (.string (mkU 49)) ∧ Below w.heap.size w w' := by
  have hcv := conv_byte 57 57 rfl w
  have hcv2 := conv_byte2 52 52 rfl w (.cells #[.int .u8 57] 5)
  have hB := balloc (bnew w (.cells #[.int .u8 57] 5)) (.cells #[.int .u8 52] 5)
  go_enter Try.func128, Try.ntmps128
  go_wp2
  refine wp_loop_rounds 3 ?_
  rw [rounds_succ]
  go_wp2
  rw [rounds_succ]
  go_wp2
  rw [rounds_succ]
  go_wp2
  go_ret
  exact ⟨rfl, hB⟩
set_option maxRecDepth 100000 in
set_option maxHeartbeats 4000000 in
theorem markText_50 (w : World) : Calls Try.prog 128 #[.int .i64 ((50 : Nat) : Int)] w fun e w' => e = .returned (.string (mkU 50)) ∧ Below w.heap.size w w' := by
  have hcv := conv_byte 48 48 rfl w
  have hcv2 := conv_byte2 53 53 rfl w (.cells #[.int .u8 48] 5)
  have hB := balloc (bnew w (.cells #[.int .u8 48] 5)) (.cells #[.int .u8 53] 5)
  go_enter Try.func128, Try.ntmps128
  go_wp2
  refine wp_loop_rounds 3 ?_
  rw [rounds_succ]
  go_wp2
  rw [rounds_succ]
  go_wp2
  rw [rounds_succ]
  go_wp2
  go_ret
  exact ⟨rfl, hB⟩
set_option maxRecDepth 100000 in
set_option maxHeartbeats 4000000 in
theorem markText_51 (w : World) : Calls Try.prog 128 #[.int .i64 ((51 : Nat) : Int)] w fun e w' => e = .returned (.string (mkU 51)) ∧ Below w.heap.size w w' := by
  have hcv := conv_byte 49 49 rfl w
  have hcv2 := conv_byte2 53 53 rfl w (.cells #[.int .u8 49] 5)
  have hB := balloc (bnew w (.cells #[.int .u8 49] 5)) (.cells #[.int .u8 53] 5)
  go_enter Try.func128, Try.ntmps128
  go_wp2
  refine wp_loop_rounds 3 ?_
  rw [rounds_succ]
  go_wp2
  rw [rounds_succ]
  go_wp2
  rw [rounds_succ]
  go_wp2
  go_ret
  exact ⟨rfl, hB⟩
set_option maxRecDepth 100000 in
set_option maxHeartbeats 4000000 in
theorem markText_52 (w : World) : Calls Try.prog 128 #[.int .i64 ((52 : Nat) : Int)] w fun e w' => e = .returned (.string (mkU 52)) ∧ Below w.heap.size w w' := by
  have hcv := conv_byte 50 50 rfl w
  have hcv2 := conv_byte2 53 53 rfl w (.cells #[.int .u8 50] 5)
  have hB := balloc (bnew w (.cells #[.int .u8 50] 5)) (.cells #[.int .u8 53] 5)
  go_enter Try.func128, Try.ntmps128
  go_wp2
  refine wp_loop_rounds 3 ?_
  rw [rounds_succ]
  go_wp2
  rw [rounds_succ]
  go_wp2
  rw [rounds_succ]
  go_wp2
  go_ret
  exact ⟨rfl, hB⟩
set_option maxRecDepth 100000 in
set_option maxHeartbeats 4000000 in
theorem markText_53 (w : World) : Calls Try.prog 128 #[.int .i64 ((53 : Nat) : Int)] w fun e w' => e = .returned (.string (mkU 53)) ∧ Below w.heap.size w w' := by
  have hcv := conv_byte 51 51 rfl w
  have hcv2 := conv_byte2 53 53 rfl w (.cells #[.int .u8 51] 5)
  have hB := balloc (bnew w (.cells #[.int .u8 51] 5)) (.cells #[.int .u8 53] 5)
  go_enter Try.func128, Try.ntmps128
  go_wp2
  refine wp_loop_rounds 3 ?_
  rw [rounds_succ]
  go_wp2
  rw [rounds_succ]
  go_wp2
  rw [rounds_succ]
  go_wp2
  go_ret
  exact ⟨rfl, hB⟩
set_option maxRecDepth 100000 in
set_option maxHeartbeats 4000000 in
theorem markText_54 (w : World) : Calls Try.prog 128 #[.int .i64 ((54 : Nat) : Int)] w fun e w' => e = .returned (.string (mkU 54)) ∧ Below w.heap.size w w' := by
  have hcv := conv_byte 52 52 rfl w
  have hcv2 := conv_byte2 53 53 rfl w (.cells #[.int .u8 52] 5)
  have hB := balloc (bnew w (.cells #[.int .u8 52] 5)) (.cells #[.int .u8 53] 5)
  go_enter Try.func128, Try.ntmps128
  go_wp2
  refine wp_loop_rounds 3 ?_
  rw [rounds_succ]
  go_wp2
  rw [rounds_succ]
  go_wp2
  rw [rounds_succ]
  go_wp2
  go_ret
  exact ⟨rfl, hB⟩
set_option maxRecDepth 100000 in
set_option maxHeartbeats 4000000 in
theorem markText_55 (w : World) : Calls Try.prog 128 #[.int .i64 ((55 : Nat) : Int)] w fun e w' => e = .returned (.string (mkU 55)) ∧ Below w.heap.size w w' := by
  have hcv := conv_byte 53 53 rfl w
  have hcv2 := conv_byte2 53 53 rfl w (.cells #[.int .u8 53] 5)
  have hB := balloc (bnew w (.cells #[.int .u8 53] 5)) (.cells #[.int .u8 53] 5)
  go_enter Try.func128, Try.ntmps128
  go_wp2
  refine wp_loop_rounds 3 ?_
  rw [rounds_succ]
  go_wp2
  rw [rounds_succ]
  go_wp2
  rw [rounds_succ]
  go_wp2
  go_ret
  exact ⟨rfl, hB⟩
theorem markText_any2 {k : Nat} (h0 : 1 ≤ k) (h9 : k ≤ 55) (w : World) : Calls Try.prog 128 #[.int .i64 (k : Int)] w fun e w' => e = .returned (.string (mkU k)) ∧ Below w.heap.size w w' := by
  by_cases h : k ≤ 9
  · rw [show mkU k = mkT k from if_pos (by omega)]
    exact markText_any h0 h w
  · rcases (show k = 10 ∨ k = 11 ∨ k = 12 ∨ k = 13 ∨ k = 14 ∨ k = 15 ∨ k = 16 ∨ k = 17 ∨ k = 18 ∨ k = 19 ∨ k = 20 ∨ k = 21 ∨ k = 22 ∨ k = 23 ∨ k = 24 ∨ k = 25 ∨ k = 26 ∨ k = 27 ∨ k = 28 ∨ k = 29 ∨ k = 30 ∨ k = 31 ∨ k = 32 ∨ k = 33 ∨ k = 34 ∨ k = 35 ∨ k = 36 ∨ k = 37 ∨ k = 38 ∨ k = 39 ∨ k = 40 ∨ k = 41 ∨ k = 42 ∨ k = 43 ∨ k = 44 ∨ k = 45 ∨ k = 46 ∨ k = 47 ∨ k = 48 ∨ k = 49 ∨ k = 50 ∨ k = 51 ∨ k = 52 ∨ k = 53 ∨ k = 54 ∨ k = 55 by omega) with rfl | rfl | rfl | rfl | rfl | rfl | rfl | rfl | rfl | rfl | rfl | rfl | rfl | rfl | rfl | rfl | rfl | rfl | rfl | rfl | rfl | rfl | rfl | rfl | rfl | rfl | rfl | rfl | rfl | rfl | rfl | rfl | rfl | rfl | rfl | rfl | rfl | rfl | rfl | rfl | rfl | rfl | rfl | rfl | rfl | rfl
    · exact markText_10 w
    · exact markText_11 w
    · exact markText_12 w
    · exact markText_13 w
    · exact markText_14 w
    · exact markText_15 w
    · exact markText_16 w
    · exact markText_17 w
    · exact markText_18 w
    · exact markText_19 w
    · exact markText_20 w
    · exact markText_21 w
    · exact markText_22 w
    · exact markText_23 w
    · exact markText_24 w
    · exact markText_25 w
    · exact markText_26 w
    · exact markText_27 w
    · exact markText_28 w
    · exact markText_29 w
    · exact markText_30 w
    · exact markText_31 w
    · exact markText_32 w
    · exact markText_33 w
    · exact markText_34 w
    · exact markText_35 w
    · exact markText_36 w
    · exact markText_37 w
    · exact markText_38 w
    · exact markText_39 w
    · exact markText_40 w
    · exact markText_41 w
    · exact markText_42 w
    · exact markText_43 w
    · exact markText_44 w
    · exact markText_45 w
    · exact markText_46 w
    · exact markText_47 w
    · exact markText_48 w
    · exact markText_49 w
    · exact markText_50 w
    · exact markText_51 w
    · exact markText_52 w
    · exact markText_53 w
    · exact markText_54 w
    · exact markText_55 w
/-- The marks 1, 2, ... -/
def mkV (n : Nat) : List ByteArray := (List.range n).map fun j => mkU (1 + j)
theorem mkV_len (n : Nat) : (mkV n).length = n := by simp [mkV]
theorem mkV_succ (n : Nat) : mkV (n + 1) = mkV n ++ [mkU (1 + n)] := by simp [mkV, List.range_succ]
theorem mkV_get {n j : Nat} (h : j < n) : (mkV n)[j]? = some (mkU (1 + j)) := by simp [mkV, h]
theorem markV_step (vs : List Value) (i : Nat) (hi : i < vs.length) : (strs (mkV i) ++ vs.drop i).set i (.string (mkU (1 + i))) = strs (mkV (i + 1)) ++ vs.drop (i + 1) := by
  have hl : (strs (mkV i)).length = i := by simp [strs, mkV_len]
  rw [List.set_append_right _ _ (by omega), hl, Nat.sub_self, mkV_succ, strs_snoc, List.drop_eq_getElem_cons hi, List.set_cons_zero]
  simp
set_option maxRecDepth 100000 in
set_option maxHeartbeats 4000000 in
theorem markV_any {base : Nat} {s : Value} {xs : List ByteArray} (hl : xs.length ≤ 54) (w : World) (h : OwnsS w base s xs) :
    Calls Try.prog 61 #[s, .int .i64 1] w fun e w' => e = .returned (.int .i64 ((1 + xs.length : Nat) : Int)) ∧ OwnsS w' base s (mkV xs.length) ∧ w.grownBy w' s.ownBlock := by
  rcases h.2 with ⟨rfl, h0⟩ | ⟨g, cap, cur, rfl, hbg, hg, _⟩
  · obtain rfl : xs = [] := List.eq_nil_of_length_eq_zero h0
    go_enter Try.func61, Try.ntmps61
    go_wp2
    refine wp_loop_rounds 1 ?_
    rw [rounds_succ]
    go_wp2
    go_ret
    exact ⟨rfl, h, World.grownBy.refl _ _⟩
  · have hn' : (strs xs).length = xs.length := by simp [strs]
    unfold OwnsS at h
    unfold OwnsS
    rw [mkV_len]
    generalize xs.length = n at hl hn' h ⊢
    generalize strs xs = vs at hn' h
    clear hg
    go_enter Try.func61, Try.ntmps61
    go_wp2
    go_loopw [1, 5] (fun q i' wr => ∃ i : Nat, i ≤ n ∧ i' = .int .i64 i ∧ q = .int .i64 ((1 + i : Nat) : Int) ∧ wr.ownsRow base 9 1 (.slice (some ⟨g, 0, none⟩) n cap) n (strs (mkV i) ++ vs.drop i) ∧ w.grownBy wr (some g)) (fun _ i' _ => n - (intOf i').toNat)
    case atStart => exact ⟨0, Nat.zero_le _, rfl, rfl, by simpa [mkV, strs] using h, World.grownBy.refl _ _⟩
    case round =>
      clear h
      obtain ⟨i, hi, rfl, rfl, ho, hgr⟩ := hrel
      by_cases hlt : i < n
      · obtain ⟨u, hu⟩ : ∃ u, wr.cell? ⟨g, i, none⟩ = some u := by
          rw [ho.cellAt i (by omega)]
          exact ⟨_, List.getElem?_eq_getElem (by simp [strs, mkV_len]; omega)⟩
        have hfz := ho.frozenAt i
        have HO := Lib.hid ho
        have HG := Lib.hid hgr
        have MT := Lib.hid (markText_any2 (k := 1 + i) (by omega) (by omega) wr)
        have hU := Lib.hid hu
        have hF := Lib.hid hfz
        have HV := Lib.hid hn'
        have hlt2 : decide ((i : Int) < (n : Int)) = true := by simp; omega
        clear ho hgr hu hfz hn'
        go_wp2_with (go_at_call 128; refine (MT.out).mono ?_; rintro e w3 ⟨rfl, hb3⟩
                     have hu3 := kc hb3 hU.out
                     have hf3 := kf hb3 hU.out hF.out
                     have ho3 := World.ownsRow.kept HO.out (gBelow hb3 none) (.inr (by intro e; cases e))
                     have hst := ho3.stored i (.string (mkU (1 + i)))
                     rw [markV_step vs i (by rw [HV.out]; exact hlt)] at hst
                     have HST := Lib.hid hst
                     have HG3 := Lib.hid (gtransS HG.out (gBelow hb3 (some g)))
                     clear hst ho3 hb3)
        go_roundw
        case rel => exact ⟨i + 1, by omega, by go_num, by go_num, HST.out.1, gtransS HG3.out HST.out.2⟩
        case measure => simp [intOf]; omega
      · obtain rfl : i = n := by omega
        have ho' := Lib.hid ho
        have hgr' := Lib.hid hgr
        have hd := Lib.hid (List.drop_of_length_le (l := vs) (i := i) (by omega))
        have hlt2 : decide ((i : Int) < (i : Int)) = false := by simp
        clear ho hgr hn'
        go_wp2
        go_ret
        exact ⟨rfl, by have := ho'.out; rw [hd.out, List.append_nil] at this; exact this, hgr'.out⟩
set_option maxRecDepth 100000 in
set_option maxHeartbeats 8000000 in
theorem heldV_any {base : Nat} {s : Value} {n : Nat} (hl : n ≤ 54) (w : World) (h : OwnsS w base s (mkV n)) :
    Calls Try.prog 62 #[s, .int .i64 1] w fun e w' => e = .returned (.int .i64 ((1 + n : Nat) : Int)) ∧ Below w.heap.size w w' := by
  obtain ⟨a, cap, rfl, hc⟩ := h.cellsS
  have hc2 : 0 < n → ∃ g, a = some ⟨g, 0, none⟩ ∧ ∀ j, j < n → w.cell? ⟨g, j, none⟩ = some (.string (mkU (1 + j))) := fun hp => by
    obtain ⟨g, e, _, _, hcc⟩ := hc (by rw [mkV_len]; exact hp)
    exact ⟨g, e, fun j hj => by rw [hcc j (by rw [mkV_len]; exact hj)]; simp [mkV]⟩
  have HC := Lib.hid hc2
  have e0 := mkV_len n
  clear hc h hc2
  rw [e0]
  clear e0
  go_enter Try.func62, Try.ntmps62
  go_wp2
  go_loopw [1, 5] (fun q i' wr => ∃ i : Nat, i ≤ n ∧ i' = .int .i64 i ∧ q = .int .i64 ((1 + i : Nat) : Int) ∧ Below w.heap.size w wr) (fun _ i' _ => n - (intOf i').toNat)
  case atStart => exact ⟨0, Nat.zero_le _, rfl, rfl, Below.refl _ _⟩
  case round =>
    obtain ⟨i, hi, rfl, rfl, hN⟩ := hrel
    by_cases hlt : i < n
    · obtain ⟨g, rfl, hcc⟩ := HC.out (by omega)
      have c0 := kc hN (hcc i hlt)
      have MT := Lib.hid (fun w => markText_any2 (k := 1 + i) (by omega) (by omega) w)
      obtain ⟨t, ht⟩ : ∃ t, mkU (1 + i) = t := ⟨_, rfl⟩
      rw [ht] at c0 MT
      have hq : (t.toList == t.toList) = true := beq_self_eq_true _
      have hlt2 : decide ((i : Int) < (n : Int)) = true := by simp; omega
      have HN := Lib.hid hN
      clear hcc ht hN
      go_wp2_with fail
      go_region_held3 (fun w' => w'.cell? ⟨g, i, none⟩ = some (.string t)) (first | exact c0 | exact d0)
        (first
          | (go_at_call 128; refine (MT.out _).mono ?_; rintro e w' ⟨rfl, hb1⟩; have d0 := kcd hb1 c0))
      go_wp2
      go_roundw
      case rel => exact ⟨i + 1, by omega, by go_num, by go_num, bthen HN.out.drew hb1⟩
      case measure => simp [intOf]; omega
    · obtain rfl : i = n := by omega
      have hlt2 : decide ((i : Int) < (i : Int)) = false := by simp
      go_wp2
      go_ret
      exact ⟨rfl, hN⟩
end Go.Proofs.Ytdgpjpcdifpllaa

/- LN1:
  The walk of the law on CloneNames, over any list of at most 54 texts that both packages hand out. -/
namespace Go.Proofs.Ytdgpjpcdifpllaa
open Go.RowKit
set_option linter.unusedVariables false
set_option linter.unusedSimpArgs false
theorem OwnsS.other {W W' : World} {b1 b2 : Nat} {s1 s2 : Value} {xs ys : List ByteArray} (h : OwnsS W b1 s1 xs) (hg : W.grownBy W' s2.ownBlock) (h2 : OwnsS W b2 s2 ys) (hlt : ∀ k, s1.ownBlock = some k → k < b2) : OwnsS W' b1 s1 xs := by
  refine World.ownsRow.kept h hg ?_
  cases hs : s1.ownBlock with
  | none => exact .inl rfl
  | some k =>
    refine .inr ?_
    intro he
    have h3 := hlt k hs
    have h4 := (World.ownsRow.lt h2 k he.symm).1
    omega
theorem OwnsS.ltS {W : World} {b : Nat} {s : Value} {xs : List ByteArray} (h : OwnsS W b s xs) : ∀ k, s.ownBlock = some k → k < W.heap.size := fun k hk => (World.ownsRow.lt h k hk).2
theorem below_markedS {B : Nat} {W0 W W' : World} {b : Nat} {s : Value} {xs : List ByteArray} (hN : Below B W0 W) (h : OwnsS W b s xs) (hg : W.grownBy W' s.ownBlock) (hB : B ≤ b) (hs : B ≤ W.heap.size) : Below B W0 W' :=
  hN.grown hg hs (fun j e => Nat.le_trans hB (World.ownsRow.lt h j e).1)

set_option maxRecDepth 100000 in
set_option maxHeartbeats 4000000 in
theorem cloneNames_walk (xs : List ByteArray) (hl : xs.length ≤ 54)
    (c1 : ∀ w, Calls Try.prog 58 #[] w fun e w' => ∃ v, e = .returned v ∧ OwnsS w' w.heap.size v xs ∧ Below w.heap.size w w')
    (c2 : ∀ w, Calls Try.prog 59 #[] w fun e w' => ∃ v, e = .returned v ∧ OwnsS w' w.heap.size v xs ∧ Below w.heap.size w w') (w : World) :
    Calls Try.prog 8 #[] w fun e w' => e = .returned (.bool true) ∧ Below w.heap.size w w' := by
  have C1 := Lib.hid c1
  have C2 := Lib.hid c2
  clear c1 c2
  go_enter Try.func8, Try.ntmps8
  go_wp2_with fail
  -- the model
  refine (C1.out _).mono ?_
  rintro e w3 ⟨s0, rfl, o0, hb⟩
  have hN3 := hb
  have O0 := Lib.hid o0
  clear hb o0
  go_wp2_with fail
  -- the program
  refine (C2.out _).mono ?_
  rintro e w5 ⟨s1, rfl, o1, hb⟩
  have hN5 := bthen hN3 hb
  have lt0 := Lib.hid O0.out.ltS
  replace O0 := Lib.hid (O0.out.below hb)
  have hs4 := hN3.size
  have O1 := Lib.hid o1
  clear hb hN3 o1
  go_wp2_with fail
  refine (eqStringS_same (by omega) _ O1.out O0.out).mono ?_
  rintro e w6 ⟨rfl, hb⟩
  have hN6 := bthen hN5 hb
  replace O0 := Lib.hid (O0.out.below hb)
  replace O1 := Lib.hid (O1.out.below hb)
  clear hb hN5
  go_wp2_with fail
  -- the marks
  refine (markV_any hl _ O1.out).mono ?_
  rintro e w7 ⟨rfl, o1, hg⟩
  have hN7 := below_markedS hN6 O1.out hg hs4 hN6.size
  replace O0 := Lib.hid (O0.out.other hg O1.out lt0.out)
  have M1 := Lib.hid o1
  clear O1 o1 hg hN6
  go_wp2_with fail
  refine (heldV_any hl _ M1.out).mono ?_
  rintro e w8 ⟨rfl, hb⟩
  have hN8 := bthen hN7 hb
  replace O0 := Lib.hid (O0.out.below hb)
  replace M1 := Lib.hid (M1.out.below hb)
  clear hb hN7
  have hp0 : decide (((1 + xs.length : Nat) : Int) < 0) = false := by simp; omega
  go_wp2_with fail
  -- the program once more
  refine (C2.out _).mono ?_
  rintro e w10 ⟨s2, rfl, o2, hb⟩
  have hN10 := bthen hN8 hb
  replace O0 := Lib.hid (O0.out.below hb)
  replace M1 := Lib.hid (M1.out.below hb)
  have O2 := Lib.hid o2
  clear hb hN8 o2
  go_wp2_with fail
  refine (eqStringS_same (by omega) _ O2.out O0.out).mono ?_
  rintro e w11 ⟨rfl, hb⟩
  have hN11 := bthen hN10 hb
  replace M1 := Lib.hid (M1.out.below hb)
  clear hb hN10
  go_wp2_with fail
  refine (heldV_any hl _ M1.out).mono ?_
  rintro e w12 ⟨rfl, hb⟩
  have hN12 := bthen hN11 hb
  clear hb hN11
  go_wp2
  go_ret
  exact ⟨rfl, hN12⟩
end Go.Proofs.Ytdgpjpcdifpllaa

/- FCloneNames:
  The walk of the law on CloneNames: both packages hand out the same texts, each in memory of its own. -/
namespace Go.Proofs.Ytdgpjpcdifpllaa
open Go.RowKit
theorem fnExactCloneNames_walk (w : World) : Calls Try.prog 8 #[] w fun e w' => e = .returned (.bool true) ∧ Below w.heap.size w w' :=
  cloneNames_walk srtB (by rw [srtB_len]; exact Nat.le_refl _) specCloneNames_any implCloneNames w
end Go.Proofs.Ytdgpjpcdifpllaa
