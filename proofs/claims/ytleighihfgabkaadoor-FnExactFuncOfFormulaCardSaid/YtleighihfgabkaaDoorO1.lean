/-
  Formulas as trees, their texts, and the reading of a text.
-/
namespace Go.Proofs.YtleighihfgabkaaDoor

/-- How many places a byte has; none for a byte that is neither a gate nor a leaf. -/
def plc (c : UInt8) : Option Nat :=
  if c = 97 ∨ c = 98 ∨ c = 99 ∨ c = 100 ∨ c = 48 ∨ c = 49 then some 0 else if c = 33 then some 1 else if c = 38 ∨ c = 124 ∨ c = 94 then some 2 else if c = 63 ∨ c = 77 then some 3 else none
/-- Formulas. -/
inductive Fm where
  | leaf (c : UInt8)
  | one (c : UInt8) (a : Fm)
  | two (c : UInt8) (a b : Fm)
  | three (c : UInt8) (a b d : Fm)
def Fm.txt : Fm → List UInt8
  | .leaf c => [c]
  | .one c a => c :: a.txt
  | .two c a b => c :: (a.txt ++ b.txt)
  | .three c a b d => c :: (a.txt ++ (b.txt ++ d.txt))
/-- Every gate has as many formulas as it has places. -/
def Fm.wf : Fm → Prop
  | .leaf c => plc c = some 0
  | .one c a => plc c = some 1 ∧ a.wf
  | .two c a b => plc c = some 2 ∧ a.wf ∧ b.wf
  | .three c a b d => plc c = some 3 ∧ a.wf ∧ b.wf ∧ d.wf
theorem Fm.txt_pos (f : Fm) : 0 < f.txt.length := by cases f <;> simp [Fm.txt]
/-- The first formula of a text, and what is left. -/
def prs : Nat → List UInt8 → Option (Fm × List UInt8)
  | 0, _ => none
  | _ + 1, [] => none
  | n + 1, c :: l => match plc c with
    | some 0 => some (.leaf c, l)
    | some 1 => (prs n l).map fun p => (.one c p.1, p.2)
    | some 2 => (prs n l).bind fun p => (prs n p.2).map fun q => (.two c p.1 q.1, q.2)
    | some 3 => (prs n l).bind fun p => (prs n p.2).bind fun q => (prs n q.2).map fun r => (.three c p.1 q.1 r.1, r.2)
    | _ => none
theorem prs_sound : ∀ (n : Nat) (l : List UInt8) (f : Fm) (k : List UInt8), prs n l = some (f, k) → l = f.txt ++ k ∧ f.wf := by
  intro n
  induction n with
  | zero => intro l f k h; simp [prs] at h
  | succ n ih =>
    intro l f k h
    cases l with
    | nil => simp [prs] at h
    | cons c l =>
      simp only [prs] at h
      split at h
      · rename_i hc
        simp only [Option.some.injEq, Prod.mk.injEq] at h
        obtain ⟨rfl, rfl⟩ := h
        exact ⟨rfl, hc⟩
      · rename_i hc
        cases h1 : prs n l with
        | none => rw [h1] at h; simp at h
        | some p =>
          obtain ⟨a, l1⟩ := p
          rw [h1] at h
          simp only [Option.map_some, Option.some.injEq, Prod.mk.injEq] at h
          obtain ⟨rfl, rfl⟩ := h
          obtain ⟨e, w⟩ := ih l a l1 h1
          exact ⟨by rw [e]; rfl, hc, w⟩
      · rename_i hc
        cases h1 : prs n l with
        | none => rw [h1] at h; simp at h
        | some p =>
          obtain ⟨a, l1⟩ := p
          rw [h1] at h
          simp only [Option.bind_some] at h
          cases h2 : prs n l1 with
          | none => rw [h2] at h; simp at h
          | some q =>
            obtain ⟨b, l2⟩ := q
            rw [h2] at h
            simp only [Option.map_some, Option.some.injEq, Prod.mk.injEq] at h
            obtain ⟨rfl, rfl⟩ := h
            obtain ⟨e, w⟩ := ih l a l1 h1
            obtain ⟨e2, w2⟩ := ih l1 b l2 h2
            exact ⟨by rw [e, e2]; simp [Fm.txt], hc, w, w2⟩
      · rename_i hc
        cases h1 : prs n l with
        | none => rw [h1] at h; simp at h
        | some p =>
          obtain ⟨a, l1⟩ := p
          rw [h1] at h
          simp only [Option.bind_some] at h
          cases h2 : prs n l1 with
          | none => rw [h2] at h; simp at h
          | some q =>
            obtain ⟨b, l2⟩ := q
            rw [h2] at h
            simp only [Option.bind_some] at h
            cases h3 : prs n l2 with
            | none => rw [h3] at h; simp at h
            | some r =>
              obtain ⟨d, l3⟩ := r
              rw [h3] at h
              simp only [Option.map_some, Option.some.injEq, Prod.mk.injEq] at h
              obtain ⟨rfl, rfl⟩ := h
              obtain ⟨e, w⟩ := ih l a l1 h1
              obtain ⟨e2, w2⟩ := ih l1 b l2 h2
              obtain ⟨e3, w3⟩ := ih l2 d l3 h3
              exact ⟨by rw [e, e2, e3]; simp [Fm.txt], hc, w, w2, w3⟩
      · simp at h
theorem prs_full : ∀ (f : Fm), f.wf → ∀ (n : Nat) (k : List UInt8), f.txt.length ≤ n → prs n (f.txt ++ k) = some (f, k) := by
  intro f
  induction f with
  | leaf c =>
    intro h n k hn
    obtain ⟨n, rfl⟩ : ∃ n', n = n' + 1 := ⟨n - 1, by simp [Fm.txt] at hn; omega⟩
    simp only [Fm.wf] at h
    simp [Fm.txt, prs, h]
  | one c a iha =>
    intro h n k hn
    simp only [Fm.txt, List.length_cons] at hn
    obtain ⟨n, rfl⟩ : ∃ n', n = n' + 1 := ⟨n - 1, by omega⟩
    obtain ⟨hc, ha⟩ := h
    simp [Fm.txt, prs, hc, iha ha n k (by omega)]
  | two c a b iha ihb =>
    intro h n k hn
    simp only [Fm.txt, List.length_cons, List.length_append] at hn
    obtain ⟨n, rfl⟩ : ∃ n', n = n' + 1 := ⟨n - 1, by omega⟩
    obtain ⟨hc, ha, hb⟩ := h
    simp [Fm.txt, prs, hc, iha ha n (b.txt ++ k) (by omega), ihb hb n k (by omega)]
  | three c a b d iha ihb ihd =>
    intro h n k hn
    simp only [Fm.txt, List.length_cons, List.length_append] at hn
    obtain ⟨n, rfl⟩ : ∃ n', n = n' + 1 := ⟨n - 1, by omega⟩
    obtain ⟨hc, ha, hb, hd⟩ := h
    simp [Fm.txt, prs, hc, iha ha n (b.txt ++ (d.txt ++ k)) (by omega), ihb hb n (d.txt ++ k) (by omega), ihd hd n k (by omega)]
/-- The first formula of a text. -/
def rdF (l : List UInt8) : Option (Fm × List UInt8) := prs l.length l
theorem rdF_some {l : List UInt8} {f : Fm} {k : List UInt8} : rdF l = some (f, k) ↔ l = f.txt ++ k ∧ f.wf := by
  constructor
  · exact prs_sound _ _ _ _
  · rintro ⟨rfl, w⟩
    exact prs_full f w _ k (by simp)
theorem rdF_none {l : List UInt8} : rdF l = none ↔ ∀ (f : Fm) (k : List UInt8), l = f.txt ++ k → ¬ f.wf := by
  constructor
  · intro h f k e w
    rw [rdF_some.2 ⟨e, w⟩] at h
    cases h
  · intro h
    cases e : rdF l with
    | none => rfl
    | some p => exact absurd (rdF_some.1 e).2 (h _ _ (rdF_some.1 e).1)
/-- A fact about reading, a byte at a time. -/
theorem rdF_nil : rdF [] = none := rfl
theorem rdF_zero {c : UInt8} (h : plc c = some 0) (l : List UInt8) : rdF (c :: l) = some (.leaf c, l) := rdF_some.2 ⟨rfl, h⟩
theorem rdF_bad {c : UInt8} (h : plc c = none) (l : List UInt8) : rdF (c :: l) = none := by simp [rdF, prs, h]
theorem rdF_one {c : UInt8} (h : plc c = some 1) (l : List UInt8) : rdF (c :: l) = (rdF l).map fun p => (.one c p.1, p.2) := by
  cases e : rdF l with
  | none =>
    rw [Option.map_none, rdF_none]
    intro f k e2 w
    cases f <;> simp only [Fm.txt, Fm.wf, List.cons_append, List.cons.injEq] at e2 w
    all_goals obtain ⟨rfl, e2⟩ := e2
    all_goals simp [h] at w
    exact rdF_none.1 e _ k e2 w
  | some p =>
    obtain ⟨a, l1⟩ := p
    obtain ⟨rfl, w⟩ := rdF_some.1 e
    exact rdF_some.2 ⟨rfl, h, w⟩
theorem rdF_two {c : UInt8} (h : plc c = some 2) (l : List UInt8) : rdF (c :: l) = (rdF l).bind fun p => (rdF p.2).map fun q => (.two c p.1 q.1, q.2) := by
  cases e : rdF l with
  | none =>
    rw [Option.bind_none, rdF_none]
    intro f k e2 w
    cases f <;> simp only [Fm.txt, Fm.wf, List.cons_append, List.cons.injEq, List.append_assoc] at e2 w
    all_goals obtain ⟨rfl, e2⟩ := e2
    all_goals simp [h] at w
    exact rdF_none.1 e _ _ e2 w.1
  | some p =>
    obtain ⟨a, l1⟩ := p
    obtain ⟨rfl, wa⟩ := rdF_some.1 e
    rw [Option.bind_some]
    cases e3 : rdF l1 with
    | none =>
      rw [Option.map_none, rdF_none]
      intro f k e2 w
      cases f <;> simp only [Fm.txt, Fm.wf, List.cons_append, List.cons.injEq, List.append_assoc] at e2 w
      all_goals obtain ⟨rfl, e2⟩ := e2
      all_goals simp [h] at w
      have h1 := rdF_some.2 ⟨e2, w.1⟩
      rw [h1] at e
      cases e
      exact rdF_none.1 e3 _ _ rfl w.2
    | some q =>
      obtain ⟨b, l2⟩ := q
      obtain ⟨rfl, wb⟩ := rdF_some.1 e3
      exact rdF_some.2 ⟨by simp [Fm.txt], h, wa, wb⟩
theorem rdF_three {c : UInt8} (h : plc c = some 3) (l : List UInt8) : rdF (c :: l) = (rdF l).bind fun p => (rdF p.2).bind fun q => (rdF q.2).map fun r => (.three c p.1 q.1 r.1, r.2) := by
  cases e : rdF l with
  | none =>
    rw [Option.bind_none, rdF_none]
    intro f k e2 w
    cases f <;> simp only [Fm.txt, Fm.wf, List.cons_append, List.cons.injEq, List.append_assoc] at e2 w
    all_goals obtain ⟨rfl, e2⟩ := e2
    all_goals simp [h] at w
    exact rdF_none.1 e _ _ e2 w.1
  | some p =>
    obtain ⟨a, l1⟩ := p
    obtain ⟨rfl, wa⟩ := rdF_some.1 e
    rw [Option.bind_some]
    cases e3 : rdF l1 with
    | none =>
      rw [Option.bind_none, rdF_none]
      intro f k e2 w
      cases f <;> simp only [Fm.txt, Fm.wf, List.cons_append, List.cons.injEq, List.append_assoc] at e2 w
      all_goals obtain ⟨rfl, e2⟩ := e2
      all_goals simp [h] at w
      have h1 := rdF_some.2 ⟨e2, w.1⟩
      rw [h1] at e
      cases e
      exact rdF_none.1 e3 _ _ rfl w.2.1
    | some q =>
      obtain ⟨b, l2⟩ := q
      obtain ⟨rfl, wb⟩ := rdF_some.1 e3
      rw [Option.bind_some]
      cases e4 : rdF l2 with
      | none =>
        rw [Option.map_none, rdF_none]
        intro f k e2 w
        cases f <;> simp only [Fm.txt, Fm.wf, List.cons_append, List.cons.injEq, List.append_assoc] at e2 w
        all_goals obtain ⟨rfl, e2⟩ := e2
        all_goals simp [h] at w
        have h1 := rdF_some.2 ⟨e2, w.1⟩
        rw [h1] at e
        have e5 := (Prod.mk.inj (Option.some.inj e)).2
        have h2 := rdF_some.2 ⟨e5.symm, w.2.1⟩
        rw [h2] at e3
        have e6 := (Prod.mk.inj (Option.some.inj e3)).2
        exact rdF_none.1 e4 _ _ e6.symm w.2.2
      | some r =>
        obtain ⟨d, l3⟩ := r
        obtain ⟨rfl, wd⟩ := rdF_some.1 e4
        exact rdF_some.2 ⟨by simp [Fm.txt], h, wa, wb, wd⟩
end Go.Proofs.YtleighihfgabkaaDoor
