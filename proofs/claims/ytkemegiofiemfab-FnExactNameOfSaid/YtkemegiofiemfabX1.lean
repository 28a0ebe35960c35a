/-
  The map of names by functions: what it holds while it is filled.
-/
import Derived.Test.YtkemegiofiemfabW4
import Derived.Maps.RangeWalk
import Derived.Maps.StringElems
import Derived.DeepKeys5
namespace Go.Proofs.Ytkemegiofiemfab
open Go.RowKit
open Go.Maps (Keyed IsMap)
set_option linter.unusedVariables false
set_option linter.unusedSimpArgs false

theorem lawN : Keyed Try.prog 26 :=
  Keyed.of_law (deep_law_gate (by kernel_rfl) (of_decide_eq_true (by kernel_rfl)) (of_decide_eq_true (by kernel_rfl)) (by kernel_rfl) (by kernel_rfl))

/-- What a function reads as, as a key. -/
def kn (p : Int × Int) : Lit := .string (keyBytes [.int .i64 p.1, .int .i64 p.2])
theorem kn_isKey (p : Int × Int) : WideAt.IsKeyLit (kn p) := trivial
def wfP (p : Int × Int) : Prop := (Lit.int .i64 p.1).wf = true ∧ (Lit.int .i64 p.2).wf = true

theorem wfP.key {p : Int × Int} (h : wfP p) : keyOf Try.prog 26 (.agg #[.int .i64 p.1, .int .i64 p.2]) = some (kn p) := by
  obtain ⟨h1, h2⟩ := h
  have k1 : Try.prog.keyType 26 = true := by kernel_rfl
  have c1 : Try.prog.cellsOf 26 = 2 := by kernel_rfl
  have c2 : Try.prog.cellsOf 2 = 1 := by kernel_rfl
  have hd : decide (Try.prog.types.size ≠ 0) = true := by kernel_rfl
  obtain ⟨m, hm⟩ : ∃ m, Try.prog.types.size = m + 1 := Nat.exists_eq_succ_of_ne_zero (of_decide_eq_true hd)
  have f1 : (Value.agg #[.int .i64 p.1, .int .i64 p.2]).formed Try.prog 26 = true := by
    simp [Value.formed, Try.underlying26, c1]
  have e1 : Try.prog.keyLits (Try.prog.types.size + 1) 26 [.int .i64 p.1, .int .i64 p.2] = some [.int .i64 p.1, .int .i64 p.2] := by
    rw [hm]
    simp [Program.keyLits, Try.underlying26, Try.underlying2, c1, c2, h1, h2]
  unfold keyOf
  rw [Try.underlying26]
  simp only [k1, f1, Bool.and_self, if_true]
  rw [show (Value.agg #[.int .i64 p.1, .int .i64 p.2]).cells.toList = [.int .i64 p.1, .int .i64 p.2] from rfl, e1]
  rfl
theorem kn_ne {p q : Int × Int} (hp : wfP p) (hq : wfP q) (h : p ≠ q) : kn p ≠ kn q := by
  intro e
  have h1 := hp.key
  have h2 := hq.key
  rw [← e] at h2
  have := lawN.inj h1 h2
  simp at this
  exact h (Prod.ext this.1 this.2)

theorem nmL_wf : ∀ e ∈ nmL, wfP e.2 := by
  unfold wfP
  decide +kernel
theorem nmL_apart2 : ∀ e ∈ nmL, ∀ f ∈ nmL, e.2 = f.2 → e = f := by decide +kernel
theorem nmL_apart1 : ∀ e ∈ nmL, ∀ f ∈ nmL, e.1 = f.1 → e = f := by decide +kernel

theorem find_only {α : Type} {l : List α} {P : α → Bool} {e : α} (he : e ∈ l) (hp : P e = true) (ho : ∀ f ∈ l, P f = true → f = e) : l.find? P = some e := by
  cases h : l.find? P with
  | none => exact absurd hp (List.find?_eq_none.1 h e he)
  | some f => rw [ho f (List.mem_of_find?_eq_some h) (List.find?_some h)]

theorem any_like {α : Type} {P Q : α → Bool} : ∀ {l : List α}, (∀ x ∈ l, P x = Q x) → l.any P = l.any Q
  | [], _ => rfl
  | a :: l, h => by rw [List.any_cons, List.any_cons, h a (List.mem_cons_self ..), any_like fun x hx => h x (List.mem_cons_of_mem _ hx)]

/-- The entries that have been turned round. -/
def doneN (left : Lit → Bool) (p : Int × Int) (e : List UInt8 × Int × Int) : Bool := e.2 == p && !left (.string e.1)
/-- The map holds the functions of the entries that are no longer to come. -/
def NInv (D : DV) (left : Lit → Bool) : Prop :=
  IsMap D ∧ ∀ p, wfP p → Maps.has D (kn p) = nmL.any (doneN left p) ∧ ∀ z, D.atKey (kn p) z = match nmL.find? (doneN left p) with | some e => .lit (.string e.1) | none => z

theorem NInv.start : NInv (.map []) (Maps.has (putNm (.map []) nmL)) := by
  refine ⟨Maps.isMap_empty, fun p _ => ?_⟩
  have h : ∀ e ∈ nmL, ¬ doneN (Maps.has (putNm (.map []) nmL)) p e = true := by
    intro e he
    unfold doneN
    rw [has_putNm ⟨_, rfl⟩, List.any_eq_true.2 ⟨e, he, by simp⟩]
    simp
  refine ⟨?_, fun z => ?_⟩
  · rw [List.any_eq_false.2 h]; rfl
  · rw [List.find?_eq_none.2 h]; rfl

theorem NInv.step {D : DV} {left : Lit → Bool} (h : NInv D left) {e : List UInt8 × Int × Int} (he : e ∈ nmL) :
    NInv (D.put (kn e.2) (.lit (.string e.1))) (fun z => left z && !z.sameKey (.string e.1)) := by
  obtain ⟨h1, h2⟩ := h
  have hsame : doneN (fun z => left z && !z.sameKey (.string e.1)) e.2 e = true := by
    show (e.2 == e.2 && !(left (.string e.1) && !(Lit.string e.1).sameKey (.string e.1))) = true
    rw [WideAt.sameKey_self (show WideAt.IsKeyLit (Lit.string e.1) from trivial)]
    simp
  refine ⟨h1.put _ _, fun p hp => ?_⟩
  by_cases hpe : p = e.2
  · subst hpe
    refine ⟨?_, fun z => ?_⟩
    · rw [Maps.has_put_same h1 (kn_isKey _), List.any_eq_true.2 ⟨e, he, hsame⟩]
    · rw [Maps.atKey_put_same h1 (kn_isKey _), find_only he hsame (fun f hf hpf => by
        unfold doneN at hpf
        simp at hpf
        exact nmL_apart2 f hf e he hpf.1)]
  · have hk := kn_ne hp (nmL_wf e he) hpe
    have heq : ∀ f ∈ nmL, doneN (fun z => left z && !z.sameKey (.string e.1)) p f = doneN left p f := by
      intro f hf
      unfold doneN
      by_cases hfp : f.2 = p
      · have hne : f.1 ≠ e.1 := fun c => hpe (by rw [← hfp, nmL_apart1 f hf e he c])
        show (f.2 == p && !(left (.string f.1) && !(Lit.string f.1).sameKey (.string e.1))) = (f.2 == p && !left (.string f.1))
        rw [Maps.sameKey_ne (a := .string f.1) (b := .string e.1) (fun c => hne (by injection c))]
        simp
      · have : (f.2 == p) = false := by simp [hfp]
        rw [this]
        rfl
    obtain ⟨g1, g2⟩ := h2 p hp
    refine ⟨?_, fun z => ?_⟩
    · rw [Maps.has_put_other hk, g1]
      exact (any_like heq).symm
    · rw [Maps.atKey_put_other hk, g2 z, Lib.find_congr heq]
end Go.Proofs.Ytkemegiofiemfab
